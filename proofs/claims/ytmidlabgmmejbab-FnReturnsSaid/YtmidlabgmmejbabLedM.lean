/- LeadCounts in the model. -/
import Derived.Test.YtmidlabgmmejbabCouI
import Derived.Test.YtmidlabgmmejbabLawI
namespace Go.Proofs.Ytmidlabgmmejbab
open Go.RowKit
set_option linter.unusedVariables false

set_option maxRecDepth 100000 in
set_option maxHeartbeats 2000000 in
theorem evenS (m : Int) (w : World) : Calls Try.prog 92 #[.int .i64 m] w (QR (.bool (okE m)) w) := by
  have F := Lib.hid (fun w => inS m 0 30 w)
  by_cases h1 : 0 ≤ m ∧ m ≤ 30
  · rw [decide_eq_true h1] at F
    obtain ⟨a, b⟩ := h1
    have T : Int.tmod m 2 = m % 2 := Int.tmod_eq_emod_of_nonneg a
    by_cases h2 : m % 2 = 0
    · rw [show okE m = true from decide_eq_true ⟨⟨a, b⟩, h2⟩]
      go_enter Try.func92, Try.ntmps92
      go_wp2_with fail
      refine (F.out _).mono ?_
      rintro e w1 ⟨rfl, rfl⟩
      go_wp2_with fail
      go_ret
      exact ⟨by first | rfl | simp [h2] | (rw [T]; simp [h2]), rfl⟩
    · rw [show okE m = false from decide_eq_false (fun h => h2 h.2)]
      go_enter Try.func92, Try.ntmps92
      go_wp2_with fail
      refine (F.out _).mono ?_
      rintro e w1 ⟨rfl, rfl⟩
      go_wp2_with fail
      go_ret
      exact ⟨by first | rfl | simp [h2] | (rw [T]; simp [h2]), rfl⟩
  · rw [decide_eq_false h1] at F
    rw [show okE m = false from decide_eq_false (fun h => h1 h.1)]
    clear h1
    go_enter Try.func92, Try.ntmps92
    go_wp2_with fail
    refine (F.out _).mono ?_
    rintro e w1 ⟨rfl, rfl⟩
    go_wp2_with fail
    go_ret
    exact ⟨rfl, rfl⟩

set_option maxRecDepth 100000 in
set_option maxHeartbeats 2000000 in
theorem ledS (m : Int) (w : World) : Calls Try.prog 45 #[.int .i64 m] w (NewIntsB (ifE m ldL) (okE m) w) := by
  have E := Lib.hid (fun w => evenS m w)
  have O0 := Lib.hid (OwnV.empty w w.heap.size (Nat.le_refl _))
  have B0 := Lib.hid ((Below.refl w.heap.size w).alloc (Nat.le_refl _) (.cells #[] 3))
  cases hk : okE m
  · have e1 : ifE m ldL = [] := by unfold ifE; rw [hk]; rfl
    rw [e1]
    rw [hk] at E
    clear hk e1
    go_enter Try.func45, Try.ntmps45
    go_wp2_with fail
    refine (E.out _).mono ?_
    rintro e w1 ⟨rfl, rfl⟩
    go_wp2_with fail
    go_ret2
    exact newInts_empty (Below.refl _ _)
  · rw [hk] at E
    have e1 : ifE m ldL = ldL (m.toNat / 2) := by unfold ifE; rw [hk]; rfl
    rw [e1]
    obtain ⟨K, k, rfl, hK, h15⟩ := okE_mk hk
    rw [show ((K : Int)).toNat / 2 = k by omega]
    have W1 := Lib.hid (fun r (hr : r ≤ k) w => pathS (2 * r) 0 w (by omega))
    have W2 := Lib.hid (fun r (hr : r ≤ k) w => pathS (2 * k - 2 * r) 0 w (by omega))
    have BD := Lib.hid (fun r (hr : r ≤ k) => ldF_bd h15 hr)
    have PS := Lib.hid (fun r => pre_succ (ldF k) r)
    have FP := Lib.hid (fun r => show ldF k r = wkI (2 * r) 0 * wkI (2 * k - 2 * r) 0 from rfl)
    have PL := Lib.hid (fun r => pre_len (ldF k) r)
    have PZ := Lib.hid (show preL (ldF k) 0 = [] from rfl)
    have FA := Lib.hid (show ldL k = preL (ldF k) (k + 1) from fill_pre _ _)
    rw [FA.out]
    obtain ⟨V, hV⟩ : ∃ V : Nat → Int, V = ldF k := ⟨_, rfl⟩
    rw [← hV] at BD PS FP PL PZ ⊢
    have k1 : K ≤ 2 * k := by omega
    have k2 : 2 * k ≤ K := by omega
    obtain ⟨i0, hi, hz0, hz1, hz2⟩ := info_parts intInfo
    clear hk e1 hV hK FA
    go_enter Try.func45, Try.ntmps45
    go_wp2_with fail
    refine (E.out _).mono ?_
    rintro e w1 ⟨rfl, rfl⟩
    go_wp2_with fail
    go_loopg [4, 5] (k + 1) (fun gg o i wr => ∃ r : Nat, r ≤ k + 1 ∧ k + 1 - r ≤ gg ∧ i = .int .i64 r ∧ Hid (OwnV wr w.heap.size wr.heap.size o (preL V r)) ∧ Hid (Below w.heap.size w wr))
    case atStart => exact ⟨0, Nat.zero_le _, by omega, rfl, by rw [PZ.out]; exact O0, B0⟩
    case round =>
      clear O0 B0
      obtain ⟨r, hr, hgg, rfl, HO, HB⟩ := hrel
      by_cases hlt : r ≤ k
      · have P1 := Lib.hid (W1.out r hlt)
        have P2 := Lib.hid (W2.out r hlt)
        have bd := BD.out r hlt
        have ps := PS.out r
        have fp := FP.out r
        have pl := PL.out r
        rw [show ((2 * r : Nat) : Int) = 2 * (r : Int) by omega] at P1
        rw [show ((2 * k - 2 * r : Nat) : Int) = (K : Int) - 2 * (r : Int) by omega] at P2
        have xb := wkI_bd (m := 2 * r) (by omega) 0
        have yb := wkI_bd (m := 2 * k - 2 * r) (by omega) 0
        obtain ⟨x, hx⟩ : ∃ x, x = wkI (2 * r) 0 := ⟨_, rfl⟩
        obtain ⟨y, hy⟩ : ∃ y, y = wkI (2 * k - 2 * r) 0 := ⟨_, rfl⟩
        rw [← hx] at P1 fp xb
        rw [← hy] at P2 fp yb
        clear hx hy
        rw [fp] at ps bd
        obtain ⟨L, hL⟩ : ∃ L, L = preL V r := ⟨_, rfl⟩
        rw [← hL] at HO ps pl
        have SE := Lib.hid ps
        have pl1 : L.length ≤ r := by omega
        have IX := Lib.hid (show InI64 (x * y) by unfold InI64; omega)
        have WR : IntKind.i64.wrap (x * y) = x * y := IntWalk.i64_in _ (by omega)
        have hown := HO.out.row
        have hs1 := HB.out.size
        have t1 : 2 * (r : Int) ≤ (K : Int) := by omega
        have rk : (r : Int) ≤ (k : Int) := by omega
        clear ps fp hL pl bd
        go_wp2_with fail
        refine (P1.out _).mono ?_
        rintro e w4 ⟨rfl, rfl⟩
        go_wp2_with fail
        refine (P2.out _).mono ?_
        rintro e w4 ⟨rfl, rfl⟩
        go_wp2_with (at_builtin; refine wpList_append_own _ rfl _ _ 30 rfl w.heap.size 3 i0 (.int .i64 0) 1 8 Try.underlying30 hi hz0 hz1 hz2 rfl (by decide) _ L.length (L.map (.int .i64)) rfl (hown.alloc _) ⟨wr.heap.size, 0, none⟩ 1 1 [.int .i64 (x * y)] rfl rfl (cell_one_new _ _ _) (fun x hx => by simp at hx; subst hx; rfl) (by unfold maxLen; omega) (by omega) (by simp; omega) ?_; intro v' w3 hown3 hgrow3 hnil3)
        have bel3 := Lib.hid ((HB.out.alloc HB.out.size _).grown hgrow3 (by simp; omega) (fun q hq => by have := (hown.lt q hq).1; omega))
        have own3 := Lib.hid (HO.out.app IX.out hown3)
        clear hown hown3 hgrow3 hnil3
        go_roundg (k + 1 - (r + 1))
        case rel => exact ⟨r + 1, by omega, by omega, by go_num, Lib.hid (by rw [SE.out]; exact own3.out), bel3⟩
        case measure => omega
      · have hrk : r = k + 1 := by omega
        have t1 : ¬ 2 * (r : Int) ≤ (K : Int) := by omega
        have FIN : Hid (∀ o, OwnV wr w.heap.size wr.heap.size o (preL V r) → NewIntsB (preL V (k + 1)) true w (.returned (.tuple #[o, .bool true])) wr) := Lib.hid (fun o h => ⟨o, rfl, by rw [← hrk]; exact h, HB.out⟩)
        clear hrk
        go_wp2_with fail
        go_ret2
        exact FIN.out _ HO.out
end Go.Proofs.Ytmidlabgmmejbab
