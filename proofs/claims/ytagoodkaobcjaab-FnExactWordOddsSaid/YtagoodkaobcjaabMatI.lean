/- Orders by their matches, in the program and in the model. -/
import Derived.Test.YtagoodkaobcjaabDrgI
import Derived.Test.YtagoodkaobcjaabFill
import Derived.Test.YtagoodkaobcjaabInS
namespace Go.Proofs.Ytagoodkaobcjaab
open Go.RowKit
set_option linter.unusedVariables false
theorem okC_mk {m : Int} (h : okC 0 m = true) : ∃ k : Nat, m = k ∧ k ≤ 12 := by
  unfold okC at h
  rw [decide_eq_true_iff] at h
  exact ⟨m.toNat, by omega, by omega⟩
def ifC (m : Int) (L : Nat → List Int) : List Int := if okC 0 m = true then L m.toNat else []
theorem ifC_len (m : Int) (L : Nat → List Int) (h : ∀ k, (L k).length ≤ k + 1) : (ifC m L).length ≤ 13 := by
  unfold ifC
  split
  · rename_i hk
    obtain ⟨k, rfl, h1⟩ := okC_mk hk
    have := h ((k : Int).toNat)
    omega
  · simp
def mtL (k : Nat) : List Int := fillL (mtN k) (k + 1) (k + 1)
set_option maxRecDepth 100000 in
set_option maxHeartbeats 2000000 in
theorem mtC (m : Int) (w : World) : Calls Try.prog 48 #[.int .i64 m] w (NewIntsB (ifC m mtL) (okC 0 m) w) := by
  have E := Lib.hid (fun w => fromI m 0 12 w)
  rw [show decide (0 ≤ m ∧ m ≤ 12) = okC 0 m from rfl] at E
  cases hk : okC 0 m
  · have e1 : ifC m mtL = [] := by unfold ifC; rw [hk]; rfl
    rw [e1]
    rw [hk] at E
    clear hk e1
    go_enter Try.func48, Try.ntmps48
    go_wp2_with fail
    refine (E.out _).mono ?_
    rintro e w1 ⟨rfl, rfl⟩
    go_wp2_with fail
    go_ret2
    exact newInts_empty (Below.refl _ _)
  · rw [hk] at E
    have e1 : ifC m mtL = mtL m.toNat := by unfold ifC; rw [hk]; rfl
    rw [e1]
    obtain ⟨k, rfl, h15⟩ := okC_mk hk
    rw [Int.toNat_natCast]
    have W1 := Lib.hid (fun r (hr : r ≤ k) w => chooseC k r w (by omega) hr)
    have W2 := Lib.hid (fun r (hr : r ≤ k) w => derC (k - r) w (by omega))
    have BD := Lib.hid (fun r (hr : r ≤ k) => mt_bd k (by omega) r (by omega) hr)
    have FS := Lib.hid (fun r (hr : r < k + 1) => fill_set (f := mtN k) (n := k + 1) hr)
    have FZ := Lib.hid (fill_zero (mtN k) (k + 1))
    have FP := Lib.hid (fun r => show mtN k r = (chN k r : Nat) * dgN (k - r) from rfl)
    have FL := Lib.hid (fun j => fill_len (mtN k) (k + 1) j)
    unfold mtL
    obtain ⟨G, hG⟩ : ∃ G : Nat → List Int, G = fun j => fillL (mtN k) (k + 1) j := ⟨_, rfl⟩
    have GD : ∀ j, fillL (mtN k) (k + 1) j = G j := fun j => by rw [hG]
    simp only [GD] at FS FZ FL ⊢
    obtain ⟨V, hV⟩ : ∃ V : Nat → Int, V = mtN k := ⟨_, rfl⟩
    rw [← hV] at BD FS FP
    obtain ⟨n, hn⟩ : ∃ n, n = k + 1 := ⟨_, rfl⟩
    have hn1 : (k : Int) + 1 = (n : Int) := by omega
    rw [← hn] at FS FZ FL ⊢
    obtain ⟨i0, hi, hz0, hz1, hz2⟩ := info_parts intInfo
    have c1' : i0.bytes * n ≤ 281474976710656 := by rw [hz2]; omega
    have c2' : n ≤ maxLen := by unfold maxLen; omega
    have n1 : n ≤ k + 1 := by omega
    have n2 : k + 1 ≤ n := by omega
    clear hk e1 hG GD hV hn
    go_enter Try.func48, Try.ntmps48
    go_wp2_with fail
    refine (E.out _).mono ?_
    rintro e w1 ⟨rfl, rfl⟩
    go_wp2_with (at_make; refine wpList_make_full _ rfl _ _ 22 rfl w.heap.size 3 i0 (.int .i64 0) 1 Try.underlying22 hi hz0 hz1 .i64 .i64 _ _ n rfl rfl rfl rfl c1' c2' (Nat.le_refl _) ?_; intro w3 hown hg2)
    have hown1 : w3.ownsRow w.heap.size 3 1 (.slice (some ⟨w.heap.size, 0, none⟩) n n) n (List.replicate n (.int .i64 0)) := by
      have h2 := hown
      rw [show (Value.int .i64 0).cells = #[Value.int .i64 0] from rfl, Nat.mul_one, toList_madeCells_one] at h2
      simpa using h2
    have O2 := OwnV.made hown1
    rw [← FZ.out] at O2
    have HO2 := Lib.hid O2
    have BW := Lib.hid ((Below.refl w.heap.size w).grown hg2 (Nat.le_refl _) (fun q hq => by simp at hq))
    clear hown hown1 hg2 c1' c2' hi hz0 hz1 hz2 O2
    go_wp2_with fail
    go_loopg [15] n (fun gg i wr => ∃ r : Nat, r ≤ n ∧ n - r ≤ gg ∧ i = .int .i64 r ∧ Hid (OwnV wr w.heap.size wr.heap.size (.slice (some ⟨w.heap.size, 0, none⟩) n n) (G r)) ∧ Hid (Below w.heap.size w wr))
    case atStart => exact ⟨0, Nat.zero_le _, by omega, rfl, HO2, BW⟩
    case round =>
      clear HO2 BW
      obtain ⟨r, hr, hgg, rfl, HO, HB⟩ := hrel
      by_cases hlt : r < n
      · have P1 := Lib.hid (W1.out r (by omega))
        have P2 := Lib.hid (W2.out r (by omega))
        have bd := BD.out r (by omega)
        have se := FS.out r hlt
        have fp := FP.out r
        rw [show ((k - r : Nat) : Int) = (k : Int) - (r : Int) by omega] at P2
        have xb := chN_bd k (by omega) r (by omega)
        have yb := dg_bd (k - r) (by omega)
        obtain ⟨x, hx⟩ : ∃ x : Int, x = (chN k r : Nat) := ⟨_, rfl⟩
        obtain ⟨y, hy⟩ : ∃ y, y = dgN (k - r) := ⟨_, rfl⟩
        have xb : 0 ≤ x ∧ x ≤ 155117520 := by omega
        rw [← hx] at P1 fp
        rw [← hy] at P2 fp yb
        clear hx hy
        rw [fp] at se bd
        have hold := HO.out.cellGet (j := r) (by rw [FL.out]; exact hlt)
        have hfz := HO.out.frozenGet r
        have O5 := Lib.hid (HO.out.setAt r (x := x * y) (by unfold InI64; omega))
        rw [se] at O5
        have B5 := Lib.hid (HB.out.setCell (p := ⟨w.heap.size, r, none⟩) (Nat.le_refl _) (.int .i64 (x * y)))
        have WR : IntKind.i64.wrap (x * y) = x * y := IntWalk.i64_in _ (by omega)
        have i0' : (0 : Int) ≤ (r : Int) := by omega
        have i1' : (r : Int) < (n : Int) := by omega
        have rk : (r : Int) ≤ (k : Int) := by omega
        clear HO HB se fp
        go_wp2_with fail
        refine (P1.out _).mono ?_
        rintro e w4 ⟨rfl, rfl⟩
        go_wp2_with fail
        refine (P2.out _).mono ?_
        rintro e w4 ⟨rfl, rfl⟩
        go_wp2_with fail
        go_roundg (n - (r + 1))
        case rel => exact ⟨r + 1, by omega, by omega, by go_num, Lib.hid (by have h := O5.out; simpa [World.setCell] using h), B5⟩
        case measure => omega
      · obtain rfl : r = n := by omega
        have FIN : Hid (NewIntsB (G r) true w (.returned (.tuple #[.slice (some ⟨w.heap.size, 0, none⟩) r r, .bool true])) wr) := Lib.hid ⟨_, rfl, HO.out, HB.out⟩
        go_wp2_with fail
        go_ret2
        exact FIN.out

set_option maxRecDepth 100000 in
set_option maxHeartbeats 2000000 in
theorem mtS (m : Int) (w : World) : Calls Try.prog 49 #[.int .i64 m] w (NewIntsB (ifC m mtL) (okC 0 m) w) := by
  have E := Lib.hid (fun w => inS m 0 12 w)
  rw [show decide (0 ≤ m ∧ m ≤ 12) = okC 0 m from rfl] at E
  have O0 := Lib.hid (OwnV.empty w w.heap.size (Nat.le_refl _))
  have B0 := Lib.hid ((Below.refl w.heap.size w).alloc (Nat.le_refl _) (.cells #[] 3))
  cases hk : okC 0 m
  · have e1 : ifC m mtL = [] := by unfold ifC; rw [hk]; rfl
    rw [e1]
    rw [hk] at E
    clear hk e1
    go_enter Try.func49, Try.ntmps49
    go_wp2_with fail
    refine (E.out _).mono ?_
    rintro e w1 ⟨rfl, rfl⟩
    go_wp2_with fail
    go_ret2
    exact newInts_empty (Below.refl _ _)
  · rw [hk] at E
    have e1 : ifC m mtL = mtL m.toNat := by unfold ifC; rw [hk]; rfl
    rw [e1]
    obtain ⟨k, rfl, h15⟩ := okC_mk hk
    rw [Int.toNat_natCast]
    have W1 := Lib.hid (fun r (hr : r ≤ k) w => chooseS k r w (by omega) hr)
    have W2 := Lib.hid (fun r (hr : r ≤ k) w => derS (k - r) w (by omega))
    have BD := Lib.hid (fun r (hr : r ≤ k) => mt_bd k (by omega) r (by omega) hr)
    have PS := Lib.hid (fun r => pre_succ (mtN k) r)
    have FP := Lib.hid (fun r => show mtN k r = (chN k r : Nat) * dgN (k - r) from rfl)
    have PL := Lib.hid (fun r => pre_len (mtN k) r)
    have PZ := Lib.hid (show preL (mtN k) 0 = [] from rfl)
    have FA := Lib.hid (show mtL k = preL (mtN k) (k + 1) from fill_pre _ _)
    rw [FA.out]
    obtain ⟨V, hV⟩ : ∃ V : Nat → Int, V = mtN k := ⟨_, rfl⟩
    rw [← hV] at BD PS FP PL PZ ⊢
    obtain ⟨i0, hi, hz0, hz1, hz2⟩ := info_parts intInfo
    clear hk e1 hV FA
    go_enter Try.func49, Try.ntmps49
    go_wp2_with fail
    refine (E.out _).mono ?_
    rintro e w1 ⟨rfl, rfl⟩
    go_wp2_with fail
    go_loopg [4, 5] (k + 1) (fun gg o i wr => ∃ r : Nat, r ≤ k + 1 ∧ k + 1 - r ≤ gg ∧ i = .int .i64 r ∧ Hid (OwnV wr w.heap.size wr.heap.size o (preL V r)) ∧ Hid (Below w.heap.size w wr))
    case atStart => exact ⟨0, Nat.zero_le _, by omega, rfl, by rw [PZ.out]; exact O0, B0⟩
    case round =>
      clear O0 B0
      obtain ⟨r, hr, hgg, rfl, HO, HB⟩ := hrel
      by_cases hlt : r ≤ k
      · have P1 := Lib.hid (W1.out r hlt)
        have P2 := Lib.hid (W2.out r hlt)
        have bd := BD.out r hlt
        have ps := PS.out r
        have fp := FP.out r
        have pl := PL.out r
        rw [show ((k - r : Nat) : Int) = (k : Int) - (r : Int) by omega] at P2
        have xb := chN_bd k (by omega) r (by omega)
        have yb := dg_bd (k - r) (by omega)
        obtain ⟨x, hx⟩ : ∃ x : Int, x = (chN k r : Nat) := ⟨_, rfl⟩
        obtain ⟨y, hy⟩ : ∃ y, y = dgN (k - r) := ⟨_, rfl⟩
        have xb : 0 ≤ x ∧ x ≤ 155117520 := by omega
        rw [← hx] at P1 fp
        rw [← hy] at P2 fp yb
        clear hx hy
        rw [fp] at ps bd
        obtain ⟨L, hL⟩ : ∃ L, L = preL V r := ⟨_, rfl⟩
        rw [← hL] at HO ps pl
        have SE := Lib.hid ps
        have pl1 : L.length ≤ r := by omega
        have IX := Lib.hid (show InI64 (x * y) by unfold InI64; omega)
        have WR : IntKind.i64.wrap (x * y) = x * y := IntWalk.i64_in _ (by omega)
        have hown := HO.out.row
        have hs1 := HB.out.size
        have rk : (r : Int) ≤ (k : Int) := by omega
        clear ps fp hL pl bd
        go_wp2_with fail
        refine (P1.out _).mono ?_
        rintro e w4 ⟨rfl, rfl⟩
        go_wp2_with fail
        refine (P2.out _).mono ?_
        rintro e w4 ⟨rfl, rfl⟩
        go_wp2_with (at_builtin; refine wpList_append_own _ rfl _ _ 22 rfl w.heap.size 3 i0 (.int .i64 0) 1 8 Try.underlying22 hi hz0 hz1 hz2 rfl (by decide) _ L.length (L.map (.int .i64)) rfl (hown.alloc _) ⟨wr.heap.size, 0, none⟩ 1 1 [.int .i64 (x * y)] rfl rfl (cell_one_new _ _ _) (fun x hx => by simp at hx; subst hx; rfl) (by unfold maxLen; omega) (by omega) (by simp; omega) ?_; intro v' w3 hown3 hgrow3 hnil3)
        have bel3 := Lib.hid ((HB.out.alloc HB.out.size _).grown hgrow3 (by simp; omega) (fun q hq => by have := (hown.lt q hq).1; omega))
        have own3 := Lib.hid (HO.out.app IX.out hown3)
        clear hown hown3 hgrow3 hnil3
        go_roundg (k + 1 - (r + 1))
        case rel => exact ⟨r + 1, by omega, by omega, by go_num, Lib.hid (by rw [SE.out]; exact own3.out), bel3⟩
        case measure => omega
      · have hrk : r = k + 1 := by omega
        have t1 : ¬ (r : Int) ≤ (k : Int) := by omega
        have FIN : Hid (∀ o, OwnV wr w.heap.size wr.heap.size o (preL V r) → NewIntsB (preL V (k + 1)) true w (.returned (.tuple #[o, .bool true])) wr) := Lib.hid (fun o h => ⟨o, rfl, by rw [← hrk]; exact h, HB.out⟩)
        clear hrk
        go_wp2_with fail
        go_ret2
        exact FIN.out _ HO.out
end Go.Proofs.Ytagoodkaobcjaab
