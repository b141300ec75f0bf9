/- The ends of a tree, in the program and in the model. -/
import Derived.Test.YtligidmkhbcpmacPrm
import Derived.Test.YtligidmkhbcpmacNodes
namespace Go.Proofs.Ytligidmkhbcpmac
open Go.RowKit
set_option linter.unusedVariables false
/-- What a function returns that asks for a tree. -/
def ifGood (ps ws : List Int) (zs : List Int) : List Int := if goodT ps ws = true then zs else []
theorem endsT_good {ps ws : List Int} (g : Good ps ws) : nodesW (fun x => decide (0 < ws.getD x 0)) ps.length = endsT ps := by
  rw [endsT_eq]
  refine nodesW_congr fun x hx => ?_
  rw [Bool.eq_iff_iff, decide_eq_true_eq]
  exact g.end_iff hx
theorem parAll {ps ws : List Int} (g : Good ps ws) : ∀ y, y < ps.length → parOk ps y = true := by
  intro y hy
  rcases Nat.eq_zero_or_pos y with h | h
  · subst h; rw [parOk_zero]; simpa using g.root
  · rw [parOk_pos ps h]; simpa using g.par y h hy
set_option maxRecDepth 100000 in
set_option maxHeartbeats 2000000 in
theorem endsS (ps ws : List Int) (v : Value) (w : World) (h : TreeV w w.heap.size v ps ws) (hn : ps.length ≤ 24) (hp : ∀ y, y < ps.length → parOk ps y = true) :
    Calls Try.prog 160 #[v] w (NewInts (endsT ps) w) := by
  have TV := Lib.hid h
  obtain ⟨v1, v2, rfl, ⟨p1, c1, rfl, l1, m1, _, i1⟩, _⟩ := h
  clear i1
  have HP := Lib.hid hp
  clear hp
  obtain ⟨i0, hi, hz0, hz1, hz2⟩ := info_parts intInfo
  have B1 := (Below.refl w.heap.size w).alloc (Nat.le_refl _) (.cells #[.slice p1 ps.length c1, v2] 29)
  have T1 : TBox (w.alloc (.cells #[.slice p1 ps.length c1, v2] 29)) w.heap.size (.slice p1 ps.length c1) v2 := alloc_heap w _
  have O1 := OwnV.empty (w.alloc (.cells #[.slice p1 ps.length c1, v2] 29)) (w.heap.size + 1) (by simp)
  have T2 := Lib.hid (T1.alloc (.cells #[] 3))
  have B2 := Lib.hid (B1.alloc (by simp) (.cells #[] 3))
  have O2 := Lib.hid O1
  rw [show (w.alloc (.cells #[.slice p1 ps.length c1, v2] 29)).heap.size = w.heap.size + 1 by simp] at O2
  clear T1 O1 B1
  go_enter Try.func160, Try.ntmps160
  go_wp2_with fail
  go_loopw [3, 4] (fun o i wr => ∃ k : Nat, k ≤ ps.length ∧ i = .int .i64 k ∧ Hid (OwnV wr (w.heap.size + 1) wr.heap.size o (nodesW (leafB ps) k)) ∧ Hid (TBox wr w.heap.size (.slice p1 ps.length c1) v2) ∧ Hid (Below w.heap.size w wr)) (fun _ i _ => ps.length - (intOf i).toNat)
  case atStart => exact ⟨0, Nat.zero_le _, rfl, O2, T2, B2⟩
  case round =>
    obtain ⟨k, hk, rfl, HO, HT, HB⟩ := hrel
    obtain ⟨x0, x1⟩ := HT.out.cells
    clear T2 B2 O2
    by_cases hlt : k < ps.length
    · have C := Lib.hid (fun w' (hb : Below w.heap.size w w') => kidsS ps ws _ k w' (by omega) (by omega) (TV.out.boxed hb))
      have KN := Lib.hid (kidsF_nil HP.out k)
      have Y := Lib.hid (nodesW_yes (p := leafB ps) (n := k))
      have N := Lib.hid (nodesW_no (p := leafB ps) (n := k))
      have LL := nodesW_len (leafB ps) k
      go_wp2_with fail
      refine (C.out _ HB.out).mono ?_
      rintro e w1 ⟨u1, rfl, o1, b1⟩
      obtain ⟨pk, ck, rfl, _⟩ := o1.intsV
      have HB1 := Lib.hid (HB.out.trans (b1.mono HB.out.size))
      have HT1 := Lib.hid (HT.out.below b1 HT.out.lt)
      have HO1 := Lib.hid ((HO.out.below b1).wide b1.size (Nat.le_refl _))
      obtain ⟨m, hm⟩ : ∃ m, m = (kidsF ps k ps.length).length := ⟨_, rfl⟩
      rw [← hm]
      have ML : Hid (m = 0 ↔ leafB ps k = true) := Lib.hid (by rw [hm, List.length_eq_zero_iff]; exact KN.out)
      clear b1 o1 x0 x1 C hm KN HT HB HO
      obtain ⟨x0, x1⟩ := HT1.out.cells
      cases hl : leafB ps k
      · have hm0 : ((m : Int) == 0) = false := by
          have : ¬ m = 0 := fun e => by have := ML.out.1 e; rw [hl] at this; cases this
          simp; omega
        have E := Lib.hid (N.out hl)
        clear Y N hl ML
        go_wp2_with fail
        go_roundw
        case rel => exact ⟨k + 1, by omega, by go_num, Lib.hid (by rw [E.out]; exact HO1.out), HT1, HB1⟩
        case measure => simp [intOf]; omega
      · obtain rfl : m = 0 := ML.out.2 hl
        have E := Lib.hid (Y.out hl)
        clear Y N hl ML
        obtain ⟨L, hL⟩ : ∃ L, L = nodesW (leafB ps) k := ⟨_, rfl⟩
        rw [← hL] at HO1 E LL
        clear hL
        have hown := HO1.out.row
        have hsz := HT1.out.lt
        go_wp2_with (at_builtin; refine wpList_append_own _ rfl _ _ 22 rfl (w.heap.size + 1) 3 i0 (.int .i64 0) 1 8 Try.underlying22 hi hz0 hz1 hz2 rfl (by decide) _ L.length (L.map (.int .i64)) rfl (hown.alloc _) ⟨w1.heap.size, 0, none⟩ 1 1 [.int .i64 k] rfl rfl (cell_one_new _ _ _) (fun x hx => by simp at hx; subst hx; rfl) (by unfold maxLen; omega) (by omega) (by simp; omega) ?_; intro v' w3 hown3 hgrow3 hnil3)
        have bel3 := Lib.hid ((HB1.out.alloc HB1.out.size _).grown hgrow3 (by simp; omega) (fun q hq => by have := (hown.lt q hq).1; omega))
        have own3 := Lib.hid (HO1.out.app (inI64_nat (k := k) (by omega)) hown3)
        have box3 := Lib.hid ((HT1.out.alloc _).grown hgrow3 (fun q hq => (hown.lt q hq).1) (by omega))
        clear hown hown3 hgrow3 hnil3
        go_roundw
        case rel => exact ⟨k + 1, by omega, by go_num, Lib.hid (by rw [E.out]; exact own3.out), box3, bel3⟩
        case measure => simp [intOf]; omega
    · obtain rfl : k = ps.length := by omega
      have FIN : Hid (∀ o, OwnV wr (w.heap.size + 1) wr.heap.size o (nodesW (leafB ps) ps.length) → NewInts (endsT ps) w (.returned o) wr) := Lib.hid (fun o h => ⟨o, rfl, by rw [endsT_eq]; exact h.low (by omega), HB.out⟩)
      go_wp2_with fail
      go_ret
      exact FIN.out _ HO.out
theorem ends_len (ps ws : List Int) : (ifGood ps ws (endsT ps)).length ≤ 1048576 := by
  unfold ifGood
  split
  · rename_i h
    have := (Good.of h).n24
    have := nodesW_len (leafB ps) ps.length
    rw [endsT_eq]; omega
  · simp
end Go.Proofs.Ytligidmkhbcpmac
