/- Whether a value is a tree, in the program. -/
import Derived.Test.YtligidmkhbcpmacPrm
import Derived.Test.YtligidmkhbcpmacTreeP
import Derived.Test.YtligidmkhbcpmacTreeH
import Derived.WalkKit
import Derived.ProofKit
import Derived.Outline
import Derived.Below
import Derived.Lib.Hide
import Derived.WalkSmall
import Derived.WalkSpells
import Derived.WalkLawsBesides
namespace Go.Proofs.Ytligidmkhbcpmac
open Go.RowKit
set_option linter.unusedVariables false
theorem alloc_two (w : World) (a b : Obj) : ((w.alloc a).alloc b).heap[w.heap.size]? = some a ∧ ((w.alloc a).alloc b).heap[w.heap.size + 1]? = some b := by
  show ((w.heap.push a).push b)[w.heap.size]? = _ ∧ ((w.heap.push a).push b)[w.heap.size + 1]? = _
  refine ⟨?_, ?_⟩
  · rw [Array.getElem?_push, if_neg (by simp), Array.getElem?_push, if_pos rfl]
  · rw [Array.getElem?_push, if_pos (by simp)]
theorem ret_b {a b : Bool} (h : a = b) : Ending.returned (.bool b) = .returned (.bool a) := by rw [h]
/-- The tree's box. -/
def TBox (w : World) (B : Nat) (v1 v2 : Value) : Prop := w.heap[B]? = some (.cells #[v1, v2] 29 (0, 0))
theorem TBox.cells {w : World} {B : Nat} {v1 v2 : Value} (h : TBox w B v1 v2) : w.cell? ⟨B, 0, none⟩ = some v1 ∧ w.cell? ⟨B, 1, none⟩ = some v2 :=
  ⟨(cell_of_heap (o := 0) h rfl).1, (cell_of_heap (o := 1) h rfl).1⟩
theorem TBox.set {w : World} {B g o : Nat} {v1 v2 x : Value} (h : TBox w B v1 v2) (hg : B ≠ g) : TBox (w.setCell ⟨g, o, none⟩ x) B v1 v2 := (heap_setCell_other w _ _ _ hg).trans h
theorem row_set {w : World} {g j : Nat} {L : List Value} {T : TypeId} {x : Value} (h : w.heap[g]? = some (.cells L.toArray T (0, 0))) : (w.setCell ⟨g, j, none⟩ x).heap[g]? = some (.cells (L.set j x).toArray T (0, 0)) := by
  simp [World.setCell, Array.getElem?_modify, h]
theorem TBox.below {w w1 : World} {B C : Nat} {v1 v2 : Value} (h : TBox w B v1 v2) (hb : Below C w w1) (hB : B < C) : TBox w1 B v1 v2 := (hb.block B hB).trans h
set_option maxRecDepth 100000 in
set_option maxHeartbeats 2000000 in
theorem isTreeI (ps ws : List Int) (v : Value) (w : World) (h : TreeV w w.heap.size v ps ws) :
    Calls Try.prog 216 #[v] w fun e w' => e = .returned (.bool (goodT ps ws)) ∧ Below w.heap.size w w' := by
  obtain ⟨v1, v2, rfl, ⟨p1, c1, rfl, l1, m1, _, i1⟩, ⟨p2, c2, rfl, l2, m2, _, i2⟩⟩ := h
  unfold maxLen at m1 m2
  have P1 := Lib.hid i1
  have P2 := Lib.hid i2
  clear i1 i2
  have B1 := (Below.refl w.heap.size w).alloc (Nat.le_refl _) (.cells #[.slice p1 ps.length c1, .slice p2 ws.length c2] 29)
  by_cases hlen : 1 ≤ ps.length ∧ ps.length ≤ 24 ∧ ws.length = ps.length
  · obtain ⟨h1, h24, hw⟩ := hlen
    rw [hw] at B1 ⊢
    have HW := Lib.hid hw
    clear hw
    have t1 : decide ((ps.length : Int) < 1) = false := by simp; omega
    have t2 : decide ((24 : Int) < (ps.length : Int)) = false := by simp; omega
    obtain ⟨b, off, rfl, hb, hc⟩ := P1.out.get (i := 0) (by omega)
    have bb : b ≠ w.heap.size := by omega
    obtain ⟨z0, hz0⟩ : ∃ z : Int, z = ps.getD 0 0 := ⟨_, rfl⟩
    rw [← hz0, Nat.add_zero] at hc
    have Z := Lib.hid hz0
    clear hz0
    by_cases hr : z0 = -1
    · subst hr
      have G0 : Hid (parOk ps 0 = true) := Lib.hid (by rw [parOk_zero, ← Z.out]; rfl)
      clear Z
      have B2 := Lib.hid (B1.alloc (by simp) (.cells (markL ps 1).toArray 190))
      have M1 := Lib.hid (markL_one ps)
      have K0 := (alloc_two w (.cells #[.slice (some ⟨b, off, none⟩) ps.length c1, .slice p2 ps.length c2] 29) (.cells (markL ps 1).toArray 190))
      have H0 := Lib.hid K0.1
      have H1 := Lib.hid K0.2
      clear K0
      rw [markL_one] at B2 H0 H1
      go_enter Try.func216, Try.ntmps216
      go_wp2
      go_loopw [5] (fun i wr => ∃ k : Nat, 1 ≤ k ∧ k ≤ ps.length ∧ i = .int .i64 k ∧ Hid (∀ y, y < k → parOk ps y = true) ∧ Hid (TBox wr w.heap.size (.slice (some ⟨b, off, none⟩) ps.length c1) (.slice p2 ps.length c2)) ∧ Hid (wr.heap[w.heap.size + 1]? = some (.cells (markL ps k).toArray 190 (0, 0))) ∧ Hid (Below w.heap.size w wr)) (fun i _ => ps.length - (intOf i).toNat)
      case atStart => exact ⟨1, by omega, by omega, rfl, Lib.hid (fun y hy => by (obtain rfl : y = 0 := (by omega)); exact G0.out), H0, Lib.hid (by rw [M1.out]; exact H1.out), B2⟩
      case round =>
        obtain ⟨k, hk1, hk, rfl, HP, HT, HM, HB⟩ := hrel
        obtain ⟨x0, x1⟩ := HT.out.cells
        clear B2 H0 H1 G0 M1 hc
        by_cases hlt : k < ps.length
        · obtain ⟨b', off', e1, hb', hck⟩ := P1.out.get hlt
          obtain ⟨rfl, rfl⟩ : b = b' ∧ off = off' := by simpa using e1
          clear e1 hb'
          have hcw : wr.cell? ⟨b, off + k, none⟩ = some (.int .i64 (ps.getD k 0)) := by rw [HB.out.cell (p := ⟨b, off + k, none⟩) hb]; exact hck
          have PK := Lib.hid (parOk_pos ps (y := k) (by omega))
          have i0 : (0 : Int) ≤ (k : Int) := by omega
          have i1 : (k : Int) < (ps.length : Int) := by omega
          have MS := Lib.hid (fun j => markL_set ps (k := k) (j := j) (by omega))
          have FP := Lib.hid (goodT_false_par (ps := ps) (ws := ws) (y := k) hlt)
          clear hck
          by_cases hz : 0 ≤ ps.getD k 0 ∧ ps.getD k 0 < (k : Int)
          · obtain ⟨j, hj⟩ : ∃ j : Nat, ps.getD k 0 = (j : Int) := ⟨(ps.getD k 0).toNat, by omega⟩
            have hjk : j < k := by omega
            have MJ := Lib.hid (MS.out j hj)
            have OK := Lib.hid (show parOk ps k = true by rw [PK.out]; simpa using hz)
            rw [hj] at hcw
            have hm : wr.cell? ⟨w.heap.size + 1, j, none⟩ = some (Value.bool (marked ps k j)) := by
              refine (cell_of_heap (o := j) HM.out ?_).1
              rw [List.getElem?_toArray]; exact markL_at ps k (by omega)
            have hf : wr.frozen? ⟨w.heap.size + 1, j, none⟩ = false := by
              refine (cell_of_heap (o := j) (v := Value.bool (marked ps k j)) HM.out ?_).2
              rw [List.getElem?_toArray]; exact markL_at ps k (by omega)
            have j0 : (0 : Int) ≤ (j : Int) := by omega
            have j1 : (j : Int) < 24 := by omega
            have j2 : ¬ (j : Int) < 0 := by omega
            have j3 : ¬ (k : Int) ≤ (j : Int) := by omega
            obtain ⟨mk, hmk⟩ : ∃ m, m = marked ps k j := ⟨_, rfl⟩
            rw [← hmk] at hm
            clear hmk hz hj MS PK FP
            go_wp2
            go_roundw
            case rel =>
              refine ⟨k + 1, by omega, by omega, by go_num, Lib.hid (fun y hy => ?_), Lib.hid (HT.out.set (by omega)), Lib.hid ?_, Lib.hid (HB.out.setCell (p := ⟨w.heap.size + 1, j, none⟩) (by simp) _)⟩
              · rcases Nat.lt_or_ge y k with h | h
                · exact HP.out y h
                · obtain rfl : y = k := by omega
                  exact OK.out
              · rw [← MJ.out]; exact row_set HM.out
            case measure => simp [intOf]; omega
          · have R := Lib.hid (FP.out (by rw [PK.out]; simpa using hz))
            obtain ⟨z, hzz⟩ : ∃ z, z = ps.getD k 0 := ⟨_, rfl⟩
            rw [← hzz] at hcw hz
            clear hzz MS PK FP
            by_cases hz0 : z < 0
            · clear hz
              go_wp2
              go_ret
              exact ⟨ret_b R.out, HB.out⟩
            · have hz1 : (k : Int) ≤ z := by omega
              clear hz
              go_wp2
              go_ret
              exact ⟨ret_b R.out, HB.out⟩
        · have hkn : k = ps.length := by omega
          have KN := Lib.hid hkn
          have HP' := Lib.hid (fun y (hy : y < ps.length) => HP.out y (by omega))
          rw [hkn] at HM
          clear hkn HP
          go_wp2
          go_loop [60] (fun i => ∃ x : Nat, x ≤ ps.length ∧ i = .int .i64 x ∧ Hid (∀ y, y < x → wtOk ps ws y = true)) (fun i => ps.length - (intOf i).toNat)
          case atStart => exact ⟨0, by omega, rfl, Lib.hid (fun y hy => by omega)⟩
          case round =>
            obtain ⟨x, hx, rfl, HX⟩ := hrel
            by_cases hlx : x < ps.length
            · obtain ⟨b2, off2, rfl, hb2, hc2⟩ := P2.out.get (i := x) (by have := HW.out; omega)
              have hcx : wr.cell? ⟨b2, off2 + x, none⟩ = some (.int .i64 (ws.getD x 0)) := by rw [HB.out.cell (p := ⟨b2, off2 + x, none⟩) hb2]; exact hc2
              have hm : wr.cell? ⟨w.heap.size + 1, x, none⟩ = some (Value.bool (!leafB ps x)) := by
                refine (cell_of_heap (o := x) HM.out ?_).1
                rw [List.getElem?_toArray, ← marked_leaf (of_decide_eq_true (by have := HP'.out 0 (by omega); rwa [parOk_zero] at this)) x]; exact markL_at ps ps.length (by omega)
              have i0 : (0 : Int) ≤ (x : Int) := by omega
              have i1 : (x : Int) < (ps.length : Int) := by omega
              have i2 : (x : Int) < 24 := by omega
              obtain ⟨z, hz⟩ : ∃ z, z = ws.getD x 0 := ⟨_, rfl⟩
              rw [← hz] at hcx
              have WL := Lib.hid (wtOk_leaf (ps := ps) (ws := ws) (x := x))
              have WI := Lib.hid (wtOk_inner (ps := ps) (ws := ws) (x := x))
              have FW := Lib.hid (goodT_false_wt (ps := ps) (ws := ws) (y := x) hlx)
              rw [← hz] at WL WI
              have NX : Hid (wtOk ps ws x = true → ∀ y, y < x + 1 → wtOk ps ws y = true) := Lib.hid (fun h y hy => by
                rcases Nat.lt_or_ge y x with h' | h'
                · exact HX.out y h'
                · obtain rfl : y = x := by omega
                  exact h)
              clear hc2 hz
              cases hl : leafB ps x
              · rw [hl] at hm
                simp only [Bool.not_false] at hm
                by_cases hz : z = 0
                · subst hz
                  have N2 := Lib.hid (NX.out (by rw [WI.out hl]; rfl))
                  clear WL WI FW NX hl
                  go_wp2
                  go_round
                  case rel => exact ⟨x + 1, by omega, by go_num, N2⟩
                  case measure => simp [intOf]; omega
                · have R := Lib.hid (FW.out (by rw [WI.out hl]; simpa using hz))
                  have hz' : (z != 0) = true := by simpa using hz
                  clear WL WI FW NX hl hz
                  go_wp2
                  go_ret
                  exact ⟨ret_b R.out, HB.out⟩
              · rw [hl] at hm
                simp only [Bool.not_true] at hm
                by_cases hz : 1 ≤ z
                · by_cases hz2 : z ≤ 20
                  · have N2 := Lib.hid (NX.out (by rw [WL.out hl]; simpa using ⟨hz, hz2⟩))
                    clear WL WI FW NX hl
                    go_wp2
                    go_round
                    case rel => exact ⟨x + 1, by omega, by go_num, N2⟩
                    case measure => simp [intOf]; omega
                  · have R := Lib.hid (FW.out (by rw [WL.out hl]; simp; omega))
                    clear WL WI FW NX hl
                    go_wp2
                    go_ret
                    exact ⟨ret_b R.out, HB.out⟩
                · have R := Lib.hid (FW.out (by rw [WL.out hl]; simp; omega))
                  clear WL WI FW NX hl
                  go_wp2
                  go_ret
                  exact ⟨ret_b R.out, HB.out⟩
            · have R := Lib.hid (goodT_true ⟨h1, h24, HW.out⟩ HP'.out (fun y hy => HX.out y (by omega)))
              go_wp2
              go_ret
              exact ⟨ret_b R.out, HB.out⟩
    · have R := Lib.hid (goodT_false_par (ws := ws) (y := 0) (show 0 < ps.length by omega) (by rw [parOk_zero, ← Z.out]; simpa using hr))
      have hr' : (z0 != -1) = true := by simpa using hr
      rw [R.out]
      go_enter Try.func216, Try.ntmps216
      go_wp2
      go_ret
      exact ⟨rfl, B1⟩
  · rw [goodT_false_len hlen]
    have hcase : ps.length < 1 ∨ 24 < ps.length ∨ (1 ≤ ps.length ∧ ps.length ≤ 24 ∧ ws.length ≠ ps.length) := by omega
    clear hlen
    rcases hcase with h | h | ⟨h, h', h''⟩
    all_goals
      go_enter Try.func216, Try.ntmps216
      go_wp2
      go_ret
      exact ⟨rfl, B1⟩
end Go.Proofs.Ytligidmkhbcpmac
