/- Rows by their blocks; numbers that grow, products and joined rows, in the program. -/
import Derived.Test.YtligidmkhbcpmacUrnP
import Derived.Test.YtligidmkhbcpmacRecI
import Derived.Test.YtligidmkhbcpmacRes
import Derived.Test.YtligidmkhbcpmacInS
import Derived.Lib.AppendZeros
import Derived.Lib.SliceRun
import Derived.Deep.RegionHeld3
import Derived.Deep.DeepCutAuto
import Derived.Deep.LoopGhost
namespace Go.Proofs.Ytligidmkhbcpmac
open Go.RowKit
set_option linter.unusedVariables false
/-- A row of ints in a block. -/
structure RowB (W : World) (b : Nat) (L : List Int) : Prop where
  lt : b < W.heap.size
  cell : ∀ j, j < L.length → W.cell? ⟨b, j, none⟩ = some (.int .i64 (L.getD j 0))
  thaw : ∀ j, j < L.length → W.frozen? ⟨b, j, none⟩ = false
theorem RowB.keep {W W' : World} {b : Nat} {L : List Int} (h : RowB W b L) (hb : W'.heap[b]? = W.heap[b]?) (hs : W.heap.size ≤ W'.heap.size) : RowB W' b L := by
  refine ⟨Nat.lt_of_lt_of_le h.lt hs, fun j hj => ?_, fun j hj => ?_⟩
  · rw [World.cell?_of_block hb]; exact h.cell j hj
  · have := h.thaw j hj
    unfold World.frozen? at this ⊢
    simp only [hb]; exact this
theorem RowB.below {W W' : World} {b C : Nat} {L : List Int} (h : RowB W b L) (hb : Below C W W') (hC : b < C) : RowB W' b L := h.keep (hb.block b hC) hb.size
theorem RowB.next {W W' : World} {b : Nat} {L : List Int} (h : RowB W b L) (hb : Below W.heap.size W W') : RowB W' b L := h.below hb h.lt
theorem RowB.al {W : World} {b : Nat} {L : List Int} (h : RowB W b L) (o : Obj) : RowB (W.alloc o) b L := h.next ((Below.refl W.heap.size W).alloc (Nat.le_refl _) o)
theorem RowB.drew {W : World} {b : Nat} {L : List Int} (h : RowB W b L) : RowB W.drew b L := h.keep rfl (Nat.le_refl _)
theorem RowB.far {W : World} {b g o : Nat} {L : List Int} {v : Value} (h : RowB W b L) (hg : b ≠ g) : RowB (W.setCell ⟨g, o, none⟩ v) b L := by
  refine ⟨by simpa [World.setCell] using h.lt, fun j hj => ?_, fun j hj => ?_⟩
  · rw [World.cell?_setCell_other _ _ _ _ (by intro e; injection e with e1; exact hg e1.symm)]; exact h.cell j hj
  · rw [World.frozen?_setCell]; exact h.thaw j hj
theorem RowB.set {W : World} {b i : Nat} {L : List Int} {x : Int} (h : RowB W b L) (hi : i < L.length) : RowB (W.setCell ⟨b, i, none⟩ (.int .i64 x)) b (L.set i x) := by
  refine ⟨by simpa [World.setCell] using h.lt, fun j hj => ?_, fun j hj => ?_⟩
  · rw [List.length_set] at hj
    rw [getD_set]
    by_cases e : i = j
    · subst e
      rw [if_pos ⟨rfl, hj⟩]
      exact World.cell?_setCell_same _ _ _ (h.cell i hj)
    · rw [if_neg (fun e2 => e e2.1), World.cell?_setCell_other _ _ _ _ (by intro e2; injection e2 with e1 e3; exact e (by omega))]
      exact h.cell j hj
  · rw [List.length_set] at hj
    rw [World.frozen?_setCell]; exact h.thaw j hj
theorem OwnV.rowB {w : World} {lo hi b n c : Nat} {L : List Int} (h : OwnV w lo hi (.slice (some ⟨b, 0, none⟩) n c) L) : RowB w b L := by
  have hb : b < hi := h.lt b rfl
  exact ⟨Nat.lt_of_lt_of_le hb h.room, fun j hj => h.cellGet hj, fun j _ => h.frozenGet j⟩
theorem RowB.one (w : World) (x : Int) : RowB (w.alloc (.cells #[.int .i64 x] 3)) w.heap.size [x] := by
  have k := alloc_heap w (.cells #[.int .i64 x] 3)
  refine ⟨by simp, fun j hj => ?_, fun j hj => ?_⟩
  · obtain rfl : j = 0 := by simp at hj; exact hj
    exact (cell_of_heap (o := 0) k rfl).1
  · obtain rfl : j = 0 := by simp at hj; exact hj
    exact (cell_of_heap (o := 0) k rfl).2
/-- What a call answers that makes a row: the row in a block of its own. -/
def NewB (L : List Int) (w : World) (e : Ending) (w' : World) : Prop :=
  ∃ b c, e = .returned (.slice (some ⟨b, 0, none⟩) L.length c) ∧ w.heap.size ≤ b ∧ RowB w' b L ∧ Below w.heap.size w w'
/-- An urn in a block. -/
def UBox (w : World) (R : Nat) (r b x : Int) : Prop := w.heap[R]? = some (.cells #[.int .i64 r, .int .i64 b, .int .i64 x] 121 (0, 0))
theorem UBox.lt {w : World} {R : Nat} {r b x : Int} (h : UBox w R r b x) : R < w.heap.size := by unfold UBox at h; exact (Array.getElem?_eq_some_iff.1 h).1
theorem UBox.below {w w1 : World} {R C : Nat} {r b x : Int} (h : UBox w R r b x) (hb : Below C w w1) (hR : R < C) : UBox w1 R r b x := (hb.block R hR).trans h
theorem UBox.next {w w1 : World} {R : Nat} {r b x : Int} (h : UBox w R r b x) (hb : Below w.heap.size w w1) : UBox w1 R r b x := h.below hb h.lt
theorem UBox.cells {w : World} {R : Nat} {r b x : Int} (h : UBox w R r b x) : w.cell? ⟨R, 0, none⟩ = some (.int .i64 r) ∧ w.cell? ⟨R, 1, none⟩ = some (.int .i64 b) ∧ w.cell? ⟨R, 2, none⟩ = some (.int .i64 x) :=
  ⟨(cell_of_heap (o := 0) h rfl).1, (cell_of_heap (o := 1) h rfl).1, (cell_of_heap (o := 2) h rfl).1⟩
theorem UBox.new (w : World) (r b x : Int) : UBox (w.alloc (.cells #[.int .i64 r, .int .i64 b, .int .i64 x] 121)) w.heap.size r b x := alloc_heap w _
theorem UBox.far {w : World} {R g o : Nat} {r b x : Int} {v : Value} (h : UBox w R r b x) (hg : R ≠ g) : UBox (w.setCell ⟨g, o, none⟩ v) R r b x := by
  unfold UBox at h ⊢
  simp only [World.setCell, Array.getElem?_modify]
  rw [if_neg (fun e => hg e.symm)]
  exact h
/-- Numbers that grow. -/
def grF (a x : Int) : Nat → Int := fun i => a + (i : Int) * x
set_option maxRecDepth 100000 in
set_option maxHeartbeats 4000000 in
theorem growthC (r b x a : Int) (d : Nat) (w : World) (ha : 0 ≤ a ∧ a ≤ 40) (hx : 0 ≤ x ∧ x ≤ 20) (hd : d ≤ 10) :
    Calls Try.prog 182 #[.agg #[.int .i64 r, .int .i64 b, .int .i64 x], .int .i64 a, .int .i64 d] w (NewB (preL (grF a x) d) w) := by
  have FS := Lib.hid (fun k (hk : k < d) => fill_set (f := grF a x) (n := d) hk)
  have FZ := Lib.hid (fill_zero (grF a x) d)
  have FL := Lib.hid (fun j => fill_len (grF a x) d j)
  have FP := Lib.hid (fill_pre (grF a x) d)
  have FD := Lib.hid (fun k (hk : k ≤ 10) => show grF a x k = a + (k : Int) * x ∧ 0 ≤ (k : Int) * x ∧ (k : Int) * x ≤ 10 * 20 from ⟨rfl, Int.mul_nonneg (by omega) hx.1, Int.mul_le_mul (by omega) hx.2 hx.1 (by omega)⟩)
  have PL := Lib.hid (pre_len (grF a x) d)
  obtain ⟨V, hV⟩ : ∃ V : Nat → Int, V = grF a x := ⟨_, rfl⟩
  rw [← hV] at FS FZ FL FP FD PL ⊢
  have UB := UBox.new w r b x
  have B0 := Lib.hid ((Below.refl w.heap.size w).alloc (Nat.le_refl _) (.cells #[.int .i64 r, .int .i64 b, .int .i64 x] 121))
  obtain ⟨wa, hwa⟩ : ∃ wa, wa = w.alloc (.cells #[.int .i64 r, .int .i64 b, .int .i64 x] 121) := ⟨_, rfl⟩
  rw [← hwa] at UB B0
  have GT := Lib.hid (show wa.heap.size = w.heap.size + 1 by rw [hwa]; simp)
  have HU := Lib.hid UB
  obtain ⟨i0, hi, hz0, hz1, hz2⟩ := info_parts intInfo
  have c1' : i0.bytes * d ≤ 281474976710656 := by rw [hz2]; omega
  have c2' : d ≤ maxLen := by unfold maxLen; omega
  obtain ⟨ha1, ha2⟩ := ha
  clear hx hV UB
  go_enter Try.func182, Try.ntmps182
  go_upto_region 1 with fail
  rw [← hwa]
  clear hwa
  go_wp2_with (at_make; refine wpList_make_full _ rfl _ _ 22 rfl wa.heap.size 3 i0 (.int .i64 0) 1 Try.underlying22 hi hz0 hz1 .i64 .i64 _ _ d rfl rfl rfl rfl c1' c2' (Nat.le_refl _) ?_; intro w3 hown hg2)
  have O2 := OwnV.made (rec_made hown)
  rw [← FZ.out] at O2
  have hlt0 := (Array.getElem?_eq_some_iff.1 HU.out).1
  have BA := (Below.refl wa.heap.size wa).grown hg2 (Nat.le_refl _) (fun q hq => by simp at hq)
  have HO2 := Lib.hid O2
  have HU2 := Lib.hid (HU.out.next BA)
  have BW := Lib.hid (B0.out.trans (BA.mono B0.out.size))
  have hsz : w.heap.size ≤ wa.heap.size := B0.out.size
  have hne : w.heap.size < wa.heap.size := hlt0
  clear hown hg2 c1' c2' hi hz0 hz1 hz2 O2 BA hlt0 HU B0
  obtain ⟨g, hg⟩ : ∃ g, g = wa.heap.size := ⟨_, rfl⟩
  rw [← hg] at HO2 hsz hne ⊢
  clear hg
  go_wp2_with fail
  go_loopg [13] d (fun gg i wr => ∃ k : Nat, k ≤ d ∧ d - k ≤ gg ∧ i = .int .i64 k ∧ Hid (OwnV wr g wr.heap.size (.slice (some ⟨g, 0, none⟩) d d) (fillL V d k)) ∧ Hid (UBox wr w.heap.size r b x) ∧ Hid (Below w.heap.size w wr))
  case atStart => exact ⟨0, Nat.zero_le _, by omega, rfl, HO2, HU2, BW⟩
  case round =>
    clear HO2 HU2 BW
    obtain ⟨k, hk, hgg, rfl, HO, HU, HB⟩ := hrel
    by_cases hlt : k < d
    · have k1 : (k : Int) < (d : Int) := by omega
      have hold := HO.out.cellGet (j := k) (by rw [FL.out]; exact hlt)
      have hfz := HO.out.frozenGet k
      obtain ⟨x0, x1, x2⟩ := HU.out.cells
      obtain ⟨f1, f2, f3⟩ := FD.out k (by omega)
      have fs := FS.out k hlt
      obtain ⟨p, hp⟩ : ∃ p, p = (k : Int) * x := ⟨_, rfl⟩
      rw [← hp] at f1 f2 f3
      rw [f1] at fs
      have O5 : Hid (OwnV (wr.setCell ⟨g, k, none⟩ (.int .i64 (a + p))) g (wr.setCell ⟨g, k, none⟩ (.int .i64 (a + p))).heap.size (.slice (some ⟨g, 0, none⟩) d d) (fillL V d (k + 1))) := Lib.hid (by
        have h := (HO.out.setAt k (x := a + p) (by unfold InI64; omega))
        rw [fs] at h
        simpa [World.setCell] using h)
      have U5 := Lib.hid (HU.out.far (g := g) (o := k) (v := .int .i64 (a + p)) (by omega))
      have B5 := Lib.hid (HB.out.setCell (p := ⟨g, k, none⟩) hsz (.int .i64 (a + p)))
      have W1 : IntKind.i64.wrap ((k : Int) * x) = p := by rw [← hp]; exact IntWalk.i64_in _ (by omega)
      clear HO HU HB fs hp f1
      go_wp2_with fail
      go_roundg (d - (k + 1))
      case rel => exact ⟨k + 1, by omega, by omega, by go_num, O5, U5, B5⟩
      case measure => omega
    · have hkd : k = d := by omega
      have FIN : Hid (NewB (preL V d) w (.returned (.slice (some ⟨g, 0, none⟩) d d)) wr) := Lib.hid (by
        have h := HO.out
        rw [hkd, FP.out] at h
        exact ⟨g, d, by rw [PL.out], hsz, h.rowB, HB.out⟩)
      have k1 : ¬ (k : Int) < (d : Int) := by omega
      clear hkd
      go_wp2_with fail
      go_ret
      exact FIN.out
theorem wrap_mul (a b : Int) : IntKind.i64.wrap (IntKind.i64.wrap a * b) = IntKind.i64.wrap (a * b) := by
  rw [IntKind.wrap_i64, IntKind.wrap_i64, IntKind.wrap_i64]
  obtain ⟨q, hq⟩ : ∃ q : Int, (a + 9223372036854775808) % 18446744073709551616 - 9223372036854775808 = a + q * 18446744073709551616 := ⟨-((a + 9223372036854775808) / 18446744073709551616), by omega⟩
  rw [hq, Int.add_mul, Int.mul_assoc, Int.mul_comm 18446744073709551616 b, ← Int.mul_assoc]
  omega
end Go.Proofs.Ytligidmkhbcpmac
