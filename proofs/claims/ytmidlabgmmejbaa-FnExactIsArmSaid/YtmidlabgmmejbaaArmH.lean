/- What the laws' helpers do with arms. -/
import Derived.Test.YtmidlabgmmejbaaLawX
import Derived.Test.YtmidlabgmmejbaaIsTree
namespace Go.Proofs.Ytmidlabgmmejbaa
open Go.RowKit Go.WideShapes Go.ChangeShapes Go.Joins
set_option linter.unusedVariables false
/-- A value that is a arm with these parents, weights and fees. -/
def ArmV (w : World) (B : Nat) (v : Value) (ps ws cs : List Int) : Prop := ∃ v1 v2 v3, v = .agg #[v1, v2, v3] ∧ IntsV w B v1 ps ∧ IntsV w B v2 ws ∧ IntsV w B v3 cs
theorem ArmV.below {w w' : World} {B : Nat} {v : Value} {ps ws cs : List Int} (h : ArmV w B v ps ws cs) (hb : Below B w w') : ArmV w' B v ps ws cs := by
  obtain ⟨v1, v2, v3, e, a, b, c⟩ := h; exact ⟨v1, v2, v3, e, a.below hb, b.below hb, c.below hb⟩
theorem ArmV.more {w : World} {B B' : Nat} {v : Value} {ps ws cs : List Int} (h : ArmV w B v ps ws cs) (hB : B ≤ B') : ArmV w B' v ps ws cs := by
  obtain ⟨v1, v2, v3, e, a, b, c⟩ := h; exact ⟨v1, v2, v3, e, a.more hB, b.more hB, c.more hB⟩
theorem ArmV.alt {w w' : World} {B lo hi : Nat} {v : Value} {ps ws cs : List Int} (h : ArmV w B v ps ws cs) (ha : Alt lo hi w w') (hB : B ≤ lo) (hl : lo ≤ w.heap.size) : ArmV w' B v ps ws cs := h.below ((ha.below hl).mono hB)
theorem ArmV.boxed {w w' : World} {v : Value} {ps ws cs : List Int} (h : ArmV w w.heap.size v ps ws cs) (hb : Below w.heap.size w w') : ArmV w' w'.heap.size v ps ws cs := (h.below hb).more hb.size
theorem ArmV.shape {w : World} {B : Nat} {v : Value} {ps ws cs : List Int} (h : ArmV w B v ps ws cs) : ∃ p1 c1 p2 c2 p3 c3, v = .agg #[.slice p1 ps.length c1, .slice p2 ws.length c2, .slice p3 cs.length c3] := by
  obtain ⟨v1, v2, v3, e, ⟨p1, c1, e1, _⟩, ⟨p2, c2, e2, _⟩, ⟨p3, c3, e3, _⟩⟩ := h
  exact ⟨p1, c1, p2, c2, p3, c3, by rw [e, e1, e2, e3]⟩
theorem ArmV.tree {w : World} {B : Nat} {v1 v2 v3 : Value} {ps ws cs : List Int} (h : ArmV w B (.agg #[v1, v2, v3]) ps ws cs) : TreeV w B (.agg #[v1, v2]) ps ws ∧ IntsV w B v3 cs := by
  obtain ⟨u1, u2, u3, e, a, b, c⟩ := h
  injection e with e
  injection e with e
  injection e with e1 e
  injection e with e2 e
  injection e with e3 e
  subst e1; subst e2; subst e3
  exact ⟨⟨_, _, rfl, a, b⟩, c⟩
/-- A arm in memory of a call's own. -/
def OwnArm (w : World) (lo hi : Nat) (v : Value) (ps ws cs : List Int) : Prop := ∃ v1 v2 v3 m1 m2, v = .agg #[v1, v2, v3] ∧ lo ≤ m1 ∧ m1 ≤ m2 ∧ m2 ≤ hi ∧ OwnV w lo m1 v1 ps ∧ OwnV w m1 m2 v2 ws ∧ OwnV w m2 hi v3 cs
theorem OwnArm.armV {w : World} {lo hi : Nat} {v : Value} {ps ws cs : List Int} (h : OwnArm w lo hi v ps ws cs) : ArmV w hi v ps ws cs := by
  obtain ⟨v1, v2, v3, m1, m2, e, h1, h2, h3, a, b, c⟩ := h; exact ⟨v1, v2, v3, e, a.intsV.more (by omega), b.intsV.more h3, c.intsV⟩
theorem OwnArm.below {w w' : World} {lo hi : Nat} {v : Value} {ps ws cs : List Int} (h : OwnArm w lo hi v ps ws cs) (hb : Below hi w w') : OwnArm w' lo hi v ps ws cs := by
  obtain ⟨v1, v2, v3, m1, m2, e, h1, h2, h3, a, b, c⟩ := h; exact ⟨v1, v2, v3, m1, m2, e, h1, h2, h3, a.below (hb.mono (by omega)), b.below (hb.mono h3), c.below hb⟩
theorem OwnArm.alt {w w' : World} {lo hi lo' hi' : Nat} {v : Value} {ps ws cs : List Int} (h : OwnArm w lo hi v ps ws cs) (ha : Alt lo' hi' w w') (hd : hi ≤ lo' ∨ hi' ≤ lo) : OwnArm w' lo hi v ps ws cs := by
  obtain ⟨v1, v2, v3, m1, m2, e, h1, h2, h3, a, b, c⟩ := h; exact ⟨v1, v2, v3, m1, m2, e, h1, h2, h3, a.alt ha (by omega), b.alt ha (by omega), c.alt ha (by omega)⟩
theorem OwnArm.shape {w : World} {lo hi : Nat} {v : Value} {ps ws cs : List Int} (h : OwnArm w lo hi v ps ws cs) : ∃ p1 c1 p2 c2 p3 c3, v = .agg #[.slice p1 ps.length c1, .slice p2 ws.length c2, .slice p3 cs.length c3] := h.armV.shape
theorem OwnArm.armAt {w : World} {lo hi : Nat} {v : Value} {ps ws cs : List Int} (h : OwnArm w lo hi v ps ws cs) (hh : hi ≤ w.heap.size) : ArmV w w.heap.size v ps ws cs := h.armV.more hh
theorem OwnArm.of {w w2 : World} {lo m2 hi : Nat} {v1 v2 v3 : Value} {ps ws cs : List Int} (h : OwnTree w lo m2 (.agg #[v1, v2]) ps ws) (c : OwnV w m2 hi v3 cs) (h3 : m2 ≤ hi) : OwnArm w lo hi (.agg #[v1, v2, v3]) ps ws cs := by
  obtain ⟨u1, u2, m1, e, h1, h2, a, b⟩ := h
  injection e with e
  injection e with e
  injection e with e1 e
  injection e with e2 e
  subst e1; subst e2
  exact ⟨_, _, _, m1, m2, rfl, h1, h2, h3, a, b, c⟩
theorem OwnArm.parts {w : World} {lo hi : Nat} {v1 v2 v3 : Value} {ps ws cs : List Int} (h : OwnArm w lo hi (.agg #[v1, v2, v3]) ps ws cs) : ∃ m2, lo ≤ m2 ∧ m2 ≤ hi ∧ OwnTree w lo m2 (.agg #[v1, v2]) ps ws ∧ OwnV w m2 hi v3 cs := by
  obtain ⟨u1, u2, u3, m1, m2, e, h1, h2, h3, a, b, c⟩ := h
  injection e with e
  injection e with e
  injection e with e1 e
  injection e with e2 e
  injection e with e3 e
  subst e1; subst e2; subst e3
  exact ⟨m2, by omega, h3, ⟨_, _, m1, rfl, h1, h2, a, b⟩, c⟩
/-- A copy of a arm in new memory. -/
def NewArm (ps ws cs : List Int) (w : World) (e : Ending) (w' : World) : Prop :=
  ∃ v, e = .returned v ∧ OwnArm w' w.heap.size w'.heap.size v ps ws cs ∧ Below w.heap.size w w'
/-- What is left of a size behind three lists; below 0 if they are too long. -/
def leftA (l : Int) (ps ws cs : List Int) : Int := if leftOf l ps ws < 0 then -1 else if leftOf l ps ws < cs.length then -1 else leftOf l ps ws - cs.length
/-- The law's own box of the arm that came in. -/
def AMBox (W : World) (v1 v2 v3 : Value) : World := W.alloc (.cells #[v1, v2, v3] 26)
theorem ambox_below (W : World) (v1 v2 v3 : Value) : Below W.heap.size W (AMBox W v1 v2 v3) := (Below.refl _ _).alloc (Nat.le_refl _) _
theorem ambox_size (W : World) (v1 v2 v3 : Value) : (AMBox W v1 v2 v3).heap.size = W.heap.size + 1 := by simp [AMBox]
theorem ambox_cells {W w1 : World} {v1 v2 v3 : Value} (hb : Below (AMBox W v1 v2 v3).heap.size (AMBox W v1 v2 v3) w1) : w1.cell? ⟨W.heap.size, 0, none⟩ = some v1 ∧ w1.cell? ⟨W.heap.size, 1, none⟩ = some v2 ∧ w1.cell? ⟨W.heap.size, 2, none⟩ = some v3 := by
  have k := (hb.block W.heap.size (by rw [ambox_size]; omega)).trans (alloc_heap W (.cells #[v1, v2, v3] 26))
  exact ⟨(cell_of_heap (o := 0) k rfl).1, (cell_of_heap (o := 1) k rfl).1, (cell_of_heap (o := 2) k rfl).1⟩
/-- A arm's box in the program. -/
theorem anbox_cells {w w1 : World} {v1 v2 v3 : Value} (hb : Below (w.alloc (.cells #[v1, v2, v3] 31)).heap.size (w.alloc (.cells #[v1, v2, v3] 31)) w1) : w1.cell? ⟨w.heap.size, 0, none⟩ = some v1 ∧ w1.cell? ⟨w.heap.size, 1, none⟩ = some v2 ∧ w1.cell? ⟨w.heap.size, 2, none⟩ = some v3 := by
  have k := (hb.block w.heap.size (by simp)).trans (alloc_heap w (.cells #[v1, v2, v3] 31))
  exact ⟨(cell_of_heap (o := 0) k rfl).1, (cell_of_heap (o := 1) k rfl).1, (cell_of_heap (o := 2) k rfl).1⟩
theorem leftA_ok {ps ws cs : List Int} (h : ¬ leftA 1048576 ps ws cs < 0) : ps.length ≤ 1048576 ∧ ws.length ≤ 1048576 ∧ cs.length ≤ 1048576 := by
  unfold leftA at h
  split at h
  · omega
  · next h1 =>
    obtain ⟨a, b⟩ := left_ok h1
    refine ⟨a, b, ?_⟩
    have hu : leftOf 1048576 ps ws ≤ 1048576 := by unfold leftOf; split <;> (try split) <;> omega
    split at h <;> omega
theorem left_bdA (l : Int) (ps ws : List Int) (h1 : -1 ≤ l) (h2 : l ≤ 1048576) : -1 ≤ leftOf l ps ws ∧ leftOf l ps ws ≤ 1048576 := by
  unfold leftOf; split <;> (try split) <;> omega
/-- The box of a arm while a call runs. -/
def AKBox (w : World) (B : Nat) (v1 v2 v3 : Value) : Prop := w.heap[B]? = some (.cells #[v1, v2, v3] 31 (0, 0))
theorem AKBox.lt {w : World} {B : Nat} {v1 v2 v3 : Value} (h : AKBox w B v1 v2 v3) : B < w.heap.size := by
  rcases Nat.lt_or_ge B w.heap.size with h' | h'
  · exact h'
  · unfold AKBox at h; rw [Array.getElem?_eq_none h'] at h; cases h
theorem AKBox.cells {w : World} {B : Nat} {v1 v2 v3 : Value} (h : AKBox w B v1 v2 v3) : w.cell? ⟨B, 0, none⟩ = some v1 ∧ w.cell? ⟨B, 1, none⟩ = some v2 ∧ w.cell? ⟨B, 2, none⟩ = some v3 :=
  ⟨(cell_of_heap (o := 0) h rfl).1, (cell_of_heap (o := 1) h rfl).1, (cell_of_heap (o := 2) h rfl).1⟩
theorem AKBox.below {w w1 : World} {B C : Nat} {v1 v2 v3 : Value} (h : AKBox w B v1 v2 v3) (hb : Below C w w1) (hB : B < C) : AKBox w1 B v1 v2 v3 := (hb.block B hB).trans h
theorem AKBox.set {w : World} {B g o : Nat} {v1 v2 v3 x : Value} (h : AKBox w B v1 v2 v3) (hg : B ≠ g) : AKBox (w.setCell ⟨g, o, none⟩ x) B v1 v2 v3 := (heap_setCell_other w _ _ _ hg).trans h
theorem szA (ps ws cs : List Int) (v : Value) (B : Nat) (left : Int) (w : World) (hl : -1 ≤ left) (hl2 : left ≤ 1048576) (hB : B ≤ w.heap.size) (h : ArmV w B v ps ws cs) :
    Calls Try.prog 12 #[v, .int .i64 left] w fun e w' => e = .returned (.int .i64 (leftA left ps ws cs)) ∧ Below w.heap.size w w' := by
  obtain ⟨v1, v2, v3, rfl, h1, h2, h3⟩ := h
  have hl3 := h3.len
  obtain ⟨lb1, lb2⟩ := left_bdA left ps ws hl hl2
  have S1 := Lib.hid (fun w' (hb : Below w.heap.size w w') => szT ps ws (.agg #[v1, v2]) B left w' hl hl2 (by have := hb.size; omega) (TreeV.below ⟨_, _, rfl, h1, h2⟩ (hb.mono hB)))
  have S2 := Lib.hid (fun w' (hb : Below w.heap.size w w') (l : Int) (a : -1 ≤ l) (b : l ≤ 1048576) => szI cs v3 B l w' a b (h3.below (hb.mono hB)))
  have B1 := (Below.refl w.heap.size w).alloc (Nat.le_refl _) (.cells #[v1, v2, v3] 26)
  have K1 := Lib.hid (fun w1 (hb : Below (w.alloc (.cells #[v1, v2, v3] 26)).heap.size (w.alloc (.cells #[v1, v2, v3] 26)) w1) => ambox_cells (W := w) (w1 := w1) (v1 := v1) (v2 := v2) (v3 := v3) hb)
  have D : Hid (leftA left ps ws cs = if leftOf left ps ws < 0 then -1 else if leftOf left ps ws < cs.length then -1 else leftOf left ps ws - cs.length) := Lib.hid rfl
  clear h1 h2 h3
  obtain ⟨l, hl⟩ : ∃ l, l = leftOf left ps ws := ⟨_, rfl⟩
  rw [← hl] at S1 D lb1 lb2
  clear hl
  obtain ⟨wa, hwa⟩ : ∃ wa, wa = w.alloc (.cells #[v1, v2, v3] 26) := ⟨_, rfl⟩
  rw [← hwa] at B1 K1
  obtain ⟨x0, x1, x2⟩ := K1.out _ (Below.refl _ _)
  by_cases c1 : l < 0
  · have hr := Lib.hid (show leftA left ps ws cs = -1 by rw [D.out, if_pos c1])
    go_enter Try.func12, Try.ntmps12
    go_wp2_with fail
    rw [← hwa]
    clear hwa
    refine (S1.out _ B1).mono ?_
    rintro e w1 ⟨rfl, b1⟩
    have HB := Lib.hid (B1.trans (b1.mono B1.size))
    clear b1
    go_wp2_with fail
    go_ret
    exact ⟨by rw [hr.out]; rfl, HB.out⟩
  · by_cases c2 : l < cs.length
    · have hr := Lib.hid (show leftA left ps ws cs = -1 by rw [D.out, if_neg c1, if_pos c2])
      go_enter Try.func12, Try.ntmps12
      go_wp2_with fail
      rw [← hwa]
      clear hwa
      refine (S1.out _ B1).mono ?_
      rintro e w1 ⟨rfl, b1⟩
      have HB := Lib.hid (B1.trans (b1.mono B1.size))
      obtain ⟨y0, y1, y2⟩ := K1.out _ b1
      clear b1 x0 x1 x2
      go_wp2_with fail
      refine (S2.out _ HB.out _ lb1 lb2).mono ?_
      rintro e w1 ⟨rfl, rfl⟩
      rw [if_pos (by omega)]
      go_wp2_with fail
      go_ret
      exact ⟨by rw [hr.out]; rfl, HB.out⟩
    · have hr := Lib.hid (show leftA left ps ws cs = l - cs.length by rw [D.out, if_neg c1, if_neg c2])
      have n2 : ¬ l - (cs.length : Int) < 0 := by omega
      go_enter Try.func12, Try.ntmps12
      go_wp2_with fail
      rw [← hwa]
      clear hwa
      refine (S1.out _ B1).mono ?_
      rintro e w1 ⟨rfl, b1⟩
      have HB := Lib.hid (B1.trans (b1.mono B1.size))
      obtain ⟨y0, y1, y2⟩ := K1.out _ b1
      clear b1 x0 x1 x2
      go_wp2_with fail
      refine (S2.out _ HB.out _ lb1 lb2).mono ?_
      rintro e w1 ⟨rfl, rfl⟩
      rw [if_neg (by omega)]
      go_wp2_with fail
      go_ret
      exact ⟨by rw [hr.out]; rfl, HB.out⟩
end Go.Proofs.Ytmidlabgmmejbaa
