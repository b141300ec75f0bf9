/- What the laws' helpers do with trees. -/
import Derived.Test.YtligidmkhbcpmacPrm
import Derived.Test.YtligidmkhbcpmacInts2
import Derived.WalkKit
import Derived.ProofKit
import Derived.Outline
import Derived.Lib.Hide
import Derived.WalkSpells
namespace Go.Proofs.Ytligidmkhbcpmac
open Go.RowKit
set_option linter.unusedVariables false
/-- A value that is a tree with these parents and weights. -/
def TreeV (w : World) (B : Nat) (v : Value) (ps ws : List Int) : Prop := ∃ v1 v2, v = .agg #[v1, v2] ∧ IntsV w B v1 ps ∧ IntsV w B v2 ws
theorem TreeV.below {w w' : World} {B : Nat} {v : Value} {ps ws : List Int} (h : TreeV w B v ps ws) (hb : Below B w w') : TreeV w' B v ps ws := by
  obtain ⟨v1, v2, e, a, b⟩ := h; exact ⟨v1, v2, e, a.below hb, b.below hb⟩
theorem TreeV.more {w : World} {B B' : Nat} {v : Value} {ps ws : List Int} (h : TreeV w B v ps ws) (hB : B ≤ B') : TreeV w B' v ps ws := by
  obtain ⟨v1, v2, e, a, b⟩ := h; exact ⟨v1, v2, e, a.more hB, b.more hB⟩
theorem TreeV.alt {w w' : World} {B lo hi : Nat} {v : Value} {ps ws : List Int} (h : TreeV w B v ps ws) (ha : Alt lo hi w w') (hB : B ≤ lo) (hl : lo ≤ w.heap.size) : TreeV w' B v ps ws := h.below ((ha.below hl).mono hB)
/-- A tree in memory of a call's own. -/
def OwnTree (w : World) (lo hi : Nat) (v : Value) (ps ws : List Int) : Prop := ∃ v1 v2 mid, v = .agg #[v1, v2] ∧ lo ≤ mid ∧ mid ≤ hi ∧ OwnV w lo mid v1 ps ∧ OwnV w mid hi v2 ws
theorem OwnTree.treeV {w : World} {lo hi : Nat} {v : Value} {ps ws : List Int} (h : OwnTree w lo hi v ps ws) : TreeV w hi v ps ws := by
  obtain ⟨v1, v2, mid, e, h1, h2, a, b⟩ := h; exact ⟨v1, v2, e, a.intsV.more h2, b.intsV⟩
theorem OwnTree.below {w w' : World} {lo hi : Nat} {v : Value} {ps ws : List Int} (h : OwnTree w lo hi v ps ws) (hb : Below hi w w') : OwnTree w' lo hi v ps ws := by
  obtain ⟨v1, v2, mid, e, h1, h2, a, b⟩ := h; exact ⟨v1, v2, mid, e, h1, h2, a.below (hb.mono h2), b.below hb⟩
theorem OwnTree.alt {w w' : World} {lo hi lo' hi' : Nat} {v : Value} {ps ws : List Int} (h : OwnTree w lo hi v ps ws) (ha : Alt lo' hi' w w') (hd : hi ≤ lo' ∨ hi' ≤ lo) : OwnTree w' lo hi v ps ws := by
  obtain ⟨v1, v2, mid, e, h1, h2, a, b⟩ := h; exact ⟨v1, v2, mid, e, h1, h2, a.alt ha (by omega), b.alt ha (by omega)⟩
/-- A copy of a tree in new memory. -/
def NewTree (ps ws : List Int) (w : World) (e : Ending) (w' : World) : Prop :=
  ∃ v, e = .returned v ∧ OwnTree w' w.heap.size w'.heap.size v ps ws ∧ Below w.heap.size w w'
/-- What is left of a size behind two lists; below 0 if they are too long. -/
def leftOf (l : Int) (ps ws : List Int) : Int := if l < ps.length then -1 else if l - ps.length < ws.length then -1 else l - ps.length - ws.length
theorem Alt.alloc (w : World) (lo hi : Nat) (o : Obj) : Alt lo hi w (w.alloc o) :=
  ⟨rfl, rfl, rfl, by simp, fun i hi _ => by show (w.heap.push o)[i]? = _; rw [Array.getElem?_push, if_neg (by omega)]⟩
theorem Alt.setC (w : World) (b o : Nat) (v : Value) : Alt b (b + 1) w (w.setCell ⟨b, o, none⟩ v) := by
  refine ⟨rfl, rfl, rfl, by simp [World.setCell], fun i hi hne => ?_⟩
  exact heap_setCell_other w _ _ _ (by show i ≠ b; omega)
theorem heap_three (w : World) (a b c : Obj) : (((w.alloc a).alloc b).alloc c).heap[w.heap.size]? = some a ∧ (((w.alloc a).alloc b).alloc c).heap[w.heap.size + 1]? = some b ∧ (((w.alloc a).alloc b).alloc c).heap[w.heap.size + 1 + 1]? = some c := by
  show (((w.heap.push a).push b).push c)[w.heap.size]? = _ ∧ (((w.heap.push a).push b).push c)[w.heap.size + 1]? = _ ∧ (((w.heap.push a).push b).push c)[w.heap.size + 1 + 1]? = _
  refine ⟨?_, ?_, ?_⟩
  · rw [Array.getElem?_push, if_neg (by simp; omega), Array.getElem?_push, if_neg (by simp), Array.getElem?_push, if_pos rfl]
  · rw [Array.getElem?_push, if_neg (by simp), Array.getElem?_push, if_pos (by simp)]
  · rw [Array.getElem?_push, if_pos (by simp)]
/-- Old cells read as before. -/
theorem bcell {B : Nat} {w w1 : World} (hb : Below B w w1) : (∀ b o, b < B → w1.cell? ⟨b, o, none⟩ = w.cell? ⟨b, o, none⟩) ∧ (∀ b o, b < B → w1.frozen? ⟨b, o, none⟩ = w.frozen? ⟨b, o, none⟩) :=
  ⟨fun b o h => hb.cell (p := ⟨b, o, none⟩) h, fun b o h => hb.frozen (p := ⟨b, o, none⟩) h⟩
theorem szT (ps ws : List Int) (v : Value) (B : Nat) (left : Int) (w : World) (hl : -1 ≤ left) (hl2 : left ≤ 1048576) (hB : B ≤ w.heap.size) (h : TreeV w B v ps ws) :
    Calls Try.prog 12 #[v, .int .i64 left] w fun e w' => e = .returned (.int .i64 (leftOf left ps ws)) ∧ Below w.heap.size w w' := by
  obtain ⟨v1, v2, rfl, h1, h2⟩ := h
  have hl1 := h1.len
  have hl3 := h2.len
  have S1 := Lib.hid (fun w' (hb : Below w.heap.size w w') => szI ps v1 B left w' hl hl2 (h1.below (hb.mono hB)))
  have S2 := Lib.hid (fun w' (hb : Below w.heap.size w w') (l : Int) (a : -1 ≤ l) (b : l ≤ 1048576) => szI ws v2 B l w' a b (h2.below (hb.mono hB)))
  have B1 := (Below.refl w.heap.size w).alloc (Nat.le_refl _) (.cells #[v1, v2] 24)
  clear h1 h2
  by_cases c1 : left < ps.length
  · have hr : leftOf left ps ws = -1 := by unfold leftOf; rw [if_pos c1]
    rw [hr]
    go_enter Try.func12, Try.ntmps12
    go_wp2_with fail
    refine (S1.out _ B1).mono ?_
    rintro e w1 ⟨rfl, rfl⟩
    rw [if_pos c1]
    go_wp2_with fail
    go_ret
    exact ⟨rfl, B1⟩
  · by_cases c2 : left - ps.length < ws.length
    · have hr : leftOf left ps ws = -1 := by unfold leftOf; rw [if_neg c1, if_pos c2]
      rw [hr]
      have n1 : ¬ left - (ps.length : Int) < 0 := by omega
      go_enter Try.func12, Try.ntmps12
      go_wp2_with fail
      refine (S1.out _ B1).mono ?_
      rintro e w1 ⟨rfl, rfl⟩
      rw [if_neg (by omega)]
      go_wp2_with fail
      refine (S2.out _ B1 _ (by omega) (by omega)).mono ?_
      rintro e w1 ⟨rfl, rfl⟩
      rw [if_pos c2]
      go_wp2_with fail
      go_ret
      exact ⟨rfl, B1⟩
    · have hr : leftOf left ps ws = left - ps.length - ws.length := by unfold leftOf; rw [if_neg c1, if_neg c2]
      rw [hr]
      have n1 : ¬ left - (ps.length : Int) < 0 := by omega
      have n2 : ¬ left - (ps.length : Int) - (ws.length : Int) < 0 := by omega
      go_enter Try.func12, Try.ntmps12
      go_wp2_with fail
      refine (S1.out _ B1).mono ?_
      rintro e w1 ⟨rfl, rfl⟩
      rw [if_neg (by omega)]
      go_wp2_with fail
      refine (S2.out _ B1 _ (by omega) (by omega)).mono ?_
      rintro e w1 ⟨rfl, rfl⟩
      rw [if_neg (by omega)]
      go_wp2_with fail
      go_ret
      exact ⟨rfl, B1⟩
set_option maxHeartbeats 1000000 in
theorem toT (ps ws : List Int) (v : Value) (w : World) (hp : ps.length ≤ 1048576) (hw : ws.length ≤ 1048576) (h : TreeV w w.heap.size v ps ws) :
    Calls Try.prog 14 #[v] w (NewTree ps ws w) := by
  obtain ⟨v1, v2, rfl, h1, h2⟩ := h
  have S1 := Lib.hid (fun w' (hb : Below w.heap.size w w') => toI ps v1 w' hp ((h1.below hb).more hb.size))
  have S2 := Lib.hid (fun w' (hb : Below w.heap.size w w') => toI ws v2 w' hw ((h2.below hb).more hb.size))
  clear h1 h2
  have B3 := (((Below.refl w.heap.size w).alloc (Nat.le_refl _) (.cells #[v1, v2] 24)).alloc (by simp) (.cells #[.slice none 0 0, .slice none 0 0] 29)).alloc (by simp; omega) (.cells #[.slice none 0 0, .slice none 0 0] 29)
  go_enter Try.func14, Try.ntmps14
  go_wp2_with fail
  refine (S1.out _ B3).mono ?_
  rintro e w1 ⟨u1, rfl, o1, b1⟩
  obtain ⟨p1, c1, rfl, _⟩ := o1.intsV
  have hz1 := b1.size
  simp at hz1
  obtain ⟨hh0, hh1, hh2⟩ := heap_three w (.cells #[v1, v2] 24) (.cells #[.slice none 0 0, .slice none 0 0] 29) (.cells #[.slice none 0 0, .slice none 0 0] 29)
  have k0 := (b1.block w.heap.size (by simp; omega)).trans hh0
  have k1 := (b1.block (w.heap.size + 1) (by simp)).trans hh1
  have k2 := (b1.block (w.heap.size + 1 + 1) (by simp)).trans hh2
  obtain ⟨x01, _⟩ := cell_of_heap (o := 1) k0 rfl
  obtain ⟨x10, y10⟩ := cell_of_heap (o := 0) k1 rfl
  obtain ⟨x11, y11⟩ := cell_of_heap (o := 1) k1 rfl
  obtain ⟨x20, y20⟩ := cell_of_heap (o := 0) k2 rfl
  obtain ⟨x21, y21⟩ := cell_of_heap (o := 1) k2 rfl
  clear hh0 hh1 hh2 k0 k1 k2
  have B4 := Lib.hid (B3.trans (b1.mono (by simp; omega)))
  have O1 := Lib.hid o1
  have B1 := Lib.hid b1
  clear o1 b1 B3
  go_wp2_with fail
  have B5 := Lib.hid (B4.out.setCell (p := ⟨w.heap.size + 1 + 1, 0, none⟩) (by simp; omega) (.slice p1 ps.length c1))
  have O2 := Lib.hid (OwnV.low (O1.out.alt (Alt.setC w1 (w.heap.size + 1 + 1) 0 (.slice p1 ps.length c1)) (.inr (by simp))) (show w.heap.size + 1 + 1 + 1 ≤ _ by simp))
  refine (S2.out _ B5.out).mono ?_
  rintro e w2 ⟨u2, rfl, o2, b2⟩
  obtain ⟨p2, c2, rfl, _⟩ := o2.intsV
  have hz2 := b2.size
  simp at hz2
  obtain ⟨hc2, hf2⟩ := bcell (b2.mono (Nat.le_of_eq (show w1.heap.size = _ by simp [World.setCell])))
  have z20 : w2.cell? ⟨w.heap.size + 1 + 1, 0, none⟩ = some (.slice p1 ps.length c1) := by rw [hc2 _ _ (by omega)]; exact World.cell?_setCell_same w1 _ _ x20
  have z21 : w2.cell? ⟨w.heap.size + 1 + 1, 1, none⟩ = some (.slice none 0 0) := by rw [hc2 _ _ (by omega), World.cell?_setCell_other w1 _ _ _ (by simp)]; exact x21
  have z10 : w2.cell? ⟨w.heap.size + 1, 0, none⟩ = some (.slice none 0 0) := by rw [hc2 _ _ (by omega), World.cell?_setCell_other w1 _ _ _ (by simp)]; exact x10
  have z11 : w2.cell? ⟨w.heap.size + 1, 1, none⟩ = some (.slice none 0 0) := by rw [hc2 _ _ (by omega), World.cell?_setCell_other w1 _ _ _ (by simp)]; exact x11
  have t21 : w2.frozen? ⟨w.heap.size + 1 + 1, 1, none⟩ = false := by rw [hf2 _ _ (by omega)]; simpa using y21
  have t10 : w2.frozen? ⟨w.heap.size + 1, 0, none⟩ = false := by rw [hf2 _ _ (by omega)]; simpa using y10
  have t11 : w2.frozen? ⟨w.heap.size + 1, 1, none⟩ = false := by rw [hf2 _ _ (by omega)]; simpa using y11
  clear hc2 hf2 x01 x10 x11 x20 x21 y10 y11 y20 y21
  have B6 := Lib.hid (B5.out.trans (b2.mono B5.out.size))
  have O3 := Lib.hid (O2.out.below (b2.mono (Nat.le_of_eq (by simp [World.setCell]))))
  have O4 := Lib.hid o2
  clear o2 b2
  go_wp2_with fail
  have O3' : OwnV w2 (w.heap.size + 1 + 1 + 1) w1.heap.size (.slice p1 ps.length c1) ps := O3.out
  have hz3 : (w1.setCell ⟨w.heap.size + 1 + 1, 0, none⟩ (.slice p1 ps.length c1)).heap.size = w1.heap.size := by simp [World.setCell]
  have FIN : Hid (∀ wf, Alt (w.heap.size + 1) (w.heap.size + 1 + 1 + 1) w2 wf → wf.heap.size = w2.heap.size → NewTree ps ws w (.returned (.agg #[.slice p1 ps.length c1, .slice p2 ws.length c2])) wf) := Lib.hid (fun wf ha hs => by
    rw [hz3] at O4
    refine ⟨_, rfl, ⟨_, _, w1.heap.size, rfl, by omega, by rw [hs]; exact hz2, ?_, ?_⟩, B6.out.trans ((ha.below (by omega)).mono (by omega))⟩
    · exact (O3'.alt ha (.inr (Nat.le_refl _))).low (by omega)
    · rw [hs]; exact O4.out.alt ha (.inr (by omega)))
  clear O1 O3 O4 B1 B4 B5 O2 hz3
  go_wp2_with fail
  refine bodyPost_ret (v := .agg #[.slice p1 ps.length c1, .slice p2 ws.length c2]) (by simp [results, Try.results14, go_sem, z10, z11]) rfl (FIN.out _ (((Alt.setC w2 (w.heap.size + 1 + 1) 1 _).wide (by omega) (by omega)).trans (((Alt.setC _ (w.heap.size + 1) 0 _).wide (by omega) (by omega)).trans ((Alt.setC _ (w.heap.size + 1) 1 _).wide (by omega) (by omega)))) (by simp [World.setCell]))
theorem eqT (ps ws : List Int) (v u : Value) (B C : Nat) (w : World) (hp : TreeV w B v ps ws) (hq : TreeV w C u ps ws) (hB : B ≤ w.heap.size) (hC : C ≤ w.heap.size) :
    Calls Try.prog 18 #[v, u] w fun e w' => e = .returned (.bool true) ∧ Below w.heap.size w w' := by
  obtain ⟨v1, v2, rfl, h1, h2⟩ := hp
  obtain ⟨u1, u2, rfl, g1, g2⟩ := hq
  have S1 := Lib.hid (fun w' (hb : Below w.heap.size w w') => eqI ps v1 u1 B C w' (h1.below (hb.mono hB)) (g1.below (hb.mono hC)))
  have S2 := Lib.hid (fun w' (hb : Below w.heap.size w w') => eqI ws v2 u2 B C w' (h2.below (hb.mono hB)) (g2.below (hb.mono hC)))
  clear h1 h2 g1 g2
  have B3 := ((Below.refl w.heap.size w).alloc (Nat.le_refl _) (.cells #[v1, v2] 29)).alloc (by simp) (.cells #[u1, u2] 29)
  go_enter Try.func18, Try.ntmps18
  go_wp2_with fail
  refine (S1.out _ B3).mono ?_
  rintro e w1 ⟨rfl, n, rfl⟩
  go_wp2_with fail
  refine (S2.out _ (below_drewN B3 n)).mono ?_
  rintro e w1 ⟨rfl, m, rfl⟩
  go_wp2_with fail
  go_ret
  exact ⟨rfl, below_drewN B3 _⟩
end Go.Proofs.Ytligidmkhbcpmac
