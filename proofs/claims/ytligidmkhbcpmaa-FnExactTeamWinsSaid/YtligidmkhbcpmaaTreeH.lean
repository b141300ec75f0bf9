/- What the laws' helpers do with trees. -/
import Derived.Test.YtligidmkhbcpmaaPrm
import Derived.Test.YtligidmkhbcpmaaInts2
import Derived.WalkKit
import Derived.ProofKit
import Derived.Outline
import Derived.Lib.Hide
import Derived.WalkSpells
namespace Go.Proofs.Ytligidmkhbcpmaa
open Go.RowKit
set_option linter.unusedVariables false
/-- A value that is a tree with these parents and weights. -/
def TreeV (w : World) (B : Nat) (v : Value) (ps ws : List Int) : Prop := ∃ v1 v2, v = .agg #[v1, v2] ∧ IntsV w B v1 ps ∧ IntsV w B v2 ws
theorem TreeV.below {w w' : World} {B : Nat} {v : Value} {ps ws : List Int} (h : TreeV w B v ps ws) (hb : Below B w w') : TreeV w' B v ps ws := by
  obtain ⟨v1, v2, e, a, b⟩ := h; exact ⟨v1, v2, e, a.below hb, b.below hb⟩
theorem TreeV.more {w : World} {B B' : Nat} {v : Value} {ps ws : List Int} (h : TreeV w B v ps ws) (hB : B ≤ B') : TreeV w B' v ps ws := by
  obtain ⟨v1, v2, e, a, b⟩ := h; exact ⟨v1, v2, e, a.more hB, b.more hB⟩
theorem TreeV.alt {w w' : World} {B lo hi : Nat} {v : Value} {ps ws : List Int} (h : TreeV w B v ps ws) (ha : Alt lo hi w w') (hB : B ≤ lo) (hl : lo ≤ w.heap.size) : TreeV w' B v ps ws := h.below ((ha.below hl).mono hB)
/-- A tree in memory of a call's own. -/
def OwnTree (w : World) (lo hi : Nat) (v : Value) (ps ws : List Int) : Prop := ∃ v1 v2 mid, v = .agg #[v1, v2] ∧ lo ≤ mid ∧ mid ≤ hi ∧ OwnV w lo mid v1 ps ∧ OwnV w mid hi v2 ws
theorem OwnTree.treeV {w : World} {lo hi : Nat} {v : Value} {ps ws : List Int} (h : OwnTree w lo hi v ps ws) : TreeV w hi v ps ws := by
  obtain ⟨v1, v2, mid, e, h1, h2, a, b⟩ := h; exact ⟨v1, v2, e, a.intsV.more h2, b.intsV⟩
theorem OwnTree.below {w w' : World} {lo hi : Nat} {v : Value} {ps ws : List Int} (h : OwnTree w lo hi v ps ws) (hb : Below hi w w') : OwnTree w' lo hi v ps ws := by
  obtain ⟨v1, v2, mid, e, h1, h2, a, b⟩ := h; exact ⟨v1, v2, mid, e, h1, h2, a.below (hb.mono h2), b.below hb⟩
theorem OwnTree.alt {w w' : World} {lo hi lo' hi' : Nat} {v : Value} {ps ws : List Int} (h : OwnTree w lo hi v ps ws) (ha : Alt lo' hi' w w') (hd : hi ≤ lo' ∨ hi' ≤ lo) : OwnTree w' lo hi v ps ws := by
  obtain ⟨v1, v2, mid, e, h1, h2, a, b⟩ := h; exact ⟨v1, v2, mid, e, h1, h2, a.alt ha (by omega), b.alt ha (by omega)⟩
/-- A copy of a tree in new memory. -/
def NewTree (ps ws : List Int) (w : World) (e : Ending) (w' : World) : Prop :=
  ∃ v, e = .returned v ∧ OwnTree w' w.heap.size w'.heap.size v ps ws ∧ Below w.heap.size w w'
/-- What is left of a size behind two lists; below 0 if they are too long. -/
def leftOf (l : Int) (ps ws : List Int) : Int := if l < ps.length then -1 else if l - ps.length < ws.length then -1 else l - ps.length - ws.length
theorem Alt.alloc (w : World) (lo hi : Nat) (o : Obj) : Alt lo hi w (w.alloc o) :=
  ⟨rfl, rfl, rfl, by simp, fun i hi _ => by show (w.heap.push o)[i]? = _; rw [Array.getElem?_push, if_neg (by omega)]⟩
theorem Alt.setC (w : World) (b o : Nat) (v : Value) : Alt b (b + 1) w (w.setCell ⟨b, o, none⟩ v) := by
  refine ⟨rfl, rfl, rfl, by simp [World.setCell], fun i hi hne => ?_⟩
  exact heap_setCell_other w _ _ _ (by show i ≠ b; omega)
theorem heap_three (w : World) (a b c : Obj) : (((w.alloc a).alloc b).alloc c).heap[w.heap.size]? = some a ∧ (((w.alloc a).alloc b).alloc c).heap[w.heap.size + 1]? = some b ∧ (((w.alloc a).alloc b).alloc c).heap[w.heap.size + 1 + 1]? = some c := by
  show (((w.heap.push a).push b).push c)[w.heap.size]? = _ ∧ (((w.heap.push a).push b).push c)[w.heap.size + 1]? = _ ∧ (((w.heap.push a).push b).push c)[w.heap.size + 1 + 1]? = _
  refine ⟨?_, ?_, ?_⟩
  · rw [Array.getElem?_push, if_neg (by simp; omega), Array.getElem?_push, if_neg (by simp), Array.getElem?_push, if_pos rfl]
  · rw [Array.getElem?_push, if_neg (by simp), Array.getElem?_push, if_pos (by simp)]
  · rw [Array.getElem?_push, if_pos (by simp)]
/-- Old cells read as before. -/
theorem bcell {B : Nat} {w w1 : World} (hb : Below B w w1) : (∀ b o, b < B → w1.cell? ⟨b, o, none⟩ = w.cell? ⟨b, o, none⟩) ∧ (∀ b o, b < B → w1.frozen? ⟨b, o, none⟩ = w.frozen? ⟨b, o, none⟩) :=
  ⟨fun b o h => hb.cell (p := ⟨b, o, none⟩) h, fun b o h => hb.frozen (p := ⟨b, o, none⟩) h⟩
end Go.Proofs.Ytligidmkhbcpmaa
