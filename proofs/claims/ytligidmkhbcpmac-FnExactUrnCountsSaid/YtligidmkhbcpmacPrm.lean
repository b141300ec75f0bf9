/- What texts on rows of ints, boxes and calls lean on: worlds, rows of a call's own, results. -/
import Derived.Test.YtligidmkhbcpmacInts2
import Derived.Maps.AppendAt
import Derived.WalkKit
import Derived.ProofKit
import Derived.Outline
import Derived.Below
import Derived.Lib.Hide
import Derived.WalkSmall
import Derived.WalkSpells
namespace Go.Proofs.Ytligidmkhbcpmac
open Go.RowKit
set_option linter.unusedVariables false
theorem below_drewN {B : Nat} {a b : World} (h : Below B a b) (n : Nat) : Below B a (b.drewN n) := ⟨h.os, h.tape, h.output, h.size, h.block⟩
theorem cell_of_heap {w : World} {b o : Nat} {cs : Array Value} {t : TypeId} {v : Value} (h : w.heap[b]? = some (.cells cs t (0, 0))) (hv : cs[o]? = some v) : w.cell? ⟨b, o, none⟩ = some v ∧ w.frozen? ⟨b, o, none⟩ = false := by
  unfold World.cell? World.frozen?
  simp [h, hv]
theorem alloc_heap (w : World) (o : Obj) : (w.alloc o).heap[w.heap.size]? = some o := by
  show (w.heap.push o)[w.heap.size]? = _
  simp
/-- A cell of a slice of ints, by its place. -/
theorem IntsAt.get {w : World} {B : Nat} {p : Option Addr} {zs : List Int} (h : IntsAt w B p zs) {i : Nat} (hi : i < zs.length) :
    ∃ b off, p = some ⟨b, off, none⟩ ∧ b < B ∧ w.cell? ⟨b, off + i, none⟩ = some (.int .i64 (zs.getD i 0)) := by
  obtain ⟨b, off, e, hb, hc⟩ := h i hi
  exact ⟨b, off, e, hb, by rw [hc, List.getD_eq_getElem?_getD, List.getElem?_eq_getElem hi]; rfl⟩
theorem inI64_nat {k : Nat} (h : k ≤ 1000000000) : InI64 (k : Int) := by unfold InI64; omega
/-- An empty row in a new block. -/
theorem OwnV.empty (w : World) (lo : Nat) (hlo : lo ≤ w.heap.size) : OwnV (w.alloc (.cells #[] 3)) lo (w.alloc (.cells #[] 3)).heap.size (.slice (some ⟨w.heap.size, 0, none⟩) 0 0) [] := by
  refine ⟨⟨rfl, .inr ⟨w.heap.size, 0, #[], rfl, hlo, alloc_heap w _, by simp, by unfold maxLen; omega, rfl, rfl⟩⟩, ?_, Nat.le_refl _, by intro z hz; cases hz⟩
  intro q hq
  simp [Value.ownBlock] at hq
  subst hq
  simp
/-- One number more. -/
theorem OwnV.app {wr w3 : World} {lo : Nat} {o v' : Value} {L : List Int} {x : Int} (h : OwnV wr lo wr.heap.size o L) (hx : InI64 x)
    (hown : w3.ownsRow lo 3 1 v' (L.length + 1) (L.map (.int .i64) ++ [.int .i64 x])) : OwnV w3 lo w3.heap.size v' (L ++ [x]) := by
  refine ⟨?_, fun q hq => (hown.lt q hq).2, Nat.le_refl _, ?_⟩
  · rw [List.length_append, List.map_append]; exact hown
  · intro z hz
    rcases List.mem_append.1 hz with h' | h'
    · exact h.in64 z h'
    · simp at h'; subst h'; exact hx
/-- A row in new memory, and whether the call succeeded. -/
def NewIntsB (zs : List Int) (ok : Bool) (w : World) (e : Ending) (w' : World) : Prop :=
  ∃ v, e = .returned (.tuple #[v, .bool ok]) ∧ OwnV w' w.heap.size w'.heap.size v zs ∧ Below w.heap.size w w'
theorem newInts_empty {w w1 : World} (hb : Below w.heap.size w w1) : NewIntsB [] false w (.returned (.tuple #[.slice (some ⟨w1.heap.size, 0, none⟩) 0 0, .bool false])) (w1.alloc (.cells #[] 3)) :=
  ⟨_, rfl, OwnV.empty w1 w.heap.size hb.size, hb.alloc hb.size _⟩
theorem newInts_back {zs : List Int} {w w1 w2 : World} {v : Value} (hb : Below w.heap.size w w1) (h : OwnV w2 w1.heap.size w2.heap.size v zs) (hb2 : Below w1.heap.size w1 w2) : NewIntsB zs true w (.returned (.tuple #[v, .bool true])) w2 :=
  ⟨_, rfl, h.low hb.size, hb.trans (hb2.mono hb.size)⟩
/-- A result, and below the old heap's end nothing has turned. -/
def Gives (v : Value) (w : World) (e : Ending) (w' : World) : Prop := e = .returned v ∧ Below w.heap.size w w'
theorem below_drew {B : Nat} {a b : World} (h : Below B a b) : Below B a b.drew := ⟨h.os, h.tape, h.output, h.size, h.block⟩
theorem quiet_add_left {P : Program} {f : FuncId} {args : Array Value} {w : World} {a n : Nat} {v : Value}
    (h : Calls P f args (w.drewN (a + n)) fun e w' => e = .returned v ∧ w.drewN (a + n) = w') :
    Calls P f args (w.drewN (a + n)) fun e w'' => e = .returned v ∧ ∃ m, w'' = w.drewN (a + m) :=
  h.mono fun _ _ ⟨he, hm⟩ => ⟨he, n, hm.symm⟩
theorem quiet_left {P : Program} {f : FuncId} {args : Array Value} {w : World} {n : Nat} {v : Value}
    (h : Calls P f args (w.drewN n) fun e w' => e = .returned v ∧ w.drewN n = w') : Calls P f args (w.drewN n) fun e w'' => e = .returned v ∧ ∃ m, w'' = w.drewN m :=
  h.mono fun _ _ ⟨he, hm⟩ => ⟨he, n, hm.symm⟩
theorem quiet_draw {P : Program} {f : FuncId} {args : Array Value} {w : World} {n : Nat} {v : Value}
    (h : Calls P f args (w.drewN n) fun e w' => e = .returned v ∧ ∃ m, w' = (w.drewN n).drewN m) : Calls P f args (w.drewN n) fun e w'' => e = .returned v ∧ ∃ m, w'' = w.drewN m :=
  h.mono fun _ _ ⟨he, m, hm⟩ => ⟨he, n + m, by rw [hm, World.drewN_drewN]⟩
theorem OwnV.norm {w : World} {lo hi g cap n : Nat} {zs : List Int} (h : OwnV w lo hi (.slice (some ⟨g, 0, none⟩) n cap) zs) : n = zs.length := by
  rcases h.row.2 with ⟨h1, _⟩ | ⟨g', cap', cur, h1, _⟩
  · injection h1 with h1 _ _; cases h1
  · injection h1
theorem OwnV.frozenGet {w : World} {lo hi g cap n : Nat} {zs : List Int} (h : OwnV w lo hi (.slice (some ⟨g, 0, none⟩) n cap) zs) (j : Nat) : w.frozen? ⟨g, j, none⟩ = false := by
  obtain rfl := h.norm
  exact h.row.frozenAt j
theorem OwnV.cellGet {w : World} {lo hi g cap n : Nat} {zs : List Int} (h : OwnV w lo hi (.slice (some ⟨g, 0, none⟩) n cap) zs) {j : Nat} (hj : j < zs.length) : w.cell? ⟨g, j, none⟩ = some (.int .i64 (zs.getD j 0)) := by
  obtain rfl := h.norm
  rw [h.row.cellAt j (by omega), List.getElem?_map, List.getElem?_eq_getElem hj, List.getD_eq_getElem?_getD, List.getElem?_eq_getElem hj]; rfl
theorem OwnV.setAt {w : World} {lo hi g cap n : Nat} {zs : List Int} (h : OwnV w lo hi (.slice (some ⟨g, 0, none⟩) n cap) zs) (j : Nat) {x : Int} (hx : InI64 x) : OwnV (w.setCell ⟨g, j, none⟩ (.int .i64 x)) lo hi (.slice (some ⟨g, 0, none⟩) n cap) (zs.set j x) := by
  obtain rfl := h.norm
  refine ⟨?_, h.lt, by simpa [World.setCell] using h.room, ?_⟩
  · have := (h.row.stored j (.int .i64 x)).1
    rw [List.length_set, List.map_set]; exact this
  · intro z hz
    rcases List.mem_or_eq_of_mem_set hz with h' | h'
    · exact h.in64 z h'
    · subst h'; exact hx
theorem OwnV.shape {w : World} {lo hi : Nat} {v : Value} {zs : List Int} (h : OwnV w lo hi v zs) (hp : 0 < zs.length) : ∃ g cap, v = .slice (some ⟨g, 0, none⟩) zs.length cap ∧ lo ≤ g ∧ g < hi := by
  rcases h.row.2 with ⟨_, h2⟩ | ⟨g, cap, cur, h1, hb, _⟩
  · omega
  · exact ⟨g, cap, h1, hb, h.lt g (by rw [h1]; simp [Value.ownBlock])⟩
/-- A row of zeros, just made. -/
theorem OwnV.made {w1 : World} {lo g n : Nat} (h : w1.ownsRow lo 3 1 (.slice (some ⟨g, 0, none⟩) n n) n (List.replicate n (.int .i64 0))) : OwnV w1 lo w1.heap.size (.slice (some ⟨g, 0, none⟩) n n) (List.replicate n 0) := by
  refine ⟨?_, fun q hq => (h.lt q hq).2, Nat.le_refl _, ?_⟩
  · rw [List.length_replicate, List.map_replicate]; exact h
  · intro z hz; have := List.eq_of_mem_replicate hz; subst this; unfold InI64; omega
/-- A row's block is its own. -/
theorem OwnV.tight {w : World} {lo hi g n cap : Nat} {zs : List Int} (h : OwnV w lo hi (.slice (some ⟨g, 0, none⟩) n cap) zs) : OwnV w g (g + 1) (.slice (some ⟨g, 0, none⟩) n cap) zs := by
  have hg : g < hi := h.lt g rfl
  have hr := h.room
  refine ⟨⟨h.row.1, ?_⟩, fun q hq => by have : g = q := by simpa [Value.ownBlock] using hq
                                        omega, by omega, h.in64⟩
  rcases h.row.2 with ⟨h1, _⟩ | ⟨g', cap', cur, h1, hb', rest⟩
  · injection h1 with h1 _ _; cases h1
  · refine .inr ⟨g', cap', cur, h1, ?_, rest⟩
    injection h1 with h1 _ _
    injection h1 with h1
    injection h1 with h1 _ _
    omega
theorem pair_cells {w w1 : World} {a b : Int} (hb : Below (w.alloc (.cells #[.int .i64 a, .int .i64 b] 26)).heap.size (w.alloc (.cells #[.int .i64 a, .int .i64 b] 26)) w1) :
    w1.cell? ⟨w.heap.size, 0, none⟩ = some (.int .i64 a) ∧ w1.cell? ⟨w.heap.size, 1, none⟩ = some (.int .i64 b) := by
  have k := (hb.block w.heap.size (by simp)).trans (alloc_heap w (.cells #[.int .i64 a, .int .i64 b] 26))
  exact ⟨(cell_of_heap (o := 0) k rfl).1, (cell_of_heap (o := 1) k rfl).1⟩
end Go.Proofs.Ytligidmkhbcpmac
