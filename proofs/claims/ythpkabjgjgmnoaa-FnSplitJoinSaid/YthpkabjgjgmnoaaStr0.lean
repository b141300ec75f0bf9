/- Slices of strings in a world: what they hold, and that it stays where nothing is turned. -/
import Derived.Test.YthpkabjgjgmnoaaChecked
import Derived.Test.YthpkabjgjgmnoaaPlain
import Derived.WalkKit
import Derived.ProofKit
import Derived.Outline
import Derived.Lib.Hide
import Derived.OwnWalk
import Derived.Laws.AppendOwn
import Derived.Laws.OwnMore
import Derived.WalkSmall
import Derived.WalkSpells
import Derived.Deep.QuietTactic
import Derived.BigQuiet
namespace Go.Proofs.Ythpkabjgjgmnoaa
open Go.RowKit
/-- In the world w the slice that begins at p (nil, or somewhere below block B) holds these strings. -/
def StrsAt (w : World) (B : Nat) (p : Option Addr) (ss : List ByteArray) : Prop :=
  ∀ (i : Nat) (h : i < ss.length), ∃ b off, p = some ⟨b, off, none⟩ ∧ b < B ∧ w.cell? ⟨b, off + i, none⟩ = some (.string ss[i])
theorem StrsAt.below {w w' : World} {B : Nat} {p : Option Addr} {ss : List ByteArray} (h : StrsAt w B p ss) (hb : Below B w w') : StrsAt w' B p ss := by
  intro i hi
  obtain ⟨b, off, e, hB, hc⟩ := h i hi
  exact ⟨b, off, e, hB, by rw [hb.cell (p := ⟨b, off + i, none⟩) hB]; exact hc⟩
theorem StrsAt.more {w : World} {B B' : Nat} {p : Option Addr} {ss : List ByteArray} (h : StrsAt w B p ss) (hB : B ≤ B') : StrsAt w B' p ss := by
  intro i hi
  obtain ⟨b, off, e, hb, hc⟩ := h i hi
  exact ⟨b, off, e, by omega, hc⟩
theorem StrsAt.drewN {w : World} {B : Nat} {p : Option Addr} {ss : List ByteArray} (h : StrsAt w B p ss) (n : Nat) : StrsAt (w.drewN n) B p ss := h
/-- The cell of one element, the address taken apart. -/
theorem StrsAt.at_ {w : World} {B : Nat} {p : Option Addr} {ss : List ByteArray} (h : StrsAt w B p ss) {i : Nat} (hi : i < ss.length) :
    ∃ b off, p = some ⟨b, off, none⟩ ∧ b < B ∧ w.cell? ⟨b, off + i, none⟩ = some (.string ss[i]) := h i hi
theorem StrsAt.of_own {w : World} {base e cap : Nat} {g : Nat} {ss : List ByteArray} (h : w.ownsRow base e 1 (.slice (some ⟨g, 0, none⟩) ss.length cap) ss.length (ss.map .string)) : StrsAt w w.heap.size (some ⟨g, 0, none⟩) ss := by
  intro i hi
  refine ⟨g, 0, rfl, (h.lt g rfl).2, ?_⟩
  have := h.cellAt i (by omega)
  rw [Nat.zero_add, this, List.getElem?_map, List.getElem?_eq_getElem hi]; rfl
theorem cell_room {w : World} {a : Addr} {v : Value} (h : w.cell? a = some v) : a.block < w.heap.size := by
  unfold World.cell? at h
  cases hh : w.heap[a.block]? with
  | none => rw [hh] at h; simp at h
  | some o => exact (Array.getElem?_eq_some_iff.1 hh).1
/-- A slice of strings that came in, as the row's reading opens it. -/
theorem StrsAt.opened {W : World} {a : Addr} {len cap : Nat} {ss : List ByteArray} (hl : len ≤ cap) (hz : ss.length = cap) (hc : ∀ i, i < ss.length → W.cell? (a.add i) = some (.string (ss.getD i ByteArray.empty))) :
    StrsAt W W.heap.size (some a) (ss.take len) := by
  intro i hi
  have hi2 : i < len := by rw [List.length_take] at hi; omega
  have h := hc i (by omega)
  have h0 := hc 0 (by omega)
  obtain ⟨b, off, spot⟩ := a
  have hspot : spot = none := by simpa [Addr.add] using World.cell?_spot h0
  subst hspot
  have e : (⟨b, off, none⟩ : Addr).add i = ⟨b, off + i, none⟩ := by
    unfold Addr.add
    by_cases h0 : i = 0
    · subst h0; simp
    · simp [h0]
  rw [e] at h
  refine ⟨b, off, rfl, cell_room h, ?_⟩
  rw [h, List.getElem_take, List.getD_eq_getElem?_getD, List.getElem?_eq_getElem (by omega)]; rfl
/-- Number of elements and letters. -/
def bulkL (ss : List ByteArray) : Nat := (ss.map (·.size)).sum
theorem bulkL_take (ss : List ByteArray) (k : Nat) (h : k < ss.length) : bulkL (ss.take (k + 1)) = bulkL (ss.take k) + ss[k].size := by
  unfold bulkL
  rw [List.take_succ_eq_append_getElem h, List.map_append, List.sum_append]; rfl
theorem bulkL_mono (ss : List ByteArray) (k : Nat) : bulkL (ss.take k) ≤ bulkL ss := by
  unfold bulkL
  conv => rhs; rw [← List.take_append_drop k ss, List.map_append, List.sum_append]
  exact Nat.le_add_right _ _
theorem strInfo : (Try.prog.info? 9).map (fun i => (i.zero, i.size, i.bytes)) = some (some (.string ByteArray.empty), 1, 16) := by kernel_rfl
end Go.Proofs.Ythpkabjgjgmnoaa
