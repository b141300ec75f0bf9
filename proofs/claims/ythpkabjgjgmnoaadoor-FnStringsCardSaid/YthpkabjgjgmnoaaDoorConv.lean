/- A text turned into bytes, one of them changed, and turned back. -/
import Derived.Test.YthpkabjgjgmnoaaDoorText
import Derived.WalkKit
import Derived.ProofKit
import Derived.Lib.Hide
import Derived.OpenShut
import Derived.Laws.IdiomStrings
import Derived.Laws.BitsAllLaws
namespace Go.Proofs.YthpkabjgjgmnoaaDoor
open Go.RowKit
set_option linter.unusedVariables false
theorem BytesAt.below {w w' : World} {B n : Nat} {p : Option Addr} (h : BytesAt w B p n) (hb : Below B w w') : BytesAt w' B p n := by
  intro i hi
  obtain ⟨b, off, z, e, hB, z0, z1, hc⟩ := h i hi
  exact ⟨b, off, z, e, hB, z0, z1, by rw [hb.cell (p := ⟨b, off + i, none⟩) hB]; exact hc⟩
theorem BytesAt.opened {W : World} {a : Addr} {len cap : Nat} {zs : List Int} (hl : len ≤ cap) (hz : zs.length = cap) (hc : ∀ i, i < zs.length → W.cell? (a.add i) = some (.int .u8 (zs.getD i 0))) (hw : ∀ z ∈ zs, (Lit.int .u8 z).wf = true) :
    BytesAt W W.heap.size (some a) len := by
  intro i hi
  have h := hc i (by omega)
  have h0 := hc 0 (by omega)
  obtain ⟨b, off, spot⟩ := a
  have hspot : spot = none := by simpa [Addr.add] using World.cell?_spot h0
  subst hspot
  have e : (⟨b, off, none⟩ : Addr).add i = ⟨b, off + i, none⟩ := by
    unfold Addr.add
    by_cases h0 : i = 0
    · subst h0; simp
    · simp [h0]
  rw [e] at h
  have hm : zs.getD i 0 ∈ zs := by
    rw [List.getD_eq_getElem?_getD, List.getElem?_eq_getElem (show i < zs.length by omega)]
    exact List.getElem_mem _
  have hb := bounds_u8 (hw _ hm)
  exact ⟨b, off, _, rfl, cell_room h, hb.1, hb.2, h⟩
/-- The bytes of a text, in new memory. -/
theorem conv_bytes (Y : ByteArray) (w : World) : ∃ (cap : Nat) (C : Array Value), (convert 9 22 (.string Y)).run Tryd.prog w = .ok (.slice (some ⟨w.heap.size, 0, none⟩) Y.size cap) (w.drew.alloc (.cells C 5 (C.size, C.size + 1))) ∧
    Y.size ≤ C.size ∧ ∀ (j : Nat) (h : j < Y.size), C[j]? = some (.int .u8 (Y[j].toNat : Int)) := by
  refine ⟨_, _, run_bytes_of_string w 9 22 5 Y Tryd.underlying9 Tryd.underlying22 Tryd.underlying5, ?_, ?_⟩
  · unfold bytesRow; rw [Array.size_append, Array.size_map]; exact Nat.le_add_right _ _
  · intro j h
    exact bytesRow_at Y _ j h
theorem xor_new (a b : Int) (a0 : 0 ≤ a) (a1 : a ≤ 255) (b0 : 1 ≤ b) (b1 : b ≤ 255) : 0 ≤ bits .xor .u8 a b ∧ bits .xor .u8 a b ≤ 255 ∧ bits .xor .u8 a b ≠ a := by
  have e := u8_xor a b a0 (by omega) (by omega) (by omega)
  have hx : a.toNat ^^^ b.toNat < 2 ^ 8 := Nat.xor_lt_two_pow (by omega) (by omega)
  rw [e]
  refine ⟨by omega, by omega, fun h => ?_⟩
  have h2 : a.toNat ^^^ b.toNat = a.toNat := by omega
  have h3 : b.toNat = 0 := by
    have : a.toNat ^^^ (a.toNat ^^^ b.toNat) = a.toNat ^^^ a.toNat := by rw [h2]
    rwa [← Nat.xor_assoc, Nat.xor_self, Nat.zero_xor] at this
  omega
/-- The text with one byte changed. -/
def changed (Y : ByteArray) (k : Nat) (v : UInt8) : ByteArray := ⟨(Y.data.toList.set k v).toArray⟩
theorem changed_list (Y : ByteArray) (k : Nat) (v : UInt8) : (changed Y k v).data.toList = Y.data.toList.set k v := by unfold changed; simp
theorem changed_size (Y : ByteArray) (k : Nat) (v : UInt8) : (changed Y k v).size = Y.size := by
  have h1 : (changed Y k v).size = (changed Y k v).data.toList.length := by simp
  rw [h1, changed_list, List.length_set]; simp
/-- Bytes turned back into a text, one of them having been changed. -/
theorem conv_back (Y : ByteArray) (w : World) (g cap k : Nat) (v : Int) (hk : k < Y.size) (v0 : 0 ≤ v) (v1 : v ≤ 255)
    (hc : ∀ (j : Nat) (h : j < Y.size), w.cell? ⟨g, j, none⟩ = some (.int .u8 (Y[j].toNat : Int))) :
    (convert 22 9 (.slice (some ⟨g, 0, none⟩) Y.size cap)).run Tryd.prog ((w.setCell ⟨g, k, none⟩ (.int .u8 v)).drew) = .ok (.string (changed Y k (UInt8.ofNat v.toNat))) ((w.setCell ⟨g, k, none⟩ (.int .u8 v)).drew) := by
  have hl : (Y.data.toList.set k (UInt8.ofNat v.toNat)).length = Y.size := by rw [List.length_set]; simp
  have e : ∀ j : Nat, (⟨g, 0, none⟩ : Addr).add j = ⟨g, j, none⟩ := by
    intro j
    unfold Addr.add
    by_cases h0 : j = 0
    · subst h0; simp
    · simp [h0]
  have := run_convert_bytes_back (P := Tryd.prog) ((w.setCell ⟨g, k, none⟩ (.int .u8 v)).drew) 22 9 5 ⟨g, 0, none⟩ cap (Y.data.toList.set k (UInt8.ofNat v.toNat)) Tryd.underlying22 Tryd.underlying5 Tryd.underlying9 (fun j hj => by
    rw [e j]
    rw [hl] at hj
    show (w.setCell ⟨g, k, none⟩ (.int .u8 v)).cell? ⟨g, j, none⟩ = _
    by_cases hjk : j = k
    · subst hjk
      rw [List.getElem_set_self]
      have h2 : (UInt8.ofNat v.toNat).toNat = v.toNat := by simp; omega
      rw [h2]
      rw [World.cell?_setCell_same w ⟨g, j, none⟩ _ (hc j hk)]
      congr 2; omega
    · rw [List.getElem_set_ne (fun h => hjk h.symm)]
      rw [World.cell?_setCell_other w _ _ _ (fun h => hjk (by injection h with _ h2 _; exact h2.symm)), hc j hj]
      rfl)
  rw [hl] at this
  exact this
end Go.Proofs.YthpkabjgjgmnoaaDoor
