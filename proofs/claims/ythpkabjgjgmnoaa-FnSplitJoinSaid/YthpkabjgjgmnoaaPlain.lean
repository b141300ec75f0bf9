/- Plain mathematics of the checksum: no program is spoken of here. -/
import Derived.WalkKit
namespace Go.Proofs.Ythpkabjgjgmnoaa
def sumStep (h : Int) (c : UInt8) : Int := (41 * h + (c.toNat : Int) + 1) % 999979
def sumL (l : List UInt8) : Int := l.foldl sumStep 7
theorem sumStep_bd (h : Int) (c : UInt8) : 0 ≤ sumStep h c ∧ sumStep h c ≤ 999978 := by unfold sumStep; omega
theorem foldl_bd (l : List UInt8) : ∀ h : Int, 0 ≤ h → h ≤ 999978 → 0 ≤ l.foldl sumStep h ∧ l.foldl sumStep h ≤ 999978 := by
  induction l with
  | nil => intro h a b; exact ⟨a, b⟩
  | cons c t ih => intro h _ _; exact ih _ (sumStep_bd h c).1 (sumStep_bd h c).2
theorem sumL_bd (l : List UInt8) : 0 ≤ sumL l ∧ sumL l ≤ 999978 := foldl_bd l 7 (by omega) (by omega)
theorem sumL_snoc (l : List UInt8) (c : UInt8) : sumL (l ++ [c]) = (41 * sumL l + (c.toNat : Int) + 1) % 999979 := by
  unfold sumL; rw [List.foldl_append]; rfl
theorem take_snoc (s : ByteArray) (k : Nat) (h : k < s.size) : s.data.toList.take (k + 1) = s.data.toList.take k ++ [s[k]] := by
  rw [List.take_succ_eq_append_getElem (by simpa using h)]; rfl
theorem take_all (s : ByteArray) : s.data.toList.take s.size = s.data.toList := List.take_of_length_le (by simp)
theorem sum_step (s : ByteArray) (k : Nat) (h : k < s.size) : (41 * sumL (s.data.toList.take k) + (s[k].toNat : Int) + 1) % 999979 = sumL (s.data.toList.take (k + 1)) := by
  rw [take_snoc s k h, sumL_snoc]
theorem ret_int {k : IntKind} {a b : Int} (h : a = b) : Ending.returned (.int k a) = .returned (.int k b) := by rw [h]
theorem ret_int_bool {k : IntKind} {a b : Int} {c : Bool} (h : a = b) : Ending.returned (.tuple #[.int k a, .bool c]) = .returned (.tuple #[.int k b, .bool c]) := by rw [h]
end Go.Proofs.Ythpkabjgjgmnoaa
