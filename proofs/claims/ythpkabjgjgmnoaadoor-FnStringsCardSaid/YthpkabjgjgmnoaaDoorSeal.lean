/- AppendChecksum and its model, as contracts of the translated text. -/
import Derived.Test.YthpkabjgjgmnoaaDoorFmt
import Derived.Test.YthpkabjgjgmnoaaDoorSum
import Derived.Test.YthpkabjgjgmnoaaDoorHas
import Derived.WalkKit
import Derived.ProofKit
import Derived.Outline
import Derived.Lib.Hide
import Derived.WalkSpells
namespace Go.Proofs.YthpkabjgjgmnoaaDoor
open Go.RowKit
/-- A text, a hash sign, its checksum. -/
def sealB (s : ByteArray) : ByteArray := s ++ ⟨#[35]⟩ ++ numB (sumL s.data.toList)
theorem sumB_size (s : ByteArray) : (numB (sumL s.data.toList)).size ≤ 21 := by
  have := sumL_bd s.data.toList
  exact numB_size _ (by omega) (by omega)
theorem sealB_size (s : ByteArray) : (sealB s).size = s.size + 1 + (numB (sumL s.data.toList)).size := by
  unfold sealB; simp [ByteArray.size_append]; rfl
theorem l1Seal_any (s : ByteArray) (w : World) (h4 : s.size ≤ 4000) :
    Calls Tryd.prog 34 #[.string s] w fun e w' => e = .returned (.string (sealB s)) ∧ ∃ n, w' = w.drewN n := by
  have hs : s.size ≤ maxLen := by unfold maxLen; omega
  obtain ⟨b0, b1⟩ := sumL_bd s.data.toList
  have bz := sumB_size s
  have add1 : ∀ W : World, (Op.stringOp .add s ⟨#[35]⟩).run Tryd.prog W = .ok (.string (s ++ ⟨#[35]⟩)) W := fun W => run_string_add W _ _ (by omega) (by decide)
  have sz1 : (s ++ (⟨#[35]⟩ : ByteArray)).size = s.size + 1 := by rw [ByteArray.size_append]; rfl
  have add2 : ∀ W : World, (Op.stringOp .add (s ++ ⟨#[35]⟩) (numB (sumL s.data.toList))).run Tryd.prog W = .ok (.string (s ++ ⟨#[35]⟩ ++ numB (sumL s.data.toList))) W := fun W => run_string_add W _ _ (by omega) (by omega)
  clear bz sz1
  go_enter Tryd.func34, Tryd.ntmps34
  go_wp2_with (first
    | (go_at_call 40; refine (l1Sum_any _ _ hs).mono ?_; rintro e w' ⟨rfl, rfl⟩)
    | (go_at_call 25; refine (l1Num_any _ _ (by omega) (by omega)).mono ?_; rintro e w' ⟨rfl, m, rfl⟩))
  go_ret
  exact ⟨rfl, _, rfl⟩
/-- Whether a text can be sealed. -/
def canSeal (s : ByteArray) : Prop := s.size ≤ 4000 ∧ (35 : UInt8) ∉ s.data.toList ∧ (sealB s).size ≤ 4000
theorem specSeal_yes (s : ByteArray) (w : World) (h : canSeal s) :
    Calls Tryd.prog 17 #[.string s] w fun e w' => e = .returned (.tuple #[.string (sealB s), .bool true]) ∧ ∃ n, w' = w.drewN n := by
  obtain ⟨h4, h35, hz⟩ := h
  have hs : s.size ≤ maxLen := by unfold maxLen; omega
  have C := Lib.hid h35
  clear h35
  go_enter Tryd.func17, Tryd.ntmps17
  go_wp2_with (first
    | (go_at_call 33; refine (l1Stands_no _ 35 _ hs C.out).mono ?_; rintro e w' ⟨rfl, rfl⟩)
    | (go_at_call 34; refine (l1Seal_any _ _ h4).mono ?_; rintro e w' ⟨rfl, m, rfl⟩))
  go_ret2
  exact ⟨rfl, _, rfl⟩
theorem specSeal_no (s : ByteArray) (w : World) (hs : s.size ≤ maxLen) (h : ¬ canSeal s) :
    Calls Tryd.prog 17 #[.string s] w fun e w' => e = .returned (.tuple #[.string ByteArray.empty, .bool false]) ∧ ∃ n, w' = w.drewN n := by
  have hs' := hs
  unfold maxLen at hs'
  by_cases h4 : s.size ≤ 4000
  · by_cases h35 : (35 : UInt8) ∈ s.data.toList
    · have C := Lib.hid h35
      clear h35 h
      go_enter Tryd.func17, Tryd.ntmps17
      go_wp2_with (go_at_call 33; refine (l1Stands_yes _ 35 _ hs C.out).mono ?_; rintro e w' ⟨rfl, rfl⟩)
      go_ret2
      exact ⟨rfl, 0, rfl⟩
    · have hz : 4000 < (sealB s).size := by
        by_cases hz : (sealB s).size ≤ 4000
        · exact absurd ⟨h4, h35, hz⟩ h
        · omega
      have C := Lib.hid h35
      clear h35 h
      go_enter Tryd.func17, Tryd.ntmps17
      go_wp2_with (first
        | (go_at_call 33; refine (l1Stands_no _ 35 _ hs C.out).mono ?_; rintro e w' ⟨rfl, rfl⟩)
        | (go_at_call 34; refine (l1Seal_any _ _ h4).mono ?_; rintro e w' ⟨rfl, m, rfl⟩))
      go_ret2
      exact ⟨rfl, _, rfl⟩
  · have h5 : 4000 < s.size := by omega
    clear h h4
    go_enter Tryd.func17, Tryd.ntmps17
    go_wp2_with fail
    go_ret2
    exact ⟨rfl, 0, rfl⟩
theorem implSeal_yes (s : ByteArray) (w : World) (h : canSeal s) (htab : Lib.TabIs Tryd.prog w "internal/strconv.uint64pow10" .u64 Lib.pow10Tab) :
    Calls Tryd.prog 16 #[.string s] w fun e w' => e = .returned (.tuple #[.string (sealB s), .bool true]) ∧ Below w.heap.size w w' := by
  obtain ⟨h4, h35, hz⟩ := h
  have hs : s.size ≤ maxLen := by unfold maxLen; omega
  have C := Lib.hid h35
  have T := Lib.hid htab
  rw [sealB_size] at hz
  obtain ⟨b0, b1⟩ := sumL_bd s.data.toList
  have bz := sumB_size s
  have add1 : ∀ W : World, (Op.stringOp .add s ⟨#[35]⟩).run Tryd.prog W = .ok (.string (s ++ ⟨#[35]⟩)) W := fun W => run_string_add W _ _ (by omega) (by decide)
  have sz1 : (s ++ (⟨#[35]⟩ : ByteArray)).size = s.size + 1 := by rw [ByteArray.size_append]; rfl
  have add2 : ∀ W : World, (Op.stringOp .add (s ++ ⟨#[35]⟩) (numB (sumL s.data.toList))).run Tryd.prog W = .ok (.string (s ++ ⟨#[35]⟩ ++ numB (sumL s.data.toList))) W := fun W => run_string_add W _ _ (by omega) (by omega)
  clear sz1 h35 htab
  go_enter Tryd.func16, Tryd.ntmps16
  go_wp2_with (first
    | (go_at_call 31; refine (implSum_any _ _ hs h4).mono ?_; rintro e w' ⟨rfl, rfl⟩)
    | (go_at_call 32; refine (contains_no _ 35 _ C.out).mono ?_; rintro e w' ⟨rfl, rfl⟩)
    | (go_at_call 10; refine (implFmt_ok _ _ (by omega) (by omega) T.out).mono ?_; rintro e w' ⟨rfl, hb⟩))
  go_ret2
  exact ⟨rfl, hb⟩
theorem implSeal_no (s : ByteArray) (w : World) (hs : s.size ≤ maxLen) (h : ¬ canSeal s) (htab : Lib.TabIs Tryd.prog w "internal/strconv.uint64pow10" .u64 Lib.pow10Tab) :
    Calls Tryd.prog 16 #[.string s] w fun e w' => e = .returned (.tuple #[.string ByteArray.empty, .bool false]) ∧ Below w.heap.size w w' := by
  have T := Lib.hid htab
  clear htab
  by_cases h4 : s.size ≤ 4000
  · by_cases h35 : (35 : UInt8) ∈ s.data.toList
    · have C := Lib.hid h35
      clear h35 h
      go_enter Tryd.func16, Tryd.ntmps16
      go_wp2_with (first
        | (go_at_call 31; refine (implSum_any _ _ hs h4).mono ?_; rintro e w' ⟨rfl, rfl⟩)
        | (go_at_call 32; refine (contains_yes _ 35 _ C.out).mono ?_; rintro e w' ⟨rfl, rfl⟩))
      go_ret2
      exact ⟨rfl, Below.refl _ _⟩
    · have hz : 4000 < (sealB s).size := by
        by_cases hz : (sealB s).size ≤ 4000
        · exact absurd ⟨h4, h35, hz⟩ h
        · omega
      have C := Lib.hid h35
      rw [sealB_size] at hz
      obtain ⟨b0, b1⟩ := sumL_bd s.data.toList
      have bz := sumB_size s
      clear h35 h
      go_enter Tryd.func16, Tryd.ntmps16
      go_wp2_with (first
        | (go_at_call 31; refine (implSum_any _ _ hs h4).mono ?_; rintro e w' ⟨rfl, rfl⟩)
        | (go_at_call 32; refine (contains_no _ 35 _ C.out).mono ?_; rintro e w' ⟨rfl, rfl⟩)
        | (go_at_call 10; refine (implFmt_ok _ _ (by omega) (by omega) T.out).mono ?_; rintro e w' ⟨rfl, hb⟩))
      go_ret2
      exact ⟨rfl, hb⟩
  · have h5 : 4000 < s.size := by omega
    clear h h4
    go_enter Tryd.func16, Tryd.ntmps16
    go_wp2_with (go_at_call 31; refine (implSum_long _ _ hs h5).mono ?_; rintro e w' ⟨rfl, rfl⟩)
    go_ret2
    exact ⟨rfl, Below.refl _ _⟩
end Go.Proofs.YthpkabjgjgmnoaaDoor
