/- ParseInt and its model, as contracts of the translated text. -/
import Derived.Test.YthpkabjgjgmnoaaDoorL1Read
import Derived.WalkKit
import Derived.ProofKit
import Derived.Outline
import Derived.Lib.Hide
namespace Go.Proofs.YthpkabjgjgmnoaaDoor
open Go.RowKit
/-- The integer that a text spells, and that the call has turned nothing that lay below. -/
theorem implParse_yes (m : Int) (w : World) (h0 : -999999 ≤ m) (h1 : m ≤ 999999) (htab : Lib.TabIs Tryd.prog w "internal/strconv.uint64pow10" .u64 Lib.pow10Tab) :
    Calls Tryd.prog 13 #[.string (numB m)] w fun e w' => e = .returned (.tuple #[.int .i64 m, .bool true]) ∧ Below w.heap.size w w' := by
  have T := Lib.hid htab
  clear htab
  go_enter Tryd.func13, Tryd.ntmps13
  go_wp2_with (first
    | (go_at_call 28; refine (readDec_num _ _ h0 h1).mono ?_; rintro e w' ⟨rfl, rfl⟩)
    | (go_at_call 10; refine (implFmt_ok _ _ h0 h1 T.out).mono ?_; rintro e w' ⟨rfl, hb⟩))
  go_ret2
  exact ⟨rfl, hb⟩
theorem implParse_no (s : ByteArray) (w : World) (hs : s.size ≤ maxLen) (hno : ∀ m : Int, -999999 ≤ m → m ≤ 999999 → s ≠ numB m) (htab : Lib.TabIs Tryd.prog w "internal/strconv.uint64pow10" .u64 Lib.pow10Tab) :
    Calls Tryd.prog 13 #[.string s] w fun e w' => e = .returned (.tuple #[.int .i64 0, .bool false]) ∧ Below w.heap.size w w' := by
  have T := Lib.hid htab
  have NO := Lib.hid hno
  clear htab hno
  go_enter Tryd.func13, Tryd.ntmps13
  go_wp2_with (go_at_call 28; refine (readDec_any _ _ hs).mono ?_; rintro e w' ⟨n, rfl, rfl⟩)
  by_cases hn : -999999 ≤ n ∧ n ≤ 999999
  · obtain ⟨h0, h1⟩ := hn
    have q := bytes_no _ _ (fun e => NO.out n h0 h1 (Eq.symm e))
    go_wp2_with (go_at_call 10; refine (implFmt_ok _ _ h0 h1 T.out).mono ?_; rintro e w' ⟨rfl, hb⟩)
    go_ret2
    exact ⟨rfl, hb⟩
  · have h2 : n < -999999 ∨ 999999 < n := by omega
    clear hn
    go_wp2_with (go_at_call 10; refine (implFmt_no _ _ h2).mono ?_; rintro e w' ⟨rfl, rfl⟩)
    go_ret2
    exact ⟨rfl, Below.refl _ _⟩
theorem specParse_yes (m : Int) (w : World) (h0 : -999999 ≤ m) (h1 : m ≤ 999999) :
    Calls Tryd.prog 14 #[.string (numB m)] w fun e w' => e = .returned (.tuple #[.int .i64 m, .bool true]) ∧ ∃ n, w' = w.drewN n := by
  have C : Calls Tryd.prog 29 #[.string (numB m)] w fun e w' => e = .returned (.tuple #[.int .i64 m, .bool true]) ∧ ∃ n, w' = w.drewN n := by
    refine (l1Read_any (numB m) w (by have := num_size m h0 h1; unfold maxLen; omega)).mono ?_
    rintro e w' ⟨hw, ⟨k, k0, k1, hk, rfl⟩ | ⟨hno, _⟩⟩
    · have e1 := spell_one m k h0 h1 k0 k1 hk
      exact ⟨by rw [e1], hw⟩
    · exact absurd rfl (hno m h0 h1)
  have C2 := Lib.hid C
  clear C
  go_enter Tryd.func14, Tryd.ntmps14
  go_wp2_with (go_at_call 29; refine C2.out.mono ?_; rintro e w' ⟨rfl, n, rfl⟩)
  go_ret2
  exact ⟨rfl, _, rfl⟩
theorem specParse_no (s : ByteArray) (w : World) (hs : s.size ≤ maxLen) (hno : ∀ m : Int, -999999 ≤ m → m ≤ 999999 → s ≠ numB m) :
    Calls Tryd.prog 14 #[.string s] w fun e w' => e = .returned (.tuple #[.int .i64 0, .bool false]) ∧ ∃ n, w' = w.drewN n := by
  have C : Calls Tryd.prog 29 #[.string s] w fun e w' => e = .returned (.tuple #[.int .i64 0, .bool false]) ∧ ∃ n, w' = w.drewN n := by
    refine (l1Read_any s w hs).mono ?_
    rintro e w' ⟨hw, ⟨k, k0, k1, hk, rfl⟩ | ⟨_, rfl⟩⟩
    · exact absurd hk (hno k k0 k1)
    · exact ⟨rfl, hw⟩
  have C2 := Lib.hid C
  clear C hno
  go_enter Tryd.func14, Tryd.ntmps14
  go_wp2_with (go_at_call 29; refine C2.out.mono ?_; rintro e w' ⟨rfl, n, rfl⟩)
  go_ret2
  exact ⟨rfl, _, rfl⟩
end Go.Proofs.YthpkabjgjgmnoaaDoor
