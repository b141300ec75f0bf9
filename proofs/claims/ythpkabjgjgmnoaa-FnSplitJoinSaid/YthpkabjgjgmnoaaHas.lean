/- Whether a byte stands in a text: the model's l1Stands and the library's strings.Contains at one byte. -/
import Derived.Test.YthpkabjgjgmnoaaShelf
import Derived.Test.YthpkabjgjgmnoaaPlain
import Derived.WalkKit
import Derived.ProofKit
import Derived.Outline
import Derived.Lib.Hide
import Derived.Lib.IndexLaws
namespace Go.Proofs.Ythpkabjgjgmnoaa
open Go.RowKit
theorem indexByte_mem (l : List UInt8) (c : UInt8) : (0 ≤ Lib.indexByte l c) ↔ c ∈ l := by
  constructor
  · intro h
    obtain ⟨o, ho⟩ : ∃ o : Nat, Lib.indexByte l c = o := ⟨(Lib.indexByte l c).toNat, by omega⟩
    exact List.mem_of_getElem? (Lib.indexByte_some ho).1
  · intro h
    have hg := Lib.indexByte_ge l c
    by_cases e : Lib.indexByte l c = -1
    · obtain ⟨k, hk⟩ := List.getElem?_of_mem h
      exact absurd hk (Lib.indexByte_none e k)
    · omega
theorem contains_yes (s : ByteArray) (c : UInt8) (w : World) (h : c ∈ s.data.toList) :
    Calls Try.prog 30 #[.string s, .string ⟨#[c]⟩] w fun e w' => e = .returned (.bool true) ∧ w = w' :=
  (Try.strings_Contains_one s c w).mono fun _ _ ⟨he, hw⟩ => ⟨by rw [he, decide_eq_true ((indexByte_mem _ _).2 h)], hw.symm⟩
theorem contains_no (s : ByteArray) (c : UInt8) (w : World) (h : c ∉ s.data.toList) :
    Calls Try.prog 30 #[.string s, .string ⟨#[c]⟩] w fun e w' => e = .returned (.bool false) ∧ w = w' :=
  (Try.strings_Contains_one s c w).mono fun _ _ ⟨he, hw⟩ => ⟨by rw [he, decide_eq_false (fun h' => h ((indexByte_mem _ _).1 h'))], hw.symm⟩
/-- The byte does not stand ahead of a place. -/
def noneTo (s : ByteArray) (c : UInt8) (k : Nat) : Prop := c ∉ s.data.toList.take k
theorem noneTo_succ (s : ByteArray) (c : UInt8) (k : Nat) (h : k < s.size) (hn : noneTo s c k) (hc : s[k] ≠ c) : noneTo s c (k + 1) := by
  unfold noneTo at *
  rw [take_snoc s k h, List.mem_append, List.mem_singleton]
  rintro (h | h)
  · exact hn h
  · exact hc h.symm
theorem byte_ne (a b : UInt8) (h : a ≠ b) : ((a.toNat : Int) == (b.toNat : Int)) = false := by
  cases e : ((a.toNat : Int) == (b.toNat : Int)) with
  | false => rfl
  | true => exact absurd (UInt8.toNat_inj.1 (by have := eq_of_beq e; omega)) h
theorem byte_eq (a b : UInt8) (h : a = b) : ((a.toNat : Int) == (b.toNat : Int)) = true := by subst h; exact beq_self_eq_true _
set_option maxHeartbeats 400000 in
theorem l1Stands_no (s : ByteArray) (c : UInt8) (w : World) (hs : s.size ≤ maxLen) (h : c ∉ s.data.toList) :
    Calls Try.prog 32 #[.string s, .int .u8 c.toNat] w fun e w' => e = .returned (.bool false) ∧ w = w' := by
  have NO := Lib.hid h
  unfold maxLen at hs
  clear h
  go_enter Try.func32, Try.ntmps32
  go_wp2
  go_loop [5] (fun i => ∃ k : Nat, k ≤ s.size ∧ i = .int .i64 k) (fun i => s.size - (intOf i).toNat)
  case atStart => exact ⟨0, Nat.zero_le _, rfl⟩
  case round =>
    obtain ⟨k, hk, rfl⟩ := hrel
    by_cases hlt : k < s.size
    · have hne := byte_ne s[k] c (fun e => NO.out (by rw [← e]; exact Array.getElem_mem_toList (by simpa using hlt)))
      go_wp2
      go_round
      case rel => exact ⟨k + 1, by omega, by go_num⟩
      case measure => simp [intOf]; omega
    · go_wp2
      go_ret
      exact ⟨rfl, rfl⟩
set_option maxHeartbeats 400000 in
theorem l1Stands_yes (s : ByteArray) (c : UInt8) (w : World) (hs : s.size ≤ maxLen) (h : c ∈ s.data.toList) :
    Calls Try.prog 32 #[.string s, .int .u8 c.toNat] w fun e w' => e = .returned (.bool true) ∧ w = w' := by
  have YES := Lib.hid h
  unfold maxLen at hs
  clear h
  go_enter Try.func32, Try.ntmps32
  go_wp2
  go_loop [5] (fun i => ∃ k : Nat, k ≤ s.size ∧ i = .int .i64 k ∧ noneTo s c k) (fun i => s.size - (intOf i).toNat)
  case atStart => exact ⟨0, Nat.zero_le _, rfl, by simp [noneTo]⟩
  case round =>
    obtain ⟨k, hk, rfl, hn⟩ := hrel
    by_cases hlt : k < s.size
    · by_cases he : s[k] = c
      · have hq := byte_eq s[k] c he
        clear he hn
        go_wp2
        go_ret
        exact ⟨rfl, rfl⟩
      · have hq := byte_ne s[k] c he
        have HN := Lib.hid (noneTo_succ s c k hlt hn he)
        clear he hn
        go_wp2
        go_round
        case rel => exact ⟨k + 1, by omega, by go_num, HN.out⟩
        case measure => simp [intOf]; omega
    · exfalso
      unfold noneTo at hn
      rw [List.take_of_length_le (by simp; omega)] at hn
      exact hn YES.out
end Go.Proofs.Ythpkabjgjgmnoaa
