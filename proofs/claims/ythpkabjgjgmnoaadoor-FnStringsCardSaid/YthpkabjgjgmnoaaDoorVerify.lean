/- VerifyChecksum and its model, as contracts of the translated text. -/
import Derived.Test.YthpkabjgjgmnoaaDoorSeal
import Derived.Test.YthpkabjgjgmnoaaDoorFirst
import Derived.WalkKit
import Derived.ProofKit
import Derived.Outline
import Derived.Lib.Hide
import Derived.WalkSpells
namespace Go.Proofs.YthpkabjgjgmnoaaDoor
open Go.RowKit
set_option linter.unusedVariables false
/-- Whether a text is what sealing gives for its first part. -/
def sealedB (s : ByteArray) : Prop := s.size ≤ 4000 ∧ sealB (firstPart s 35) = s
theorem sealed_can {s : ByteArray} (h : sealedB s) : canSeal (firstPart s 35) := by
  obtain ⟨h4, he⟩ := h
  have := first_le s 35
  exact ⟨by omega, first_none s 35, by rw [he]; exact h4⟩
theorem can_sealed {s : ByteArray} (h : canSeal (firstPart s 35)) (he : sealB (firstPart s 35) = s) : sealedB s := ⟨by have := h.2.2; rw [he] at this; exact this, he⟩
theorem bytes_same (a b : ByteArray) (h : a = b) : (a.toList == b.toList) = true := by subst h; exact beq_self_eq_true _
theorem bytes_other (a b : ByteArray) (h : a ≠ b) : (a.toList == b.toList) = false := by
  cases e : (a.toList == b.toList) with
  | false => rfl
  | true =>
    refine absurd ?_ h
    have h2 := eq_of_beq e
    rw [Lib.toList_data, Lib.toList_data] at h2
    apply ByteArray.ext; exact Array.toList_inj.1 h2
theorem cutHash (s : ByteArray) (m : Int) (w : World) (hs : s.size < 4294967281) (hm : w.cell? ⟨0, 0, none⟩ = some (.int .i64 m)) :
    Calls Tryd.prog 35 #[.string s, .string ⟨#[35]⟩] w fun e w' => (∃ y z, e = .returned (.tuple #[.string (firstPart s 35), .string y, .bool z])) ∧ ∃ n, w' = w.drewN n :=
  (Tryd.strings_Cut s ⟨#[35]⟩ m w hs hm).mono fun _ _ ⟨he, hw⟩ => ⟨⟨_, _, he⟩, hw⟩
theorem implVer_yes (s : ByteArray) (m : Int) (w : World) (h : sealedB s) (hm : w.cell? ⟨0, 0, none⟩ = some (.int .i64 m)) (hz : 1 < w.heap.size) (hgt : Tryd.prog.globalNamed "internal/strconv.uint64pow10" = some 1)
    (htab : Lib.TabIs Tryd.prog w "internal/strconv.uint64pow10" .u64 Lib.pow10Tab) :
    Calls Tryd.prog 18 #[.string s] w fun e w' => e = .returned (.tuple #[.string (firstPart s 35), .bool true]) ∧ Below w.heap.size w w' := by
  have C := Lib.hid (sealed_can h)
  have CUT := Lib.hid (cutHash s m w (by have := h.1; omega) hm)
  have q := bytes_same _ _ h.2
  have T := fun k => Lib.hid (tab_below (below_drewN (Below.refl w.heap.size w) k) hgt hz htab)
  clear htab hm h
  go_enter Tryd.func18, Tryd.ntmps18
  go_wp2_with fail
  refine CUT.out.mono ?_
  rintro e w' ⟨⟨y, z, rfl⟩, n, rfl⟩
  go_wp2_with fail
  refine (implSeal_yes _ _ C.out (T _).out).mono ?_
  rintro e w' ⟨rfl, hb⟩
  go_wp2_with fail
  go_ret2
  exact ⟨rfl, (below_drewN (Below.refl w.heap.size w) _).trans (by simpa using hb)⟩
theorem implVer_no (s : ByteArray) (m : Int) (w : World) (hs : s.size ≤ 1048576) (h : ¬ sealedB s) (hm : w.cell? ⟨0, 0, none⟩ = some (.int .i64 m)) (hz : 1 < w.heap.size) (hgt : Tryd.prog.globalNamed "internal/strconv.uint64pow10" = some 1)
    (htab : Lib.TabIs Tryd.prog w "internal/strconv.uint64pow10" .u64 Lib.pow10Tab) :
    Calls Tryd.prog 18 #[.string s] w fun e w' => e = .returned (.tuple #[.string ByteArray.empty, .bool false]) ∧ Below w.heap.size w w' := by
  have CUT := Lib.hid (cutHash s m w (by omega) hm)
  have FS : (firstPart s 35).size ≤ maxLen := by have := first_le s 35; unfold maxLen; omega
  have T := fun k => Lib.hid (tab_below (below_drewN (Below.refl w.heap.size w) k) hgt hz htab)
  clear htab hm
  by_cases hc : canSeal (firstPart s 35)
  · have C := Lib.hid hc
    have q := bytes_other (sealB (firstPart s 35)) s (fun e => h (can_sealed hc e))
    clear hc h
    go_enter Tryd.func18, Tryd.ntmps18
    go_wp2_with fail
    refine CUT.out.mono ?_
    rintro e w' ⟨⟨y, z, rfl⟩, n, rfl⟩
    go_wp2_with fail
    refine (implSeal_yes _ _ C.out (T _).out).mono ?_
    rintro e w' ⟨rfl, hb⟩
    go_wp2_with fail
    go_ret2
    exact ⟨rfl, (below_drewN (Below.refl w.heap.size w) _).trans (by simpa using hb)⟩
  · have C := Lib.hid hc
    clear hc h
    go_enter Tryd.func18, Tryd.ntmps18
    go_wp2_with fail
    refine CUT.out.mono ?_
    rintro e w' ⟨⟨y, z, rfl⟩, n, rfl⟩
    go_wp2_with fail
    refine (implSeal_no _ _ FS C.out (T _).out).mono ?_
    rintro e w' ⟨rfl, hb⟩
    go_wp2_with fail
    go_ret2
    exact ⟨rfl, (below_drewN (Below.refl w.heap.size w) _).trans (by simpa using hb)⟩
def SpecVer (s : ByteArray) (w : World) (e : Ending) (w' : World) : Prop :=
  Below w.heap.size w w' ∧ ((sealedB s ∧ e = .returned (.tuple #[.string (firstPart s 35), .bool true])) ∨ (¬ sealedB s ∧ e = .returned (.tuple #[.string ByteArray.empty, .bool false])))
theorem specVer (s : ByteArray) (w : World) (hs : s.size ≤ maxLen) :
    Calls Tryd.prog 20 #[.string s] w (SpecVer s w) := by
  unfold maxLen at hs
  by_cases h4 : s.size ≤ 4000
  · have SPL := Lib.hid (l1Split s 35 w (by omega))
    have FS : (firstPart s 35).size ≤ 4000 := by have := first_le s 35; omega
    obtain ⟨r, hr⟩ := splitAll_head s 35
    have HR := Lib.hid hr
    clear hr
    go_enter Tryd.func20, Tryd.ntmps20
    go_wp2_with fail
    refine SPL.out.mono ?_
    rintro e w1 ⟨g, cap, rfl, own, hb⟩
    have hlen : (splitAll s 35).length = r.length + 1 := by rw [HR.out]; rfl
    have hc : w1.cell? ⟨g, 0, none⟩ = some (.string (firstPart s 35)) := by
      rw [own.cellAt 0 (by omega), HR.out]; rfl
    have hpos : (0 : Int) < ((splitAll s 35).length : Int) := by omega
    have B := Lib.hid hb
    clear own hb hlen
    by_cases hq : sealB (firstPart s 35) = s
    · have q := bytes_same _ _ hq
      have Q : Hid (sealedB s) := Lib.hid ⟨h4, hq⟩
      clear hq
      go_wp2_with (go_at_call 34; refine (l1Seal_any _ _ FS).mono ?_; rintro e w' ⟨rfl, m, rfl⟩)
      go_ret2
      exact ⟨below_drewN B.out _, .inl ⟨Q.out, rfl⟩⟩
    · have q := bytes_other _ _ hq
      have Q : Hid (¬ sealedB s) := Lib.hid (fun h => hq h.2)
      clear hq
      go_wp2_with (go_at_call 34; refine (l1Seal_any _ _ FS).mono ?_; rintro e w' ⟨rfl, m, rfl⟩)
      go_ret2
      exact ⟨below_drewN B.out _, .inr ⟨Q.out, rfl⟩⟩
  · have Q : Hid (¬ sealedB s) := Lib.hid (fun h => h4 h.1)
    have h5 : 4000 < s.size := by omega
    clear h4
    go_enter Tryd.func20, Tryd.ntmps20
    go_wp2_with fail
    go_ret2
    exact ⟨Below.refl _ _, .inr ⟨Q.out, rfl⟩⟩
end Go.Proofs.YthpkabjgjgmnoaaDoor
