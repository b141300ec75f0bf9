/- Helpers of the law of texts: its size test, its choices of bytes, and the answers of the program and its models in one form each. -/
import Derived.Test.YthpkabjgjgmnoaaDoorDraw
import Derived.Test.YthpkabjgjgmnoaaDoorParse
import Derived.Test.YthpkabjgjgmnoaaDoorDetect
import Derived.WalkKit
import Derived.ProofKit
import Derived.Outline
import Derived.Lib.Hide
import Derived.WalkSpells
import Derived.StillTailTactics
import Derived.Laws.IdiomStrings
namespace Go.Proofs.YthpkabjgjgmnoaaDoor
open Go.RowKit
set_option linter.unusedVariables false
theorem vBig_no (n c : Nat) (p : Option Addr) (w : World) (hn : n ≤ 65536) :
    Calls Tryd.prog 8 #[.slice p n c] w fun e w' => e = .returned (.bool false) ∧ w = w' := by
  have h : decide ((65536 : Int) < (n : Int)) = false := decide_eq_false (by omega)
  go_enter Tryd.func8, Tryd.ntmps8
  go_wp2_with fail
  go_ret
  exact ⟨rfl, rfl⟩
theorem vBig_yes (n c : Nat) (p : Option Addr) (w : World) (hn : 65536 < n) (hn2 : n ≤ maxLen) :
    Calls Tryd.prog 8 #[.slice p n c] w fun e w' => e = .returned (.bool true) ∧ w = w' := by
  have h : decide ((65536 : Int) < (n : Int)) = true := decide_eq_true (by omega)
  go_enter Tryd.func8, Tryd.ntmps8
  go_wp2_with fail
  go_ret
  exact ⟨rfl, rfl⟩
/-- A choice of a byte: it hangs on the bytes that came in alone. -/
theorem vAt_val (n c B i : Nat) (p : Option Addr) (w : World) (hi : i ≤ 1000) (hn : n ≤ 65536) (hB : BytesAt w B p n) :
    ∃ r : Int, 0 ≤ r ∧ r ≤ 255 ∧ ∀ W : World, Below B w W → Calls Tryd.prog 19 #[.slice p n c, .int .i64 i] W fun e w' => e = .returned (.int .i64 r) ∧ w' = W := by
  by_cases hlt : i < n
  · obtain ⟨b, off, z, rfl, hb, z0, z1, hc⟩ := hB i hlt
    refine ⟨z, z0, z1, fun W hW => ?_⟩
    have hc2 : W.cell? ⟨b, off + i, none⟩ = some (.int .u8 z) := by rw [hW.cell (p := ⟨b, off + i, none⟩) hb]; exact hc
    have i0 : (0 : Int) ≤ (i : Int) := by omega
    have i1 : (i : Int) < (n : Int) := by omega
    clear hc hB hW
    go_enter Tryd.func19, Tryd.ntmps19
    go_wp2_with fail
    go_ret
    exact ⟨rfl, rfl⟩
  · refine ⟨((i : Int) * 7 + n) % 256, by omega, by omega, fun W hW => ?_⟩
    have i1 : ¬ (i : Int) < (n : Int) := by omega
    clear hB hW
    go_enter Tryd.func19, Tryd.ntmps19
    go_wp2_with fail
    go_ret
    exact ⟨rfl, rfl⟩
/-- What ParseInt and its model answer at a text. -/
def Spells (t : ByteArray) (m : Int) (b : Bool) : Prop := (b = true ∧ -999999 ≤ m ∧ m ≤ 999999 ∧ t = numB m) ∨ (b = false ∧ m = 0 ∧ ∀ k : Int, -999999 ≤ k → k ≤ 999999 → t ≠ numB k)
theorem spells_ex (t : ByteArray) : ∃ m b, Spells t m b := by
  by_cases h : ∃ m : Int, -999999 ≤ m ∧ m ≤ 999999 ∧ t = numB m
  · obtain ⟨m, h0, h1, h2⟩ := h
    exact ⟨m, true, .inl ⟨rfl, h0, h1, h2⟩⟩
  · exact ⟨0, false, .inr ⟨rfl, rfl, fun k a b c => h ⟨k, a, b, c⟩⟩⟩
theorem implParse_s {t : ByteArray} {m : Int} {b : Bool} (h : Spells t m b) (w : World) (hs : t.size ≤ maxLen) (htab : Lib.TabIs Tryd.prog w "internal/strconv.uint64pow10" .u64 Lib.pow10Tab) :
    Calls Tryd.prog 13 #[.string t] w fun e w' => e = .returned (.tuple #[.int .i64 m, .bool b]) ∧ Below w.heap.size w w' := by
  rcases h with ⟨rfl, h0, h1, rfl⟩ | ⟨rfl, rfl, hno⟩
  · exact implParse_yes m w h0 h1 htab
  · exact implParse_no t w hs hno htab
theorem specParse_s {t : ByteArray} {m : Int} {b : Bool} (h : Spells t m b) (w : World) (hs : t.size ≤ maxLen) :
    Calls Tryd.prog 14 #[.string t] w fun e w' => e = .returned (.tuple #[.int .i64 m, .bool b]) ∧ Below w.heap.size w w' := by
  rcases h with ⟨rfl, h0, h1, rfl⟩ | ⟨rfl, rfl, hno⟩
  · exact (specParse_yes m w h0 h1).mono fun _ _ ⟨he, n, hn⟩ => ⟨he, by rw [hn]; exact below_drewN (Below.refl _ _) n⟩
  · exact (specParse_no t w hs hno).mono fun _ _ ⟨he, n, hn⟩ => ⟨he, by rw [hn]; exact below_drewN (Below.refl _ _) n⟩
/-- What FormatInt and its model answer at a number. -/
def Told (z : Int) (s : ByteArray) (b : Bool) : Prop := (b = true ∧ -999999 ≤ z ∧ z ≤ 999999 ∧ s = numB z) ∨ (b = false ∧ (z < -999999 ∨ 999999 < z) ∧ s = ByteArray.empty)
theorem told_ex (z : Int) : ∃ s b, Told z s b := by
  by_cases h : -999999 ≤ z ∧ z ≤ 999999
  · exact ⟨_, true, .inl ⟨rfl, h.1, h.2, rfl⟩⟩
  · exact ⟨_, false, .inr ⟨rfl, by omega, rfl⟩⟩
theorem implFmt_s {z : Int} {s : ByteArray} {b : Bool} (h : Told z s b) (w : World) (htab : Lib.TabIs Tryd.prog w "internal/strconv.uint64pow10" .u64 Lib.pow10Tab) :
    Calls Tryd.prog 10 #[.int .i64 z] w fun e w' => e = .returned (.tuple #[.string s, .bool b]) ∧ Below w.heap.size w w' := by
  rcases h with ⟨rfl, h0, h1, rfl⟩ | ⟨rfl, hz, rfl⟩
  · exact implFmt_ok z w h0 h1 htab
  · exact (implFmt_no z w hz).mono fun _ _ ⟨he, hw⟩ => ⟨he, by rw [← hw]; exact Below.refl _ _⟩
theorem specFmt_s {z : Int} {s : ByteArray} {b : Bool} (h : Told z s b) (w : World) :
    Calls Tryd.prog 11 #[.int .i64 z] w fun e w' => e = .returned (.tuple #[.string s, .bool b]) ∧ Below w.heap.size w w' := by
  rcases h with ⟨rfl, h0, h1, rfl⟩ | ⟨rfl, hz, rfl⟩
  · exact (specFmt_ok z w h0 h1).mono fun _ _ ⟨he, n, hn⟩ => ⟨he, by rw [hn]; exact below_drewN (Below.refl _ _) n⟩
  · exact (specFmt_no z w hz).mono fun _ _ ⟨he, hw⟩ => ⟨he, by rw [← hw]; exact Below.refl _ _⟩
/-- What the number that was told spells. -/
theorem told_spells {z : Int} {s : ByteArray} {b : Bool} (h : Told z s b) : ∃ m b', Spells s m b' ∧ (b = true → b' = true ∧ m = z) ∧ s.size ≤ 30 := by
  rcases h with ⟨rfl, h0, h1, rfl⟩ | ⟨rfl, _, rfl⟩
  · exact ⟨z, true, .inl ⟨rfl, h0, h1, rfl⟩, fun _ => ⟨rfl, rfl⟩, by have := num_size z h0 h1; omega⟩
  · obtain ⟨m, b', hs⟩ := spells_ex ByteArray.empty
    exact ⟨m, b', hs, fun h => (by cases h), by decide⟩
/-- What AppendChecksum and its model answer at a text. -/
theorem specSeal_b (s : ByteArray) (w : World) (h : canSeal s) :
    Calls Tryd.prog 17 #[.string s] w fun e w' => e = .returned (.tuple #[.string (sealB s), .bool true]) ∧ Below w.heap.size w w' :=
  (specSeal_yes s w h).mono fun _ _ ⟨he, n, hn⟩ => ⟨he, by rw [hn]; exact below_drewN (Below.refl _ _) n⟩
theorem specSeal_c (s : ByteArray) (w : World) (hs : s.size ≤ maxLen) (h : ¬ canSeal s) :
    Calls Tryd.prog 17 #[.string s] w fun e w' => e = .returned (.tuple #[.string ByteArray.empty, .bool false]) ∧ Below w.heap.size w w' :=
  (specSeal_no s w hs h).mono fun _ _ ⟨he, n, hn⟩ => ⟨he, by rw [hn]; exact below_drewN (Below.refl _ _) n⟩
end Go.Proofs.YthpkabjgjgmnoaaDoor
