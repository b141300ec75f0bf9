/- The model's l1Split, as a contract of the translated text: the parts of a text between bytes. -/
import Derived.Test.YthpkabjgjgmnoaaStr0
import Derived.WalkKit
import Derived.ProofKit
import Derived.Outline
import Derived.Lib.Hide
import Derived.WalkSpells
import Derived.Maps.AppendAt
namespace Go.Proofs.Ythpkabjgjgmnoaa
open Go.RowKit
set_option linter.unusedVariables false
/-- What has been split off ahead of a place, and where the next part begins. -/
def splitSt (s : ByteArray) (c : UInt8) : Nat → List ByteArray × Nat
  | 0 => ([], 0)
  | k + 1 => if s.data.toList.getD k 0 = c then ((splitSt s c k).1 ++ [s.extract (splitSt s c k).2 k], k + 1) else splitSt s c k
def splitAll (s : ByteArray) (c : UInt8) : List ByteArray := (splitSt s c s.size).1 ++ [s.extract (splitSt s c s.size).2 s.size]
theorem getD_byte (s : ByteArray) (k : Nat) (h : k < s.size) : s.data.toList.getD k 0 = s[k] := by
  rw [List.getD_eq_getElem?_getD, List.getElem?_eq_getElem (by simpa using h)]; rfl
theorem splitSt_le (s : ByteArray) (c : UInt8) (k : Nat) : (splitSt s c k).2 ≤ k ∧ (splitSt s c k).1.length ≤ k := by
  induction k with
  | zero => simp [splitSt]
  | succ k ih =>
    unfold splitSt
    split
    · simp; omega
    · omega
theorem splitSt_yes (s : ByteArray) (c : UInt8) (k : Nat) (h : k < s.size) (hc : s[k] = c) : splitSt s c (k + 1) = ((splitSt s c k).1 ++ [s.extract (splitSt s c k).2 k], k + 1) := by
  rw [splitSt, getD_byte s k h, if_pos hc]
theorem splitSt_no (s : ByteArray) (c : UInt8) (k : Nat) (h : k < s.size) (hc : s[k] ≠ c) : splitSt s c (k + 1) = splitSt s c k := by
  rw [splitSt, getD_byte s k h, if_neg hc]
theorem byte_ne' (a b : UInt8) (h : a ≠ b) : ((a.toNat : Int) == (b.toNat : Int)) = false := by
  cases e : ((a.toNat : Int) == (b.toNat : Int)) with
  | false => rfl
  | true => exact absurd (UInt8.toNat_inj.1 (by have := eq_of_beq e; omega)) h
theorem byte_eq' (a b : UInt8) (h : a = b) : ((a.toNat : Int) == (b.toNat : Int)) = true := by subst h; exact beq_self_eq_true _
/-- The parts, in new memory. -/
def SplitMade (ps : List ByteArray) (w : World) (e : Ending) (w' : World) : Prop :=
  ∃ g cap, e = .returned (.slice (some ⟨g, 0, none⟩) ps.length cap) ∧ w'.ownsRow w.heap.size 9 1 (.slice (some ⟨g, 0, none⟩) ps.length cap) ps.length (ps.map .string) ∧ Below w.heap.size w w'
theorem split_fin {w w3 : World} {v : Value} {out : List ByteArray} {x : ByteArray} (h : w3.ownsRow w.heap.size 9 1 v (out ++ [x]).length ((out ++ [x]).map .string)) (hb : Below w.heap.size w w3) :
    SplitMade (out ++ [x]) w (.returned v) w3 := by
  have h2 := h
  rcases h.2 with ⟨_, h0⟩ | ⟨g, cap, cur, hv, _⟩
  · simp at h0
  · subst hv
    exact ⟨g, cap, rfl, h2, hb⟩
set_option maxHeartbeats 1000000 in
theorem l1Split (s : ByteArray) (c : UInt8) (w : World) (hs : s.size ≤ 2000000) :
    Calls Try.prog 33 #[.string s, .int .u8 c.toNat] w (SplitMade (splitAll s c) w) := by
  obtain ⟨i0, hi, hz0, hz1, hz2⟩ := info_parts strInfo
  go_enter Try.func33, Try.ntmps33
  go_wp2
  have own0 : (w.alloc (.cells #[] 9)).ownsRow w.heap.size 9 1 (.slice (some ⟨w.heap.size, 0, none⟩) 0 0) 0 [] := by
    refine ⟨rfl, .inr ⟨w.heap.size, 0, #[], rfl, Nat.le_refl _, ?_, by omega, by unfold maxLen; omega, rfl, rfl⟩⟩
    show (w.heap.push _)[w.heap.size]? = _
    simp
  go_loopw [5, 6, 7] (fun o f i wr => ∃ k : Nat, k ≤ s.size ∧ i = .int .i64 k ∧ f = .int .i64 (splitSt s c k).2 ∧ wr.ownsRow w.heap.size 9 1 o (splitSt s c k).1.length ((splitSt s c k).1.map .string) ∧ Below w.heap.size w wr) (fun _ _ i _ => s.size - (intOf i).toNat)
  case atStart => exact ⟨0, Nat.zero_le _, rfl, rfl, own0, (Below.refl _ _).alloc (Nat.le_refl _) _⟩
  case round =>
    obtain ⟨k, hk, rfl, rfl, hown, hb⟩ := hrel
    obtain ⟨l1, l2⟩ := splitSt_le s c k
    have hsz := hb.size
    by_cases hlt : k < s.size
    · by_cases hc : s[k] = c
      · have ST := Lib.hid (splitSt_yes s c k hlt hc)
        have e1 := byte_eq' s[k] c hc
        clear hc
        obtain ⟨out, f, hof⟩ : ∃ out f, (out, f) = splitSt s c k := ⟨_, _, rfl⟩
        rw [← hof] at ST l1 l2 hown ⊢
        dsimp only at l1 l2 hown ⊢
        clear hof
        go_wp2_with (at_builtin; refine wpList_append_own _ rfl _ _ 26 rfl w.heap.size 9 i0 (.string ByteArray.empty) 1 16 Try.underlying26 hi hz0 hz1 hz2 rfl (by decide) _ out.length (out.map .string) rfl (hown.alloc _) ⟨wr.heap.size, 0, none⟩ 1 1 [.string (s.extract f k)] rfl rfl (cell_one_new _ _ _) (fun x hx => by simp at hx; subst hx; rfl) (by unfold maxLen; omega) (by omega) (by simp; omega) ?_; intro v' w3 hown3 hgrow3 hnil3)
        have bel3 : Below w.heap.size w w3 := (hb.alloc hsz _).grown hgrow3 (by simp; omega) (fun q hq => (hown.lt q hq).1)
        have own3 : w3.ownsRow w.heap.size 9 1 v' (out ++ [s.extract f k]).length ((out ++ [s.extract f k]).map .string) := by
          rw [List.length_append, List.map_append]; exact hown3
        go_roundw
        case rel => exact ⟨k + 1, by omega, by go_num, by rw [ST.out]; go_num, by rw [ST.out]; exact own3, bel3⟩
        case measure => simp [intOf]; omega
      · have ST := Lib.hid (splitSt_no s c k hlt hc)
        have e1 := byte_ne' s[k] c hc
        clear hc
        have O := Lib.hid hown
        clear hown
        go_wp2
        go_roundw
        case rel => exact ⟨k + 1, by omega, by go_num, by rw [ST.out], by rw [ST.out]; exact O.out, hb⟩
        case measure => simp [intOf]; omega
    · have hk2 : k = s.size := by omega
      have ALL : Hid (splitAll s c = (splitSt s c k).1 ++ [s.extract (splitSt s c k).2 s.size]) := by rw [hk2]; exact Lib.hid rfl
      clear hk2
      obtain ⟨out, f, hof⟩ : ∃ out f, (out, f) = splitSt s c k := ⟨_, _, rfl⟩
      rw [← hof] at ALL l1 l2 hown ⊢
      dsimp only at l1 l2 hown ⊢
      clear hof
      have hf : f ≤ s.size := by omega
      go_wp2_with (at_builtin; refine wpList_append_own _ rfl _ _ 26 rfl w.heap.size 9 i0 (.string ByteArray.empty) 1 16 Try.underlying26 hi hz0 hz1 hz2 rfl (by decide) _ out.length (out.map .string) rfl (hown.alloc _) ⟨wr.heap.size, 0, none⟩ 1 1 [.string (s.extract f s.size)] rfl rfl (cell_one_new _ _ _) (fun x hx => by simp at hx; subst hx; rfl) (by unfold maxLen; omega) (by omega) (by simp; omega) ?_; intro v' w3 hown3 hgrow3 hnil3)
      have bel3 : Below w.heap.size w w3 := (hb.alloc hsz _).grown hgrow3 (by simp; omega) (fun q hq => (hown.lt q hq).1)
      have own3 : w3.ownsRow w.heap.size 9 1 v' (out ++ [s.extract f s.size]).length ((out ++ [s.extract f s.size]).map .string) := by
        rw [List.length_append, List.map_append]; exact hown3
      have FIN := Lib.hid (And.intro bel3 own3)
      clear bel3 own3 hgrow3 hnil3 hown hown3
      go_ret
      obtain ⟨bel3, own3⟩ := FIN.out
      rw [ALL.out]
      exact split_fin own3 bel3
end Go.Proofs.Ythpkabjgjgmnoaa
