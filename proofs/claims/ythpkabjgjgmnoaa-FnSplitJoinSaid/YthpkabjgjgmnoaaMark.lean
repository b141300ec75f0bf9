/- The laws' marks: texts that are written into a result's own memory, and read again. -/
import Derived.Test.YthpkabjgjgmnoaaStr0
import Derived.Test.YthpkabjgjgmnoaaDig
import Derived.WalkKit
import Derived.ProofKit
import Derived.Outline
import Derived.Lib.Hide
import Derived.WalkSpells
import Derived.OwnWalk
import Derived.Laws.AppendOwn
import Derived.Laws.OwnMore
import Derived.Laws.IdiomStrings
import Derived.Deep.RegionHeld3
namespace Go.Proofs.Ythpkabjgjgmnoaa
open Go.RowKit
set_option linter.unusedVariables false
/-- The k-th mark. -/
def markB (k : Nat) : ByteArray := ⟨(109 :: Lib.decDigits k).toArray⟩
theorem conv_one (w : World) (d : Int) (d0 : 0 ≤ d) (d1 : d ≤ 255) : (convert 22 9 (.slice (some ⟨w.heap.size, 0, none⟩) 1 1)).run Try.prog (w.alloc (.cells #[.int .u8 d] 5)) = .ok (.string ⟨#[UInt8.ofNat d.toNat]⟩) (w.alloc (.cells #[.int .u8 d] 5)) := by
  have hh : (w.alloc (.cells #[.int .u8 d] 5)).heap[w.heap.size]? = some (.cells #[.int .u8 d] 5 (0, 0)) := by
    show (w.heap.push _)[w.heap.size]? = _
    simp
  have := run_convert_bytes_back (P := Try.prog) (w.alloc (.cells #[.int .u8 d] 5)) 22 9 5 ⟨w.heap.size, 0, none⟩ 1 [UInt8.ofNat d.toNat] Try.underlying22 Try.underlying5 Try.underlying9 (fun j hj => by
    have hj0 : j = 0 := by simp at hj; omega
    subst hj0
    have h2 : (UInt8.ofNat d.toNat).toNat = d.toNat := by simp; omega
    have e : (⟨w.heap.size, 0, none⟩ : Addr).add 0 = ⟨w.heap.size, 0, none⟩ := by simp [Addr.add]
    rw [e]
    unfold World.cell?
    simp only [hh]
    show some (Value.int .u8 d) = some (Value.int .u8 ((UInt8.ofNat d.toNat).toNat : Int))
    rw [h2]; congr 2; omega)
  exact this
theorem dig_one (q : Nat) (h : q < 10) : Lib.decDigits q = [UInt8.ofNat ((48 : Int) + (q : Int) % 10).toNat] := by
  rw [Lib.decDigits_one h]; congr 2; omega
theorem dig_more (q : Nat) (h : ¬ q < 10) : Lib.decDigits q = Lib.decDigits (q / 10) ++ [UInt8.ofNat ((48 : Int) + (q : Int) % 10).toNat] := by
  rw [Lib.decDigits, dif_neg h]; congr 3
/-- How far the digits of k have been written: what is left of it, and the text so far. -/
def Told2 (k q : Nat) (o : ByteArray) : Prop := (q = 0 ∧ o.data.toList = Lib.decDigits k) ∨ (0 < q ∧ Lib.decDigits q ++ o.data.toList = Lib.decDigits k)
theorem told2_size {k q : Nat} {o : ByteArray} (hk : k ≤ 999999) (h : Told2 k q o) : o.size ≤ 6 := by
  have := decDigits_len k hk
  have e : o.size = o.data.toList.length := by simp
  rcases h with ⟨_, h⟩ | ⟨_, h⟩
  · rw [e, h]; omega
  · have := congrArg List.length h
    rw [List.length_append] at this
    omega
theorem told2_step {k q : Nat} {o : ByteArray} (hq : 0 < q) (h : Told2 k q o) : Told2 k (q / 10) (⟨#[UInt8.ofNat ((48 : Int) + (q : Int) % 10).toNat]⟩ ++ o) := by
  have e : ((⟨#[UInt8.ofNat ((48 : Int) + (q : Int) % 10).toNat]⟩ : ByteArray) ++ o).data.toList = UInt8.ofNat ((48 : Int) + (q : Int) % 10).toNat :: o.data.toList := by simp
  unfold Told2
  rw [e]
  rcases h with ⟨h0, _⟩ | ⟨_, h⟩
  · omega
  · by_cases h10 : q < 10
    · left
      refine ⟨by omega, ?_⟩
      rw [← h, dig_one q h10]; rfl
    · right
      refine ⟨by omega, ?_⟩
      rw [← h, dig_more q h10]; simp
set_option maxHeartbeats 1000000 in
theorem markText_any (k : Nat) (w : World) (h0 : 1 ≤ k) (h1 : k ≤ 999999) :
    Calls Try.prog 34 #[.int .i64 k] w fun e w' => e = .returned (.string (markB k)) ∧ Below w.heap.size w w' := by
  have t0 : ¬ ((k : Int) ≤ 0) := by omega
  have START := Lib.hid (show Told2 k k ByteArray.empty from .inr ⟨h0, by simp⟩)
  have H1 := Lib.hid h1
  go_enter Try.func34, Try.ntmps34
  go_wp2
  go_loopw [0, 3] (fun i o wr => ∃ (q : Nat) (ob : ByteArray), i = .int .i64 q ∧ o = .string ob ∧ q ≤ k ∧ Hid (Told2 k q ob) ∧ Below w.heap.size w wr) (fun i _ _ => (intOf i).toNat)
  case atStart => exact ⟨k, ByteArray.empty, rfl, rfl, Nat.le_refl _, START, Below.refl _ _⟩
  case round =>
    obtain ⟨q, ob, rfl, rfl, hq, hT, hb⟩ := hrel
    have hsz := told2_size H1.out hT.out
    by_cases hpos : 0 < q
    · have ST := Lib.hid (told2_step hpos hT.out)
      have hconv := conv_one wr ((48 : Int) + (q : Int) % 10) (by omega) (by omega)
      have q0 : 0 ≤ (q : Int) % 10 := by omega
      have q1 : (q : Int) % 10 ≤ 9 := by omega
      have hpq : (0 : Int) < (q : Int) := by omega
      have dz : (⟨#[UInt8.ofNat ((48 : Int) + (q : Int) % 10).toNat]⟩ : ByteArray).size = 1 := rfl
      obtain ⟨d, hd⟩ : ∃ d : ByteArray, d = ⟨#[UInt8.ofNat ((48 : Int) + (q : Int) % 10).toNat]⟩ := ⟨_, rfl⟩
      rw [← hd] at ST hconv dz
      have add1 : ∀ W : World, (Op.stringOp .add d ob).run Try.prog W = .ok (.string (d ++ ob)) W := fun W => run_string_add W _ _ (by omega) (by omega)
      clear hd dz
      have BB := Lib.hid (hb.alloc hb.size (.cells #[.int .u8 ((48 : Int) + (q : Int) % 10)] 5))
      clear hb
      go_wp2
      go_roundw
      case rel => exact ⟨q / 10, _, by rw [Int.natCast_ediv]; rfl, rfl, by omega, ST, BB.out⟩
      case measure => simp [intOf]; omega
    · have hq0 : q = 0 := by omega
      have FIN : Hid ((⟨#[109]⟩ : ByteArray) ++ ob = markB k) := by
        rcases hT.out with ⟨_, h⟩ | ⟨h, _⟩
        · refine Lib.hid ?_
          apply ByteArray.ext; apply Array.toList_inj.1
          unfold markB; simp [h]
        · omega
      have add1 : ∀ W : World, (Op.stringOp .add ⟨#[109]⟩ ob).run Try.prog W = .ok (.string (⟨#[109]⟩ ++ ob)) W := fun W => run_string_add W _ _ (by decide) (by omega)
      have hnp : ¬ (0 : Int) < (q : Int) := by omega
      clear hq0 hpos
      go_wp2
      go_ret
      exact ⟨by rw [← FIN.out]; rfl, hb⟩
end Go.Proofs.Ythpkabjgjgmnoaa
