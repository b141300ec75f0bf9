/- What the laws' helpers do with slices of ints: a copy, whether two are alike, marks written and found again. -/
import Derived.Test.YtmidlabgmmejbabInts
import Derived.WalkKit
import Derived.ProofKit
import Derived.Outline
import Derived.Lib.Hide
import Derived.OwnWalk
import Derived.Laws.AppendOwn
import Derived.Laws.OwnMore
import Derived.WalkSmall
import Derived.WalkSpells
import Derived.Deep.QuietTactic
import Derived.BigQuiet
namespace Go.Proofs.Ytmidlabgmmejbab
open Go.RowKit
set_option linter.unusedVariables false
/-- A copy in new memory. -/
def NewInts (zs : List Int) (w : World) (e : Ending) (w' : World) : Prop :=
  ∃ v, e = .returned v ∧ OwnV w' w.heap.size w'.heap.size v zs ∧ Below w.heap.size w w'
/-- What the copy holds behind k rounds. -/
def halfI (zs : List Int) (k : Nat) : List Value := (zs.take k).map (.int .i64) ++ List.replicate (zs.length - k) (.int .i64 0)
theorem halfI_zero (zs : List Int) : halfI zs 0 = List.replicate zs.length (.int .i64 0) := by simp [halfI]
theorem halfI_all (zs : List Int) (k : Nat) (h : k = zs.length) : halfI zs k = zs.map (.int .i64) := by subst h; simp [halfI]
theorem halfI_set (zs : List Int) (k : Nat) (h : k < zs.length) : (halfI zs k).set k (.int .i64 zs[k]) = halfI zs (k + 1) := by
  unfold halfI
  have hl : ((zs.take k).map (Value.int .i64)).length = k := by simp; omega
  rw [List.set_append_right _ _ (by omega), hl, Nat.sub_self, List.take_succ_eq_append_getElem h, List.map_append, List.append_assoc]
  congr 1
  obtain ⟨m, hm⟩ : ∃ m, zs.length - k = m + 1 := ⟨zs.length - k - 1, by omega⟩
  rw [hm, show zs.length - (k + 1) = m by omega]
  rfl
set_option maxHeartbeats 1000000 in
theorem toI (zs : List Int) (v : Value) (w : World) (hn : zs.length ≤ 1048576) (h : IntsV w w.heap.size v zs) :
    Calls Try.prog 50 #[v] w (NewInts zs w) := by
  obtain ⟨p, cap, rfl, hc, hm, hz, hS⟩ := h
  have S := Lib.hid hS
  have Z := Lib.hid hz
  clear hS hz
  obtain ⟨i0, hi, hz0, hz1, hz2⟩ := info_parts intInfo
  have c1 : i0.bytes * zs.length ≤ 281474976710656 := by rw [hz2]; omega
  have c2 : zs.length ≤ maxLen := by unfold maxLen; omega
  go_enter Try.func50, Try.ntmps50
  go_wp2_with (at_make; refine wpList_make_full _ rfl _ _ 30 rfl w.heap.size 3 i0 (.int .i64 0) 1 Try.underlying30 hi hz0 hz1 .i64 .i64 _ _ zs.length rfl rfl rfl rfl c1 c2 (Nat.le_refl _) ?_; intro w1 hown hg)
  have hb1 : Below w.heap.size w w1 := (Below.refl _ _).grown hg (Nat.le_refl _) (by simp)
  have hown1 : w1.ownsRow w.heap.size 3 1 (.slice (some ⟨w.heap.size, 0, none⟩) zs.length zs.length) zs.length (halfI zs 0) := by
    have h2 := hown
    rw [show (Value.int .i64 0).cells = #[Value.int .i64 0] from rfl, Nat.mul_one, toList_madeCells_one] at h2
    rw [halfI_zero]
    exact h2
  clear hown hg c1 c2
  go_loopw [4] (fun i wr => ∃ k : Nat, k ≤ zs.length ∧ i = .int .i64 k ∧ wr.ownsRow w.heap.size 3 1 (.slice (some ⟨w.heap.size, 0, none⟩) zs.length zs.length) zs.length (halfI zs k) ∧ Below w.heap.size w wr) (fun i _ => zs.length - (intOf i).toNat)
  case atStart => exact ⟨0, Nat.zero_le _, rfl, hown1, hb1⟩
  case round =>
    obtain ⟨k, hk, rfl, hown, hb⟩ := hrel
    by_cases hlt : k < zs.length
    · obtain ⟨b, off, rfl, hB, hc0⟩ := S.out.at_ hlt
      have hc : wr.cell? ⟨b, off + k, none⟩ = some (.int .i64 zs[k]) := by rw [hb.cell (p := ⟨b, off + k, none⟩) hB]; exact hc0
      have hold : wr.cell? ⟨w.heap.size, k, none⟩ = some (.int .i64 0) := by
        rw [hown.cellAt k (by omega)]
        unfold halfI
        rw [List.getElem?_append_right (by simp; omega), List.getElem?_replicate, if_pos (by simp; omega)]
      have hfz : wr.frozen? ⟨w.heap.size, k, none⟩ = false := hown.frozenAt k
      have NEW := Lib.hid (hown.stored k (.int .i64 zs[k])).1
      have BB := Lib.hid (hb.setCell (p := ⟨w.heap.size, k, none⟩) (Nat.le_refl _) (.int .i64 zs[k]))
      have HS := Lib.hid (halfI_set zs k hlt)
      obtain ⟨x, hx⟩ : ∃ x : Int, x = zs[k] := ⟨_, rfl⟩
      rw [← hx] at hc NEW BB HS
      clear hx hc0 hown hb
      go_wp2
      go_roundw
      case rel => exact ⟨k + 1, by omega, by go_num, by rw [← HS.out]; exact NEW.out, BB.out⟩
      case measure => simp [intOf]; omega
    · have hk2 : k = zs.length := by omega
      rw [halfI_all zs k hk2] at hown
      have hroom := (hown.lt w.heap.size rfl).2
      have E := Lib.hid hown
      clear hown
      go_wp2
      go_ret
      exact ⟨_, rfl, ⟨E.out, by intro q hq; simp [Value.ownBlock] at hq; omega, Nat.le_refl _, Z.out⟩, hb⟩
set_option maxHeartbeats 400000 in
theorem eqI (zs : List Int) (v u : Value) (B C : Nat) (w : World) (hp : IntsV w B v zs) (hq : IntsV w C u zs) :
    Calls Try.prog 54 #[v, u] w fun e w' => e = .returned (.bool true) ∧ ∃ n, w' = w.drewN n := by
  have hn := hp.len
  obtain ⟨p, c, rfl, _, _, _, hp⟩ := hp
  obtain ⟨q, d, rfl, _, _, _, hq⟩ := hq
  have P := Lib.hid hp
  have Q := Lib.hid hq
  clear hp hq
  go_enter Try.func54, Try.ntmps54
  go_wp2
  go_loopw [5] (fun i wr => ∃ k : Nat, k ≤ zs.length ∧ i = .int .i64 k ∧ ∃ n, wr = w.drewN n) (fun i _ => zs.length - (intOf i).toNat)
  case atStart => exact ⟨0, Nat.zero_le _, rfl, 0, rfl⟩
  case round =>
    obtain ⟨k, hk, rfl, n, rfl⟩ := hrel
    by_cases hlt : k < zs.length
    · obtain ⟨b, off, rfl, _, hc⟩ := P.out.at_ hlt
      obtain ⟨b2, off2, rfl, _, hc2⟩ := Q.out.at_ hlt
      have h0 : (0 : Int) ≤ (k : Int) := by omega
      have h1 : (k : Int) < (zs.length : Int) := by omega
      obtain ⟨x, hx⟩ : ∃ x : Int, x = zs[k] := ⟨_, rfl⟩
      rw [← hx] at hc hc2
      clear hx
      go_wp2
      go_quiet (fail)
      go_wp2
      go_roundw
      case rel => exact ⟨k + 1, by omega, by go_num, _, rfl⟩
      case measure => simp [intOf]; omega
    · go_wp2
      go_ret
      exact ⟨rfl, n, rfl⟩
/-- The marks from k on. -/
def marksI (k n : Nat) : List Int := (List.range n).map (fun i => ((k + i : Nat) : Int))
theorem marksI_len (k n : Nat) : (marksI k n).length = n := by simp [marksI]
theorem marksI_at (k n i : Nat) (h : i < n) : (marksI k n)[i]'(by rw [marksI_len]; exact h) = ((k + i : Nat) : Int) := by simp [marksI]
theorem marksI_in (k n : Nat) (h : k + n ≤ 9000000000) : ∀ z ∈ marksI k n, InI64 z := by
  intro z hz
  obtain ⟨i, hi, rfl⟩ := List.mem_map.1 hz
  rw [List.mem_range] at hi
  unfold InI64; omega
/-- What the row holds behind j marks. -/
def markedI (zs : List Int) (k j : Nat) : List Value := (marksI k j).map (.int .i64) ++ (zs.drop j).map (.int .i64)
theorem markedI_zero (zs : List Int) (k : Nat) : markedI zs k 0 = zs.map (.int .i64) := by simp [markedI, marksI]
theorem markedI_set (zs : List Int) (k j : Nat) (h : j < zs.length) : (markedI zs k j).set j (.int .i64 ((k + j : Nat) : Int)) = markedI zs k (j + 1) := by
  unfold markedI
  have hl : ((marksI k j).map (Value.int .i64)).length = j := by simp [marksI]
  rw [List.set_append_right _ _ (by omega), hl, Nat.sub_self]
  unfold marksI
  rw [List.range_succ, List.map_append, List.map_append, List.append_assoc]
  congr 1
  rw [List.drop_eq_getElem_cons h]; rfl
theorem markedI_all (zs : List Int) (k n : Nat) (h : zs.length = n) : markedI zs k n = (marksI k n).map (.int .i64) := by
  unfold markedI; rw [List.drop_eq_nil_of_le (by omega)]; simp
end Go.Proofs.Ytmidlabgmmejbab
