/- What the laws' helpers do with slices of ints: a copy, whether two are alike, marks written and found again. -/
import Derived.Test.YtligidmkhbcpmacInts
import Derived.WalkKit
import Derived.ProofKit
import Derived.Outline
import Derived.Lib.Hide
import Derived.OwnWalk
import Derived.Laws.AppendOwn
import Derived.Laws.OwnMore
import Derived.WalkSmall
import Derived.WalkSpells
import Derived.Deep.QuietTactic
import Derived.BigQuiet
namespace Go.Proofs.Ytligidmkhbcpmac
open Go.RowKit
set_option linter.unusedVariables false
/-- A copy in new memory. -/
def NewInts (zs : List Int) (w : World) (e : Ending) (w' : World) : Prop :=
  ∃ v, e = .returned v ∧ OwnV w' w.heap.size w'.heap.size v zs ∧ Below w.heap.size w w'
/-- What the copy holds behind k rounds. -/
def halfI (zs : List Int) (k : Nat) : List Value := (zs.take k).map (.int .i64) ++ List.replicate (zs.length - k) (.int .i64 0)
theorem halfI_zero (zs : List Int) : halfI zs 0 = List.replicate zs.length (.int .i64 0) := by simp [halfI]
theorem halfI_all (zs : List Int) (k : Nat) (h : k = zs.length) : halfI zs k = zs.map (.int .i64) := by subst h; simp [halfI]
theorem halfI_set (zs : List Int) (k : Nat) (h : k < zs.length) : (halfI zs k).set k (.int .i64 zs[k]) = halfI zs (k + 1) := by
  unfold halfI
  have hl : ((zs.take k).map (Value.int .i64)).length = k := by simp; omega
  rw [List.set_append_right _ _ (by omega), hl, Nat.sub_self, List.take_succ_eq_append_getElem h, List.map_append, List.append_assoc]
  congr 1
  obtain ⟨m, hm⟩ : ∃ m, zs.length - k = m + 1 := ⟨zs.length - k - 1, by omega⟩
  rw [hm, show zs.length - (k + 1) = m by omega]
  rfl
set_option maxHeartbeats 1000000 in
theorem toI (zs : List Int) (v : Value) (w : World) (hn : zs.length ≤ 1048576) (h : IntsV w w.heap.size v zs) :
    Calls Try.prog 15 #[v] w (NewInts zs w) := by
  obtain ⟨p, cap, rfl, hc, hm, hz, hS⟩ := h
  have S := Lib.hid hS
  have Z := Lib.hid hz
  clear hS hz
  obtain ⟨i0, hi, hz0, hz1, hz2⟩ := info_parts intInfo
  have c1 : i0.bytes * zs.length ≤ 281474976710656 := by rw [hz2]; omega
  have c2 : zs.length ≤ maxLen := by unfold maxLen; omega
  go_enter Try.func15, Try.ntmps15
  go_wp2_with (at_make; refine wpList_make_full _ rfl _ _ 22 rfl w.heap.size 3 i0 (.int .i64 0) 1 Try.underlying22 hi hz0 hz1 .i64 .i64 _ _ zs.length rfl rfl rfl rfl c1 c2 (Nat.le_refl _) ?_; intro w1 hown hg)
  have hb1 : Below w.heap.size w w1 := (Below.refl _ _).grown hg (Nat.le_refl _) (by simp)
  have hown1 : w1.ownsRow w.heap.size 3 1 (.slice (some ⟨w.heap.size, 0, none⟩) zs.length zs.length) zs.length (halfI zs 0) := by
    have h2 := hown
    rw [show (Value.int .i64 0).cells = #[Value.int .i64 0] from rfl, Nat.mul_one, toList_madeCells_one] at h2
    rw [halfI_zero]
    exact h2
  clear hown hg c1 c2
  go_loopw [4] (fun i wr => ∃ k : Nat, k ≤ zs.length ∧ i = .int .i64 k ∧ wr.ownsRow w.heap.size 3 1 (.slice (some ⟨w.heap.size, 0, none⟩) zs.length zs.length) zs.length (halfI zs k) ∧ Below w.heap.size w wr) (fun i _ => zs.length - (intOf i).toNat)
  case atStart => exact ⟨0, Nat.zero_le _, rfl, hown1, hb1⟩
  case round =>
    obtain ⟨k, hk, rfl, hown, hb⟩ := hrel
    by_cases hlt : k < zs.length
    · obtain ⟨b, off, rfl, hB, hc0⟩ := S.out.at_ hlt
      have hc : wr.cell? ⟨b, off + k, none⟩ = some (.int .i64 zs[k]) := by rw [hb.cell (p := ⟨b, off + k, none⟩) hB]; exact hc0
      have hold : wr.cell? ⟨w.heap.size, k, none⟩ = some (.int .i64 0) := by
        rw [hown.cellAt k (by omega)]
        unfold halfI
        rw [List.getElem?_append_right (by simp; omega), List.getElem?_replicate, if_pos (by simp; omega)]
      have hfz : wr.frozen? ⟨w.heap.size, k, none⟩ = false := hown.frozenAt k
      have NEW := Lib.hid (hown.stored k (.int .i64 zs[k])).1
      have BB := Lib.hid (hb.setCell (p := ⟨w.heap.size, k, none⟩) (Nat.le_refl _) (.int .i64 zs[k]))
      have HS := Lib.hid (halfI_set zs k hlt)
      obtain ⟨x, hx⟩ : ∃ x : Int, x = zs[k] := ⟨_, rfl⟩
      rw [← hx] at hc NEW BB HS
      clear hx hc0 hown hb
      go_wp2
      go_roundw
      case rel => exact ⟨k + 1, by omega, by go_num, by rw [← HS.out]; exact NEW.out, BB.out⟩
      case measure => simp [intOf]; omega
    · have hk2 : k = zs.length := by omega
      rw [halfI_all zs k hk2] at hown
      have hroom := (hown.lt w.heap.size rfl).2
      have E := Lib.hid hown
      clear hown
      go_wp2
      go_ret
      exact ⟨_, rfl, ⟨E.out, by intro q hq; simp [Value.ownBlock] at hq; omega, Nat.le_refl _, Z.out⟩, hb⟩
set_option maxHeartbeats 400000 in
theorem eqI (zs : List Int) (v u : Value) (B C : Nat) (w : World) (hp : IntsV w B v zs) (hq : IntsV w C u zs) :
    Calls Try.prog 19 #[v, u] w fun e w' => e = .returned (.bool true) ∧ ∃ n, w' = w.drewN n := by
  have hn := hp.len
  obtain ⟨p, c, rfl, _, _, _, hp⟩ := hp
  obtain ⟨q, d, rfl, _, _, _, hq⟩ := hq
  have P := Lib.hid hp
  have Q := Lib.hid hq
  clear hp hq
  go_enter Try.func19, Try.ntmps19
  go_wp2
  go_loopw [5] (fun i wr => ∃ k : Nat, k ≤ zs.length ∧ i = .int .i64 k ∧ ∃ n, wr = w.drewN n) (fun i _ => zs.length - (intOf i).toNat)
  case atStart => exact ⟨0, Nat.zero_le _, rfl, 0, rfl⟩
  case round =>
    obtain ⟨k, hk, rfl, n, rfl⟩ := hrel
    by_cases hlt : k < zs.length
    · obtain ⟨b, off, rfl, _, hc⟩ := P.out.at_ hlt
      obtain ⟨b2, off2, rfl, _, hc2⟩ := Q.out.at_ hlt
      have h0 : (0 : Int) ≤ (k : Int) := by omega
      have h1 : (k : Int) < (zs.length : Int) := by omega
      obtain ⟨x, hx⟩ : ∃ x : Int, x = zs[k] := ⟨_, rfl⟩
      rw [← hx] at hc hc2
      clear hx
      go_wp2
      go_quiet (fail)
      go_wp2
      go_roundw
      case rel => exact ⟨k + 1, by omega, by go_num, _, rfl⟩
      case measure => simp [intOf]; omega
    · go_wp2
      go_ret
      exact ⟨rfl, n, rfl⟩
/-- The marks from k on. -/
def marksI (k n : Nat) : List Int := (List.range n).map (fun i => ((k + i : Nat) : Int))
theorem marksI_len (k n : Nat) : (marksI k n).length = n := by simp [marksI]
theorem marksI_at (k n i : Nat) (h : i < n) : (marksI k n)[i]'(by rw [marksI_len]; exact h) = ((k + i : Nat) : Int) := by simp [marksI]
theorem marksI_in (k n : Nat) (h : k + n ≤ 9000000000) : ∀ z ∈ marksI k n, InI64 z := by
  intro z hz
  obtain ⟨i, hi, rfl⟩ := List.mem_map.1 hz
  rw [List.mem_range] at hi
  unfold InI64; omega
/-- What the row holds behind j marks. -/
def markedI (zs : List Int) (k j : Nat) : List Value := (marksI k j).map (.int .i64) ++ (zs.drop j).map (.int .i64)
theorem markedI_zero (zs : List Int) (k : Nat) : markedI zs k 0 = zs.map (.int .i64) := by simp [markedI, marksI]
theorem markedI_set (zs : List Int) (k j : Nat) (h : j < zs.length) : (markedI zs k j).set j (.int .i64 ((k + j : Nat) : Int)) = markedI zs k (j + 1) := by
  unfold markedI
  have hl : ((marksI k j).map (Value.int .i64)).length = j := by simp [marksI]
  rw [List.set_append_right _ _ (by omega), hl, Nat.sub_self]
  unfold marksI
  rw [List.range_succ, List.map_append, List.map_append, List.append_assoc]
  congr 1
  rw [List.drop_eq_getElem_cons h]; rfl
theorem markedI_all (zs : List Int) (k n : Nat) (h : zs.length = n) : markedI zs k n = (marksI k n).map (.int .i64) := by
  unfold markedI; rw [List.drop_eq_nil_of_le (by omega)]; simp
set_option maxHeartbeats 1000000 in
theorem markI (zs : List Int) (v : Value) (lo hi k : Nat) (w : World) (hn : zs.length ≤ 1048576) (hk : k ≤ 1000000000) (h : OwnV w lo hi v zs) :
    Calls Try.prog 79 #[v, .int .i64 k] w fun e w' => e = .returned (.int .i64 ((k + zs.length : Nat) : Int)) ∧ OwnV w' lo hi v (marksI k zs.length) ∧ Alt lo hi w w' := by
  have hfin : ∀ wr : World, wr.ownsRow lo 3 1 v zs.length ((marksI k zs.length).map (.int .i64)) → Alt lo hi w wr → OwnV wr lo hi v (marksI k zs.length) := fun wr h1 h2 =>
    ⟨by rw [marksI_len]; exact h1, h.lt, Nat.le_trans h.room h2.size, marksI_in _ _ (by omega)⟩
  have FIN := Lib.hid hfin
  have ROW := Lib.hid (show w.ownsRow lo 3 1 v zs.length (markedI zs k 0) by rw [markedI_zero]; exact h.row)
  have hlt := h.lt
  have HB := Lib.hid h.row.2
  have LT := Lib.hid (h.lt)
  obtain ⟨p, cap, rfl, hc, hm, hz, hI⟩ := h.intsV
  clear h hfin hI hz hlt
  have OUT : Hid (∀ (wr : World) (j : Nat), j < zs.length → wr.ownsRow lo 3 1 (.slice p zs.length cap) zs.length (markedI zs k j) → ∃ g, p = some ⟨g, 0, none⟩ ∧ lo ≤ g ∧ g < hi) := Lib.hid (by
    intro wr j hj hr
    rcases HB.out with ⟨h1, h2⟩ | ⟨g, cap', cur, h1, hb', _⟩
    · omega
    · injection h1 with h1 _ _
      exact ⟨g, h1, hb', LT.out g (by rw [h1]; rfl)⟩)
  clear HB LT
  go_enter Try.func79, Try.ntmps79
  go_wp2
  go_loopw [1, 5] (fun q i wr => ∃ j : Nat, j ≤ zs.length ∧ i = .int .i64 j ∧ q = .int .i64 ((k + j : Nat) : Int) ∧ Hid (wr.ownsRow lo 3 1 (.slice p zs.length cap) zs.length (markedI zs k j)) ∧ Hid (Alt lo hi w wr)) (fun _ i _ => zs.length - (intOf i).toNat)
  case atStart => exact ⟨0, Nat.zero_le _, rfl, rfl, ROW, Lib.hid ⟨rfl, rfl, rfl, Nat.le_refl _, fun _ _ _ => rfl⟩⟩
  case round =>
    obtain ⟨j, hj, rfl, rfl, hown, hg⟩ := hrel
    by_cases hlt : j < zs.length
    · obtain ⟨g, rfl, hglo, hghi⟩ := OUT.out wr j hlt hown.out
      have i0 : (0 : Int) ≤ (j : Int) := by omega
      have i1 : (j : Int) < (zs.length : Int) := by omega
      have hcell : ∃ s : Int, wr.cell? ⟨g, j, none⟩ = some (.int .i64 s) := by
        rw [hown.out.cellAt j (by omega)]
        unfold markedI
        rw [List.getElem?_append_right (by simp [marksI]), List.length_map, marksI_len, Nat.sub_self, List.getElem?_map, List.getElem?_drop, Nat.add_zero, List.getElem?_eq_getElem hlt]
        exact ⟨_, rfl⟩
      obtain ⟨s, hcl⟩ := hcell
      have hf := hown.out.frozenAt j
      have st := hown.out.stored j (.int .i64 ((k + j : Nat) : Int))
      have NEW : Hid ((wr.setCell ⟨g, j, none⟩ (.int .i64 ((k + j : Nat) : Int))).ownsRow lo 3 1 (.slice (some ⟨g, 0, none⟩) zs.length cap) zs.length (markedI zs k (j + 1))) := by
        rw [← markedI_set zs k j hlt]; exact Lib.hid st.1
      have G2 := Lib.hid (hg.out.trans (Alt.of_grown (lo := lo) (hi := hi) st.2 (fun q hq => by injection hq; omega)))
      clear st
      go_wp2_with fail
      go_roundw
      case rel => exact ⟨j + 1, by omega, by go_num, by go_num, NEW, G2⟩
      case measure => simp [intOf]; omega
    · have hj2 : j = zs.length := by omega
      have EQ := Lib.hid hj2
      have RES := Lib.hid (FIN.out wr (by have := hown.out; rw [hj2, markedI_all zs k _ rfl] at this; exact this) hg.out)
      clear hj2
      go_wp2_with fail
      go_ret
      exact ⟨by first | rfl | (rw [EQ.out]; rfl), RES.out, hg.out⟩
set_option maxHeartbeats 1000000 in
theorem heldI (k n : Nat) (v : Value) (B : Nat) (w : World) (hn : n ≤ 1048576) (hk : k ≤ 1000000000) (h : IntsV w B v (marksI k n)) :
    Calls Try.prog 80 #[v, .int .i64 k] w fun e w' => e = .returned (.int .i64 ((k + n : Nat) : Int)) ∧ ∃ m, w' = w.drewN m := by
  obtain ⟨p, c, rfl, _, _, _, hp⟩ := h
  rw [marksI_len]
  have P : Hid (∀ i : Nat, i < n → ∃ b off, p = some ⟨b, off, none⟩ ∧ w.cell? ⟨b, off + i, none⟩ = some (.int .i64 ((k + i : Nat) : Int))) := Lib.hid (fun i hi => by
    obtain ⟨b, off, e, _, hc⟩ := hp i (by rw [marksI_len]; exact hi)
    exact ⟨b, off, e, by rw [hc, marksI_at k n i hi]⟩)
  clear hp
  go_enter Try.func80, Try.ntmps80
  go_wp2
  go_loopw [1, 5] (fun q i wr => ∃ j : Nat, j ≤ n ∧ i = .int .i64 j ∧ q = .int .i64 ((k + j : Nat) : Int) ∧ ∃ m, wr = w.drewN m) (fun _ i _ => n - (intOf i).toNat)
  case atStart => exact ⟨0, Nat.zero_le _, rfl, rfl, 0, rfl⟩
  case round =>
    obtain ⟨j, hj, rfl, rfl, m, rfl⟩ := hrel
    by_cases hlt : j < n
    · obtain ⟨b, off, rfl, hc⟩ := P.out j hlt
      have h0 : (0 : Int) ≤ (j : Int) := by omega
      have h1 : (j : Int) < (n : Int) := by omega
      go_wp2
      go_roundw
      case rel => exact ⟨j + 1, by omega, by go_num, by go_num, _, rfl⟩
      case measure => simp [intOf]; omega
    · have hj2 : j = n := by omega
      have EQ := Lib.hid hj2
      clear hj2
      go_wp2
      go_ret
      exact ⟨by first | rfl | (rw [EQ.out]; rfl), m, rfl⟩
end Go.Proofs.Ytligidmkhbcpmac
