/- Rows of pairs of a call's own, told as the ints of their cells; what the laws' helpers do with them. -/
import Derived.Test.YtligidmkhbcpmacPairE
import Derived.Test.YtligidmkhbcpmacRow
import Derived.Test.YtligidmkhbcpmacLawX
import Derived.Deep.LoopGhost
import Derived.Deep.RegionHeld3
namespace Go.Proofs.Ytligidmkhbcpmac
open Go.RowKit
set_option linter.unusedVariables false
structure OwnQ (w : World) (lo hi : Nat) (v : Value) (n : Nat) (fs : List Int) : Prop where
  len : fs.length = n * 2
  row : w.ownsRow lo 26 2 v n (fs.map (.int .i64))
  lt : ∀ q, v.ownBlock = some q → q < hi
  room : hi ≤ w.heap.size
  in64 : ∀ z ∈ fs, InI64 z
theorem OwnQ.below {w w' : World} {lo hi n : Nat} {v : Value} {fs : List Int} (h : OwnQ w lo hi v n fs) (hb : Below hi w w') : OwnQ w' lo hi v n fs := by
  refine ⟨h.len, ?_, h.lt, Nat.le_trans h.room hb.size, h.in64⟩
  refine ⟨h.row.1, ?_⟩
  rcases h.row.2 with hn | ⟨g, cap, cur, h1, hb', hg, rest⟩
  · exact .inl hn
  · refine .inr ⟨g, cap, cur, h1, hb', ?_, rest⟩
    rw [hb.block g (h.lt g (by rw [h1]; simp [Value.ownBlock]))]; exact hg
theorem OwnQ.alt {w w' : World} {lo hi lo' hi' n : Nat} {v : Value} {fs : List Int} (h : OwnQ w lo hi v n fs) (ha : Alt lo' hi' w w') (hd : hi ≤ lo' ∨ hi' ≤ lo) : OwnQ w' lo hi v n fs := by
  refine ⟨h.len, ?_, h.lt, Nat.le_trans h.room ha.size, h.in64⟩
  refine ⟨h.row.1, ?_⟩
  rcases h.row.2 with hn | ⟨g, cap, cur, h1, hb', hg, rest⟩
  · exact .inl hn
  · refine .inr ⟨g, cap, cur, h1, hb', ?_, rest⟩
    have hl := h.lt g (by rw [h1]; simp [Value.ownBlock])
    rw [ha.block g (by have := h.room; omega) (by omega)]; exact hg
theorem OwnQ.wide {w : World} {lo hi hi' n : Nat} {v : Value} {fs : List Int} (h : OwnQ w lo hi v n fs) (h2 : hi ≤ hi') (hr : hi' ≤ w.heap.size) : OwnQ w lo hi' v n fs :=
  ⟨h.len, h.row, fun q hq => by have := h.lt q hq; omega, hr, h.in64⟩
theorem OwnQ.low {w : World} {lo lo' hi n : Nat} {v : Value} {fs : List Int} (h : OwnQ w lo hi v n fs) (h1 : lo' ≤ lo) : OwnQ w lo' hi v n fs := by
  refine ⟨h.len, ⟨h.row.1, ?_⟩, h.lt, h.room, h.in64⟩
  rcases h.row.2 with hn | ⟨g, cap, cur, h2, hb', rest⟩
  · exact .inl hn
  · exact .inr ⟨g, cap, cur, h2, by omega, rest⟩
theorem OwnQ.shape {w : World} {lo hi n : Nat} {v : Value} {fs : List Int} (h : OwnQ w lo hi v n fs) (hp : 0 < n) : ∃ g cap, v = .slice (some ⟨g, 0, none⟩) n cap ∧ lo ≤ g ∧ g < hi := by
  rcases h.row.2 with ⟨_, h2⟩ | ⟨g, cap, cur, h1, hb, _⟩
  · omega
  · exact ⟨g, cap, h1, hb, h.lt g (by rw [h1]; simp [Value.ownBlock])⟩
theorem OwnQ.cellGet {w : World} {lo hi g cap n : Nat} {fs : List Int} (h : OwnQ w lo hi (.slice (some ⟨g, 0, none⟩) n cap) n fs) {j : Nat} (hj : j < n * 2) : w.cell? ⟨g, j, none⟩ = some (.int .i64 (fs.getD j 0)) := by
  have hl := h.len
  rw [h.row.cellAt j hj, List.getElem?_map, List.getD_eq_getElem?_getD, List.getElem?_eq_getElem (by omega)]; rfl
/-- As a slice that is read alone. -/
theorem OwnQ.opened {w : World} {lo hi n : Nat} {v : Value} {fs : List Int} (h : OwnQ w lo hi v n fs) : ∃ p cap, v = .slice p n cap ∧ ∀ i, i < n * 2 → ∃ g, p = some ⟨g, 0, none⟩ ∧ lo ≤ g ∧ g < hi ∧ w.cell? ⟨g, i, none⟩ = some (.int .i64 (fs.getD i 0)) := by
  rcases h.row.2 with ⟨h1, h2⟩ | ⟨g, cap, cur, h1, hb, _⟩
  · subst h2; exact ⟨none, 0, h1, fun i hi => by omega⟩
  · subst h1
    exact ⟨_, cap, rfl, fun i hi => ⟨g, rfl, hb, h.lt g (by simp [Value.ownBlock]), h.cellGet hi⟩⟩
theorem hb_nextQ {wa a b : World} (h : Hid (Below wa.heap.size wa a)) (k : Below a.heap.size a b) : Hid (Below wa.heap.size wa b) := Lib.hid (h.out.trans (k.mono h.out.size))
set_option maxHeartbeats 1000000 in
theorem eqQ (n : Nat) (fs : List Int) (v u : Value) (lo hi lo' hi' : Nat) (w : World) (hn : n ≤ 1048576) (hp : OwnQ w lo hi v n fs) (hq : OwnQ w lo' hi' u n fs) :
    Calls Try.prog 74 #[v, u] w fun e w' => e = .returned (.bool true) ∧ Below w.heap.size w w' := by
  have r1 := hp.room
  have r2 := hq.room
  obtain ⟨p, c, rfl, hp2⟩ := hp.opened
  obtain ⟨q, d, rfl, hq2⟩ := hq.opened
  have P := Lib.hid hp2
  have Q := Lib.hid hq2
  have EP := Lib.hid (fun a b w => eqP a b w)
  clear hp hq hp2 hq2
  go_enter Try.func74, Try.ntmps74
  go_wp2
  go_loopw [5] (fun i wr => ∃ k : Nat, k ≤ n ∧ i = .int .i64 k ∧ Hid (Below w.heap.size w wr)) (fun i _ => n - (intOf i).toNat)
  case atStart => exact ⟨0, Nat.zero_le _, rfl, Lib.hid (Below.refl _ _)⟩
  case round =>
    obtain ⟨k, hk, rfl, HB⟩ := hrel
    by_cases hlt : k < n
    · obtain ⟨g, rfl, _, hg, hc⟩ := P.out (k * 2) (by omega)
      obtain ⟨_, e1, _, _, hc'⟩ := P.out (k * 2 + 1) (by omega)
      injection e1 with e1
      injection e1 with e1
      subst e1
      obtain ⟨g2, rfl, _, hg2, hd⟩ := Q.out (k * 2) (by omega)
      obtain ⟨_, e1, _, _, hd'⟩ := Q.out (k * 2 + 1) (by omega)
      injection e1 with e1
      injection e1 with e1
      subst e1
      have hc := (HB.out.cell (p := ⟨g, k * 2, none⟩) (by show g < _; omega)).trans hc
      have hc' := (HB.out.cell (p := ⟨g, k * 2 + 1, none⟩) (by show g < _; omega)).trans hc'
      have hd := (HB.out.cell (p := ⟨g2, k * 2, none⟩) (by show g2 < _; omega)).trans hd
      have hd' := (HB.out.cell (p := ⟨g2, k * 2 + 1, none⟩) (by show g2 < _; omega)).trans hd'
      have h0 : (0 : Int) ≤ (k : Int) := by omega
      have h1 : (k : Int) < (n : Int) := by omega
      have lg : g < wr.heap.size := by have := HB.out.size; omega
      have lg2 : g2 < wr.heap.size := by have := HB.out.size; omega
      obtain ⟨x, hx⟩ : ∃ x : Int, x = fs.getD (k * 2) 0 := ⟨_, rfl⟩
      obtain ⟨y, hy⟩ : ∃ y : Int, y = fs.getD (k * 2 + 1) 0 := ⟨_, rfl⟩
      rw [← hx] at hc hd
      rw [← hy] at hc' hd'
      have KC : Hid (∀ w', Hid (Below wr.heap.size wr w') → w'.cell? ⟨g, k * 2, none⟩ = some (.int .i64 x) ∧ w'.cell? ⟨g, k * 2 + 1, none⟩ = some (.int .i64 y) ∧ w'.cell? ⟨g2, k * 2, none⟩ = some (.int .i64 x) ∧ w'.cell? ⟨g2, k * 2 + 1, none⟩ = some (.int .i64 y)) := Lib.hid (fun w' hb => ⟨(hb.out.cell (p := ⟨g, k * 2, none⟩) lg).trans hc, (hb.out.cell (p := ⟨g, k * 2 + 1, none⟩) lg).trans hc', (hb.out.cell (p := ⟨g2, k * 2, none⟩) lg2).trans hd, (hb.out.cell (p := ⟨g2, k * 2 + 1, none⟩) lg2).trans hd'⟩)
      have HD : Hid (Below wr.heap.size wr wr.drew) := Lib.hid (below_drew (Below.refl _ _))
      clear hx hy hc hc' hd hd' lg lg2 hg hg2
      go_wp2_with fail
      go_region_held3 (fun w' => w'.cell? ⟨g, k * 2, none⟩ = some (.int .i64 x) ∧ w'.cell? ⟨g, k * 2 + 1, none⟩ = some (.int .i64 y) ∧ w'.cell? ⟨g2, k * 2, none⟩ = some (.int .i64 x) ∧ w'.cell? ⟨g2, k * 2 + 1, none⟩ = some (.int .i64 y))
        (first | exact KC.out _ HD | exact KC.out _ (by assumption) | go_keep)
        (first
          | (go_at_call 17; (with_reducible refine (EP.out x y _).mono ?_); rintro e w3 ⟨rfl, b3⟩; (have HE3 := hb_nextQ (wa := wr) (by first | exact HD | assumption) b3); clear b3))
      all_goals
        have HB3 := Lib.hid (HB.out.trans (HE3.out.mono HB.out.size))
        clear HB HE3 HD KC
        go_wp2_with fail
        go_roundw
        case rel => exact ⟨k + 1, by omega, by go_num, HB3⟩
        case measure => simp [intOf]; omega
    · go_wp2
      go_ret
      exact ⟨rfl, HB.out⟩
set_option maxHeartbeats 1000000 in
theorem markQ (n : Nat) (fs : List Int) (v : Value) (lo hi k : Nat) (w : World) (hn : n ≤ 1048576) (hk : k ≤ 1000000000) (h : OwnQ w lo hi v n fs) :
    Calls Try.prog 75 #[v, .int .i64 k] w fun e w' => e = .returned (.int .i64 ((k + n * 2 : Nat) : Int)) ∧ OwnQ w' lo hi v n (marksI k (n * 2)) ∧ Alt lo hi w w' := by
  have hfl := h.len
  have hfin : ∀ wr : World, wr.ownsRow lo 26 2 v n ((marksI k (n * 2)).map (.int .i64)) → Alt lo hi w wr → OwnQ wr lo hi v n (marksI k (n * 2)) := fun wr h1 h2 =>
    ⟨marksI_len _ _, h1, h.lt, Nat.le_trans h.room h2.size, marksI_in _ _ (by omega)⟩
  have FIN := Lib.hid hfin
  have ROW := Lib.hid (show w.ownsRow lo 26 2 v n (markedI fs k 0) by rw [markedI_zero]; exact h.row)
  have LT := Lib.hid (h.lt)
  have HB := Lib.hid h.row.2
  obtain ⟨p, cap, rfl, hI⟩ := h.opened
  clear h hfin hI
  have OUT : Hid (∀ (wr : World) (j : Nat), j < n * 2 → wr.ownsRow lo 26 2 (.slice p n cap) n (markedI fs k j) → ∃ g, p = some ⟨g, 0, none⟩ ∧ lo ≤ g ∧ g < hi) := Lib.hid (by
    intro wr j hj hr
    rcases HB.out with ⟨h1, h2⟩ | ⟨g, cap', cur, h1, hb', _⟩
    · omega
    · injection h1 with h1 _ _
      exact ⟨g, h1, hb', LT.out g (by rw [h1]; rfl)⟩)
  clear HB LT
  have FL := Lib.hid hfl
  clear hfl
  go_enter Try.func75, Try.ntmps75
  go_wp2
  go_loopg [1, 5] n (fun gg q i wr => ∃ j : Nat, j ≤ n ∧ n - j ≤ gg ∧ i = .int .i64 j ∧ q = .int .i64 ((k + j * 2 : Nat) : Int) ∧ Hid (wr.ownsRow lo 26 2 (.slice p n cap) n (markedI fs k (j * 2))) ∧ Hid (Alt lo hi w wr))
  case atStart => exact ⟨0, Nat.zero_le _, by omega, rfl, by simp, by simpa using ROW, Lib.hid ⟨rfl, rfl, rfl, Nat.le_refl _, fun _ _ _ => rfl⟩⟩
  case round =>
    obtain ⟨j, hj, hgg, rfl, rfl, hown, hg⟩ := hrel
    by_cases hlt : j < n
    · go_wp2_with fail
      go_loopg [1, 6] 2 (fun gi q i wi => ∃ m : Nat, m ≤ 2 ∧ 2 - m ≤ gi ∧ i = .int .i64 m ∧ q = .int .i64 ((k + (j * 2 + m) : Nat) : Int) ∧ Hid (wi.ownsRow lo 26 2 (.slice p n cap) n (markedI fs k (j * 2 + m))) ∧ Hid (Alt lo hi w wi))
      case atStart => exact ⟨0, by omega, by omega, rfl, by simp, by simpa using hown, hg⟩
      case round =>
        obtain ⟨m, hm, hgi, rfl, rfl, hown2, hg2⟩ := hrel
        clear hown hg
        by_cases hml : m < 2
        · obtain ⟨g, rfl, hglo, hghi⟩ := OUT.out wr (j * 2 + m) (by omega) hown2.out
          have i0 : (0 : Int) ≤ (j : Int) := by omega
          have i1 : (j : Int) < (n : Int) := by omega
          have i2 : (0 : Int) ≤ (m : Int) := by omega
          have i3 : (m : Int) < 2 := by omega
          have hcell : ∃ s : Int, wr.cell? ⟨g, j * 2 + m, none⟩ = some (.int .i64 s) := by
            rw [hown2.out.cellAt (j * 2 + m) (by omega)]
            unfold markedI
            rw [List.getElem?_append_right (by simp [marksI]), List.length_map, marksI_len, Nat.sub_self, List.getElem?_map, List.getElem?_drop, Nat.add_zero, List.getElem?_eq_getElem (by rw [FL.out]; omega)]
            exact ⟨_, rfl⟩
          obtain ⟨s, hcl⟩ := hcell
          have hf := hown2.out.frozenAt (j * 2 + m)
          have st := hown2.out.stored (j * 2 + m) (.int .i64 ((k + (j * 2 + m) : Nat) : Int))
          have NEW : Hid ((wr.setCell ⟨g, j * 2 + m, none⟩ (.int .i64 ((k + (j * 2 + m) : Nat) : Int))).ownsRow lo 26 2 (.slice (some ⟨g, 0, none⟩) n cap) n (markedI fs k (j * 2 + (m + 1)))) := by
            rw [show j * 2 + (m + 1) = j * 2 + m + 1 by omega, ← markedI_set fs k (j * 2 + m) (by rw [FL.out]; omega)]; exact Lib.hid st.1
          have G2 := Lib.hid (hg2.out.trans (Alt.of_grown (lo := lo) (hi := hi) st.2 (fun q hq => by injection hq; omega)))
          clear st
          go_wp2_with fail
          go_roundg (2 - (m + 1))
          case rel => exact ⟨m + 1, by omega, by omega, by go_num, by go_num, NEW, G2⟩
          case measure => omega
        · have hm2 : m = 2 := by omega
          subst hm2
          have NEW : Hid (wr.ownsRow lo 26 2 (.slice p n cap) n (markedI fs k ((j + 1) * 2))) := by
            rw [show (j + 1) * 2 = j * 2 + 2 by omega]; exact hown2
          go_wp2_with fail
          go_roundg (n - (j + 1))
          case rel => exact ⟨j + 1, by omega, by omega, by go_num, by go_num, NEW, hg2⟩
          case measure => omega
    · have hj2 : j = n := by omega
      have EQ := Lib.hid hj2
      have RES := Lib.hid (FIN.out wr (by have := hown.out; rw [hj2, markedI_all fs k _ FL.out] at this; exact this) hg.out)
      clear hj2
      go_wp2_with fail
      go_ret
      exact ⟨by first | rfl | (rw [EQ.out]; rfl), RES.out, hg.out⟩
theorem marksI_get (k n i : Nat) (h : i < n) : (marksI k n).getD i 0 = ((k + i : Nat) : Int) := by
  rw [List.getD_eq_getElem?_getD, List.getElem?_eq_getElem (by rw [marksI_len]; exact h), marksI_at k n i h]; rfl
set_option maxHeartbeats 1000000 in
theorem heldQ (k n : Nat) (v : Value) (lo hi : Nat) (w : World) (hn : n ≤ 1048576) (hk : k ≤ 1000000000) (h : OwnQ w lo hi v n (marksI k (n * 2))) :
    Calls Try.prog 76 #[v, .int .i64 k] w fun e w' => e = .returned (.int .i64 ((k + n * 2 : Nat) : Int)) ∧ Below w.heap.size w w' := by
  obtain ⟨p, c, rfl, hp⟩ := h.opened
  have P : Hid (∀ i : Nat, i < n * 2 → ∃ g, p = some ⟨g, 0, none⟩ ∧ w.cell? ⟨g, i, none⟩ = some (.int .i64 ((k + i : Nat) : Int))) := Lib.hid (fun i hi => by
    obtain ⟨g, e, _, _, hc⟩ := hp i hi
    exact ⟨g, e, by rw [hc, marksI_get k _ i hi]⟩)
  clear hp h
  go_enter Try.func76, Try.ntmps76
  go_wp2
  go_loopg [1, 5] n (fun gg q i wr => ∃ j : Nat, j ≤ n ∧ n - j ≤ gg ∧ i = .int .i64 j ∧ q = .int .i64 ((k + j * 2 : Nat) : Int) ∧ wr = w)
  case atStart => exact ⟨0, Nat.zero_le _, by omega, rfl, by simp, rfl⟩
  case round =>
    obtain ⟨j, hj, hgg, rfl, rfl, rfl⟩ := hrel
    by_cases hlt : j < n
    · go_wp2_with fail
      go_loopg [1, 6] 2 (fun gi q i wi => ∃ m : Nat, m ≤ 2 ∧ 2 - m ≤ gi ∧ i = .int .i64 m ∧ q = .int .i64 ((k + (j * 2 + m) : Nat) : Int) ∧ wi = wr)
      case atStart => exact ⟨0, by omega, by omega, rfl, by simp, rfl⟩
      case round =>
        obtain ⟨m, hm, hgi, rfl, rfl, rfl⟩ := hrel
        by_cases hml : m < 2
        · obtain ⟨g, rfl, hc⟩ := P.out (j * 2 + m) (by omega)
          have i0 : (0 : Int) ≤ (j : Int) := by omega
          have i1 : (j : Int) < (n : Int) := by omega
          have i2 : (0 : Int) ≤ (m : Int) := by omega
          have i3 : (m : Int) < 2 := by omega
          go_wp2_with fail
          go_roundg (2 - (m + 1))
          case rel => exact ⟨m + 1, by omega, by omega, by go_num, by go_num, by first | trivial | rfl⟩
          case measure => omega
        · have hm2 : m = 2 := by omega
          subst hm2
          go_wp2_with fail
          go_roundg (n - (j + 1))
          case rel => exact ⟨j + 1, by omega, by omega, by go_num, by go_num, by first | trivial | rfl⟩
          case measure => omega
    · have hj2 : j = n := by omega
      have EQ := Lib.hid hj2
      clear hj2
      go_wp2_with fail
      go_ret
      exact ⟨by first | rfl | (rw [EQ.out]; rfl), Below.refl _ _⟩
end Go.Proofs.Ytligidmkhbcpmac
