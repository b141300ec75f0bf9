/- SplitString and its model, as contracts of the translated text. -/
import Derived.Test.YthpkabjgjgmnoaaRange
import Derived.Maps.OwnIn
import Derived.RangeFuncNested
namespace Go.Proofs.Ythpkabjgjgmnoaa
open Go.RowKit Go.Shelf
set_option linter.unusedVariables false
attribute [local go_sem] Oper.semAt_some
theorem parts_stops (F : Fence) (n : Nat) (h : F.fn 36) (hro : F.round = none) (hn : 1 ≤ n) (B1 B2 : Nat) (s : ByteArray) (c : UInt8) (hs : s.size ≤ 2000000) (w : World) (h1 : B1 < w.heap.size) (h2 : B2 < w.heap.size)
    (hc1 : w.cell? ⟨B1, 0, none⟩ = some (.string s)) (hc2 : w.cell? ⟨B2, 0, none⟩ = some (.int .u8 c.toNat)) :
    SeqStopsK F n Try.prog 36 #[.pointer (some ⟨B1, 0, none⟩), .pointer (some ⟨B2, 0, none⟩)] (fun x : ByteArray => #[Value.string x]) (KeepsTwo B1 B2) (fun ys => ys = splitAll s c) (fun _ => True) (s.size + 1) w := fun l J Jx W hW hJ _ hY h0 =>
  parts_in F n h hro hn l B1 B2 s c hs J Jx W hJ hY ((hW.cell (p := ⟨B1, 0, none⟩) h1).trans hc1) ((hW.cell (p := ⟨B2, 0, none⟩) h2).trans hc2) h0
/-- What the call answers: the parts in new memory, and whether it could. -/
def SplitAns (ps : List ByteArray) (b : Bool) (w : World) (e : Ending) (w' : World) : Prop :=
  ∃ g cap, e = .returned (.tuple #[.slice (some ⟨g, 0, none⟩) ps.length cap, .bool b]) ∧ w'.ownsRow w.heap.size 9 1 (.slice (some ⟨g, 0, none⟩) ps.length cap) ps.length (ps.map .string) ∧ Below w.heap.size w w'
def sepC (sep : ByteArray) : UInt8 := sep.data.toList.headD 0
theorem sepC_at (sep : ByteArray) (h : 0 < sep.size) : sep[0] = sepC sep := by
  obtain ⟨⟨l⟩⟩ := sep
  cases l with
  | nil => exact absurd h (by simp [ByteArray.size])
  | cons c t => rfl
theorem split_no_fin {w : World} {B : Nat} (hB : B = w.heap.size) : SplitAns [] false w (.returned (.tuple #[.slice (some ⟨B, 0, none⟩) 0 0, .bool false])) (w.alloc (.cells #[] 9)) := by
  subst hB
  refine ⟨w.heap.size, 0, rfl, ⟨rfl, .inr ⟨w.heap.size, 0, #[], rfl, Nat.le_refl _, ?_, by simp, by unfold maxLen; omega, rfl, rfl⟩⟩, (Below.refl _ _).alloc (Nat.le_refl _) _⟩
  show (w.heap.push _)[w.heap.size]? = _
  simp
theorem split_row (w : World) (n₀ : Nat) (h : n₀ ≤ w.heap.size) : (w.alloc (.cells #[] 9)).ownsRow n₀ 9 1 (.slice (some ⟨w.heap.size, 0, none⟩) 0 0) 0 [] := by
  refine ⟨rfl, .inr ⟨w.heap.size, 0, #[], rfl, h, ?_, by omega, by unfold maxLen; omega, rfl, rfl⟩⟩
  show (w.heap.push _)[w.heap.size]? = _
  simp
theorem implSplit_no (s sep : ByteArray) (w : World) (hs : s.size ≤ maxLen) (hp : sep.size ≤ maxLen) (h : ¬ (s.size ≤ 4000 ∧ sep.size = 1)) :
    Calls Try.prog 10 #[.string s, .string sep] w (SplitAns [] false w) := by
  unfold maxLen at hs hp
  by_cases h4 : s.size ≤ 4000
  · have hb : ((sep.size : Int) == 1) = false := by rw [beq_eq_false_iff_ne]; omega
    have hb2 : ((sep.size : Int) != 1) = true := by rw [bne, hb]; rfl
    clear h
    go_enter Try.func10, Try.ntmps10
    go_wp2_with fail
    go_ret2
    exact split_no_fin rfl
  · have h5 : 4000 < s.size := by omega
    clear h h4
    go_enter Try.func10, Try.ntmps10
    go_wp2_with fail
    go_ret2
    exact split_no_fin rfl
theorem specSplit_no (s sep : ByteArray) (w : World) (hs : s.size ≤ maxLen) (hp : sep.size ≤ maxLen) (h : ¬ (s.size ≤ 4000 ∧ sep.size = 1)) :
    Calls Try.prog 17 #[.string s, .string sep] w (SplitAns [] false w) := by
  unfold maxLen at hs hp
  by_cases h1 : sep.size = 1
  · have h5 : 4000 < s.size := by omega
    clear h
    go_enter Try.func17, Try.ntmps17
    go_wp2_with fail
    go_ret2
    exact split_no_fin rfl
  · have hb : ((sep.size : Int) == 1) = false := by rw [beq_eq_false_iff_ne]; omega
    have hb2 : ((sep.size : Int) != 1) = true := by rw [bne, hb]; rfl
    clear h h1
    go_enter Try.func17, Try.ntmps17
    go_wp2_with fail
    go_ret2
    exact split_no_fin rfl
theorem specSplit_yes (s sep : ByteArray) (w : World) (h4 : s.size ≤ 4000) (h1 : sep.size = 1) :
    Calls Try.prog 17 #[.string s, .string sep] w (SplitAns (splitAll s (sepC sep)) true w) := by
  have hs0 : sep[0] = sepC sep := sepC_at sep (by omega)
  have SP := Lib.hid (l1Split s (sepC sep) w (by omega))
  go_enter Try.func17, Try.ntmps17
  go_wp2_with fail
  refine SP.out.mono ?_
  rintro e w1 ⟨g, cap, rfl, own, hb⟩
  have O := Lib.hid own
  clear own
  go_wp2_with fail
  go_ret2
  exact ⟨g, cap, rfl, O.out, hb⟩
theorem ans_fin {w w3 : World} {v : Value} {ps : List ByteArray} {b : Bool} (h : w3.ownsRow w.heap.size 9 1 v ps.length (ps.map .string)) (hb : Below w.heap.size w w3) (hp : 0 < ps.length) :
    SplitAns ps b w (.returned (.tuple #[v, .bool b])) w3 := by
  have h2 := h
  rcases h.2 with ⟨_, h0⟩ | ⟨g, cap, cur, hv, _⟩
  · omega
  · subst hv
    exact ⟨g, cap, rfl, h2, hb⟩
set_option maxRecDepth 100000 in
set_option maxHeartbeats 2000000 in
theorem implSplit_in (F : Fence) (n : Nat) (h3 : F.fn 10) (h4 : F.fn 27) (h5 : F.fn 36) (hro : F.round = none) (hn : 3 ≤ n) (s sep : ByteArray) (w : World) (hs4 : s.size ≤ 4000) (hsep : sep.size = 1) :
    CallsIn F n Try.prog 10 #[.string s, .string sep] w (SplitAns (splitAll s (sepC sep)) true w) := by
  have h1 : 1 ≤ n := by omega
  have hs0 : sep[0] = sepC sep := sepC_at sep (by omega)
  obtain ⟨i0, hi, hz0, hz1, hz2⟩ := info_parts strInfo
  refine callsIn_of_wp_marks Try.func10 rfl h3 ?_ hro
  simp only [Try.ntmps10, List.size_toArray, List.length_cons, List.length_nil, Nat.reduceAdd, Nat.reduceSub, Array.replicate_succ, Array.replicate_zero, List.push_toArray, List.append_toArray, List.nil_append, List.cons_append]
  have d0 : decide ((4000 : Int) < (s.size : Int)) = false := decide_eq_false (by omega)
  obtain ⟨c, hcc⟩ : ∃ c, c = sepC sep := ⟨_, rfl⟩
  rw [← hcc] at hs0 ⊢
  clear hcc
  gi_wp2_with (gi_at_call 27; refine (partsOf_in F (n - 1) h4 hro _ _ _).mono ?_; rintro e W0 ⟨rfl, hW0⟩; have HW0 := Lib.hid hW0; clear hW0)
  have hz : W0.heap.size = w.heap.size + 4 := by rw [HW0.out]; simp
  have bO : Boxed W0 (w.heap.size + 1) 26 (.slice (some ⟨w.heap.size, 0, none⟩) 0 0) := by
    rw [HW0.out]
    have := Boxed.new (w.alloc (.cells #[] 9)) 26 (.slice (some ⟨w.heap.size, 0, none⟩) 0 0)
    rw [World.size_alloc] at this
    exact (this.alloc _).alloc _
  have b1 : Boxed W0 (w.heap.size + 1 + 1) 9 (.string s) := by
    rw [HW0.out]
    have := Boxed.new ((w.alloc (.cells #[] 9)).alloc (.cells #[.slice (some ⟨w.heap.size, 0, none⟩) 0 0] 26)) 9 (.string s)
    rw [World.size_alloc, World.size_alloc] at this
    exact this.alloc _
  have b2 : Boxed W0 (w.heap.size + 1 + 1 + 1) 5 (.int .u8 c.toNat) := by
    rw [HW0.out]
    have := Boxed.new (((w.alloc (.cells #[] 9)).alloc (.cells #[.slice (some ⟨w.heap.size, 0, none⟩) 0 0] 26)).alloc (.cells #[.string s] 9)) 5 (.int .u8 c.toNat)
    rw [World.size_alloc, World.size_alloc, World.size_alloc] at this
    exact this
  have own0 : W0.ownsRow w.heap.size 9 1 (.slice (some ⟨w.heap.size, 0, none⟩) 0 0) 0 [] := by
    rw [HW0.out]
    exact (((split_row w w.heap.size (Nat.le_refl _)).alloc _).alloc _).alloc _
  have hB0 : Below w.heap.size w W0 := by
    rw [HW0.out]
    exact ((((Below.refl _ w).alloc (Nat.le_refl _) _).alloc (by simp) _).alloc (by simp; omega) _).alloc (by simp; omega) _
  refine wpIn_rangeFunc_ownF hro h1 (gf := 36) (lb := #[.pointer (some ⟨w.heap.size + 1 + 1, 0, none⟩), .pointer (some ⟨w.heap.size + 1 + 1 + 1, 0, none⟩)]) rfl h5 (enters_of Try.func36 (by kernel_rfl) rfl)
    (parts_stops F (n - 1) h5 hro (by omega) (w.heap.size + 1 + 1) (w.heap.size + 1 + 1 + 1) s c (by omega) W0 (by omega) (by omega) b1.cell b2.cell) keepsTwo_t (keepsTwo_b (by omega) (by omega)) (Below.refl _ _) (fun _ => rfl)
    (fun pre W => ((∃ v, Boxed W (w.heap.size + 1) 26 v ∧ W.ownsRow w.heap.size 9 1 v pre.length (pre.map Value.string) ∧ (v.ownBlock ≠ some (w.heap.size + 1 + 1) ∧ v.ownBlock ≠ some (w.heap.size + 1 + 1 + 1))) ∧ (Boxed W (w.heap.size + 1 + 1) 9 (.string s) ∧ Boxed W (w.heap.size + 1 + 1 + 1) 5 (.int .u8 c.toNat))) ∧ Below w.heap.size w W)
    (fun _ _ _ => False)
    (OwnFrom.and (OwnFrom.and (Own.from (holdsRow_own w.heap.size (w.heap.size + 1) 26 9 1 (fun pre : List ByteArray => pre.length) (fun pre => pre.map Value.string) (fun _ v => v.ownBlock ≠ some (w.heap.size + 1 + 1) ∧ v.ownBlock ≠ some (w.heap.size + 1 + 1 + 1))) _)
      (OwnFrom.and (Own.from (boxed_own _ _ (fun _ => .string s)) _) (Own.from (boxed_own _ _ (fun _ => .int .u8 c.toNat)) _))) (ownFrom_below (Nat.le_refl _) (by omega)))
    (fun _ _ _ _ _ hs _ _ => hs)
    ⟨⟨⟨_, bO, own0, by simp [Value.ownBlock]; omega, by simp [Value.ownBlock]; omega⟩, b1, b2⟩, hB0⟩
    (fun x => { tmps := #[.string s, .string sep, undef, undef, .slice none 0 0, .bool false, .pointer (some ⟨w.heap.size + 1, 0, none⟩), .string x, .string s, .int .i64 s.size, .bool false, .bool false, .string sep, .int .i64 1, .bool false, .bool false, undef, .slice (some ⟨w.heap.size, 0, none⟩) 0 0, .string s, .string sep, .int .u8 c.toNat, .func (.func 36) #[] #[.pointer (some ⟨w.heap.size + 1 + 1, 0, none⟩), .pointer (some ⟨w.heap.size + 1 + 1 + 1, 0, none⟩)], .string x, undef, undef, undef, undef, undef], defers := [] }) ?assign ?body ?done ?stop
  case assign =>
    intro l x W K hK
    gi_wp2
    exact hK
  case body =>
    rintro l pre x W ⟨⟨⟨v, hv, hrow, hG1, hG2⟩, hb1, hb2⟩, hB⟩ hlt
    have hc := hv.cell
    gi_wp2_with (gi_at_builtin; refine wpListIn_append_own_at _ rfl _ _ 26 rfl w.heap.size 9 i0 (.string ByteArray.empty) 1 16 Try.underlying26 hi hz0 hz1 hz2 rfl (by decide) _ _ _ rfl (hrow.alloc _) ⟨W.heap.size, 0, none⟩ 1 1 [.string x] rfl rfl (cell_one_new _ _ _) (by simp [Value.oneCell']) (by unfold maxLen; omega) (by omega) (by have := hB.size; simp; omega) ?_; intro v' w1 hown' hgrow _ hat; obtain ⟨g', cap', rfl⟩ := ownsRow_succ hown'; obtain ⟨hv1, hv2, hr2, hk2, hbl2⟩ := hv.appended (by decide) hrow hB.size (by omega) hown' hgrow; have hc1 := hv1.cell; have hf1 := hv1.frozen)
    have hn1 : Boxed w1 (w.heap.size + 1 + 1) 9 (.string s) := (hb1.alloc _).kept hgrow (fun e => hG1 e.symm)
    have hn2 : Boxed w1 (w.heap.size + 1 + 1 + 1) 5 (.int .u8 c.toNat) := (hb2.alloc _).kept hgrow (fun e => hG2 e.symm)
    have ho1 := hn1.other (B' := w.heap.size + 1) (by omega) (.slice (some ⟨g', 0, none⟩) (pre.length + 1) cap')
    have ho2 := hn2.other (B' := w.heap.size + 1) (by omega) (.slice (some ⟨g', 0, none⟩) (pre.length + 1) cap')
    have hl1 := hb1.lt
    have hl2 := hb2.lt
    refine ⟨hk2, ⟨ho1.cell.trans hb1.cell.symm, ho2.cell.trans hb2.cell.symm⟩, ⟨⟨⟨_, hv2, ?_, ?_, ?_⟩, ho1, ho2⟩, hB.trans hbl2⟩⟩
    · rw [List.length_append, List.map_append]; exact hr2
    · rcases hat with e | e
      · rw [e]; exact hG1
      · rw [e]; intro e2; have := Option.some.inj e2; simp at this; omega
    · rcases hat with e | e
      · rw [e]; exact hG2
      · rw [e]; intro e2; have := Option.some.inj e2; simp at this; omega
  case done =>
    rintro D ys W hD rfl ⟨⟨⟨v, hv, hrow, _, _⟩, _, _⟩, hB⟩ hK
    have hc := hv.cell
    gi_wp2
    refine ⟨by simp, .inl ⟨_, _, rfl, run_takeDeferred hK, ?_⟩⟩
    exact ⟨_, results_tmp2 rfl _ _ _, ans_fin (ownsRow_putObj hrow _ hK rfl) (hB.trans (belowK_b (w := w) (Nat.le_refl _) W D _ _ (by omega) hK rfl rfl)) (by unfold splitAll; simp)⟩
  case stop =>
    rintro D c pre W _ _ h _
    exact h.elim
/-- Every way of SplitString. -/
theorem implSplit_yes (s sep : ByteArray) (w : World) (h4 : s.size ≤ 4000) (h1 : sep.size = 1) :
    Calls Try.prog 10 #[.string s, .string sep] w (SplitAns (splitAll s (sepC sep)) true w) :=
  (callsIn_wide (n := 3)).1 (implSplit_in Fence.wide 3 trivial trivial trivial rfl (Nat.le_refl _) s sep w h4 h1)
end Go.Proofs.Ythpkabjgjgmnoaa
