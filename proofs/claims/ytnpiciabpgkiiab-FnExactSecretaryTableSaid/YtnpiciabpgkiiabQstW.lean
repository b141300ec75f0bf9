/- Taking the best of people: the quest, in the program. -/
import Derived.Test.YtnpiciabpgkiiabQstR
namespace Go.Proofs.Ytnpiciabpgkiiab
open Go.RowKit Go.Maps
set_option linter.unusedVariables false
set_option maxRecDepth 100000 in
set_option maxHeartbeats 2000000 in
theorem endB (n c r : Nat) (w : World) (hn : 1 ≤ n ∧ n ≤ 10) (hc : c ≤ n) (hr : r ≤ c) :
    Calls Try.prog 151 #[.agg #[.int .i64 n], .agg #[.int .i64 c, .int .i64 r]] w (Gives (.tuple #[.agg #[.int .i64 (qEnd 1 n c r).1, .int .i64 (qEnd 1 n c r).2], .bool true]) w) := by
  have i1 : (n : Int) ≤ 10 := by omega
  have i2 : (c : Int) ≤ 10 := by omega
  have i3 : (r : Int) ≤ 10 := by omega
  obtain ⟨wa, hwa⟩ : ∃ wa, wa = ((w.alloc (.cells #[.int .i64 n] 88)).alloc (.cells #[.int .i64 c, .int .i64 r] 85)).alloc (.cells #[.int .i64 0, .int .i64 0] 32) := ⟨_, rfl⟩
  have B3 : Below w.heap.size w wa := by rw [hwa]; exact (((Below.refl w.heap.size w).alloc (Nat.le_refl _) _).alloc (by simp) _).alloc (by simp; omega) _
  obtain ⟨k0, k1, k2⟩ := heap_three w (.cells #[.int .i64 n] 88) (.cells #[.int .i64 c, .int .i64 r] 85) (.cells #[.int .i64 0, .int .i64 0] 32)
  rw [← hwa] at k0 k1 k2
  have x0 := (cell_of_heap (o := 0) k0 rfl).1
  have T1 := Lib.hid (show CB wa (w.heap.size + 1) c r from k1)
  have T2 := Lib.hid (show QBox wa (w.heap.size + 1 + 1) 0 0 from k2)
  clear k0 k1 k2
  obtain ⟨y0, y1⟩ := T1.out.cells
  by_cases h : r = 1
  · have RD := Lib.hid (fun w => reduceI_any (c : Int) (n : Int) w (by omega) (by omega))
    have f := (q1Ok hn.1 hn.2).fe c (by omega) r (by omega)
    rw [show qEnd 1 n c r = (cutN c n, cutD c n) by unfold qEnd; rw [if_pos rfl, if_pos h]] at f ⊢
    rw [show keptV (cutN (c : Int) n) (cutD (c : Int) n) = .tuple #[.agg #[.int .i64 (cutN (c : Int) n), .int .i64 (cutD (c : Int) n)], .bool true] by
      unfold isFr at f
      simp only [Bool.and_eq_true] at f
      exact if_pos f.1] at RD
    have HR1 := Lib.hid (show (r : Int) = 1 by omega)
    generalize cutN (c : Int) n = p at *
    generalize cutD (c : Int) n = q at *
    clear f hn hc hr h
    go_enter Try.func151, Try.ntmps151
    go_upto_region 1 with fail
    rw [← hwa]
    clear hwa
    rw [HR1.out] at y1 ⊢
    go_wp2_with fail
    refine (RD.out _).mono ?_
    rintro e w1 ⟨rfl, b1⟩
    obtain ⟨⟨c0, c1⟩, f0, f1⟩ := (T2.out.below b1 T2.out.lt).cells
    have HB := Lib.hid (bl_then B3 b1)
    clear b1 x0 y0 y1
    go_wp2_with fail
    refine bodyPost_ret (v := .tuple #[.agg #[.int .i64 p, .int .i64 q], .bool true]) (by simp [results, Try.results151, go_sem, c0, c1]) rfl ⟨rfl, ?_⟩
    exact bl_st HB.out (by omega) _ _
  · rw [show qEnd 1 n c r = (0, 1) by unfold qEnd; rw [if_pos rfl, if_neg h]]
    have hr1 : ¬ (r : Int) = 1 := by omega
    have hr2 : ((r : Int) == 1) = false := by rw [beq_eq_false_iff_ne]; exact hr1
    obtain ⟨⟨c0, c1⟩, f0, f1⟩ := T2.out.cells
    clear hn hc hr h
    go_enter Try.func151, Try.ntmps151
    go_upto_region 1 with fail
    rw [← hwa]
    clear hwa
    go_wp2_with fail
    refine bodyPost_ret (v := .tuple #[.agg #[.int .i64 0, .int .i64 1], .bool true]) (by simp [results, Try.results151, go_sem, c0, c1]) rfl ⟨rfl, ?_⟩
    exact bl_st B3 (by omega) _ _
theorem questBest {n : Nat} (h1 : 1 ≤ n) (h2 : n ≤ 10) : Quest qT1 1 n 88 151 where
  ok := q1Ok h1 h2
  n1 := h1
  n10 := h2
  m1 := fun _ _ => by kernel_rfl
  m2 := fun _ _ => by kernel_rfl
  eg := enters_of Try.func151 (by kernel_rfl) rfl
  en := fun c r w hc hr => ⟨_, _, _, endB n c r w ⟨h1, h2⟩ hc hr, fun _ => rfl, fun h => by cases h⟩
end Go.Proofs.Ytnpiciabpgkiiab
