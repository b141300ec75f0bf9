/- What the law of fractions says of sums, products and comparisons, told by numbers. -/
import Derived.Test.YtonlibncccljgaaFracA
namespace Go.Proofs.Ytonlibncccljgaa
open Go.RowKit
set_option linter.unusedVariables false
theorem addV_comm (n d m e : Int) : addV n d m e = addV m e n d := by
  unfold addV
  have h1 : n * e + m * d = m * d + n * e := Int.add_comm _ _
  have h2 : d * e = e * d := Int.mul_comm _ _
  rw [h1, h2]
  by_cases h : isFr n d = true ∧ isFr m e = true
  · rw [if_pos h, if_pos ⟨h.2, h.1⟩]
  · rw [if_neg h, if_neg (fun c => h ⟨c.2, c.1⟩)]
theorem timesV_comm (n d m e : Int) : timesV n d m e = timesV m e n d := by
  unfold timesV
  rw [Int.mul_comm n m, Int.mul_comm d e]
  by_cases h : isFr n d = true ∧ isFr m e = true
  · rw [if_pos h, if_pos ⟨h.2, h.1⟩]
  · rw [if_neg h, if_neg (fun c => h ⟨c.2, c.1⟩)]
theorem ordI_neg (x y : Int) : ordI y x = - ordI x y := by
  unfold ordI
  by_cases h1 : x < y
  · rw [if_pos h1, if_neg (by omega), if_pos h1]; rfl
  · rw [if_neg h1]
    by_cases h2 : y < x
    · rw [if_pos h2, if_neg h1, if_pos h2]
    · rw [if_neg h2, if_neg h2, if_neg h1]; rfl
theorem ordI_bd (x y : Int) : -1 ≤ ordI x y ∧ ordI x y ≤ 1 := by
  unfold ordI
  split
  · omega
  · split <;> omega
/-- A comparison, and the one the other way round. -/
theorem cmp_both (n d m e : Int) : ∃ o, (-1 ≤ o ∧ o ≤ 1) ∧ ((cmpV n d m e = .tuple #[.int .i64 o, .bool true] ∧ cmpV m e n d = .tuple #[.int .i64 (-o), .bool true]) ∨ (cmpV n d m e = .tuple #[.int .i64 0, .bool false] ∧ cmpV m e n d = .tuple #[.int .i64 0, .bool false])) := by
  refine ⟨ordI (n * e) (m * d), ordI_bd _ _, ?_⟩
  unfold cmpV
  by_cases h : isFr n d = true ∧ isFr m e = true
  · rw [if_pos h, if_pos ⟨h.2, h.1⟩, ordI_neg (n * e) (m * d)]; exact .inl ⟨rfl, rfl⟩
  · rw [if_neg h, if_neg (fun c => h ⟨c.2, c.1⟩)]; exact .inr ⟨rfl, rfl⟩
theorem kept_cases (a b : Int) (hb : 0 < b) : (keptV (cutN a b) (cutD a b) = .tuple #[.agg #[.int .i64 (cutN a b), .int .i64 (cutD a b)], .bool true] ∧ isFr (cutN a b) (cutD a b) = true) ∨ keptV (cutN a b) (cutD a b) = .tuple #[.agg #[.int .i64 0, .int .i64 0], .bool false] := by
  unfold keptV
  cases h : inB (cutN a b) (cutD a b)
  · exact .inr (by simp)
  · exact .inl ⟨by simp, by rw [isFr_cut hb]; exact h⟩
/-- A sum: a fraction, and less one of both the other one; or none. -/
theorem add_both (n d m e : Int) : addV n d m e = .tuple #[.agg #[.int .i64 0, .int .i64 0], .bool false] ∨ ∃ p q, addV n d m e = .tuple #[.agg #[.int .i64 p, .int .i64 q], .bool true] ∧ isFr p q = true ∧ (-1000000000 ≤ m ∧ m ≤ 1000000000) ∧
    fracV (-m) e = .tuple #[.agg #[.int .i64 (-m), .int .i64 e], .bool true] ∧ addV p q (-m) e = .tuple #[.agg #[.int .i64 n, .int .i64 d], .bool true] := by
  by_cases h : isFr n d = true ∧ isFr m e = true
  · obtain ⟨⟨n1, n2, d1, d2⟩, ng⟩ := (isFr_iff _ _).1 h.1
    obtain ⟨⟨m1, m2, e1, e2⟩, mg⟩ := (isFr_iff _ _).1 h.2
    have hde : 0 < d * e := Int.mul_pos (by omega) (by omega)
    have hA : addV n d m e = keptV (cutN (n * e + m * d) (d * e)) (cutD (n * e + m * d) (d * e)) := by unfold addV; rw [if_pos h]
    rcases kept_cases (n * e + m * d) (d * e) hde with ⟨hk, hf⟩ | hk
    · refine .inr ⟨_, _, by rw [hA, hk], hf, ⟨m1, m2⟩, ?_, ?_⟩
      · have hg : gI (-m) e = 1 := by rw [gI_neg]; exact mg
        obtain ⟨c1, c2⟩ := cut_self (a := -m) (b := e) (by omega) hg
        unfold fracV
        rw [if_pos (by unfold okArgs; omega), if_pos (by omega), c1, c2]
        unfold keptV
        have : inB (-m) e = true := by unfold inB; exact decide_eq_true (by omega)
        rw [if_pos this]
      · have hfm : isFr (-m) e = true := (isFr_iff _ _).2 ⟨by omega, by rw [gI_neg]; exact mg⟩
        obtain ⟨s1, s2⟩ := sub_back (n := n) (m := m) (d := d) (e := e) (by omega) (by omega) ng
        unfold addV
        rw [if_pos ⟨hf, hfm⟩, s1, s2]
        unfold keptV
        have : inB n d = true := by unfold inB; exact decide_eq_true (by omega)
        rw [if_pos this]
    · exact .inl (by rw [hA, hk])
  · exact .inl (by unfold addV; rw [if_neg h]; rfl)
theorem times_both (n d m e : Int) : timesV n d m e = .tuple #[.agg #[.int .i64 0, .int .i64 0], .bool false] ∨ ∃ p q, timesV n d m e = .tuple #[.agg #[.int .i64 p, .int .i64 q], .bool true] ∧ isFr p q = true := by
  by_cases h : isFr n d = true ∧ isFr m e = true
  · obtain ⟨⟨n1, n2, d1, d2⟩, ng⟩ := (isFr_iff _ _).1 h.1
    obtain ⟨⟨m1, m2, e1, e2⟩, mg⟩ := (isFr_iff _ _).1 h.2
    have hde : 0 < d * e := Int.mul_pos (by omega) (by omega)
    have hA : timesV n d m e = keptV (cutN (n * m) (d * e)) (cutD (n * m) (d * e)) := by unfold timesV; rw [if_pos h]
    rcases kept_cases (n * m) (d * e) hde with ⟨hk, hf⟩ | hk
    · exact .inr ⟨_, _, by rw [hA, hk], hf⟩
    · exact .inl (by rw [hA, hk])
  · exact .inl (by unfold timesV; rw [if_neg h]; rfl)
theorem frac_both (a b : Int) : fracV a b = .tuple #[.agg #[.int .i64 0, .int .i64 0], .bool false] ∨ ∃ p q, fracV a b = .tuple #[.agg #[.int .i64 p, .int .i64 q], .bool true] ∧ isFr p q = true := by
  unfold fracV
  by_cases h : okArgs a b
  · rw [if_pos h]
    by_cases hb : 0 < b
    · rw [if_pos hb]
      rcases kept_cases a b hb with ⟨hk, hf⟩ | hk
      · exact .inr ⟨_, _, hk, hf⟩
      · exact .inl hk
    · rw [if_neg hb]
      have hb' : 0 < -b := by have := h.1; omega
      rcases kept_cases (-a) (-b) hb' with ⟨hk, hf⟩ | hk
      · exact .inr ⟨_, _, hk, hf⟩
      · exact .inl hk
  · rw [if_neg h]; exact .inl rfl
/-- The same, with one Bool. -/
theorem add_sum (n d m e : Int) : ∃ (p q : Int) (ok : Bool), addV n d m e = .tuple #[.agg #[.int .i64 p, .int .i64 q], .bool ok] ∧ (ok = true → isFr p q = true ∧ (-1000000000 ≤ m ∧ m ≤ 1000000000) ∧ fracV (-m) e = .tuple #[.agg #[.int .i64 (-m), .int .i64 e], .bool true] ∧ addV p q (-m) e = .tuple #[.agg #[.int .i64 n, .int .i64 d], .bool true]) := by
  rcases add_both n d m e with h | ⟨p, q, h1, h2, h3, h4, h5⟩
  · exact ⟨0, 0, false, h, fun c => by cases c⟩
  · exact ⟨p, q, true, h1, fun _ => ⟨h2, h3, h4, h5⟩⟩
theorem times_prod (n d m e : Int) : ∃ (p q : Int) (ok : Bool), timesV n d m e = .tuple #[.agg #[.int .i64 p, .int .i64 q], .bool ok] ∧ (ok = true → isFr p q = true) := by
  rcases times_both n d m e with h | ⟨p, q, h1, h2⟩
  · exact ⟨0, 0, false, h, fun c => by cases c⟩
  · exact ⟨p, q, true, h1, fun _ => h2⟩
theorem frac_quot (a b : Int) : ∃ (p q : Int) (ok : Bool), fracV a b = .tuple #[.agg #[.int .i64 p, .int .i64 q], .bool ok] ∧ (ok = true → isFr p q = true) := by
  rcases frac_both a b with h | ⟨p, q, h1, h2⟩
  · exact ⟨0, 0, false, h, fun c => by cases c⟩
  · exact ⟨p, q, true, h1, fun _ => h2⟩
theorem cmp_ord (n d m e : Int) : ∃ (o : Int) (ok : Bool), (-1 ≤ o ∧ o ≤ 1) ∧ cmpV n d m e = .tuple #[.int .i64 o, .bool ok] ∧ (ok = true → cmpV m e n d = .tuple #[.int .i64 (-o), .bool true]) := by
  obtain ⟨o, hb, ⟨h1, h2⟩ | ⟨h1, h2⟩⟩ := cmp_both n d m e
  · exact ⟨o, true, hb, h1, fun _ => h2⟩
  · exact ⟨0, false, by omega, h1, fun c => by cases c⟩
end Go.Proofs.Ytonlibncccljgaa
