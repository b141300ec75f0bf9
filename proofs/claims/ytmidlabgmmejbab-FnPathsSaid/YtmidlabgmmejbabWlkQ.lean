/- What holds of the numbers of walks: mirrors, last steps, votes, returns. No program is spoken of here. -/
import Derived.Test.YtmidlabgmmejbabWlkP
namespace Go.Proofs.Ytmidlabgmmejbab
set_option linter.unusedVariables false
set_option maxRecDepth 100000 in
theorem wk_far : ∀ m, m < 31 → ∀ t : Nat, t < 31 → wkI m (-((t : Int) + 2)) ≤ wkI m (-(t : Int)) := by decide +kernel
set_option maxRecDepth 100000 in
theorem wk_flip : ∀ m, m < 31 → ∀ t : Nat, t < 31 → wkI m (-(t : Int)) = wkI m (t : Int) := by decide +kernel
theorem wk_out {m : Nat} {x : Int} (h : ¬ (-(m : Int) ≤ x ∧ x ≤ m)) : wkI m x = 0 := by
  unfold wkI; rw [if_neg (fun h' => h ⟨h'.1, h'.2.1⟩)]
theorem wk_neg {m : Nat} (hm : m ≤ 30) (x : Int) : wkI m (-x) = wkI m x := by
  by_cases h : -(m : Int) ≤ x ∧ x ≤ m
  · rcases Int.le_total 0 x with h0 | h0
    · obtain ⟨t, rfl⟩ : ∃ t : Nat, x = t := ⟨x.toNat, by omega⟩
      exact wk_flip m (by omega) t (by omega)
    · obtain ⟨t, rfl⟩ : ∃ t : Nat, x = -(t : Int) := ⟨(-x).toNat, by omega⟩
      rw [Int.neg_neg]; exact (wk_flip m (by omega) t (by omega)).symm
  · rw [wk_out h, wk_out (by omega)]
theorem wk_down {m : Nat} (hm : m ≤ 30) (t : Nat) : ∀ j : Nat, wkI m (-((t : Int) + 2 * j)) ≤ wkI m (-(t : Int))
  | 0 => by simp
  | j + 1 => by
    have ih := wk_down hm t j
    by_cases h : t + 2 * j < 31
    · have := wk_far m (by omega) (t + 2 * j) h
      rw [show -(((t + 2 * j : Nat) : Int) + 2) = -((t : Int) + 2 * (j + 1 : Nat)) by omega, show -((t + 2 * j : Nat) : Int) = -((t : Int) + 2 * (j : Nat)) by omega] at this
      omega
    · rw [wk_out (x := -((t : Int) + 2 * (j + 1 : Nat))) (by omega)]
      exact (wkI_bd hm _).1
/-- A mirrored end is reached by no more walks. -/
theorem wk_mirror {m : Nat} (hm : m ≤ 30) {x f : Int} (hf : f ≤ 0) (hx : f ≤ x) : wkI m (2 * (f - 1) - x) ≤ wkI m x := by
  rcases Int.le_total 0 x with h0 | h0
  · obtain ⟨t, rfl⟩ : ∃ t : Nat, x = t := ⟨x.toNat, by omega⟩
    have := wk_down hm t (1 - f).toNat
    rw [wk_neg hm (t : Int)] at this
    rw [show 2 * (f - 1) - (t : Int) = -((t : Int) + 2 * ((1 - f).toNat : Nat)) by omega]
    exact this
  · obtain ⟨t, rfl⟩ : ∃ t : Nat, x = -(t : Int) := ⟨(-x).toNat, by omega⟩
    have := wk_down hm t (1 - f - t).toNat
    rw [show 2 * (f - 1) - -(t : Int) = -((t : Int) + 2 * ((1 - f - t).toNat : Nat)) by omega]
    exact this
theorem pa_some {m : Nat} (hm : m ≤ 30) {x f : Int} (hf : f ≤ 0) : 0 ≤ paI m x f ∧ paI m x f ≤ wkI m x := by
  have h1 := wkI_bd hm x
  have h2 := wkI_bd hm (2 * (f - 1) - x)
  unfold paI
  split
  · rename_i h
    have := wk_mirror hm hf h.1
    omega
  · omega
set_option maxRecDepth 100000 in
theorem wk_last : ∀ m, m < 30 → ∀ y : Nat, y < 63 → wkI (m + 1) ((y : Int) - 31) = wkI m ((y : Int) - 32) + wkI m ((y : Int) - 30) := by decide +kernel
theorem wk_step {m : Nat} (hm : m < 30) (x : Int) : wkI (m + 1) x = wkI m (x - 1) + wkI m (x + 1) := by
  by_cases h : -31 ≤ x ∧ x ≤ 31
  · have := wk_last m hm (x + 31).toNat (by omega)
    rw [show (((x + 31).toNat : Nat) : Int) - 31 = x by omega, show (((x + 31).toNat : Nat) : Int) - 32 = x - 1 by omega, show (((x + 31).toNat : Nat) : Int) - 30 = x + 1 by omega] at this
    exact this
  · rw [wk_out (by omega), wk_out (by omega), wk_out (by omega)]; rfl
theorem pa_step {m : Nat} (hm : m < 30) {x f : Int} (hf : f ≤ 0) (hx : f ≤ x) (hxm : x ≤ (m : Int) + 1) : paI (m + 1) x f = paI m (x - 1) f + paI m (x + 1) f := by
  have h1 := wk_step hm x
  have h2 := wk_step hm (2 * (f - 1) - x)
  have e1 : paI (m + 1) x f = wkI (m + 1) x - wkI (m + 1) (2 * (f - 1) - x) := by unfold paI; rw [if_pos ⟨hx, by omega⟩]
  have e2 : paI m (x - 1) f = wkI m (x - 1) - wkI m (2 * (f - 1) - (x - 1)) := by
    unfold paI
    by_cases h : f ≤ x - 1
    · rw [if_pos ⟨h, by omega⟩]
    · rw [if_neg (fun h' => h h'.1), show 2 * (f - 1) - (x - 1) = x - 1 by omega]; omega
  have e3 : paI m (x + 1) f = wkI m (x + 1) - wkI m (2 * (f - 1) - (x + 1)) := by
    unfold paI
    by_cases h : x + 1 ≤ m
    · rw [if_pos ⟨by omega, h⟩]
    · rw [if_neg (fun h' => h h'.2), wk_out (x := x + 1) (by omega), wk_out (x := 2 * (f - 1) - (x + 1)) (by omega)]; rfl
  rw [e1, e2, e3, h1, h2, show 2 * (f - 1) - (x - 1) = 2 * (f - 1) - x + 1 by omega, show 2 * (f - 1) - (x + 1) = 2 * (f - 1) - x - 1 by omega]
  omega
set_option maxRecDepth 100000 in
theorem fp_bal : ∀ k : Nat, k < 31 → ∀ y : Nat, y < 31 → 1 ≤ y → y ≤ k → (k + y) % 2 = 0 → balI ((k + y) / 2) ((k - y) / 2) = fpI k y := by decide +kernel
set_option maxRecDepth 100000 in
theorem fp_odd : ∀ k : Nat, k < 31 → ∀ y : Nat, y < 31 → 1 ≤ y → y ≤ k → ¬ (k + y) % 2 = 0 → fpI k y = 0 := by decide +kernel
theorem bal_tie {p q : Nat} (hp : 1 ≤ p) : balI p q = tieI (p - 1) q := by
  unfold balI tieI
  rw [if_neg (by omega), show p - 1 + q = p + q - 1 by omega, show ((p - 1 : Nat) : Int) = (p : Int) - 1 by omega]
theorem bal_none {q : Nat} (hq : 1 ≤ q) : balI 0 q = 0 := by
  unfold balI paI
  rw [if_neg (by omega), if_neg (by omega)]
end Go.Proofs.Ytmidlabgmmejbab
