/- The way from the root to a node. No program is spoken of here. -/
import Derived.Test.YtligidmkhbcpmacSumP
namespace Go.Proofs.Ytligidmkhbcpmac
set_option linter.unusedVariables false
/-- The nodes from a node up to the root. -/
def wayU (ps : List Int) : Nat → Nat → List Int
  | 0, _ => []
  | f + 1, x => (x : Int) :: (if x = 0 then [] else wayU ps f (ps.getD x 0).toNat)
theorem wayU_fuel {ps : List Int} (hp : ParOk ps) : ∀ x, x < ps.length → ∀ f1 f2, x < f1 → x < f2 → wayU ps f1 x = wayU ps f2 x := by
  intro x
  induction x using Nat.strongRecOn with
  | ind x ih =>
    intro hl f1 f2 h1 h2
    obtain ⟨a, rfl⟩ : ∃ a, f1 = a + 1 := ⟨f1 - 1, by omega⟩
    obtain ⟨b, rfl⟩ : ∃ b, f2 = b + 1 := ⟨f2 - 1, by omega⟩
    rw [wayU, wayU]
    by_cases h : x = 0
    · rw [if_pos h, if_pos h]
    · rw [if_neg h, if_neg h]
      have hpl := par_lt hp (by omega) hl
      rw [ih _ hpl (by omega) a b (by omega) (by omega)]
def wayA (ps : List Int) (x : Nat) : List Int := wayU ps ps.length x
theorem wayA_zero {ps : List Int} (h : 0 < ps.length) : wayA ps 0 = [0] := by
  unfold wayA
  obtain ⟨m, hm⟩ : ∃ m, ps.length = m + 1 := ⟨ps.length - 1, by omega⟩
  rw [hm, wayU, if_pos rfl]; rfl
theorem wayA_step {ps : List Int} (hp : ParOk ps) {x : Nat} (h0 : 0 < x) (hx : x < ps.length) : wayA ps x = (x : Int) :: wayA ps (ps.getD x 0).toNat := by
  have hpl := par_lt hp h0 hx
  unfold wayA
  obtain ⟨m, hm⟩ : ∃ m, ps.length = m + 1 := ⟨ps.length - 1, by omega⟩
  have e : wayU ps ps.length x = (x : Int) :: (if x = 0 then [] else wayU ps m (ps.getD x 0).toNat) := by rw [hm, wayU]
  rw [e, if_neg (by omega), wayU_fuel hp _ (by omega) m ps.length (by omega) (by omega)]
theorem wayA_in {ps : List Int} (hp : ParOk ps) : ∀ x, x < ps.length → ∀ z ∈ wayA ps x, 0 ≤ z ∧ z ≤ (x : Int) := by
  intro x
  induction x using Nat.strongRecOn with
  | ind x ih =>
    intro hl z hz
    by_cases h : x = 0
    · subst h
      rw [wayA_zero (by omega)] at hz
      simp at hz
      omega
    · rw [wayA_step hp (by omega) hl] at hz
      have hpl := par_lt hp (by omega) hl
      rcases List.mem_cons.1 hz with h' | h'
      · omega
      · have := ih _ hpl (by omega) z h'; omega
theorem wayA_len {ps : List Int} (hp : ParOk ps) : ∀ x, x < ps.length → (wayA ps x).length ≤ x + 1 ∧ 0 < (wayA ps x).length := by
  intro x
  induction x using Nat.strongRecOn with
  | ind x ih =>
    intro hl
    by_cases h : x = 0
    · subst h; rw [wayA_zero (by omega)]; simp
    · rw [wayA_step hp (by omega) hl]
      have hpl := par_lt hp (by omega) hl
      have := ih _ hpl (by omega)
      rw [List.length_cons]; omega
/-- The way from the root. -/
def wayT (ps : List Int) (x : Int) : List Int := (wayA ps x.toNat).reverse
end Go.Proofs.Ytligidmkhbcpmac
