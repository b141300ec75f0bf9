/- How many rows the plans have, and of what lengths. No program is spoken of here. -/
import Derived.Test.YtligidmkhbcpmabShpP
import Derived.Test.YtligidmkhbcpmabTabG
namespace Go.Proofs.Ytligidmkhbcpmab
set_option linter.unusedVariables false
/-- How many rows the plan has. -/
def rwN (ps qs : List Int) : Nat := if aliB ps qs = true then ps.length else 0
theorem rwN_le {ps qs : List Int} : rwN ps qs ≤ 8 := by
  unfold rwN
  split
  · next h => exact (aliB_iff.1 h).p.n8
  · omega
theorem rw_rows {ps qs : List Int} {f : Nat → List Int} (h : ∀ i, i < ps.length → aliB ps qs = true → (f i).length ≤ 8) : ∀ i, i < rwN ps qs → (f i).length ≤ 8 := by
  intro i hi
  unfold rwN at hi
  split at hi
  · next e => exact h i hi e
  · omega
theorem lenG_8 (f : Nat → List Int) : ∀ R, R ≤ 8 → (∀ i, i < R → (f i).length ≤ 8) → lenG f R ≤ R * 8
  | 0, _, _ => by simp [lenG]
  | k + 1, h, g => by
    have a := lenG_8 f k (by omega) (fun i hi => g i (by omega))
    have b := g k (by omega)
    simp only [lenG]; omega
theorem soT_len {ps qs : List Int} (h : Ali ps qs) (i : Nat) (hi : i < ps.length) : (soT ps qs i).length = ps.length := (al_ok (st_ok h) ps.length).fl i hi
theorem keT_len {ps qs : List Int} (h : Ali ps qs) (i : Nat) (hi : i < ps.length) : (keT ps qs i).length = ps.length := (al_ok (dg_ok (st_ok h) ps.length) ps.length).fl i hi
end Go.Proofs.Ytligidmkhbcpmab
