/- What functions of two spreads answer. -/
import Derived.Test.YtligidmkhbcpmabSprP
import Derived.Test.YtligidmkhbcpmabPrm
namespace Go.Proofs.Ytligidmkhbcpmab
set_option linter.unusedVariables false
/-- What AreAlike answers. -/
def aliV (ps qs : List Int) : Value := .tuple #[.bool (aliB ps qs), .bool (sprB ps && sprB qs)]
theorem aliV_form (ps qs : List Int) : ∃ a b, aliV ps qs = .tuple #[.bool a, .bool b] := ⟨_, _, rfl⟩
def disV (ps qs : List Int) : Value := if aliB ps qs = true then .tuple #[.int .i64 (exT ps qs ps.length), .bool true] else .tuple #[.int .i64 0, .bool false]
theorem disV_form (ps qs : List Int) : ∃ a b, disV ps qs = .tuple #[.int .i64 a, .bool b] := by
  unfold disV; split <;> exact ⟨_, _, rfl⟩
def abvV (ps qs : List Int) : Value := if aliB ps qs = true then .tuple #[.bool (abvB ps qs), .bool true] else .tuple #[.bool false, .bool false]
theorem abvV_form (ps qs : List Int) : ∃ a b, abvV ps qs = .tuple #[.bool a, .bool b] := by
  unfold abvV; split <;> exact ⟨_, _, rfl⟩
def earV (ps qs : List Int) : Value := if aliB ps qs = true then .tuple #[.int .i64 (eaT ps qs ps.length), .bool true] else .tuple #[.int .i64 0, .bool false]
theorem earV_form (ps qs : List Int) : ∃ a b, earV ps qs = .tuple #[.int .i64 a, .bool b] := by
  unfold earV; split <;> exact ⟨_, _, rfl⟩
def widV (ps qs : List Int) : Value := if aliB ps qs = true then .tuple #[.bool (widB ps qs), .bool true] else .tuple #[.bool false, .bool false]
theorem widV_form (ps qs : List Int) : ∃ a b, widV ps qs = .tuple #[.bool a, .bool b] := by
  unfold widV; split <;> exact ⟨_, _, rfl⟩
theorem totT_bd {zs : List Int} (p : Spr zs) (i : Nat) : 0 ≤ (totT zs).getD i 0 ∧ (totT zs).getD i 0 ≤ 40 := by
  rcases Nat.lt_or_ge i zs.length with h | h
  · rw [totT_at h]; exact p.sm (by omega)
  · rw [List.getD_eq_getElem?_getD, List.getElem?_eq_none (by rw [totT_len]; exact h)]; decide
theorem ttT_bd {zs : List Int} (p : Spr zs) (i : Nat) : 0 ≤ (totT (totT zs)).getD i 0 ∧ (totT (totT zs)).getD i 0 ≤ 320 := by
  rcases Nat.lt_or_ge i zs.length with h | h
  · rw [tt_at h]; have := ss_bd p (i + 1) (by omega); have := p.n8; omega
  · rw [List.getD_eq_getElem?_getD, List.getElem?_eq_none (by rw [totT_len, totT_len]; exact h)]; decide
end Go.Proofs.Ytligidmkhbcpmab
