/- What functions of plans answer. -/
import Derived.Test.YtligidmkhbcpmabEdgP
import Derived.Test.YtligidmkhbcpmabPrm
namespace Go.Proofs.Ytligidmkhbcpmab
set_option linter.unusedVariables false
noncomputable def isplV (ps qs : List Int) (R : Nat) (f : Nat → List Int) : Value := .tuple #[.bool (isplB ps qs R f), .bool (aliB ps qs)]
theorem isplB_iff {ps qs : List Int} {R : Nat} {f : Nat → List Int} : isplB ps qs R f = true ↔ Ali ps qs ∧ Pln ps qs R f := by
  unfold isplB; rw [Bool.and_eq_true, aliB_iff, plnB_iff]
noncomputable def kpuV (ps qs : List Int) (R : Nat) (f : Nat → List Int) : Value := if isplB ps qs R f = true then .tuple #[.int .i64 (dgT f R), .bool true] else .tuple #[.int .i64 0, .bool false]
theorem kpuV_form (ps qs : List Int) (R : Nat) (f : Nat → List Int) : ∃ a b, kpuV ps qs R f = .tuple #[.int .i64 a, .bool b] := by
  unfold kpuV; split <;> exact ⟨_, _, rfl⟩
noncomputable def upwV (ps qs : List Int) (R : Nat) (f : Nat → List Int) : Value := if isplB ps qs R f = true then .tuple #[.bool (upwB R f), .bool true] else .tuple #[.bool false, .bool false]
theorem upwV_form (ps qs : List Int) (R : Nat) (f : Nat → List Int) : ∃ a b, upwV ps qs R f = .tuple #[.bool a, .bool b] := by
  unfold upwV; split <;> exact ⟨_, _, rfl⟩
noncomputable def cenV (ps qs : List Int) (R : Nat) (f : Nat → List Int) : Value := if isplB ps qs R f = true then .tuple #[.bool (cenB R f ps.length), .bool true] else .tuple #[.bool false, .bool false]
theorem cenV_form (ps qs : List Int) (R : Nat) (f : Nat → List Int) : ∃ a b, cenV ps qs R f = .tuple #[.bool a, .bool b] := by
  unfold cenV; split <;> exact ⟨_, _, rfl⟩
noncomputable def pcoV (ps qs : List Int) (R : Nat) (f : Nat → List Int) (C : Nat) (c : Nat → List Int) : Value := if (isplB ps qs R f && sqB C c ps.length 99) = true then .tuple #[.int .i64 (coT f c ps.length R), .bool true] else .tuple #[.int .i64 0, .bool false]
theorem pcoV_form (ps qs : List Int) (R : Nat) (f : Nat → List Int) (C : Nat) (c : Nat → List Int) : ∃ a b, pcoV ps qs R f C c = .tuple #[.int .i64 a, .bool b] := by
  unfold pcoV; split <;> exact ⟨_, _, rfl⟩
def potOk (ps qs us ws : List Int) : Bool := (decide (us.length = ps.length) && fromB (-999) 999 us) && (decide (ws.length = qs.length) && fromB (-999) 999 ws)
noncomputable def potV (ps qs us ws : List Int) (C : Nat) (c : Nat → List Int) : Value := if ((aliB ps qs && potOk ps qs us ws) && sqB C c ps.length 99) = true then .tuple #[.bool (potB us ws C c ps.length), .bool true] else .tuple #[.bool false, .bool false]
theorem potV_form (ps qs us ws : List Int) (C : Nat) (c : Nat → List Int) : ∃ a b, potV ps qs us ws C c = .tuple #[.bool a, .bool b] := by
  unfold potV; split <;> exact ⟨_, _, rfl⟩
end Go.Proofs.Ytligidmkhbcpmab
