/- What KeepingPlan keeps first, told by lists. No program is spoken of here. -/
import Derived.Test.YtligidmkhbcpmabShpP
import Derived.Test.YtligidmkhbcpmabFill
namespace Go.Proofs.Ytligidmkhbcpmab
set_option linter.unusedVariables false
/-- The plan behind s spots. -/
theorem kp_step {ps qs : List Int} (h : Ali ps qs) {s : Nat} (hs : s < ps.length) : (dgS (stS ps qs) (s + 1)).f = updF (dgS (stS ps qs) s).f s (((dgS (stS ps qs) s).f s).set s (min (ps.getD s 0) (qs.getD s 0))) := by
  have o := st_ok h
  have us : unT (dgS (stS ps qs) s) s s = min (ps.getD s 0) (qs.getD s 0) := by
    unfold unT
    rw [(dg_at o s (by omega) s).1, (dg_at o s (by omega) s).2, if_neg (by omega), if_neg (by omega)]; rfl
  have fz : ((dgS (stS ps qs) s).f s).getD s 0 = 0 := by
    have := dg_f o (fun i => rfl) s (by omega) s
    rw [this, if_neg (by omega), List.getD_eq_getElem?_getD, List.getElem?_replicate]; split <;> rfl
  show updF _ _ _ = _
  rw [us, fz, Int.zero_add]
theorem kp_at {ps qs : List Int} (h : Ali ps qs) {s : Nat} (hs : s < ps.length) : ((dgS (stS ps qs) (s + 1)).f s).getD s 0 = min (ps.getD s 0) (qs.getD s 0) := by
  have o := dg_ok (st_ok h) s
  rw [kp_step h hs, updF_at, getD_setY, o.fl s hs, if_pos ⟨rfl, hs⟩]
theorem kp_h {ps qs : List Int} (h : Ali ps qs) : (dgS (stS ps qs) ps.length).h = preL (lfF ps qs) ps.length := ke_h h
theorem kp_l {ps qs : List Int} (h : Ali ps qs) : (dgS (stS ps qs) ps.length).l = preL (lkF ps qs) ps.length := ke_l h
end Go.Proofs.Ytligidmkhbcpmab
