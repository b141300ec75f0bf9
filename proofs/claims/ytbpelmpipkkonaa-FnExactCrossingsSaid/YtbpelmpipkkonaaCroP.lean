/- Crossings on the way. No program is spoken of here. -/
import Derived.Test.YtbpelmpipkkonaaWayQ
import Derived.Test.YtbpelmpipkkonaaProcI
import Derived.Test.YtbpelmpipkkonaaHighP
namespace Go.Proofs.Ytbpelmpipkkonaa
set_option linter.unusedVariables false
/-- How far a search has come, in one number: twice the crossings, and one more while it is low. -/
def crSt (lo hi c z : Int) : Int := if c % 2 = 1 then (if hi ≤ z then c + 1 else c) else (if z ≤ lo then c + 1 else c)
def crT (ps zs : List Int) (lo hi : Int) : List Int := passT ps 0 (fun c x => crSt lo hi c (zs.getD x 0))
theorem crSt_bd {lo hi c z m : Int} (h : 0 ≤ c ∧ c ≤ m) : 0 ≤ crSt lo hi c z ∧ crSt lo hi c z ≤ m + 1 := by
  unfold crSt; split <;> split <;> omega
theorem cr_bd {ps ws zs : List Int} (p : Proc ps ws zs) (lo hi : Int) : ∀ x, x < ps.length → 0 ≤ (crT ps zs lo hi).getD x 0 ∧ (crT ps zs lo hi).getD x 0 ≤ (x : Int) + 1 := by
  have hp := ParOk.of p.good
  refine tree_ind hp (fun h => ?_) (fun x h0 hx ih => ?_)
  · unfold crT
    rw [passT_zero ps 0 _ (by omega)]
    have := crSt_bd (lo := lo) (hi := hi) (z := zs.getD 0 0) (c := 0) (m := 0) ⟨by omega, by omega⟩
    simpa using this
  · have hl := par_lt hp h0 hx
    unfold crT at ih ⊢
    rw [passT_step ps 0 _ h0 hx hl]
    exact crSt_bd ⟨ih.1, by have := ih.2; omega⟩
theorem cr_fold {ps ws zs : List Int} (p : Proc ps ws zs) (lo hi : Int) {x : Nat} (hx : x < ps.length) : (wayT ps (x : Int)).foldl (fun a y => crSt lo hi a (zs.getD y.toNat 0)) 0 = (crT ps zs lo hi).getD x 0 := by
  have h1 := fold_way (ParOk.of p.good) 0 (fun a y => crSt lo hi a (zs.getD y.toNat 0)) x hx
  unfold crT
  simp only [Int.toNat_natCast] at h1
  exact h1
/-- The two numbers that it stands for. -/
def crM (c : Int) : Int := c / 2
def crB (c : Int) : Bool := decide (c % 2 = 1)
theorem cr_cases (c : Int) (h : 0 ≤ c) : ∃ m : Int, 0 ≤ m ∧ m ≤ c ∧ crM c = m ∧ ((c = 2 * m + 1 ∧ crB c = true) ∨ (c = 2 * m ∧ crB c = false)) := by
  refine ⟨c / 2, by omega, by omega, rfl, ?_⟩
  unfold crB
  by_cases h1 : c % 2 = 1
  · exact .inl ⟨by omega, decide_eq_true h1⟩
  · exact .inr ⟨by omega, decide_eq_false h1⟩
theorem crM_even (m : Int) : crM (2 * m) = m := by unfold crM; omega
theorem crM_odd (m : Int) : crM (2 * m + 1) = m := by unfold crM; omega
theorem crB_even (m : Int) : crB (2 * m) = false := by unfold crB; exact decide_eq_false (by omega)
theorem crB_odd (m : Int) : crB (2 * m + 1) = true := by unfold crB; exact decide_eq_true (by omega)
theorem cr_ll (lo hi m z : Int) (h : hi ≤ z) : crSt lo hi (2 * m + 1) z = 2 * (m + 1) := by unfold crSt; rw [if_pos (by omega), if_pos h]; omega
theorem cr_ln (lo hi m z : Int) (h : ¬ hi ≤ z) : crSt lo hi (2 * m + 1) z = 2 * m + 1 := by unfold crSt; rw [if_pos (by omega), if_neg h]
theorem cr_nl (lo hi m z : Int) (h : z ≤ lo) : crSt lo hi (2 * m) z = 2 * m + 1 := by unfold crSt; rw [if_neg (by omega), if_pos h]
theorem cr_nn (lo hi m z : Int) (h : ¬ z ≤ lo) : crSt lo hi (2 * m) z = 2 * m := by unfold crSt; rw [if_neg (by omega), if_neg h]
def crE (ps zs : List Int) (lo hi : Int) : List Int := (endsT ps).map fun e => crM ((crT ps zs lo hi).getD e.toNat 0)
def croB (ps ws zs : List Int) (lo hi : Int) : Bool := procB ps ws zs && decide (lo < hi)
def ifCro (ps ws zs : List Int) (lo hi : Int) : List Int := if croB ps ws zs lo hi = true then crE ps zs lo hi else []
theorem cro_len (ps ws zs : List Int) (lo hi : Int) : (ifCro ps ws zs lo hi).length ≤ 1048576 := by
  unfold ifCro
  split
  · rename_i h
    have h0 : procB ps ws zs = true := by unfold croB at h; simp at h; exact h.1
    have h1 := (procB_iff.1 h0).good.n24
    have h2 := nodesW_len (leafB ps) ps.length
    unfold crE
    rw [List.length_map, endsT_eq]; omega
  · simp
end Go.Proofs.Ytbpelmpipkkonaa
