/- Arms, told by lists. No program is spoken of here. -/
import Derived.Test.YtmidlabgmmejbaaMktP
import Derived.Test.YtmidlabgmmejbaaDepthP
namespace Go.Proofs.Ytmidlabgmmejbaa
set_option linter.unusedVariables false
/-- The greatest of the first k numbers and the first one. -/
def mxL (zs : List Int) : Nat → Int
  | 0 => zs.getD 0 0
  | k + 1 => max (mxL zs k) (zs.getD k 0)
theorem mxL_bd {zs : List Int} {a b : Int} (h : ∀ j, j < zs.length → a ≤ zs.getD j 0 ∧ zs.getD j 0 ≤ b) (h0 : 0 < zs.length) : ∀ k, k ≤ zs.length → a ≤ mxL zs k ∧ mxL zs k ≤ b
  | 0, _ => h 0 h0
  | k + 1, hk => by
    have h1 := mxL_bd h h0 k (by omega)
    have h2 := h k (by omega)
    unfold mxL
    omega
theorem mxL_one (zs : List Int) : mxL zs 1 = zs.getD 0 0 := by
  show max (zs.getD 0 0) (zs.getD 0 0) = _
  omega
theorem mxL_ge {zs : List Int} {j : Nat} : ∀ k, j < k → zs.getD j 0 ≤ mxL zs k
  | 0, h => by omega
  | k + 1, h => by
    unfold mxL
    by_cases hj : j = k
    · subst hj; omega
    · have := mxL_ge (zs := zs) (j := j) k (by omega)
      omega
/-- The greatest depth of a node. -/
def deepT (ps : List Int) : Int := mxL (depthsT ps) ps.length
theorem deepT_bd {ps : List Int} (h : 0 < ps.length) : 0 ≤ deepT ps ∧ deepT ps ≤ ps.length := by
  have hl := depthsT_len ps
  exact mxL_bd (a := 0) (b := ps.length) (fun j hj => depthsT_bd ps j (by omega)) (by omega) _ (by omega)
theorem depth_le {ps : List Int} {x : Nat} (h : x < ps.length) : (depthsT ps).getD x 0 ≤ deepT ps := mxL_ge _ h
/-- The lists are an arm. -/
def armB (ps ws fs : List Int) : Bool := goodT ps ws && (decide (ps.length ≤ 9) && (decide (deepT ps ≤ 4) && ((decide ((fs.length : Int) = (ps.length : Int)) && withinB 99 fs) && zeroE ws fs ps.length)))
structure ArmG (ps ws fs : List Int) : Prop where
  good : Good ps ws
  n9 : ps.length ≤ 9
  deep : deepT ps ≤ 4
  len : fs.length = ps.length
  bd : ∀ i, i < fs.length → -99 ≤ fs.getD i 0 ∧ fs.getD i 0 ≤ 99
  zero : ∀ x, x < ps.length → heldE ws fs x = false
theorem armB_iff {ps ws fs : List Int} : armB ps ws fs = true ↔ ArmG ps ws fs := by
  unfold armB
  simp only [Bool.and_eq_true, decide_eq_true_eq]
  constructor
  · rintro ⟨a, b, c, ⟨d, e⟩, f⟩; exact ⟨Good.of a, b, c, by omega, fun i hi => within_at e hi, zeroE_iff.1 f⟩
  · intro p; exact ⟨(goodT_iff _ _).2 p.good, p.n9, p.deep, ⟨by rw [p.len], within_yes p.bd⟩, zeroE_iff.2 p.zero⟩
/-- The same, as it is asked in the program: behind a valid tree. -/
theorem armB_good {ps ws fs : List Int} (h : goodT ps ws = false) : armB ps ws fs = false := by unfold armB; rw [h]; rfl
theorem armB_size {ps ws fs : List Int} (h : ¬ ps.length ≤ 9) : armB ps ws fs = false := by unfold armB; rw [decide_eq_false h]; simp
theorem armB_deep {ps ws fs : List Int} (h : ¬ deepT ps ≤ 4) : armB ps ws fs = false := by unfold armB; rw [decide_eq_false h]; simp
theorem armB_list {ps ws fs : List Int} (h : (decide ((fs.length : Int) = (ps.length : Int)) && withinB 99 fs) = false) : armB ps ws fs = false := by unfold armB; rw [h]; simp
theorem armB_rest {ps ws fs : List Int} (h1 : goodT ps ws = true) (h2 : ps.length ≤ 9) (h3 : deepT ps ≤ 4) (h4 : (decide ((fs.length : Int) = (ps.length : Int)) && withinB 99 fs) = true) : armB ps ws fs = zeroE ws fs ps.length := by
  unfold armB; rw [h1, decide_eq_true h2, decide_eq_true h3, h4]; rfl
end Go.Proofs.Ytmidlabgmmejbaa
