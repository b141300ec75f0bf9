/- The greatest number on the way. No program is spoken of here. -/
import Derived.Test.YtbpelmpipkkonaaWayQ
import Derived.Test.YtbpelmpipkkonaaProcI
namespace Go.Proofs.Ytbpelmpipkkonaa
set_option linter.unusedVariables false
def maxI (a b : Int) : Int := if a < b then b else a
def highT (ps zs : List Int) : List Int := passT ps (-999) (fun a x => maxI a (zs.getD x 0))
theorem high_bd {ps ws zs : List Int} (p : Proc ps ws zs) : ∀ x, x < ps.length → -999 ≤ (highT ps zs).getD x 0 ∧ (highT ps zs).getD x 0 ≤ 999 := by
  have hp := ParOk.of p.good
  refine tree_ind hp (fun h => ?_) (fun x h0 hx ih => ?_)
  · unfold highT
    rw [passT_zero ps (-999) _ (by omega)]
    have := p.bd 0 (by have := p.len; omega)
    unfold maxI
    split <;> omega
  · have hl := par_lt hp h0 hx
    unfold highT at ih ⊢
    rw [passT_step ps (-999) _ h0 hx hl]
    have h3 := p.bd x (by have := p.len; omega)
    have h4 : ∀ a b : Int, -999 ≤ a ∧ a ≤ 999 → -999 ≤ b ∧ b ≤ 999 → -999 ≤ maxI a b ∧ maxI a b ≤ 999 := fun a b h h' => by unfold maxI; split <;> omega
    exact h4 _ _ ih h3
/-- What the model gathers. -/
theorem high_fold {ps ws zs : List Int} (p : Proc ps ws zs) {x : Nat} (hx : x < ps.length) : (wayT ps (x : Int)).foldl (fun a y => maxI a (zs.getD y.toNat 0)) (zs.getD 0 0) = (highT ps zs).getD x 0 := by
  have hp := ParOk.of p.good
  have h1 := fold_way hp (-999) (fun a y => maxI a (zs.getD y.toNat 0)) x hx
  have w := way_all hp x hx
  have hb := p.bd 0 (by have := p.len; have := p.good.n1; omega)
  have hf := w.first
  have hl := w.len
  unfold highT
  simp only [Int.toNat_natCast] at h1
  rw [← h1]
  cases hW : wayT ps (x : Int) with
  | nil => rw [hW] at hl; simp at hl
  | cons a R =>
    rw [hW] at hf
    simp at hf
    subst hf
    rw [List.foldl_cons, List.foldl_cons]
    congr 1
    simp only [Int.toNat_zero]
    unfold maxI
    split <;> split <;> omega
/-- What a function of a process returns. -/
def ifProc (ps ws zs L : List Int) : List Int := if procB ps ws zs = true then L else []
def highE (ps zs : List Int) : List Int := (endsT ps).map fun e => (highT ps zs).getD e.toNat 0
theorem map_at {E : List Int} (f : Int → Int) {k : Nat} (hk : k < E.length) : (E.map f).getD k 0 = f (E.getD k 0) := by
  rw [List.getD_eq_getElem?_getD, List.getElem?_map, List.getElem?_eq_getElem hk, List.getD_eq_getElem?_getD, List.getElem?_eq_getElem hk]; rfl
theorem ends_map_len (ps ws zs : List Int) (f : Int → Int) : (ifProc ps ws zs ((endsT ps).map f)).length ≤ 1048576 := by
  unfold ifProc
  split
  · rename_i h
    have h1 := (procB_iff.1 h).good.n24
    have h2 := nodesW_len (leafB ps) ps.length
    rw [List.length_map, endsT_eq]; omega
  · simp
theorem fold_take {f : Int → Int → Int} {a : Int} {l : List Int} {k : Nat} (h : k < l.length) : (l.take (k + 1)).foldl f a = f ((l.take k).foldl f a) (l.getD k 0) := by
  rw [List.take_succ_eq_append_getElem h, List.foldl_append, List.getD_eq_getElem?_getD, List.getElem?_eq_getElem h]; rfl
end Go.Proofs.Ytbpelmpipkkonaa
