/- The way from the root to a node, step by step. No program is spoken of here. -/
import Derived.Test.YtfpckfameebdnaaPassP
namespace Go.Proofs.Ytfpckfameebdnaa
set_option linter.unusedVariables false
theorem wayT_zero {ps : List Int} (h : 0 < ps.length) : wayT ps ((0 : Nat) : Int) = [0] := by
  unfold wayT; rw [Int.toNat_natCast, wayA_zero h]; rfl
theorem wayT_step {ps : List Int} (hp : ParOk ps) {x : Nat} (h0 : 0 < x) (hx : x < ps.length) : wayT ps (x : Int) = wayT ps (((ps.getD x 0).toNat : Nat) : Int) ++ [(x : Int)] := by
  unfold wayT; rw [Int.toNat_natCast, Int.toNat_natCast, wayA_step hp h0 hx, List.reverse_cons]
/-- What is passed down is what is gathered on the way. -/
theorem fold_way {ps : List Int} (hp : ParOk ps) (a0 : Int) (f : Int → Int → Int) : ∀ x, x < ps.length → (wayT ps (x : Int)).foldl f a0 = (passT ps a0 (fun a x => f a (x : Int))).getD x 0 := by
  refine tree_ind hp (fun h => ?_) (fun x h0 hx ih => ?_)
  · rw [wayT_zero h, passT_zero ps a0 _ (by omega)]; rfl
  · rw [wayT_step hp h0 hx, List.foldl_append, ih, passT_step ps a0 _ h0 hx (par_lt hp h0 hx)]; rfl
structure Way (ps : List Int) (x : Nat) : Prop where
  len : 0 < (wayT ps (x : Int)).length ∧ (wayT ps (x : Int)).length ≤ x + 1
  first : (wayT ps (x : Int)).getD 0 0 = 0
  last : (wayT ps (x : Int)).getD ((wayT ps (x : Int)).length - 1) 0 = (x : Int)
  node : ∀ j, j < (wayT ps (x : Int)).length → 0 ≤ (wayT ps (x : Int)).getD j 0 ∧ (wayT ps (x : Int)).getD j 0 ≤ (x : Int)
  par : ∀ j, j + 1 < (wayT ps (x : Int)).length → 0 < (wayT ps (x : Int)).getD (j + 1) 0 ∧ ps.getD ((wayT ps (x : Int)).getD (j + 1) 0).toNat 0 = (wayT ps (x : Int)).getD j 0
theorem way_all {ps : List Int} (hp : ParOk ps) : ∀ x, x < ps.length → Way ps x := by
  refine tree_ind hp (fun h => ?_) (fun x h0 hx ih => ?_)
  · have e := wayT_zero h
    exact ⟨by rw [e]; simp, by rw [e]; rfl, by rw [e]; rfl, fun j hj => by
      rw [e] at hj ⊢
      obtain rfl : j = 0 := by simpa using hj
      simp, fun j hj => by rw [e] at hj; simp at hj⟩
  · have hl := par_lt hp h0 hx
    have hq := (hp x h0 hx).1
    have e := wayT_step hp h0 hx
    obtain ⟨l1, f1, la1, n1, p1⟩ := ih
    obtain ⟨W, hW⟩ : ∃ W, W = wayT ps (((ps.getD x 0).toNat : Nat) : Int) := ⟨_, rfl⟩
    rw [← hW] at l1 f1 la1 n1 p1 e
    have ll : (W ++ [(x : Int)]).length = W.length + 1 := by simp
    have gl : (W ++ [(x : Int)]).getD W.length 0 = (x : Int) := getD_app_right
    refine ⟨by rw [e, ll]; omega, by rw [e, getD_app_left l1.1]; exact f1, by rw [e, ll, Nat.add_sub_cancel]; exact gl, fun j hj => ?_, fun j hj => ?_⟩
    · rw [e, ll] at hj
      rw [e]
      rcases Nat.lt_or_ge j W.length with h | h
      · rw [getD_app_left h]; have := n1 j h; omega
      · obtain rfl : j = W.length := by omega
        rw [gl]; omega
    · rw [e, ll] at hj
      rw [e]
      rcases Nat.lt_or_ge (j + 1) W.length with h | h
      · rw [getD_app_left h, getD_app_left (by omega)]; exact p1 j h
      · obtain rfl : j = W.length - 1 := by omega
        rw [show W.length - 1 + 1 = W.length by omega, gl, getD_app_left (by omega), la1, Int.toNat_natCast]
        omega
end Go.Proofs.Ytfpckfameebdnaa
