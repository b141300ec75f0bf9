/- The first entry of a process. No program is spoken of here. -/
import Derived.Test.YtagljebfbacdhaaWayQ
import Derived.Test.YtagljebfbacdhaaProcI
import Derived.Test.YtagljebfbacdhaaPutP
import Derived.Test.YtagljebfbacdhaaEndsL
namespace Go.Proofs.Ytagljebfbacdhaa
set_option linter.unusedVariables false
/-- Whether a node stops a way. -/
def hitB (ps zs : List Int) (lv : Int) (x : Nat) : Bool := decide (lv ≤ zs.getD x 0) || leafB ps x
def entS (ps zs : List Int) (lv : Int) : Int → Nat → Int := fun a x => if a = -1 ∧ hitB ps zs lv x = true then (x : Int) else a
/-- The first entry at or above a node, or -1. -/
def entT (ps zs : List Int) (lv : Int) : List Int := passT ps (-1) (entS ps zs lv)
theorem ent_bd {ps : List Int} (hp : ParOk ps) (zs : List Int) (lv : Int) : ∀ x, x < ps.length → -1 ≤ (entT ps zs lv).getD x 0 ∧ (entT ps zs lv).getD x 0 ≤ (x : Int) := by
  refine tree_ind hp (fun h => ?_) (fun x h0 hx ih => ?_)
  · unfold entT
    rw [passT_zero ps (-1) _ (by omega)]
    unfold entS
    split <;> simp
  · have hl := par_lt hp h0 hx
    unfold entT at ih ⊢
    rw [passT_step ps (-1) _ h0 hx hl]
    change -1 ≤ (if (passT ps (-1) (entS ps zs lv)).getD (ps.getD x 0).toNat 0 = -1 ∧ hitB ps zs lv x = true then (x : Int) else (passT ps (-1) (entS ps zs lv)).getD (ps.getD x 0).toNat 0) ∧ (if (passT ps (-1) (entS ps zs lv)).getD (ps.getD x 0).toNat 0 = -1 ∧ hitB ps zs lv x = true then (x : Int) else (passT ps (-1) (entS ps zs lv)).getD (ps.getD x 0).toNat 0) ≤ (x : Int)
    split <;> omega
theorem ent_step {ps : List Int} (hp : ParOk ps) (zs : List Int) (lv : Int) {x : Nat} (h0 : 0 < x) (hx : x < ps.length) : (entT ps zs lv).getD x 0 = entS ps zs lv ((entT ps zs lv).getD (ps.getD x 0).toNat 0) x := passT_step ps (-1) _ h0 hx (par_lt hp h0 hx)
theorem ent_zero {ps : List Int} (h : 0 < ps.length) (zs : List Int) (lv : Int) : (entT ps zs lv).getD 0 0 = entS ps zs lv (-1) 0 := passT_zero ps (-1) _ h
/-- What a first entry is. -/
theorem ent_self {ps : List Int} (hp : ParOk ps) (zs : List Int) (lv : Int) : ∀ x, x < ps.length → 0 ≤ (entT ps zs lv).getD x 0 → (entT ps zs lv).getD ((entT ps zs lv).getD x 0).toNat 0 = (entT ps zs lv).getD x 0 := by
  refine tree_ind hp (fun h h' => ?_) (fun x h0 hx ih h' => ?_)
  · have := (ent_bd hp zs lv 0 h).2
    have e : (entT ps zs lv).getD 0 0 = 0 := by omega
    rw [e, Int.toNat_zero, e]
  · have hs := ent_step hp zs lv h0 hx
    unfold entS at hs
    by_cases h : (entT ps zs lv).getD (ps.getD x 0).toNat 0 = -1 ∧ hitB ps zs lv x = true
    · rw [if_pos h] at hs
      rw [hs, Int.toNat_natCast, hs]
    · rw [if_neg h] at hs
      rw [hs] at h' ⊢
      exact ih h'
theorem ent_leaf {ps : List Int} (hp : ParOk ps) (zs : List Int) (lv : Int) {x : Nat} (hx : x < ps.length) (hl : leafB ps x = true) : 0 ≤ (entT ps zs lv).getD x 0 := by
  have hh : hitB ps zs lv x = true := by unfold hitB; rw [hl, Bool.or_true]
  rcases Nat.eq_zero_or_pos x with h | h
  · subst h
    rw [ent_zero hx]; unfold entS; rw [if_pos ⟨rfl, hh⟩]; omega
  · rw [ent_step hp zs lv h hx]
    unfold entS
    have := ent_bd hp zs lv (ps.getD x 0).toNat (by have := par_lt hp h hx; omega)
    split
    · omega
    · rename_i hn
      have : ¬ (entT ps zs lv).getD (ps.getD x 0).toNat 0 = -1 := fun e => hn ⟨e, hh⟩
      omega
/-- Each first entry is one on the way to an end. -/
theorem ent_down {ps ws : List Int} (g : Good ps ws) (zs : List Int) (lv : Int) : ∀ x, x < ps.length → 0 ≤ (entT ps zs lv).getD x 0 → ∃ e, e < ps.length ∧ leafB ps e = true ∧ (entT ps zs lv).getD e 0 = (entT ps zs lv).getD x 0 := by
  refine down_ind g (fun x hx hl h => ⟨x, hx, hl, rfl⟩) (fun x y hx hy h0 e ih h => ?_)
  have hs := ent_step (ParOk.of g) zs lv h0 hy
  rw [e] at hs
  unfold entS at hs
  rw [if_neg (by omega)] at hs
  obtain ⟨z, h1, h2, h3⟩ := ih (by rw [hs]; exact h)
  exact ⟨z, h1, h2, by rw [h3, hs]⟩
/-- The nodes of the stopping. -/
def entL (ps zs : List Int) (lv : Int) : List Int := nodesW (fun x => decide ((entT ps zs lv).getD x 0 = (x : Int))) ps.length
theorem ent_list {ps ws : List Int} (g : Good ps ws) (zs : List Int) (lv : Int) : entL ps zs lv = nodesW (fun x => inL ((endsT ps).map fun e => (entT ps zs lv).getD e.toNat 0) (x : Int)) ps.length := by
  refine nodesW_congr fun x hx => ?_
  have hp := ParOk.of g
  unfold inL
  rw [Bool.eq_iff_iff, decide_eq_true_iff, decide_eq_true_iff, List.mem_map]
  constructor
  · intro h
    obtain ⟨e, h1, h2, h3⟩ := ent_down g zs lv x hx (by omega)
    refine ⟨(e : Int), ?_, by rw [Int.toNat_natCast, h3, h]⟩
    rw [endsT_eq]
    unfold nodesW
    exact List.mem_map.2 ⟨e, List.mem_filter.2 ⟨List.mem_range.2 h1, h2⟩, rfl⟩
  · rintro ⟨e, he, h⟩
    obtain ⟨y, rfl, hy, hl⟩ := nodesW_mem he
    rw [Int.toNat_natCast] at h
    have h1 := ent_self hp zs lv y hy (ent_leaf hp zs lv hy hl)
    rw [h, Int.toNat_natCast] at h1
    exact h1
/-- The model's search finds it. -/
theorem ent_search {ps ws : List Int} (g : Good ps ws) (zs : List Int) (lv : Int) {x : Nat} (hx : x < ps.length) (hl : leafB ps x = true) {k : Nat} (hk : k < (wayT ps (x : Int)).length)
    (hb : ∀ j, j < k → zs.getD ((wayT ps (x : Int)).getD j 0).toNat 0 < lv) (he : k + 1 = (wayT ps (x : Int)).length ∨ lv ≤ zs.getD ((wayT ps (x : Int)).getD k 0).toNat 0) : (entT ps zs lv).getD x 0 = (wayT ps (x : Int)).getD k 0 := by
  have hp := ParOk.of g
  have w := way_all hp x hx
  obtain ⟨W, hW⟩ : ∃ W, W = wayT ps (x : Int) := ⟨_, rfl⟩
  have wl := w.len
  have wf := w.first
  have wla := w.last
  have wn := w.node
  have wp := w.par
  rw [← hW] at hk hb he wl wf wla wn wp ⊢
  have nl : ∀ j, j + 1 < W.length → leafB ps (W.getD j 0).toNat = false := fun j hj => by
    have h1 := wp j hj
    have h2 := wn (j + 1) hj
    have h3 := wn j (by omega)
    rw [leafB_false]
    exact ⟨(W.getD (j + 1) 0).toNat, by omega, by rw [h1.2]; omega⟩
  have before : ∀ j, j < k → (entT ps zs lv).getD (W.getD j 0).toNat 0 = -1 := by
    intro j
    induction j with
    | zero =>
      intro h
      have hh : hitB ps zs lv 0 = false := by
        unfold hitB
        have h1 := nl 0 (by omega)
        have h2 := hb 0 h
        rw [wf] at h1 h2
        rw [Int.toNat_zero] at h1 h2
        rw [h1, Bool.or_false, decide_eq_false_iff_not]; omega
      rw [wf, Int.toNat_zero, ent_zero (by omega)]
      unfold entS
      rw [hh, if_neg (by simp)]
    | succ j ih =>
      intro h
      have h1 := wp j (by omega)
      have h2 := wn (j + 1) (by omega)
      have hh : hitB ps zs lv (W.getD (j + 1) 0).toNat = false := by
        unfold hitB
        rw [nl (j + 1) (by omega), Bool.or_false, decide_eq_false_iff_not]
        have := hb (j + 1) h; omega
      rw [ent_step hp zs lv (by omega) (by omega), h1.2]
      unfold entS
      rw [hh, if_neg (by simp), ih (by omega)]
  have hit : hitB ps zs lv (W.getD k 0).toNat = true := by
    unfold hitB
    rcases he with h | h
    · rw [show k = W.length - 1 by omega, wla, Int.toNat_natCast, hl, Bool.or_true]
    · rw [decide_eq_true h, Bool.true_or]
  have at_k : (entT ps zs lv).getD (W.getD k 0).toNat 0 = W.getD k 0 := by
    have h2 := wn k hk
    rcases Nat.eq_zero_or_pos k with h | h
    · subst h
      rw [wf] at hit ⊢
      rw [Int.toNat_zero] at hit ⊢
      rw [ent_zero (by omega)]
      unfold entS
      rw [if_pos ⟨rfl, hit⟩]; rfl
    · have h1 := wp (k - 1) (by omega)
      rw [show k - 1 + 1 = k by omega] at h1
      rw [ent_step hp zs lv (by omega) (by omega), h1.2, before (k - 1) (by omega)]
      unfold entS
      rw [if_pos ⟨rfl, hit⟩]; omega
  have after : ∀ d, k + d < W.length → (entT ps zs lv).getD (W.getD (k + d) 0).toNat 0 = W.getD k 0 := by
    intro d
    induction d with
    | zero => intro _; exact at_k
    | succ d ih =>
      intro h
      have h1 := wp (k + d) (by omega)
      have h2 := wn (k + d + 1) (by omega)
      have h3 := wn k hk
      rw [show k + (d + 1) = k + d + 1 by omega, ent_step hp zs lv (by omega) (by omega), h1.2, ih (by omega)]
      unfold entS
      rw [if_neg (by omega)]
  have := after (W.length - 1 - k) (by omega)
  rw [show k + (W.length - 1 - k) = W.length - 1 by omega, wla, Int.toNat_natCast] at this
  exact this
end Go.Proofs.Ytagljebfbacdhaa
