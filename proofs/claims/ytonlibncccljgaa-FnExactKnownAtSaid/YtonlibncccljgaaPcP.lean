/- Cuts and the ends below their nodes, told by lists; what pays at a cut are. -/
import Derived.Test.YtonlibncccljgaaCutS
import Derived.Test.YtonlibncccljgaaPassP
import Derived.Test.YtonlibncccljgaaPayW
namespace Go.Proofs.Ytonlibncccljgaa
open Go.RowKit
set_option linter.unusedVariables false
/-- The node of the cut above each node, or the node itself. -/
def ancT (ps : List Int) (d : Int) : List Int := passT ps 0 (fun a x => if d < (depthsT ps).getD x 0 then a else (x : Int))
/-- Whether a node lies on the way to each node. -/
def undT (ps : List Int) (c : Nat) : List Int := passT ps 0 (fun a x => if x = c then 1 else if x < c then 0 else a)
theorem anc_zero {ps : List Int} {d : Int} (h : 1 ≤ ps.length) (hd : 0 ≤ d) : (ancT ps d).getD 0 0 = 0 := by
  rw [show (ancT ps d).getD 0 0 = _ from passT_zero ps 0 _ h, depthsT_zero ps h]
  show (if _ then _ else _) = _
  rw [if_neg (by omega)]; rfl
theorem anc_step {ps : List Int} (hp : ParOk ps) (d : Int) {x : Nat} (h0 : 0 < x) (hx : x < ps.length) : (ancT ps d).getD x 0 = if d < (depthsT ps).getD x 0 then (ancT ps d).getD (ps.getD x 0).toNat 0 else (x : Int) :=
  passT_step ps 0 _ h0 hx (par_lt hp h0 hx)
theorem anc_in {ps : List Int} (hp : ParOk ps) {d : Int} (hd : 0 ≤ d) : ∀ x, x < ps.length → 0 ≤ (ancT ps d).getD x 0 ∧ (ancT ps d).getD x 0 ≤ (x : Int) := by
  refine tree_ind hp (fun h => ?_) (fun x h0 hx ih => ?_)
  · rw [anc_zero (by omega) hd]; omega
  · have hl := par_lt hp h0 hx
    rw [anc_step hp d h0 hx]
    split <;> omega
/-- Where a node is deep enough, it is the node of the cut itself. -/
theorem anc_here {ps : List Int} (hp : ParOk ps) {d : Int} (hd : 0 ≤ d) {x : Nat} (hx : x < ps.length) (h : ¬ d < (depthsT ps).getD x 0) : (ancT ps d).getD x 0 = (x : Int) := by
  by_cases h0 : x = 0
  · subst h0; exact anc_zero (by omega) hd
  · rw [anc_step hp d (by omega) hx, if_neg h]
theorem dep_pos {ps : List Int} (hp : ParOk ps) {d : Int} (hd : 0 ≤ d) {x : Nat} (hx : x < ps.length) (h : d < (depthsT ps).getD x 0) : 0 < x := by
  rcases Nat.eq_zero_or_pos x with h0 | h0
  · subst h0; rw [depthsT_zero ps (by omega)] at h; omega
  · exact h0
theorem dep_step {ps : List Int} (hp : ParOk ps) {x : Nat} (h0 : 0 < x) (hx : x < ps.length) : (depthsT ps).getD x 0 = (depthsT ps).getD (ps.getD x 0).toNat 0 + 1 := depthsT_step ps h0 hx (hp x h0 hx)
theorem anc_depth {ps : List Int} (hp : ParOk ps) {d : Int} (hd : 0 ≤ d) : ∀ x, x < ps.length → (depthsT ps).getD ((ancT ps d).getD x 0).toNat 0 = if d < (depthsT ps).getD x 0 then d else (depthsT ps).getD x 0 := by
  refine tree_ind hp (fun h => ?_) (fun x h0 hx ih => ?_)
  · rw [anc_zero (by omega) hd, show (0 : Int).toNat = 0 from rfl, depthsT_zero ps (by omega), if_neg (by omega)]
  · rw [anc_step hp d h0 hx]
    by_cases h : d < (depthsT ps).getD x 0
    · rw [if_pos h, if_pos h, ih]
      have := dep_step hp h0 hx
      split <;> omega
    · rw [if_neg h, if_neg h, Int.toNat_natCast]
theorem anc_cut {ps ws : List Int} (g : Good ps ws) {d : Int} (hd : 0 ≤ d) {x : Nat} (hx : x < ps.length) (hl : leafB ps x = true) : cutB ps ws d ((ancT ps d).getD x 0).toNat = true := by
  have hp := ParOk.of g
  have h1 := anc_depth hp hd x hx
  unfold cutB
  rw [h1]
  by_cases h : d < (depthsT ps).getD x 0
  · rw [if_pos h]; simp
  · rw [if_neg h, anc_here hp hd hx h, Int.toNat_natCast]
    have h2 := (g.leaf x hx hl).1
    rw [decide_eq_true (show 0 < ws.getD x 0 by omega), Bool.and_true, Bool.or_eq_true, beq_iff_eq, decide_eq_true_iff]
    omega
theorem und_zero {ps : List Int} (h : 1 ≤ ps.length) (c : Nat) : (undT ps c).getD 0 0 = if 0 = c then 1 else 0 := by
  rw [show (undT ps c).getD 0 0 = _ from passT_zero ps 0 _ h]
  show (if _ then _ else if _ then _ else _) = _
  split
  · rfl
  · split <;> rfl
theorem und_step {ps : List Int} (hp : ParOk ps) (c : Nat) {x : Nat} (h0 : 0 < x) (hx : x < ps.length) : (undT ps c).getD x 0 = if x = c then 1 else if x < c then 0 else (undT ps c).getD (ps.getD x 0).toNat 0 :=
  passT_step ps 0 _ h0 hx (par_lt hp h0 hx)
theorem und_low {ps : List Int} (hp : ParOk ps) (c : Nat) {x : Nat} (hx : x < ps.length) (h : x ≤ c) : (undT ps c).getD x 0 = if x = c then 1 else 0 := by
  by_cases h0 : x = 0
  · subst h0; exact und_zero (by omega) c
  · rw [und_step hp c (by omega) hx]
    by_cases e : x = c
    · rw [if_pos e, if_pos e]
    · rw [if_neg e, if_neg e, if_pos (by omega)]
theorem und_high {ps : List Int} (hp : ParOk ps) (c : Nat) {x : Nat} (hx : x < ps.length) (h : c < x) : (undT ps c).getD x 0 = (undT ps c).getD (ps.getD x 0).toNat 0 := by
  rw [und_step hp c (by omega) hx, if_neg (by omega), if_neg (by omega)]
/-- A node of the cut lies on the way to a node exactly if it is the one above it. -/
theorem und_key {ps ws : List Int} (g : Good ps ws) {d : Int} (hd : 0 ≤ d) : ∀ x, x < ps.length → ∀ c, c < ps.length → cutB ps ws d c = true → (undT ps c).getD x 0 = if (c : Int) = (ancT ps d).getD x 0 then 1 else 0 := by
  have hp := ParOk.of g
  refine tree_ind hp (fun h c hc hcut => ?_) (fun x h0 hx ih c hc hcut => ?_)
  · rw [und_zero (by omega), anc_zero (by omega) hd]
    by_cases e : 0 = c
    · rw [if_pos e, if_pos (by omega)]
    · rw [if_neg e, if_neg (by omega)]
  · have hl := par_lt hp h0 hx
    have hin := anc_in hp hd x hx
    by_cases h : d < (depthsT ps).getD x 0
    · have ea : (ancT ps d).getD x 0 = (ancT ps d).getD (ps.getD x 0).toNat 0 := by rw [anc_step hp d h0 hx, if_pos h]
      by_cases e1 : x = c
      · subst e1
        unfold cutB at hcut
        rw [Bool.or_eq_true, Bool.and_eq_true, beq_iff_eq, decide_eq_true_iff] at hcut
        omega
      · rcases Nat.lt_or_ge x c with e2 | e2
        · rw [und_low hp c hx (by omega), if_neg e1, if_neg (by omega)]
        · rw [und_high hp c hx (by omega), ih c hc hcut, ea]
    · have ea := anc_here hp hd hx h
      by_cases e1 : x = c
      · rw [und_low hp c hx (by omega), if_pos e1, ea, if_pos (by omega)]
      · rw [ea, if_neg (by omega)]
        rcases Nat.lt_or_ge x c with e2 | e2
        · rw [und_low hp c hx (by omega), if_neg e1]
        · rw [und_high hp c hx (by omega), ih c hc hcut]
          have hds := dep_step hp h0 hx
          have ep := anc_here hp hd (x := (ps.getD x 0).toNat) (by omega) (by omega)
          rw [ep]
          refine if_neg fun e3 => ?_
          have e4 : (ps.getD x 0).toNat = c := by omega
          have hpx := hp x h0 hx
          have hin2 : leafB ps c = false := (leafB_false ps c).2 ⟨x, hx, by omega⟩
          have hw := g.inner c hc hin2
          unfold cutB at hcut
          rw [Bool.or_eq_true, Bool.and_eq_true, beq_iff_eq, decide_eq_true_iff, decide_eq_true_iff] at hcut
          rw [e4] at hds
          omega
/-- Nodes that a test takes ascend. -/
theorem nodesW_up (p : Nat → Bool) : ∀ n, (nodesW p n).Pairwise (· < ·) ∧ ∀ z ∈ nodesW p n, z < (n : Int) := by
  intro n
  induction n with
  | zero => exact ⟨List.Pairwise.nil, fun z hz => by cases hz⟩
  | succ n ih =>
    cases hn : p n
    · rw [nodesW_no hn]; exact ⟨ih.1, fun z hz => by have := ih.2 z hz; omega⟩
    · rw [nodesW_yes hn]
      refine ⟨List.pairwise_append.2 ⟨ih.1, by simp, fun a ha b hb => by simp at hb; subst hb; exact ih.2 a ha⟩, fun z hz => ?_⟩
      rcases List.mem_append.1 hz with h | h
      · have := ih.2 z h; omega
      · simp at h; omega
theorem up_lt {l : List Int} (h : l.Pairwise (· < ·)) {i j : Nat} (hij : i < j) (hj : j < l.length) : l.getD i 0 < l.getD j 0 := by
  have := List.pairwise_iff_getElem.1 h i j (by omega) hj hij
  rwa [List.getD_eq_getElem?_getD, List.getD_eq_getElem?_getD, List.getElem?_eq_getElem (by omega : i < l.length), List.getElem?_eq_getElem hj]
theorem nodes_in {p : Nat → Bool} {n i : Nat} (hi : i < (nodesW p n).length) : ∃ x : Nat, (x : Int) = (nodesW p n).getD i 0 ∧ x < n ∧ p x = true := by
  obtain ⟨x, h1, h2, h3⟩ := nodesW_mem (p := p) (n := n) (z := (nodesW p n).getD i 0) (by
    rw [List.getD_eq_getElem?_getD, List.getElem?_eq_getElem hi]; exact List.getElem_mem hi)
  exact ⟨x, h1.symm, h2, h3⟩
theorem cut_in {ps ws : List Int} {d : Int} {i : Nat} (hi : i < (cutT ps ws d).length) : ∃ x : Nat, (x : Int) = (cutT ps ws d).getD i 0 ∧ x < ps.length ∧ cutB ps ws d x = true := nodes_in hi
/-- The place of the cut's node above an end. -/
def crank (ps ws : List Int) (d : Int) (e : Int) : Nat := (nodesW (cutB ps ws d) ((ancT ps d).getD e.toNat 0).toNat).length
theorem crank_at {ps ws : List Int} (g : Good ps ws) {d : Int} (hd : 0 ≤ d) {x : Nat} (hx : x < ps.length) (hl : leafB ps x = true) : crank ps ws d (x : Int) < (cutT ps ws d).length ∧ (cutT ps ws d).getD (crank ps ws d (x : Int)) 0 = (ancT ps d).getD x 0 := by
  have h1 := anc_cut g hd hx hl
  have h2 := anc_in (ParOk.of g) hd x hx
  have h3 := nodes_rank (cutB ps ws d) ps.length ((ancT ps d).getD x 0).toNat (by omega) h1
  unfold crank cutT
  rw [Int.toNat_natCast]
  refine ⟨h3.1, ?_⟩
  rw [h3.2]; omega
/-- The cut's nodes before it do not lie on the way. -/
theorem crank_und {ps ws : List Int} (g : Good ps ws) {d : Int} (hd : 0 ≤ d) {x : Nat} (hx : x < ps.length) (hl : leafB ps x = true) {k : Nat} (hk : k ≤ crank ps ws d (x : Int)) :
    ∃ c : Nat, (c : Int) = (cutT ps ws d).getD k 0 ∧ c < ps.length ∧ (undT ps c).getD x 0 = if k = crank ps ws d (x : Int) then 1 else 0 := by
  obtain ⟨h1, h2⟩ := crank_at (ws := ws) g hd hx hl
  obtain ⟨c, e, hc, hcut⟩ := cut_in (ps := ps) (ws := ws) (d := d) (i := k) (by omega)
  refine ⟨c, e, hc, ?_⟩
  rw [und_key g hd x hx c hc hcut, e, ← h2]
  by_cases hk2 : k = crank ps ws d (x : Int)
  · rw [if_pos hk2, hk2, if_pos rfl]
  · rw [if_neg hk2, if_neg ?_]
    have := up_lt (nodesW_up (cutB ps ws d) ps.length).1 (show k < crank ps ws d (x : Int) by omega) h1
    unfold cutT
    omega
/-- The pays at a cut. -/
def pacL (ps ws vs : List Int) (d : Int) : List Int := (endsT ps).map fun e => vs.getD (crank ps ws d e) 0
def okD (ps ws : List Int) (d : Int) : Bool := goodT ps ws && decide (0 ≤ d)
def pacB (ps ws vs : List Int) (d : Int) : Bool := okD ps ws d && (decide (vs.length = (cutT ps ws d).length) && vs.all payOk)
def ifPac (ps ws vs : List Int) (d : Int) : List Int := if pacB ps ws vs d = true then pacL ps ws vs d else []
structure Pac (ps ws vs : List Int) (d : Int) : Prop where
  good : Good ps ws
  nn : 0 ≤ d
  len : vs.length = (cutT ps ws d).length
  bd : ∀ i, i < vs.length → -999 ≤ vs.getD i 0 ∧ vs.getD i 0 ≤ 999
theorem pacB_iff {ps ws vs : List Int} {d : Int} : pacB ps ws vs d = true ↔ Pac ps ws vs d := by
  unfold pacB okD
  rw [Bool.and_eq_true, Bool.and_eq_true, Bool.and_eq_true, decide_eq_true_iff, decide_eq_true_iff, List.all_eq_true]
  constructor
  · rintro ⟨⟨a, a2⟩, b, c⟩
    refine ⟨Good.of a, a2, b, fun i hi => ?_⟩
    have := c (vs.getD i 0) (by rw [List.getD_eq_getElem?_getD, List.getElem?_eq_getElem hi]; exact List.getElem_mem hi)
    exact of_decide_eq_true this
  · intro p
    refine ⟨⟨(goodT_iff _ _).2 p.good, p.nn⟩, p.len, fun z hz => ?_⟩
    obtain ⟨i, hi, rfl⟩ := mem_getD hz
    exact decide_eq_true (p.bd i hi)
theorem pacB_no {ps ws vs : List Int} {d : Int} {i : Nat} (hi : i < vs.length) (h : payOk (vs.getD i 0) = false) : pacB ps ws vs d = false := by
  cases hb : pacB ps ws vs d
  · rfl
  · have := decide_eq_true ((pacB_iff.1 hb).bd i hi)
    unfold payOk at h
    rw [this] at h; cases h
theorem pac_len (ps ws vs : List Int) (d : Int) : (ifPac ps ws vs d).length ≤ 1048576 := by
  unfold ifPac
  split
  · rename_i h
    have := (pacB_iff.1 h).good.n24
    unfold pacL
    rw [List.length_map]
    have := ends_le ps
    omega
  · simp
theorem Pac.look {ps ws vs : List Int} {d : Int} (p : Pac ps ws vs d) {x : Nat} (hx : x < ps.length) (hl : leafB ps x = true) : pairF (cutT ps ws d) vs (cutT ps ws d).length ((ancT ps d).getD x 0) = some (vs.getD (crank ps ws d (x : Int)) 0) := by
  obtain ⟨h1, h2⟩ := crank_at (ws := ws) p.good p.nn hx hl
  have h := pairF_at (es := cutT ps ws d) (vs := vs) (nodesW_up (cutB ps ws d) ps.length).1 (cutT ps ws d).length (Nat.le_refl _) _ h1
  rwa [h2] at h
end Go.Proofs.Ytonlibncccljgaa
