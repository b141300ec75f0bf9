/- Stoppings of a tree, told by lists. No program is spoken of here. -/
import Derived.Test.YtfpckfameebdnaaRise
import Derived.Test.YtfpckfameebdnaaPassP
namespace Go.Proofs.Ytfpckfameebdnaa
set_option linter.unusedVariables false
/-- The nodes of a list that are on the way to a node. -/
def onW (ps ss : List Int) (x : Nat) : List Int := ss.filter (inL (wayA ps x))
/-- How many nodes of a list are on the way. -/
def cntT (ps ss : List Int) : List Int := passT ps 0 (fun a x => if inL ss (x : Int) = true then a + 1 else a)
/-- The last one of them, or -1. -/
def nodT (ps ss : List Int) : List Int := passT ps (-1) (fun a x => if inL ss (x : Int) = true then (x : Int) else a)
theorem inL_cons (a : Int) (l : List Int) (z : Int) : inL (a :: l) z = (decide (z = a) || inL l z) := by
  unfold inL
  rw [Bool.eq_iff_iff]
  simp
theorem inL_nil (z : Int) : inL [] z = false := by unfold inL; simp
theorem inL_rev (l : List Int) (z : Int) : inL l.reverse z = inL l z := by unfold inL; simp
theorem on_way (ps ss : List Int) (x : Nat) : bothL ss (wayT ps (x : Int)) = onW ps ss x := by
  unfold bothL onW wayT
  rw [Int.toNat_natCast]
  exact List.filter_congr fun z _ => inL_rev _ _
theorem filter_eq_one {ss : List Int} (hn : ss.Nodup) (x : Int) : ss.filter (fun z => decide (z = x)) = if inL ss x = true then [x] else [] := by
  induction ss with
  | nil => simp [inL]
  | cons a t ih =>
    rw [List.nodup_cons] at hn
    have h1 := ih hn.2
    rw [inL_cons]
    by_cases e : a = x
    · subst e
      have : inL t a = false := by unfold inL; simp [hn.1]
      rw [this] at h1
      rw [List.filter_cons, if_pos (by simp), h1]
      simp
    · rw [List.filter_cons, if_neg (by simpa using e), h1]
      have : decide (x = a) = false := by simpa using fun h => e h.symm
      rw [this, Bool.false_or]
theorem filter_len_or {p q : Int → Bool} {l : List Int} (hd : ∀ z ∈ l, p z = true → q z = false) : (l.filter (fun z => p z || q z)).length = (l.filter p).length + (l.filter q).length := by
  induction l with
  | nil => rfl
  | cons a t ih =>
    have h1 := ih (fun z hz => hd z (by simp [hz]))
    have h2 := hd a (by simp)
    rw [List.filter_cons, List.filter_cons, List.filter_cons]
    cases hp : p a
    · cases hq : q a
      · simp [h1]
      · simp [h1]; omega
    · rw [h2 hp]; simp [h1]; omega
theorem on_zero {ps ss : List Int} (hn : ss.Nodup) (h : 0 < ps.length) : onW ps ss 0 = if inL ss 0 = true then [0] else [] := by
  unfold onW
  rw [wayA_zero h, ← filter_eq_one hn 0]
  exact List.filter_congr fun z _ => by rw [inL_cons, inL_nil, Bool.or_false]
theorem on_step {ps : List Int} (hp : ParOk ps) (ss : List Int) {x : Nat} (h0 : 0 < x) (hx : x < ps.length) : onW ps ss x = ss.filter (fun z => decide (z = (x : Int)) || inL (wayA ps (ps.getD x 0).toNat) z) := by
  unfold onW
  rw [wayA_step hp h0 hx]
  exact List.filter_congr fun z _ => inL_cons _ _ _
theorem way_not {ps : List Int} (hp : ParOk ps) {x : Nat} (h0 : 0 < x) (hx : x < ps.length) : inL (wayA ps (ps.getD x 0).toNat) (x : Int) = false := by
  have hl := par_lt hp h0 hx
  unfold inL
  rw [decide_eq_false_iff_not]
  intro h
  have := wayA_in hp _ (by omega) _ h
  omega
theorem on_no {ps ss : List Int} (hp : ParOk ps) {x : Nat} (h0 : 0 < x) (hx : x < ps.length) (h : inL ss (x : Int) = false) : onW ps ss x = onW ps ss (ps.getD x 0).toNat := by
  rw [on_step hp ss h0 hx]
  unfold onW
  refine List.filter_congr fun z hz => ?_
  have : decide (z = (x : Int)) = false := by
    rw [decide_eq_false_iff_not]
    intro e
    subst e
    unfold inL at h
    simp [hz] at h
  rw [this, Bool.false_or]
theorem on_len_yes {ps ss : List Int} (hp : ParOk ps) (hn : ss.Nodup) {x : Nat} (h0 : 0 < x) (hx : x < ps.length) (h : inL ss (x : Int) = true) : (onW ps ss x).length = (onW ps ss (ps.getD x 0).toNat).length + 1 := by
  rw [on_step hp ss h0 hx, filter_len_or (fun z _ hz => by
    rw [decide_eq_true_iff] at hz
    subst hz
    exact way_not hp h0 hx), filter_eq_one hn, if_pos h]
  unfold onW
  simp; omega
theorem on_cnt {ps ss : List Int} (hp : ParOk ps) (hn : ss.Nodup) : ∀ x, x < ps.length → ((onW ps ss x).length : Int) = (cntT ps ss).getD x 0 := by
  refine tree_ind hp (fun h => ?_) (fun x h0 hx ih => ?_)
  · rw [on_zero hn h, show (cntT ps ss).getD 0 0 = _ from passT_zero ps 0 _ (by omega)]
    simp only [Int.natCast_zero]
    split <;> simp
  · rw [show (cntT ps ss).getD x 0 = _ from passT_step ps 0 _ h0 hx (par_lt hp h0 hx)]
    change _ = if inL ss (x : Int) = true then (cntT ps ss).getD (ps.getD x 0).toNat 0 + 1 else (cntT ps ss).getD (ps.getD x 0).toNat 0
    rw [← ih]
    split
    · rename_i h
      rw [on_len_yes hp hn h0 hx h]; simp
    · rename_i h
      rw [on_no hp h0 hx (by simpa using h)]
theorem cnt_mono {ps ss : List Int} (hp : ParOk ps) {x : Nat} (h0 : 0 < x) (hx : x < ps.length) : (cntT ps ss).getD (ps.getD x 0).toNat 0 ≤ (cntT ps ss).getD x 0 := by
  rw [show (cntT ps ss).getD x 0 = _ from passT_step ps 0 _ h0 hx (par_lt hp h0 hx)]
  change _ ≤ if inL ss (x : Int) = true then (cntT ps ss).getD (ps.getD x 0).toNat 0 + 1 else (cntT ps ss).getD (ps.getD x 0).toNat 0
  split <;> omega
theorem cnt_bd {ps : List Int} (ss : List Int) (hp : ParOk ps) : ∀ x, x < ps.length → 0 ≤ (cntT ps ss).getD x 0 ∧ (cntT ps ss).getD x 0 ≤ (x : Int) + 1 := by
  refine tree_ind hp (fun h => ?_) (fun x h0 hx ih => ?_)
  · rw [show (cntT ps ss).getD 0 0 = _ from passT_zero ps 0 _ (by omega)]
    try dsimp only
    split <;> simp
  · have hl := par_lt hp h0 hx
    rw [show (cntT ps ss).getD x 0 = _ from passT_step ps 0 _ h0 hx hl]
    change 0 ≤ (if inL ss (x : Int) = true then (cntT ps ss).getD (ps.getD x 0).toNat 0 + 1 else (cntT ps ss).getD (ps.getD x 0).toNat 0) ∧ (if inL ss (x : Int) = true then (cntT ps ss).getD (ps.getD x 0).toNat 0 + 1 else (cntT ps ss).getD (ps.getD x 0).toNat 0) ≤ _
    split <;> omega
theorem nod_bd {ps : List Int} (ss : List Int) (hp : ParOk ps) : ∀ x, x < ps.length → -1 ≤ (nodT ps ss).getD x 0 ∧ (nodT ps ss).getD x 0 ≤ (x : Int) := by
  refine tree_ind hp (fun h => ?_) (fun x h0 hx ih => ?_)
  · rw [show (nodT ps ss).getD 0 0 = _ from passT_zero ps (-1) _ (by omega)]
    try dsimp only
    split <;> simp
  · have hl := par_lt hp h0 hx
    rw [show (nodT ps ss).getD x 0 = _ from passT_step ps (-1) _ h0 hx hl]
    change -1 ≤ (if inL ss (x : Int) = true then (x : Int) else (nodT ps ss).getD (ps.getD x 0).toNat 0) ∧ (if inL ss (x : Int) = true then (x : Int) else (nodT ps ss).getD (ps.getD x 0).toNat 0) ≤ _
    split <;> omega
/-- With at most one node on the way, this is the last one. -/
theorem on_nod {ps ss : List Int} (hp : ParOk ps) (hn : ss.Nodup) : ∀ x, x < ps.length → (cntT ps ss).getD x 0 ≤ 1 → onW ps ss x = if (nodT ps ss).getD x 0 < 0 then [] else [(nodT ps ss).getD x 0] := by
  refine tree_ind hp (fun h _ => ?_) (fun x h0 hx ih hc => ?_)
  · rw [on_zero hn h, show (nodT ps ss).getD 0 0 = _ from passT_zero ps (-1) _ (by omega)]
    try dsimp only
    cases inL ss ((0 : Nat) : Int) with
    | true => simp
    | false => simp
  · have hl := par_lt hp h0 hx
    have hm := cnt_mono (ss := ss) hp h0 hx
    have hi := ih (by omega)
    rw [show (nodT ps ss).getD x 0 = _ from passT_step ps (-1) _ h0 hx hl]
    change _ = if (if inL ss (x : Int) = true then (x : Int) else (nodT ps ss).getD (ps.getD x 0).toNat 0) < 0 then [] else [if inL ss (x : Int) = true then (x : Int) else (nodT ps ss).getD (ps.getD x 0).toNat 0]
    cases h : inL ss (x : Int) with
    | false =>
      rw [on_no hp h0 hx h, hi]; simp
    | true =>
      have h1 := on_cnt hp hn x hx
      rw [on_len_yes hp hn h0 hx h] at h1
      have hnil : onW ps ss (ps.getD x 0).toNat = [] := List.eq_nil_of_length_eq_zero (by omega)
      unfold onW at hnil
      rw [List.filter_eq_nil_iff] at hnil
      rw [on_step hp ss h0 hx]
      have e : ss.filter (fun z => decide (z = (x : Int)) || inL (wayA ps (ps.getD x 0).toNat) z) = ss.filter (fun z => decide (z = (x : Int))) := List.filter_congr fun z hz => by
        have := hnil z hz
        rw [Bool.not_eq_true] at this
        rw [this, Bool.or_false]
      rw [e, filter_eq_one hn, if_pos h, if_neg (by first | (simp; done) | (simp; omega))]
      simp
/-- Whether a list is a stopping. -/
def stopB (ps ws ss : List Int) : Bool := goodT ps ws && (riB ps.length ss && (List.range ps.length).all fun x => !leafB ps x || decide ((cntT ps ss).getD x 0 = 1))
structure Stop (ps ws ss : List Int) : Prop where
  good : Good ps ws
  rise : riB ps.length ss = true
  one : ∀ x, x < ps.length → leafB ps x = true → (cntT ps ss).getD x 0 = 1
theorem stopB_iff {ps ws ss : List Int} : stopB ps ws ss = true ↔ Stop ps ws ss := by
  unfold stopB
  rw [Bool.and_eq_true, Bool.and_eq_true, List.all_eq_true]
  constructor
  · rintro ⟨a, b, c⟩
    refine ⟨Good.of a, b, fun x hx hl => ?_⟩
    have := c x (List.mem_range.2 hx)
    rw [hl] at this
    simpa using this
  · intro s
    refine ⟨(goodT_iff _ _).2 s.good, s.rise, fun x hx => ?_⟩
    cases hl : leafB ps x
    · rfl
    · have := s.one x (List.mem_range.1 hx) hl
      rw [this]; rfl
theorem stopB_no {ps ws ss : List Int} {x : Nat} (hx : x < ps.length) (hl : leafB ps x = true) (h : (cntT ps ss).getD x 0 ≠ 1) : stopB ps ws ss = false := by
  cases hb : stopB ps ws ss
  · rfl
  · exact absurd ((stopB_iff.1 hb).one x hx hl) h
theorem rise_up {n : Nat} {ss : List Int} (h : riB n ss = true) : ss.Pairwise (· < ·) ∧ (∀ z ∈ ss, 0 ≤ z ∧ z < (n : Int)) := by
  unfold riB at h
  rw [List.all_eq_true] at h
  have key : ∀ i, i < ss.length → (0 ≤ ss.getD i 0 ∧ ss.getD i 0 ≤ (n : Int) - 1) ∧ (0 < i → ss.getD (i - 1) 0 < ss.getD i 0) := by
    intro i hi
    have := h i (List.mem_range.2 hi)
    unfold riAt at this
    rw [Bool.and_eq_true, Bool.or_eq_true, decide_eq_true_iff, decide_eq_true_iff, decide_eq_true_iff] at this
    exact ⟨this.1, fun h0 => by rcases this.2 with h | h; · omega
                                · exact h⟩
  refine ⟨pairwise_up fun i hi h0 => (key i hi).2 h0, fun z hz => ?_⟩
  obtain ⟨i, hi, rfl⟩ := mem_getD hz
  have := (key i hi).1
  omega
theorem rise_nodup {n : Nat} {ss : List Int} (h : riB n ss = true) : ss.Nodup := (rise_up h).1.imp (fun h e => by omega)
theorem rise_nodes {n : Nat} {ss : List Int} (h : riB n ss = true) : ss = nodesW (fun x => inL ss (x : Int)) n := nodesW_snoc ss n (rise_up h).1 (rise_up h).2
theorem rise_len {n : Nat} {ss : List Int} (h : riB n ss = true) : ss.length ≤ n := by rw [rise_nodes h]; exact nodesW_len _ _
theorem Stop.up {ps ws ss : List Int} (s : Stop ps ws ss) : ∀ x, x < ps.length → (cntT ps ss).getD x 0 ≤ 1 := by
  refine down_ind s.good (fun x hx hl => by rw [s.one x hx hl]; omega) (fun x y hx hy h0 e ih => ?_)
  have := cnt_mono (ss := ss) (ParOk.of s.good) h0 hy
  rw [e] at this
  omega
theorem Stop.on {ps ws ss : List Int} (s : Stop ps ws ss) {x : Nat} (hx : x < ps.length) : onW ps ss x = if (nodT ps ss).getD x 0 < 0 then [] else [(nodT ps ss).getD x 0] := on_nod (ParOk.of s.good) (rise_nodup s.rise) x hx (s.up x hx)
theorem Stop.end_ {ps ws ss : List Int} (s : Stop ps ws ss) {x : Nat} (hx : x < ps.length) (hl : leafB ps x = true) : onW ps ss x = [(nodT ps ss).getD x 0] ∧ 0 ≤ (nodT ps ss).getD x 0 ∧ (nodT ps ss).getD x 0 ≤ (x : Int) := by
  have h1 := s.on hx
  have h2 := on_cnt (ParOk.of s.good) (rise_nodup s.rise) x hx
  rw [s.one x hx hl] at h2
  have h3 := nod_bd ss (ParOk.of s.good) x hx
  by_cases h : (nodT ps ss).getD x 0 < 0
  · rw [h1, if_pos h] at h2; simp at h2
  · rw [if_neg h] at h1; exact ⟨h1, by omega, h3.2⟩
/-- The model's test. -/
theorem stop_ends {ps ws ss : List Int} (hg : goodT ps ws = true) (hr : riB ps.length ss = true) : stopB ps ws ss = (endsT ps).all fun e => decide ((onW ps ss e.toNat).length = 1) := by
  have g := Good.of hg
  rw [Bool.eq_iff_iff, stopB_iff, List.all_eq_true]
  have hc := on_cnt (ParOk.of g) (rise_nodup hr)
  constructor
  · intro s e he
    obtain ⟨x, rfl, hx, hl⟩ := nodesW_mem he
    have h1 := hc x hx
    rw [s.one x hx hl] at h1
    rw [Int.toNat_natCast, decide_eq_true_iff]; omega
  · intro h
    refine ⟨g, hr, fun x hx hl => ?_⟩
    have hm : (x : Int) ∈ endsT ps := by
      rw [endsT_eq]
      unfold nodesW
      exact List.mem_map.2 ⟨x, List.mem_filter.2 ⟨List.mem_range.2 hx, hl⟩, rfl⟩
    have h1 := h _ hm
    rw [Int.toNat_natCast, decide_eq_true_iff] at h1
    have h2 := hc x hx
    rw [h1] at h2
    rw [← h2]; rfl
end Go.Proofs.Ytfpckfameebdnaa
