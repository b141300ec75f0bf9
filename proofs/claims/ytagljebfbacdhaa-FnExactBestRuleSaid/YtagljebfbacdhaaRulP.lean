/- The first nodes on the ways that a test takes, and rules. No program is spoken of here. -/
import Derived.Test.YtagljebfbacdhaaEntP
import Derived.Test.YtagljebfbacdhaaStopP
namespace Go.Proofs.Ytagljebfbacdhaa
set_option linter.unusedVariables false
def fstS (p : Nat → Bool) : Int → Nat → Int := fun a x => if a = -1 ∧ p x = true then (x : Int) else a
/-- The first node at or above a node that a test takes, or -1. -/
def fstT (ps : List Int) (p : Nat → Bool) : List Int := passT ps (-1) (fstS p)
theorem fst_zero {ps : List Int} (h : 0 < ps.length) (p : Nat → Bool) : (fstT ps p).getD 0 0 = fstS p (-1) 0 := passT_zero ps (-1) _ h
theorem fst_step {ps : List Int} (hp : ParOk ps) (p : Nat → Bool) {x : Nat} (h0 : 0 < x) (hx : x < ps.length) : (fstT ps p).getD x 0 = fstS p ((fstT ps p).getD (ps.getD x 0).toNat 0) x := passT_step ps (-1) _ h0 hx (par_lt hp h0 hx)
theorem fst_bd {ps : List Int} (hp : ParOk ps) (p : Nat → Bool) : ∀ x, x < ps.length → -1 ≤ (fstT ps p).getD x 0 ∧ (fstT ps p).getD x 0 ≤ (x : Int) := by
  refine tree_ind hp (fun h => ?_) (fun x h0 hx ih => ?_)
  · rw [fst_zero h]
    unfold fstS
    split <;> simp
  · have hl := par_lt hp h0 hx
    rw [fst_step hp p h0 hx]
    unfold fstS
    split <;> omega
theorem fst_congr {ps : List Int} (hp : ParOk ps) {p q : Nat → Bool} (h : ∀ x, x < ps.length → p x = q x) : ∀ x, x < ps.length → (fstT ps p).getD x 0 = (fstT ps q).getD x 0 := by
  refine tree_ind hp (fun h0 => ?_) (fun x h0 hx ih => ?_)
  · rw [fst_zero h0, fst_zero h0]
    unfold fstS
    rw [h 0 h0]
  · rw [fst_step hp p h0 hx, fst_step hp q h0 hx, ih]
    unfold fstS
    rw [h x hx]
/-- What a first node is. -/
theorem fst_self {ps : List Int} (hp : ParOk ps) (p : Nat → Bool) : ∀ x, x < ps.length → 0 ≤ (fstT ps p).getD x 0 → (fstT ps p).getD ((fstT ps p).getD x 0).toNat 0 = (fstT ps p).getD x 0 := by
  refine tree_ind hp (fun h h' => ?_) (fun x h0 hx ih h' => ?_)
  · have := (fst_bd hp p 0 h).2
    have e : (fstT ps p).getD 0 0 = 0 := by omega
    rw [e, Int.toNat_zero, e]
  · have hs := fst_step hp p h0 hx
    unfold fstS at hs
    by_cases h : (fstT ps p).getD (ps.getD x 0).toNat 0 = -1 ∧ p x = true
    · rw [if_pos h] at hs
      rw [hs, Int.toNat_natCast, hs]
    · rw [if_neg h] at hs
      rw [hs] at h' ⊢
      exact ih h'
theorem fst_hit {ps : List Int} (hp : ParOk ps) (p : Nat → Bool) : ∀ x, x < ps.length → 0 ≤ (fstT ps p).getD x 0 → p ((fstT ps p).getD x 0).toNat = true := by
  refine tree_ind hp (fun h h' => ?_) (fun x h0 hx ih h' => ?_)
  · have hs := fst_zero h p
    unfold fstS at hs
    by_cases h1 : p 0 = true
    · rw [if_pos ⟨rfl, h1⟩] at hs
      rw [hs, Int.toNat_natCast]; exact h1
    · rw [if_neg (fun h => h1 h.2)] at hs
      omega
  · have hs := fst_step hp p h0 hx
    unfold fstS at hs
    by_cases h : (fstT ps p).getD (ps.getD x 0).toNat 0 = -1 ∧ p x = true
    · rw [if_pos h] at hs
      rw [hs, Int.toNat_natCast]; exact h.2
    · rw [if_neg h] at hs
      rw [hs] at h' ⊢
      exact ih h'
theorem fst_leaf {ps : List Int} (hp : ParOk ps) {p : Nat → Bool} {x : Nat} (hx : x < ps.length) (hh : p x = true) : 0 ≤ (fstT ps p).getD x 0 := by
  rcases Nat.eq_zero_or_pos x with h | h
  · subst h
    rw [fst_zero hx]; unfold fstS; rw [if_pos ⟨rfl, hh⟩]; omega
  · rw [fst_step hp p h hx]
    unfold fstS
    have := fst_bd hp p (ps.getD x 0).toNat (by have := par_lt hp h hx; omega)
    split
    · omega
    · rename_i hn
      have : ¬ (fstT ps p).getD (ps.getD x 0).toNat 0 = -1 := fun e => hn ⟨e, hh⟩
      omega
/-- Each first node is one on the way to an end. -/
theorem fst_down {ps ws : List Int} (g : Good ps ws) (p : Nat → Bool) : ∀ x, x < ps.length → 0 ≤ (fstT ps p).getD x 0 → ∃ e, e < ps.length ∧ leafB ps e = true ∧ (fstT ps p).getD e 0 = (fstT ps p).getD x 0 := by
  refine down_ind g (fun x hx hl h => ⟨x, hx, hl, rfl⟩) (fun x y hx hy h0 e ih h => ?_)
  have hs := fst_step (ParOk.of g) p h0 hy
  rw [e] at hs
  unfold fstS at hs
  rw [if_neg (by omega)] at hs
  obtain ⟨z, h1, h2, h3⟩ := ih (by rw [hs]; exact h)
  exact ⟨z, h1, h2, by rw [h3, hs]⟩
/-- The nodes that are first on their way. -/
def fstL (ps : List Int) (p : Nat → Bool) : List Int := nodesW (fun x => decide ((fstT ps p).getD x 0 = (x : Int))) ps.length
theorem fstL_congr {ps : List Int} (hp : ParOk ps) {p q : Nat → Bool} (h : ∀ x, x < ps.length → p x = q x) : fstL ps p = fstL ps q := nodesW_congr fun x hx => by rw [fst_congr hp h x hx]
theorem ent_fst (ps zs : List Int) (lv : Int) : entL ps zs lv = fstL ps (hitB ps zs lv) := rfl
def fstC (ps : List Int) (p : Nat → Bool) : List Int := (endsT ps).map fun e => (fstT ps p).getD e.toNat 0
theorem fstC_len (ps : List Int) (p : Nat → Bool) : (fstC ps p).length = (endsT ps).length := by simp [fstC]
theorem fstC_at (ps : List Int) (p : Nat → Bool) {k x : Nat} (hk : k < (endsT ps).length) (hx : (x : Int) = (endsT ps).getD k 0) : (fstC ps p).getD k 0 = (fstT ps p).getD x 0 := by
  have e : (endsT ps).getD k 0 = (endsT ps)[k] := by rw [List.getD_eq_getElem?_getD, List.getElem?_eq_getElem hk]; rfl
  unfold fstC
  rw [List.getD_eq_getElem?_getD, List.getElem?_map, List.getElem?_eq_getElem hk]
  show (fstT ps p).getD ((endsT ps)[k]).toNat 0 = _
  rw [← e, ← hx, Int.toNat_natCast]
theorem fst_list {ps ws : List Int} (g : Good ps ws) {p : Nat → Bool} (hl : ∀ x, x < ps.length → leafB ps x = true → 0 ≤ (fstT ps p).getD x 0) : fstL ps p = nodesW (fun x => inL (fstC ps p) (x : Int)) ps.length := by
  refine nodesW_congr fun x hx => ?_
  have hp := ParOk.of g
  unfold inL fstC
  rw [Bool.eq_iff_iff, decide_eq_true_iff, decide_eq_true_iff, List.mem_map]
  constructor
  · intro h
    obtain ⟨e, h1, h2, h3⟩ := fst_down g p x hx (by omega)
    refine ⟨(e : Int), ?_, by rw [Int.toNat_natCast, h3, h]⟩
    rw [endsT_eq]
    unfold nodesW
    exact List.mem_map.2 ⟨e, List.mem_filter.2 ⟨List.mem_range.2 h1, h2⟩, rfl⟩
  · rintro ⟨e, he, h⟩
    obtain ⟨y, rfl, hy, hy2⟩ := nodesW_mem he
    rw [Int.toNat_natCast] at h
    have h1 := fst_self hp p y hy (hl y hy hy2)
    rw [h, Int.toNat_natCast] at h1
    exact h1
/-- The search on the way. -/
def fstF (p : Nat → Bool) : Int → Int → Int := fun a z => if a = -1 ∧ p z.toNat = true then z else a
theorem fold_keep {p : Nat → Bool} {L : List Int} : ∀ {a : Int}, a ≠ -1 → L.foldl (fstF p) a = a := by
  induction L with
  | nil => intro a _; rfl
  | cons b t ih =>
    intro a ha
    rw [List.foldl_cons, show fstF p a b = a by unfold fstF; rw [if_neg (fun h => ha h.1)]]
    exact ih ha
theorem fold_none {p : Nat → Bool} {L : List Int} (h : ∀ j, j < L.length → p (L.getD j 0).toNat = false) (a : Int) : L.foldl (fstF p) a = a := by
  induction L generalizing a with
  | nil => rfl
  | cons b t ih =>
    have h0 := h 0 (by simp)
    simp only [List.getD_cons_zero] at h0
    rw [List.foldl_cons, show fstF p a b = a by unfold fstF; rw [h0, if_neg (by simp)]]
    exact ih (fun j hj => by have := h (j + 1) (by simpa using hj); simpa using this) a
theorem fold_found {p : Nat → Bool} {L : List Int} : ∀ {k : Nat}, k < L.length → (∀ j, j < k → p (L.getD j 0).toNat = false) → p (L.getD k 0).toNat = true → L.getD k 0 ≠ -1 → L.foldl (fstF p) (-1) = L.getD k 0 := by
  induction L with
  | nil => intro k hk; simp at hk
  | cons b t ih =>
    intro k hk hb he hn
    rw [List.foldl_cons]
    cases k with
    | zero =>
      simp only [List.getD_cons_zero] at he hn ⊢
      rw [show fstF p (-1) b = b by unfold fstF; rw [if_pos ⟨rfl, he⟩]]
      exact fold_keep hn
    | succ k =>
      have h0 := hb 0 (by omega)
      simp only [List.getD_cons_zero] at h0
      rw [show fstF p (-1) b = -1 by unfold fstF; rw [h0, if_neg (by simp)]]
      have := ih (k := k) (by simpa using hk) (fun j hj => by have := hb (j + 1) (by omega); simpa using this) (by simpa using he) (by simpa using hn)
      simpa using this
theorem fst_way {ps : List Int} (hp : ParOk ps) (p : Nat → Bool) {x : Nat} (hx : x < ps.length) : (fstT ps p).getD x 0 = (wayT ps (x : Int)).foldl (fstF p) (-1) := (fold_way hp (-1) (fstF p) x hx).symm
theorem fst_search {ps : List Int} (hp : ParOk ps) {p : Nat → Bool} {x : Nat} (hx : x < ps.length) {k : Nat} (hk : k < (wayT ps (x : Int)).length)
    (hb : ∀ j, j < k → p ((wayT ps (x : Int)).getD j 0).toNat = false) (he : p ((wayT ps (x : Int)).getD k 0).toNat = true) : (fstT ps p).getD x 0 = (wayT ps (x : Int)).getD k 0 := by
  rw [fst_way hp p hx]
  have := (way_all hp x hx).node k hk
  exact fold_found hk hb he (by omega)
theorem fst_none {ps : List Int} (hp : ParOk ps) {p : Nat → Bool} {x : Nat} (hx : x < ps.length) (hb : ∀ j, j < (wayT ps (x : Int)).length → p ((wayT ps (x : Int)).getD j 0).toNat = false) : (fstT ps p).getD x 0 = -1 := by
  rw [fst_way hp p hx]
  exact fold_none hb _
theorem cnt_zero {ps : List Int} (ss : List Int) (h : 0 < ps.length) : (cntT ps ss).getD 0 0 = if inL ss ((0 : Nat) : Int) = true then 0 + 1 else 0 := passT_zero ps 0 _ h
theorem cnt_step {ps : List Int} (hp : ParOk ps) (ss : List Int) {x : Nat} (h0 : 0 < x) (hx : x < ps.length) : (cntT ps ss).getD x 0 = if inL ss (x : Int) = true then (cntT ps ss).getD (ps.getD x 0).toNat 0 + 1 else (cntT ps ss).getD (ps.getD x 0).toNat 0 := passT_step ps 0 _ h0 hx (par_lt hp h0 hx)
theorem nod_zero {ps : List Int} (ss : List Int) (h : 0 < ps.length) : (nodT ps ss).getD 0 0 = if inL ss ((0 : Nat) : Int) = true then ((0 : Nat) : Int) else -1 := passT_zero ps (-1) _ h
theorem nod_step {ps : List Int} (hp : ParOk ps) (ss : List Int) {x : Nat} (h0 : 0 < x) (hx : x < ps.length) : (nodT ps ss).getD x 0 = if inL ss (x : Int) = true then (x : Int) else (nodT ps ss).getD (ps.getD x 0).toNat 0 := passT_step ps (-1) _ h0 hx (par_lt hp h0 hx)
/-- The first node of a list on the way. -/
def frsT (ps ss : List Int) : List Int := fstT ps (fun x => inL ss (x : Int))
theorem frs_zero {ps : List Int} (ss : List Int) (h : 0 < ps.length) : (frsT ps ss).getD 0 0 = if inL ss ((0 : Nat) : Int) = true then ((0 : Nat) : Int) else -1 := by
  unfold frsT
  rw [fst_zero h]
  unfold fstS
  by_cases h1 : inL ss ((0 : Nat) : Int) = true
  · rw [if_pos ⟨rfl, h1⟩, if_pos h1]
  · rw [if_neg (fun h => h1 h.2), if_neg h1]
theorem frs_step {ps : List Int} (hp : ParOk ps) (ss : List Int) {x : Nat} (h0 : 0 < x) (hx : x < ps.length) : (frsT ps ss).getD x 0 = if (frsT ps ss).getD (ps.getD x 0).toNat 0 = -1 ∧ inL ss (x : Int) = true then (x : Int) else (frsT ps ss).getD (ps.getD x 0).toNat 0 := fst_step hp _ h0 hx
theorem frs_nod {ps : List Int} (hp : ParOk ps) (ss : List Int) : ∀ x, x < ps.length → ((cntT ps ss).getD x 0 ≤ 1 → (frsT ps ss).getD x 0 = (nodT ps ss).getD x 0) ∧ ((cntT ps ss).getD x 0 = 0 → (nodT ps ss).getD x 0 = -1) := by
  refine tree_ind hp (fun h => ?_) (fun x h0 hx ih => ?_)
  · rw [frs_zero ss h, nod_zero ss h, cnt_zero ss h]
    refine ⟨fun _ => rfl, fun h => ?_⟩
    split at h
    · omega
    · rename_i h1; rw [if_neg h1]
  · have hl := par_lt hp h0 hx
    have b := cnt_bd ss hp (ps.getD x 0).toNat (by omega)
    rw [frs_step hp ss h0 hx, nod_step hp ss h0 hx, cnt_step hp ss h0 hx]
    obtain ⟨i1, i2⟩ := ih
    by_cases h : inL ss (x : Int) = true
    · simp only [h, if_true, and_true]
      refine ⟨fun hc => ?_, fun hc => by omega⟩
      have e0 : (cntT ps ss).getD (ps.getD x 0).toNat 0 = 0 := by omega
      rw [if_pos (by rw [i1 (by omega), i2 e0])]
    · simp only [h, if_false, and_false, Bool.false_eq_true]
      exact ⟨i1, i2⟩
theorem Stop.frs {ps ws ss : List Int} (s : Stop ps ws ss) {x : Nat} (hx : x < ps.length) : (frsT ps ss).getD x 0 = (nodT ps ss).getD x 0 := (frs_nod (ParOk.of s.good) ss x hx).1 (s.up x hx)
theorem nod_self {ps : List Int} (hp : ParOk ps) {ss : List Int} {x : Nat} (hx : x < ps.length) (h : inL ss (x : Int) = true) : (nodT ps ss).getD x 0 = (x : Int) := by
  rcases Nat.eq_zero_or_pos x with e | e
  · subst e; rw [nod_zero ss hx, if_pos h]
  · rw [nod_step hp ss e hx, if_pos h]
theorem frs_cnt {ps : List Int} (hp : ParOk ps) {ss : List Int} (hs : ∀ x : Nat, x < ps.length → inL ss (x : Int) = true → (frsT ps ss).getD x 0 = (x : Int)) : ∀ x, x < ps.length → (cntT ps ss).getD x 0 = if (frsT ps ss).getD x 0 < 0 then 0 else 1 := by
  refine tree_ind hp (fun h => ?_) (fun x h0 hx ih => ?_)
  · rw [cnt_zero ss h, frs_zero ss h]
    by_cases h1 : inL ss ((0 : Nat) : Int) = true
    · rw [if_pos h1, if_pos h1, if_neg (by omega)]; rfl
    · rw [if_neg h1, if_neg h1, if_pos (by omega)]
  · have hl := par_lt hp h0 hx
    have b := fst_bd hp (fun x => inL ss (x : Int)) (ps.getD x 0).toNat (by omega)
    have hb : -1 ≤ (frsT ps ss).getD (ps.getD x 0).toNat 0 ∧ (frsT ps ss).getD (ps.getD x 0).toNat 0 ≤ (((ps.getD x 0).toNat : Nat) : Int) := b
    by_cases h : inL ss (x : Int) = true
    · have e := hs x hx h
      have f := frs_step hp ss h0 hx
      rw [cnt_step hp ss h0 hx, if_pos h, ih, e]
      rw [e] at f
      by_cases h1 : (frsT ps ss).getD (ps.getD x 0).toNat 0 = -1
      · rw [if_pos (by omega), if_neg (by omega)]; rfl
      · rw [if_neg (fun h => h1 h.1)] at f
        omega
    · have f := frs_step hp ss h0 hx
      rw [if_neg (fun k => h k.2)] at f
      rw [cnt_step hp ss h0 hx, if_neg h, ih, f]
theorem stop_of {ps ws ss : List Int} (g : Good ps ws) (hr : riB ps.length ss = true) (he : ∀ x : Nat, x < ps.length → leafB ps x = true → 0 ≤ (frsT ps ss).getD x 0) (hs : ∀ x : Nat, x < ps.length → inL ss (x : Int) = true → (frsT ps ss).getD x 0 = (x : Int)) : Stop ps ws ss := by
  refine ⟨g, hr, fun x hx hl => ?_⟩
  have := he x hx hl
  rw [frs_cnt (ParOk.of g) hs x hx, if_neg (by omega)]
theorem Stop.leaf0 {ps ws ss : List Int} (s : Stop ps ws ss) {x : Nat} (hx : x < ps.length) (hl : leafB ps x = true) : 0 ≤ (frsT ps ss).getD x 0 := by
  rw [s.frs hx]; exact (s.end_ hx hl).2.1
theorem Stop.self {ps ws ss : List Int} (s : Stop ps ws ss) {x : Nat} (hx : x < ps.length) (h : inL ss (x : Int) = true) : (frsT ps ss).getD x 0 = (x : Int) := by
  rw [s.frs hx]; exact nod_self (ParOk.of s.good) hx h
/-- The model's tests. -/
theorem rule_no_end {ps ws ss : List Int} {x : Nat} (hx : x < ps.length) (hl : leafB ps x = true) (h : (frsT ps ss).getD x 0 < 0) : stopB ps ws ss = false := by
  cases hb : stopB ps ws ss
  · rfl
  · have := (stopB_iff.1 hb).leaf0 hx hl; omega
theorem rule_no_rise {ps ws ss : List Int} (h : riB ps.length ss = false) : stopB ps ws ss = false := by
  cases hb : stopB ps ws ss
  · rfl
  · rw [(stopB_iff.1 hb).rise] at h; cases h
theorem inL_at {l : List Int} {i : Nat} (hi : i < l.length) : inL l (l.getD i 0) = true := by
  unfold inL
  rw [decide_eq_true_iff, List.getD_eq_getElem?_getD, List.getElem?_eq_getElem hi]
  exact List.getElem_mem hi
theorem rule_no_node {ps ws ss : List Int} {i x : Nat} (hi : i < ss.length) (hx : x < ps.length) (e : ss.getD i 0 = (x : Int)) (h : (frsT ps ss).getD x 0 ≠ (x : Int)) : stopB ps ws ss = false := by
  cases hb : stopB ps ws ss
  · rfl
  · exact absurd ((stopB_iff.1 hb).self hx (by rw [← e]; exact inL_at hi)) h
theorem rule_yes {ps ws ss : List Int} (g : Good ps ws) (hr : riB ps.length ss = true) (he : ∀ k, k < (endsT ps).length → 0 ≤ (frsT ps ss).getD ((endsT ps).getD k 0).toNat 0) (hs : ∀ i, i < ss.length → (frsT ps ss).getD (ss.getD i 0).toNat 0 = ss.getD i 0) : stopB ps ws ss = true := by
  refine stopB_iff.2 (stop_of g hr (fun x hx hl => ?_) (fun x hx h => ?_))
  · have hm : (x : Int) ∈ endsT ps := by
      rw [endsT_eq]
      unfold nodesW
      exact List.mem_map.2 ⟨x, List.mem_filter.2 ⟨List.mem_range.2 hx, hl⟩, rfl⟩
    obtain ⟨k, hk, e⟩ := mem_getD hm
    have := he k hk
    rw [e, Int.toNat_natCast] at this
    exact this
  · unfold inL at h
    rw [decide_eq_true_iff] at h
    obtain ⟨i, hi, e⟩ := mem_getD h
    have := hs i hi
    rw [e, Int.toNat_natCast] at this
    exact this
theorem rule_at {n : Nat} {ss : List Int} (hr : riB n ss = true) {i : Nat} (hi : i < ss.length) : 0 ≤ ss.getD i 0 ∧ ss.getD i 0 < (n : Int) := by
  refine (rise_up hr).2 _ ?_
  rw [List.getD_eq_getElem?_getD, List.getElem?_eq_getElem hi]
  exact List.getElem_mem hi
end Go.Proofs.Ytagljebfbacdhaa
