/- Markets, told by lists. No program is spoken of here. -/
import Derived.Test.YtmidlabgmmejbaaPassP
import Derived.Test.YtmidlabgmmejbaaProcI
import Derived.Test.YtmidlabgmmejbaaGainP
import Derived.Test.YtmidlabgmmejbaaEndsL
namespace Go.Proofs.Ytmidlabgmmejbaa
set_option linter.unusedVariables false
/-- All prices lie within bounds. -/
def pricesB (cs : List Int) : Bool := cs.all fun z => decide (0 ≤ z ∧ z ≤ 20)
theorem prices_at {cs : List Int} (h : pricesB cs = true) {i : Nat} (hi : i < cs.length) : 0 ≤ cs.getD i 0 ∧ cs.getD i 0 ≤ 20 := by
  unfold pricesB at h
  rw [List.all_eq_true] at h
  exact of_decide_eq_true (h _ (getD_mem hi))
theorem prices_yes {cs : List Int} (h : ∀ i, i < cs.length → 0 ≤ cs.getD i 0 ∧ cs.getD i 0 ≤ 20) : pricesB cs = true := by
  unfold pricesB
  rw [List.all_eq_true]
  intro z hz
  obtain ⟨i, hi, e⟩ := List.getElem_of_mem hz
  have := h i hi
  rw [List.getD_eq_getElem?_getD, List.getElem?_eq_getElem hi] at this
  rw [decide_eq_true_iff, ← e]; exact this
theorem prices_no {cs : List Int} {i : Nat} (hi : i < cs.length) (h : ¬ (0 ≤ cs.getD i 0 ∧ cs.getD i 0 ≤ 20)) : pricesB cs = false := by
  cases hb : pricesB cs
  · rfl
  · exact absurd (prices_at hb hi) h
/-- The lists are a market. -/
def goodM (ps ws cs : List Int) : Bool := goodT ps ws && (decide (cs.length = ps.length) && pricesB cs)
structure Mkt (ps ws cs : List Int) : Prop where
  good : Good ps ws
  len : cs.length = ps.length
  bd : ∀ i, i < cs.length → 0 ≤ cs.getD i 0 ∧ cs.getD i 0 ≤ 20
theorem goodM_iff {ps ws cs : List Int} : goodM ps ws cs = true ↔ Mkt ps ws cs := by
  unfold goodM
  rw [Bool.and_eq_true, Bool.and_eq_true, decide_eq_true_iff]
  constructor
  · rintro ⟨a, b, c⟩; exact ⟨Good.of a, b, fun i hi => prices_at c hi⟩
  · intro p; exact ⟨(goodT_iff _ _).2 p.good, p.len, prices_yes p.bd⟩
/-- A price outside of bounds. -/
def outP (z : Int) : Bool := !decide (0 ≤ z ∧ z ≤ 20)
theorem any_outP (cs : List Int) : cs.any outP = !pricesB cs := by
  unfold pricesB outP
  rw [List.not_all_eq_any_not]
/-- Something is held at an end. -/
def heldE (ws hs : List Int) (x : Nat) : Bool := decide (0 < ws.getD x 0) && (hs.getD x 0 != 0)
def zeroE (ws hs : List Int) (n : Nat) : Bool := (List.range n).all fun x => !heldE ws hs x
theorem zeroE_iff {ws hs : List Int} {n : Nat} : zeroE ws hs n = true ↔ ∀ x, x < n → heldE ws hs x = false := by
  unfold zeroE
  rw [List.all_eq_true]
  simp only [List.mem_range, Bool.not_eq_true']
theorem zeroE_no {ws hs : List Int} {n x : Nat} (hx : x < n) (h : heldE ws hs x = true) : zeroE ws hs n = false := by
  cases hb : zeroE ws hs n
  · rfl
  · have := zeroE_iff.1 hb x hx; rw [h] at this; cases this
theorem zeroE_nodes (ws hs : List Int) (n : Nat) : zeroE ws hs n = decide ((nodesW (heldE ws hs) n).length = 0) := by
  rw [Bool.eq_iff_iff, decide_eq_true_iff, zeroE_iff, List.length_eq_zero_iff]
  unfold nodesW
  rw [List.map_eq_nil_iff, List.filter_eq_nil_iff]
  simp only [List.mem_range, Bool.not_eq_true]
/-- Holdings of a market. -/
def holdB (ps ws cs hs : List Int) : Bool := goodM ps ws cs && (decide (hs.length = cs.length) && (withinB 99 hs && zeroE ws hs cs.length))
structure Hold (ps ws cs hs : List Int) : Prop where
  mkt : Mkt ps ws cs
  len : hs.length = cs.length
  bd : ∀ i, i < hs.length → -99 ≤ hs.getD i 0 ∧ hs.getD i 0 ≤ 99
  zero : ∀ x, x < cs.length → heldE ws hs x = false
theorem holdB_iff {ps ws cs hs : List Int} : holdB ps ws cs hs = true ↔ Hold ps ws cs hs := by
  unfold holdB
  rw [Bool.and_eq_true, Bool.and_eq_true, Bool.and_eq_true, decide_eq_true_iff]
  constructor
  · rintro ⟨a, b, c, d⟩; exact ⟨goodM_iff.1 a, b, fun i hi => within_at c hi, zeroE_iff.1 d⟩
  · intro p; exact ⟨goodM_iff.2 p.mkt, p.len, within_yes p.bd, zeroE_iff.2 p.zero⟩
/-- The start is a number that may be paid. -/
def startB (s : Int) : Bool := decide (-999 ≤ s ∧ s ≤ 999)
/-- What a step adds to the wealth. -/
def wlD (ps cs hs : List Int) (x : Nat) : Int := hs.getD (ps.getD x 0).toNat 0 * (cs.getD x 0 - cs.getD (ps.getD x 0).toNat 0)
def wlS (ps cs hs : List Int) : Int → Nat → Int := fun a x => if x = 0 then a else a + wlD ps cs hs x
/-- The wealth at each node. -/
def wlT (ps cs hs : List Int) (s : Int) : List Int := passT ps s (wlS ps cs hs)
theorem wlT_len (ps cs hs : List Int) (s : Int) : (wlT ps cs hs s).length = ps.length := passT_len _ _ _
theorem wlD_bd {ps ws cs hs : List Int} (s : Hold ps ws cs hs) {x : Nat} (h0 : 0 < x) (hx : x < ps.length) : (wlD ps cs hs x).natAbs ≤ 1980 := by
  have hl := par_lt (ParOk.of s.mkt.good) h0 hx
  have hl2 := s.mkt.len
  have hl3 := s.len
  have h1 := s.bd (ps.getD x 0).toNat (by omega)
  have h2 := s.mkt.bd x (by omega)
  have h3 := s.mkt.bd (ps.getD x 0).toNat (by omega)
  exact mul_abs (a := 99) (b := 20) (by omega) (by omega)
theorem wl_step {ps ws cs hs : List Int} (s : Hold ps ws cs hs) (a : Int) {x : Nat} (h0 : 0 < x) (hx : x < ps.length) : (wlT ps cs hs a).getD x 0 = (wlT ps cs hs a).getD (ps.getD x 0).toNat 0 + wlD ps cs hs x := by
  unfold wlT
  rw [passT_step ps a _ h0 hx (par_lt (ParOk.of s.mkt.good) h0 hx)]
  unfold wlS
  rw [if_neg (by omega)]
theorem wl_zero {ps ws cs hs : List Int} (s : Hold ps ws cs hs) (a : Int) : (wlT ps cs hs a).getD 0 0 = a := by
  unfold wlT
  rw [passT_zero ps a _ s.mkt.good.n1]; rfl
theorem wl_bd {ps ws cs hs : List Int} (s : Hold ps ws cs hs) {a : Int} (ha : -999 ≤ a ∧ a ≤ 999) : ∀ x, x < ps.length → ((wlT ps cs hs a).getD x 0).natAbs ≤ 999 + x * 1980 := by
  refine tree_ind (ParOk.of s.mkt.good) (fun h => by rw [wl_zero s]; omega) (fun x h0 hx ih => ?_)
  rw [wl_step s a h0 hx]
  have hl := par_lt (ParOk.of s.mkt.good) h0 hx
  have h2 := wlD_bd s h0 hx
  have h3 : (ps.getD x 0).toNat * 1980 ≤ (x - 1) * 1980 := Nat.mul_le_mul_right _ (by omega)
  have h4 : x * 1980 = (x - 1) * 1980 + 1980 := by rw [← Nat.succ_mul]; congr 1; omega
  omega
def ifHold (ps ws cs hs : List Int) (s : Int) (L : List Int) : List Int := if (startB s && holdB ps ws cs hs) = true then L else []
theorem wl_len (ps ws cs hs : List Int) (s : Int) : (ifHold ps ws cs hs s (wlT ps cs hs s)).length ≤ 1048576 := by
  unfold ifHold
  split
  · rename_i h
    rw [Bool.and_eq_true] at h
    rw [wlT_len]
    have := (holdB_iff.1 h.2).mkt.good.n24
    omega
  · simp
/-- The claims are for the ends. -/
def claimsB (ps ws cs ds : List Int) : Bool := goodM ps ws cs && (decide (ds.length = (endsT ps).length) && withinB 99 ds)
/-- Prices of the ends. -/
def endP (ps cs : List Int) (f : Int → Int) : List Int := (endsT ps).map fun z => f (cs.getD z.toNat 0)
def ifM (ps ws cs : List Int) (L : List Int) : List Int := if goodM ps ws cs = true then L else []
theorem endP_len (ps ws cs : List Int) (f : Int → Int) : (ifM ps ws cs (endP ps cs f)).length ≤ 1048576 := by
  unfold ifM
  split
  · rename_i h
    unfold endP
    rw [List.length_map]
    have := (goodM_iff.1 h).good.n24
    have := ends_le ps
    omega
  · simp
end Go.Proofs.Ytmidlabgmmejbaa
