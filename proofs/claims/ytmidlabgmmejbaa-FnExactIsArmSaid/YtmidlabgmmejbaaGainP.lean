/- Gains of stakes, told by lists. No program is spoken of here. -/
import Derived.Test.YtmidlabgmmejbaaPassP
import Derived.Test.YtmidlabgmmejbaaProcI
namespace Go.Proofs.Ytmidlabgmmejbaa
set_option linter.unusedVariables false
/-- Stakes on a process of a valid tree. -/
def stakeB (ps ws zs ks : List Int) : Bool := procB ps ws zs && (decide (ks.length = zs.length) && withinB 20 ks)
structure Stake (ps ws zs ks : List Int) : Prop where
  proc : Proc ps ws zs
  len : ks.length = zs.length
  bd : ∀ i, i < ks.length → -20 ≤ ks.getD i 0 ∧ ks.getD i 0 ≤ 20
theorem stakeB_iff {ps ws zs ks : List Int} : stakeB ps ws zs ks = true ↔ Stake ps ws zs ks := by
  unfold stakeB
  rw [Bool.and_eq_true, Bool.and_eq_true, decide_eq_true_iff]
  constructor
  · rintro ⟨a, b, c⟩; exact ⟨procB_iff.1 a, b, fun i hi => within_at c hi⟩
  · intro p; exact ⟨procB_iff.2 p.proc, p.len, within_yes p.bd⟩
/-- What a step gains. -/
def gainD (ps zs ks : List Int) (x : Nat) : Int := ks.getD (ps.getD x 0).toNat 0 * (zs.getD x 0 - zs.getD (ps.getD x 0).toNat 0)
def gainS (ps zs ks : List Int) : Int → Nat → Int := fun a x => if x = 0 then 0 else a + gainD ps zs ks x
def gainT (ps zs ks : List Int) : List Int := passT ps 0 (gainS ps zs ks)
theorem mul_abs {x y : Int} {a b : Nat} (hx : x.natAbs ≤ a) (hy : y.natAbs ≤ b) : (x * y).natAbs ≤ a * b := by
  rw [Int.natAbs_mul]; exact Nat.mul_le_mul hx hy
theorem gainD_bd {ps ws zs ks : List Int} (s : Stake ps ws zs ks) {x : Nat} (h0 : 0 < x) (hx : x < ps.length) : (gainD ps zs ks x).natAbs ≤ 39960 := by
  have hl := par_lt (ParOk.of s.proc.good) h0 hx
  have h1 := s.bd (ps.getD x 0).toNat (by have := s.len; have := s.proc.len; omega)
  have h2 := s.proc.bd x (by have := s.proc.len; omega)
  have h3 := s.proc.bd (ps.getD x 0).toNat (by have := s.proc.len; omega)
  exact mul_abs (a := 20) (b := 1998) (by omega) (by omega)
theorem gain_step {ps ws zs ks : List Int} (s : Stake ps ws zs ks) {x : Nat} (h0 : 0 < x) (hx : x < ps.length) : (gainT ps zs ks).getD x 0 = (gainT ps zs ks).getD (ps.getD x 0).toNat 0 + gainD ps zs ks x := by
  unfold gainT
  rw [passT_step ps 0 _ h0 hx (par_lt (ParOk.of s.proc.good) h0 hx)]
  unfold gainS
  rw [if_neg (by omega)]
theorem gain_zero {ps ws zs ks : List Int} (s : Stake ps ws zs ks) : (gainT ps zs ks).getD 0 0 = 0 := by
  unfold gainT
  rw [passT_zero ps 0 _ s.proc.good.n1]; rfl
theorem gain_bd {ps ws zs ks : List Int} (s : Stake ps ws zs ks) : ∀ x, x < ps.length → ((gainT ps zs ks).getD x 0).natAbs ≤ x * 39960 := by
  refine tree_ind (ParOk.of s.proc.good) (fun h => by rw [gain_zero s]; simp) (fun x h0 hx ih => ?_)
  rw [gain_step s h0 hx]
  have hl := par_lt (ParOk.of s.proc.good) h0 hx
  have h2 := gainD_bd s h0 hx
  have h3 : (ps.getD x 0).toNat * 39960 ≤ (x - 1) * 39960 := Nat.mul_le_mul_right _ (by omega)
  have h4 : x * 39960 = (x - 1) * 39960 + 39960 := by rw [← Nat.succ_mul]; congr 1; omega
  omega
theorem gainT_len (ps zs ks : List Int) : (gainT ps zs ks).length = ps.length := passT_len _ _ _
/-- The row while it is filled. -/
def fillH (T : List Int) (k : Nat) : List Int := T.take k ++ List.replicate (T.length - k) 0
theorem fillH_len (T : List Int) (k : Nat) : (fillH T k).length = T.length := by
  unfold fillH; rw [List.length_append, List.length_take, List.length_replicate]; omega
theorem fillH_all {T : List Int} {k : Nat} (h : T.length ≤ k) : fillH T k = T := by
  unfold fillH
  rw [List.take_of_length_le h, show T.length - k = 0 by omega]; simp
theorem fillH_zero (T : List Int) : fillH T 0 = List.replicate T.length 0 := by simp [fillH]
theorem fillH_at {T : List Int} {j k : Nat} (h : j < k) (hk : k ≤ T.length) : (fillH T k).getD j 0 = T.getD j 0 := by
  unfold fillH
  rw [getD_app_left (by rw [List.length_take]; omega), List.getD_eq_getElem?_getD, List.getD_eq_getElem?_getD, List.getElem?_take, if_pos h]
theorem fillH_set {T : List Int} {k : Nat} (h : k < T.length) : (fillH T k).set k (T.getD k 0) = fillH T (k + 1) := by
  unfold fillH
  have hl : (T.take k).length = k := by rw [List.length_take]; omega
  rw [List.set_append_right _ _ (by omega), hl, Nat.sub_self, List.take_succ_eq_append_getElem h, List.append_assoc]
  congr 1
  obtain ⟨m, hm⟩ : ∃ m, T.length - k = m + 1 := ⟨T.length - k - 1, by omega⟩
  rw [hm, show T.length - (k + 1) = m by omega, List.getD_eq_getElem?_getD, List.getElem?_eq_getElem h]
  rfl
theorem fillH_one {T : List Int} (h : 0 < T.length) (h0 : T.getD 0 0 = 0) : fillH T 1 = List.replicate T.length 0 := by
  rw [← fillH_set h, h0, fillH_zero]
  obtain ⟨m, hm⟩ : ∃ m, T.length = m + 1 := ⟨T.length - 1, by omega⟩
  rw [hm]; rfl
def ifStake (ps ws zs ks L : List Int) : List Int := if stakeB ps ws zs ks = true then L else []
theorem stake_len (ps ws zs ks : List Int) : (ifStake ps ws zs ks (gainT ps zs ks)).length ≤ 1048576 := by
  unfold ifStake
  split
  · rename_i h
    rw [gainT_len]
    have := (stakeB_iff.1 h).proc.good.n24
    omega
  · simp
end Go.Proofs.Ytmidlabgmmejbaa
