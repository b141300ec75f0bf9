/- NolP, NolI in one text. -/
import Derived.Test.YtagljebfbacdhaaRulP
import Derived.Test.YtagljebfbacdhaaPickP
import Derived.Test.YtagljebfbacdhaaPickL
namespace Go.Proofs.Ytagljebfbacdhaa
set_option linter.unusedVariables false
theorem one_early (a b : Int) : oneOf false a b = if a < b then a else b := rfl
/-- A rule is what its ends have. -/
theorem rule_nodes {ps ws a : List Int} (s : Stop ps ws a) : a = nodesW (fun x => inL ((endsT ps).map fun e => (nodT ps a).getD e.toNat 0) (x : Int)) ps.length := by
  have g := s.good
  have hp := ParOk.of g
  have e1 := rise_nodes s.rise
  have e2 : nodesW (fun x => inL a (x : Int)) ps.length = fstL ps (fun x => inL a (x : Int)) := by
    refine nodesW_congr fun x hx => ?_
    rw [Bool.eq_iff_iff, decide_eq_true_iff]
    constructor
    · intro h; exact s.self hx h
    · intro h
      have := fst_hit hp (fun x => inL a (x : Int)) x hx (by rw [h]; omega)
      rw [h, Int.toNat_natCast] at this
      exact this
  have e3 := fst_list g (p := fun x => inL a (x : Int)) (fun x hx hl => s.leaf0 hx hl)
  have e4 : fstC ps (fun x => inL a (x : Int)) = (endsT ps).map fun e => (nodT ps a).getD e.toNat 0 := by
    unfold fstC
    refine List.map_congr_left fun e he => ?_
    obtain ⟨x, rfl, hx, _⟩ := nodesW_mem he
    rw [Int.toNat_natCast]
    exact s.frs hx
  rw [e4] at e3
  rw [← e3, ← e2]
  exact e1
/-- What the first nodes of one rule tell of another one. -/
theorem nod_both {ps ws a b : List Int} (sa : Stop ps ws a) (sb : Stop ps ws b) : ∀ x, x < ps.length → 0 ≤ (nodT ps b).getD x 0 → inL a ((nodT ps b).getD x 0) = true → (nodT ps a).getD x 0 = (nodT ps b).getD x 0 := by
  have hp := ParOk.of sa.good
  refine tree_ind hp (fun h h1 h2 => ?_) (fun x h0 hx ih h1 h2 => ?_)
  · rw [nod_zero b h] at h1 h2 ⊢
    by_cases e : inL b ((0 : Nat) : Int) = true
    · rw [if_pos e] at h2 ⊢
      rw [nod_zero a h, if_pos h2]
    · rw [if_neg e] at h1; omega
  · have hl := par_lt hp h0 hx
    rw [nod_step hp b h0 hx] at h1 h2 ⊢
    by_cases e : inL b (x : Int) = true
    · rw [if_pos e] at h2 ⊢
      exact nod_self hp hx h2
    · rw [if_neg e] at h1 h2 ⊢
      have i := ih h1 h2
      rw [nod_step hp a h0 hx]
      by_cases e2 : inL a (x : Int) = true
      · have c1 := sa.up x hx
        rw [cnt_step hp a h0 hx, if_pos e2] at c1
        have c2 := cnt_bd a hp (ps.getD x 0).toNat (by omega)
        have c3 := (frs_nod hp a (ps.getD x 0).toNat (by omega)).2 (by omega)
        omega
      · rw [if_neg e2, i]
theorem no_later {ps ws a b : List Int} (sa : Stop ps ws a) (sb : Stop ps ws b) : pickT ps a b false = a ↔ ∀ k, k < (endsT ps).length → (nodT ps a).getD ((endsT ps).getD k 0).toNat 0 ≤ (nodT ps b).getD ((endsT ps).getD k 0).toNat 0 := by
  constructor
  · intro h k hk
    obtain ⟨x, h1, h2, h3⟩ := ends_in hk
    rw [← h1, Int.toNat_natCast]
    rcases Int.lt_or_le ((nodT ps b).getD x 0) ((nodT ps a).getD x 0) with hlt | hle
    · exfalso
      have hb0 := (sb.end_ h2 h3).2
      have pc := pickC_at ps a b false hk
      rw [← h1, Int.toNat_natCast, one_early, if_neg (by omega)] at pc
      have hm : inL a ((nodT ps b).getD x 0) = true := by
        obtain ⟨y, hy⟩ : ∃ y : Nat, (nodT ps b).getD x 0 = (y : Int) := ⟨((nodT ps b).getD x 0).toNat, by omega⟩
        rw [← h, hy]
        unfold inL
        rw [decide_eq_true_iff]
        unfold pickT nodesW
        refine List.mem_map.2 ⟨y, List.mem_filter.2 ⟨List.mem_range.2 (by omega), ?_⟩, rfl⟩
        rw [← hy, ← pc]
        exact inL_at (by rw [pickC_len]; exact hk)
      have := nod_both sa sb x h2 (by omega) hm
      omega
    · exact hle
  · intro h
    have e : pickC ps a b false = (endsT ps).map fun e => (nodT ps a).getD e.toNat 0 := by
      unfold pickC
      refine List.map_congr_left fun e he => ?_
      obtain ⟨k, hk, rfl⟩ := mem_getD he
      have := h k hk
      rw [one_early]
      split
      · rfl
      · omega
    unfold pickT
    rw [e]
    exact (rule_nodes sa).symm
/-- Whether a rule is no later than another one. -/
def nolB (ps ws a b : List Int) : Bool := twoB ps ws a b && decide (pickT ps a b false = a)
theorem nol_no {ps ws a b : List Int} (sa : Stop ps ws a) (sb : Stop ps ws b) {k : Nat} (hk : k < (endsT ps).length) (h : (nodT ps b).getD ((endsT ps).getD k 0).toNat 0 < (nodT ps a).getD ((endsT ps).getD k 0).toNat 0) : nolB ps ws a b = false := by
  unfold nolB
  rw [decide_eq_false (fun e => by have := (no_later sa sb).1 e k hk; omega), Bool.and_false]
theorem nol_yes {ps ws a b : List Int} (sa : Stop ps ws a) (sb : Stop ps ws b) (h : ∀ k, k < (endsT ps).length → (nodT ps a).getD ((endsT ps).getD k 0).toNat 0 ≤ (nodT ps b).getD ((endsT ps).getD k 0).toNat 0) : nolB ps ws a b = true := by
  unfold nolB twoB
  rw [stopB_iff.2 sa, stopB_iff.2 sb, decide_eq_true ((no_later sa sb).2 h)]; rfl
def nolV (ps ws a b : List Int) : Value := .tuple #[.bool (nolB ps ws a b), .bool (twoB ps ws a b)]
theorem nolV_form (ps ws a b : List Int) : ∃ rx ok, nolV ps ws a b = .tuple #[.bool rx, .bool ok] := ⟨_, _, rfl⟩
end Go.Proofs.Ytagljebfbacdhaa
namespace Go.Proofs.Ytagljebfbacdhaa
open Go.RowKit
set_option linter.unusedVariables false
theorem list_ne {A B : List Int} {k : Nat} (hk : k < A.length) (h : A.getD k 0 ≠ B.getD k 0) : decide (A = B) = false := by
  rw [decide_eq_false_iff_not]
  intro e
  rw [e] at h
  exact h rfl
theorem list_all {A B : List Int} (hl : A.length = B.length) (h : ∀ j, j < A.length → A.getD j 0 = B.getD j 0) : decide (A = B) = true := by
  rw [decide_eq_true_iff]
  apply List.ext_getElem hl
  intro i h1 h2
  have := h i h1
  rwa [List.getD_eq_getElem?_getD, List.getElem?_eq_getElem h1, List.getD_eq_getElem?_getD, List.getElem?_eq_getElem h2] at this
set_option maxRecDepth 100000 in
set_option maxHeartbeats 4000000 in
theorem equalI (A B : List Int) (v u : Value) (w : World) (ha : A.length ≤ 1048576) (hb : B.length ≤ 1048576) (hv : IntsV w w.heap.size v A) (hu : IntsV w w.heap.size u B) :
    Calls Try.prog 82 #[v, u] w fun e w' => e = .returned (.bool (decide (A = B))) ∧ ∃ m, w' = w.drewN m := by
  obtain ⟨q1, c1, rfl, _, _, _, i1⟩ := hv
  obtain ⟨q2, c2, rfl, _, _, _, i2⟩ := hu
  have E1 := Lib.hid i1
  have E2 := Lib.hid i2
  clear i1 i2
  by_cases hl : A.length = B.length
  · have HL := Lib.hid hl
    have le1 : A.length ≤ B.length := by omega
    have le2 : B.length ≤ A.length := by omega
    have hlb : ((A.length : Int) != (B.length : Int)) = false := by rw [bne_eq_false_iff_eq]; omega
    clear hl
    go_enter Try.func82, Try.ntmps82
    go_wp2_with fail
    go_loopw [13] (fun i wr => ∃ k : Nat, k ≤ A.length ∧ i = .int .i64 k ∧ Hid (∀ j, j < k → A.getD j 0 = B.getD j 0) ∧ ∃ m, wr = w.drewN m) (fun i _ => A.length - (intOf i).toNat)
    case atStart => exact ⟨0, Nat.zero_le _, rfl, Lib.hid (fun j hj => by omega), 0, rfl⟩
    case round =>
      obtain ⟨k, hk, rfl, HA, m, rfl⟩ := hrel
      by_cases hlt : k < A.length
      · obtain ⟨b, off, hq, hb1, hc⟩ := E1.out.get hlt
        subst hq
        obtain ⟨b', off', hq, hb2, hd⟩ := E2.out.get (i := k) (by omega)
        subst hq
        have NE := Lib.hid (fun h => list_ne (A := A) (B := B) hlt h)
        have NX : Hid (A.getD k 0 = B.getD k 0 → ∀ j, j < k + 1 → A.getD j 0 = B.getD j 0) := Lib.hid (fun h j hj => by
          rcases Nat.lt_or_ge j k with h' | h'
          · exact HA.out j h'
          · obtain rfl : j = k := by omega
            exact h)
        have i0 : (0 : Int) ≤ (k : Int) := by omega
        have i1 : (k : Int) < (A.length : Int) := by omega
        have i2 : (k : Int) < (B.length : Int) := by omega
        obtain ⟨x, hx⟩ : ∃ x, x = A.getD k 0 := ⟨_, rfl⟩
        obtain ⟨y, hy⟩ : ∃ y, y = B.getD k 0 := ⟨_, rfl⟩
        rw [← hx] at hc NE NX
        rw [← hy] at hd NE NX
        clear hx hy HA
        by_cases h1 : x = y
        · have N2 := Lib.hid (NX.out h1)
          have hbe : (x != y) = false := by simp [h1]
          clear NX NE h1
          go_wp2_with fail
          first
            | (go_roundw
               case rel => exact ⟨k + 1, by omega, by go_num, N2, by first | exact ⟨_, rfl⟩ | exact ⟨_, World.drewN_drewN _ _ _⟩⟩
               case measure => simp [intOf]; omega)
            | (go_quiet (fail)
               go_wp2_with fail
               go_roundw
               case rel => exact ⟨k + 1, by omega, by go_num, N2, by first | exact ⟨_, rfl⟩ | exact ⟨_, World.drewN_drewN _ _ _⟩⟩
               case measure => simp [intOf]; omega)
        · have R := Lib.hid (NE.out h1)
          have hbe : (x != y) = true := by simpa using h1
          clear NX NE h1
          go_wp2_with fail
          first
            | (go_ret
               exact ⟨ret_b R.out, by first | exact ⟨_, rfl⟩ | exact ⟨_, World.drewN_drewN _ _ _⟩⟩)
            | (go_quiet (fail)
               go_wp2_with fail
               go_ret
               exact ⟨ret_b R.out, by first | exact ⟨_, rfl⟩ | exact ⟨_, World.drewN_drewN _ _ _⟩⟩)
      · have R := Lib.hid (list_all HL.out (fun j hj => HA.out j (by omega)))
        clear HA
        go_wp2
        go_ret
        exact ⟨ret_b R.out, m, rfl⟩
  · have R : Hid (decide (A = B) = false) := Lib.hid (by
      rw [decide_eq_false_iff_not]
      intro e
      rw [e] at hl
      exact hl rfl)
    have hlb : ((A.length : Int) != (B.length : Int)) = true := by rw [bne_iff_ne]; omega
    go_enter Try.func82, Try.ntmps82
    go_wp2
    go_ret
    exact ⟨ret_b R.out, 0, rfl⟩
theorem nol_two {ps ws a b : List Int} (h : twoB ps ws a b = true) : nolV ps ws a b = .tuple #[.bool (decide (pickT ps a b false = a)), .bool true] := by
  unfold nolV nolB
  rw [h, Bool.true_and]
theorem nol_not {ps ws a b : List Int} (h : twoB ps ws a b = false) : nolV ps ws a b = .tuple #[.bool false, .bool false] := by
  unfold nolV nolB
  rw [h]; rfl
set_option maxRecDepth 100000 in
set_option maxHeartbeats 4000000 in
theorem nolI (ps ws a b : List Int) (v u1 u2 : Value) (w : World) (hn1 : a.length ≤ 1048576) (hn2 : b.length ≤ 1048576) (h : TreeV w w.heap.size v ps ws) (hu : IntsV w w.heap.size u1 a) (hv : IntsV w w.heap.size u2 b) :
    Calls Try.prog 44 #[v, u1, u2] w (Gives (nolV ps ws a b) w) := by
  have C := Lib.hid (fun w' (hb : Below w.heap.size w w') => earlyI2 ps ws a b v u1 u2 w' hn1 hn2 (h.boxed hb) ((hu.below hb).more hb.size) ((hv.below hb).more hb.size))
  have EQ := Lib.hid (fun w' uv (hb : Below w.heap.size w w') (hl : (pickT ps a b false).length ≤ 1048576) (hq : IntsV w' w'.heap.size uv (pickT ps a b false)) => equalI (pickT ps a b false) a uv u1 w' hl hn1 hq ((hu.below hb).more hb.size))
  have PL := pick_len ps ws a b false
  obtain ⟨p1, c1, p2, c2, rfl⟩ := h.shape
  obtain ⟨q1, d1, rfl, _⟩ := hu
  obtain ⟨q2, d2, rfl, _⟩ := hv
  clear h
  have B1 := Lib.hid ((Below.refl w.heap.size w).alloc (Nat.le_refl _) (.cells #[.slice p1 ps.length c1, .slice p2 ws.length c2] 28))
  have T1 := Lib.hid (show TBox (w.alloc (.cells #[.slice p1 ps.length c1, .slice p2 ws.length c2] 28)) w.heap.size (.slice p1 ps.length c1) (.slice p2 ws.length c2) from alloc_heap w _)
  obtain ⟨x0, x1⟩ := T1.out.cells
  obtain ⟨wa, hwa⟩ : ∃ wa, wa = w.alloc (.cells #[.slice p1 ps.length c1, .slice p2 ws.length c2] 28) := ⟨_, rfl⟩
  rw [← hwa] at B1 T1
  cases hp : twoB ps ws a b
  · rw [hp, show ifTwo ps ws a b (pickT ps a b false) = [] by unfold ifTwo; rw [hp]; rfl] at C
    have R := Lib.hid (nol_not hp)
    rw [R.out]
    clear hp EQ
    go_enter Try.func44, Try.ntmps44
    go_wp2_with fail
    rw [← hwa]
    clear hwa x0 x1
    refine (C.out _ B1.out).mono ?_
    rintro e w1 ⟨u, rfl, o1, b1⟩
    have HB1 := Lib.hid (B1.out.trans (b1.mono B1.out.size))
    clear o1 b1
    go_wp2_with fail
    go_ret2
    exact ⟨rfl, HB1.out⟩
  · have IT : ifTwo ps ws a b (pickT ps a b false) = pickT ps a b false := by unfold ifTwo; rw [hp]; rfl
    rw [hp, IT] at C
    rw [IT] at PL
    have R := Lib.hid (nol_two hp)
    rw [R.out]
    clear hp
    generalize pickT ps a b false = P at *
    obtain ⟨t, ht⟩ : ∃ t, t = decide (P = a) := ⟨_, rfl⟩
    rw [← ht] at EQ ⊢
    clear ht
    go_enter Try.func44, Try.ntmps44
    go_wp2_with fail
    rw [← hwa]
    clear hwa x0 x1
    refine (C.out _ B1.out).mono ?_
    rintro e w1 ⟨u, rfl, o1, b1⟩
    have HB1 := Lib.hid (B1.out.trans (b1.mono B1.out.size))
    have E2 := Lib.hid (EQ.out w1 u HB1.out PL o1.intsV)
    clear o1 b1
    go_wp2_with fail
    refine E2.out.mono ?_
    rintro e w2 ⟨rfl, m, rfl⟩
    have HB2 := Lib.hid (below_drewN HB1.out m)
    go_wp2_with fail
    go_ret2
    exact ⟨rfl, HB2.out⟩
end Go.Proofs.Ytagljebfbacdhaa
