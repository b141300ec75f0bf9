/- The nodes of a list, in the program. -/
import Derived.Test.YtagljebfbacdhabStopP
import Derived.Test.YtagljebfbacdhabMaps
import Derived.Test.YtagljebfbacdhabLawT
namespace Go.Proofs.Ytagljebfbacdhab
open Go.RowKit
set_option linter.unusedVariables false
/-- A rising list of nodes of a valid tree. -/
def setB (ps ws ss : List Int) : Bool := goodT ps ws && riB ps.length ss
/-- What nodeSet returns. -/
def NewNodes (ps ws ss : List Int) (w : World) (e : Ending) (w' : World) : Prop :=
  Below w.heap.size w w' ∧ ((setB ps ws ss = true ∧ ∃ b n, e = .returned (.tuple #[.map (some b), .bool true]) ∧ w.heap.size ≤ b ∧ MapB w' b n (inL ss)) ∨ (setB ps ws ss = false ∧ e = .returned (.tuple #[.map none, .bool false])))
theorem inL_putN {evs : List Int} {k : Nat} (h : k < evs.length) {z : Int} (hz : z = evs.getD k 0) : putF (inL (evs.take k)) z true = inL (evs.take (k + 1)) := by
  funext y
  rw [inL_take h y, ← hz]; rfl
theorem riAt_of {n : Nat} {evs : List Int} {k : Nat} {x : Nat} (hx : (x : Int) = evs.getD k 0) (h1 : x < n) (h3 : 0 < k → evs.getD (k - 1) 0 < (x : Int)) : riAt n evs k = true := by
  unfold riAt
  rw [← hx, Bool.and_eq_true, Bool.or_eq_true, decide_eq_true_iff, decide_eq_true_iff, decide_eq_true_iff]
  refine ⟨by omega, ?_⟩
  rcases Nat.eq_zero_or_pos k with h | h
  · exact .inl h
  · exact .inr (h3 h)
theorem riAt_not {n : Nat} {evs : List Int} {k : Nat} {z : Int} (hz : z = evs.getD k 0) (h : z < 0 ∨ (n : Int) ≤ z ∨ (0 < k ∧ z ≤ evs.getD (k - 1) 0)) : riAt n evs k = false := by
  unfold riAt
  rw [← hz, Bool.and_eq_false_iff]
  rcases h with h | h | ⟨h, h'⟩
  · left; rw [decide_eq_false_iff_not]; omega
  · left; rw [decide_eq_false_iff_not]; omega
  · right
    rw [Bool.or_eq_false_iff, decide_eq_false_iff_not, decide_eq_false_iff_not]
    omega
theorem setB_false {ps ws ss : List Int} {i : Nat} (hi : i < ss.length) (h : riAt ps.length ss i = false) : setB ps ws ss = false := by
  unfold setB
  rw [riB_false hi h, Bool.and_false]
set_option maxRecDepth 100000 in
set_option maxHeartbeats 4000000 in
theorem nodeSetI (ps ws evs : List Int) (v u : Value) (w : World) (hl9 : evs.length ≤ 1048576) (h : TreeV w w.heap.size v ps ws) (hu : IntsV w w.heap.size u evs) :
    Calls Try.prog 173 #[v, u] w (NewNodes ps ws evs w) := by
  have IT := Lib.hid (fun w' (hb : Below w.heap.size w w') => isTreeI ps ws v w' (h.boxed hb))
  obtain ⟨p1, c1, p2, c2, rfl⟩ := h.shape
  clear h
  obtain ⟨q, cq, rfl, lq, mq, zq, iq⟩ := hu
  have MQ := Lib.hid mq
  clear mq
  have E1 := Lib.hid iq
  have Z1 := Lib.hid zq
  clear iq zq
  have B1 := (Below.refl w.heap.size w).alloc (Nat.le_refl _) (.cells #[.slice p1 ps.length c1, .slice p2 ws.length c2] 28)
  have T1 := Lib.hid (show TBox (w.alloc (.cells #[.slice p1 ps.length c1, .slice p2 ws.length c2] 28)) w.heap.size (.slice p1 ps.length c1) (.slice p2 ws.length c2) from alloc_heap w _)
  have sz1 : (w.alloc (.cells #[.slice p1 ps.length c1, .slice p2 ws.length c2] 28)).heap.size = w.heap.size + 1 := by simp
  obtain ⟨wa, hwa⟩ : ∃ wa, wa = w.alloc (.cells #[.slice p1 ps.length c1, .slice p2 ws.length c2] 28) := ⟨_, rfl⟩
  rw [← hwa] at B1 T1 sz1
  have HBA := Lib.hid B1
  clear B1
  obtain ⟨x0, x1⟩ := T1.out.cells
  cases hg : goodT ps ws
  · rw [hg] at IT
    have R : Hid (setB ps ws evs = false) := Lib.hid (by unfold setB; rw [hg]; rfl)
    clear hg
    go_enter Try.func173, Try.ntmps173
    go_wp2_with fail
    rw [← hwa]
    clear hwa
    refine (IT.out _ HBA.out).mono ?_
    rintro e w1 ⟨rfl, b1⟩
    have HB1 := Lib.hid (HBA.out.trans (b1.mono HBA.out.size))
    clear b1 x0 x1
    go_wp2_with fail
    go_ret2
    exact ⟨HB1.out, .inr ⟨R.out, rfl⟩⟩
  · rw [hg] at IT
    have gd := Good.of hg
    have hn1 := gd.n1
    have hn2 := gd.n24
    have GD := Lib.hid hg
    clear hg gd
    go_enter Try.func173, Try.ntmps173
    go_wp2_with fail
    rw [← hwa]
    clear hwa
    refine (IT.out _ HBA.out).mono ?_
    rintro e w1 ⟨rfl, b1⟩
    have s1 := b1.size
    have HB1 := Lib.hid ((HBA.out.trans (b1.mono HBA.out.size)).alloc (Nat.le_trans HBA.out.size s1) (.map #[] 0))
    have HT1 := Lib.hid ((T1.out.below b1 T1.out.lt).alloc (.map #[] 0))
    have HM1 := Lib.hid (MapB.made w1)
    obtain ⟨M, hM⟩ : ∃ M, M = w1.heap.size := ⟨_, rfl⟩
    obtain ⟨wb, hwb⟩ : ∃ wb, wb = w1.alloc (.map #[] 0) := ⟨_, rfl⟩
    rw [← hwb] at HB1 HT1 HM1
    rw [← hM] at HM1
    have hMw : w.heap.size + 1 ≤ M := by omega
    have HE : Hid ((fun _ => false) = inL (evs.take 0)) := Lib.hid (by funext z; simp [inL])
    rw [HE.out] at HM1
    clear b1 x0 x1 IT HE T1 HBA sz1
    have hmm := @run_makeMap Try.prog
    go_wp2
    rw [← hwb, ← hM]
    clear hwb hM
    go_loopw [15] (fun i wr => ∃ k : Nat, k ≤ evs.length ∧ i = .int .i64 k ∧ Hid (MapB wr M k (inL (evs.take k))) ∧ Hid (TBox wr w.heap.size (.slice p1 ps.length c1) (.slice p2 ws.length c2)) ∧ Hid (Below w.heap.size w wr) ∧ Hid (∀ j, j < k → riAt ps.length evs j = true)) (fun i _ => evs.length - (intOf i).toNat)
    case atStart => exact ⟨0, Nat.zero_le _, rfl, HM1, HT1, HB1, Lib.hid (fun j hj => by omega)⟩
    case round =>
      obtain ⟨k, hk, rfl, HM, HT, HB, HA⟩ := hrel
      clear HM1 HT1 HB1
      obtain ⟨x0, x1⟩ := HT.out.cells
      by_cases hlt : k < evs.length
      · obtain ⟨b, off, rfl, hb, hc⟩ := E1.out.get hlt
        have hcw : wr.cell? ⟨b, off + k, none⟩ = some (.int .i64 (evs.getD k 0)) := by rw [HB.out.cell (p := ⟨b, off + k, none⟩) hb]; exact hc
        have i0 : (0 : Int) ≤ (k : Int) := by omega
        have i1 : (k : Int) < (evs.length : Int) := by omega
        obtain ⟨z, hz⟩ : ∃ z, z = evs.getD k 0 := ⟨_, rfl⟩
        rw [← hz] at hcw
        have HZ := Lib.hid hz
        have FA := Lib.hid (setB_false (ps := ps) (ws := ws) hlt)
        have PU := Lib.hid (inL_putN hlt hz)
        have SM : Hid (z < 0 ∨ (ps.length : Int) ≤ z ∨ (0 < k ∧ z ≤ evs.getD (k - 1) 0) → NewNodes ps ws evs w (.returned (.tuple #[.map none, .bool false])) wr) := Lib.hid (fun h => ⟨HB.out, .inr ⟨FA.out (riAt_not HZ.out h), rfl⟩⟩)
        clear hc hz
        by_cases z0 : z < 0
        · have R := Lib.hid (SM.out (.inl z0))
          clear SM PU FA
          go_wp2
          go_ret2
          exact R.out
        · by_cases z1 : (ps.length : Int) ≤ z
          · have R := Lib.hid (SM.out (.inr (.inl z1)))
            clear SM PU FA
            go_wp2
            go_ret2
            exact R.out
          · obtain ⟨x, rfl⟩ : ∃ x : Nat, z = (x : Int) := ⟨z.toNat, by omega⟩
            have hx : x < ps.length := by omega
            have z2 : (x : Int) < (ps.length : Int) := by omega
            have ND : Hid (∀ w3, MapB w3 M (k + 1) (putF (inL (evs.take k)) (x : Int) true) → wr.grownBy w3 (some M) → (0 < k → evs.getD (k - 1) 0 < (x : Int)) → MapB w3 M (k + 1) (inL (evs.take (k + 1))) ∧ TBox w3 w.heap.size (.slice p1 ps.length c1) (.slice p2 ws.length c2) ∧ Below w.heap.size w w3 ∧ ∀ j, j < k + 1 → riAt ps.length evs j = true) := Lib.hid (fun w3 h3 g3 hp => by
                refine ⟨by rw [← PU.out]; exact h3, HT.out.grown g3 (lo := w.heap.size + 1) (fun q hq => by injection hq; omega) (by omega), HB.out.grown g3 HB.out.size (fun q hq => by injection hq; omega), fun j hj => ?_⟩
                rcases Nat.lt_or_ge j k with h | h
                · exact HA.out j h
                · obtain rfl : j = k := by omega
                  exact riAt_of HZ.out hx hp)
            rcases Nat.eq_zero_or_pos k with hk0 | hk0
            · subst hk0
              rw [Nat.add_zero] at hcw
              have HN : Hid (0 < maxLen) := Lib.hid (Nat.lt_of_lt_of_le hlt MQ.out)
              clear SM PU FA HA HZ
              go_wp2_with (at_mapUpdate; refine mapB_put _ rfl _ _ _ _ rfl Try.underlying121 M 0 _ rfl HM.out HN.out (x : Int) true rfl rfl (inI64_nat (by omega)) ?_; intro w3 h3 g3)
              obtain ⟨a1, a2, a3, a4⟩ := ND.out w3 h3 g3 (fun h => absurd h (by omega))
              have A1 := Lib.hid a1
              have A2 := Lib.hid a2
              have A3 := Lib.hid a3
              have A4 := Lib.hid a4
              clear a1 a2 a3 a4 h3 g3 ND
              go_roundw
              case rel => exact ⟨1, by omega, by go_num, A1, A2, A3, A4⟩
              case measure => simp [intOf]; omega
            · obtain ⟨j, hj⟩ : ∃ j, j + 1 = k := ⟨k - 1, by omega⟩
              obtain ⟨b', off', he, hb', hc'⟩ := E1.out.get (i := j) (by omega)
              obtain ⟨rfl, rfl⟩ : b = b' ∧ off = off' := by injection he with he; injection he with h1 h2; exact ⟨h1, h2⟩
              have hcj : wr.cell? ⟨b, off + j, none⟩ = some (.int .i64 (evs.getD j 0)) := by rw [HB.out.cell (p := ⟨b, off + j, none⟩) hb']; exact hc'
              have j0 : (k : Int) > 0 := by omega
              have j1 : (k : Int) - 1 = (j : Int) := by omega
              have j2 : (j : Int) < (evs.length : Int) := by omega
              have j3 : (0 : Int) ≤ (j : Int) := by omega
              have hkj : k - 1 = j := by omega
              obtain ⟨y, hy⟩ : ∃ y, y = evs.getD (k - 1) 0 := ⟨_, rfl⟩
              rw [← hkj, ← hy] at hcj
              rw [← hy] at SM ND
              rw [hkj] at hcj
              have HN : Hid (k < maxLen) := Lib.hid (Nat.lt_of_lt_of_le hlt MQ.out)
              clear hc' he hy hj hkj
              by_cases hyx : (x : Int) ≤ y
              · have R := Lib.hid (SM.out (.inr (.inr ⟨by omega, hyx⟩)))
                clear SM ND PU FA HA HZ
                go_wp2
                go_ret2
                exact R.out
              · have hyx' : y < (x : Int) := by omega
                have nyx : ¬ (y ≥ (x : Int)) := by omega
                clear SM PU FA HA HZ
                go_wp2_with (at_mapUpdate; refine mapB_put _ rfl _ _ _ _ rfl Try.underlying121 M k _ rfl HM.out HN.out (x : Int) true rfl rfl (inI64_nat (by omega)) ?_; intro w3 h3 g3)
                obtain ⟨a1, a2, a3, a4⟩ := ND.out w3 h3 g3 (fun _ => hyx')
                have A1 := Lib.hid a1
                have A2 := Lib.hid a2
                have A3 := Lib.hid a3
                have A4 := Lib.hid a4
                clear a1 a2 a3 a4 h3 g3 ND j1
                go_roundw
                case rel => exact ⟨k + 1, by omega, by go_num, A1, A2, A3, A4⟩
                case measure => simp [intOf]; omega
      · have hk2 : k = evs.length := by omega
        have FIN : Hid (NewNodes ps ws evs w (.returned (.tuple #[.map (some M), .bool true])) wr) := Lib.hid ⟨HB.out, .inl ⟨by
          unfold setB riB
          rw [GD.out, Bool.true_and, List.all_eq_true]
          exact fun i hi => HA.out i (by have := List.mem_range.1 hi; omega), M, k, rfl, by omega, by have h := HM.out; rwa [hk2, List.take_of_length_le (Nat.le_refl _), ← hk2] at h⟩⟩
        clear HA HM GD hk2
        go_wp2
        go_ret2
        exact FIN.out
end Go.Proofs.Ytagljebfbacdhab
