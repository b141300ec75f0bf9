/- The first node of a list on the way, and rules, in the model. -/
import Derived.Test.YtagljebfbacdhabRulP
import Derived.Test.YtagljebfbacdhabStopM
namespace Go.Proofs.Ytagljebfbacdhab
open Go.RowKit
set_option linter.unusedVariables false
set_option maxRecDepth 100000 in
set_option maxHeartbeats 4000000 in
theorem stop4S (ps ws ss : List Int) (v u : Value) (x : Nat) (w : World) (gd : Good ps ws) (hx : x < ps.length) (hl : ss.length ≤ 1048576) (h : TreeV w w.heap.size v ps ws) (hu : IntsV w w.heap.size u ss) :
    Calls Try.prog 188 #[v, u, .int .i64 x] w (Gives (.int .i64 ((frsT ps ss).getD x 0)) w) := by
  have WY := Lib.hid (fun w' (hb : Below w.heap.size w w') => wayS ps ws v x w' gd hx (h.boxed hb))
  have HS := Lib.hid (fun w' (hb : Below w.heap.size w w') z => hasS ss z u w.heap.size w' hl (hu.below hb))
  have W := way_all (ParOk.of gd) x hx
  have FS := Lib.hid (fun (k : Nat) hk hb he => fst_search (ParOk.of gd) (p := fun y => inL ss (y : Int)) hx (k := k) hk hb he)
  have FN := Lib.hid (fun hb => fst_none (ParOk.of gd) (p := fun y => inL ss (y : Int)) hx hb)
  have hn24 := gd.n24
  obtain ⟨L, hL⟩ : ∃ L, L = wayT ps (x : Int) := ⟨_, rfl⟩
  have WP : 0 < L.length ∧ L.length ≤ 24 := by rw [hL]; have := W.len; omega
  have WN : Hid (∀ j, j < L.length → 0 ≤ L.getD j 0 ∧ L.getD j 0 < (ps.length : Int)) := Lib.hid (fun j hj => by rw [hL] at hj ⊢; have := W.node j hj; omega)
  obtain ⟨R, hR⟩ : ∃ R, R = (frsT ps ss).getD x 0 := ⟨_, rfl⟩
  change Hid (∀ k : Nat, k < (wayT ps (x : Int)).length → (∀ j, j < k → inL ss ((((wayT ps (x : Int)).getD j 0).toNat : Nat) : Int) = false) → inL ss ((((wayT ps (x : Int)).getD k 0).toNat : Nat) : Int) = true → (frsT ps ss).getD x 0 = (wayT ps (x : Int)).getD k 0) at FS
  change Hid ((∀ j, j < (wayT ps (x : Int)).length → inL ss ((((wayT ps (x : Int)).getD j 0).toNat : Nat) : Int) = false) → (frsT ps ss).getD x 0 = -1) at FN
  rw [← hL] at WY FS FN
  rw [← hR] at FS FN ⊢
  obtain ⟨p1, c1, p2, c2, rfl⟩ := h.shape
  obtain ⟨q, d, rfl, _⟩ := hu
  clear h gd hL hR W
  have B1 := (Below.refl w.heap.size w).alloc (Nat.le_refl _) (.cells #[.slice p1 ps.length c1, .slice p2 ws.length c2] 28)
  have T1 := Lib.hid (show TBox (w.alloc (.cells #[.slice p1 ps.length c1, .slice p2 ws.length c2] 28)) w.heap.size (.slice p1 ps.length c1) (.slice p2 ws.length c2) from alloc_heap w _)
  obtain ⟨x0, x1⟩ := T1.out.cells
  obtain ⟨wa, hwa⟩ : ∃ wa, wa = w.alloc (.cells #[.slice p1 ps.length c1, .slice p2 ws.length c2] 28) := ⟨_, rfl⟩
  rw [← hwa] at B1 T1
  have HBA := Lib.hid B1
  clear B1
  go_enter Try.func188, Try.ntmps188
  go_wp2_with fail
  rw [← hwa]
  clear hwa x0 x1
  refine (WY.out _ HBA.out).mono ?_
  rintro e w1 ⟨uw, rfl, o1, b1⟩
  obtain ⟨g, ce, rfl, hg1, hg2⟩ := o1.shape WP.1
  have HB1 := Lib.hid (HBA.out.trans (b1.mono HBA.out.size))
  have DC := Lib.hid (fun j (hj : j < L.length) => o1.cellGet (j := j) hj)
  have HG := Lib.hid hg2
  obtain ⟨wp0, wp1⟩ := WP
  clear b1 o1 hg1 hg2 T1 HBA WY
  go_wp2
  go_loopw [8] (fun i wr => ∃ k : Nat, k ≤ L.length ∧ i = .int .i64 k ∧ Hid (∀ j, j < k → inL ss (((L.getD j 0).toNat : Nat) : Int) = false) ∧ ∃ n, wr = w1.drewN n) (fun i _ => L.length - (intOf i).toNat)
  case atStart => exact ⟨0, Nat.zero_le _, rfl, Lib.hid (fun j hj => by omega), 0, rfl⟩
  case round =>
    obtain ⟨k, hk, rfl, HA, n, rfl⟩ := hrel
    by_cases hlt : k < L.length
    · have hce : w1.cell? ⟨g, k, none⟩ = some (.int .i64 (L.getD k 0)) := DC.out k hlt
      obtain ⟨n0, n1⟩ := WN.out k hlt
      obtain ⟨y, hy⟩ : ∃ y : Nat, (y : Int) = L.getD k 0 := ⟨(L.getD k 0).toNat, by omega⟩
      have FK := Lib.hid (FS.out k hlt HA.out)
      have NX : Hid (inL ss (y : Int) = false → ∀ j, j < k + 1 → inL ss (((L.getD j 0).toNat : Nat) : Int) = false) := Lib.hid (fun h j hj => by
        rcases Nat.lt_or_ge j k with h' | h'
        · exact HA.out j h'
        · obtain rfl : j = k := by omega
          rw [← hy, Int.toNat_natCast]; exact h)
      rw [← hy] at hce FK n0 n1
      rw [Int.toNat_natCast] at FK
      have C := Lib.hid (HS.out (w1.drewN n) (below_drewN HB1.out n) (y : Int))
      have i0 : (0 : Int) ≤ (k : Int) := by omega
      have i1 : (k : Int) < (L.length : Int) := by omega
      clear hy HA
      obtain ⟨t, ht⟩ : ∃ t, t = inL ss (y : Int) := ⟨_, rfl⟩
      rw [← ht] at C FK NX
      clear ht
      cases t
      · have N2 := Lib.hid (NX.out rfl)
        clear NX FK
        go_wp2_with fail
        refine C.out.mono ?_
        rintro e w2 ⟨rfl, m, rfl⟩
        go_wp2_with fail
        go_roundw
        case rel => exact ⟨k + 1, by omega, by go_num, N2, _, rfl⟩
        case measure => simp [intOf]; omega
      · have RR := Lib.hid (FK.out rfl)
        clear NX FK
        have hce2 : ∀ m : Nat, ((w1.drewN n).drewN m).cell? ⟨g, k, none⟩ = some (.int .i64 (y : Int)) := fun m => hce
        go_wp2_with fail
        refine C.out.mono ?_
        rintro e w2 ⟨rfl, m, rfl⟩
        have hce3 := hce2 m
        go_wp2_with fail
        go_ret
        rw [RR.out]
        exact ⟨rfl, below_drewN HB1.out (n + m)⟩
    · have RR : Hid (R = -1) := Lib.hid (FN.out (fun j hj => HA.out j (by omega)))
      clear HA
      go_wp2_with fail
      go_ret
      rw [RR.out]
      exact ⟨rfl, below_drewN HB1.out n⟩
end Go.Proofs.Ytagljebfbacdhab
