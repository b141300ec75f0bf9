/- BalI, BalP, Kid4, Pay4, CutS, BalM, WayQ, HighP, BndP, FracK, PBox, GamI, WayS, PassI, Res, BndI, BndZ, PayS, MBt, HeldMore, TotS, OwnP, MeanM, ProcM, HighM, BndM in one text. -/
import Derived.Test.YtligidmkhbcpmacSteI
import Derived.Test.YtligidmkhbcpmacCapP
import Derived.Test.YtligidmkhbcpmacSteP
import Derived.Test.YtligidmkhbcpmacRow
import Derived.Test.YtligidmkhbcpmacGoodS
import Derived.Test.YtligidmkhbcpmacProcI
import Derived.Test.YtligidmkhbcpmacSumS
import Derived.Test.YtligidmkhbcpmacPassP
import Derived.Test.YtligidmkhbcpmacPayW
import Derived.Test.YtligidmkhbcpmacFracC
import Derived.Test.YtligidmkhbcpmacSumsI
import Derived.Test.YtligidmkhbcpmacNode
import Derived.Test.YtligidmkhbcpmacVBox
import Derived.Test.YtligidmkhbcpmacEnds
import Derived.Test.YtligidmkhbcpmacWayP
import Derived.Test.YtligidmkhbcpmacDepthI
import Derived.Test.YtligidmkhbcpmacLawT
import Derived.Test.YtligidmkhbcpmacPrm
import Derived.Test.YtligidmkhbcpmacSumI
import Derived.Test.YtligidmkhbcpmacPayI
import Derived.Test.YtligidmkhbcpmacIsTree
import Derived.Test.YtligidmkhbcpmacMeanP
import Derived.Test.YtligidmkhbcpmacEndsL
import Derived.Deep.LoopGhost
import Derived.Deep.RegionLaw
import Derived.BigQuiet
import Derived.BigRegion
import Derived.Deep.AppendLies
import Derived.WalkKit
import Derived.ProofKit
import Derived.Outline
import Derived.Below
import Derived.Lib.Hide
import Derived.WalkSmall
import Derived.WalkSpells
import Derived.WalkLawsBesides
import Derived.RegionTactic
import Derived.ChangeAlike
import Derived.Deep.RegionHeld3
import Derived.IntWalk
import Derived.StillTailTactics
import Derived.Deep.DeepCutAuto
import Derived.Deep.QuietTactic
import Derived.Maps.AppendAt
namespace Go.Proofs.Ytligidmkhbcpmac
open Go.RowKit
set_option linter.unusedVariables false
set_option maxRecDepth 100000 in
set_option maxHeartbeats 2000000 in
theorem balI (ps ws zs : List Int) (v u1 : Value) (w : World) (hn1 : zs.length ≤ 1048576) (h : TreeV w w.heap.size v ps ws) (hu1 : IntsV w w.heap.size u1 zs) :
    Calls Try.prog 162 #[v, u1] w (Gives (steV ps ws zs true) w) := by
  have C := Lib.hid (fun w' (hb : Below w.heap.size w w') => isFairI ps ws zs v u1 w' hn1 (h.boxed hb) ((hu1.below hb).more hb.size))
  obtain ⟨p1, c1, p2, c2, rfl⟩ := h.shape
  obtain ⟨q0, d0, rfl, _⟩ := hu1
  clear h
  have B1 := Lib.hid ((Below.refl w.heap.size w).alloc (Nat.le_refl _) (.cells #[.slice p1 ps.length c1, .slice p2 ws.length c2] 29))
  have T1 := Lib.hid (show TBox (w.alloc (.cells #[.slice p1 ps.length c1, .slice p2 ws.length c2] 29)) w.heap.size (.slice p1 ps.length c1) (.slice p2 ws.length c2) from alloc_heap w _)
  obtain ⟨x0, x1⟩ := T1.out.cells
  obtain ⟨wa, hwa⟩ : ∃ wa, wa = w.alloc (.cells #[.slice p1 ps.length c1, .slice p2 ws.length c2] 29) := ⟨_, rfl⟩
  rw [← hwa] at B1 T1
  obtain ⟨rx, ok, hV⟩ := steV_form ps ws zs true
  rw [hV] at C ⊢
  clear hV
  go_enter Try.func162, Try.ntmps162
  go_wp2_with fail
  rw [← hwa]
  clear hwa x0 x1
  refine (C.out _ B1.out).mono ?_
  rintro e w1 ⟨rfl, b1⟩
  have HB1 := Lib.hid (B1.out.trans (b1.mono B1.out.size))
  clear b1
  go_wp2_with fail
  go_ret2
  exact ⟨rfl, HB1.out⟩
end Go.Proofs.Ytligidmkhbcpmac
namespace Go.Proofs.Ytligidmkhbcpmac
open Go.RowKit
set_option linter.unusedVariables false
theorem cutN_zero {a b : Int} (h : cutN a b = 0) : a = 0 := by
  unfold cutN at h
  have hd : gI a b ∣ a := by unfold gI; exact Int.gcd_dvd_left ..
  have := Int.ediv_mul_cancel hd
  rw [h, Int.zero_mul] at this
  exact this.symm
def balAt (ps ws zs : List Int) (x : Nat) : Bool := leafB ps x || decide ((ownT (sumsT ps ws) zs ps.length).getD x 0 = kidT ps (ownT (sumsT ps ws) zs ps.length) x)
theorem bal_at {ps ws zs : List Int} (p : Proc ps ws zs) {x : Nat} (hx : x < ps.length) : steP true (driA ps ws zs x) = balAt ps ws zs x := by
  have g := p.good
  unfold balAt
  cases hl : leafB ps x
  · have h1 := dri_model (zs := zs) g hx hl
    have h2 : kidF (fun y => (sumsT ps ws).getD y 0 * zs.getD y 0) (kidsT ps (x : Int)) = kidT ps (ownT (sumsT ps ws) zs ps.length) x := by
      rw [← kid_model, kidsT_eq, kidF_nodes _ _ ps.length ps.length (Nat.le_refl _), kidF_nodes _ _ ps.length ps.length (Nat.le_refl _)]
      refine sumTo_congr _ (fun y hy => ?_)
      rw [List.getD_eq_getElem?_getD, List.getElem?_map, List.getElem?_range hy, List.getD_eq_getElem?_getD, List.getElem?_map, List.getElem?_range hy]
      simp only [Option.map_some, Option.getD_some]
      rw [ownT_at hy]
    rw [h2] at h1
    rw [Bool.false_or, ownT_at hx]
    unfold steP
    rw [if_pos rfl, Bool.eq_iff_iff, beq_iff_eq, decide_eq_true_iff]
    unfold driA
    rw [← h1]
    constructor
    · intro h; have := cutN_zero h; omega
    · intro h
      rw [h, Int.sub_self]
      exact (cut_zero (sums_pos g x hx)).1
  · rw [(dri_leafAB g hx hl).1]; rfl
theorem bal_no {ps ws zs : List Int} (p : Proc ps ws zs) {x : Nat} (hx : x < ps.length) (h : balAt ps ws zs x = false) : steB ps ws zs true = false := steB_no hx (by rw [bal_at p hx]; exact h)
theorem bal_yes {ps ws zs : List Int} (p : Proc ps ws zs) (h : ∀ x, x < ps.length → balAt ps ws zs x = true) : steB ps ws zs true = true := steB_yes (fun x hx => by rw [bal_at p hx]; exact h x hx)
end Go.Proofs.Ytligidmkhbcpmac
namespace Go.Proofs.Ytligidmkhbcpmac
open Go.RowKit
set_option linter.unusedVariables false
theorem kidsF_goodK {ps ws : List Int} (g : Good ps ws) (x : Nat) : kidsF ps x ps.length = kidsT ps x := by
  rw [kidsT_eq]
  unfold kidsF
  refine nodesW_congr fun y hy => ?_
  rw [Bool.eq_iff_iff, Bool.and_eq_true, decide_eq_true_eq, beq_iff_eq]
  constructor
  · exact fun h => h.2
  · intro h
    have := g.kid_gt hy h
    exact ⟨by omega, h⟩
set_option maxRecDepth 100000 in
set_option maxHeartbeats 4000000 in
theorem kids4S (ps ws L : List Int) (v u : Value) (x : Nat) (w : World) (gd : Good ps ws) (hx : x < ps.length) (hL : L.length = ps.length) (hb : ∀ y, y < ps.length → (L.getD y 0).natAbs ≤ 1000000000) (h : TreeV w w.heap.size v ps ws) (hu : IntsV w w.heap.size u L) :
    Calls Try.prog 200 #[v, u, .int .i64 x] w (Gives (.int .i64 (kidT ps L x)) w) := by
  have hn24 := gd.n24
  have KI := Lib.hid (fun w' (hb : Below w.heap.size w w') => kidsS ps ws v x w' (by omega) (by omega) (h.boxed hb))
  rw [kidsF_goodK gd] at KI
  have KN : Hid (∀ z ∈ kidsT ps (x : Int), ∃ y : Nat, z = (y : Int) ∧ y < ps.length) := Lib.hid (fun z hz => by
    rw [kidsT_eq] at hz
    obtain ⟨y, h1, h2, _⟩ := nodesW_mem hz
    exact ⟨y, h1, h2⟩)
  have KL : (kidsT ps (x : Int)).length ≤ 24 := by rw [kidsT_eq]; exact Nat.le_trans (nodesW_len _ _) hn24
  have KBD : Hid (∀ k, k ≤ (kidsT ps (x : Int)).length → (kidF (fun y => L.getD y 0) ((kidsT ps (x : Int)).take k)).natAbs ≤ 24000000000) := Lib.hid (fun k hk => by
    have h1 := kidF_bd (f := fun y => L.getD y 0) (L := kidsT ps (x : Int)) (B := 1000000000) (fun z hz => by
      obtain ⟨y, rfl, hy⟩ := KN.out z hz
      rw [Int.toNat_natCast]
      exact hb y hy) k hk
    have h2 : k * 1000000000 ≤ 24 * 1000000000 := Nat.mul_le_mul_right _ (by omega)
    omega)
  have KTK := Lib.hid (fun k (hk : k < (kidsT ps (x : Int)).length) => kidF_take (fun y => L.getD y 0) hk)
  have KALL : Hid (∀ k, (kidsT ps (x : Int)).length ≤ k → kidF (fun y => L.getD y 0) ((kidsT ps (x : Int)).take k) = kidT ps L x) := Lib.hid (fun k hk => by rw [kidF_all _ hk, kid_model])
  have KZ : Hid (kidF (fun y => L.getD y 0) ((kidsT ps (x : Int)).take 0) = 0) := Lib.hid rfl
  have FB := Lib.hid hb
  obtain ⟨p1, c1, p2, c2, rfl⟩ := h.shape
  obtain ⟨q, d, rfl, _, _, _, j1⟩ := hu
  have Q1 := Lib.hid j1
  clear h j1 gd hb
  have B1 := (Below.refl w.heap.size w).alloc (Nat.le_refl _) (.cells #[.slice p1 ps.length c1, .slice p2 ws.length c2] 29)
  have T1 := Lib.hid (show TBox (w.alloc (.cells #[.slice p1 ps.length c1, .slice p2 ws.length c2] 29)) w.heap.size (.slice p1 ps.length c1) (.slice p2 ws.length c2) from alloc_heap w _)
  obtain ⟨x0, x1⟩ := T1.out.cells
  obtain ⟨wa, hwa⟩ : ∃ wa, wa = w.alloc (.cells #[.slice p1 ps.length c1, .slice p2 ws.length c2] 29) := ⟨_, rfl⟩
  rw [← hwa] at B1 T1
  have HBA := Lib.hid B1
  clear B1
  obtain ⟨R, hR⟩ : ∃ R, R = kidT ps L x := ⟨_, rfl⟩
  obtain ⟨K, hK⟩ : ∃ K, K = kidsT ps (x : Int) := ⟨_, rfl⟩
  rw [← hR] at KALL ⊢
  rw [← hK] at KI KN KL KBD KTK KALL KZ
  have LN := Lib.hid hL
  clear hR hK hL
  go_enter Try.func200, Try.ntmps200
  go_wp2_with fail
  rw [← hwa]
  clear hwa x0 x1
  refine (KI.out _ HBA.out).mono ?_
  rintro e w3 ⟨uk, rfl, o3, b3⟩
  have HB3 := Lib.hid (HBA.out.trans (b3.mono HBA.out.size))
  obtain ⟨pk, ck, rfl, _, _, _, ik⟩ := o3.intsV
  have IK := Lib.hid ik
  have KNI : Hid (∀ i, i < K.length → ∃ y : Nat, K.getD i 0 = (y : Int) ∧ y < ps.length) := Lib.hid (fun i hi => KN.out _ (by
    rw [List.getD_eq_getElem?_getD, List.getElem?_eq_getElem hi]
    exact List.getElem_mem _))
  obtain ⟨f, hf⟩ : ∃ f : Nat → Int, f = fun y => L.getD y 0 := ⟨_, rfl⟩
  have FD : Hid (∀ y, f y = L.getD y 0) := Lib.hid (fun y => by rw [hf])
  rw [← hf] at KBD KTK KALL KZ
  clear hf b3 o3 ik KN KI HBA T1
  go_wp2
  go_loopg [7, 9] K.length (fun gg m i wr => ∃ k : Nat, k ≤ K.length ∧ K.length - k ≤ gg ∧ i = .int .i64 k ∧ m = .int .i64 (kidF f (K.take k)) ∧ ∃ nn, wr = w3.drewN nn)
  case atStart => exact ⟨0, Nat.zero_le _, by omega, rfl, by rw [KZ.out], 0, rfl⟩
  case round =>
    obtain ⟨k, hk, hgg, rfl, rfl, nn, rfl⟩ := hrel
    have kb := KBD.out k hk
    by_cases hlt : k < K.length
    · obtain ⟨y, hy, hyn⟩ := KNI.out k hlt
      obtain ⟨bk, ok, hqk, hbk, h1⟩ := IK.out.get hlt
      subst hqk
      obtain ⟨bz, oz, hqz, hbz, h3⟩ := Q1.out.get (i := y) (by have := LN.out; omega)
      subst hqz
      have h3' : w3.cell? ⟨bz, oz + y, none⟩ = some (.int .i64 (L.getD y 0)) := by rw [HB3.out.cell (p := ⟨bz, oz + y, none⟩) hbz]; exact h3
      have fb := FB.out y hyn
      have TK := KTK.out k hlt
      rw [hy, Int.toNat_natCast] at TK
      try rw [FD.out] at TK
      rw [hy] at h1
      have kb2 := KBD.out (k + 1) (by omega)
      obtain ⟨m, hm⟩ : ∃ m, m = kidF f (K.take k) := ⟨_, rfl⟩
      obtain ⟨zy, hzy⟩ : ∃ m, m = L.getD y 0 := ⟨_, rfl⟩
      rw [← hm] at kb TK ⊢
      rw [← hzy] at h3' fb TK
      have TK2 := Lib.hid TK
      have i0 : (0 : Int) ≤ (k : Int) := by omega
      have i1 : (k : Int) < (K.length : Int) := by omega
      have i2 : (0 : Int) ≤ (y : Int) := by omega
      have i3 : (y : Int) < (L.length : Int) := by have := LN.out; omega
      have pb : -1000000000 ≤ zy ∧ zy ≤ 1000000000 := by omega
      have mb : -24000000000 ≤ m ∧ m ≤ 24000000000 := by omega
      clear hy hm hzy fb TK kb kb2 h3
      go_wp2_with fail
      go_roundg (K.length - (k + 1))
      case rel => exact ⟨k + 1, by omega, by omega, by go_num, by rw [TK2.out], _, rfl⟩
      case measure => omega
    · have KE := Lib.hid (KALL.out k (by omega))
      go_wp2_with fail
      go_ret
      rw [KE.out]
      exact ⟨rfl, below_drewN HB3.out nn⟩
end Go.Proofs.Ytligidmkhbcpmac
namespace Go.Proofs.Ytligidmkhbcpmac
open Go.RowKit
set_option linter.unusedVariables false
set_option maxHeartbeats 2000000 in
theorem pays4 (ps ws zs : List Int) (v u : Value) (w : World) (hn : zs.length ≤ 1048576) (h : TreeV w w.heap.size v ps ws) (hu : IntsV w w.heap.size u zs) :
    Calls Try.prog 145 #[v, u] w (Gives (.bool (procB ps ws zs)) w) := by
  have G := Lib.hid (fun w' (hb : Below w.heap.size w w') => goodS ps ws v w' (h.boxed hb))
  obtain ⟨v1, v2, rfl, ⟨p1, c1, rfl, l1, m1, _, i1⟩, ⟨p2, c2, rfl, l2, m2, _, i2⟩⟩ := h
  unfold maxLen at m1
  obtain ⟨q, cq, rfl, lq, mq, zq, iq⟩ := hu
  have E1 := Lib.hid iq
  clear iq zq mq i1 i2 m2
  have D : Hid (procB ps ws zs = (goodT ps ws && (decide (zs.length = ps.length) && withinB 999 zs))) := Lib.hid rfl
  have B1 := (Below.refl w.heap.size w).alloc (Nat.le_refl _) (.cells #[.slice p1 ps.length c1, .slice p2 ws.length c2] 29)
  have T1 := Lib.hid (show TBox (w.alloc (.cells #[.slice p1 ps.length c1, .slice p2 ws.length c2] 29)) w.heap.size (.slice p1 ps.length c1) (.slice p2 ws.length c2) from alloc_heap w _)
  obtain ⟨wa, hwa⟩ : ∃ wa, wa = w.alloc (.cells #[.slice p1 ps.length c1, .slice p2 ws.length c2] 29) := ⟨_, rfl⟩
  rw [← hwa] at B1 T1
  have HBA := Lib.hid B1
  clear B1
  go_enter Try.func145, Try.ntmps145
  go_wp2
  rw [← hwa]
  clear hwa
  go_loopw [5] (fun i wr => ∃ k : Nat, k ≤ zs.length ∧ i = .int .i64 k ∧ Hid (∀ j, j < k → -999 ≤ zs.getD j 0 ∧ zs.getD j 0 ≤ 999) ∧ ∃ n, wr = wa.drewN n) (fun i _ => zs.length - (intOf i).toNat)
  case atStart => exact ⟨0, Nat.zero_le _, rfl, Lib.hid (fun j hj => by omega), 0, rfl⟩
  case round =>
    obtain ⟨k, hk, rfl, HA, n, rfl⟩ := hrel
    by_cases hlt : k < zs.length
    · obtain ⟨b, off, rfl, hb, hc⟩ := E1.out.get hlt
      have hcw : wa.cell? ⟨b, off + k, none⟩ = some (.int .i64 (zs.getD k 0)) := by rw [HBA.out.cell (p := ⟨b, off + k, none⟩) hb]; exact hc
      have i0 : (0 : Int) ≤ (k : Int) := by omega
      have i1 : (k : Int) < (zs.length : Int) := by omega
      have NO := Lib.hid (within_no (m := 999) hlt)
      have NX : Hid (-999 ≤ zs.getD k 0 ∧ zs.getD k 0 ≤ 999 → ∀ j, j < k + 1 → -999 ≤ zs.getD j 0 ∧ zs.getD j 0 ≤ 999) := Lib.hid (fun h j hj => by
        rcases Nat.lt_or_ge j k with h' | h'
        · exact HA.out j h'
        · obtain rfl : j = k := by omega
          exact h)
      obtain ⟨z, hz⟩ : ∃ z, z = zs.getD k 0 := ⟨_, rfl⟩
      rw [← hz] at hcw NO NX
      clear hc hz HA
      by_cases hin : -999 ≤ z ∧ z ≤ 999
      · have I := Lib.hid (fun w => inS_true z (-999) 999 w hin)
        have N2 := Lib.hid (NX.out hin)
        clear NX NO hin
        go_wp2_with fail
        refine (I.out _).mono ?_
        rintro e w1 ⟨rfl, rfl⟩
        go_wp2_with fail
        go_roundw
        case rel => exact ⟨k + 1, by omega, by go_num, N2, _, rfl⟩
        case measure => simp [intOf]; omega
      · have I := Lib.hid (fun w => inS_false z (-999) 999 w hin)
        have N2 := Lib.hid (NO.out hin)
        have R := Lib.hid (show procB ps ws zs = false by rw [D.out, N2.out, Bool.and_false, Bool.and_false])
        clear NX NO hin N2
        go_wp2_with fail
        refine (I.out _).mono ?_
        rintro e w1 ⟨rfl, rfl⟩
        go_wp2_with fail
        go_ret
        exact ⟨ret_b R.out, below_drewN HBA.out n⟩
    · have WI : Hid (withinB 999 zs = true) := Lib.hid (within_yes (fun i hi => HA.out i (by omega)))
      have R := Lib.hid (show procB ps ws zs = (goodT ps ws && decide (zs.length = ps.length)) by rw [D.out, WI.out, Bool.and_true])
      have HBN : Hid (Below w.heap.size w (wa.drewN n)) := Lib.hid (below_drewN HBA.out n)
      have TN : Hid (TBox (wa.drewN n) w.heap.size (.slice p1 ps.length c1) (.slice p2 ws.length c2)) := T1
      obtain ⟨wb, hwb⟩ : ∃ wb, wb = wa.drewN n := ⟨_, rfl⟩
      rw [← hwb] at HBN TN ⊢
      obtain ⟨x0, x1⟩ := TN.out.cells
      clear hwb HA WI
      cases hg : goodT ps ws
      · rw [hg] at G R
        clear hg
        go_wp2_with fail
        refine (G.out _ HBN.out).mono ?_
        rintro e w1 ⟨rfl, b1⟩
        have HB1 := Lib.hid (HBN.out.trans (b1.mono HBN.out.size))
        clear b1
        go_wp2_with fail
        go_ret
        exact ⟨ret_b (by rw [R.out]; rfl), HB1.out⟩
      · rw [hg] at G R
        clear hg
        have R2 : Hid (procB ps ws zs = ((zs.length : Int) == (ps.length : Int))) := Lib.hid (by
          rw [R.out, Bool.true_and, Bool.eq_iff_iff, decide_eq_true_iff, beq_iff_eq]; omega)
        go_wp2_with fail
        refine (G.out _ HBN.out).mono ?_
        rintro e w1 ⟨rfl, b1⟩
        have HB1 := Lib.hid (HBN.out.trans (b1.mono HBN.out.size))
        obtain ⟨y0, y1⟩ := (TN.out.below b1 TN.out.lt).cells
        clear b1 x0 x1
        go_wp2_with fail
        go_ret
        exact ⟨ret_b R2.out, HB1.out⟩
end Go.Proofs.Ytligidmkhbcpmac
namespace Go.Proofs.Ytligidmkhbcpmac
open Go.RowKit
set_option linter.unusedVariables false
/-- Whether node x is in the cut at the time d. -/
def cutB (ps ws : List Int) (d : Int) (x : Nat) : Bool := (depthsT ps).getD x 0 == d || (decide ((depthsT ps).getD x 0 < d) && decide (0 < ws.getD x 0))
def cutT (ps ws : List Int) (d : Int) : List Int := nodesW (cutB ps ws d) ps.length
theorem ne_grown {w w3 : World} {r : Option Nat} {g : Nat} (hg : w.grownBy w3 r) (hs : g < w.heap.size) (hne : ∀ q, r = some q → q ≠ g) (o : Nat) : w3.cell? ⟨g, o, none⟩ = w.cell? ⟨g, o, none⟩ :=
  World.cell?_of_block (hg.block g hs (fun e => hne g e.symm rfl))
end Go.Proofs.Ytligidmkhbcpmac
namespace Go.Proofs.Ytligidmkhbcpmac
open Go.RowKit
set_option linter.unusedVariables false
theorem own_take {su zs : List Int} {n k : Nat} (h : k < n) : (ownT su zs n).take (k + 1) = (ownT su zs n).take k ++ [su.getD k 0 * zs.getD k 0] := by
  have hl : k < (ownT su zs n).length := by rw [ownT_len]; exact h
  rw [List.take_succ_eq_append_getElem hl]
  congr 2
  have := ownT_at (su := su) (zs := zs) h
  rw [List.getD_eq_getElem?_getD, List.getElem?_eq_getElem hl] at this
  exact this
set_option maxRecDepth 100000 in
set_option maxHeartbeats 8000000 in
theorem bal4S (ps ws zs : List Int) (v u : Value) (w : World) (pr : Proc ps ws zs) (h : TreeV w w.heap.size v ps ws) (hu : IntsV w w.heap.size u zs) :
    Calls Try.prog 156 #[v, u] w (Gives (.bool (steB ps ws zs true)) w) := by
  have gd := pr.good
  have SU := Lib.hid (fun w' (hb : Below w.heap.size w w') => sumsS ps ws v w' gd (h.boxed hb))
  have KS := Lib.hid (fun w' u2 (hb : Below w.heap.size w w') (x : Nat) (hx : x < ps.length) (hv : IntsV w' w'.heap.size u2 (ownT (sumsT ps ws) zs ps.length)) => kids4S ps ws (ownT (sumsT ps ws) zs ps.length) v u2 x w' gd hx (ownT_len _ _ _) (fun y hy => by have := own_small pr hy; rw [ownT_at hy]; omega) (h.boxed hb) hv)
  have hn24 := gd.n24
  have hn0 := gd.n1
  have WE := Lib.hid (fun (x : Nat) (hx : x < ps.length) => gd.end_iff hx)
  have WD := Lib.hid (fun (x : Nat) (hx : x < ps.length) => gd.w_bd hx)
  have NW := Lib.hid gd.nw
  have ZL := Lib.hid pr.len
  have SL := Lib.hid (sumsT_len gd.nw)
  have OB := Lib.hid (fun (x : Nat) (hx : x < ps.length) => own_small pr hx)
  have TK := Lib.hid (fun (k : Nat) (hk : k < ps.length) => own_take (su := sumsT ps ws) (zs := zs) hk)
  have AT := Lib.hid (fun (k : Nat) (hk : k < ps.length) => ownT_at (su := sumsT ps ws) (zs := zs) hk)
  have OL := Lib.hid (ownT_len (sumsT ps ws) zs ps.length)
  have NO := Lib.hid (fun (x : Nat) hx h => bal_no pr (x := x) hx h)
  have YES := Lib.hid (fun h => bal_yes pr h)
  have BA := Lib.hid (fun (x : Nat) => show balAt ps ws zs x = (leafB ps x || decide ((ownT (sumsT ps ws) zs ps.length).getD x 0 = kidT ps (ownT (sumsT ps ws) zs ps.length) x)) from rfl)
  obtain ⟨v1, v2, rfl, ⟨p1, c1, rfl, l1, m1, _, i1⟩, ⟨p2, c2, rfl, l2, m2, _, i2⟩⟩ := h
  have W2 := Lib.hid i2
  obtain ⟨q, d, rfl, _, _, _, j1⟩ := hu
  have Q1 := Lib.hid j1
  clear j1 gd pr i1 i2 m1 m2 l1 l2
  obtain ⟨S, hS⟩ : ∃ S, S = sumsT ps ws := ⟨_, rfl⟩
  rw [← hS] at SU KS SL OB TK AT OL BA
  obtain ⟨O, hO⟩ : ∃ O, O = ownT S zs ps.length := ⟨_, rfl⟩
  rw [← hO] at KS TK AT OL BA
  clear hS hO
  obtain ⟨i0, hi, hz0, hz1, hz2⟩ := info_parts intInfo
  have B1 := (Below.refl w.heap.size w).alloc (Nat.le_refl _) (.cells #[.slice p1 ps.length c1, .slice p2 ws.length c2] 29)
  have T1 := Lib.hid (show TBox (w.alloc (.cells #[.slice p1 ps.length c1, .slice p2 ws.length c2] 29)) w.heap.size (.slice p1 ps.length c1) (.slice p2 ws.length c2) from alloc_heap w _)
  obtain ⟨x0, x1⟩ := T1.out.cells
  obtain ⟨wa, hwa⟩ : ∃ wa, wa = w.alloc (.cells #[.slice p1 ps.length c1, .slice p2 ws.length c2] 29) := ⟨_, rfl⟩
  have sz : wa.heap.size = w.heap.size + 1 := by rw [hwa]; simp
  rw [← hwa] at B1 T1
  have HBA := Lib.hid B1
  have SZ := Lib.hid sz
  clear B1 sz
  go_enter Try.func156, Try.ntmps156
  go_wp2_with fail
  rw [← hwa]
  clear hwa x0 x1
  refine (SU.out _ HBA.out).mono ?_
  rintro e w2 ⟨u2, rfl, o2, b2⟩
  obtain ⟨g, cs, rfl, hg1, hg2⟩ := o2.shape (by have := SL.out; omega)
  have HBP := HBA.out.trans (b2.mono HBA.out.size)
  have HTP := T1.out.below b2 T1.out.lt
  have L1 : w.heap.size + 1 ≤ w2.heap.size := HTP.lt
  have HB2 := Lib.hid (HBP.alloc HBP.size (.cells #[] 3))
  have HT2 := Lib.hid (HTP.alloc (.cells #[] 3))
  have HO2 := Lib.hid (OwnV.empty w2 (w.heap.size + 1) L1)
  have DC : Hid (∀ j, j < ps.length → (w2.alloc (.cells #[] 3)).cell? ⟨g, j, none⟩ = some (.int .i64 (S.getD j 0))) := Lib.hid (fun j hj => by
    rw [World.cell?_alloc_lt _ _ _ (by exact hg2)]
    exact o2.cellGet (j := j) (by have := SL.out; omega))
  have HGD := Lib.hid (show g < (w2.alloc (.cells #[] 3)).heap.size from by simp; omega)
  have HGL := Lib.hid hg2
  clear b2 o2 T1 HBA hg1 hg2 HBP HTP L1
  obtain ⟨sn, hsn⟩ : ∃ sn, sn = S.length := ⟨_, rfl⟩
  have le3 : sn ≤ ps.length := by have := SL.out; omega
  have le4 : ps.length ≤ sn := by have := SL.out; omega
  have le1 : zs.length ≤ ps.length := by have := ZL.out; omega
  have le2 : ps.length ≤ zs.length := by have := ZL.out; omega
  rw [← hsn]
  clear hsn
  go_wp2_with fail
  go_loopw [6, 7] (fun o i wr => ∃ k go co : Nat, k ≤ ps.length ∧ i = .int .i64 k ∧ o = .slice (some ⟨go, 0, none⟩) (O.take k).length co ∧ Hid (OwnV wr (w.heap.size + 1) wr.heap.size (.slice (some ⟨go, 0, none⟩) (O.take k).length co) (O.take k)) ∧ Hid (go ≠ g) ∧ Hid (∀ j, j < ps.length → wr.cell? ⟨g, j, none⟩ = some (.int .i64 (S.getD j 0))) ∧ Hid (g < wr.heap.size) ∧ Hid (TBox wr w.heap.size (.slice p1 ps.length c1) (.slice p2 ws.length c2)) ∧ Hid (Below w.heap.size w wr)) (fun _ i _ => ps.length - (intOf i).toNat)
  case atStart => exact ⟨0, _, _, Nat.zero_le _, rfl, rfl, HO2, Lib.hid (by have := HGL.out; omega), DC, HGD, HT2, HB2⟩
  case round =>
    clear HO2 HT2 HB2 DC HGD
    obtain ⟨k, go, co, hk, rfl, rfl, HO, HQ, HD, HG, HT, HB⟩ := hrel
    obtain ⟨x0, x1⟩ := HT.out.cells
    by_cases hlt : k < ps.length
    · obtain ⟨bz, oz, hqz, hbz, hcz⟩ := Q1.out.get (i := k) (by omega)
      subst hqz
      have hz_k : wr.cell? ⟨bz, oz + k, none⟩ = some (.int .i64 (zs.getD k 0)) := by rw [HB.out.cell (p := ⟨bz, oz + k, none⟩) hbz, hcz]
      have hdk := HD.out k hlt
      have ob := OB.out k hlt
      have E := Lib.hid (TK.out k hlt)
      obtain ⟨dk, hdk2⟩ : ∃ t, t = S.getD k 0 := ⟨_, rfl⟩
      obtain ⟨zk, hzk⟩ : ∃ t, t = zs.getD k 0 := ⟨_, rfl⟩
      rw [← hdk2] at hdk ob E
      rw [← hzk] at hz_k ob E
      have lk : (O.take k).length = k := by rw [List.length_take, OL.out]; omega
      obtain ⟨L, hL⟩ : ∃ L, L = O.take k := ⟨_, rfl⟩
      rw [← hL] at HO E lk ⊢
      have IX := Lib.hid (show InI64 (dk * zk) by unfold InI64; omega)
      have i0' : (0 : Int) ≤ (k : Int) := by omega
      have i1' : (k : Int) < (ps.length : Int) := by omega
      have i2' : (k : Int) < (zs.length : Int) := by omega
      have i3' : (k : Int) < (sn : Int) := by omega
      have le5 : L.length ≤ k := by omega
      have le6 : k ≤ L.length := by omega
      have WE : Hid ((IntKind.i64.wrap (dk * zk)) = dk * zk) := Lib.hid (by rw [IntWalk.i64_in _ (by omega)])
      have hown := HO.out.row
      have hsz := HT.out.lt
      have hgl := HG.out
      clear ob lk hcz hdk2 hzk hbz hL
      have HOD := Lib.hid ((HO.out.below (below_drew (Below.refl _ _))).wide (Below.size (below_drew (Below.refl wr.heap.size wr))) (Nat.le_refl _))
      have hsd : w.heap.size < wr.drew.heap.size := hsz
      have HOA : Hid ((wr.alloc (.cells #[.int .i64 (IntKind.i64.wrap (dk * zk))] 3)).drew.ownsRow (w.heap.size + 1) 3 1 (.slice (some ⟨go, 0, none⟩) L.length co) L.length (L.map (.int .i64))) := Lib.hid (HO.out.row.alloc _)
      have HNA : Hid (∀ j u, [Value.int .i64 (IntKind.i64.wrap (dk * zk))][j]? = some u → (wr.alloc (.cells #[.int .i64 (IntKind.i64.wrap (dk * zk))] 3)).drew.cell? ((⟨wr.heap.size, 0, none⟩ : Addr).add j) = some u) := Lib.hid (cell_one_new wr _ 3)
      clear hown
      go_wp2_with fail
      go_region_law (refine step_append_lies _ rfl _ _ 22 rfl (w.heap.size + 1) 3 i0 (.int .i64 0) 1 8 Try.underlying22 hi hz0 hz1 hz2 rfl (by decide) _ L.length (L.map (.int .i64)) rfl HOA.out ⟨wr.heap.size, 0, none⟩ 1 1 [.int .i64 (IntKind.i64.wrap (dk * zk))] rfl rfl HNA.out (fun u hu => by simp at hu; subst hu; rfl) (by omega) (by unfold maxLen; omega) (by omega) (by simp; omega) _ rfl ?_; intro g4 cap4 w4 hown3 hgrow3 hat3 hlt3)
      all_goals
        rw [WE.out] at hown3 hgrow3
        have own3 := Lib.hid (HOD.out.app IX.out hown3)
        have bel3 := Lib.hid ((below_drew (HB.out.alloc HB.out.size _)).grown hgrow3 (by simp; omega) (fun q hq => by have := (HOA.out.lt q hq).1; omega))
        have box3 := Lib.hid (((HT.out.alloc (.cells #[.int .i64 (dk * zk)] 3)).below (below_drew (Below.refl _ _)) (HT.out.alloc (.cells #[.int .i64 (dk * zk)] 3)).lt).grown hgrow3 (fun q hq => (HOA.out.lt q hq).1) (by omega))
        have q3 : Hid (g4 ≠ g) := Lib.hid (by
          rcases hat3 with h | h
          · have h' : (some go : Option Nat) = some g4 := h
            injection h' with h'; have := HQ.out; omega
          · simp at h; omega)
        have d3 : Hid (∀ j, j < ps.length → w4.cell? ⟨g, j, none⟩ = some (.int .i64 (S.getD j 0))) := Lib.hid (fun j hj => by
          rw [ne_grown hgrow3 (by simp; omega) (fun q hq => by have h' : (some go : Option Nat) = some q := hq; injection h' with h'; have := HQ.out; omega)]
          show (wr.alloc _).cell? _ = _
          rw [World.cell?_alloc_lt _ _ _ (by exact hgl)]; exact HD.out j hj)
        have g3 : Hid (g < w4.heap.size) := Lib.hid (by have := hgrow3.size; simp at this; omega)
        clear hown3 hgrow3 hat3 hlt3
        go_wp2_with fail
        go_roundw
        case rel => exact ⟨k + 1, _, _, by omega, by go_num, by rw [E.out]; simp; rfl, Lib.hid (by rw [E.out]; simpa using own3.out), q3, d3, g3, box3, bel3⟩
        case measure => simp [intOf]; omega
    · have hkn : k = ps.length := by omega
      have HOT := HO.out
      rw [List.take_of_length_le (by rw [OL.out]; omega)] at HOT ⊢
      have HO2 := Lib.hid HOT
      obtain ⟨w3, hw3⟩ : ∃ w3, w3 = wr := ⟨_, rfl⟩
      rw [← hw3] at HO2 HT HB ⊢
      have OC := Lib.hid (fun j (hj : j < ps.length) => HO2.out.cellGet (j := j) (by rw [OL.out]; exact hj))
      have GO : Hid (go < w3.heap.size) := Lib.hid (HO2.out.lt go (by simp [Value.ownBlock]))
      have OI := Lib.hid HO2.out.intsV
      have i2' : ¬ (k : Int) < (zs.length : Int) := by omega
      obtain ⟨ol, hol⟩ : ∃ ol, ol = O.length := ⟨_, rfl⟩
      rw [← hol] at OI HO2 ⊢
      have le5 : ol ≤ ps.length := by have := OL.out; omega
      have le6 : ps.length ≤ ol := by have := OL.out; omega
      rw [← hw3] at x0 x1
      clear HOT HO hkn HQ HD HG hw3 hol
      go_wp2_with fail
      go_loopw [8] (fun i wr => ∃ k : Nat, k ≤ ps.length ∧ i = .int .i64 k ∧ Hid (∀ x, x < k → balAt ps ws zs x = true) ∧ Hid (Below w3.heap.size w3 wr)) (fun i _ => ps.length - (intOf i).toNat)
      case atStart => exact ⟨0, Nat.zero_le _, rfl, Lib.hid (fun x hx => by omega), Lib.hid (Below.refl _ _)⟩
      case round =>
        clear x0 x1
        obtain ⟨k, hk, rfl, HA, HBW⟩ := hrel
        have HBX := Lib.hid (HB.out.trans (HBW.out.mono HB.out.size))
        have HTX := Lib.hid (HT.out.below HBW.out HT.out.lt)
        obtain ⟨x0, x1⟩ := HTX.out.cells
        by_cases hlt : k < ps.length
        · obtain ⟨b, off, hq, hb, hc⟩ := W2.out.get (i := k) (by have := NW.out; omega)
          subst hq
          have hcw : wr.cell? ⟨b, off + k, none⟩ = some (.int .i64 (ws.getD k 0)) := by rw [HBX.out.cell (p := ⟨b, off + k, none⟩) hb]; exact hc
          have hco : wr.cell? ⟨go, k, none⟩ = some (.int .i64 (O.getD k 0)) := by rw [HBW.out.cell (p := ⟨go, k, none⟩) GO.out]; exact OC.out k hlt
          have we := WE.out k hlt
          have wd := WD.out k hlt
          have ba := BA.out k
          have NX : Hid (balAt ps ws zs k = true → ∀ x, x < k + 1 → balAt ps ws zs x = true) := Lib.hid (fun h x hx => by
            rcases Nat.lt_or_ge x k with h' | h'
            · exact HA.out x h'
            · obtain rfl : x = k := by omega
              exact h)
          have NK := Lib.hid (NO.out k hlt)
          have i0' : (0 : Int) ≤ (k : Int) := by omega
          have i1' : (k : Int) < (ps.length : Int) := by omega
          have i2' : (k : Int) < (zs.length : Int) := by omega
          have i3' : (k : Int) < (ws.length : Int) := by have := NW.out; omega
          have i4' : (k : Int) < (ol : Int) := by omega
          obtain ⟨wk, hwk⟩ : ∃ wk, wk = ws.getD k 0 := ⟨_, rfl⟩
          rw [← hwk] at hcw we wd
          clear hc hwk hb HA
          by_cases h1 : wk = 0
          · have hl : leafB ps k = false := by
              cases hl : leafB ps k
              · rfl
              · have := we.2 hl; omega
            rw [hl, Bool.false_or] at ba
            have CK : Hid (∀ w', Hid (Below wr.heap.size wr w') → Calls Try.prog 200 #[.agg #[.slice p1 ps.length c1, .slice (some ⟨b, off, none⟩) ws.length c2], .slice (some ⟨go, 0, none⟩) ol co, .int .i64 (k : Int)] w' (Gives (.int .i64 (kidT ps O k)) w')) := Lib.hid (fun w' hb => KS.out w' _ (hb_full HBX hb) k hlt ((OI.out.below (HBW.out.trans (hb.out.mono HBW.out.size))).more (Nat.le_trans HBW.out.size hb.out.size)))
            have hgw : go < wr.heap.size := Nat.lt_of_lt_of_le GO.out HBW.out.size
            have KC : Hid (∀ w', Hid (Below wr.heap.size wr w') → w'.cell? ⟨w.heap.size, 0, none⟩ = some (.slice p1 ps.length c1) ∧ w'.cell? ⟨w.heap.size, 1, none⟩ = some (.slice (some ⟨b, off, none⟩) ws.length c2) ∧ w'.cell? ⟨go, k, none⟩ = some (.int .i64 (O.getD k 0))) := Lib.hid (fun w' hb => ⟨(HTX.out.below hb.out HTX.out.lt).cells.1, (HTX.out.below hb.out HTX.out.lt).cells.2, (hb.out.cell (p := ⟨go, k, none⟩) hgw).trans hco⟩)
            obtain ⟨ok, hok⟩ : ∃ ok, ok = O.getD k 0 := ⟨_, rfl⟩
            obtain ⟨kk, hkk⟩ : ∃ kk, kk = kidT ps O k := ⟨_, rfl⟩
            rw [← hok] at hco ba KC
            rw [← hkk] at CK ba
            have hw0 : (wk == 0) = true := by simp [h1]
            subst h1
            have HD : Hid (Below wr.heap.size wr wr.drew) := Lib.hid (below_drew (Below.refl _ _))
            clear hok hkk we wd hw0
            have hwz : ((0 : Int) == 0) = true := rfl
            go_upto_region 9 with fail
            go_region_with (first
              | (go_at_call 200; (with_reducible refine (CK.out _ HD).mono ?_); rintro e w7 ⟨rfl, b7⟩; (have HB7 := hb_next (wa := wr) HD b7); (obtain ⟨z0, z1, z2⟩ := KC.out w7 HB7); clear b7))
            all_goals
              have HBY := Lib.hid (HBW.out.trans (HB7.out.mono HBW.out.size))
              have HBZ := Lib.hid (HB.out.trans (HBY.out.mono HB.out.size))
              by_cases h2 : ok = kk
              · have R := Lib.hid (NX.out (by rw [ba, decide_eq_true h2]))
                have hne : (ok != kk) = false := by simp [h2]
                clear NX NK ba h2
                go_wp2_with fail
                go_roundw
                case rel => exact ⟨k + 1, by omega, by go_num, R, HBY⟩
                case measure => simp [intOf]; omega
              · have R := Lib.hid (NK.out (by rw [ba, decide_eq_false h2]))
                have hne : (ok != kk) = true := by simpa using h2
                clear NX NK ba h2
                go_wp2_with fail
                go_ret
                exact ⟨ret_b R.out, HBZ.out⟩
          · have hl : leafB ps k = true := we.1 (by omega)
            have R := Lib.hid (NX.out (by rw [ba, hl]; rfl))
            have hw0 : (wk == 0) = false := by simp [h1]
            have HBD := HBW
            clear NX NK ba we
            go_upto_region 9 with fail
            go_quiet (fail)
            go_wp2_with fail
            go_roundw
            case rel => exact ⟨k + 1, by omega, by go_num, R, Lib.hid (by first | exact HBW.out | exact below_drew HBW.out | exact below_drewN HBW.out _)⟩
            case measure => simp [intOf]; omega
        · have R := Lib.hid (YES.out (fun x hx => HA.out x (by omega)))
          have i2' : ¬ (k : Int) < (zs.length : Int) := by omega
          clear HA
          go_wp2_with fail
          go_ret
          exact ⟨ret_b R.out, HBX.out⟩
end Go.Proofs.Ytligidmkhbcpmac
namespace Go.Proofs.Ytligidmkhbcpmac
set_option linter.unusedVariables false
theorem wayT_zero {ps : List Int} (h : 0 < ps.length) : wayT ps ((0 : Nat) : Int) = [0] := by
  unfold wayT; rw [Int.toNat_natCast, wayA_zero h]; rfl
theorem wayT_step {ps : List Int} (hp : ParOk ps) {x : Nat} (h0 : 0 < x) (hx : x < ps.length) : wayT ps (x : Int) = wayT ps (((ps.getD x 0).toNat : Nat) : Int) ++ [(x : Int)] := by
  unfold wayT; rw [Int.toNat_natCast, Int.toNat_natCast, wayA_step hp h0 hx, List.reverse_cons]
/-- What is passed down is what is gathered on the way. -/
theorem fold_way {ps : List Int} (hp : ParOk ps) (a0 : Int) (f : Int → Int → Int) : ∀ x, x < ps.length → (wayT ps (x : Int)).foldl f a0 = (passT ps a0 (fun a x => f a (x : Int))).getD x 0 := by
  refine tree_ind hp (fun h => ?_) (fun x h0 hx ih => ?_)
  · rw [wayT_zero h, passT_zero ps a0 _ (by omega)]; rfl
  · rw [wayT_step hp h0 hx, List.foldl_append, ih, passT_step ps a0 _ h0 hx (par_lt hp h0 hx)]; rfl
structure Way (ps : List Int) (x : Nat) : Prop where
  len : 0 < (wayT ps (x : Int)).length ∧ (wayT ps (x : Int)).length ≤ x + 1
  first : (wayT ps (x : Int)).getD 0 0 = 0
  last : (wayT ps (x : Int)).getD ((wayT ps (x : Int)).length - 1) 0 = (x : Int)
  node : ∀ j, j < (wayT ps (x : Int)).length → 0 ≤ (wayT ps (x : Int)).getD j 0 ∧ (wayT ps (x : Int)).getD j 0 ≤ (x : Int)
  par : ∀ j, j + 1 < (wayT ps (x : Int)).length → 0 < (wayT ps (x : Int)).getD (j + 1) 0 ∧ ps.getD ((wayT ps (x : Int)).getD (j + 1) 0).toNat 0 = (wayT ps (x : Int)).getD j 0
theorem way_all {ps : List Int} (hp : ParOk ps) : ∀ x, x < ps.length → Way ps x := by
  refine tree_ind hp (fun h => ?_) (fun x h0 hx ih => ?_)
  · have e := wayT_zero h
    exact ⟨by rw [e]; simp, by rw [e]; rfl, by rw [e]; rfl, fun j hj => by
      rw [e] at hj ⊢
      obtain rfl : j = 0 := by simpa using hj
      simp, fun j hj => by rw [e] at hj; simp at hj⟩
  · have hl := par_lt hp h0 hx
    have hq := (hp x h0 hx).1
    have e := wayT_step hp h0 hx
    obtain ⟨l1, f1, la1, n1, p1⟩ := ih
    obtain ⟨W, hW⟩ : ∃ W, W = wayT ps (((ps.getD x 0).toNat : Nat) : Int) := ⟨_, rfl⟩
    rw [← hW] at l1 f1 la1 n1 p1 e
    have ll : (W ++ [(x : Int)]).length = W.length + 1 := by simp
    have gl : (W ++ [(x : Int)]).getD W.length 0 = (x : Int) := getD_app_right
    refine ⟨by rw [e, ll]; omega, by rw [e, getD_app_left l1.1]; exact f1, by rw [e, ll, Nat.add_sub_cancel]; exact gl, fun j hj => ?_, fun j hj => ?_⟩
    · rw [e, ll] at hj
      rw [e]
      rcases Nat.lt_or_ge j W.length with h | h
      · rw [getD_app_left h]; have := n1 j h; omega
      · obtain rfl : j = W.length := by omega
        rw [gl]; omega
    · rw [e, ll] at hj
      rw [e]
      rcases Nat.lt_or_ge (j + 1) W.length with h | h
      · rw [getD_app_left h, getD_app_left (by omega)]; exact p1 j h
      · obtain rfl : j = W.length - 1 := by omega
        rw [show W.length - 1 + 1 = W.length by omega, gl, getD_app_left (by omega), la1, Int.toNat_natCast]
        omega
end Go.Proofs.Ytligidmkhbcpmac
namespace Go.Proofs.Ytligidmkhbcpmac
set_option linter.unusedVariables false
def maxI (a b : Int) : Int := if a < b then b else a
def highT (ps zs : List Int) : List Int := passT ps (-999) (fun a x => maxI a (zs.getD x 0))
theorem high_bd {ps ws zs : List Int} (p : Proc ps ws zs) : ∀ x, x < ps.length → -999 ≤ (highT ps zs).getD x 0 ∧ (highT ps zs).getD x 0 ≤ 999 := by
  have hp := ParOk.of p.good
  refine tree_ind hp (fun h => ?_) (fun x h0 hx ih => ?_)
  · unfold highT
    rw [passT_zero ps (-999) _ (by omega)]
    have := p.bd 0 (by have := p.len; omega)
    unfold maxI
    split <;> omega
  · have hl := par_lt hp h0 hx
    unfold highT at ih ⊢
    rw [passT_step ps (-999) _ h0 hx hl]
    have h3 := p.bd x (by have := p.len; omega)
    have h4 : ∀ a b : Int, -999 ≤ a ∧ a ≤ 999 → -999 ≤ b ∧ b ≤ 999 → -999 ≤ maxI a b ∧ maxI a b ≤ 999 := fun a b h h' => by unfold maxI; split <;> omega
    exact h4 _ _ ih h3
/-- What the model gathers. -/
theorem high_fold {ps ws zs : List Int} (p : Proc ps ws zs) {x : Nat} (hx : x < ps.length) : (wayT ps (x : Int)).foldl (fun a y => maxI a (zs.getD y.toNat 0)) (zs.getD 0 0) = (highT ps zs).getD x 0 := by
  have hp := ParOk.of p.good
  have h1 := fold_way hp (-999) (fun a y => maxI a (zs.getD y.toNat 0)) x hx
  have w := way_all hp x hx
  have hb := p.bd 0 (by have := p.len; have := p.good.n1; omega)
  have hf := w.first
  have hl := w.len
  unfold highT
  simp only [Int.toNat_natCast] at h1
  rw [← h1]
  cases hW : wayT ps (x : Int) with
  | nil => rw [hW] at hl; simp at hl
  | cons a R =>
    rw [hW] at hf
    simp at hf
    subst hf
    rw [List.foldl_cons, List.foldl_cons]
    congr 1
    simp only [Int.toNat_zero]
    unfold maxI
    split <;> split <;> omega
/-- What a function of a process returns. -/
def ifProc (ps ws zs L : List Int) : List Int := if procB ps ws zs = true then L else []
def highE (ps zs : List Int) : List Int := (endsT ps).map fun e => (highT ps zs).getD e.toNat 0
theorem map_at {E : List Int} (f : Int → Int) {k : Nat} (hk : k < E.length) : (E.map f).getD k 0 = f (E.getD k 0) := by
  rw [List.getD_eq_getElem?_getD, List.getElem?_map, List.getElem?_eq_getElem hk, List.getD_eq_getElem?_getD, List.getElem?_eq_getElem hk]; rfl
theorem ends_map_len (ps ws zs : List Int) (f : Int → Int) : (ifProc ps ws zs ((endsT ps).map f)).length ≤ 1048576 := by
  unfold ifProc
  split
  · rename_i h
    have h1 := (procB_iff.1 h).good.n24
    have h2 := nodesW_len (leafB ps) ps.length
    rw [List.length_map, endsT_eq]; omega
  · simp
theorem fold_take {f : Int → Int → Int} {a : Int} {l : List Int} {k : Nat} (h : k < l.length) : (l.take (k + 1)).foldl f a = f ((l.take k).foldl f a) (l.getD k 0) := by
  rw [List.take_succ_eq_append_getElem h, List.foldl_append, List.getD_eq_getElem?_getD, List.getElem?_eq_getElem h]; rfl
end Go.Proofs.Ytligidmkhbcpmac
namespace Go.Proofs.Ytligidmkhbcpmac
open Go.RowKit
set_option linter.unusedVariables false
/-- The greatest of what payments are more than the numbers of a list, on the way. -/
def bndT (ps zs ns : List Int) : List Int := passT ps (-1998) (fun a x => maxI a (zs.getD x 0 - ns.getD x 0))
theorem bndT_len (ps zs ns : List Int) : (bndT ps zs ns).length = ps.length := passT_len _ _ _
theorem bnd_bd {ps ws zs ns : List Int} (p : Proc ps ws zs) (q : Proc ps ws ns) : ∀ x, x < ps.length → -1998 ≤ (bndT ps zs ns).getD x 0 ∧ (bndT ps zs ns).getD x 0 ≤ 1998 := by
  have hp := ParOk.of p.good
  refine tree_ind hp (fun h => ?_) (fun x h0 hx ih => ?_)
  · unfold bndT
    rw [passT_zero ps (-1998) _ (by omega)]
    have := p.bd 0 (by have := p.len; omega)
    have := q.bd 0 (by have := q.len; omega)
    unfold maxI
    split <;> omega
  · have hl := par_lt hp h0 hx
    unfold bndT at ih ⊢
    rw [passT_step ps (-1998) _ h0 hx hl]
    have h3 := p.bd x (by have := p.len; omega)
    have h5 := q.bd x (by have := q.len; omega)
    have h4 : ∀ a b : Int, -1998 ≤ a ∧ a ≤ 1998 → -1998 ≤ b ∧ b ≤ 1998 → -1998 ≤ maxI a b ∧ maxI a b ≤ 1998 := fun a b h h' => by unfold maxI; split <;> omega
    exact h4 _ _ ih (by omega)
/-- What the model gathers. -/
theorem bnd_fold {ps ws zs ns : List Int} (p : Proc ps ws zs) (q : Proc ps ws ns) {x : Nat} (hx : x < ps.length) : (wayT ps (x : Int)).foldl (fun a y => maxI a (zs.getD y.toNat 0 - ns.getD y.toNat 0)) (zs.getD 0 0 - ns.getD 0 0) = (bndT ps zs ns).getD x 0 := by
  have hp := ParOk.of p.good
  have h1 := fold_way hp (-1998) (fun a y => maxI a (zs.getD y.toNat 0 - ns.getD y.toNat 0)) x hx
  have w := way_all hp x hx
  have hb := p.bd 0 (by have := p.len; have := p.good.n1; omega)
  have hb2 := q.bd 0 (by have := q.len; have := p.good.n1; omega)
  have hf := w.first
  have hl := w.len
  unfold bndT
  simp only [Int.toNat_natCast] at h1
  rw [← h1]
  cases hW : wayT ps (x : Int) with
  | nil => rw [hW] at hl; simp at hl
  | cons a R =>
    rw [hW] at hf
    simp at hf
    subst hf
    rw [List.foldl_cons, List.foldl_cons]
    congr 1
    simp only [Int.toNat_zero]
    unfold maxI
    split <;> split <;> omega
/-- The numbers of the ends. -/
def bndE (ps zs ns : List Int) : List Int := (endsT ps).map fun e => (bndT ps zs ns).getD e.toNat 0 + ns.getD 0 0
theorem bndE_len (ps zs ns : List Int) : (bndE ps zs ns).length = (endsT ps).length := by simp [bndE]
theorem bndE_at {ps ws zs ns : List Int} (p : Proc ps ws zs) {x : Nat} (hx : x < ps.length) (hl : leafB ps x = true) : (bndE ps zs ns).getD (rankL ps x) 0 = (bndT ps zs ns).getD x 0 + ns.getD 0 0 := by
  obtain ⟨h1, h2⟩ := rank_end hx hl
  unfold bndE
  rw [map_at _ h1, h2, Int.toNat_natCast]
theorem bndE_bd {ps ws zs ns : List Int} (p : Proc ps ws zs) (q : Proc ps ws ns) (i : Nat) : ((bndE ps zs ns).getD i 0).natAbs ≤ 2997 := by
  by_cases hi : i < (endsT ps).length
  · unfold bndE
    rw [map_at _ hi]
    obtain ⟨x, hx, hxl⟩ : ∃ x : Nat, (endsT ps).getD i 0 = (x : Int) ∧ x < ps.length := by
      have hm : (endsT ps).getD i 0 ∈ endsT ps := by
        rw [List.getD_eq_getElem?_getD, List.getElem?_eq_getElem hi]; exact List.getElem_mem hi
      rw [endsT_eq] at hm
      unfold nodesW at hm
      obtain ⟨x, hx, he⟩ := List.mem_map.1 hm
      exact ⟨x, by rw [endsT_eq]; unfold nodesW; omega, List.mem_range.1 (List.mem_filter.1 hx).1⟩
    rw [hx, Int.toNat_natCast]
    have h1 := bnd_bd p q x hxl
    have h2 := q.bd 0 (by have := q.len; have := p.good.n1; omega)
    omega
  · rw [List.getD_eq_getElem?_getD, List.getElem?_eq_none (by rw [bndE_len]; omega)]; simp
/-- What is summed up. -/
def bndV (ps ws zs ns : List Int) : List Int := valsT ps ws (bndE ps zs ns)
theorem bndV_at {ps ws zs ns : List Int} (p : Proc ps ws zs) {x : Nat} (hx : x < ps.length) : (bndV ps ws zs ns).getD x 0 = if leafB ps x = true then ws.getD x 0 * ((bndT ps zs ns).getD x 0 + ns.getD 0 0) else 0 := by
  unfold bndV
  rw [valsT_at hx]
  by_cases hl : leafB ps x = true
  · rw [if_pos hl, if_pos hl, bndE_at p hx hl]
  · rw [if_neg hl, if_neg hl]
def bndS (ps ws zs ns : List Int) : Int := (upL ps (bndV ps ws zs ns) (ps.length - 1)).getD 0 0
end Go.Proofs.Ytligidmkhbcpmac
namespace Go.Proofs.Ytligidmkhbcpmac
open Go.RowKit
set_option linter.unusedVariables false
set_option maxHeartbeats 1000000 in
theorem keptS_yes (n d : Int) (w : World) (h : isFr n d = true) :
    Calls Try.prog 209 #[.agg #[.int .i64 n, .int .i64 d]] w (Gives (.tuple #[.agg #[.int .i64 n, .int .i64 d], .bool true]) w) := by
  have F := Lib.hid (fun w => fracS n d w)
  rw [h] at F
  clear h
  have B2 := ((Below.refl w.heap.size w).alloc (Nat.le_refl _) (.cells #[.int .i64 n, .int .i64 d] 26)).alloc (by simp) (.cells #[.int .i64 0, .int .i64 0] 26)
  go_enter Try.func209, Try.ntmps209
  go_wp2_with fail
  refine (F.out (Blocks2 w n d 0 0)).mono ?_
  rintro e w1 ⟨rfl, b1⟩
  obtain ⟨x0, x1, c0, c1⟩ := cells2 b1
  have k1 := (b1.block (w.heap.size + 1) (by rw [blocks2_size]; omega)).trans (heap_two w (.cells #[.int .i64 n, .int .i64 d] 26) (.cells #[.int .i64 0, .int .i64 0] 26)).2
  have f0 := (cell_of_heap (o := 0) k1 rfl).2
  have f1 := (cell_of_heap (o := 1) k1 rfl).2
  have BB := Lib.hid ((blocks2_below w n d 0 0).trans (b1.mono (blocks2_below w n d 0 0).size))
  clear b1 B2 k1
  go_wp2_with fail
  refine bodyPost_ret (v := .tuple #[.agg #[.int .i64 n, .int .i64 d], .bool true]) (by simp [results, Try.results209, go_sem, c0, c1]) rfl ⟨rfl, ?_⟩
  exact (BB.out.setCell (p := ⟨w.heap.size + 1, 0, none⟩) (by simp) _).setCell (p := ⟨w.heap.size + 1, 1, none⟩) (by simp) _
set_option maxHeartbeats 1000000 in
theorem keptS_no (n d : Int) (w : World) (h : isFr n d = false) :
    Calls Try.prog 209 #[.agg #[.int .i64 n, .int .i64 d]] w (Gives zeroP w) := by
  have F := Lib.hid (fun w => fracS n d w)
  rw [h] at F
  clear h
  go_enter Try.func209, Try.ntmps209
  go_wp2_with fail
  refine (F.out (Blocks2 w n d 0 0)).mono ?_
  rintro e w1 ⟨rfl, b1⟩
  obtain ⟨x0, x1, c0, c1⟩ := cells2 b1
  have k1 := (b1.block (w.heap.size + 1) (by rw [blocks2_size]; omega)).trans (heap_two w (.cells #[.int .i64 n, .int .i64 d] 26) (.cells #[.int .i64 0, .int .i64 0] 26)).2
  have f0 := (cell_of_heap (o := 0) k1 rfl).2
  have f1 := (cell_of_heap (o := 1) k1 rfl).2
  have BB := Lib.hid ((blocks2_below w n d 0 0).trans (b1.mono (blocks2_below w n d 0 0).size))
  clear b1 k1
  go_wp2_with fail
  refine bodyPost_ret (v := .tuple #[.agg #[.int .i64 0, .int .i64 0], .bool false]) (by simp [results, Try.results209, go_sem, c0, c1]) rfl ⟨rfl, ?_⟩
  exact (BB.out.setCell (p := ⟨w.heap.size + 1, 0, none⟩) (by simp) _).setCell (p := ⟨w.heap.size + 1, 1, none⟩) (by simp) _
/-- What is kept of lowest terms. -/
theorem keptS_cut {a b : Int} (w : World) (hb : 0 < b) :
    Calls Try.prog 209 #[.agg #[.int .i64 (cutN a b), .int .i64 (cutD a b)]] w (Gives (keptV (cutN a b) (cutD a b)) w) := by
  have h := isFr_cut (a := a) hb
  unfold keptV
  cases hi : inB (cutN a b) (cutD a b)
  · rw [hi] at h; exact keptS_no _ _ w h
  · rw [hi] at h; exact keptS_yes _ _ w h
end Go.Proofs.Ytligidmkhbcpmac
namespace Go.Proofs.Ytligidmkhbcpmac
open Go.RowKit
set_option linter.unusedVariables false
/-- A box of a pair. -/
def PBox (w : World) (R : Nat) (a b : Int) : Prop := w.heap[R]? = some (.cells #[.int .i64 a, .int .i64 b] 26 (0, 0))
theorem PBox.below {w w1 : World} {R C : Nat} {a b : Int} (h : PBox w R a b) (hb : Below C w w1) (hR : R < C) : PBox w1 R a b := (hb.block R hR).trans h
theorem PBox.lt {w : World} {R : Nat} {a b : Int} (h : PBox w R a b) : R < w.heap.size := by unfold PBox at h; exact (Array.getElem?_eq_some_iff.1 h).1
theorem PBox.cells {w : World} {R : Nat} {a b : Int} (h : PBox w R a b) : w.cell? ⟨R, 0, none⟩ = some (.int .i64 a) ∧ w.cell? ⟨R, 1, none⟩ = some (.int .i64 b) ∧ w.frozen? ⟨R, 0, none⟩ = false ∧ w.frozen? ⟨R, 1, none⟩ = false :=
  ⟨(cell_of_heap (o := 0) h rfl).1, (cell_of_heap (o := 1) h rfl).1, (cell_of_heap (o := 0) h rfl).2, (cell_of_heap (o := 1) h rfl).2⟩
theorem bnext {V a b : World} (h : Below V.heap.size V a) (k : Below a.heap.size a b) : Below V.heap.size V b := h.trans (k.mono h.size)
theorem bundrew {a b : World} (h : Below a.drew.heap.size a.drew b) : Below a.heap.size a b := ⟨h.os, h.tape, h.output, h.size, h.block⟩
theorem far2 {X : World} {g R o : Nat} {a b : Value} (h : g ≠ R) : ((X.setCell ⟨R, 0, none⟩ a).setCell ⟨R, 1, none⟩ b).cell? ⟨g, o, none⟩ = X.cell? ⟨g, o, none⟩ := by
  rw [World.cell?_setCell_other _ _ _ _ (by simp), World.cell?_setCell_other _ _ _ _ (by simp)]
/-- What ChanceOf returns. -/
theorem kept_small {a b : Int} (ha : -1000000 ≤ a ∧ a ≤ 1000000) (hb : 0 < b ∧ b ≤ 1000000) : keptV (cutN a b) (cutD a b) = .tuple #[.agg #[.int .i64 (cutN a b), .int .i64 (cutD a b)], .bool true] := by
  have h1 := abs_cutN (a := a) (b := b) 1000000 ha (by omega)
  have h2 := cutD_le (a := a) hb.1
  have h3 := cutD_pos (a := a) hb.1
  unfold keptV
  rw [if_pos (by unfold inB; simp; omega)]
end Go.Proofs.Ytligidmkhbcpmac
namespace Go.Proofs.Ytligidmkhbcpmac
open Go.RowKit
set_option linter.unusedVariables false
theorem newInts_emptyG {w w1 : World} (hb : Below w.heap.size w w1) {g : Nat} (hg : g = w1.heap.size) : NewIntsB [] false w (.returned (.tuple #[.slice (some ⟨g, 0, none⟩) 0 0, .bool false])) (w1.alloc (.cells #[] 3)) := by
  subst hg; exact newInts_empty hb
/-- A box of a game. -/
def GBox (w : World) (B : Nat) (a b c d : Value) : Prop := w.heap[B]? = some (.cells #[a, b, c, d] 135 (0, 0))
theorem GBox.below {w w1 : World} {R C : Nat} {a b c d : Value} (h : GBox w R a b c d) (hb : Below C w w1) (hR : R < C) : GBox w1 R a b c d := (hb.block R hR).trans h
theorem GBox.lt {w : World} {R : Nat} {a b c d : Value} (h : GBox w R a b c d) : R < w.heap.size := by unfold GBox at h; exact (Array.getElem?_eq_some_iff.1 h).1
theorem GBox.cells {w : World} {R : Nat} {a b c d : Value} (h : GBox w R a b c d) : w.cell? ⟨R, 0, none⟩ = some a ∧ w.cell? ⟨R, 1, none⟩ = some b ∧ w.cell? ⟨R, 2, none⟩ = some c ∧ w.cell? ⟨R, 3, none⟩ = some d :=
  ⟨(cell_of_heap (o := 0) h rfl).1, (cell_of_heap (o := 1) h rfl).1, (cell_of_heap (o := 2) h rfl).1, (cell_of_heap (o := 3) h rfl).1⟩
theorem GBox.thaw {w : World} {R : Nat} {a b c d : Value} (h : GBox w R a b c d) : w.frozen? ⟨R, 0, none⟩ = false ∧ w.frozen? ⟨R, 1, none⟩ = false ∧ w.frozen? ⟨R, 2, none⟩ = false ∧ w.frozen? ⟨R, 3, none⟩ = false :=
  ⟨(cell_of_heap (o := 0) h rfl).2, (cell_of_heap (o := 1) h rfl).2, (cell_of_heap (o := 2) h rfl).2, (cell_of_heap (o := 3) h rfl).2⟩
/-- A value that is the game of a tree and payments. -/
def Game (w : World) (B : Nat) (g : Value) (ps ws zs : List Int) : Prop := ∃ v1 v2 us u, g = .agg #[v1, v2, us, u] ∧ TreeV w B (.agg #[v1, v2]) ps ws ∧ IntsV w B us (sumsT ps ws) ∧ IntsV w B u zs
theorem Game.boxed {w : World} {g : Value} {ps ws zs : List Int} (h : Game w w.heap.size g ps ws zs) {w1 : World} (hb : Below w.heap.size w w1) : Game w1 w1.heap.size g ps ws zs := by
  obtain ⟨v1, v2, us, u, e, h1, h2, h3⟩ := h
  exact ⟨v1, v2, us, u, e, h1.boxed hb, (h2.below hb).more hb.size, (h3.below hb).more hb.size⟩
theorem alt_setCell (w : World) (b o : Nat) (v : Value) : Alt b (b + 1) w (w.setCell ⟨b, o, none⟩ v) :=
  ⟨rfl, rfl, rfl, by simp [World.setCell], fun i _ hi => Below.heap_setCell _ _ _ _ (by simp; omega)⟩
def noGame : Value := .agg #[.slice none 0 0, .slice none 0 0, .slice none 0 0, .slice none 0 0]
/-- What gameOf answers. -/
def GameRes (ps ws zs : List Int) (w : World) (e : Ending) (w' : World) : Prop :=
  Below w.heap.size w w' ∧ ((procB ps ws zs = false ∧ e = .returned (.tuple #[noGame, .bool false])) ∨ (procB ps ws zs = true ∧ ∃ g, e = .returned (.tuple #[g, .bool true]) ∧ Game w' w'.heap.size g ps ws zs))
set_option maxRecDepth 100000 in
set_option maxHeartbeats 4000000 in
theorem gameI (ps ws zs : List Int) (v u : Value) (w : World) (hn1 : zs.length ≤ 1048576) (h : TreeV w w.heap.size v ps ws) (hu : IntsV w w.heap.size u zs) :
    Calls Try.prog 149 #[v, u] w (GameRes ps ws zs w) := by
  have PC := Lib.hid (fun w' (hb : Below w.heap.size w w') => procI ps ws zs v u w' hn1 (h.boxed hb) ((hu.below hb).more hb.size))
  have SU := Lib.hid (fun w' (hb : Below w.heap.size w w') => sumsI ps ws v w' (h.boxed hb))
  have TV := Lib.hid (fun w' (hb : Below w.heap.size w w') => h.boxed hb)
  have UV := Lib.hid (fun w' (hb : Below w.heap.size w w') => (hu.below hb).more hb.size)
  obtain ⟨p1, c1, p2, c2, rfl⟩ := h.shape
  obtain ⟨q, d, rfl, _⟩ := hu
  clear h
  have B1 := ((Below.refl w.heap.size w).alloc (Nat.le_refl _) (.cells #[.slice p1 ps.length c1, .slice p2 ws.length c2] 29)).alloc (by simp) (.cells #[.slice none 0 0, .slice none 0 0, .slice none 0 0, .slice none 0 0] 135)
  have K0 := alloc_two w (.cells #[.slice p1 ps.length c1, .slice p2 ws.length c2] 29) (.cells #[.slice none 0 0, .slice none 0 0, .slice none 0 0, .slice none 0 0] 135)
  obtain ⟨wa, hwa⟩ : ∃ wa, wa = (w.alloc (.cells #[.slice p1 ps.length c1, .slice p2 ws.length c2] 29)).alloc (.cells #[.slice none 0 0, .slice none 0 0, .slice none 0 0, .slice none 0 0] 135) := ⟨_, rfl⟩
  rw [← hwa] at B1 K0
  have T1 := Lib.hid (show TBox wa w.heap.size (.slice p1 ps.length c1) (.slice p2 ws.length c2) from K0.1)
  have R1 := Lib.hid (show GBox wa (w.heap.size + 1) (.slice none 0 0) (.slice none 0 0) (.slice none 0 0) (.slice none 0 0) from K0.2)
  have HBA := Lib.hid B1
  clear K0 B1
  obtain ⟨x0, x1⟩ := T1.out.cells
  cases hp : procB ps ws zs
  · rw [hp] at PC
    have HP := Lib.hid hp
    clear hp SU TV UV
    go_enter Try.func149, Try.ntmps149
    go_wp2_with fail
    rw [← hwa]
    clear hwa
    refine (PC.out _ HBA.out).mono ?_
    rintro e w1 ⟨rfl, b1⟩
    have HB1 := Lib.hid (HBA.out.trans (b1.mono HBA.out.size))
    have HR := R1.out.below b1 R1.out.lt
    obtain ⟨k0, k1, k2, k3⟩ := HR.cells
    obtain ⟨f0, f1, f2, f3⟩ := HR.thaw
    clear b1 HR
    go_wp2_with fail
    refine bodyPost_ret (v := .tuple #[noGame, .bool false]) (by simp [results, Try.results149, go_sem, k0, k1, k2, k3, noGame]) rfl ⟨?_, .inl ⟨HP.out, rfl⟩⟩
    exact (((HB1.out.setCell (p := ⟨w.heap.size + 1, 0, none⟩) (by simp) _).setCell (p := ⟨w.heap.size + 1, 1, none⟩) (by simp) _).setCell (p := ⟨w.heap.size + 1, 2, none⟩) (by simp) _).setCell (p := ⟨w.heap.size + 1, 3, none⟩) (by simp) _
  · have PR := procB_iff.1 hp
    have gd := PR.good
    have hg : goodT ps ws = true := (goodT_iff _ _).2 gd
    rw [hg, show ifGood ps ws (sumsT ps ws) = sumsT ps ws by unfold ifGood; rw [hg]; rfl] at SU
    have HP := Lib.hid hp
    rw [hp] at PC
    clear hp PR gd hg
    go_enter Try.func149, Try.ntmps149
    go_wp2_with fail
    rw [← hwa]
    clear hwa
    refine (PC.out _ HBA.out).mono ?_
    rintro e w1 ⟨rfl, b1⟩
    have HB1 := Lib.hid (HBA.out.trans (b1.mono HBA.out.size))
    have HT1 := Lib.hid (T1.out.below b1 T1.out.lt)
    have HR1 := Lib.hid (R1.out.below b1 R1.out.lt)
    clear b1 x0 x1
    obtain ⟨x0, x1⟩ := HT1.out.cells
    go_wp2_with fail
    refine (SU.out _ HB1.out).mono ?_
    rintro e w2 ⟨us, rfl, o2, b2⟩
    have HB2 := Lib.hid (HB1.out.trans (b2.mono HB1.out.size))
    have HT2 := Lib.hid (HT1.out.below b2 HT1.out.lt)
    have HR2 := HR1.out.below b2 HR1.out.lt
    clear x0 x1
    obtain ⟨x0, x1⟩ := HT2.out.cells
    obtain ⟨k0, k1, k2, k3⟩ := HR2.cells
    obtain ⟨f0, f1, f2, f3⟩ := HR2.thaw
    have HO2 := Lib.hid o2
    have L1 := Lib.hid (show w.heap.size + 1 + 1 ≤ w1.heap.size from HR1.out.lt)
    obtain ⟨qs, ds, rfl, _⟩ := o2.intsV
    have FIN : Hid (∀ w3, Below w.heap.size w w3 → Alt (w.heap.size + 1) (w.heap.size + 1 + 1) w2 w3 → Game w3 w3.heap.size (.agg #[.slice p1 ps.length c1, .slice p2 ws.length c2, .slice qs (sumsT ps ws).length ds, .slice q zs.length d]) ps ws zs) := Lib.hid (fun w3 hb ha => ⟨_, _, _, _, rfl, TV.out w3 hb, (HO2.out.alt ha (.inr L1.out)).intsV.more ha.size, UV.out w3 hb⟩)
    obtain ⟨sn, hsn⟩ : ∃ sn, sn = (sumsT ps ws).length := ⟨_, rfl⟩
    rw [← hsn] at FIN ⊢
    clear o2 hsn HR2 b2 HO2
    go_wp2_with fail
    refine bodyPost_ret (v := .tuple #[.agg #[.slice p1 ps.length c1, .slice p2 ws.length c2, .slice qs sn ds, .slice q zs.length d], .bool true]) (by simp [results, Try.results149, go_sem, *]) rfl ?_
    have A4 := (((alt_setCell w2 (w.heap.size + 1) 0 (.slice p1 ps.length c1)).trans (alt_setCell _ (w.heap.size + 1) 1 (.slice p2 ws.length c2))).trans (alt_setCell _ (w.heap.size + 1) 2 (.slice qs sn ds))).trans (alt_setCell _ (w.heap.size + 1) 3 (.slice q zs.length d))
    have B4 := (((HB2.out.setCell (p := ⟨w.heap.size + 1, 0, none⟩) (by simp) (.slice p1 ps.length c1)).setCell (p := ⟨w.heap.size + 1, 1, none⟩) (by simp) (.slice p2 ws.length c2)).setCell (p := ⟨w.heap.size + 1, 2, none⟩) (by simp) (.slice qs sn ds)).setCell (p := ⟨w.heap.size + 1, 3, none⟩) (by simp) (.slice q zs.length d)
    exact ⟨B4, .inr ⟨HP.out, _, rfl, FIN.out _ B4 A4⟩⟩
set_option maxRecDepth 100000 in
set_option maxHeartbeats 2000000 in
theorem paidI (ps ws zs : List Int) (g : Value) (x : Nat) (w : World) (pr : Proc ps ws zs) (hx : x < ps.length) (h : Game w w.heap.size g ps ws zs) :
    Calls Try.prog 198 #[g, .int .i64 x] w (Gives (.int .i64 ((sumsT ps ws).getD x 0 * zs.getD x 0)) w) := by
  have os := own_small pr hx
  have sl := sumsT_len pr.good.nw
  have zl := pr.len
  have hn24 := pr.good.n24
  obtain ⟨v1, v2, us, u, rfl, h1, h2, h3⟩ := h
  obtain ⟨p1, c1, p2, c2, hs⟩ := h1.shape
  injection hs with hs
  injection hs with hs
  injection hs with hs1 hs
  injection hs with hs2 hs
  subst hs1; subst hs2
  clear hs
  obtain ⟨p3, c3, rfl, _, _, _, j3⟩ := h2
  obtain ⟨p4, c4, rfl, _, _, _, j4⟩ := h3
  obtain ⟨b3, o3, hq3, hb3, hc3⟩ := j3.get (i := x) (by omega)
  obtain ⟨b4, o4, hq4, hb4, hc4⟩ := j4.get (i := x) (by omega)
  subst hq3; subst hq4
  have B1 := (Below.refl w.heap.size w).alloc (Nat.le_refl _) (.cells #[.slice p1 ps.length c1, .slice p2 ws.length c2, .slice (some ⟨b3, o3, none⟩) (sumsT ps ws).length c3, .slice (some ⟨b4, o4, none⟩) zs.length c4] 135)
  have R1 := show GBox (w.alloc (.cells #[.slice p1 ps.length c1, .slice p2 ws.length c2, .slice (some ⟨b3, o3, none⟩) (sumsT ps ws).length c3, .slice (some ⟨b4, o4, none⟩) zs.length c4] 135)) w.heap.size _ _ _ _ from alloc_heap w _
  have i0 : (0 : Int) ≤ (x : Int) := by omega
  have i1 : (x : Int) < ((sumsT ps ws).length : Int) := by omega
  have i2 : (x : Int) < (zs.length : Int) := by omega
  obtain ⟨c0, c1', c2', c3'⟩ := R1.cells
  have hk3 := (B1.cell (p := ⟨b3, o3 + x, none⟩) hb3).trans hc3
  have hk4 := (B1.cell (p := ⟨b4, o4 + x, none⟩) hb4).trans hc4
  obtain ⟨a, ha⟩ : ∃ a, a = (sumsT ps ws).getD x 0 := ⟨_, rfl⟩
  obtain ⟨c, hcc⟩ : ∃ c, c = zs.getD x 0 := ⟨_, rfl⟩
  obtain ⟨sn, hsn⟩ : ∃ sn, sn = (sumsT ps ws).length := ⟨_, rfl⟩
  rw [← ha] at hk3 os ⊢
  rw [← hcc] at hk4 os ⊢
  rw [← hsn] at i1 hk3 hk4 c0 c1' c2' c3' B1 R1 ⊢
  obtain ⟨wa, hwa⟩ : ∃ wa, wa = w.alloc (.cells #[.slice p1 ps.length c1, .slice p2 ws.length c2, .slice (some ⟨b3, o3, none⟩) sn c3, .slice (some ⟨b4, o4, none⟩) zs.length c4] 135) := ⟨_, rfl⟩
  rw [← hwa] at B1 R1 hk3 hk4 c0 c1' c2' c3'
  have HB := Lib.hid B1
  have WR : IntKind.i64.wrap (a * c) = a * c := IntWalk.i64_in _ (by omega)
  clear j3 j4 hc3 hc4 h1 ha hcc hsn R1 B1 pr sl zl
  go_enter Try.func198, Try.ntmps198
  go_upto_region 1 with fail
  rw [← hwa]
  clear hwa
  go_region
  go_wp2_with fail
  go_ret
  exact ⟨rfl, by first | exact below_drew HB.out | exact below_drewN HB.out _⟩
end Go.Proofs.Ytligidmkhbcpmac
namespace Go.Proofs.Ytligidmkhbcpmac
open Go.RowKit
set_option linter.unusedVariables false
/-- One number in a new block. -/
theorem OwnV.single (w : World) (lo : Nat) (x : Int) (hlo : lo ≤ w.heap.size) (hx : InI64 x) : OwnV (w.alloc (.cells #[.int .i64 x] 3)) lo (w.alloc (.cells #[.int .i64 x] 3)).heap.size (.slice (some ⟨w.heap.size, 0, none⟩) 1 1) [x] := by
  refine ⟨⟨rfl, .inr ⟨w.heap.size, 1, #[.int .i64 x], rfl, hlo, alloc_heap w _, by simp, by unfold maxLen; omega, rfl, rfl⟩⟩, ?_, Nat.le_refl _, ?_⟩
  · intro q hq
    simp [Value.ownBlock] at hq
    subst hq
    simp
  · intro z hz; simp at hz; subst hz; exact hx
set_option maxHeartbeats 4000000 in
theorem wayS (ps ws : List Int) (v : Value) (k0 : Nat) (w : World) (gd : Good ps ws) (hk0 : k0 < ps.length) (h : TreeV w w.heap.size v ps ws) :
    Calls Try.prog 161 #[v, .int .i64 k0] w (NewInts (wayT ps (k0 : Int)) w) := by
  obtain ⟨v1, v2, rfl, ⟨p1, c1, rfl, l1, m1, _, i1⟩, ⟨p2, c2, rfl, l2, m2, _, i2⟩⟩ := h
  have P1 := Lib.hid i1
  clear i1 i2
  obtain ⟨i0, hi, hz0, hz1, hz2⟩ := info_parts intInfo
  have hn24 := gd.n24
  have GD := Lib.hid gd
  have HP := Lib.hid (ParOk.of gd)
  have WL := Lib.hid (wayA_len HP.out k0 hk0)
  have WI := Lib.hid (wayA_in HP.out k0 hk0)
  have WT : Hid (wayT ps (k0 : Int) = (wayA ps k0).reverse) := Lib.hid (by unfold wayT; rw [Int.toNat_natCast])
  have B1 := ((Below.refl w.heap.size w).alloc (Nat.le_refl _) (.cells #[.slice p1 ps.length c1, .slice p2 ws.length c2] 29)).alloc (by simp) (.cells #[.int .i64 (k0 : Int)] 3)
  have T1 := Lib.hid (TBox.alloc (show TBox (w.alloc (.cells #[.slice p1 ps.length c1, .slice p2 ws.length c2] 29)) w.heap.size (.slice p1 ps.length c1) (.slice p2 ws.length c2) from alloc_heap w _) (.cells #[.int .i64 (k0 : Int)] 3))
  have O1 := Lib.hid (OwnV.single (w.alloc (.cells #[.slice p1 ps.length c1, .slice p2 ws.length c2] 29)) (w.heap.size + 1) (k0 : Int) (by simp) (inI64_nat (by omega)))
  rw [show (w.alloc (.cells #[.slice p1 ps.length c1, .slice p2 ws.length c2] 29)).heap.size = w.heap.size + 1 by simp] at O1
  obtain ⟨wa, hwa⟩ : ∃ wa, wa = (w.alloc (.cells #[.slice p1 ps.length c1, .slice p2 ws.length c2] 29)).alloc (.cells #[.int .i64 (k0 : Int)] 3) := ⟨_, rfl⟩
  rw [← hwa] at B1 T1 O1
  have HBA := Lib.hid B1
  clear B1 gd
  obtain ⟨x0, x1⟩ := T1.out.cells
  go_enter Try.func161, Try.ntmps161
  go_wp2
  rw [← hwa]
  clear hwa x0 x1
  go_loopw [1, 5] (fun c o wr => ∃ y : Nat, c = .int .i64 y ∧ y < ps.length ∧ ∃ L : List Int, Hid (wayA ps k0 = L ++ wayA ps y) ∧ Hid (OwnV wr (w.heap.size + 1) wr.heap.size o ((y : Int) :: L.reverse)) ∧ Hid (TBox wr w.heap.size (.slice p1 ps.length c1) (.slice p2 ws.length c2)) ∧ Hid (Below w.heap.size w wr)) (fun c _ _ => (intOf c).toNat)
  case atStart => exact ⟨k0, rfl, hk0, [], Lib.hid (by simp), O1, T1, HBA⟩
  case round =>
    obtain ⟨y, rfl, hy1, L, HL, HO, HT, HB⟩ := hrel
    obtain ⟨x0, x1⟩ := HT.out.cells
    clear O1 T1 HBA
    rcases Nat.eq_zero_or_pos y with hy0 | hy0
    · subst hy0
      have FIN : Hid (∀ o, OwnV wr (w.heap.size + 1) wr.heap.size o (((0 : Nat) : Int) :: L.reverse) → NewInts (wayT ps (k0 : Int)) w (.returned o) wr) := Lib.hid (fun o ho => ⟨o, rfl, by
        rw [WT.out, HL.out, wayA_zero (by omega), List.reverse_append]
        exact ho.low (by omega), HB.out⟩)
      clear x0 x1
      go_wp2
      go_ret
      exact FIN.out _ HO.out
    · obtain ⟨b, off, rfl, hb, hc⟩ := P1.out.get hy1
      have hcw : wr.cell? ⟨b, off + y, none⟩ = some (.int .i64 (ps.getD y 0)) := by rw [HB.out.cell (p := ⟨b, off + y, none⟩) hb]; exact hc
      have BD := GD.out.p_bd hy1
      have ST := Lib.hid (wayA_step HP.out hy0 hy1)
      obtain ⟨j, hj⟩ : ∃ j : Nat, ps.getD y 0 = (j : Int) := ⟨(ps.getD y 0).toNat, by have := BD.2.2 hy0; omega⟩
      rw [hj, Int.toNat_natCast] at ST
      rw [hj] at hcw BD
      have hjy : j < y := by have := BD.2.1; omega
      have LL : L.length ≤ 24 := by
        have h1 := WL.out.1
        rw [HL.out, List.length_append] at h1
        omega
      have i0' : (0 : Int) ≤ (y : Int) := by omega
      have i1 : (y : Int) < (ps.length : Int) := by omega
      have y0 : (y : Int) > 0 := by omega
      obtain ⟨g, cap, hsh, hg1, hg2⟩ := HO.out.shape (by simp)
      obtain ⟨M, hM⟩ : ∃ M, M = (y : Int) :: L.reverse := ⟨_, rfl⟩
      have ML : M.length ≤ 30 := by rw [hM]; simp; omega
      have HMM := Lib.hid hM
      rw [← hM] at HO hsh
      clear hc hj hM
      subst hsh
      have OS := OwnV.single wr (w.heap.size + 1) (j : Int) (by have := HT.out.lt; omega) (inI64_nat (by omega))
      have CE : Hid (∀ i u, (M.map (Value.int .i64))[i]? = some u → (wr.alloc (.cells #[.int .i64 (j : Int)] 3)).cell? ((⟨g, 0, none⟩ : Addr).add i) = some u) := Lib.hid (by
        intro i u hu
        rw [List.getElem?_map] at hu
        have hi' : i < M.length := by
          rcases Nat.lt_or_ge i M.length with h' | h'
          · exact h'
          · rw [List.getElem?_eq_none h'] at hu; cases hu
        rw [Addr.add_lit, Nat.zero_add, World.cell?_alloc_lt _ _ _ (by exact hg2), HO.out.cellGet hi', List.getD_eq_getElem?_getD]
        rw [List.getElem?_eq_getElem hi'] at hu ⊢
        exact hu)
      have RW := Lib.hid OS.row
      have HG := Lib.hid hg2
      have hsz := HT.out.lt
      clear OS hg1 hg2
      go_wp2_with (at_builtin; refine wpList_append_own _ rfl _ _ 22 rfl (w.heap.size + 1) 3 i0 (.int .i64 0) 1 8 Try.underlying22 hi hz0 hz1 hz2 rfl (by decide) _ 1 [.int .i64 (j : Int)] rfl RW.out ⟨g, 0, none⟩ M.length cap (M.map (.int .i64)) rfl (by simp) CE.out (fun u hu => by obtain ⟨z, _, rfl⟩ := List.mem_map.1 hu; rfl) (by unfold maxLen; omega) (by omega) (by simp; omega) ?_; intro v' w3 hown3 hgrow3 hnil3)
      have bel3 := Lib.hid ((HB.out.alloc HB.out.size _).grown hgrow3 (by simp; omega) (fun q hq => by have := (RW.out.lt q hq).1; omega))
      have own3 : Hid (OwnV w3 (w.heap.size + 1) w3.heap.size v' ((j : Int) :: M)) := Lib.hid ⟨by
        have h := hown3
        rw [List.length_cons, Nat.add_comm M.length 1, List.map_cons]
        exact h, fun q hq => (hown3.lt q hq).2, Nat.le_refl _, fun z hz => by
          rcases List.mem_cons.1 hz with h' | h'
          · subst h'; exact inI64_nat (by omega)
          · exact HO.out.in64 z h'⟩
      have box3 := Lib.hid ((HT.out.alloc _).grown hgrow3 (fun q hq => (RW.out.lt q hq).1) (by omega))
      clear hown3 hgrow3 hnil3
      go_roundw
      case rel => exact ⟨j, rfl, by omega, L ++ [(y : Int)], Lib.hid (by rw [HL.out, ST.out]; simp), Lib.hid (by have := own3.out; rw [HMM.out] at this; simpa using this), box3, bel3⟩
      case measure => simp [intOf]; omega
end Go.Proofs.Ytligidmkhbcpmac
namespace Go.Proofs.Ytligidmkhbcpmac
open Go.RowKit
set_option linter.unusedVariables false
/-- What is asked of a step that is handed over: at each node it makes the node's number of what the node has from above. -/
def PassI (g : Nat) (lb : Array Value) (ps : List Int) (a0 : Int) (T : List Int) (w : World) : Prop :=
  ∀ (W : World) (x : Nat), x < ps.length → Below w.heap.size w W → Calls Try.prog g (#[.int .i64 (abv ps a0 T x), .int .i64 x] ++ lb) W fun e w' => e = .returned (.int .i64 (T.getD x 0)) ∧ Below W.heap.size W w'
theorem take_next {T : List Int} {k : Nat} (h : k < T.length) : T.take (k + 1) = T.take k ++ [T.getD k 0] := by
  rw [List.take_succ_eq_append_getElem h, List.getD_eq_getElem?_getD, List.getElem?_eq_getElem h]; rfl
theorem getD_take {T : List Int} {j k : Nat} (h : j < k) : (T.take k).getD j 0 = T.getD j 0 := by
  rw [List.getD_eq_getElem?_getD, List.getD_eq_getElem?_getD, List.getElem?_take, if_pos h]
set_option maxRecDepth 100000 in
set_option maxHeartbeats 4000000 in
theorem passI (ps ws T : List Int) (a0 : Int) (v : Value) (g : Nat) (lb : Array Value) (w : World) (eg : ∀ args w, (callFunc g args).run Try.prog w = .ok (.enter g args) w)
    (gd : Good ps ws) (h : TreeV w w.heap.size v ps ws) (hT : T.length = ps.length) (hI : ∀ i, i < T.length → InI64 (T.getD i 0)) (hp : PassI g lb ps a0 T w) :
    Calls Try.prog 176 #[v, .int .i64 a0, .func (.func g) #[] lb] w (NewInts T w) := by
  obtain ⟨v1, v2, rfl, ⟨p1, c1, rfl, l1, m1, _, i1⟩, ⟨p2, c2, rfl, l2, m2, _, i2⟩⟩ := h
  have P1 := Lib.hid i1
  clear i1 i2 m1 m2
  have PP := Lib.hid hp
  clear hp
  have hn := gd.n24
  have hn1 := gd.n1
  have GP := Lib.hid gd.par
  have HT := Lib.hid hT
  have II := Lib.hid hI
  clear gd hT hI
  obtain ⟨i0, hi, hz0, hz1, hz2⟩ := info_parts intInfo
  have B1 := (Below.refl w.heap.size w).alloc (Nat.le_refl _) (.cells #[.slice p1 ps.length c1, .slice p2 ws.length c2] 29)
  have T1 := Lib.hid (show TBox (w.alloc (.cells #[.slice p1 ps.length c1, .slice p2 ws.length c2] 29)) w.heap.size (.slice p1 ps.length c1) (.slice p2 ws.length c2) from alloc_heap w _)
  have sz : (w.alloc (.cells #[.slice p1 ps.length c1, .slice p2 ws.length c2] 29)).heap.size = w.heap.size + 1 := by simp
  obtain ⟨wa, hwa⟩ : ∃ wa, wa = w.alloc (.cells #[.slice p1 ps.length c1, .slice p2 ws.length c2] 29) := ⟨_, rfl⟩
  rw [← hwa] at B1 T1 sz
  have HBA := Lib.hid B1
  clear B1
  have C0 := Lib.hid (PP.out wa 0 (by omega) HBA.out)
  rw [show abv ps a0 T 0 = a0 from if_pos rfl] at C0
  obtain ⟨z0, hz⟩ : ∃ z, z = T.getD 0 0 := ⟨_, rfl⟩
  have Z0 := Lib.hid hz
  have ZI := Lib.hid (show InI64 z0 by rw [hz]; exact II.out 0 (by have := HT.out; omega))
  rw [← hz] at C0
  clear hz
  go_enter Try.func176, Try.ntmps176
  go_wp2_with (rw [← hwa]; clear hwa; go_at_fn g; refine C0.out.mono ?_; rintro e w1 ⟨rfl, b1⟩; (have s1 := b1.size); (have HB1 := Lib.hid ((HBA.out.trans (b1.mono HBA.out.size)).alloc (Nat.le_trans HBA.out.size s1) (.cells #[.int .i64 z0] 3))); (have HT1 := Lib.hid ((T1.out.below b1 T1.out.lt).alloc (.cells #[.int .i64 z0] 3))); (have O1 := Lib.hid (OwnV.single w1 (w.heap.size + 1) z0 (by omega) ZI.out)); clear b1)
  have TL := HT.out
  have ONE : Hid (T.take 1 = [z0]) := Lib.hid (by rw [take_next (by omega), Z0.out]; rfl)
  clear C0 HBA T1 Z0
  go_loopw [7, 8] (fun o i wr => ∃ k : Nat, 1 ≤ k ∧ k ≤ ps.length ∧ i = .int .i64 k ∧ Hid (OwnV wr (w.heap.size + 1) wr.heap.size o (T.take k)) ∧ Hid (TBox wr w.heap.size (.slice p1 ps.length c1) (.slice p2 ws.length c2)) ∧ Hid (Below w.heap.size w wr)) (fun _ i _ => ps.length - (intOf i).toNat)
  case atStart => exact ⟨1, Nat.le_refl _, hn1, rfl, Lib.hid (by rw [ONE.out]; exact O1.out), HT1, HB1⟩
  case round =>
    obtain ⟨k, hk1, hk, rfl, HO, HTW, HB⟩ := hrel
    obtain ⟨x0, x1⟩ := HTW.out.cells
    clear HT1 HB1 O1
    by_cases hlt : k < ps.length
    · obtain ⟨b, off, rfl, hb, hc⟩ := P1.out.get hlt
      obtain ⟨g1, g2⟩ := GP.out k (by omega) hlt
      obtain ⟨j, hj⟩ : ∃ j : Nat, ps.getD k 0 = (j : Int) := ⟨(ps.getD k 0).toNat, by omega⟩
      have hjk : j < k := by omega
      have hcw : wr.cell? ⟨b, off + k, none⟩ = some (.int .i64 j) := by rw [HB.out.cell (p := ⟨b, off + k, none⟩) hb, hc, hj]
      have LT : (T.take k).length = k := by rw [List.length_take]; omega
      obtain ⟨gb, cap, rfl, hg1, hg2⟩ := HO.out.shape (by omega)
      have hdj : wr.cell? ⟨gb, j, none⟩ = some (.int .i64 (T.getD j 0)) := by
        rw [HO.out.cellGet (by omega), getD_take hjk]
      have C := Lib.hid (PP.out wr k hlt HB.out)
      have AB : abv ps a0 T k = T.getD j 0 := by unfold abv; rw [if_neg (by omega), hj, Int.toNat_natCast]
      rw [AB] at C
      have SE := Lib.hid (take_next (T := T) (k := k) (by omega))
      have NI := Lib.hid (II.out k (by omega))
      obtain ⟨L, hL⟩ : ∃ L, L = T.take k := ⟨_, rfl⟩
      rw [← hL] at HO LT SE ⊢
      obtain ⟨tj, htj⟩ : ∃ t, t = T.getD j 0 := ⟨_, rfl⟩
      rw [← htj] at hdj C
      obtain ⟨tk, htk⟩ : ∃ t, t = T.getD k 0 := ⟨_, rfl⟩
      rw [← htk] at C SE NI
      have j0 : (0 : Int) ≤ (j : Int) := by omega
      have j1 : (j : Int) < (L.length : Int) := by omega
      have hsz := HTW.out.lt
      have le1 : L.length ≤ k := by omega
      have le2 : k ≤ L.length := by omega
      clear hc hL htj htk hj AB g1 g2 LT
      go_wp2_with (first
        | (go_at_fn g; refine C.out.mono ?_; rintro e w1 ⟨rfl, b1⟩; have HB1 := Lib.hid (HB.out.trans (b1.mono HB.out.size)); have HO2 := Lib.hid ((HO.out.below b1).wide b1.size (Nat.le_refl _)); have HT2 := Lib.hid (HTW.out.below b1 HTW.out.lt); have sz1 := b1.size; clear b1)
        | (at_builtin; refine wpList_append_own _ rfl _ _ 22 rfl (w.heap.size + 1) 3 i0 (.int .i64 0) 1 8 Try.underlying22 hi hz0 hz1 hz2 rfl (by decide) _ L.length (L.map (.int .i64)) rfl (HO2.out.row.alloc _) ⟨w1.heap.size, 0, none⟩ 1 1 [.int .i64 tk] rfl rfl (cell_one_new _ _ _) (fun x hx => by simp at hx; subst hx; rfl) (by unfold maxLen; omega) (by omega) (by simp; omega) ?_; intro v' w3 hown3 hgrow3 hnil3))
      have own3 := Lib.hid (HO2.out.app NI.out hown3)
      have bel3 := Lib.hid ((HB1.out.alloc HB1.out.size _).grown hgrow3 (by simp; omega) (fun q hq => by have := (HO2.out.row.lt q hq).1; omega))
      have box3 := Lib.hid ((HT2.out.alloc _).grown hgrow3 (fun q hq => (HO2.out.row.lt q hq).1) (by omega))
      clear hown3 hgrow3 hnil3
      go_roundw
      case rel => exact ⟨k + 1, by omega, by omega, by go_num, Lib.hid (by rw [SE.out]; exact own3.out), box3, bel3⟩
      case measure => simp [intOf]; omega
    · obtain rfl : k = ps.length := by omega
      rw [List.take_of_length_le (by omega)] at HO
      have FIN : Hid (∀ o, OwnV wr (w.heap.size + 1) wr.heap.size o T → NewInts T w (.returned o) wr) := Lib.hid (fun o h => ⟨o, rfl, h.low (by omega), HB.out⟩)
      go_wp2
      go_ret
      exact FIN.out _ HO.out
end Go.Proofs.Ytligidmkhbcpmac
namespace Go.Proofs.Ytligidmkhbcpmac
open Go.RowKit
set_option linter.unusedVariables false
theorem rs_cells {w w3 : World} (b : Below (w.alloc (.cells #[.int .i64 0, .int .i64 0] 26)).heap.size (w.alloc (.cells #[.int .i64 0, .int .i64 0] 26)) w3) : (w3.cell? ⟨w.heap.size, 0, none⟩ = some (.int .i64 0) ∧ w3.frozen? ⟨w.heap.size, 0, none⟩ = false) ∧ (w3.cell? ⟨w.heap.size, 1, none⟩ = some (.int .i64 0) ∧ w3.frozen? ⟨w.heap.size, 1, none⟩ = false) := by
  have k0 := (b.block w.heap.size (by simp)).trans (alloc_heap w (.cells #[.int .i64 0, .int .i64 0] 26))
  exact ⟨cell_of_heap (o := 0) k0 rfl, cell_of_heap (o := 1) k0 rfl⟩
theorem rs_fin {w w3 : World} {x y : Value} (b : Below (w.alloc (.cells #[.int .i64 0, .int .i64 0] 26)).heap.size (w.alloc (.cells #[.int .i64 0, .int .i64 0] 26)) w3) : Below w.heap.size w ((w3.setCell ⟨w.heap.size, 0, none⟩ x).setCell ⟨w.heap.size, 1, none⟩ y) :=
  ((((Below.refl w.heap.size w).alloc (Nat.le_refl _) _).trans (b.mono (by simp))).setCell (p := ⟨w.heap.size, 0, none⟩) (Nat.le_refl _) _).setCell (p := ⟨w.heap.size, 1, none⟩) (Nat.le_refl _) _
theorem rs_same {w w3 : World} (b : Below (w.alloc (.cells #[.int .i64 0, .int .i64 0] 26)).heap.size (w.alloc (.cells #[.int .i64 0, .int .i64 0] 26)) w3) : Below w.heap.size w w3 :=
  ((Below.refl w.heap.size w).alloc (Nat.le_refl _) _).trans (b.mono (by simp))
theorem bl_self (w : World) (o : Obj) : Below (w.alloc o).heap.size (w.alloc o) (w.alloc o) := Below.refl _ _
theorem bl_then {V w1 w2 : World} (h : Below V.heap.size V w1) (b : Below w1.heap.size w1 w2) : Below V.heap.size V w2 := h.trans (b.mono h.size)
theorem bl_box {V w1 w2 : World} {o : Obj} (h : Below V.heap.size V w1) (b : Below (w1.alloc o).heap.size (w1.alloc o) w2) : Below V.heap.size V w2 :=
  (h.alloc h.size o).trans (b.mono (by have := h.size; simp; omega))
/-- From a box of zeros laid at once on down to the world before it. -/
theorem bl_up {w w1 : World} {o : Obj} (h : Below (w.alloc o).heap.size (w.alloc o) w1) : Below w.heap.size w w1 := ((Below.refl w.heap.size w).alloc (Nat.le_refl _) o).trans (h.mono (by simp))
theorem un_drew {a b : World} (h : Below a.drew.heap.size a.drew b) : Below a.heap.size a b := ⟨h.os, h.tape, h.output, h.size, h.block⟩
theorem far_2 {X : World} {g R o : Nat} {a b : Value} (h : g ≠ R) : ((X.setCell ⟨R, 0, none⟩ a).setCell ⟨R, 1, none⟩ b).cell? ⟨g, o, none⟩ = X.cell? ⟨g, o, none⟩ := by
  rw [World.cell?_setCell_other _ _ _ _ (by simp), World.cell?_setCell_other _ _ _ _ (by simp)]
/-- A box of a pair. -/
def QBox (w : World) (R : Nat) (a b : Int) : Prop := w.heap[R]? = some (.cells #[.int .i64 a, .int .i64 b] 26 (0, 0))
theorem QBox.below {w w1 : World} {R C : Nat} {a b : Int} (h : QBox w R a b) (hb : Below C w w1) (hR : R < C) : QBox w1 R a b := (hb.block R hR).trans h
theorem QBox.lt {w : World} {R : Nat} {a b : Int} (h : QBox w R a b) : R < w.heap.size := by unfold QBox at h; exact (Array.getElem?_eq_some_iff.1 h).1
theorem QBox.cells {w : World} {R : Nat} {a b : Int} (h : QBox w R a b) : (w.cell? ⟨R, 0, none⟩ = some (.int .i64 a) ∧ w.cell? ⟨R, 1, none⟩ = some (.int .i64 b)) ∧ (w.frozen? ⟨R, 0, none⟩ = false ∧ w.frozen? ⟨R, 1, none⟩ = false) :=
  ⟨⟨(cell_of_heap (o := 0) h rfl).1, (cell_of_heap (o := 1) h rfl).1⟩, (cell_of_heap (o := 0) h rfl).2, (cell_of_heap (o := 1) h rfl).2⟩
theorem QBox.new (w : World) (a b : Int) : QBox (w.alloc (.cells #[.int .i64 a, .int .i64 b] 26)) w.heap.size a b := alloc_heap w _
theorem QBox.st0 {w : World} {R : Nat} {a b : Int} (h : QBox w R a b) (x : Int) : QBox (w.setCell ⟨R, 0, none⟩ (.int .i64 x)) R x b := by
  unfold QBox at h ⊢
  simp [World.setCell, Array.getElem?_modify, h]
theorem QBox.st1 {w : World} {R : Nat} {a b : Int} (h : QBox w R a b) (x : Int) : QBox (w.setCell ⟨R, 1, none⟩ (.int .i64 x)) R a x := by
  unfold QBox at h ⊢
  simp [World.setCell, Array.getElem?_modify, h]
theorem QBox.st {w : World} {R : Nat} {a b : Int} (h : QBox w R a b) (x y : Int) : QBox ((w.setCell ⟨R, 0, none⟩ (.int .i64 x)).setCell ⟨R, 1, none⟩ (.int .i64 y)) R x y := (h.st0 x).st1 y
theorem QBox.far {w : World} {R g o : Nat} {a b : Int} {x : Value} (h : QBox w R a b) (hg : R ≠ g) : QBox (w.setCell ⟨g, o, none⟩ x) R a b := by
  unfold QBox at h ⊢
  simp only [World.setCell, Array.getElem?_modify]
  rw [if_neg (fun e => hg e.symm)]
  exact h
theorem bl_st {V w : World} {g : Nat} (h : Below V.heap.size V w) (hg : V.heap.size ≤ g) (x y : Value) : Below V.heap.size V ((w.setCell ⟨g, 0, none⟩ x).setCell ⟨g, 1, none⟩ y) := (h.setCell (p := ⟨g, 0, none⟩) hg x).setCell (p := ⟨g, 1, none⟩) hg y
end Go.Proofs.Ytligidmkhbcpmac
namespace Go.Proofs.Ytligidmkhbcpmac
open Go.RowKit
set_option linter.unusedVariables false
theorem Game.parts4 {w : World} {B : Nat} {g : Value} {ps ws zs : List Int} (h : Game w B g ps ws zs) : ∃ p1 c1 p2 c2 p3 n3 c3 p4 c4, g = .agg #[.slice p1 ps.length c1, .slice p2 ws.length c2, .slice p3 n3 c3, .slice p4 zs.length c4] := by
  obtain ⟨v1, v2, us, u, e, h1, ⟨p3, c3, e3, _⟩, ⟨p4, c4, e4, _⟩⟩ := h
  obtain ⟨p1, c1, p2, c2, hs⟩ := h1.shape
  injection hs with hs
  injection hs with hs
  injection hs with hs1 hs
  injection hs with hs2 hs
  exact ⟨p1, c1, p2, c2, p3, _, c3, p4, c4, by rw [e, hs1, hs2, e3, e4]⟩
def bbOk (ps ws zs ns : List Int) : Bool := procB ps ws zs && (procB ps ws ns && steB ps ws ns true)
def bbN (ps ws zs ns : List Int) : Int := cutN (bndS ps ws zs ns) ((sumsT ps ws).getD 0 0)
def bbD (ps ws zs ns : List Int) : Int := cutD (bndS ps ws zs ns) ((sumsT ps ws).getD 0 0)
def bbV (ps ws zs ns : List Int) : Value := if bbOk ps ws zs ns = true then .tuple #[.agg #[.int .i64 (bbN ps ws zs ns), .int .i64 (bbD ps ws zs ns)], .bool true] else zeroP
theorem bbV_form (ps ws zs ns : List Int) : ∃ p q ok, bbV ps ws zs ns = .tuple #[.agg #[.int .i64 p, .int .i64 q], .bool ok] := by
  unfold bbV
  split
  · exact ⟨_, _, _, rfl⟩
  · exact ⟨0, 0, false, rfl⟩
theorem bndV_len (ps ws zs ns : List Int) : (bndV ps ws zs ns).length = ps.length := valsT_len _ _ _
theorem bndV_abs {ps ws zs ns : List Int} (p : Proc ps ws zs) (q : Proc ps ws ns) : absTo (bndV ps ws zs ns) ps.length ≤ 1438560 := by
  have h2 := absTo_le (L := bndV ps ws zs ns) (B := 59940) ps.length (fun y hy => by
    have := valsT_abs (vs := bndE ps zs ns) p.good 2997 (bndE_bd p q) hy
    unfold bndV; omega)
  have := p.good.n24
  have : ps.length * 59940 ≤ 24 * 59940 := Nat.mul_le_mul_right _ p.good.n24
  omega
theorem bndS_bd {ps ws zs ns : List Int} (p : Proc ps ws zs) (q : Proc ps ws ns) : -1438560 ≤ bndS ps ws zs ns ∧ bndS ps ws zs ns ≤ 1438560 := by
  have h1 := (upL_abs (ParOk.of p.good) (bndV_len ps ws zs ns) (ps.length - 1) (by have := p.good.n1; omega)).2 0 (by have := p.good.n1; omega)
  have h2 := bndV_abs p q
  unfold bndS
  omega
set_option maxHeartbeats 2000000 in
theorem bndPart (ps ws zs ns : List Int) (w W0 : World) (C1 C2 d1 d2 : Nat) (q1 q2 : Option Addr) (pr : Proc ps ws zs) (qr : Proc ps ws ns) (hI : IntsAt w w.heap.size q1 zs) (hJ : IntsAt w w.heap.size q2 ns) (h0 : Below w.heap.size w W0)
    (hc : VBox W0 C1 (.slice q1 zs.length d1) 22) (hd : VBox W0 C2 (.slice q2 ns.length d2) 22) :
    PassI 177 #[.pointer (some ⟨C1, 0, none⟩), .pointer (some ⟨C2, 0, none⟩)] ps (-1998) (bndT ps zs ns) W0 := by
  intro W x hx hb
  have y0 := (hc.below hb hc.lt).cell
  have y1 := (hd.below hb hd.lt).cell
  have hp := ParOk.of pr.good
  have AT := passT_at hp (-1998) (fun a x => maxI a (zs.getD x 0 - ns.getD x 0)) hx
  change (bndT ps zs ns).getD x 0 = maxI (abv ps (-1998) (bndT ps zs ns) x) (zs.getD x 0 - ns.getD x 0) at AT
  have hl := pr.len
  have hl2 := qr.len
  have hn24 := pr.good.n24
  obtain ⟨b, off, rfl, hb2, hc2⟩ := hI.get (i := x) (by omega)
  obtain ⟨b', off', rfl, hb2', hc2'⟩ := hJ.get (i := x) (by omega)
  have hb3 := h0.trans (hb.mono h0.size)
  have hcw : W.cell? ⟨b, off + x, none⟩ = some (.int .i64 (zs.getD x 0)) := by rw [hb3.cell (p := ⟨b, off + x, none⟩) hb2, hc2]
  have hcw' : W.cell? ⟨b', off' + x, none⟩ = some (.int .i64 (ns.getD x 0)) := by rw [hb3.cell (p := ⟨b', off' + x, none⟩) hb2', hc2']
  have i0 : (0 : Int) ≤ (x : Int) := by omega
  have i1 : (x : Int) < (zs.length : Int) := by omega
  have i2 : (x : Int) < (ns.length : Int) := by omega
  have zl : zs.length ≤ 24 := by omega
  have zl2 : ns.length ≤ 24 := by omega
  have zb := pr.bd x (by omega)
  have nb := qr.bd x (by omega)
  obtain ⟨a, ha⟩ : ∃ a, a = abv ps (-1998) (bndT ps zs ns) x := ⟨_, rfl⟩
  rw [← ha] at AT ⊢
  obtain ⟨z, hz⟩ : ∃ z, z = zs.getD x 0 := ⟨_, rfl⟩
  rw [← hz] at AT hcw zb
  obtain ⟨y, hy⟩ : ∃ z, z = ns.getD x 0 := ⟨_, rfl⟩
  rw [← hy] at AT hcw' nb
  rw [AT]
  have DM := Lib.hid (show maxI a (z - y) = max a (z - y) by unfold maxI; split <;> omega)
  have W1 : IntKind.i64.wrap (z - y) = z - y := IntWalk.i64_in _ (by omega)
  clear hc hb AT ha hz hy hc2 hc2' hb3 h0 hI hJ hd hp pr qr hl hl2 hn24 hb2 hb2'
  show Calls _ _ #[.int .i64 a, .int .i64 x, .pointer (some ⟨C1, 0, none⟩), .pointer (some ⟨C2, 0, none⟩)] _ _
  rw [DM.out]
  clear DM
  go_enter Try.func177, Try.ntmps177
  go_wp2_with fail
  go_quiet (fail)
  go_wp2_with fail
  go_ret
  exact ⟨rfl, below_drewN (Below.refl _ _) _⟩
set_option maxHeartbeats 2000000 in
theorem bndSum (ps ws zs ns : List Int) (v1 v2 : Value) (w W0 : World) (B C1 C2 gb cb d2 : Nat) (q2 : Option Addr) (pr : Proc ps ws zs) (qr : Proc ps ws ns) (hbox : TBox W0 B v1 v2) (h : TreeV w w.heap.size (.agg #[v1, v2]) ps ws) (hJ : IntsAt w w.heap.size q2 ns) (h0 : Below w.heap.size w W0)
    (hc : VBox W0 C1 (.slice (some ⟨gb, 0, none⟩) ps.length cb) 22) (hg : gb < W0.heap.size) (hD : ∀ j, j < ps.length → W0.cell? ⟨gb, j, none⟩ = some (.int .i64 ((bndT ps zs ns).getD j 0))) (hd : VBox W0 C2 (.slice q2 ns.length d2) 22) :
    PartI 179 #[.pointer (some ⟨B, 0, none⟩), .pointer (some ⟨C1, 0, none⟩), .pointer (some ⟨C2, 0, none⟩)] ps (bndV ps ws zs ns) W0 := by
  intro W x hx hl hb
  rw [bndV_at pr hx, if_pos hl]
  obtain ⟨x0, x1⟩ := (hbox.below hb hbox.lt).cells
  have y0 := (hc.below hb hc.lt).cell
  have y1 := (hd.below hb hd.lt).cell
  have hn24 := pr.good.n24
  have hl2 := qr.len
  obtain ⟨_, _, e, _, ⟨p2, c2, e2, _, m2, _, i2⟩⟩ := h
  obtain ⟨_, rfl⟩ : v1 = v1 ∧ v2 = .slice p2 ws.length c2 := by simp at e; exact ⟨rfl, by rw [e.2, e2]⟩
  clear e e2
  obtain ⟨bb, off, rfl, hb2, hc2⟩ := IntsAt.get i2 (i := x) (by rw [pr.good.nw]; exact hx)
  obtain ⟨b', off', rfl, hb2', hc2'⟩ := hJ.get (i := 0) (by omega)
  have hb3 := h0.trans (hb.mono h0.size)
  have hcw : W.cell? ⟨bb, off + x, none⟩ = some (.int .i64 (ws.getD x 0)) := by rw [hb3.cell (p := ⟨bb, off + x, none⟩) hb2, hc2]
  have hcn : W.cell? ⟨b', off', none⟩ = some (.int .i64 (ns.getD 0 0)) := by
    have := hb3.cell (p := ⟨b', off' + 0, none⟩) hb2'
    rw [hc2'] at this
    exact this
  have hct : W.cell? ⟨gb, x, none⟩ = some (.int .i64 ((bndT ps zs ns).getD x 0)) := by rw [hb.cell (p := ⟨gb, x, none⟩) hg]; exact hD x hx
  have i0 : (0 : Int) ≤ (x : Int) := by omega
  have i1 : (x : Int) < (ws.length : Int) := by rw [pr.good.nw]; omega
  have i2' : (x : Int) < (ps.length : Int) := by omega
  have i3 : 0 < ns.length := by omega
  have i4 : (0 : Int) < (ns.length : Int) := by omega
  have tb := bnd_bd pr qr x hx
  have nb := qr.bd 0 (by omega)
  have wb := pr.good.w_bd hx
  unfold maxLen at m2
  generalize ws.getD x 0 = z at *
  generalize (bndT ps zs ns).getD x 0 = t at *
  generalize ns.getD 0 0 = y at *
  have AB := natAbs_mul_le (x := z) (y := t + y) (a := 20) (b := 2997) (by omega) (by omega)
  have W1 : IntKind.i64.wrap (t + y) = t + y := IntWalk.i64_in _ (by omega)
  have W2 : IntKind.i64.wrap (z * (t + y)) = z * (t + y) := IntWalk.i64_in _ (by omega)
  clear AB hc2 i2 hb hb3 h0 hbox hl hx hc hd hD hJ hc2' hb2 hb2' hg
  clear pr qr
  show Calls _ _ #[.int .i64 x, .pointer (some ⟨B, 0, none⟩), .pointer (some ⟨C1, 0, none⟩), .pointer (some ⟨C2, 0, none⟩)] _ _
  go_enter Try.func179, Try.ntmps179
  go_wp2_with fail
  go_quiet (fail)
  go_wp2_with fail
  go_ret
  exact ⟨rfl, below_drewN (Below.refl _ _) _⟩
theorem kept_small2 {a b : Int} (ha : -2000000 ≤ a ∧ a ≤ 2000000) (hb : 0 < b ∧ b ≤ 1000000) : keptV (cutN a b) (cutD a b) = .tuple #[.agg #[.int .i64 (cutN a b), .int .i64 (cutD a b)], .bool true] := by
  have h1 := abs_cutN (a := a) (b := b) 2000000 ha (by omega)
  have h2 := cutD_le (a := a) hb.1
  have h3 := cutD_pos (a := a) hb.1
  unfold keptV
  rw [if_pos (by unfold inB; simp; omega)]
set_option maxRecDepth 100000 in
set_option maxHeartbeats 4000000 in
theorem worthI2 (ps ws zs : List Int) (g : Value) (x : Nat) (c : Int) (w : World) (pr : Proc ps ws zs) (hx : x < ps.length) (hc : -2000000 ≤ c ∧ c ≤ 2000000) (h : Game w w.heap.size g ps ws zs) :
    Calls Try.prog 155 #[g, .int .i64 x, .int .i64 c] w (Gives (.agg #[.int .i64 (cutN c ((sumsT ps ws).getD x 0)), .int .i64 (cutD c ((sumsT ps ws).getD x 0))]) w) := by
  have sl := sumsT_len pr.good.nw
  have sp := sums_pos pr.good x hx
  have sb := (sumsT_bd pr.good x hx).2
  have RC : Hid (∀ w', Calls Try.prog 199 #[.int .i64 c, .int .i64 ((sumsT ps ws).getD x 0)] w' (Gives (.tuple #[.agg #[.int .i64 (cutN c ((sumsT ps ws).getD x 0)), .int .i64 (cutD c ((sumsT ps ws).getD x 0))], .bool true]) w')) := Lib.hid (fun w' => by rw [← kept_small2 hc (by omega)]; exact reduceI_pos _ _ w' (by omega) (by omega))
  obtain ⟨v1, v2, us, u, rfl, h1, h2, h3⟩ := h
  obtain ⟨p1, c1, p2, c2, hs⟩ := h1.shape
  injection hs with hs
  injection hs with hs
  injection hs with hs1 hs
  injection hs with hs2 hs
  subst hs1; subst hs2
  clear hs
  obtain ⟨p3, c3, rfl, _, _, _, j3⟩ := h2
  obtain ⟨p4, c4, rfl, _⟩ := h3
  obtain ⟨b3, o3, hq3, hb3, hc3⟩ := j3.get (i := x) (by omega)
  subst hq3
  obtain ⟨sn, hsn⟩ : ∃ sn, sn = (sumsT ps ws).length := ⟨_, rfl⟩
  have i0 : (0 : Int) ≤ (x : Int) := by omega
  have i1 : (x : Int) < (sn : Int) := by omega
  rw [← hsn]
  have B1 := ((Below.refl w.heap.size w).alloc (Nat.le_refl _) (.cells #[.slice p1 ps.length c1, .slice p2 ws.length c2, .slice (some ⟨b3, o3, none⟩) sn c3, .slice p4 zs.length c4] 135)).alloc (by simp) (.cells #[.int .i64 0, .int .i64 0] 26)
  have K0 := alloc_two w (.cells #[.slice p1 ps.length c1, .slice p2 ws.length c2, .slice (some ⟨b3, o3, none⟩) sn c3, .slice p4 zs.length c4] 135) (.cells #[.int .i64 0, .int .i64 0] 26)
  obtain ⟨wa, hwa⟩ : ∃ wa, wa = (w.alloc (.cells #[.slice p1 ps.length c1, .slice p2 ws.length c2, .slice (some ⟨b3, o3, none⟩) sn c3, .slice p4 zs.length c4] 135)).alloc (.cells #[.int .i64 0, .int .i64 0] 26) := ⟨_, rfl⟩
  rw [← hwa] at B1 K0
  have R1 := Lib.hid (show PBox wa (w.heap.size + 1) 0 0 from K0.2)
  obtain ⟨k0, k1, k2, k3⟩ := (show GBox wa w.heap.size (.slice p1 ps.length c1) (.slice p2 ws.length c2) (.slice (some ⟨b3, o3, none⟩) sn c3) (.slice p4 zs.length c4) from K0.1).cells
  have hk3 := (B1.cell (p := ⟨b3, o3 + x, none⟩) hb3).trans hc3
  have HBA := Lib.hid B1
  obtain ⟨s, hss⟩ : ∃ s, s = (sumsT ps ws).getD x 0 := ⟨_, rfl⟩
  rw [← hss] at hk3 hc3 RC ⊢
  obtain ⟨cn, hcn⟩ : ∃ cn, cn = cutN c s := ⟨_, rfl⟩
  obtain ⟨cd, hcd⟩ : ∃ cd, cd = cutD c s := ⟨_, rfl⟩
  rw [← hcn, ← hcd] at RC ⊢
  clear K0 B1 hk3 hss hcn hcd j3 h1 hsn sl sp sb pr
  go_enter Try.func155, Try.ntmps155
  go_wp2_with fail
  rw [← hwa]
  clear hwa k0 k1 k2 k3
  refine (RC.out _).mono ?_
  rintro e w1 ⟨rfl, b1⟩
  have HB1 := HBA.out.trans (b1.mono HBA.out.size)
  have HR1 := R1.out.below b1 R1.out.lt
  have HB2 := Lib.hid (HB1.alloc HB1.size (.cells #[.int .i64 cn, .int .i64 cd] 26))
  have L1 := show PBox (w1.alloc (.cells #[.int .i64 cn, .int .i64 cd] 26)) w1.heap.size cn cd from alloc_heap w1 _
  have HR2 := HR1.below ((Below.refl w1.heap.size w1).alloc (Nat.le_refl _) (.cells #[.int .i64 cn, .int .i64 cd] 26)) HR1.lt
  obtain ⟨l0, l1, _, _⟩ := L1.cells
  obtain ⟨c0, c1', f0, f1⟩ := HR2.cells
  clear b1 HB1 HR1 L1 HR2 hc3
  go_wp2_with fail
  refine bodyPost_ret (v := .agg #[.int .i64 cn, .int .i64 cd]) (by simp [results, Try.results155, go_sem, *]) rfl ⟨rfl, ?_⟩
  exact (HB2.out.setCell (p := ⟨w.heap.size + 1, 0, none⟩) (by simp) _).setCell (p := ⟨w.heap.size + 1, 1, none⟩) (by simp) _
theorem heap_four (w : World) (a b c d : Obj) : ((((w.alloc a).alloc b).alloc c).alloc d).heap[w.heap.size]? = some a ∧ ((((w.alloc a).alloc b).alloc c).alloc d).heap[w.heap.size + 1]? = some b ∧ ((((w.alloc a).alloc b).alloc c).alloc d).heap[w.heap.size + 1 + 1]? = some c ∧ ((((w.alloc a).alloc b).alloc c).alloc d).heap[w.heap.size + 1 + 1 + 1]? = some d := by
  show ((((w.heap.push a).push b).push c).push d)[w.heap.size]? = _ ∧ ((((w.heap.push a).push b).push c).push d)[w.heap.size + 1]? = _ ∧ ((((w.heap.push a).push b).push c).push d)[w.heap.size + 1 + 1]? = _ ∧ ((((w.heap.push a).push b).push c).push d)[w.heap.size + 1 + 1 + 1]? = _
  refine ⟨?_, ?_, ?_, ?_⟩
  · rw [Array.getElem?_push, if_neg (by simp; omega), Array.getElem?_push, if_neg (by simp; omega), Array.getElem?_push, if_neg (by simp), Array.getElem?_push, if_pos rfl]
  · rw [Array.getElem?_push, if_neg (by simp), Array.getElem?_push, if_neg (by simp), Array.getElem?_push, if_pos (by simp)]
  · rw [Array.getElem?_push, if_neg (by simp), Array.getElem?_push, if_pos (by simp)]
  · rw [Array.getElem?_push, if_pos (by simp)]
set_option maxRecDepth 100000 in
set_option maxHeartbeats 8000000 in
theorem bbI (ps ws zs ns : List Int) (v u n : Value) (w : World) (hn1 : zs.length ≤ 1048576) (hn2 : ns.length ≤ 1048576) (h : TreeV w w.heap.size v ps ws) (hu : IntsV w w.heap.size u zs) (hv : IntsV w w.heap.size n ns) :
    Calls Try.prog 133 #[v, u, n] w (Gives (bbV ps ws zs ns) w) := by
  have GC := Lib.hid (fun w' (hb : Below w.heap.size w w') => gameI ps ws zs v u w' hn1 (h.boxed hb) ((hu.below hb).more hb.size))
  have BC := Lib.hid (fun w' (hb : Below w.heap.size w w') => balI ps ws ns v n w' hn2 (h.boxed hb) ((hv.below hb).more hb.size))
  have TV := Lib.hid (fun w' (hb : Below w.heap.size w w') => h.boxed hb)
  have HT := Lib.hid h
  obtain ⟨p1, c1, p2, c2, rfl⟩ := h.shape
  obtain ⟨q, d, rfl, _, _, _, j1⟩ := hu
  obtain ⟨q2, d2, rfl, _, _, _, j2⟩ := hv
  have J1 := Lib.hid j1
  have J2 := Lib.hid j2
  clear h j1 j2
  have hmf : ∀ (fn : Fn) (first cap : Array Value) (w : World), (Instr.makeFunc fn first cap).run Try.prog w = .ok (.func fn first cap) w := fun _ _ _ _ => rfl
  obtain ⟨wa, hwa⟩ : ∃ wa, wa = (((w.alloc (.cells #[.slice p1 ps.length c1, .slice p2 ws.length c2] 29)).alloc (.cells #[.slice q zs.length d] 22)).alloc (.cells #[.slice q2 ns.length d2] 22)).alloc (.cells #[.int .i64 0, .int .i64 0] 26) := ⟨_, rfl⟩
  have B1 : Below w.heap.size w wa := by rw [hwa]; exact ((((Below.refl w.heap.size w).alloc (Nat.le_refl _) _).alloc (by simp) _).alloc (by simp; omega) _).alloc (by simp; omega) _
  obtain ⟨k0, k1, k2, k3⟩ := heap_four w (.cells #[.slice p1 ps.length c1, .slice p2 ws.length c2] 29) (.cells #[.slice q zs.length d] 22) (.cells #[.slice q2 ns.length d2] 22) (.cells #[.int .i64 0, .int .i64 0] 26)
  rw [← hwa] at k0 k1 k2 k3
  have T1 := Lib.hid (show TBox wa w.heap.size (.slice p1 ps.length c1) (.slice p2 ws.length c2) from k0)
  have V1 := Lib.hid (show VBox wa (w.heap.size + 1) (.slice q zs.length d) 22 from k1)
  have V2 := Lib.hid (show VBox wa (w.heap.size + 1 + 1) (.slice q2 ns.length d2) 22 from k2)
  have R1 := Lib.hid (show QBox wa (w.heap.size + 1 + 1 + 1) 0 0 from k3)
  have HBA := Lib.hid B1
  clear B1 k0 k1 k2 k3
  obtain ⟨x0, x1⟩ := T1.out.cells
  have y0 := V1.out.cell
  have G3 : Hid (Calls Try.prog 149 #[.agg #[.slice p1 ps.length c1, .slice p2 ws.length c2], .slice q zs.length d] wa (fun e w' => ∃ P1 N1 C1 P2 N2 C2 P3 N3 C3 P4 N4 C4, e = .returned (.tuple #[.agg #[.slice P1 N1 C1, .slice P2 N2 C2, .slice P3 N3 C3, .slice P4 N4 C4], .bool (procB ps ws zs)]) ∧ (procB ps ws zs = true → Game w' w'.heap.size (.agg #[.slice P1 N1 C1, .slice P2 N2 C2, .slice P3 N3 C3, .slice P4 N4 C4]) ps ws zs) ∧ Below wa.heap.size wa w')) := Lib.hid ((GC.out wa HBA.out).mono (fun e w1 hh => by
    obtain ⟨hb, ⟨h1, h2⟩ | ⟨h1, g, h2, h3⟩⟩ := hh
    · exact ⟨none, 0, 0, none, 0, 0, none, 0, 0, none, 0, 0, by rw [h2, h1]; rfl, (fun h => by rw [h1] at h; cases h), hb⟩
    · obtain ⟨P1, C1, P2, C2, P3, N3, C3, P4, C4, rfl⟩ := h3.parts4
      exact ⟨P1, _, C1, P2, _, C2, P3, N3, C3, P4, _, C4, by rw [h2, h1], fun _ => h3, hb⟩))
  have BO := Lib.hid (show bbOk ps ws zs ns = (procB ps ws zs && (procB ps ws ns && steB ps ws ns true)) from rfl)
  have BV := Lib.hid (show bbV ps ws zs ns = if bbOk ps ws zs ns = true then .tuple #[.agg #[.int .i64 (bbN ps ws zs ns), .int .i64 (bbD ps ws zs ns)], .bool true] else zeroP from rfl)
  have PZ := Lib.hid (fun (h : procB ps ws zs = true) => procB_iff.1 h)
  have PN := Lib.hid (fun (h : (procB ps ws ns && steB ps ws ns true) = true) => procB_iff.1 (by rw [Bool.and_eq_true] at h; exact h.1))
  have BC2 : Hid (∀ w', Below w.heap.size w w' → Calls Try.prog 162 #[.agg #[.slice p1 ps.length c1, .slice p2 ws.length c2], .slice q2 ns.length d2] w' (Gives (.tuple #[.bool (procB ps ws ns && steB ps ws ns true), .bool (procB ps ws ns)]) w')) := Lib.hid (fun w' hb => BC.out w' hb)
  clear GC BC
  generalize procB ps ws ns = pn at *
  generalize (pn && steB ps ws ns true) = bal at *
  cases hz : procB ps ws zs
  · have RV := Lib.hid (show bbV ps ws zs ns = zeroP by rw [BV.out, BO.out, hz]; rfl)
    rw [RV.out]
    rw [hz] at G3
    clear hz PZ PN
    go_enter Try.func133, Try.ntmps133
    go_wp2_with fail
    rw [← hwa]
    clear hwa
    refine G3.out.mono ?_
    rintro e w1 ⟨P1, N1, C1, P2, N2, C2, P3, N3, C3, P4, N4, C4, rfl, _, b1⟩
    have HB1 := Lib.hid ((HBA.out.trans (b1.mono HBA.out.size)).alloc (HBA.out.trans (b1.mono HBA.out.size)).size (.cells #[.slice P1 N1 C1, .slice P2 N2 C2, .slice P3 N3 C3, .slice P4 N4 C4] 135))
    have s1 := b1.size
    obtain ⟨wb, hwb⟩ : ∃ wb, wb = w1.alloc (.cells #[.slice P1 N1 C1, .slice P2 N2 C2, .slice P3 N3 C3, .slice P4 N4 C4] 135) := ⟨_, rfl⟩
    have b2 : Below w1.heap.size w1 wb := by rw [hwb]; exact (Below.refl _ _).alloc (Nat.le_refl _) _
    rw [← hwb] at HB1
    have T2 := (T1.out.below b1 T1.out.lt).below b2 (T1.out.below b1 T1.out.lt).lt
    have V3 := (V2.out.below b1 V2.out.lt).below b2 (V2.out.below b1 V2.out.lt).lt
    have R2 := Lib.hid ((R1.out.below b1 R1.out.lt).below b2 (R1.out.below b1 R1.out.lt).lt)
    clear b1 b2 x0 x1 y0
    obtain ⟨x0, x1⟩ := T2.cells
    have y0 := V3.cell
    clear T2 V3
    rw [hwb] at x0 x1 y0
    go_wp2_with fail
    rw [← hwb]
    clear hwb x0 x1 y0
    refine (BC2.out _ HB1.out).mono ?_
    rintro e w3 ⟨rfl, b3⟩
    have HB3 := Lib.hid (HB1.out.trans (b3.mono HB1.out.size))
    obtain ⟨⟨r0, r1⟩, f0, f1⟩ := (R2.out.below b3 R2.out.lt).cells
    clear b3
    go_wp2_with fail
    refine bodyPost_ret (v := .tuple #[.agg #[.int .i64 0, .int .i64 0], .bool false]) (by simp [results, Try.results133, go_sem, r0, r1]) rfl ⟨rfl, ?_⟩
    exact (HB3.out.setCell (p := ⟨w.heap.size + 1 + 1 + 1, 0, none⟩) (by simp; omega) _).setCell (p := ⟨w.heap.size + 1 + 1 + 1, 1, none⟩) (by simp; omega) _
  have pr := PZ.out hz
  rw [hz] at G3
  cases hbl : bal
  · have RV := Lib.hid (show bbV ps ws zs ns = zeroP by rw [BV.out, BO.out, hz, hbl]; rfl)
    rw [RV.out]
    subst hbl
    clear hz PZ PN pr
    go_enter Try.func133, Try.ntmps133
    go_wp2_with fail
    rw [← hwa]
    clear hwa
    refine G3.out.mono ?_
    rintro e w1 ⟨P1, N1, C1, P2, N2, C2, P3, N3, C3, P4, N4, C4, rfl, _, b1⟩
    have HB1 := Lib.hid ((HBA.out.trans (b1.mono HBA.out.size)).alloc (HBA.out.trans (b1.mono HBA.out.size)).size (.cells #[.slice P1 N1 C1, .slice P2 N2 C2, .slice P3 N3 C3, .slice P4 N4 C4] 135))
    have s1 := b1.size
    obtain ⟨wb, hwb⟩ : ∃ wb, wb = w1.alloc (.cells #[.slice P1 N1 C1, .slice P2 N2 C2, .slice P3 N3 C3, .slice P4 N4 C4] 135) := ⟨_, rfl⟩
    have b2 : Below w1.heap.size w1 wb := by rw [hwb]; exact (Below.refl _ _).alloc (Nat.le_refl _) _
    rw [← hwb] at HB1
    have T2 := (T1.out.below b1 T1.out.lt).below b2 (T1.out.below b1 T1.out.lt).lt
    have V3 := (V2.out.below b1 V2.out.lt).below b2 (V2.out.below b1 V2.out.lt).lt
    have R2 := Lib.hid ((R1.out.below b1 R1.out.lt).below b2 (R1.out.below b1 R1.out.lt).lt)
    clear b1 b2 x0 x1 y0
    obtain ⟨x0, x1⟩ := T2.cells
    have y0 := V3.cell
    clear T2 V3
    rw [hwb] at x0 x1 y0
    go_wp2_with fail
    rw [← hwb]
    clear hwb x0 x1 y0
    refine (BC2.out _ HB1.out).mono ?_
    rintro e w3 ⟨rfl, b3⟩
    have HB3 := Lib.hid (HB1.out.trans (b3.mono HB1.out.size))
    obtain ⟨⟨r0, r1⟩, f0, f1⟩ := (R2.out.below b3 R2.out.lt).cells
    clear b3
    go_wp2_with fail
    refine bodyPost_ret (v := .tuple #[.agg #[.int .i64 0, .int .i64 0], .bool false]) (by simp [results, Try.results133, go_sem, r0, r1]) rfl ⟨rfl, ?_⟩
    exact (HB3.out.setCell (p := ⟨w.heap.size + 1 + 1 + 1, 0, none⟩) (by simp; omega) _).setCell (p := ⟨w.heap.size + 1 + 1 + 1, 1, none⟩) (by simp; omega) _
  have qr := PN.out hbl
  have RV := Lib.hid (show bbV ps ws zs ns = .tuple #[.agg #[.int .i64 (bbN ps ws zs ns), .int .i64 (bbD ps ws zs ns)], .bool true] by rw [BV.out, BO.out, hz, hbl]; rfl)
  rw [RV.out]
  subst hbl
  have PR := Lib.hid pr
  have QR' := Lib.hid qr
  have WO := Lib.hid (fun g w1 (hg : Game w1 w1.heap.size g ps ws zs) w2 (hb : Below w1.heap.size w1 w2) => show Calls Try.prog 155 #[g, .int .i64 0, .int .i64 (bndS ps ws zs ns)] w2 (Gives (.agg #[.int .i64 (bbN ps ws zs ns), .int .i64 (bbD ps ws zs ns)]) w2) from worthI2 ps ws zs g 0 _ w2 pr (by have := pr.good.n1; omega) (by have := bndS_bd pr qr; omega) (hg.boxed hb))
  have hn24 := pr.good.n24
  have hn0 := pr.good.n1
  have TL : Hid ((bndT ps zs ns).length = ps.length) := Lib.hid (bndT_len ps zs ns)
  have TI := Lib.hid (fun i (hi : i < (bndT ps zs ns).length) => show InI64 ((bndT ps zs ns).getD i 0) from by have := bnd_bd pr qr i (by rw [← bndT_len ps zs ns]; exact hi); unfold InI64; omega)
  have PA := Lib.hid (fun W0 C1 C2 (h0 : Below w.heap.size w W0) hc hd => bndPart ps ws zs ns w W0 C1 C2 d d2 q q2 pr qr J1.out J2.out h0 hc hd)
  have PS := Lib.hid (fun W0 B C1 C2 gb cb hbox (h0 : Below w.heap.size w W0) hc hg hD hd => bndSum ps ws zs ns _ _ w W0 B C1 C2 gb cb d2 q2 pr qr hbox HT.out J2.out h0 hc hg hD hd)
  have SV := Lib.hid (And.intro (bndV_len ps ws zs ns) (And.intro (fun y (hy : y < ps.length) (hl : leafB ps y = false) => show (bndV ps ws zs ns).getD y 0 = 0 by rw [bndV_at pr hy, if_neg (by rw [hl]; decide)]) (show absTo (bndV ps ws zs ns) ps.length ≤ 4000000000000000000 by have := bndV_abs pr qr; omega)))
  have SE := Lib.hid (show (upL ps (bndV ps ws zs ns) (ps.length - 1)).getD 0 0 = bndS ps ws zs ns from rfl)
  have SL := Lib.hid (show (upL ps (bndV ps ws zs ns) (ps.length - 1)).length = ps.length by rw [upL_len]; exact bndV_len ps ws zs ns)
  clear hz PZ PN pr qr RV BV BO J1 J2 HT
  generalize bbN ps ws zs ns = N at *
  generalize bbD ps ws zs ns = D at *
  go_enter Try.func133, Try.ntmps133
  go_wp2_with fail
  rw [← hwa]
  clear hwa
  refine G3.out.mono ?_
  rintro e w1 ⟨P1, N1, C1, P2, N2, C2, P3, N3, C3, P4, N4, C4, rfl, hg, b1⟩
  have HG := Lib.hid (hg (by simp))
  have HB1 := Lib.hid ((HBA.out.trans (b1.mono HBA.out.size)).alloc (HBA.out.trans (b1.mono HBA.out.size)).size (.cells #[.slice P1 N1 C1, .slice P2 N2 C2, .slice P3 N3 C3, .slice P4 N4 C4] 135))
  have s1 := b1.size
  obtain ⟨wb, hwb⟩ : ∃ wb, wb = w1.alloc (.cells #[.slice P1 N1 C1, .slice P2 N2 C2, .slice P3 N3 C3, .slice P4 N4 C4] 135) := ⟨_, rfl⟩
  have b2 : Below w1.heap.size w1 wb := by rw [hwb]; exact (Below.refl _ _).alloc (Nat.le_refl _) _
  have GB1 := Lib.hid (show GBox wb w1.heap.size (.slice P1 N1 C1) (.slice P2 N2 C2) (.slice P3 N3 C3) (.slice P4 N4 C4) by rw [hwb]; exact alloc_heap w1 _)
  have BW := Lib.hid b2
  rw [← hwb] at HB1
  have T2 := Lib.hid ((T1.out.below b1 T1.out.lt).below b2 (T1.out.below b1 T1.out.lt).lt)
  have V3 := Lib.hid ((V1.out.below b1 V1.out.lt).below b2 (V1.out.below b1 V1.out.lt).lt)
  have V4 := Lib.hid ((V2.out.below b1 V2.out.lt).below b2 (V2.out.below b1 V2.out.lt).lt)
  have R2 := Lib.hid ((R1.out.below b1 R1.out.lt).below b2 (R1.out.below b1 R1.out.lt).lt)
  clear b1 b2 x0 x1 y0 T1 V1 V2 R1 G3 HBA hg
  obtain ⟨x0, x1⟩ := T2.out.cells
  have y0 := V4.out.cell
  rw [hwb] at x0 x1 y0
  go_wp2_with fail
  rw [← hwb]
  clear hwb x0 x1 y0
  refine (BC2.out _ HB1.out).mono ?_
  rintro e w3 ⟨rfl, b3⟩
  have HB3 := Lib.hid (HB1.out.trans (b3.mono HB1.out.size))
  have BW3 := Lib.hid (BW.out.trans (b3.mono BW.out.size))
  have GB3 := Lib.hid (GB1.out.below b3 GB1.out.lt)
  have T5 := Lib.hid (T2.out.below b3 T2.out.lt)
  have V5 := Lib.hid (V3.out.below b3 V3.out.lt)
  have V6 := Lib.hid (V4.out.below b3 V4.out.lt)
  have R3 := Lib.hid (R2.out.below b3 R2.out.lt)
  clear b3 BC2 HB1 BW GB1 T2 V3 V4 R2
  obtain ⟨x0, x1⟩ := T5.out.cells
  have P := Lib.hid (passI ps ws (bndT ps zs ns) (-1998) _ 177 #[.pointer (some ⟨w.heap.size + 1, 0, none⟩), .pointer (some ⟨w.heap.size + 1 + 1, 0, none⟩)] w3 (enters_of Try.func177 (by kernel_rfl) rfl) PR.out.good (TV.out w3 HB3.out) TL.out TI.out (PA.out w3 _ _ HB3.out V5.out V6.out))
  go_wp2_with fail
  refine P.out.mono ?_
  rintro e w4 ⟨u4, rfl, o4, b4⟩
  obtain ⟨gb, cb, rfl, _, hg2⟩ := o4.shape (by have := TL.out; omega)
  have DC := Lib.hid (fun j (hj : j < ps.length) => o4.cellGet (j := j) (by have := TL.out; omega))
  rw [TL.out]
  obtain ⟨w5, hw5⟩ : ∃ w5, w5 = w4.alloc (.cells #[.slice (some ⟨gb, 0, none⟩) ps.length cb] 22) := ⟨_, rfl⟩
  have b5 : Below w4.heap.size w4 w5 := by rw [hw5]; exact (Below.refl _ _).alloc (Nat.le_refl _) _
  have HB5 := Lib.hid ((HB3.out.trans (b4.mono HB3.out.size)).trans (b5.mono (HB3.out.trans (b4.mono HB3.out.size)).size))
  have BW5 := Lib.hid ((BW3.out.trans (b4.mono BW3.out.size)).trans (b5.mono (BW3.out.trans (b4.mono BW3.out.size)).size))
  have GB5 := Lib.hid ((GB3.out.below b4 GB3.out.lt).below b5 (GB3.out.below b4 GB3.out.lt).lt)
  have T7 := Lib.hid ((T5.out.below b4 T5.out.lt).below b5 (T5.out.below b4 T5.out.lt).lt)
  have V8 := Lib.hid ((V6.out.below b4 V6.out.lt).below b5 (V6.out.below b4 V6.out.lt).lt)
  have R5 := Lib.hid ((R3.out.below b4 R3.out.lt).below b5 (R3.out.below b4 R3.out.lt).lt)
  have VM := Lib.hid (show VBox w5 w4.heap.size (.slice (some ⟨gb, 0, none⟩) ps.length cb) 22 by rw [hw5]; exact alloc_heap w4 _)
  have PP := Lib.hid (sumUpI ps ws (bndV ps ws zs ns) _ 179 #[.pointer (some ⟨w.heap.size, 0, none⟩), .pointer (some ⟨w4.heap.size, 0, none⟩), .pointer (some ⟨w.heap.size + 1 + 1, 0, none⟩)] w5 (enters_of Try.func179 (by kernel_rfl) rfl) PR.out.good (TV.out w5 HB5.out) SV.out.1 SV.out.2.1 SV.out.2.2
    (PS.out w5 w.heap.size w4.heap.size (w.heap.size + 1 + 1) gb cb T7.out HB5.out VM.out (by have := b5.size; omega) (fun j hj => by rw [b5.cell (p := ⟨gb, j, none⟩) hg2]; exact DC.out j hj) V8.out))
  clear o4 b4 b5 x0 x1 P DC HB3 BW3 GB3 T5 V5 V6 R3 PA
  obtain ⟨x0, x1⟩ := T7.out.cells
  rw [hw5] at x0 x1
  go_wp2_with fail
  rw [← hw5]
  clear hw5 x0 x1
  refine PP.out.mono ?_
  rintro e w6 ⟨u6, rfl, o6, b6⟩
  obtain ⟨gs, cs, rfl, _, hg6⟩ := o6.shape (by have := SL.out; omega)
  have c6 := o6.cellGet (j := 0) (by have := SL.out; omega)
  rw [SE.out] at c6
  rw [SL.out]
  have HB6 := Lib.hid (HB5.out.trans (b6.mono HB5.out.size))
  have BW6 := Lib.hid (BW5.out.trans (b6.mono BW5.out.size))
  have GB6 := Lib.hid (GB5.out.below b6 GB5.out.lt)
  have R6 := Lib.hid (R5.out.below b6 R5.out.lt)
  have rl := R6.out.lt
  generalize bndS ps ws zs ns = S at *
  clear o6 b6 PP HB5 BW5 GB5 T7 V8 R5 VM PS SV SE SL TI TL
  have KC : Hid (∀ w', Below w6.heap.size w6 w' → (w'.cell? ⟨w1.heap.size, 0, none⟩ = some (.slice P1 N1 C1) ∧ w'.cell? ⟨w1.heap.size, 1, none⟩ = some (.slice P2 N2 C2) ∧ w'.cell? ⟨w1.heap.size, 2, none⟩ = some (.slice P3 N3 C3) ∧ w'.cell? ⟨w1.heap.size, 3, none⟩ = some (.slice P4 N4 C4)) ∧ w'.cell? ⟨gs, 0, none⟩ = some (.int .i64 S)) := Lib.hid (fun w' hb => ⟨(GB6.out.below hb GB6.out.lt).cells, by rw [hb.cell (p := ⟨gs, 0, none⟩) hg6]; exact c6⟩)
  have WO2 := Lib.hid (WO.out _ w1 HG.out w6.drew (BW6.out.trans ((below_drew (Below.refl w6.heap.size w6)).mono BW6.out.size)))
  obtain ⟨⟨k0, k1, k2, k3⟩, k4⟩ := KC.out _ (below_drew (Below.refl w6.heap.size w6))
  have i0 : 0 < ps.length := by omega
  have i1 : (0 : Int) < (ps.length : Int) := by omega
  go_upto_region 7 with fail
  go_still_tail 4, (by kernel_rfl)
  change wpList _ _ _ _ _ w6.drew
  clear k0 k1 k2 k3 k4 KC
  go_wp2_with fail
  refine WO2.out.mono ?_
  rintro e w7 ⟨rfl, b7⟩
  have b8 : Below w6.heap.size w6 w7 := ⟨b7.os, b7.tape, b7.output, b7.size, b7.block⟩
  have HB7 := Lib.hid (HB6.out.trans (b8.mono HB6.out.size))
  obtain ⟨⟨r0, r1⟩, f0, f1⟩ := (R6.out.below b8 R6.out.lt).cells
  clear b7 b8
  go_wp2_with fail
  refine bodyPost_ret (v := .tuple #[.agg #[.int .i64 N, .int .i64 D], .bool true]) (by simp [results, Try.results133, go_sem, r0, r1]) rfl ⟨rfl, ?_⟩
  exact (HB7.out.setCell (p := ⟨w.heap.size + 1 + 1 + 1, 0, none⟩) (by simp; omega) _).setCell (p := ⟨w.heap.size + 1 + 1 + 1, 1, none⟩) (by simp; omega) _
end Go.Proofs.Ytligidmkhbcpmac
namespace Go.Proofs.Ytligidmkhbcpmac
open Go.RowKit
set_option linter.unusedVariables false
theorem getD_zeros (n i : Nat) : (List.replicate n (0 : Int)).getD i 0 = 0 := by
  rw [List.getD_eq_getElem?_getD, List.getElem?_replicate]; split <;> rfl
theorem proc_zeros {ps ws : List Int} (g : Good ps ws) : Proc ps ws (List.replicate ps.length 0) := ⟨g, by simp, fun i hi => by rw [getD_zeros]; omega⟩
theorem sumTo_zero {L : List Int} (h : ∀ y, L.getD y 0 = 0) : ∀ k, sumTo L k = 0
  | 0 => rfl
  | k + 1 => by show sumTo L k + L.getD k 0 = 0; rw [sumTo_zero h k, h]; rfl
theorem own_zeros (su : List Int) (n i : Nat) (m : Nat) : (ownT su (List.replicate m 0) n).getD i 0 = 0 := by
  by_cases hi : i < n
  · rw [ownT_at hi, getD_zeros, Int.mul_zero]
  · rw [List.getD_eq_getElem?_getD, List.getElem?_eq_none (by rw [ownT_len]; omega)]; rfl
theorem kid_zeros {ps V : List Int} (h : ∀ y, V.getD y 0 = 0) (x : Nat) : kidT ps V x = 0 := by
  unfold kidT
  refine sumTo_zero (fun y => ?_) _
  unfold kidL
  rw [List.getD_eq_getElem?_getD, List.getElem?_map]
  by_cases hy : y < ps.length
  · rw [List.getElem?_range hy]
    simp only [Option.map_some, Option.getD_some]
    have hy' := h y
    split
    · exact hy'
    · rfl
  · rw [List.getElem?_eq_none (by simpa using hy)]; rfl
theorem ste_zeros {ps ws : List Int} (g : Good ps ws) : steB ps ws (List.replicate ps.length 0) true = true := by
  refine bal_yes (proc_zeros g) (fun x hx => ?_)
  unfold balAt
  rw [own_zeros, kid_zeros (fun y => own_zeros _ _ _ _)]
  simp
def seerV (ps ws zs : List Int) : Value := bbV ps ws zs (List.replicate zs.length 0)
theorem seer_ok (ps ws zs : List Int) : bbOk ps ws zs (List.replicate zs.length 0) = procB ps ws zs := by
  unfold bbOk
  cases h : procB ps ws zs
  · rfl
  · have p := procB_iff.1 h
    rw [p.len, procB_iff.2 (proc_zeros p.good), ste_zeros p.good]; rfl
set_option maxRecDepth 100000 in
set_option maxHeartbeats 4000000 in
theorem seerI (ps ws zs : List Int) (v u : Value) (w : World) (hn1 : zs.length ≤ 1048576) (h : TreeV w w.heap.size v ps ws) (hu : IntsV w w.heap.size u zs) :
    Calls Try.prog 71 #[v, u] w (Gives (seerV ps ws zs) w) := by
  have BB := Lib.hid (fun w' n (hb : Below w.heap.size w w') (hn : IntsV w' w'.heap.size n (List.replicate zs.length 0)) => bbI ps ws zs (List.replicate zs.length 0) v u n w' hn1 (by simpa using hn1) (h.boxed hb) ((hu.below hb).more hb.size) hn)
  obtain ⟨p1, c1, p2, c2, rfl⟩ := h.shape
  obtain ⟨q, d, rfl, _⟩ := hu
  clear h
  obtain ⟨N, D, ok, hV⟩ := bbV_form ps ws zs (List.replicate zs.length 0)
  unfold seerV
  rw [hV] at BB ⊢
  clear hV
  obtain ⟨wa, hwa⟩ : ∃ wa, wa = (w.alloc (.cells #[.slice p1 ps.length c1, .slice p2 ws.length c2] 29)).alloc (.cells #[.int .i64 0, .int .i64 0] 26) := ⟨_, rfl⟩
  have B1 : Below w.heap.size w wa := by rw [hwa]; exact ((Below.refl w.heap.size w).alloc (Nat.le_refl _) _).alloc (by simp) _
  obtain ⟨k0, k1⟩ := alloc_two w (.cells #[.slice p1 ps.length c1, .slice p2 ws.length c2] 29) (.cells #[.int .i64 0, .int .i64 0] 26)
  rw [← hwa] at k0 k1
  have T1 := Lib.hid (show TBox wa w.heap.size (.slice p1 ps.length c1) (.slice p2 ws.length c2) from k0)
  have R1 := Lib.hid (show QBox wa (w.heap.size + 1) 0 0 from k1)
  have sz : wa.heap.size = w.heap.size + 1 + 1 := by rw [hwa]; simp
  have SZ := Lib.hid sz
  have HBA := Lib.hid B1
  clear B1 k0 k1 sz
  obtain ⟨x0, x1⟩ := T1.out.cells
  obtain ⟨i0, hi, hz0, hz1, hz2⟩ := info_parts intInfo
  have MK : Hid (∃ mk : World → World, ∀ w0, (Instr.makeSlice 22 (.int .i64 (zs.length : Int)) (.int .i64 (zs.length : Int))).run Try.prog w0 = .ok (.slice (some ⟨w0.heap.size, 0, none⟩) zs.length zs.length) (mk w0) ∧ (mk w0).ownsRow 0 3 1 (.slice (some ⟨w0.heap.size, 0, none⟩) zs.length zs.length) zs.length (List.replicate zs.length (.int .i64 0)) ∧ w0.grownBy (mk w0) none) := Lib.hid (by
    have hx : ∀ w0 : World, ∃ w', (Instr.makeSlice 22 (.int .i64 (zs.length : Int)) (.int .i64 (zs.length : Int))).run Try.prog w0 = .ok (.slice (some ⟨w0.heap.size, 0, none⟩) zs.length zs.length) w' ∧ w'.ownsRow 0 3 1 (.slice (some ⟨w0.heap.size, 0, none⟩) zs.length zs.length) zs.length (List.replicate zs.length (.int .i64 0)) ∧ w0.grownBy w' none := fun w0 => by
      obtain ⟨w', h1, h2, h3⟩ := run_make_full (P := Try.prog) w0 0 22 3 i0 (.int .i64 0) 1 Try.underlying22 hi hz0 hz1 .i64 .i64 zs.length (by rw [hz2]; omega) (by unfold maxLen; omega) (Nat.zero_le _)
      rw [show (Value.int .i64 0).cells = #[Value.int .i64 0] from rfl, Nat.mul_one, toList_madeCells_one] at h2
      exact ⟨w', h1, h2, h3⟩
    exact ⟨fun w0 => Classical.choose (hx w0), fun w0 => Classical.choose_spec (hx w0)⟩)
  obtain ⟨mk, hmk⟩ := MK.out
  have RUN := fun w0 => (hmk w0).1
  have MKO := Lib.hid (fun w0 => (OwnV.made (lo := 0) (hmk w0).2.1).intsV)
  have MKB : Hid (∀ w0 : World, Below w0.heap.size w0 (mk w0)) := Lib.hid (fun w0 => (Below.refl _ _).grown (hmk w0).2.2 (Nat.le_refl _) (by simp))
  clear hmk MK hi hz0 hz1 hz2
  have HD := Lib.hid (below_drew (Below.refl wa.heap.size wa))
  have HM := Lib.hid (HD.out.trans ((MKB.out wa.drew).mono HD.out.size))
  have KC : Hid (∀ w', Below wa.heap.size wa w' → w'.cell? ⟨w.heap.size, 0, none⟩ = some (.slice p1 ps.length c1) ∧ w'.cell? ⟨w.heap.size, 1, none⟩ = some (.slice p2 ws.length c2)) := Lib.hid (fun w' hb => (T1.out.below hb T1.out.lt).cells)
  have BC := Lib.hid (show Calls Try.prog 133 #[.agg #[.slice p1 ps.length c1, .slice p2 ws.length c2], .slice q zs.length d, .slice (some ⟨wa.heap.size, 0, none⟩) zs.length zs.length] (mk wa.drew) _ from BB.out (mk wa.drew) _ (HBA.out.trans (HM.out.mono HBA.out.size)) (MKO.out wa.drew))
  go_enter Try.func71, Try.ntmps71
  go_upto_region 1 with fail
  rw [← hwa]
  clear hwa x0 x1
  go_region_held3 (fun w' => w'.cell? ⟨w.heap.size, 0, none⟩ = some (.slice p1 ps.length c1) ∧ w'.cell? ⟨w.heap.size, 1, none⟩ = some (.slice p2 ws.length c2))
    (first | with_reducible exact KC.out _ HE7 | with_reducible exact KC.out _ HM.out | with_reducible exact KC.out _ HD.out | go_keep)
    (first
      | (go_at_call 133; (with_reducible refine BC.out.mono ?_); rintro e w7 ⟨rfl, b7⟩; (have HE7 := HM.out.trans (b7.mono HM.out.size)); (obtain ⟨⟨r0, r1⟩, f0, f1⟩ := (R1.out.below HE7 R1.out.lt).cells); clear b7))
  have HB7 := Lib.hid (HBA.out.trans (HE7.mono HBA.out.size))
  clear HE7
  go_wp2_with fail
  refine bodyPost_ret (v := .tuple #[.agg #[.int .i64 N, .int .i64 D], .bool ok]) (by simp [results, Try.results71, go_sem, r0, r1]) rfl ⟨rfl, ?_⟩
  exact (HB7.out.setCell (p := ⟨w.heap.size + 1, 0, none⟩) (by simp) _).setCell (p := ⟨w.heap.size + 1, 1, none⟩) (by simp) _
end Go.Proofs.Ytligidmkhbcpmac
namespace Go.Proofs.Ytligidmkhbcpmac
open Go.RowKit
set_option linter.unusedVariables false
end Go.Proofs.Ytligidmkhbcpmac
namespace Go.Proofs.Ytligidmkhbcpmac
open Go.RowKit
set_option linter.unusedVariables false
/-- What stands between the calls in the model where the result has no box. -/
def MBt (w : World) (B : Nat) (v1 v2 : Value) (w' : World) : Prop := TBox w' B v1 v2 ∧ Below w.heap.size w w'
theorem MBt.next {w a b : World} {B : Nat} {v1 v2 : Value} (h : MBt w B v1 v2 a) (hb : Below a.heap.size a b) : MBt w B v1 v2 b := ⟨h.1.below hb h.1.lt, h.2.trans (hb.mono h.2.size)⟩
theorem MBt.drew {w a : World} {B : Nat} {v1 v2 : Value} (h : MBt w B v1 v2 a) : MBt w B v1 v2 a.drew := h.next (below_drew (Below.refl _ _))
end Go.Proofs.Ytligidmkhbcpmac
namespace Go.Proofs.Ytligidmkhbcpmac
open Go.RowKit
set_option linter.unusedVariables false
/-- What is asked of each world may grow on the way. -/
theorem held_more {P : Program} {md : Region.Mode} {ops : Array Oper} {Q : Exit → Act → World → Prop} {S S' : World → Prop} (hs : ∀ w, S' w → S w) : ∀ (fuel : Nat) (listed : Array Bool) (a : Act) (w : World), wpAnyH P md ops Q S' fuel listed a w → wpAnyH P md ops Q S fuel listed a w
  | 0, _, _, _, h => h
  | fuel + 1, _, _, _, h => ⟨h.1, fun i hi => wpOp_mono (fun a' w' h' => ⟨hs _ h'.1, held_more hs fuel _ a' w' h'.2⟩) (h.2 i hi)⟩
end Go.Proofs.Ytligidmkhbcpmac
namespace Go.Proofs.Ytligidmkhbcpmac
open Go.RowKit
set_option linter.unusedVariables false
theorem OwnV.raise {w : World} {lo lo' hi g n c : Nat} {zs : List Int} (h : OwnV w lo hi (.slice (some ⟨g, 0, none⟩) n c) zs) (hg : lo' ≤ g) : OwnV w lo' hi (.slice (some ⟨g, 0, none⟩) n c) zs := by
  refine ⟨⟨h.row.1, ?_⟩, h.lt, h.room, h.in64⟩
  rcases h.row.2 with ⟨h1, _⟩ | ⟨g', cap, cur, h2, _, rest⟩
  · cases h1
  · refine .inr ⟨g', cap, cur, h2, ?_, rest⟩
    injection h2 with h2; injection h2 with h2; injection h2 with h2
    omega
/-- What the row holds behind k ends. -/
def fillT (ps ws vs : List Int) (k : Nat) : List Int := (List.range ps.length).map fun x => if leafB ps x = true ∧ rankL ps x < k then ws.getD x 0 * vs.getD (rankL ps x) 0 else 0
theorem fillT_len (ps ws vs : List Int) (k : Nat) : (fillT ps ws vs k).length = ps.length := by simp [fillT]
theorem fillT_at {ps ws vs : List Int} {k x : Nat} (hx : x < ps.length) : (fillT ps ws vs k).getD x 0 = if leafB ps x = true ∧ rankL ps x < k then ws.getD x 0 * vs.getD (rankL ps x) 0 else 0 := by
  rw [List.getD_eq_getElem?_getD, List.getElem?_eq_getElem (by rw [fillT_len]; exact hx)]
  simp [fillT]
theorem fillT_zero (ps ws vs : List Int) : fillT ps ws vs 0 = List.replicate ps.length 0 := by
  refine list_ext_getD (by rw [fillT_len]; simp) (fun y hy => ?_)
  rw [fillT_len] at hy
  rw [fillT_at hy, if_neg (by omega), List.getD_eq_getElem?_getD, List.getElem?_replicate, if_pos hy]; rfl
theorem fillT_all (ps ws vs : List Int) : fillT ps ws vs (endsT ps).length = valsT ps ws vs := by
  refine list_ext_getD (by rw [fillT_len, valsT_len]) (fun y hy => ?_)
  rw [fillT_len] at hy
  rw [fillT_at hy, valsT_at hy]
  cases hl : leafB ps y
  · simp
  · have := (rank_end hy hl).1
    simp [this]
theorem fillT_set {ps ws vs : List Int} {k x : Nat} (hk : k < (endsT ps).length) (hx : x < ps.length) (he : (endsT ps).getD k 0 = (x : Int)) (hl : leafB ps x = true) :
    (fillT ps ws vs k).set x (ws.getD x 0 * vs.getD k 0) = fillT ps ws vs (k + 1) := by
  have hr : rankL ps x = k := by
    obtain ⟨h1, h2⟩ := rank_end hx hl
    have hp := List.pairwise_iff_getElem.1 (ends_up ps)
    have e : (endsT ps).getD (rankL ps x) 0 = (endsT ps).getD k 0 := by rw [h2, he]
    rw [List.getD_eq_getElem?_getD, List.getD_eq_getElem?_getD, List.getElem?_eq_getElem h1, List.getElem?_eq_getElem hk] at e
    simp only [Option.getD_some] at e
    rcases Nat.lt_trichotomy (rankL ps x) k with h | h | h
    · have := hp _ _ h1 hk h; omega
    · exact h
    · have := hp _ _ hk h1 h; omega
  refine list_ext_getD (by rw [List.length_set, fillT_len, fillT_len]) (fun y hy => ?_)
  rw [List.length_set, fillT_len] at hy
  by_cases hxy : y = x
  · subst hxy
    rw [getD_set_same (by rw [fillT_len]; exact hx), fillT_at hx, if_pos ⟨hl, by omega⟩, hr]
  · rw [getD_set_other (fun e => hxy e.symm), fillT_at hy, fillT_at hy]
    cases hly : leafB ps y
    · simp
    · have h2 := (rank_end hy hly).2
      have hne : rankL ps y ≠ k := fun e => by
        rw [e, he] at h2
        omega
      by_cases hlt : rankL ps y < k
      · rw [if_pos ⟨rfl, hlt⟩, if_pos ⟨rfl, by omega⟩]
      · rw [if_neg (fun h => hlt h.2), if_neg (fun h => by omega)]
theorem fillT_bd {ps ws vs : List Int} (g : Good ps ws) (B : Nat) (hb : ∀ i, (vs.getD i 0).natAbs ≤ B) (k x : Nat) (hx : x < ps.length) : ((fillT ps ws vs k).getD x 0).natAbs ≤ 20 * B := by
  rw [fillT_at hx]
  split
  · have := g.w_bd hx
    exact natAbs_mul_le (by omega) (hb _)
  · simp
/-- What the two rows are behind the first statement. -/
def TwoR (w : World) (ps E : List Int) (p1 p2 : Option Addr) (c1 c2 n2 g1 g2 : Nat) (wx : World) : Prop :=
  OwnV wx (w.heap.size + 1) wx.heap.size (.slice (some ⟨g1, 0, none⟩) ps.length ps.length) (List.replicate ps.length 0) ∧ (∀ j, j < E.length → wx.cell? ⟨g2, j, none⟩ = some (.int .i64 (E.getD j 0))) ∧ g1 ≠ g2 ∧ g2 < wx.heap.size ∧ w.heap.size + 1 ≤ g1 ∧
  TBox wx w.heap.size (.slice p1 ps.length c1) (.slice p2 n2 c2) ∧ Below w.heap.size w wx
set_option maxRecDepth 100000 in
set_option maxHeartbeats 8000000 in
theorem totS (ps ws vs : List Int) (B : Nat) (hB : B ≤ 998001) (v u : Value) (w : World) (gd : Good ps ws) (hvl : vs.length = (endsT ps).length) (hvb : ∀ i, (vs.getD i 0).natAbs ≤ B) (h : TreeV w w.heap.size v ps ws) (hu : IntsV w w.heap.size u vs) :
    Calls Try.prog 158 #[v, u] w (NewInts (upL ps (valsT ps ws vs) (ps.length - 1)) w) := by
  have EN := Lib.hid (fun w' (hb : Below w.heap.size w w') => endsS ps ws v w' (h.boxed hb) gd.n24 (parAll gd))
  obtain ⟨v1, v2, rfl, ⟨p1, c1, rfl, l1, m1, _, i1⟩, ⟨p2, c2, rfl, l2, m2, _, i2⟩⟩ := h
  have P1 := Lib.hid i1
  have P2 := Lib.hid i2
  obtain ⟨q, cq, rfl, lq, mq, zq, iq⟩ := hu
  have V1 := Lib.hid iq
  clear i1 i2 iq zq mq m1 m2
  have hn24 := gd.n24
  have hn1 := gd.n1
  obtain ⟨i0, hi, hz0, hz1, hz2⟩ := info_parts intInfo
  have MK : Hid (∃ mk : World → World, ∀ w0, (Instr.makeSlice 22 (.int .i64 (ps.length : Int)) (.int .i64 (ps.length : Int))).run Try.prog w0 = .ok (.slice (some ⟨w0.heap.size, 0, none⟩) ps.length ps.length) (mk w0) ∧ (mk w0).ownsRow 0 3 1 (.slice (some ⟨w0.heap.size, 0, none⟩) ps.length ps.length) ps.length (List.replicate ps.length (.int .i64 0)) ∧ w0.grownBy (mk w0) none) := Lib.hid (by
    have hx : ∀ w0 : World, ∃ w', (Instr.makeSlice 22 (.int .i64 (ps.length : Int)) (.int .i64 (ps.length : Int))).run Try.prog w0 = .ok (.slice (some ⟨w0.heap.size, 0, none⟩) ps.length ps.length) w' ∧ w'.ownsRow 0 3 1 (.slice (some ⟨w0.heap.size, 0, none⟩) ps.length ps.length) ps.length (List.replicate ps.length (.int .i64 0)) ∧ w0.grownBy w' none := fun w0 => by
      obtain ⟨w', h1, h2, h3⟩ := run_make_full (P := Try.prog) w0 0 22 3 i0 (.int .i64 0) 1 Try.underlying22 hi hz0 hz1 .i64 .i64 ps.length (by rw [hz2]; omega) (by unfold maxLen; omega) (Nat.zero_le _)
      rw [show (Value.int .i64 0).cells = #[Value.int .i64 0] from rfl, Nat.mul_one, toList_madeCells_one] at h2
      exact ⟨w', h1, h2, h3⟩
    exact ⟨fun w0 => Classical.choose (hx w0), fun w0 => Classical.choose_spec (hx w0)⟩)
  obtain ⟨mk, hmk⟩ := MK.out
  have RUN := fun w0 => (hmk w0).1
  have MKO := Lib.hid (fun w0 => OwnV.made (lo := 0) (hmk w0).2.1)
  have MKB : Hid (∀ w0 : World, Below w0.heap.size w0 (mk w0)) := Lib.hid (fun w0 => (Below.refl _ _).grown (hmk w0).2.2 (Nat.le_refl _) (by simp))
  clear hmk MK
  have B1 := (Below.refl w.heap.size w).alloc (Nat.le_refl _) (.cells #[.slice p1 ps.length c1, .slice p2 ws.length c2] 29)
  obtain ⟨wa, hwa⟩ : ∃ wa, wa = w.alloc (.cells #[.slice p1 ps.length c1, .slice p2 ws.length c2] 29) := ⟨_, rfl⟩
  have T1 : Hid (TBox wa w.heap.size (.slice p1 ps.length c1) (.slice p2 ws.length c2)) := Lib.hid (by rw [hwa]; exact alloc_heap w _)
  have sz : wa.heap.size = w.heap.size + 1 := by rw [hwa]; simp
  rw [← hwa] at B1
  have HBA := Lib.hid B1
  have SZ := Lib.hid sz
  clear B1 sz
  obtain ⟨x0, x1⟩ := T1.out.cells
  have EP := ends_pos gd
  have EL := ends_le ps
  obtain ⟨E, hE⟩ : ∃ E, E = endsT ps := ⟨_, rfl⟩
  have HEQ := Lib.hid hE
  rw [← hE] at EN EP EL hvl
  have HVL := Lib.hid hvl
  clear hE hvl
  go_enter Try.func158, Try.ntmps158
  go_upto_region 1 with fail
  rw [← hwa]
  clear hwa
  go_cut [5, 6] (fun o e wx => ∃ g1 g2 ce, o = .slice (some ⟨g1, 0, none⟩) ps.length ps.length ∧ e = .slice (some ⟨g2, 0, none⟩) E.length ce ∧ Hid (TwoR w ps E p1 p2 c1 c2 ws.length g1 g2 wx))
  case first =>
    have HE0 := Lib.hid (show MBt w w.heap.size (.slice p1 ps.length c1) (.slice p2 ws.length c2) wa from ⟨T1.out, HBA.out⟩)
    have HD := Lib.hid HE0.out.drew
    have KC : Hid (∀ w', Hid (MBt w w.heap.size (.slice p1 ps.length c1) (.slice p2 ws.length c2) w') → w'.cell? ⟨w.heap.size, 0, none⟩ = some (.slice p1 ps.length c1) ∧ w'.cell? ⟨w.heap.size, 1, none⟩ = some (.slice p2 ws.length c2)) := Lib.hid (fun w' he => he.out.1.cells)
    have KM : Hid (∀ w', Hid (MBt w w.heap.size (.slice p1 ps.length c1) (.slice p2 ws.length c2) w') → Hid (MBt w w.heap.size (.slice p1 ps.length c1) (.slice p2 ws.length c2) (mk w'))) := Lib.hid (fun w' he => Lib.hid (he.out.next (MKB.out _)))
    have HDM := KM.out _ HD
    have CE : Hid (∀ w', Hid (MBt w w.heap.size (.slice p1 ps.length c1) (.slice p2 ws.length c2) w') → Calls Try.prog 160 #[.agg #[.slice p1 ps.length c1, .slice p2 ws.length c2]] w' (NewInts E w')) := Lib.hid (fun w' he => EN.out w' he.out.2)
    have TA : Hid (∀ (w8 : World) (g2 ce : Nat), Below (mk wa.drew).heap.size (mk wa.drew) w8 → OwnV w8 (mk wa.drew).heap.size w8.heap.size (.slice (some ⟨g2, 0, none⟩) E.length ce) E → (mk wa.drew).heap.size ≤ g2 → g2 < w8.heap.size → TwoR w ps E p1 p2 c1 c2 ws.length wa.drew.heap.size g2 w8) := Lib.hid (fun w8 g2 ce b8 o8 h1 h2 => by
      have hsz : wa.drew.heap.size = w.heap.size + 1 := SZ.out
      have hlt := (MKO.out wa.drew).lt wa.drew.heap.size rfl
      refine ⟨((MKO.out wa.drew).raise (by omega)).below b8 |>.wide b8.size (Nat.le_refl _), fun j hj => o8.cellGet hj, by omega, h2, by omega, HDM.out.1.below b8 HDM.out.1.lt, HDM.out.2.trans (b8.mono HDM.out.2.size)⟩)
    have TB : Hid (∀ (w8 : World) (g2 ce : Nat), Hid (MBt w w.heap.size (.slice p1 ps.length c1) (.slice p2 ws.length c2) w8) → w.heap.size + 1 ≤ w8.heap.size → OwnV w8 wa.drew.heap.size w8.heap.size (.slice (some ⟨g2, 0, none⟩) E.length ce) E → g2 < w8.heap.size → TwoR w ps E p1 p2 c1 c2 ws.length w8.heap.size g2 (mk w8)) := Lib.hid (fun w8 g2 ce he h1 o8 h2 => by
      have hb := MKB.out w8
      exact ⟨(MKO.out w8).raise h1, fun j hj => (hb.cell (p := ⟨g2, j, none⟩) h2).trans (o8.cellGet hj), by omega, by have := hb.size; omega, h1, (KM.out _ he).out.1, (KM.out _ he).out.2⟩)
    have S8 : Hid (∀ w8 : World, Below wa.drew.heap.size wa.drew w8 → w.heap.size + 1 ≤ w8.heap.size) := Lib.hid (fun w8 b8 => by have := b8.size; have hsz : wa.drew.heap.size = w.heap.size + 1 := SZ.out; omega)
    go_region_held3 (fun w' => w'.cell? ⟨w.heap.size, 0, none⟩ = some (.slice p1 ps.length c1) ∧ w'.cell? ⟨w.heap.size, 1, none⟩ = some (.slice p2 ws.length c2))
      (first | exact KC.out _ HD | exact KC.out _ HDM | exact KC.out _ (by assumption) | exact KC.out _ (KM.out _ (by assumption)) | go_keep)
      (first
        | (go_at_call 160; (with_reducible refine (CE.out _ (by first | exact HD | exact HDM | assumption)).mono ?_); rintro e w8 ⟨u8, rfl, o8, b8⟩; (obtain ⟨g2, ce, rfl, hg1, hg2⟩ := o8.shape EP); (have HE8 := Lib.hid (MBt.next (Hid.out (by first | exact HD | exact HDM | assumption)) b8))))
    all_goals
      go_wp2_with fail
      go_meet
      refine ⟨_, _, _, rfl, rfl, Lib.hid ?_⟩
      first
        | exact TA.out _ _ _ b8 o8 hg1 hg2
        | exact TB.out _ _ _ HE8 (S8.out _ b8) o8 hg2
  obtain ⟨g1, g2, ce, rfl, rfl, hT⟩ := hcut
  obtain ⟨w3, rfl⟩ : ∃ w3 : World, w3 = wc := ⟨_, rfl⟩
  have F0 := Lib.hid (fillT_zero ps ws vs)
  have OZ : Hid (OwnV w3 (w.heap.size + 1) w3.heap.size (.slice (some ⟨g1, 0, none⟩) ps.length ps.length) (fillT ps ws vs 0)) := Lib.hid (by rw [F0.out]; exact hT.out.1)
  have DC := Lib.hid hT.out.2.1
  have NE := hT.out.2.2.1
  have G2 := Lib.hid hT.out.2.2.2.1
  have G1 := hT.out.2.2.2.2.1
  have T3 := Lib.hid hT.out.2.2.2.2.2.1
  have B3 := Lib.hid hT.out.2.2.2.2.2.2
  have FB := Lib.hid (fun k x (hx : x < ps.length) => fillT_bd gd B hvb k x hx)
  have EI := Lib.hid (fun i (hi : i < (endsT ps).length) => ends_in hi)
  have FS := Lib.hid (fun k x (hk : k < (endsT ps).length) (hx : x < ps.length) he hl => fillT_set (ws := ws) (vs := vs) hk hx he hl)
  have FA := Lib.hid (fillT_all ps ws vs)
  rw [← HEQ.out] at EI FS FA
  have GW := Lib.hid (fun x (hx : x < ps.length) => gd.w_bd hx)
  have NW := Lib.hid gd.nw
  have VBH := Lib.hid hvb
  have HP := Lib.hid (ParOk.of gd)
  have UA := Lib.hid (fun m hm => (upL_abs (ParOk.of gd) (valsT_len ps ws vs) m hm).2)
  have VS := Lib.hid (valsT_sum (vs := vs) gd B hvb)
  clear hT gd hvb F0 T1 HBA EN RUN MKO MKB x0 x1 SZ
  go_wp2_with fail
  go_loopw [7] (fun i wr => ∃ k : Nat, k ≤ E.length ∧ i = .int .i64 k ∧ Hid (OwnV wr (w.heap.size + 1) wr.heap.size (.slice (some ⟨g1, 0, none⟩) ps.length ps.length) (fillT ps ws vs k)) ∧ Hid (∀ j, j < E.length → wr.cell? ⟨g2, j, none⟩ = some (.int .i64 (E.getD j 0))) ∧ Hid (TBox wr w.heap.size (.slice p1 ps.length c1) (.slice p2 ws.length c2)) ∧ Hid (Below w.heap.size w wr)) (fun i _ => E.length - (intOf i).toNat)
  case atStart => exact ⟨0, Nat.zero_le _, rfl, OZ, DC, T3, B3⟩
  case round =>
    obtain ⟨k, hk, rfl, HO, HC, HT, HB⟩ := hrel
    obtain ⟨x0, x1⟩ := HT.out.cells
    clear OZ DC T3 B3
    by_cases hlt : k < E.length
    · have hce := HC.out k hlt
      obtain ⟨x, hx, hxl, hlf⟩ := EI.out k hlt
      have ST := Lib.hid (FS.out k x hlt hxl hx.symm hlf)
      rw [← hx] at hce
      have hxw : x < ws.length := by have := NW.out; omega
      have hkv : k < vs.length := by have := HVL.out; omega
      obtain ⟨b2, o2, rfl, hb2, hc2⟩ := P2.out.get hxw
      obtain ⟨b3, o3, rfl, hb3, hc3⟩ := V1.out.get hkv
      have hcw : wr.cell? ⟨b2, o2 + x, none⟩ = some (.int .i64 (ws.getD x 0)) := by rw [HB.out.cell (p := ⟨b2, o2 + x, none⟩) hb2, hc2]
      have hcv : wr.cell? ⟨b3, o3 + k, none⟩ = some (.int .i64 (vs.getD k 0)) := by rw [HB.out.cell (p := ⟨b3, o3 + k, none⟩) hb3, hc3]
      have PR := natAbs_mul_le (x := ws.getD x 0) (y := vs.getD k 0) (a := 20) (b := B) (by have := GW.out x hxl; omega) (VBH.out k)
      have hold := HO.out.cellGet (j := x) (by rw [fillT_len]; exact hxl)
      have hfz := HO.out.frozenGet x
      obtain ⟨z, hz⟩ : ∃ z, z = ws.getD x 0 := ⟨_, rfl⟩
      obtain ⟨y, hy⟩ : ∃ y, y = vs.getD k 0 := ⟨_, rfl⟩
      obtain ⟨old, hod⟩ : ∃ old, old = (fillT ps ws vs k).getD x 0 := ⟨_, rfl⟩
      rw [← hz] at hcw PR ST
      rw [← hy] at hcv PR ST
      rw [← hod] at hold
      have O4 := Lib.hid (HO.out.setAt x (x := z * y) (by unfold InI64; omega))
      rw [ST.out] at O4
      have C4 : Hid (∀ j, j < E.length → (wr.setCell ⟨g1, x, none⟩ (.int .i64 (z * y))).cell? ⟨g2, j, none⟩ = some (.int .i64 (E.getD j 0))) := Lib.hid (fun j hj => by rw [World.cell?_setCell_other _ _ _ _ (by intro e; injection e; omega)]; exact HC.out j hj)
      have T4 := Lib.hid (HT.out.set (g := g1) (o := x) (x := .int .i64 (z * y)) (by omega))
      have B4 := Lib.hid (HB.out.setCell (p := ⟨g1, x, none⟩) (by simp; omega) (.int .i64 (z * y)))
      have i0 : (0 : Int) ≤ (k : Int) := by omega
      have i1 : (k : Int) < (E.length : Int) := by omega
      have i2 : (k : Int) < (vs.length : Int) := by omega
      have j0 : (0 : Int) ≤ (x : Int) := by omega
      have j1 : (x : Int) < (ps.length : Int) := by omega
      have j2 : (x : Int) < (ws.length : Int) := by omega
      have WR : IntKind.i64.wrap (z * y) = z * y := IntWalk.i64_in _ (by omega)
      clear hz hy hod hx PR ST HO HC HT HB hc2 hc3 hlf
      go_wp2_with fail
      go_region
      go_wp2_with fail
      clear WR
      go_roundw
      case rel => exact ⟨k + 1, by omega, by go_num, Lib.hid (by have h := O4.out.below (below_drew (Below.refl _ _)); simpa [World.setCell] using h), Lib.hid (fun j hj => C4.out j hj), Lib.hid (show TBox _ _ _ _ from T4.out), Lib.hid (below_drew B4.out)⟩
      case measure => simp [intOf]; omega
    · have hkE : k = E.length := by omega
      have O5 : Hid (OwnV wr (w.heap.size + 1) wr.heap.size (.slice (some ⟨g1, 0, none⟩) ps.length ps.length) (upL ps (valsT ps ws vs) 0)) := Lib.hid (by have h := HO.out; rw [hkE, FA.out] at h; exact h)
      have LV := Lib.hid (valsT_len ps ws vs)
      have UB : Hid (∀ m, m + 1 ≤ ps.length → ∀ j, j < ps.length → -500000000 ≤ (upL ps (valsT ps ws vs) m).getD j 0 ∧ (upL ps (valsT ps ws vs) m).getD j 0 ≤ 500000000) := Lib.hid (fun m hm j hj => by
        have h1 := UA.out m hm j hj
        have h2 := VS.out
        have h3 : ps.length * (20 * B) ≤ 24 * (20 * 998001) := Nat.mul_le_mul (by omega) (by omega)
        omega)
      obtain ⟨VL, hVL⟩ : ∃ VL, VL = valsT ps ws vs := ⟨_, rfl⟩
      rw [← hVL] at O5 LV UB
      have HVE := Lib.hid hVL
      clear hVL HO HC FA UA VS FS FB EI hkE x0 x1
      obtain ⟨W0, hW0⟩ : ∃ W0, W0 = wr := ⟨_, rfl⟩
      have T5 := HT
      have B5 := HB
      clear hW0
      go_wp2_with fail
      go_loopw [8] (fun i wr => ∃ k : Nat, 1 ≤ k ∧ k ≤ ps.length ∧ i = .int .i64 ((k : Int) - 1) ∧ Hid (OwnV wr (w.heap.size + 1) wr.heap.size (.slice (some ⟨g1, 0, none⟩) ps.length ps.length) (upL ps VL (ps.length - k))) ∧ Hid (TBox wr w.heap.size (.slice p1 ps.length c1) (.slice p2 ws.length c2)) ∧ Hid (Below w.heap.size w wr)) (fun i _ => (intOf i).toNat)
      case atStart => exact ⟨ps.length, hn1, Nat.le_refl _, rfl, Lib.hid (by rw [Nat.sub_self]; exact O5.out), T5, B5⟩
      case round =>
        obtain ⟨k, hk1, hk, rfl, HO, HT, HB⟩ := hrel
        obtain ⟨x0, x1⟩ := HT.out.cells
        clear T5 B5 O5
        by_cases hk2 : k = 1
        · subst hk2
          have FIN : Hid (NewInts (upL ps (valsT ps ws vs) (ps.length - 1)) w (.returned (.slice (some ⟨g1, 0, none⟩) ps.length ps.length)) wr) := Lib.hid ⟨_, rfl, by
            rw [← HVE.out]; exact HO.out.low (by omega), HB.out⟩
          clear HO
          go_wp2
          go_ret
          exact FIN.out
        · obtain ⟨x, rfl⟩ : ∃ x, k = x + 1 := ⟨k - 1, by omega⟩
          rw [show (((x + 1 : Nat) : Int) - 1) = (x : Int) by omega]
          have hx0 : 0 < x := by omega
          have hlt2 : x < ps.length := by omega
          obtain ⟨m, hm⟩ : ∃ m, m = ps.length - (x + 1) := ⟨_, rfl⟩
          rw [← hm] at HO
          have HM1 := Lib.hid (show m + 1 = ps.length - x by omega)
          obtain ⟨b, off, rfl, hb, hc⟩ := P1.out.get hlt2
          obtain ⟨q1, q2⟩ := HP.out x (by omega) hlt2
          obtain ⟨j, hj⟩ : ∃ j : Nat, ps.getD x 0 = (j : Int) := ⟨(ps.getD x 0).toNat, by omega⟩
          have hjx : j < x := by omega
          have LL : (upL ps VL m).length = ps.length := by rw [upL_len, LV.out]
          have RD : upL ps VL (m + 1) = (upL ps VL m).set j ((upL ps VL m).getD j 0 + (upL ps VL m).getD x 0) := by
            rw [upL, show ps.length - 1 - m = x by omega]; unfold addUp
            rw [if_neg (by omega), hj, show ((j : Int)).toNat = j by omega]
          have hdj := HO.out.cellGet (j := j) (by omega)
          have hdx := HO.out.cellGet (j := x) (by omega)
          have hfj := HO.out.frozenGet j
          obtain ⟨e1, e2⟩ := UB.out m (by omega) j (by omega)
          obtain ⟨e3, e4⟩ := UB.out m (by omega) x (by omega)
          obtain ⟨d1, hd1⟩ : ∃ d, d = (upL ps VL m).getD j 0 := ⟨_, rfl⟩
          obtain ⟨d2, hd2⟩ : ∃ d, d = (upL ps VL m).getD x 0 := ⟨_, rfl⟩
          have HCW := HB.out.cell (p := ⟨b, off + x, none⟩) hb
          rw [hc, hj] at HCW
          rw [← hd1] at hdj RD e1 e2
          rw [← hd2] at hdx RD e3 e4
          have O6 := Lib.hid (HO.out.setAt j (x := d1 + d2) (by unfold InI64; omega))
          rw [← RD] at O6
          have T6 := Lib.hid (HT.out.set (g := g1) (o := j) (x := .int .i64 (d1 + d2)) (by omega))
          have B6 := Lib.hid (HB.out.setCell (p := ⟨g1, j, none⟩) (by simp; omega) (.int .i64 (d1 + d2)))
          have i0 : (0 : Int) ≤ (x : Int) := by omega
          have i1 : (x : Int) < (ps.length : Int) := by omega
          have j0 : (0 : Int) ≤ (j : Int) := by omega
          have j1 : (j : Int) < (ps.length : Int) := by omega
          have x0' : (0 : Int) < (x : Int) := by omega
          clear hd1 hd2 RD hj q1 q2 hc LL hm HO HT HB
          go_wp2_with fail
          go_region
          go_wp2_with fail
          go_roundw
          case rel => exact ⟨x, by omega, by omega, rfl, Lib.hid (by have h := O6.out.below (below_drew (Below.refl _ _)); rw [HM1.out] at h; simpa [World.setCell] using h), Lib.hid (show TBox _ _ _ _ from T6.out), Lib.hid (below_drew B6.out)⟩
          case measure => simp [intOf]; first | done | omega
end Go.Proofs.Ytligidmkhbcpmac
namespace Go.Proofs.Ytligidmkhbcpmac
open Go.RowKit
set_option linter.unusedVariables false
def flat2 (ls : List (Value × Value)) : List Value := ls.flatMap fun p => [p.1, p.2]
theorem flat2_nil : flat2 [] = [] := rfl
theorem flat2_cons (p : Value × Value) (ls : List (Value × Value)) : flat2 (p :: ls) = p.1 :: p.2 :: flat2 ls := rfl
theorem flat2_app (a b : List (Value × Value)) : flat2 (a ++ b) = flat2 a ++ flat2 b := by unfold flat2; rw [List.flatMap_append]
theorem flat2_len (ls : List (Value × Value)) : (flat2 ls).length = ls.length * 2 := by
  induction ls with
  | nil => rfl
  | cons p t ih => rw [flat2_cons, List.length_cons, List.length_cons, ih, List.length_cons]; omega
theorem flat2_at : ∀ (ls : List (Value × Value)) (j : Nat) (p : Value × Value), ls[j]? = some p → (flat2 ls)[j * 2]? = some p.1 ∧ (flat2 ls)[j * 2 + 1]? = some p.2 := by
  intro ls
  induction ls with
  | nil => intro j p h; simp at h
  | cons a t ih =>
    intro j p h
    cases j with
    | zero => simp at h; subst h; exact ⟨rfl, rfl⟩
    | succ j =>
      have h2 := ih j p (by simpa using h)
      rw [flat2_cons, show (j + 1) * 2 = j * 2 + 1 + 1 by omega]
      exact ⟨by simpa using h2.1, by simpa using h2.2⟩
structure OwnP (T : TypeId) (w : World) (lo hi : Nat) (v : Value) (ls : List (Value × Value)) : Prop where
  row : w.ownsRow lo T 2 v ls.length (flat2 ls)
  lt : ∀ q, v.ownBlock = some q → q < hi
  room : hi ≤ w.heap.size
theorem OwnP.below {T : TypeId} {w w' : World} {lo hi : Nat} {v : Value} {ls : List (Value × Value)} (h : OwnP T w lo hi v ls) (hb : Below hi w w') : OwnP T w' lo hi v ls := by
  refine ⟨?_, h.lt, Nat.le_trans h.room hb.size⟩
  refine ⟨h.row.1, ?_⟩
  rcases h.row.2 with hn | ⟨g, cap, cur, h1, hb', hg, rest⟩
  · exact .inl hn
  · refine .inr ⟨g, cap, cur, h1, hb', ?_, rest⟩
    rw [hb.block g (h.lt g (by rw [h1]; simp [Value.ownBlock]))]; exact hg
theorem OwnP.wide {T : TypeId} {w : World} {lo hi hi' : Nat} {v : Value} {ls : List (Value × Value)} (h : OwnP T w lo hi v ls) (h2 : hi ≤ hi') (hr : hi' ≤ w.heap.size) : OwnP T w lo hi' v ls :=
  ⟨h.row, fun q hq => by have := h.lt q hq; omega, hr⟩
theorem OwnP.low {T : TypeId} {w : World} {lo lo' hi : Nat} {v : Value} {ls : List (Value × Value)} (h : OwnP T w lo hi v ls) (h1 : lo' ≤ lo) : OwnP T w lo' hi v ls := by
  refine ⟨⟨h.row.1, ?_⟩, h.lt, h.room⟩
  rcases h.row.2 with hn | ⟨g, cap, cur, h2, hb', rest⟩
  · exact .inl hn
  · exact .inr ⟨g, cap, cur, h2, by omega, rest⟩
theorem OwnP.shape {T : TypeId} {w : World} {lo hi : Nat} {v : Value} {ls : List (Value × Value)} (h : OwnP T w lo hi v ls) (hp : 0 < ls.length) : ∃ g cap, v = .slice (some ⟨g, 0, none⟩) ls.length cap ∧ lo ≤ g ∧ g < hi := by
  rcases h.row.2 with ⟨_, h2⟩ | ⟨g, cap, cur, h1, hb, _⟩
  · omega
  · exact ⟨g, cap, h1, hb, h.lt g (by rw [h1]; simp [Value.ownBlock])⟩
theorem OwnP.cellGet {T : TypeId} {w : World} {lo hi g cap : Nat} {ls : List (Value × Value)} (h : OwnP T w lo hi (.slice (some ⟨g, 0, none⟩) ls.length cap) ls) {j : Nat} {p : Value × Value} (hj : ls[j]? = some p) : w.cell? ⟨g, j * 2, none⟩ = some p.1 ∧ w.cell? ⟨g, j * 2 + 1, none⟩ = some p.2 := by
  have hlt : j < ls.length := (List.getElem?_eq_some_iff.1 hj).1
  obtain ⟨h1, h2⟩ := flat2_at ls j p hj
  rw [h.row.cellAt (j * 2) (by omega), h.row.cellAt (j * 2 + 1) (by omega)]
  exact ⟨h1, h2⟩
theorem OwnP.app {T : TypeId} {wr w3 : World} {lo : Nat} {o v' : Value} {L : List (Value × Value)} {p : Value × Value} (h : OwnP T wr lo wr.heap.size o L)
    (hown : w3.ownsRow lo T 2 v' (L.length + 1) (flat2 L ++ [p.1, p.2])) : OwnP T w3 lo w3.heap.size v' (L ++ [p]) := by
  refine ⟨?_, fun q hq => (hown.lt q hq).2, Nat.le_refl _⟩
  rw [List.length_append, flat2_app]; exact hown
theorem OwnP.single (T : TypeId) (w : World) (lo : Nat) (p : Value × Value) (hlo : lo ≤ w.heap.size) : OwnP T (w.alloc (.cells #[p.1, p.2] T)) lo (w.alloc (.cells #[p.1, p.2] T)).heap.size (.slice (some ⟨w.heap.size, 0, none⟩) 1 1) [p] := by
  refine ⟨⟨rfl, .inr ⟨w.heap.size, 1, #[p.1, p.2], rfl, hlo, alloc_heap w _, by simp, by unfold maxLen; omega, rfl, rfl⟩⟩, ?_, Nat.le_refl _⟩
  intro q hq
  simp [Value.ownBlock] at hq
  subst hq
  simp
/-- A row in new memory. -/
def NewP (T : TypeId) (ls : List (Value × Value)) (w : World) (e : Ending) (w' : World) : Prop :=
  ∃ v, e = .returned v ∧ OwnP T w' w.heap.size w'.heap.size v ls ∧ Below w.heap.size w w'
/-- The first k of the elements that a function tells. -/
def rowP (f : Nat → Value × Value) (k : Nat) : List (Value × Value) := (List.range k).map f
theorem rowP_len (f : Nat → Value × Value) (k : Nat) : (rowP f k).length = k := by simp [rowP]
theorem rowP_succ (f : Nat → Value × Value) (k : Nat) : rowP f (k + 1) = rowP f k ++ [f k] := by unfold rowP; rw [List.range_succ, List.map_append]; rfl
theorem rowP_at (f : Nat → Value × Value) {j k : Nat} (h : j < k) : (rowP f k)[j]? = some (f j) := by unfold rowP; rw [List.getElem?_map, List.getElem?_range h]; rfl
theorem cell_two_new (w : World) (a b : Value) (T : TypeId) : ∀ (j : Nat) (u : Value), [a, b][j]? = some u → (w.alloc (.cells #[a, b] T)).cell? ((⟨w.heap.size, 0, none⟩ : Addr).add j) = some u := by
  intro j u hu
  obtain ⟨hj, hu⟩ := List.getElem?_eq_some_iff.1 hu
  rw [Addr.add_lit, Nat.zero_add]
  have hh := alloc_heap w (.cells #[a, b] T)
  refine (cell_of_heap (o := j) hh ?_).1
  have : j = 0 ∨ j = 1 := by simp at hj; omega
  rcases this with rfl | rfl
  · simpa using hu
  · simpa using hu
end Go.Proofs.Ytligidmkhbcpmac
namespace Go.Proofs.Ytligidmkhbcpmac
open Go.RowKit
set_option linter.unusedVariables false
/-- What the three rows are behind the first statement. -/
structure MeanR (w : World) (p1 p2 : Option Addr) (c1 c2 n n2 : Nat) (S P : List Int) (go gs gp : Nat) (wx : World) : Prop where
  out : OwnQ wx (w.heap.size + 1) wx.heap.size (.slice (some ⟨go, 0, none⟩) 0 0) 0 []
  su : ∀ j, j < n → wx.cell? ⟨gs, j, none⟩ = some (.int .i64 (S.getD j 0))
  pr : ∀ j, j < n → wx.cell? ⟨gp, j, none⟩ = some (.int .i64 (P.getD j 0))
  ne : gs ≠ go ∧ gp ≠ go ∧ gs < wx.heap.size ∧ gp < wx.heap.size
  box : TBox wx w.heap.size (.slice p1 n c1) (.slice p2 n2 c2)
  bel : Below w.heap.size w wx
set_option maxRecDepth 100000 in
set_option maxHeartbeats 8000000 in
theorem l2MeansS (ps ws vs : List Int) (v u : Value) (w : World) (p : Pay ps ws vs) (h : TreeV w w.heap.size v ps ws) (hu : IntsV w w.heap.size u vs) :
    Calls Try.prog 85 #[v, u] w (NewQ ps.length (prL (meanN ps ws vs) (meanD ps ws vs) ps.length) w) := by
  have SU := Lib.hid (fun w' (hb : Below w.heap.size w w') => sumsS ps ws v w' p.good (h.boxed hb))
  have TO := Lib.hid (fun w' (hb : Below w.heap.size w w') => totS ps ws vs 999 (by omega) v u w' p.good p.len p.abs (h.boxed hb) ((hu.below hb).more hb.size))
  have PE : Hid (upL ps (valsT ps ws vs) (ps.length - 1) = prodT ps ws vs) := Lib.hid rfl
  rw [PE.out] at TO
  have hn24 := p.good.n24
  have hn1 := p.good.n1
  obtain ⟨p1, c1, p2, c2, rfl⟩ := h.shape
  obtain ⟨q, cq, rfl, _⟩ := hu
  clear h PE
  have SL : Hid ((sumsT ps ws).length = ps.length) := Lib.hid (sumsT_len p.good.nw)
  have PL : Hid ((prodT ps ws vs).length = ps.length) := Lib.hid (prodT_len ps ws vs)
  have BD := Lib.hid (fun x (hx : x < ps.length) => mean_bd p hx)
  have RC : Hid (∀ (x : Nat) (w' : World), x < ps.length → Calls Try.prog 159 #[.int .i64 ((prodT ps ws vs).getD x 0), .int .i64 ((sumsT ps ws).getD x 0)] w' (Gives (.agg #[.int .i64 (meanN ps ws vs x), .int .i64 (meanD ps ws vs x)]) w')) := Lib.hid (fun x w' hx => by
    have h1 := prod_bd p hx
    have h2 := sums_pos p.good x hx
    have h3 := (sumsT_bd p.good x hx).2
    exact cutS _ _ w' (by omega) (by omega))
  have B1 := (Below.refl w.heap.size w).alloc (Nat.le_refl _) (.cells #[.slice p1 ps.length c1, .slice p2 ws.length c2] 29)
  obtain ⟨wa, hwa⟩ : ∃ wa, wa = w.alloc (.cells #[.slice p1 ps.length c1, .slice p2 ws.length c2] 29) := ⟨_, rfl⟩
  have T1 : Hid (TBox wa w.heap.size (.slice p1 ps.length c1) (.slice p2 ws.length c2)) := Lib.hid (by rw [hwa]; exact alloc_heap w _)
  have sz : wa.heap.size = w.heap.size + 1 := by rw [hwa]; simp
  rw [← hwa] at B1
  have HBA := Lib.hid B1
  have SZ := Lib.hid sz
  clear B1 sz p
  obtain ⟨x0, x1⟩ := T1.out.cells
  obtain ⟨n, hn⟩ : ∃ n, n = ps.length := ⟨_, rfl⟩
  obtain ⟨S, hS⟩ : ∃ S, S = sumsT ps ws := ⟨_, rfl⟩
  obtain ⟨P, hP⟩ : ∃ P, P = prodT ps ws vs := ⟨_, rfl⟩
  obtain ⟨A, hA⟩ : ∃ A, A = meanN ps ws vs := ⟨_, rfl⟩
  obtain ⟨B, hB⟩ : ∃ B, B = meanD ps ws vs := ⟨_, rfl⟩
  rw [← hn] at SL PL BD RC T1 hn24 hn1 hwa SU TO x0 ⊢
  rw [← hS] at SL RC SU
  rw [← hP] at PL RC TO
  rw [← hA] at BD RC ⊢
  rw [← hB] at BD RC ⊢
  clear hn hS hP hA hB
  go_enter Try.func85, Try.ntmps85
  go_upto_region 1 with fail
  rw [← hwa]
  clear hwa
  go_cut [5, 6, 7] (fun o s t wx => ∃ go gs gp cs cp, o = .slice (some ⟨go, 0, none⟩) 0 0 ∧ s = .slice (some ⟨gs, 0, none⟩) n cs ∧ t = .slice (some ⟨gp, 0, none⟩) n cp ∧ Hid (MeanR w p1 p2 c1 c2 n ws.length S P go gs gp wx))
  case first =>
    have HE0 := Lib.hid (show MBt w w.heap.size (.slice p1 n c1) (.slice p2 ws.length c2) wa from ⟨T1.out, HBA.out⟩)
    have HD := Lib.hid HE0.out.drew
    have KC : Hid (∀ w', Hid (MBt w w.heap.size (.slice p1 n c1) (.slice p2 ws.length c2) w') → w'.cell? ⟨w.heap.size, 0, none⟩ = some (.slice p1 n c1) ∧ w'.cell? ⟨w.heap.size, 1, none⟩ = some (.slice p2 ws.length c2)) := Lib.hid (fun w' he => he.out.1.cells)
    have KM : Hid (∀ w', Hid (MBt w w.heap.size (.slice p1 n c1) (.slice p2 ws.length c2) w') → Hid (MBt w w.heap.size (.slice p1 n c1) (.slice p2 ws.length c2) (w'.alloc (.cells #[] 26)))) := Lib.hid (fun w' he => Lib.hid (he.out.next ((Below.refl _ _).alloc (Nat.le_refl _) _)))
    have HDM := Lib.hid (KM.out _ HE0).out.drew
    have CS : Hid (∀ w', Hid (MBt w w.heap.size (.slice p1 n c1) (.slice p2 ws.length c2) w') → Calls Try.prog 157 #[.agg #[.slice p1 n c1, .slice p2 ws.length c2]] w' (NewInts S w')) := Lib.hid (fun w' he => SU.out w' he.out.2)
    have CT : Hid (∀ w', Hid (MBt w w.heap.size (.slice p1 n c1) (.slice p2 ws.length c2) w') → Calls Try.prog 158 #[.agg #[.slice p1 n c1, .slice p2 ws.length c2], .slice q vs.length cq] w' (NewInts P w')) := Lib.hid (fun w' he => TO.out w' he.out.2)
    have CA : Hid (∀ (w8 w9 : World) (gs cs gp cp : Nat), Below (wa.alloc (.cells #[] 26)).drew.heap.size (wa.alloc (.cells #[] 26)).drew w8 → OwnV w8 (wa.alloc (.cells #[] 26)).drew.heap.size w8.heap.size (.slice (some ⟨gs, 0, none⟩) S.length cs) S → (wa.alloc (.cells #[] 26)).drew.heap.size ≤ gs → gs < w8.heap.size → Below w8.heap.size w8 w9 → OwnV w9 w8.heap.size w9.heap.size (.slice (some ⟨gp, 0, none⟩) P.length cp) P → w8.heap.size ≤ gp → gp < w9.heap.size → Hid (MBt w w.heap.size (.slice p1 n c1) (.slice p2 ws.length c2) w9) → MeanR w p1 p2 c1 c2 n ws.length S P wa.heap.size gs gp w9) := Lib.hid (by
      intro w8 w9 gs cs gp cp b8 o8 hs1 hs2 b9 o9 hp1 hp2 he
      have e1 : (wa.alloc (.cells #[] 26)).drew.heap.size = wa.heap.size + 1 := by show (wa.alloc _).heap.size = _; simp
      have c8 := undrew b8
      have c9 := c8.trans (b9.mono c8.size)
      have z8 := b8.size
      have z9 := b9.size
      exact ⟨((OwnQ.empty wa (w.heap.size + 1) (by rw [SZ.out]; exact Nat.le_refl _)).below c9).wide c9.size (Nat.le_refl _), fun j hj => (b9.cell (p := ⟨gs, j, none⟩) hs2).trans (o8.cellGet (by rw [SL.out]; exact hj)), fun j hj => o9.cellGet (by rw [PL.out]; exact hj), by omega, he.out.1, he.out.2⟩)
    have CB : Hid (∀ (w8 w9 : World) (gs cs gp cp : Nat), Below wa.drew.heap.size wa.drew w8 → OwnV w8 wa.drew.heap.size w8.heap.size (.slice (some ⟨gs, 0, none⟩) S.length cs) S → wa.drew.heap.size ≤ gs → gs < w8.heap.size → Below (w8.alloc (.cells #[] 26)).heap.size (w8.alloc (.cells #[] 26)) w9 → OwnV w9 (w8.alloc (.cells #[] 26)).heap.size w9.heap.size (.slice (some ⟨gp, 0, none⟩) P.length cp) P → (w8.alloc (.cells #[] 26)).heap.size ≤ gp → gp < w9.heap.size → Hid (MBt w w.heap.size (.slice p1 n c1) (.slice p2 ws.length c2) w9) → MeanR w p1 p2 c1 c2 n ws.length S P w8.heap.size gs gp w9) := Lib.hid (by
      intro w8 w9 gs cs gp cp b8 o8 hs1 hs2 b9 o9 hp1 hp2 he
      have e1 : (w8.alloc (.cells #[] 26)).heap.size = w8.heap.size + 1 := by simp
      have e2 : wa.drew.heap.size = w.heap.size + 1 := SZ.out
      have z8 := b8.size
      have z9 := b9.size
      have b9' : Below w8.heap.size w8 w9 := ((Below.refl w8.heap.size w8).alloc (Nat.le_refl _) _).trans (b9.mono (by omega))
      exact ⟨((OwnQ.empty w8 (w.heap.size + 1) (by omega)).below b9).wide b9.size (Nat.le_refl _), fun j hj => (b9'.cell (p := ⟨gs, j, none⟩) hs2).trans (o8.cellGet (by rw [SL.out]; exact hj)), fun j hj => o9.cellGet (by rw [PL.out]; exact hj), by omega, he.out.1, he.out.2⟩)
    have CC : Hid (∀ (w8 w9 : World) (gs cs gp cp : Nat), Below wa.drew.heap.size wa.drew w8 → OwnV w8 wa.drew.heap.size w8.heap.size (.slice (some ⟨gs, 0, none⟩) S.length cs) S → wa.drew.heap.size ≤ gs → gs < w8.heap.size → Below w8.heap.size w8 w9 → OwnV w9 w8.heap.size w9.heap.size (.slice (some ⟨gp, 0, none⟩) P.length cp) P → w8.heap.size ≤ gp → gp < w9.heap.size → Hid (MBt w w.heap.size (.slice p1 n c1) (.slice p2 ws.length c2) w9) → MeanR w p1 p2 c1 c2 n ws.length S P w9.heap.size gs gp (w9.alloc (.cells #[] 26))) := Lib.hid (by
      intro w8 w9 gs cs gp cp b8 o8 hs1 hs2 b9 o9 hp1 hp2 he
      have e1 : (w9.alloc (.cells #[] 26)).heap.size = w9.heap.size + 1 := by simp
      have e2 : wa.drew.heap.size = w.heap.size + 1 := SZ.out
      have z8 := b8.size
      have z9 := b9.size
      have he2 := KM.out _ he
      exact ⟨OwnQ.empty w9 (w.heap.size + 1) (by omega), fun j hj => by rw [World.cell?_alloc_lt _ _ _ (by show gs < _; omega)]; exact (b9.cell (p := ⟨gs, j, none⟩) hs2).trans (o8.cellGet (by rw [SL.out]; exact hj)), fun j hj => by rw [World.cell?_alloc_lt _ _ _ (by exact hp2)]; exact o9.cellGet (by rw [PL.out]; exact hj), by omega, he2.out.1, he2.out.2⟩)
    go_region_held3 (fun w' => w'.cell? ⟨w.heap.size, 0, none⟩ = some (.slice p1 n c1) ∧ w'.cell? ⟨w.heap.size, 1, none⟩ = some (.slice p2 ws.length c2))
      (first | exact KC.out _ HD | exact KC.out _ HDM | exact KC.out _ (by assumption) | exact KC.out _ (KM.out _ (by assumption)) | go_keep)
      (first
        | (go_at_call 157; (with_reducible refine (CS.out _ (by first | exact HD | exact HDM | assumption)).mono ?_); rintro e w8 ⟨u8, rfl, o8, b8⟩; (obtain ⟨gs, cs, rfl, hs1, hs2⟩ := o8.shape (by rw [SL.out]; exact hn1)); (have HE8 := Lib.hid (MBt.next (Hid.out (by first | exact HD | exact HDM | assumption)) b8)))
        | (go_at_call 158; (with_reducible refine (CT.out _ (by first | exact HE8 | exact KM.out _ HE8)).mono ?_); rintro e w9 ⟨u9, rfl, o9, b9⟩; (obtain ⟨gp, cp, rfl, hp1, hp2⟩ := o9.shape (by rw [PL.out]; exact hn1)); (have HE9 := Lib.hid (MBt.next (Hid.out (by first | exact HE8 | exact KM.out _ HE8)) b9))))
    all_goals
      go_wp2_with fail
      go_meet
      refine ⟨_, _, _, _, _, rfl, by rw [SL.out], by rw [PL.out], Lib.hid ?_⟩
      first
        | exact CA.out _ _ _ _ _ _ b8 o8 hs1 hs2 b9 o9 hp1 hp2 HE9
        | exact CB.out _ _ _ _ _ _ b8 o8 hs1 hs2 b9 o9 hp1 hp2 HE9
        | exact CC.out _ _ _ _ _ _ b8 o8 hs1 hs2 b9 o9 hp1 hp2 HE9
  obtain ⟨go, gs, gp, cs, cp, rfl, rfl, rfl, hT⟩ := hcut
  obtain ⟨w3, rfl⟩ : ∃ w3 : World, w3 = wc := ⟨_, rfl⟩
  have O3 := Lib.hid hT.out.out
  have S3 := Lib.hid hT.out.su
  have P3 := Lib.hid hT.out.pr
  have NE := hT.out.ne
  have T3 := Lib.hid hT.out.box
  have B3 := Lib.hid hT.out.bel
  have G3 : Hid (gs < w3.heap.size ∧ gp < w3.heap.size) := Lib.hid ⟨NE.2.2.1, NE.2.2.2⟩
  have NO : Hid (∀ q, (Value.slice (some ⟨go, 0, none⟩) 0 0).ownBlock = some q → q ≠ gs ∧ q ≠ gp) := Lib.hid (fun q hq => by simp [Value.ownBlock] at hq; omega)
  clear hT NE T1 HBA SU TO x0 x1
  obtain ⟨i0, hif, hz0, hz1, hz2⟩ := info_parts pairInfo
  have ZL := Lib.hid (fun k => prL_len A B k)
  have ZS : Hid (∀ k, prL A B (k + 1) = prL A B k ++ [A k, B k]) := Lib.hid (fun k => rfl)
  go_wp2_with fail
  go_loopg [5, 8] n (fun gg o i wr => ∃ k : Nat, k ≤ n ∧ n - k ≤ gg ∧ i = .int .i64 k ∧ Hid (OwnQ wr (w.heap.size + 1) wr.heap.size o k (prL A B k)) ∧ Hid (∀ q, o.ownBlock = some q → q ≠ gs ∧ q ≠ gp) ∧ Hid (∀ j, j < n → wr.cell? ⟨gs, j, none⟩ = some (.int .i64 (S.getD j 0))) ∧ Hid (∀ j, j < n → wr.cell? ⟨gp, j, none⟩ = some (.int .i64 (P.getD j 0))) ∧ Hid (gs < wr.heap.size ∧ gp < wr.heap.size) ∧ Hid (w.heap.size < wr.heap.size) ∧ Hid (Below w.heap.size w wr))
  case atStart => exact ⟨0, Nat.zero_le _, by omega, rfl, O3, NO, S3, P3, G3, Lib.hid T3.out.lt, B3⟩
  case round =>
    obtain ⟨k, hk, hgg, rfl, HO, HQ, HS, HP, HG, HZ, HB⟩ := hrel
    clear O3 NO S3 P3 G3 T3 B3
    by_cases hlt : k < n
    · have hp := HP.out k hlt
      have hs := HS.out k hlt
      have RK := Lib.hid (fun w' => RC.out k w' hlt)
      have bd := BD.out k hlt
      have se := ZS.out k
      obtain ⟨pk, hpk⟩ : ∃ z, z = P.getD k 0 := ⟨_, rfl⟩
      obtain ⟨sk, hsk⟩ : ∃ z, z = S.getD k 0 := ⟨_, rfl⟩
      rw [← hpk] at hp RK
      rw [← hsk] at hs RK
      obtain ⟨mn, hmn⟩ : ∃ z, z = A k := ⟨_, rfl⟩
      obtain ⟨md, hmd⟩ : ∃ z, z = B k := ⟨_, rfl⟩
      rw [← hmn] at RK se bd
      rw [← hmd] at RK se bd
      have SE := Lib.hid se
      have IN : Hid (InI64 mn ∧ InI64 md) := Lib.hid (by unfold InI64; omega)
      have i0' : (0 : Int) ≤ (k : Int) := by omega
      have i1' : (k : Int) < (n : Int) := by omega
      obtain ⟨L, hL⟩ : ∃ L, L = prL A B k := ⟨_, rfl⟩
      rw [← hL] at HO SE
      have HD : Hid (Below wr.heap.size wr wr.drew) := Lib.hid (below_drew (Below.refl _ _))
      have hsz := HZ.out
      clear hpk hsk hmn hmd hL se bd
      go_wp2_with fail
      go_region_law (first
        | (go_simp; go_at_call 159; (with_reducible refine (RK.out _).mono ?_); rintro e w9 ⟨rfl, b9⟩; (have c9 := undrew b9); (have HO9 := Lib.hid ((HO.out.below c9).wide c9.size (Nat.le_refl _))); (have HOA := Lib.hid (HO9.out.row.alloc (.cells #[.int .i64 mn, .int .i64 md] 26))); (have HNA := Lib.hid (cell_two_new w9 (.int .i64 mn) (.int .i64 md) 26)); (have hsz9 : w.heap.size < w9.heap.size := Nat.lt_of_lt_of_le hsz c9.size); (have C9 := Lib.hid c9); clear c9 b9)
        | (refine step_append_lies _ rfl _ _ 71 rfl (w.heap.size + 1) 26 i0 (.agg #[.int .i64 0, .int .i64 0]) 2 16 Try.underlying71 hif hz0 hz1 hz2 rfl (by decide) u5 k (L.map (.int .i64)) rfl HOA.out ⟨w9.heap.size, 0, none⟩ 1 1 [.int .i64 mn, .int .i64 md] rfl rfl HNA.out (fun u hu => by simp at hu; rcases hu with rfl | rfl <;> rfl) (by omega) (by unfold maxLen; omega) (by omega) (by simp; omega) _ rfl ?_; intro g4 cap4 w4 hown3 hgrow3 hat3 hlt3))
      all_goals
        have own3 := Lib.hid (HO9.out.app IN.out.1 IN.out.2 hown3)
        have bel3 := Lib.hid (((HB.out.trans (C9.out.mono HB.out.size)).alloc (by have := HB.out.size; have := C9.out.size; omega) (.cells #[.int .i64 mn, .int .i64 md] 26)).grown hgrow3 (by simp; omega) (fun q hq => by have := (HOA.out.lt q hq).1; omega))
        have q3 : Hid (∀ q, (Value.slice (some ⟨g4, 0, none⟩) (k + 1) cap4).ownBlock = some q → q ≠ gs ∧ q ≠ gp) := Lib.hid (fun q hq => by
          rcases hat3 with h | h
          · have : g4 = q := by simpa [Value.ownBlock] using hq
            subst this
            exact HQ.out _ h
          · have : g4 = q := by simpa [Value.ownBlock] using hq
            have h2 := HG.out
            have h3 := C9.out.size
            simp at h
            omega)
        have s3 : Hid (∀ j, j < n → w4.cell? ⟨gs, j, none⟩ = some (.int .i64 (S.getD j 0))) := Lib.hid (fun j hj => by
          rw [ne_grownP hgrow3 (by have := HG.out; have := C9.out.size; simp; omega) (fun q hq => (HQ.out q hq).1), World.cell?_alloc_lt _ _ _ (by have := HG.out; have := C9.out.size; show gs < _; omega), C9.out.cell (p := ⟨gs, j, none⟩) HG.out.1]; exact HS.out j hj)
        have p3 : Hid (∀ j, j < n → w4.cell? ⟨gp, j, none⟩ = some (.int .i64 (P.getD j 0))) := Lib.hid (fun j hj => by
          rw [ne_grownP hgrow3 (by have := HG.out; have := C9.out.size; simp; omega) (fun q hq => (HQ.out q hq).2), World.cell?_alloc_lt _ _ _ (by have := HG.out; have := C9.out.size; show gp < _; omega), C9.out.cell (p := ⟨gp, j, none⟩) HG.out.2]; exact HP.out j hj)
        have g3 : Hid (gs < w4.heap.size ∧ gp < w4.heap.size) := Lib.hid (by have h1 := hgrow3.size; simp at h1; have := HG.out; have := C9.out.size; omega)
        have z3 : Hid (w.heap.size < w4.heap.size) := Lib.hid (by have h1 := hgrow3.size; simp at h1; omega)
        clear hown3 hgrow3 hat3 hlt3 HO9 HOA HNA hsz9 C9 HO HQ HS HP HG HZ HB HD RK
        go_wp2_with fail
        go_roundg (n - (k + 1))
        case rel => exact ⟨k + 1, by omega, by omega, by go_num, Lib.hid (by rw [SE.out]; exact own3.out), q3, s3, p3, g3, z3, bel3⟩
        case measure => omega
    · obtain rfl : k = n := by omega
      have FIN : Hid (∀ o, OwnQ wr (w.heap.size + 1) wr.heap.size o k (prL A B k) → NewQ k (prL A B k) w (.returned o) wr) := Lib.hid (fun o ho => ⟨o, rfl, ho.low (by omega), HB.out⟩)
      go_wp2
      go_ret
      exact FIN.out _ HO.out
end Go.Proofs.Ytligidmkhbcpmac
namespace Go.Proofs.Ytligidmkhbcpmac
open Go.RowKit
set_option linter.unusedVariables false
end Go.Proofs.Ytligidmkhbcpmac
namespace Go.Proofs.Ytligidmkhbcpmac
open Go.RowKit
set_option linter.unusedVariables false
theorem ne_grown2 {w w3 : World} {r : Option Nat} {g : Nat} (hg : w.grownBy w3 r) (hs : g < w.heap.size) (hne : ∀ q, r = some q → q ≠ g) (o : Nat) : w3.cell? ⟨g, o, none⟩ = w.cell? ⟨g, o, none⟩ := by
  have h := hg.block g hs (fun e => hne g e.symm rfl)
  unfold World.cell?
  rw [h]
theorem mostI (a b : Int) (w : World) : Calls Try.prog 105 #[.int .i64 a, .int .i64 b] w fun e w' => e = .returned (.int .i64 (maxI a b)) ∧ w = w' := by
  have D : Hid (maxI a b = if a < b then b else a) := Lib.hid rfl
  by_cases h : b < a
  · have R : Hid (maxI a b = a) := Lib.hid (by rw [D.out, if_neg (by omega)])
    rw [R.out]
    clear R D
    go_enter Try.func105, Try.ntmps105
    go_wp2
    go_ret
    exact ⟨rfl, rfl⟩
  · have R : Hid (maxI a b = b) := Lib.hid (by rw [D.out]; split <;> omega)
    rw [R.out]
    clear R D
    go_enter Try.func105, Try.ntmps105
    go_wp2
    go_ret
    exact ⟨rfl, rfl⟩
end Go.Proofs.Ytligidmkhbcpmac
namespace Go.Proofs.Ytligidmkhbcpmac
open Go.RowKit
set_option linter.unusedVariables false
/-- Pays of a wider range. -/
structure PayW (ps ws vs : List Int) : Prop where
  good : Good ps ws
  len : vs.length = (endsT ps).length
  abs : ∀ i, (vs.getD i 0).natAbs ≤ 2997
theorem prod_bdB {ps ws vs : List Int} (p : PayW ps ws vs) {x : Nat} (hx : x < ps.length) : -1438560 ≤ (prodT ps ws vs).getD x 0 ∧ (prodT ps ws vs).getD x 0 ≤ 1438560 := by
  have h1 := (upL_abs (ParOk.of p.good) (valsT_len ps ws vs) (ps.length - 1) (by have := p.good.n1; omega)).2 x hx
  have h2 := valsT_sum (vs := vs) p.good 2997 p.abs
  have h3 : ps.length * (20 * 2997) ≤ 24 * (20 * 2997) := Nat.mul_le_mul_right _ p.good.n24
  unfold prodT
  omega
theorem mean_bdB {ps ws vs : List Int} (p : PayW ps ws vs) {x : Nat} (hx : x < ps.length) : (-1438560 ≤ meanN ps ws vs x ∧ meanN ps ws vs x ≤ 1438560) ∧ 0 < meanD ps ws vs x ∧ meanD ps ws vs x ≤ 480 := by
  have h1 := prod_bdB p hx
  have h2 := sums_pos p.good x hx
  have h3 := (sumsT_bd p.good x hx).2
  have h4 := abs_cutN (a := (prodT ps ws vs).getD x 0) (b := (sumsT ps ws).getD x 0) 1438560 h1 (by omega)
  have h5 := cutD_le (a := (prodT ps ws vs).getD x 0) h2
  have h6 := cutD_pos (a := (prodT ps ws vs).getD x 0) h2
  unfold meanN meanD
  omega
set_option maxRecDepth 100000 in
set_option maxHeartbeats 8000000 in
theorem l2MeansB (ps ws vs : List Int) (v u : Value) (w : World) (p : PayW ps ws vs) (h : TreeV w w.heap.size v ps ws) (hu : IntsV w w.heap.size u vs) :
    Calls Try.prog 85 #[v, u] w (NewQ ps.length (prL (meanN ps ws vs) (meanD ps ws vs) ps.length) w) := by
  have SU := Lib.hid (fun w' (hb : Below w.heap.size w w') => sumsS ps ws v w' p.good (h.boxed hb))
  have TO := Lib.hid (fun w' (hb : Below w.heap.size w w') => totS ps ws vs 2997 (by omega) v u w' p.good p.len p.abs (h.boxed hb) ((hu.below hb).more hb.size))
  have PE : Hid (upL ps (valsT ps ws vs) (ps.length - 1) = prodT ps ws vs) := Lib.hid rfl
  rw [PE.out] at TO
  have hn24 := p.good.n24
  have hn1 := p.good.n1
  obtain ⟨p1, c1, p2, c2, rfl⟩ := h.shape
  obtain ⟨q, cq, rfl, _⟩ := hu
  clear h PE
  have SL : Hid ((sumsT ps ws).length = ps.length) := Lib.hid (sumsT_len p.good.nw)
  have PL : Hid ((prodT ps ws vs).length = ps.length) := Lib.hid (prodT_len ps ws vs)
  have BD := Lib.hid (fun x (hx : x < ps.length) => mean_bdB p hx)
  have RC : Hid (∀ (x : Nat) (w' : World), x < ps.length → Calls Try.prog 159 #[.int .i64 ((prodT ps ws vs).getD x 0), .int .i64 ((sumsT ps ws).getD x 0)] w' (Gives (.agg #[.int .i64 (meanN ps ws vs x), .int .i64 (meanD ps ws vs x)]) w')) := Lib.hid (fun x w' hx => by
    have h1 := prod_bdB p hx
    have h2 := sums_pos p.good x hx
    have h3 := (sumsT_bd p.good x hx).2
    exact cutS _ _ w' (by omega) (by omega))
  have B1 := (Below.refl w.heap.size w).alloc (Nat.le_refl _) (.cells #[.slice p1 ps.length c1, .slice p2 ws.length c2] 29)
  obtain ⟨wa, hwa⟩ : ∃ wa, wa = w.alloc (.cells #[.slice p1 ps.length c1, .slice p2 ws.length c2] 29) := ⟨_, rfl⟩
  have T1 : Hid (TBox wa w.heap.size (.slice p1 ps.length c1) (.slice p2 ws.length c2)) := Lib.hid (by rw [hwa]; exact alloc_heap w _)
  have sz : wa.heap.size = w.heap.size + 1 := by rw [hwa]; simp
  rw [← hwa] at B1
  have HBA := Lib.hid B1
  have SZ := Lib.hid sz
  clear B1 sz p
  obtain ⟨x0, x1⟩ := T1.out.cells
  obtain ⟨n, hn⟩ : ∃ n, n = ps.length := ⟨_, rfl⟩
  obtain ⟨S, hS⟩ : ∃ S, S = sumsT ps ws := ⟨_, rfl⟩
  obtain ⟨P, hP⟩ : ∃ P, P = prodT ps ws vs := ⟨_, rfl⟩
  obtain ⟨A, hA⟩ : ∃ A, A = meanN ps ws vs := ⟨_, rfl⟩
  obtain ⟨B, hB⟩ : ∃ B, B = meanD ps ws vs := ⟨_, rfl⟩
  rw [← hn] at SL PL BD RC T1 hn24 hn1 hwa SU TO x0 ⊢
  rw [← hS] at SL RC SU
  rw [← hP] at PL RC TO
  rw [← hA] at BD RC ⊢
  rw [← hB] at BD RC ⊢
  clear hn hS hP hA hB
  go_enter Try.func85, Try.ntmps85
  go_upto_region 1 with fail
  rw [← hwa]
  clear hwa
  go_cut [5, 6, 7] (fun o s t wx => ∃ go gs gp cs cp, o = .slice (some ⟨go, 0, none⟩) 0 0 ∧ s = .slice (some ⟨gs, 0, none⟩) n cs ∧ t = .slice (some ⟨gp, 0, none⟩) n cp ∧ Hid (MeanR w p1 p2 c1 c2 n ws.length S P go gs gp wx))
  case first =>
    have HE0 := Lib.hid (show MBt w w.heap.size (.slice p1 n c1) (.slice p2 ws.length c2) wa from ⟨T1.out, HBA.out⟩)
    have HD := Lib.hid HE0.out.drew
    have KC : Hid (∀ w', Hid (MBt w w.heap.size (.slice p1 n c1) (.slice p2 ws.length c2) w') → w'.cell? ⟨w.heap.size, 0, none⟩ = some (.slice p1 n c1) ∧ w'.cell? ⟨w.heap.size, 1, none⟩ = some (.slice p2 ws.length c2)) := Lib.hid (fun w' he => he.out.1.cells)
    have KM : Hid (∀ w', Hid (MBt w w.heap.size (.slice p1 n c1) (.slice p2 ws.length c2) w') → Hid (MBt w w.heap.size (.slice p1 n c1) (.slice p2 ws.length c2) (w'.alloc (.cells #[] 26)))) := Lib.hid (fun w' he => Lib.hid (he.out.next ((Below.refl _ _).alloc (Nat.le_refl _) _)))
    have HDM := Lib.hid (KM.out _ HE0).out.drew
    have CS : Hid (∀ w', Hid (MBt w w.heap.size (.slice p1 n c1) (.slice p2 ws.length c2) w') → Calls Try.prog 157 #[.agg #[.slice p1 n c1, .slice p2 ws.length c2]] w' (NewInts S w')) := Lib.hid (fun w' he => SU.out w' he.out.2)
    have CT : Hid (∀ w', Hid (MBt w w.heap.size (.slice p1 n c1) (.slice p2 ws.length c2) w') → Calls Try.prog 158 #[.agg #[.slice p1 n c1, .slice p2 ws.length c2], .slice q vs.length cq] w' (NewInts P w')) := Lib.hid (fun w' he => TO.out w' he.out.2)
    have CA : Hid (∀ (w8 w9 : World) (gs cs gp cp : Nat), Below (wa.alloc (.cells #[] 26)).drew.heap.size (wa.alloc (.cells #[] 26)).drew w8 → OwnV w8 (wa.alloc (.cells #[] 26)).drew.heap.size w8.heap.size (.slice (some ⟨gs, 0, none⟩) S.length cs) S → (wa.alloc (.cells #[] 26)).drew.heap.size ≤ gs → gs < w8.heap.size → Below w8.heap.size w8 w9 → OwnV w9 w8.heap.size w9.heap.size (.slice (some ⟨gp, 0, none⟩) P.length cp) P → w8.heap.size ≤ gp → gp < w9.heap.size → Hid (MBt w w.heap.size (.slice p1 n c1) (.slice p2 ws.length c2) w9) → MeanR w p1 p2 c1 c2 n ws.length S P wa.heap.size gs gp w9) := Lib.hid (by
      intro w8 w9 gs cs gp cp b8 o8 hs1 hs2 b9 o9 hp1 hp2 he
      have e1 : (wa.alloc (.cells #[] 26)).drew.heap.size = wa.heap.size + 1 := by show (wa.alloc _).heap.size = _; simp
      have c8 := undrew b8
      have c9 := c8.trans (b9.mono c8.size)
      have z8 := b8.size
      have z9 := b9.size
      exact ⟨((OwnQ.empty wa (w.heap.size + 1) (by rw [SZ.out]; exact Nat.le_refl _)).below c9).wide c9.size (Nat.le_refl _), fun j hj => (b9.cell (p := ⟨gs, j, none⟩) hs2).trans (o8.cellGet (by rw [SL.out]; exact hj)), fun j hj => o9.cellGet (by rw [PL.out]; exact hj), by omega, he.out.1, he.out.2⟩)
    have CB : Hid (∀ (w8 w9 : World) (gs cs gp cp : Nat), Below wa.drew.heap.size wa.drew w8 → OwnV w8 wa.drew.heap.size w8.heap.size (.slice (some ⟨gs, 0, none⟩) S.length cs) S → wa.drew.heap.size ≤ gs → gs < w8.heap.size → Below (w8.alloc (.cells #[] 26)).heap.size (w8.alloc (.cells #[] 26)) w9 → OwnV w9 (w8.alloc (.cells #[] 26)).heap.size w9.heap.size (.slice (some ⟨gp, 0, none⟩) P.length cp) P → (w8.alloc (.cells #[] 26)).heap.size ≤ gp → gp < w9.heap.size → Hid (MBt w w.heap.size (.slice p1 n c1) (.slice p2 ws.length c2) w9) → MeanR w p1 p2 c1 c2 n ws.length S P w8.heap.size gs gp w9) := Lib.hid (by
      intro w8 w9 gs cs gp cp b8 o8 hs1 hs2 b9 o9 hp1 hp2 he
      have e1 : (w8.alloc (.cells #[] 26)).heap.size = w8.heap.size + 1 := by simp
      have e2 : wa.drew.heap.size = w.heap.size + 1 := SZ.out
      have z8 := b8.size
      have z9 := b9.size
      have b9' : Below w8.heap.size w8 w9 := ((Below.refl w8.heap.size w8).alloc (Nat.le_refl _) _).trans (b9.mono (by omega))
      exact ⟨((OwnQ.empty w8 (w.heap.size + 1) (by omega)).below b9).wide b9.size (Nat.le_refl _), fun j hj => (b9'.cell (p := ⟨gs, j, none⟩) hs2).trans (o8.cellGet (by rw [SL.out]; exact hj)), fun j hj => o9.cellGet (by rw [PL.out]; exact hj), by omega, he.out.1, he.out.2⟩)
    have CC : Hid (∀ (w8 w9 : World) (gs cs gp cp : Nat), Below wa.drew.heap.size wa.drew w8 → OwnV w8 wa.drew.heap.size w8.heap.size (.slice (some ⟨gs, 0, none⟩) S.length cs) S → wa.drew.heap.size ≤ gs → gs < w8.heap.size → Below w8.heap.size w8 w9 → OwnV w9 w8.heap.size w9.heap.size (.slice (some ⟨gp, 0, none⟩) P.length cp) P → w8.heap.size ≤ gp → gp < w9.heap.size → Hid (MBt w w.heap.size (.slice p1 n c1) (.slice p2 ws.length c2) w9) → MeanR w p1 p2 c1 c2 n ws.length S P w9.heap.size gs gp (w9.alloc (.cells #[] 26))) := Lib.hid (by
      intro w8 w9 gs cs gp cp b8 o8 hs1 hs2 b9 o9 hp1 hp2 he
      have e1 : (w9.alloc (.cells #[] 26)).heap.size = w9.heap.size + 1 := by simp
      have e2 : wa.drew.heap.size = w.heap.size + 1 := SZ.out
      have z8 := b8.size
      have z9 := b9.size
      have he2 := KM.out _ he
      exact ⟨OwnQ.empty w9 (w.heap.size + 1) (by omega), fun j hj => by rw [World.cell?_alloc_lt _ _ _ (by show gs < _; omega)]; exact (b9.cell (p := ⟨gs, j, none⟩) hs2).trans (o8.cellGet (by rw [SL.out]; exact hj)), fun j hj => by rw [World.cell?_alloc_lt _ _ _ (by exact hp2)]; exact o9.cellGet (by rw [PL.out]; exact hj), by omega, he2.out.1, he2.out.2⟩)
    go_region_held3 (fun w' => w'.cell? ⟨w.heap.size, 0, none⟩ = some (.slice p1 n c1) ∧ w'.cell? ⟨w.heap.size, 1, none⟩ = some (.slice p2 ws.length c2))
      (first | exact KC.out _ HD | exact KC.out _ HDM | exact KC.out _ (by assumption) | exact KC.out _ (KM.out _ (by assumption)) | go_keep)
      (first
        | (go_at_call 157; (with_reducible refine (CS.out _ (by first | exact HD | exact HDM | assumption)).mono ?_); rintro e w8 ⟨u8, rfl, o8, b8⟩; (obtain ⟨gs, cs, rfl, hs1, hs2⟩ := o8.shape (by rw [SL.out]; exact hn1)); (have HE8 := Lib.hid (MBt.next (Hid.out (by first | exact HD | exact HDM | assumption)) b8)))
        | (go_at_call 158; (with_reducible refine (CT.out _ (by first | exact HE8 | exact KM.out _ HE8)).mono ?_); rintro e w9 ⟨u9, rfl, o9, b9⟩; (obtain ⟨gp, cp, rfl, hp1, hp2⟩ := o9.shape (by rw [PL.out]; exact hn1)); (have HE9 := Lib.hid (MBt.next (Hid.out (by first | exact HE8 | exact KM.out _ HE8)) b9))))
    all_goals
      go_wp2_with fail
      go_meet
      refine ⟨_, _, _, _, _, rfl, by rw [SL.out], by rw [PL.out], Lib.hid ?_⟩
      first
        | exact CA.out _ _ _ _ _ _ b8 o8 hs1 hs2 b9 o9 hp1 hp2 HE9
        | exact CB.out _ _ _ _ _ _ b8 o8 hs1 hs2 b9 o9 hp1 hp2 HE9
        | exact CC.out _ _ _ _ _ _ b8 o8 hs1 hs2 b9 o9 hp1 hp2 HE9
  obtain ⟨go, gs, gp, cs, cp, rfl, rfl, rfl, hT⟩ := hcut
  obtain ⟨w3, rfl⟩ : ∃ w3 : World, w3 = wc := ⟨_, rfl⟩
  have O3 := Lib.hid hT.out.out
  have S3 := Lib.hid hT.out.su
  have P3 := Lib.hid hT.out.pr
  have NE := hT.out.ne
  have T3 := Lib.hid hT.out.box
  have B3 := Lib.hid hT.out.bel
  have G3 : Hid (gs < w3.heap.size ∧ gp < w3.heap.size) := Lib.hid ⟨NE.2.2.1, NE.2.2.2⟩
  have NO : Hid (∀ q, (Value.slice (some ⟨go, 0, none⟩) 0 0).ownBlock = some q → q ≠ gs ∧ q ≠ gp) := Lib.hid (fun q hq => by simp [Value.ownBlock] at hq; omega)
  clear hT NE T1 HBA SU TO x0 x1
  obtain ⟨i0, hif, hz0, hz1, hz2⟩ := info_parts pairInfo
  have ZL := Lib.hid (fun k => prL_len A B k)
  have ZS : Hid (∀ k, prL A B (k + 1) = prL A B k ++ [A k, B k]) := Lib.hid (fun k => rfl)
  go_wp2_with fail
  go_loopg [5, 8] n (fun gg o i wr => ∃ k : Nat, k ≤ n ∧ n - k ≤ gg ∧ i = .int .i64 k ∧ Hid (OwnQ wr (w.heap.size + 1) wr.heap.size o k (prL A B k)) ∧ Hid (∀ q, o.ownBlock = some q → q ≠ gs ∧ q ≠ gp) ∧ Hid (∀ j, j < n → wr.cell? ⟨gs, j, none⟩ = some (.int .i64 (S.getD j 0))) ∧ Hid (∀ j, j < n → wr.cell? ⟨gp, j, none⟩ = some (.int .i64 (P.getD j 0))) ∧ Hid (gs < wr.heap.size ∧ gp < wr.heap.size) ∧ Hid (w.heap.size < wr.heap.size) ∧ Hid (Below w.heap.size w wr))
  case atStart => exact ⟨0, Nat.zero_le _, by omega, rfl, O3, NO, S3, P3, G3, Lib.hid T3.out.lt, B3⟩
  case round =>
    obtain ⟨k, hk, hgg, rfl, HO, HQ, HS, HP, HG, HZ, HB⟩ := hrel
    clear O3 NO S3 P3 G3 T3 B3
    by_cases hlt : k < n
    · have hp := HP.out k hlt
      have hs := HS.out k hlt
      have RK := Lib.hid (fun w' => RC.out k w' hlt)
      have bd := BD.out k hlt
      have se := ZS.out k
      obtain ⟨pk, hpk⟩ : ∃ z, z = P.getD k 0 := ⟨_, rfl⟩
      obtain ⟨sk, hsk⟩ : ∃ z, z = S.getD k 0 := ⟨_, rfl⟩
      rw [← hpk] at hp RK
      rw [← hsk] at hs RK
      obtain ⟨mn, hmn⟩ : ∃ z, z = A k := ⟨_, rfl⟩
      obtain ⟨md, hmd⟩ : ∃ z, z = B k := ⟨_, rfl⟩
      rw [← hmn] at RK se bd
      rw [← hmd] at RK se bd
      have SE := Lib.hid se
      have IN : Hid (InI64 mn ∧ InI64 md) := Lib.hid (by unfold InI64; omega)
      have i0' : (0 : Int) ≤ (k : Int) := by omega
      have i1' : (k : Int) < (n : Int) := by omega
      obtain ⟨L, hL⟩ : ∃ L, L = prL A B k := ⟨_, rfl⟩
      rw [← hL] at HO SE
      have HD : Hid (Below wr.heap.size wr wr.drew) := Lib.hid (below_drew (Below.refl _ _))
      have hsz := HZ.out
      clear hpk hsk hmn hmd hL se bd
      go_wp2_with fail
      go_region_law (first
        | (go_simp; go_at_call 159; (with_reducible refine (RK.out _).mono ?_); rintro e w9 ⟨rfl, b9⟩; (have c9 := undrew b9); (have HO9 := Lib.hid ((HO.out.below c9).wide c9.size (Nat.le_refl _))); (have HOA := Lib.hid (HO9.out.row.alloc (.cells #[.int .i64 mn, .int .i64 md] 26))); (have HNA := Lib.hid (cell_two_new w9 (.int .i64 mn) (.int .i64 md) 26)); (have hsz9 : w.heap.size < w9.heap.size := Nat.lt_of_lt_of_le hsz c9.size); (have C9 := Lib.hid c9); clear c9 b9)
        | (refine step_append_lies _ rfl _ _ 71 rfl (w.heap.size + 1) 26 i0 (.agg #[.int .i64 0, .int .i64 0]) 2 16 Try.underlying71 hif hz0 hz1 hz2 rfl (by decide) u5 k (L.map (.int .i64)) rfl HOA.out ⟨w9.heap.size, 0, none⟩ 1 1 [.int .i64 mn, .int .i64 md] rfl rfl HNA.out (fun u hu => by simp at hu; rcases hu with rfl | rfl <;> rfl) (by omega) (by unfold maxLen; omega) (by omega) (by simp; omega) _ rfl ?_; intro g4 cap4 w4 hown3 hgrow3 hat3 hlt3))
      all_goals
        have own3 := Lib.hid (HO9.out.app IN.out.1 IN.out.2 hown3)
        have bel3 := Lib.hid (((HB.out.trans (C9.out.mono HB.out.size)).alloc (by have := HB.out.size; have := C9.out.size; omega) (.cells #[.int .i64 mn, .int .i64 md] 26)).grown hgrow3 (by simp; omega) (fun q hq => by have := (HOA.out.lt q hq).1; omega))
        have q3 : Hid (∀ q, (Value.slice (some ⟨g4, 0, none⟩) (k + 1) cap4).ownBlock = some q → q ≠ gs ∧ q ≠ gp) := Lib.hid (fun q hq => by
          rcases hat3 with h | h
          · have : g4 = q := by simpa [Value.ownBlock] using hq
            subst this
            exact HQ.out _ h
          · have : g4 = q := by simpa [Value.ownBlock] using hq
            have h2 := HG.out
            have h3 := C9.out.size
            simp at h
            omega)
        have s3 : Hid (∀ j, j < n → w4.cell? ⟨gs, j, none⟩ = some (.int .i64 (S.getD j 0))) := Lib.hid (fun j hj => by
          rw [ne_grownP hgrow3 (by have := HG.out; have := C9.out.size; simp; omega) (fun q hq => (HQ.out q hq).1), World.cell?_alloc_lt _ _ _ (by have := HG.out; have := C9.out.size; show gs < _; omega), C9.out.cell (p := ⟨gs, j, none⟩) HG.out.1]; exact HS.out j hj)
        have p3 : Hid (∀ j, j < n → w4.cell? ⟨gp, j, none⟩ = some (.int .i64 (P.getD j 0))) := Lib.hid (fun j hj => by
          rw [ne_grownP hgrow3 (by have := HG.out; have := C9.out.size; simp; omega) (fun q hq => (HQ.out q hq).2), World.cell?_alloc_lt _ _ _ (by have := HG.out; have := C9.out.size; show gp < _; omega), C9.out.cell (p := ⟨gp, j, none⟩) HG.out.2]; exact HP.out j hj)
        have g3 : Hid (gs < w4.heap.size ∧ gp < w4.heap.size) := Lib.hid (by have h1 := hgrow3.size; simp at h1; have := HG.out; have := C9.out.size; omega)
        have z3 : Hid (w.heap.size < w4.heap.size) := Lib.hid (by have h1 := hgrow3.size; simp at h1; omega)
        clear hown3 hgrow3 hat3 hlt3 HO9 HOA HNA hsz9 C9 HO HQ HS HP HG HZ HB HD RK
        go_wp2_with fail
        go_roundg (n - (k + 1))
        case rel => exact ⟨k + 1, by omega, by omega, by go_num, Lib.hid (by rw [SE.out]; exact own3.out), q3, s3, p3, g3, z3, bel3⟩
        case measure => omega
    · obtain rfl : k = n := by omega
      have FIN : Hid (∀ o, OwnQ wr (w.heap.size + 1) wr.heap.size o k (prL A B k) → NewQ k (prL A B k) w (.returned o) wr) := Lib.hid (fun o ho => ⟨o, rfl, ho.low (by omega), HB.out⟩)
      go_wp2
      go_ret
      exact FIN.out _ HO.out
theorem QBox.grown {w w3 : World} {B : Nat} {a b : Int} {r : Option Nat} {lo : Nat} (h : QBox w B a b) (hg : w.grownBy w3 r) (hr : ∀ q, r = some q → lo ≤ q) (hB : B < lo) : QBox w3 B a b :=
  (hg.block B h.lt (fun e => by have := hr B e.symm; omega)).trans h
theorem QBox.alloc {w : World} {B : Nat} {a b : Int} (h : QBox w B a b) (o : Obj) : QBox (w.alloc o) B a b := by
  have hl := h.lt
  show (w.heap.push o)[B]? = _
  rw [Array.getElem?_push, if_neg (by omega)]; exact h
end Go.Proofs.Ytligidmkhbcpmac
