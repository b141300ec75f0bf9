/- FwhI, Stpd, BesI, BesM in one text. -/
import Derived.Test.YtagljebfbacdhaaBsA
import Derived.Test.YtagljebfbacdhaaEntI
import Derived.Test.YtagljebfbacdhaaRulP
import Derived.Test.YtagljebfbacdhaaBsB
import Derived.Test.YtagljebfbacdhaaPay4
import Derived.Deep.RegionHeld3
import Derived.Deep.LoopGhost
import Derived.Deep.AppendLies
import Derived.BigRegion
import Derived.Deep.RegionLaw
import Derived.Deep.DeepCutAuto
namespace Go.Proofs.Ytagljebfbacdhaa
open Go.RowKit
set_option linter.unusedVariables false
def mkT (p : Nat → Bool) (n : Nat) : List Int := (List.range n).map fun y => if p y = true then 1 else 0
theorem mkT_len (p : Nat → Bool) (n : Nat) : (mkT p n).length = n := by simp [mkT]
theorem mkT_at {p : Nat → Bool} {n y : Nat} (hy : y < n) : (mkT p n).getD y 0 = if p y = true then 1 else 0 := by
  unfold mkT
  rw [List.getD_eq_getElem?_getD, List.getElem?_map, List.getElem?_range hy]; rfl
theorem mkT_proc {ps ws : List Int} (g : Good ps ws) (p : Nat → Bool) : procB ps ws (mkT p ps.length) = true := by
  refine procB_iff.2 ⟨g, mkT_len _ _, fun i hi => ?_⟩
  rw [mkT_len] at hi
  rw [mkT_at hi]
  split <;> omega
theorem mkT_first {ps ws : List Int} (g : Good ps ws) {p : Nat → Bool} (hl : ∀ x, x < ps.length → leafB ps x = true → p x = true) : entL ps (mkT p ps.length) 1 = fstL ps p := by
  rw [ent_fst]
  refine fstL_congr (ParOk.of g) (fun x hx => ?_)
  unfold hitB
  rw [mkT_at hx]
  cases hp : p x
  · cases h2 : leafB ps x
    · simp
    · rw [hl x hx h2] at hp; cases hp
  · simp
set_option maxRecDepth 100000 in
set_option maxHeartbeats 8000000 in
theorem fwhI (ps ws zs : List Int) (g : Value) (f : Nat) (lb : Array Value) (p : Nat → Bool) (w : World) (eg : ∀ args w, (callFunc f args).run Try.prog w = .ok (.enter f args) w)
    (pr : Proc ps ws zs) (hlf : ∀ x, x < ps.length → leafB ps x = true → p x = true) (h : Game w w.heap.size g ps ws zs) (hp : PredI f lb p ps.length w) :
    Calls Try.prog 71 #[g, .func (.func f) #[] lb] w (NewInts (fstL ps p) w) := by
  have gd := pr.good
  have hn24 := gd.n24
  have hn0 := gd.n1
  have SL := Lib.hid (sumsT_len gd.nw)
  have PP := Lib.hid hp
  have TP := Lib.hid (mkT_proc gd p)
  have TF := Lib.hid (mkT_first gd hlf)
  have TL := Lib.hid (mkT_len p ps.length)
  have TA := Lib.hid (fun (y : Nat) (hy : y < ps.length) => mkT_at (p := p) hy)
  obtain ⟨v1, v2, us, uz, rfl, h1, h2, h3⟩ := h
  have EC := Lib.hid (fun w' u (hb : Below w.heap.size w w') (hu : IntsV w' w'.heap.size u (mkT p ps.length)) => entI ps ws (mkT p ps.length) 1 _ u w' (by rw [mkT_len]; omega) (h1.boxed hb) hu)
  have IF : ifEnt ps ws (mkT p ps.length) (entL ps (mkT p ps.length) 1) = fstL ps p := by unfold ifEnt; rw [TP.out, TF.out]; rfl
  rw [IF, TP.out] at EC
  obtain ⟨p1, c1, p2, c2, hs⟩ := h1.shape
  injection hs with hs
  injection hs with hs
  injection hs with hs1 hs
  injection hs with hs2 hs
  subst hs1; subst hs2
  clear hs
  obtain ⟨p3, c3, rfl, _⟩ := h2
  obtain ⟨p4, c4, rfl, _⟩ := h3
  obtain ⟨T, hT⟩ : ∃ T, T = mkT p ps.length := ⟨_, rfl⟩
  rw [← hT] at EC TL TA
  obtain ⟨sn, hsn⟩ : ∃ sn, sn = (sumsT ps ws).length := ⟨_, rfl⟩
  have sl1 : sn ≤ ps.length := by rw [hsn, SL.out]; exact Nat.le_refl _
  have sl2 : ps.length ≤ sn := by rw [hsn, SL.out]; exact Nat.le_refl _
  have SNE : Hid (sn = ps.length) := Lib.hid (by rw [hsn, SL.out])
  rw [← hsn]
  clear hT hsn IF TP TF h1 hp gd pr hlf SL
  have B1 := (Below.refl w.heap.size w).alloc (Nat.le_refl _) (.cells #[.slice p1 ps.length c1, .slice p2 ws.length c2, .slice p3 sn c3, .slice p4 zs.length c4] 60)
  have R1 := show GBox (w.alloc (.cells #[.slice p1 ps.length c1, .slice p2 ws.length c2, .slice p3 sn c3, .slice p4 zs.length c4] 60)) w.heap.size _ _ _ _ from alloc_heap w _
  obtain ⟨x0, x1, x2, x3⟩ := R1.cells
  obtain ⟨wa, hwa⟩ : ∃ wa, wa = w.alloc (.cells #[.slice p1 ps.length c1, .slice p2 ws.length c2, .slice p3 sn c3, .slice p4 zs.length c4] 60) := ⟨_, rfl⟩
  have sz : wa.heap.size = w.heap.size + 1 := by rw [hwa]; simp
  rw [← hwa] at B1 R1
  have HB2 := Lib.hid B1
  have HT2 := Lib.hid R1
  have SZ := Lib.hid sz
  clear B1 R1 sz
  obtain ⟨i0, hi, hz0, hz1, hz2⟩ := info_parts intInfo
  have c1' : i0.bytes * sn ≤ 281474976710656 := by rw [hz2]; omega
  have c2' : sn ≤ maxLen := by unfold maxLen; omega
  go_enter Try.func71, Try.ntmps71
  go_wp2_with (at_make; refine wpList_make_full _ rfl _ _ 22 rfl (w.heap.size + 1) 3 i0 (.int .i64 0) 1 Try.underlying22 hi hz0 hz1 .i64 .i64 _ _ sn rfl rfl rfl rfl c1' c2' (by simp) ?_; intro w3 hown hg2)
  rw [← hwa] at hg2
  have hown1 : w3.ownsRow (w.heap.size + 1) 3 1 (.slice (some ⟨w.heap.size + 1, 0, none⟩) sn sn) sn (List.replicate sn (.int .i64 0)) := by
    have h2 := hown
    rw [show (Value.int .i64 0).cells = #[Value.int .i64 0] from rfl, Nat.mul_one, toList_madeCells_one] at h2
    simpa using h2
  have O2 := OwnV.made hown1
  have Z0 : Hid (midL (List.replicate sn 0) T ps.length 0 = List.replicate sn 0) := Lib.hid (midL_zero (by rw [List.length_replicate, SNE.out]))
  rw [← Z0.out] at O2
  have HO2 := Lib.hid O2
  have BW := Lib.hid ((Below.refl wa.heap.size wa).grown hg2 (Nat.le_refl _) (fun q hq => by simp at hq))
  have ZB := Lib.hid (fun (y : Nat) (hy : y < ps.length) => show (List.replicate sn (0 : Int)).getD y 0 = 0 from by rw [List.getD_eq_getElem?_getD, List.getElem?_replicate]; split <;> rfl)
  clear hown hown1 hg2 c1' c2' hi hz0 hz1 hz2 hwa O2 x0 x1 x2 x3 Z0
  obtain ⟨Z, hZ⟩ : ∃ Z : List Int, Z = List.replicate sn 0 := ⟨_, rfl⟩
  rw [← hZ] at HO2 ZB
  clear hZ
  go_wp2_with fail
  go_loopw [15] (fun i wr => ∃ k : Nat, k ≤ ps.length ∧ i = .int .i64 k ∧ Hid (OwnV wr (w.heap.size + 1) wr.heap.size (.slice (some ⟨w.heap.size + 1, 0, none⟩) sn sn) (midL Z T ps.length k)) ∧ Hid (Below wa.heap.size wa wr)) (fun i _ => ps.length - (intOf i).toNat)
  case atStart => exact ⟨0, Nat.zero_le _, rfl, HO2, BW⟩
  case round =>
    obtain ⟨k, hk, rfl, HO, HB⟩ := hrel
    have HBX := Lib.hid (HB2.out.trans (HB.out.mono HB2.out.size))
    have HTX := Lib.hid (HT2.out.below HB.out HT2.out.lt)
    obtain ⟨x0, x1, x2, x3⟩ := HTX.out.cells
    clear HO2 BW
    by_cases hlt : k < ps.length
    · have C := Lib.hid (PP.out wr k hlt HBX.out)
      have ta := TA.out k hlt
      have zb := ZB.out k hlt
      have se := midL_set (A := Z) (B := T) hlt
      have sm := midL_same (A := Z) (B := T) hlt
      have i0' : (0 : Int) ≤ (k : Int) := by omega
      have i1' : (k : Int) < (ps.length : Int) := by omega
      have i2' : (k : Int) < (sn : Int) := by omega
      cases hpk : p k
      · rw [hpk] at C ta
        have SM := Lib.hid (sm (by rw [ta, zb]; rfl))
        clear hpk ta zb se sm
        go_wp2_with (go_at_fn f; refine C.out.mono ?_; rintro e w4 ⟨rfl, b4⟩)
        have HB4 := Lib.hid (HB.out.trans (b4.mono HB.out.size))
        have HO4 := Lib.hid ((HO.out.below b4).wide b4.size (Nat.le_refl _))
        clear b4
        go_roundw
        case rel => exact ⟨k + 1, by omega, by go_num, Lib.hid (by rw [SM.out]; exact HO4.out), HB4⟩
        case measure => simp [intOf]; omega
      · rw [hpk] at C ta
        rw [ta] at se
        have SE := Lib.hid (show (midL Z T ps.length k).set k 1 = midL Z T ps.length (k + 1) from se)
        clear hpk ta zb se sm
        go_wp2_with (go_at_fn f; refine C.out.mono ?_; rintro e w4 ⟨rfl, b4⟩; (have HB4 := Lib.hid (HB.out.trans (b4.mono HB.out.size))); (have HO4 := Lib.hid ((HO.out.below b4).wide b4.size (Nat.le_refl _))); clear b4; (have hold := HO4.out.cellGet (j := k) (by rw [midL_len]; exact hlt)); (have hfz := HO4.out.frozenGet k))
        have O5 := Lib.hid (HO4.out.setAt k (x := 1) (by unfold InI64; omega))
        rw [SE.out] at O5
        have B5 := Lib.hid (HB4.out.setCell (p := ⟨w.heap.size + 1, k, none⟩) (by simp; have := SZ.out; omega) (.int .i64 1))
        clear HO4 HB4 HO HB
        go_roundw
        case rel => exact ⟨k + 1, by omega, by go_num, Lib.hid (by have h := O5.out; simpa [World.setCell] using h), B5⟩
        case measure => simp [intOf]; omega
    · have hkn : k = ps.length := by omega
      have HOT : OwnV wr (w.heap.size + 1) wr.heap.size (.slice (some ⟨w.heap.size + 1, 0, none⟩) sn sn) T := by have h := HO.out; rw [hkn, midL_all TL.out] at h; exact h
      have IV := Lib.hid HOT.intsV
      have C := Lib.hid (EC.out wr _ HBX.out IV.out)
      have i2' : ¬ (k : Int) < (sn : Int) := by omega
      generalize fstL ps p = R at *
      clear HO HOT hkn
      go_wp2_with fail
      refine C.out.mono ?_
      rintro e w4 ⟨u4, rfl, o4, b4⟩
      have FIN : Hid (NewInts R w (.returned u4) w4) := Lib.hid ⟨_, rfl, o4.low HBX.out.size, HBX.out.trans (b4.mono HBX.out.size)⟩
      clear o4 b4
      go_wp2_with fail
      go_ret
      exact FIN.out
end Go.Proofs.Ytagljebfbacdhaa
namespace Go.Proofs.Ytagljebfbacdhaa
open Go.RowKit
set_option linter.unusedVariables false
def paidB (ps ws zs C : List Int) (x : Nat) : Bool := decide ((sumsT ps ws).getD x 0 * zs.getD x 0 = C.getD x 0)
set_option maxRecDepth 100000 in
set_option maxHeartbeats 4000000 in
theorem paidPred (ps ws zs C : List Int) (B B1 : Nat) (p1 p2 p3 p4 q : Option Addr) (c1 c2 n3 c3 c4 cap : Nat) (W0 : World) (pr : Proc ps ws zs) (hC : C.length = ps.length)
    (hg : Game W0 W0.heap.size (.agg #[.slice p1 ps.length c1, .slice p2 ws.length c2, .slice p3 n3 c3, .slice p4 zs.length c4]) ps ws zs) (hb : GBox W0 B (.slice p1 ps.length c1) (.slice p2 ws.length c2) (.slice p3 n3 c3) (.slice p4 zs.length c4))
    (hc : VBox W0 B1 (.slice q C.length cap) 22) (hI : IntsAt W0 W0.heap.size q C) :
    PredI 96 #[.pointer (some ⟨B, 0, none⟩), .pointer (some ⟨B1, 0, none⟩)] (paidB ps ws zs C) ps.length W0 := by
  intro W x hx hbl
  have HR := Lib.hid (hb.below hbl hb.lt)
  have HV := Lib.hid (hc.below hbl hc.lt)
  obtain ⟨bc, oc, hq, hbc, hcc⟩ := hI.get (i := x) (by omega)
  subst hq
  have hcx : W.cell? ⟨bc, oc + x, none⟩ = some (.int .i64 (C.getD x 0)) := by rw [hbl.cell (p := ⟨bc, oc + x, none⟩) hbc]; exact hcc
  have hbw : bc < W.heap.size := Nat.lt_of_lt_of_le hbc hbl.size
  have CP := Lib.hid (fun w' (hw : Hid (Below W.heap.size W w')) => paidI ps ws zs _ x w' pr hx (hg.boxed (hbl.trans (hw.out.mono hbl.size))))
  have cl1 : C.length ≤ ps.length := by omega
  have cl2 : ps.length ≤ C.length := by omega
  obtain ⟨cn, hcn⟩ : ∃ cn, cn = C.length := ⟨_, rfl⟩
  rw [← hcn] at HV cl1 cl2
  have i0 : (0 : Int) ≤ (x : Int) := by omega
  have i1 : (x : Int) < (cn : Int) := by omega
  unfold paidB
  obtain ⟨c, hc9⟩ : ∃ c, c = C.getD x 0 := ⟨_, rfl⟩
  obtain ⟨o, ho9⟩ : ∃ o, o = (sumsT ps ws).getD x 0 * zs.getD x 0 := ⟨_, rfl⟩
  rw [← hc9] at hcx ⊢
  rw [← ho9] at CP ⊢
  have KC : Hid (∀ w', Hid (Below W.heap.size W w') → w'.cell? ⟨B, 0, none⟩ = some (.slice p1 ps.length c1) ∧ w'.cell? ⟨B, 1, none⟩ = some (.slice p2 ws.length c2) ∧ w'.cell? ⟨B, 2, none⟩ = some (.slice p3 n3 c3) ∧ w'.cell? ⟨B, 3, none⟩ = some (.slice p4 zs.length c4) ∧ w'.cell? ⟨B1, 0, none⟩ = some (.slice (some ⟨bc, oc, none⟩) cn cap) ∧ w'.cell? ⟨bc, oc + x, none⟩ = some (.int .i64 c)) := Lib.hid (fun w' hw => by
    obtain ⟨a0, a1, a2, a3⟩ := (HR.out.below hw.out HR.out.lt).cells
    exact ⟨a0, a1, a2, a3, (HV.out.below hw.out HV.out.lt).cell, (hw.out.cell (p := ⟨bc, oc + x, none⟩) hbw).trans hcx⟩)
  have HD : Hid (Below W.heap.size W W.drew) := Lib.hid (below_drew (Below.refl _ _))
  have R : Hid (decide (o = c) = (o == c)) := Lib.hid (by rw [Bool.eq_iff_iff, decide_eq_true_iff, beq_iff_eq])
  rw [R.out]
  clear hg hb hc hI hbl hcc hbc hcn hc9 ho9 hC pr HR HV hcx
  show Calls _ _ #[.int .i64 (x : Int), .pointer (some ⟨B, 0, none⟩), .pointer (some ⟨B1, 0, none⟩)] _ _
  go_enter Try.func96, Try.ntmps96
  go_upto_region 1 with fail
  go_region_held3 (fun w' => w'.cell? ⟨B, 0, none⟩ = some (.slice p1 ps.length c1) ∧ w'.cell? ⟨B, 1, none⟩ = some (.slice p2 ws.length c2) ∧ w'.cell? ⟨B, 2, none⟩ = some (.slice p3 n3 c3) ∧ w'.cell? ⟨B, 3, none⟩ = some (.slice p4 zs.length c4) ∧ w'.cell? ⟨B1, 0, none⟩ = some (.slice (some ⟨bc, oc, none⟩) cn cap) ∧ w'.cell? ⟨bc, oc + x, none⟩ = some (.int .i64 c))
    (first | with_reducible exact KC.out _ HB7 | with_reducible exact KC.out _ HD | go_keep)
    (first
      | (go_at_call 73; (with_reducible refine (CP.out _ HD).mono ?_); rintro e w7 ⟨rfl, b7⟩; (have HB7 : Hid (Below W.heap.size W w7) := Lib.hid (HD.out.trans (b7.mono HD.out.size))); clear b7))
  all_goals
    go_wp2_with fail
    go_ret
    exact ⟨rfl, HB7.out⟩
set_option maxRecDepth 100000 in
set_option maxHeartbeats 4000000 in
theorem stpdI (ps ws zs C : List Int) (g u : Value) (w : World) (pr : Proc ps ws zs) (hC : C.length = ps.length) (hlf : ∀ x, x < ps.length → leafB ps x = true → paidB ps ws zs C x = true) (h : Game w w.heap.size g ps ws zs) (hu : IntsV w w.heap.size u C) :
    Calls Try.prog 70 #[g, u] w (NewInts (fstL ps (paidB ps ws zs C)) w) := by
  have HG := Lib.hid h
  obtain ⟨p1, c1, p2, c2, p3, n3, c3, p4, c4, rfl⟩ := h.parts
  obtain ⟨q, cap, rfl, _, _, _, j1⟩ := hu
  have J := Lib.hid j1
  have B1 := ((Below.refl w.heap.size w).alloc (Nat.le_refl _) (.cells #[.slice p1 ps.length c1, .slice p2 ws.length c2, .slice p3 n3 c3, .slice p4 zs.length c4] 60)).alloc (by simp) (.cells #[.slice q C.length cap] 22)
  have K0 := alloc_two w (.cells #[.slice p1 ps.length c1, .slice p2 ws.length c2, .slice p3 n3 c3, .slice p4 zs.length c4] 60) (.cells #[.slice q C.length cap] 22)
  have hmf : ∀ (fn : Fn) (first cap : Array Value) (w : World), (Instr.makeFunc fn first cap).run Try.prog w = .ok (.func fn first cap) w := fun _ _ _ _ => rfl
  obtain ⟨wa, hwa⟩ : ∃ wa, wa = (w.alloc (.cells #[.slice p1 ps.length c1, .slice p2 ws.length c2, .slice p3 n3 c3, .slice p4 zs.length c4] 60)).alloc (.cells #[.slice q C.length cap] 22) := ⟨_, rfl⟩
  rw [← hwa] at B1 K0
  have HBA := Lib.hid B1
  have R1 := Lib.hid (show GBox wa w.heap.size (.slice p1 ps.length c1) (.slice p2 ws.length c2) (.slice p3 n3 c3) (.slice p4 zs.length c4) from K0.1)
  have V1 := Lib.hid (show VBox wa (w.heap.size + 1) (.slice q C.length cap) 22 from K0.2)
  have PP := paidPred ps ws zs C w.heap.size (w.heap.size + 1) p1 p2 p3 p4 q c1 c2 n3 c3 c4 cap wa pr hC (HG.out.boxed HBA.out) R1.out V1.out ((J.out.below HBA.out).more HBA.out.size)
  have CF := Lib.hid (fwhI ps ws zs _ 96 #[.pointer (some ⟨w.heap.size, 0, none⟩), .pointer (some ⟨w.heap.size + 1, 0, none⟩)] (paidB ps ws zs C) wa (enters_of Try.func96 (by kernel_rfl) rfl) pr hlf (HG.out.boxed HBA.out) PP)
  obtain ⟨k0, k1, k2, k3⟩ := R1.out.cells
  generalize fstL ps (paidB ps ws zs C) = R at *
  clear B1 K0 PP h j1 hlf pr hC
  go_enter Try.func70, Try.ntmps70
  go_wp2_with fail
  rw [← hwa]
  refine CF.out.mono ?_
  rintro e w4 ⟨u4, rfl, o4, b4⟩
  have FIN : Hid (NewInts R w (.returned u4) w4) := Lib.hid ⟨_, rfl, o4.low HBA.out.size, HBA.out.trans (b4.mono HBA.out.size)⟩
  clear o4 b4
  go_wp2_with fail
  go_ret
  exact FIN.out
end Go.Proofs.Ytagljebfbacdhaa
namespace Go.Proofs.Ytagljebfbacdhaa
open Go.RowKit
set_option linter.unusedVariables false
def besT (ps ws zs : List Int) : List Int := fstL ps (paidB ps ws zs (capT ps (ownT (sumsT ps ws) zs ps.length)))
theorem bes_leaf (ps ws zs : List Int) : ∀ x, x < ps.length → leafB ps x = true → paidB ps ws zs (capT ps (ownT (sumsT ps ws) zs ps.length)) x = true := fun x hx hl => by
  unfold paidB
  rw [decide_eq_true_iff, ← ownT_at (n := ps.length) hx]
  exact (capN_leaf hx hl 24).symm
theorem bes_len (ps ws zs : List Int) : (ifLea ps ws zs (besT ps ws zs)).length ≤ 1048576 := by
  unfold ifLea
  split
  · rename_i h
    have := (procB_iff.1 h).good.n24
    have h2 := nodesW_len (fun x => decide ((fstT ps (paidB ps ws zs (capT ps (ownT (sumsT ps ws) zs ps.length)))).getD x 0 = (x : Int))) ps.length
    unfold besT fstL
    omega
  · simp
set_option maxRecDepth 100000 in
set_option maxHeartbeats 4000000 in
theorem besI (ps ws zs : List Int) (v u : Value) (w : World) (hn1 : zs.length ≤ 1048576) (h : TreeV w w.heap.size v ps ws) (hu : IntsV w w.heap.size u zs) :
    Calls Try.prog 35 #[v, u] w (NewIntsB (ifLea ps ws zs (besT ps ws zs)) (procB ps ws zs) w) := by
  have GC := Lib.hid (fun w' (hb : Below w.heap.size w w') => gameI ps ws zs v u w' hn1 (h.boxed hb) ((hu.below hb).more hb.size))
  obtain ⟨p1, c1, p2, c2, rfl⟩ := h.shape
  obtain ⟨q, d, rfl, _⟩ := hu
  clear h
  have B1 := (Below.refl w.heap.size w).alloc (Nat.le_refl _) (.cells #[.slice p1 ps.length c1, .slice p2 ws.length c2] 28)
  have T1 := Lib.hid (show TBox (w.alloc (.cells #[.slice p1 ps.length c1, .slice p2 ws.length c2] 28)) w.heap.size (.slice p1 ps.length c1) (.slice p2 ws.length c2) from alloc_heap w _)
  obtain ⟨x0, x1⟩ := T1.out.cells
  obtain ⟨wa, hwa⟩ : ∃ wa, wa = w.alloc (.cells #[.slice p1 ps.length c1, .slice p2 ws.length c2] 28) := ⟨_, rfl⟩
  rw [← hwa] at B1 T1
  have HBA := Lib.hid B1
  clear B1
  have GC2 := Lib.hid (GC.out wa HBA.out)
  cases hp : procB ps ws zs
  · have IS := Lib.hid (ifLea_no (L := besT ps ws zs) hp)
    rw [IS.out]
    have G3 : Hid (Calls Try.prog 61 #[.agg #[.slice p1 ps.length c1, .slice p2 ws.length c2], .slice q zs.length d] wa (Gives (.tuple #[noGame, .bool false]) wa)) := Lib.hid (GC2.out.mono (fun e w1 hh => by
      obtain ⟨hb, ⟨_, h2⟩ | ⟨h1, _⟩⟩ := hh
      · exact ⟨h2, hb⟩
      · rw [hp] at h1; cases h1))
    clear hp GC GC2
    unfold noGame at G3
    go_enter Try.func35, Try.ntmps35
    go_wp2_with fail
    rw [← hwa]
    clear hwa x0 x1
    refine G3.out.mono ?_
    rintro e w1 ⟨rfl, b1⟩
    have HB1 := HBA.out.trans (b1.mono HBA.out.size)
    have HB2 := Lib.hid (HB1.alloc HB1.size (.cells #[.slice none 0 0, .slice none 0 0, .slice none 0 0, .slice none 0 0] 60))
    clear b1 HB1
    go_wp2_with fail
    go_ret2
    exact newInts_emptyG HB2.out (by simp)
  · have IS := Lib.hid (ifLea_yes (L := besT ps ws zs) hp)
    rw [IS.out]
    have PR := Lib.hid (procB_iff.1 hp)
    have G3 : Hid (Calls Try.prog 61 #[.agg #[.slice p1 ps.length c1, .slice p2 ws.length c2], .slice q zs.length d] wa (fun e w' => ∃ g, e = .returned (.tuple #[g, .bool true]) ∧ Game w' w'.heap.size g ps ws zs ∧ Below wa.heap.size wa w')) := Lib.hid (GC2.out.mono (fun e w1 hh => by
      obtain ⟨hb, ⟨h1, _⟩ | ⟨_, g, h2, h3⟩⟩ := hh
      · rw [hp] at h1; cases h1
      · exact ⟨g, h2, h3, hb⟩))
    have LE := Lib.hid (fun g w1 (hg : Game w1 w1.heap.size g ps ws zs) w2 (hb : Below w1.heap.size w1 w2) => leastI ps ws zs g w2 PR.out (hg.boxed hb))
    have SP := Lib.hid (fun g w1 (hg : Game w1 w1.heap.size g ps ws zs) w2 u (hb : Below w1.heap.size w1 w2) (hv : IntsV w2 w2.heap.size u (capT ps (ownT (sumsT ps ws) zs ps.length))) => stpdI ps ws zs (capT ps (ownT (sumsT ps ws) zs ps.length)) g u w2 PR.out (capN_len (ownT_len _ _ _) 24) (bes_leaf ps ws zs) (hg.boxed hb) hv)
    clear hp GC GC2
    obtain ⟨R, hR⟩ : ∃ R, R = besT ps ws zs := ⟨_, rfl⟩
    change Hid (∀ g w1, Game w1 w1.heap.size g ps ws zs → ∀ w2 u, Below w1.heap.size w1 w2 → IntsV w2 w2.heap.size u (capT ps (ownT (sumsT ps ws) zs ps.length)) → Calls Try.prog 70 #[g, u] w2 (NewInts (besT ps ws zs) w2)) at SP
    rw [← hR] at SP ⊢
    obtain ⟨C, hC⟩ : ∃ C, C = capT ps (ownT (sumsT ps ws) zs ps.length) := ⟨_, rfl⟩
    rw [← hC] at LE SP
    clear hR hC IS
    go_enter Try.func35, Try.ntmps35
    go_wp2_with fail
    rw [← hwa]
    clear hwa x0 x1
    refine G3.out.mono ?_
    rintro e w1 ⟨g, rfl, hg, b1⟩
    have HB1 := HBA.out.trans (b1.mono HBA.out.size)
    obtain ⟨P1, C1, P2, C2, P3, N3, C3, P4, C4, rfl⟩ := hg.parts
    have HG := Lib.hid hg
    have HB2 := Lib.hid (HB1.alloc HB1.size (.cells #[.slice P1 ps.length C1, .slice P2 ws.length C2, .slice P3 N3 C3, .slice P4 zs.length C4] 60))
    have BW := Lib.hid ((Below.refl w1.heap.size w1).alloc (Nat.le_refl _) (.cells #[.slice P1 ps.length C1, .slice P2 ws.length C2, .slice P3 N3 C3, .slice P4 zs.length C4] 60))
    have R1 := Lib.hid (show GBox (w1.alloc (.cells #[.slice P1 ps.length C1, .slice P2 ws.length C2, .slice P3 N3 C3, .slice P4 zs.length C4] 60)) w1.heap.size (.slice P1 ps.length C1) (.slice P2 ws.length C2) (.slice P3 N3 C3) (.slice P4 zs.length C4) from alloc_heap w1 _)
    obtain ⟨y0, y1, y2, y3⟩ := R1.out.cells
    clear b1 HB1 hg
    obtain ⟨wb, hwb⟩ : ∃ wb, wb = w1.alloc (.cells #[.slice P1 ps.length C1, .slice P2 ws.length C2, .slice P3 N3 C3, .slice P4 zs.length C4] 60) := ⟨_, rfl⟩
    rw [← hwb] at HB2 BW R1
    have KC : Hid (∀ w', Hid (Below wb.heap.size wb w') → w'.cell? ⟨w1.heap.size, 0, none⟩ = some (.slice P1 ps.length C1) ∧ w'.cell? ⟨w1.heap.size, 1, none⟩ = some (.slice P2 ws.length C2) ∧ w'.cell? ⟨w1.heap.size, 2, none⟩ = some (.slice P3 N3 C3) ∧ w'.cell? ⟨w1.heap.size, 3, none⟩ = some (.slice P4 zs.length C4)) := Lib.hid (fun w' hb => (R1.out.below hb.out R1.out.lt).cells)
    have LE2 := Lib.hid (fun w' (hb : Hid (Below wb.heap.size wb w')) => LE.out _ w1 HG.out w' (BW.out.trans (hb.out.mono BW.out.size)))
    have SP2 := Lib.hid (fun w' u (hb : Hid (Below wb.heap.size wb w')) hv => SP.out _ w1 HG.out w' u (BW.out.trans (hb.out.mono BW.out.size)) hv)
    have HD : Hid (Below wb.heap.size wb wb.drew) := Lib.hid (below_drew (Below.refl _ _))
    go_upto_region 4 with fail
    rw [← hwb]
    clear hwb y0 y1 y2 y3 LE SP
    go_region_held3 (fun w' => w'.cell? ⟨w1.heap.size, 0, none⟩ = some (.slice P1 ps.length C1) ∧ w'.cell? ⟨w1.heap.size, 1, none⟩ = some (.slice P2 ws.length C2) ∧ w'.cell? ⟨w1.heap.size, 2, none⟩ = some (.slice P3 N3 C3) ∧ w'.cell? ⟨w1.heap.size, 3, none⟩ = some (.slice P4 zs.length C4))
      (first | with_reducible exact KC.out _ HB8 | with_reducible exact KC.out _ HB7 | with_reducible exact KC.out _ HD | go_keep)
      (first
        | (go_at_call 62; (with_reducible refine (LE2.out _ HD).mono ?_); rintro e w7 ⟨u7, rfl, o7, b7⟩; (have HB7 : Hid (Below wb.heap.size wb w7) := Lib.hid (HD.out.trans (b7.mono HD.out.size))); (have IV7 := Lib.hid o7.intsV); clear o7 b7)
        | (go_at_call 70; (with_reducible refine (SP2.out _ _ HB7 IV7.out).mono ?_); rintro e w8 ⟨u8, rfl, o8, b8⟩; (have HB8 : Hid (Below wb.heap.size wb w8) := Lib.hid (HB7.out.trans (b8.mono HB7.out.size))); (have HO8 := Lib.hid (o8.low (Nat.le_trans HB2.out.size HB7.out.size))); clear o8 b8))
    all_goals
      have FIN : Hid (NewIntsB R true w (.returned (.tuple #[u8, .bool true])) w8) := Lib.hid ⟨_, rfl, HO8.out, HB2.out.trans (HB8.out.mono HB2.out.size)⟩
      go_wp2_with fail
      go_ret2
      exact FIN.out
end Go.Proofs.Ytagljebfbacdhaa
namespace Go.Proofs.Ytagljebfbacdhaa
open Go.RowKit
set_option linter.unusedVariables false
theorem hb_nextB {wa a b : World} (h : Hid (Below wa.heap.size wa a)) (k : Below a.heap.size a b) : Hid (Below wa.heap.size wa b) := Lib.hid (h.out.trans (k.mono h.out.size))
theorem ne_grownB {w w3 : World} {r : Option Nat} {g : Nat} (hg : w.grownBy w3 r) (hs : g < w.heap.size) (hne : ∀ q, r = some q → q ≠ g) (o : Nat) : w3.cell? ⟨g, o, none⟩ = w.cell? ⟨g, o, none⟩ :=
  World.cell?_of_block (hg.block g hs (fun e => hne g e.symm rfl))
/-- What the three rows are behind the statement. -/
structure BesR (w1 : World) (n : Nat) (S P : List Int) (p : Nat → Bool) (gs gp go : Nat) (wx : World) : Prop where
  out : OwnB wx w1.heap.size wx.heap.size (.slice (some ⟨go, 0, none⟩) 0 0) p 0
  su : ∀ j, j < n → wx.cell? ⟨gs, j, none⟩ = some (.int .i64 (S.getD j 0))
  pr : ∀ j, j < n → wx.cell? ⟨gp, j, none⟩ = some (.int .i64 (P.getD j 0))
  ne : gs ≠ go ∧ gp ≠ go ∧ gs < wx.heap.size ∧ gp < wx.heap.size
  bel : Below w1.heap.size w1 wx
set_option maxRecDepth 100000 in
set_option maxHeartbeats 8000000 in
theorem besM (ps ws zs : List Int) (v u : Value) (w : World) (hn1 : zs.length ≤ 1048576) (h : TreeV w w.heap.size v ps ws) (hu : IntsV w w.heap.size u zs) :
    Calls Try.prog 34 #[v, u] w (NewIntsB (ifLea ps ws zs (besT ps ws zs)) (procB ps ws zs) w) := by
  have PC := Lib.hid (fun w' (hb : Below w.heap.size w w') => pays4 ps ws zs v u w' hn1 (h.boxed hb) ((hu.below hb).more hb.size))
  have CPS := Lib.hid (fun (pr : Proc ps ws zs) w' (hb : Below w.heap.size w w') => caps4S ps ws zs v u w' pr (h.boxed hb) ((hu.below hb).more hb.size))
  have SUS := Lib.hid (fun (pr : Proc ps ws zs) w' (hb : Below w.heap.size w w') => sumsS ps ws v w' pr.good (h.boxed hb))
  have FIS := Lib.hid (fun (pr : Proc ps ws zs) w' u1 (hb : Below w.heap.size w w') (hq : BoolsV w' w'.heap.size u1 (paidB ps ws zs (capT ps (ownT (sumsT ps ws) zs ps.length))) ps.length) => first4S ps ws (paidB ps ws zs (capT ps (ownT (sumsT ps ws) zs ps.length))) v u1 w' pr.good (bes_leaf ps ws zs) (h.boxed hb) hq)
  obtain ⟨p1, c1, p2, c2, rfl⟩ := h.shape
  obtain ⟨q, cq, rfl, _, _, _, j1⟩ := hu
  have Q1 := Lib.hid j1
  clear h j1
  have B1 := (Below.refl w.heap.size w).alloc (Nat.le_refl _) (.cells #[.slice p1 ps.length c1, .slice p2 ws.length c2] 28)
  have T1 := Lib.hid (show TBox (w.alloc (.cells #[.slice p1 ps.length c1, .slice p2 ws.length c2] 28)) w.heap.size (.slice p1 ps.length c1) (.slice p2 ws.length c2) from alloc_heap w _)
  obtain ⟨x0, x1⟩ := T1.out.cells
  obtain ⟨wa, hwa⟩ : ∃ wa, wa = w.alloc (.cells #[.slice p1 ps.length c1, .slice p2 ws.length c2] 28) := ⟨_, rfl⟩
  rw [← hwa] at B1 T1
  have HBA := Lib.hid B1
  clear B1
  cases hp : procB ps ws zs
  · rw [hp] at PC
    have IS := Lib.hid (ifLea_no (L := besT ps ws zs) hp)
    rw [IS.out]
    clear hp CPS SUS FIS
    go_enter Try.func34, Try.ntmps34
    go_wp2_with fail
    rw [← hwa]
    clear hwa x0 x1
    refine (PC.out _ HBA.out).mono ?_
    rintro e w1 ⟨rfl, b1⟩
    have HB1 := Lib.hid (HBA.out.trans (b1.mono HBA.out.size))
    clear b1
    go_wp2_with fail
    go_ret2
    exact newInts_empty HB1.out
  · have IS := Lib.hid (ifLea_yes (L := besT ps ws zs) hp)
    rw [IS.out]
    have PR := procB_iff.1 hp
    have CP2 := Lib.hid (CPS.out PR)
    have SU2 := Lib.hid (SUS.out PR)
    have FI2 := Lib.hid (FIS.out PR)
    have hn24 := PR.good.n24
    have hn0 := PR.good.n1
    have ZL := Lib.hid PR.len
    have SL : Hid ((sumsT ps ws).length = ps.length) := Lib.hid (sumsT_len PR.good.nw)
    have PL : Hid ((capT ps (ownT (sumsT ps ws) zs ps.length)).length = ps.length) := Lib.hid (capN_len (ownT_len _ _ _) 24)
    have OS := Lib.hid (fun (x : Nat) (hx : x < ps.length) => own_small PR hx)
    have PX : Hid (∀ x, paidB ps ws zs (capT ps (ownT (sumsT ps ws) zs ps.length)) x = ((capT ps (ownT (sumsT ps ws) zs ps.length)).getD x 0 == (sumsT ps ws).getD x 0 * zs.getD x 0)) := Lib.hid (fun x => by
      unfold paidB
      rw [Bool.eq_iff_iff, decide_eq_true_iff, beq_iff_eq]
      exact ⟨fun h => h.symm, fun h => h.symm⟩)
    change Hid (∀ w' u1, Below w.heap.size w w' → BoolsV w' w'.heap.size u1 (paidB ps ws zs (capT ps (ownT (sumsT ps ws) zs ps.length))) ps.length → Calls Try.prog 69 #[.agg #[.slice p1 ps.length c1, .slice p2 ws.length c2], u1] w' (NewInts (besT ps ws zs) w')) at FI2
    rw [hp] at PC
    clear hp CPS SUS FIS PR IS
    obtain ⟨n, hn⟩ : ∃ n, n = ps.length := ⟨_, rfl⟩
    obtain ⟨R, hR⟩ : ∃ R, R = besT ps ws zs := ⟨_, rfl⟩
    obtain ⟨P, hP⟩ : ∃ P, P = capT ps (ownT (sumsT ps ws) zs ps.length) := ⟨_, rfl⟩
    obtain ⟨K, hK⟩ : ∃ K, K = paidB ps ws zs (capT ps (ownT (sumsT ps ws) zs ps.length)) := ⟨_, rfl⟩
    obtain ⟨S, hS⟩ : ∃ S, S = sumsT ps ws := ⟨_, rfl⟩
    rw [← hR] at FI2 ⊢
    rw [← hK] at FI2 PX
    rw [← hP] at CP2 PL PX
    rw [← hS] at SU2 SL OS PX
    rw [← hn] at SL PL T1 hn24 hn0 hwa SU2 CP2 FI2 PC x0 ZL OS ⊢
    have le1 : zs.length ≤ n := by have := ZL.out; omega
    have le2 : n ≤ zs.length := by have := ZL.out; omega
    clear hn hR hP hK hS
    go_enter Try.func34, Try.ntmps34
    go_wp2_with fail
    rw [← hwa]
    clear hwa x0 x1
    refine (PC.out _ HBA.out).mono ?_
    rintro e w1 ⟨rfl, b1⟩
    have HB1 := Lib.hid (HBA.out.trans (b1.mono HBA.out.size))
    have HT1 := Lib.hid (T1.out.below b1 T1.out.lt)
    obtain ⟨x0, x1⟩ := HT1.out.cells
    clear b1 T1 HBA PC
    go_upto_region 3 with fail
    go_cut [6, 7, 8] (fun cv sv ov wx => ∃ gp cp gs cs go, cv = .slice (some ⟨gp, 0, none⟩) n cp ∧ sv = .slice (some ⟨gs, 0, none⟩) n cs ∧ ov = .slice (some ⟨go, 0, none⟩) 0 0 ∧ Hid (BesR w1 n S P K gs gp go wx))
    case first =>
      have HD : Hid (Below w1.heap.size w1 w1.drew) := Lib.hid (below_drew (Below.refl _ _))
      have KC : Hid (∀ w', Hid (Below w1.heap.size w1 w') → w'.cell? ⟨w.heap.size, 0, none⟩ = some (.slice p1 n c1) ∧ w'.cell? ⟨w.heap.size, 1, none⟩ = some (.slice p2 ws.length c2)) := Lib.hid (fun w' hb => (HT1.out.below hb.out HT1.out.lt).cells)
      have KM : Hid (∀ w', Hid (Below w1.heap.size w1 w') → Hid (Below w1.heap.size w1 (w'.alloc (.cells #[] 4)))) := Lib.hid (fun w' hb => Lib.hid (hb.out.alloc hb.out.size _))
      have HDM : Hid (Below w1.heap.size w1 (w1.alloc (.cells #[] 4)).drew) := Lib.hid (below_drew ((Below.refl _ _).alloc (Nat.le_refl _) _))
      have CS : Hid (∀ w', Hid (Below w1.heap.size w1 w') → Calls Try.prog 59 #[.agg #[.slice p1 n c1, .slice p2 ws.length c2]] w' (NewInts S w')) := Lib.hid (fun w' hb => SU2.out w' (HB1.out.trans (hb.out.mono HB1.out.size)))
      have CT : Hid (∀ w', Hid (Below w1.heap.size w1 w') → Calls Try.prog 58 #[.agg #[.slice p1 n c1, .slice p2 ws.length c2], .slice q zs.length cq] w' (NewInts P w')) := Lib.hid (fun w' hb => CP2.out w' (HB1.out.trans (hb.out.mono HB1.out.size)))
      have CA : Hid (∀ (w8 w9 : World) (gp cp gs cs : Nat), Below (w1.alloc (.cells #[] 4)).drew.heap.size (w1.alloc (.cells #[] 4)).drew w8 → OwnV w8 (w1.alloc (.cells #[] 4)).drew.heap.size w8.heap.size (.slice (some ⟨gp, 0, none⟩) P.length cp) P → (w1.alloc (.cells #[] 4)).drew.heap.size ≤ gp → gp < w8.heap.size → Below w8.heap.size w8 w9 → OwnV w9 w8.heap.size w9.heap.size (.slice (some ⟨gs, 0, none⟩) S.length cs) S → w8.heap.size ≤ gs → gs < w9.heap.size → Hid (Below w1.heap.size w1 w9) → BesR w1 n S P K gs gp w1.heap.size w9) := Lib.hid (by
        intro w8 w9 gp cp gs cs b8 o8 hp1 hp2 b9 o9 hs1 hs2 he
        have e1 : (w1.alloc (.cells #[] 4)).drew.heap.size = w1.heap.size + 1 := by show (w1.alloc _).heap.size = _; simp
        have c8 : Below (w1.alloc (.cells #[] 4)).heap.size (w1.alloc (.cells #[] 4)) w8 := ⟨b8.os, b8.tape, b8.output, b8.size, b8.block⟩
        have c9 := c8.trans (b9.mono c8.size)
        have z8 := b8.size
        have z9 := b9.size
        exact ⟨((OwnB.empty K w1 w1.heap.size (Nat.le_refl _)).below c9).wide c9.size (Nat.le_refl _), fun j hj => o9.cellGet (by rw [SL.out]; exact hj), fun j hj => (b9.cell (p := ⟨gp, j, none⟩) hp2).trans (o8.cellGet (by rw [PL.out]; exact hj)), by omega, he.out⟩)
      have CB : Hid (∀ (w8 w9 : World) (gp cp gs cs : Nat), Below w1.drew.heap.size w1.drew w8 → OwnV w8 w1.drew.heap.size w8.heap.size (.slice (some ⟨gp, 0, none⟩) P.length cp) P → w1.drew.heap.size ≤ gp → gp < w8.heap.size → Below (w8.alloc (.cells #[] 4)).heap.size (w8.alloc (.cells #[] 4)) w9 → OwnV w9 (w8.alloc (.cells #[] 4)).heap.size w9.heap.size (.slice (some ⟨gs, 0, none⟩) S.length cs) S → (w8.alloc (.cells #[] 4)).heap.size ≤ gs → gs < w9.heap.size → Hid (Below w1.heap.size w1 w9) → BesR w1 n S P K gs gp w8.heap.size w9) := Lib.hid (by
        intro w8 w9 gp cp gs cs b8 o8 hp1 hp2 b9 o9 hs1 hs2 he
        have e1 : (w8.alloc (.cells #[] 4)).heap.size = w8.heap.size + 1 := by simp
        have e2 : w1.drew.heap.size = w1.heap.size := rfl
        have z8 := b8.size
        have z9 := b9.size
        have b9' : Below w8.heap.size w8 w9 := ((Below.refl w8.heap.size w8).alloc (Nat.le_refl _) _).trans (b9.mono (by omega))
        exact ⟨((OwnB.empty K w8 w1.heap.size (by omega)).below b9).wide b9.size (Nat.le_refl _), fun j hj => o9.cellGet (by rw [SL.out]; exact hj), fun j hj => (b9'.cell (p := ⟨gp, j, none⟩) hp2).trans (o8.cellGet (by rw [PL.out]; exact hj)), by omega, he.out⟩)
      have CC : Hid (∀ (w8 w9 : World) (gp cp gs cs : Nat), Below w1.drew.heap.size w1.drew w8 → OwnV w8 w1.drew.heap.size w8.heap.size (.slice (some ⟨gp, 0, none⟩) P.length cp) P → w1.drew.heap.size ≤ gp → gp < w8.heap.size → Below w8.heap.size w8 w9 → OwnV w9 w8.heap.size w9.heap.size (.slice (some ⟨gs, 0, none⟩) S.length cs) S → w8.heap.size ≤ gs → gs < w9.heap.size → Hid (Below w1.heap.size w1 w9) → BesR w1 n S P K gs gp w9.heap.size (w9.alloc (.cells #[] 4))) := Lib.hid (by
        intro w8 w9 gp cp gs cs b8 o8 hp1 hp2 b9 o9 hs1 hs2 he
        have e1 : (w9.alloc (.cells #[] 4)).heap.size = w9.heap.size + 1 := by simp
        have e2 : w1.drew.heap.size = w1.heap.size := rfl
        have z8 := b8.size
        have z9 := b9.size
        exact ⟨OwnB.empty K w9 w1.heap.size (by omega), fun j hj => by rw [World.cell?_alloc_lt _ _ _ (by exact hs2)]; exact o9.cellGet (by rw [SL.out]; exact hj), fun j hj => by rw [World.cell?_alloc_lt _ _ _ (by show gp < _; omega)]; exact (b9.cell (p := ⟨gp, j, none⟩) hp2).trans (o8.cellGet (by rw [PL.out]; exact hj)), by omega, (KM.out _ he).out⟩)
      go_region_held3 (fun w' => w'.cell? ⟨w.heap.size, 0, none⟩ = some (.slice p1 n c1) ∧ w'.cell? ⟨w.heap.size, 1, none⟩ = some (.slice p2 ws.length c2))
        (first | exact KC.out _ HD | exact KC.out _ HDM | exact KC.out _ (by assumption) | exact KC.out _ (KM.out _ (by assumption)) | go_keep)
        (first
          | (go_at_call 58; (with_reducible refine (CT.out _ (by first | exact HD | exact HDM | assumption)).mono ?_); rintro e w8 ⟨u8, rfl, o8, b8⟩; (obtain ⟨gp, cp, rfl, hp1, hp2⟩ := o8.shape (by rw [PL.out]; exact hn0)); (have HE8 := hb_nextB (by first | exact HD | exact HDM | assumption) b8))
          | (go_at_call 59; (with_reducible refine (CS.out _ (by first | exact HE8 | exact KM.out _ HE8)).mono ?_); rintro e w9 ⟨u9, rfl, o9, b9⟩; (obtain ⟨gs, cs, rfl, hs1, hs2⟩ := o9.shape (by rw [SL.out]; exact hn0)); (have HE9 := hb_nextB (by first | exact HE8 | exact KM.out _ HE8) b9)))
      all_goals
        go_wp2_with fail
        go_meet
        refine ⟨_, _, _, _, _, by rw [PL.out], by rw [SL.out], rfl, Lib.hid ?_⟩
        first
          | exact CA.out _ _ _ _ _ _ b8 o8 hp1 hp2 b9 o9 hs1 hs2 HE9
          | exact CB.out _ _ _ _ _ _ b8 o8 hp1 hp2 b9 o9 hs1 hs2 HE9
          | exact CC.out _ _ _ _ _ _ b8 o8 hp1 hp2 b9 o9 hs1 hs2 HE9
    obtain ⟨gp, cp, gs, cs, go, rfl, rfl, rfl, hT⟩ := hcut
    obtain ⟨w3, rfl⟩ : ∃ w3 : World, w3 = wc := ⟨_, rfl⟩
    have S3 := Lib.hid hT.out.su
    have P3 := Lib.hid hT.out.pr
    have O3 := Lib.hid hT.out.out
    have NE := hT.out.ne
    have BX := hT.out.bel
    have TLT := HT1.out.lt
    have T3 := Lib.hid (HT1.out.below BX HT1.out.lt)
    have B3 := Lib.hid (HB1.out.trans (BX.mono HB1.out.size))
    have G3 : Hid (gs < w3.heap.size ∧ gp < w3.heap.size) := Lib.hid ⟨NE.2.2.1, NE.2.2.2⟩
    have NO : Hid (go ≠ gs ∧ go ≠ gp) := Lib.hid (by omega)
    have W1L := HB1.out.size
    have L3 := Lib.hid BX.size
    clear hT NE BX HT1 HB1 SU2 CP2 x0 x1
    obtain ⟨i0, hi, hz0, hz1, hz2⟩ := info_parts boolInfo
    go_wp2_with fail
    go_loopg [8, 9] n (fun gg o i wr => ∃ k go co : Nat, k ≤ n ∧ n - k ≤ gg ∧ i = .int .i64 k ∧ o = .slice (some ⟨go, 0, none⟩) k co ∧ Hid (OwnB wr w1.heap.size wr.heap.size (.slice (some ⟨go, 0, none⟩) k co) K k) ∧ Hid (go ≠ gs ∧ go ≠ gp) ∧ Hid (∀ j, j < n → wr.cell? ⟨gs, j, none⟩ = some (.int .i64 (S.getD j 0))) ∧ Hid (∀ j, j < n → wr.cell? ⟨gp, j, none⟩ = some (.int .i64 (P.getD j 0))) ∧ Hid (gs < wr.heap.size ∧ gp < wr.heap.size) ∧ Hid (TBox wr w.heap.size (.slice p1 n c1) (.slice p2 ws.length c2)) ∧ Hid (Below w.heap.size w wr) ∧ Hid (w1.heap.size ≤ wr.heap.size))
    case atStart => exact ⟨0, _, _, Nat.zero_le _, by omega, rfl, rfl, O3, NO, S3, P3, G3, T3, B3, L3⟩
    case round =>
      clear O3 NO S3 P3 G3 T3 B3 L3
      obtain ⟨k, go, co, hk, hgg, rfl, rfl, HO, HQ, HS, HP, HG, HT, HB, HL⟩ := hrel
      obtain ⟨x0, x1⟩ := HT.out.cells
      by_cases hlt : k < n
      · have hp := HP.out k hlt
        have hs := HS.out k hlt
        obtain ⟨bz, oz, hqz, hbz, hcz⟩ := Q1.out.get (i := k) (by omega)
        subst hqz
        have hz_k : wr.cell? ⟨bz, oz + k, none⟩ = some (.int .i64 (zs.getD k 0)) := by rw [HB.out.cell (p := ⟨bz, oz + k, none⟩) hbz, hcz]
        have os := OS.out k hlt
        have px := PX.out k
        obtain ⟨pk, hpk⟩ : ∃ z, z = P.getD k 0 := ⟨_, rfl⟩
        obtain ⟨sk, hsk⟩ : ∃ z, z = S.getD k 0 := ⟨_, rfl⟩
        obtain ⟨zk, hzk⟩ : ∃ z, z = zs.getD k 0 := ⟨_, rfl⟩
        rw [← hpk] at hp px
        rw [← hsk] at hs os px
        rw [← hzk] at hz_k os px
        have WE : Hid ((pk == IntKind.i64.wrap (sk * zk)) = K k) := Lib.hid (by rw [IntWalk.i64_in _ (by omega), px])
        have i0' : (0 : Int) ≤ (k : Int) := by omega
        have i1' : (k : Int) < (n : Int) := by omega
        have i2' : (k : Int) < (zs.length : Int) := by omega
        have hsz := HT.out.lt
        have hgl := HG.out
        have hl1 := HL.out
        have HOD : Hid (OwnB wr.drew w1.heap.size wr.drew.heap.size (.slice (some ⟨go, 0, none⟩) k co) K k) := Lib.hid ((HO.out.below (below_drew (Below.refl _ _))).wide (Below.size (below_drew (Below.refl wr.heap.size wr))) (Nat.le_refl _))
        have hsd : w1.heap.size ≤ wr.drew.heap.size := hl1
        have HOA : Hid ((wr.alloc (.cells #[.bool (pk == IntKind.i64.wrap (sk * zk))] 4)).drew.ownsRow w1.heap.size 4 1 (.slice (some ⟨go, 0, none⟩) k co) k (bolL K k)) := Lib.hid (HO.out.row.alloc _)
        have HNA : Hid (∀ j u, [Value.bool (pk == IntKind.i64.wrap (sk * zk))][j]? = some u → (wr.alloc (.cells #[.bool (pk == IntKind.i64.wrap (sk * zk))] 4)).drew.cell? ((⟨wr.heap.size, 0, none⟩ : Addr).add j) = some u) := Lib.hid (bool_one_new wr _)
        clear hpk hsk hzk hcz hbz px os
        go_wp2_with fail
        go_region_law (refine step_append_lies _ rfl _ _ 66 rfl w1.heap.size 4 i0 (.bool false) 1 1 Try.underlying66 hi hz0 hz1 hz2 rfl (by decide) _ k (bolL K k) rfl HOA.out ⟨wr.heap.size, 0, none⟩ 1 1 [.bool (pk == IntKind.i64.wrap (sk * zk))] rfl rfl HNA.out (fun u hu => by simp at hu; subst hu; rfl) (by omega) (by unfold maxLen; omega) (by omega) (by simp; omega) _ rfl ?_; intro g4 cap4 w4 hown3 hgrow3 hat3 hlt3)
        all_goals
          rw [WE.out] at hown3 hgrow3
          have own3 := Lib.hid (HOD.out.app hown3)
          have bel3 := Lib.hid ((below_drew (HB.out.alloc HB.out.size _)).grown hgrow3 (by simp; omega) (fun q hq => by have := (HOA.out.lt q hq).1; omega))
          have box3 := Lib.hid (((HT.out.alloc (.cells #[.bool (K k)] 4)).below (below_drew (Below.refl _ _)) (HT.out.alloc (.cells #[.bool (K k)] 4)).lt).grown hgrow3 (fun q hq => (HOA.out.lt q hq).1) (by omega))
          have q3 : Hid (g4 ≠ gs ∧ g4 ≠ gp) := Lib.hid (by
            rcases hat3 with h | h
            · have h' : (some go : Option Nat) = some g4 := h
              injection h' with h'; have := HQ.out; omega
            · simp at h; omega)
          have hne : ∀ q, (some go : Option Nat) = some q → q ≠ gs ∧ q ≠ gp := fun q hq => by injection hq with hq; have := HQ.out; omega
          have s3 : Hid (∀ j, j < n → w4.cell? ⟨gs, j, none⟩ = some (.int .i64 (S.getD j 0))) := Lib.hid (fun j hj => by
            rw [ne_grownB hgrow3 (by simp; omega) (fun q hq => (hne q hq).1)]
            show (wr.alloc _).cell? _ = _
            rw [World.cell?_alloc_lt _ _ _ (by exact hgl.1)]; exact HS.out j hj)
          have p3 : Hid (∀ j, j < n → w4.cell? ⟨gp, j, none⟩ = some (.int .i64 (P.getD j 0))) := Lib.hid (fun j hj => by
            rw [ne_grownB hgrow3 (by simp; omega) (fun q hq => (hne q hq).2)]
            show (wr.alloc _).cell? _ = _
            rw [World.cell?_alloc_lt _ _ _ (by exact hgl.2)]; exact HP.out j hj)
          have g3 : Hid (gs < w4.heap.size ∧ gp < w4.heap.size) := Lib.hid (by have := hgrow3.size; simp at this; omega)
          have l3 : Hid (w1.heap.size ≤ w4.heap.size) := Lib.hid (by have := hgrow3.size; simp at this; omega)
          clear hown3 hgrow3 hat3 hlt3 hne
          go_wp2_with fail
          go_roundg (n - (k + 1))
          case rel => exact ⟨k + 1, _, _, by omega, by omega, by go_num, rfl, own3, q3, s3, p3, g3, box3, bel3, l3⟩
          case measure => omega
      · obtain rfl : k = n := by omega
        have C := Lib.hid (FI2.out wr _ HB.out HO.out.boolsV)
        clear HO HQ HS HP HG HL
        go_wp2_with fail
        refine C.out.mono ?_
        rintro e w5 ⟨u5, rfl, o5, b5⟩
        have FIN := Lib.hid (newInts_back HB.out o5 b5)
        clear o5 b5
        go_wp2_with fail
        go_ret2
        exact FIN.out
end Go.Proofs.Ytagljebfbacdhaa
