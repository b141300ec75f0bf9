/- The stoppings chosen of two, in the program. -/
import Derived.Test.YtagljebfbacdhabPickP
import Derived.Test.YtagljebfbacdhabStopI
import Derived.Test.YtagljebfbacdhabAtI
import Derived.Test.YtagljebfbacdhabMemI
import Derived.Deep.RegionHeld3
namespace Go.Proofs.Ytagljebfbacdhab
open Go.RowKit
set_option linter.unusedVariables false
/-- What is asked of a choice. -/
def ChooseI (g : Nat) (lt : Bool) : Prop := ∀ (W : World) (x y : Int), Calls Try.prog g #[.int .i64 x, .int .i64 y] W fun e w' => e = .returned (.int .i64 (oneOf lt x y)) ∧ W = w'
theorem one_min (x y : Int) : oneOf false x y = min x y := by
  unfold oneOf
  rw [if_neg (by simp), Int.min_def]
  split <;> split <;> omega
theorem one_max (x y : Int) : oneOf true x y = max x y := by
  unfold oneOf
  rw [if_pos rfl, Int.max_def]
  split <;> split <;> omega
theorem earlyI : ChooseI 138 false := by
  intro W x y
  rw [one_min]
  go_enter Try.func138, Try.ntmps138
  go_wp2
  go_ret
  exact ⟨rfl, rfl⟩
theorem lateI : ChooseI 141 true := by
  intro W x y
  rw [one_max]
  go_enter Try.func141, Try.ntmps141
  go_wp2
  go_ret
  exact ⟨rfl, rfl⟩
theorem newInts_empty2 {w w1 : World} (hb : Below w.heap.size w w1) {g : Nat} (hg : g = w1.heap.size) : NewIntsB [] false w (.returned (.tuple #[.slice (some ⟨g, 0, none⟩) 0 0, .bool false])) (w1.alloc (.cells #[] 3)) := by
  subst hg; exact newInts_empty hb
set_option maxHeartbeats 2000000 in
theorem pickEnd (es A B : List Int) (g : Nat) (lt : Bool) (W0 : World) (C7 C10 C12 ga ca gb cb n : Nat) (eg : ∀ args w, (callFunc g args).run Try.prog w = .ok (.enter g args) w) (hg : ChooseI g lt) (hn : n ≤ 1000000) (hes : ∀ z ∈ es, ∃ x : Nat, z = (x : Int) ∧ x < n)
    (hga : ga < W0.heap.size) (hgb : gb < W0.heap.size) (hA : ∀ j, j < n → W0.cell? ⟨ga, j, none⟩ = some (.int .i64 (A.getD j 0))) (hB : ∀ j, j < n → W0.cell? ⟨gb, j, none⟩ = some (.int .i64 (B.getD j 0)))
    (h7 : VBox W0 C7 (.func (.func g) #[] #[]) 75) (h10 : VBox W0 C10 (.slice (some ⟨ga, 0, none⟩) n ca) 22) (h12 : VBox W0 C12 (.slice (some ⟨gb, 0, none⟩) n cb) 22) :
    EndI 181 #[.pointer (some ⟨C7, 0, none⟩), .pointer (some ⟨C10, 0, none⟩), .pointer (some ⟨C12, 0, none⟩)] es (fun e => oneOf lt (A.getD e.toNat 0) (B.getD e.toNat 0)) W0 := by
  intro W z hz hb
  obtain ⟨x, rfl, hx⟩ := hes z hz
  have y7 := (h7.below hb h7.lt).cell
  have y10 := (h10.below hb h10.lt).cell
  have y12 := (h12.below hb h12.lt).cell
  have ya : W.cell? ⟨ga, x, none⟩ = some (.int .i64 (A.getD x 0)) := by rw [hb.cell (p := ⟨ga, x, none⟩) hga]; exact hA x hx
  have yb : W.cell? ⟨gb, x, none⟩ = some (.int .i64 (B.getD x 0)) := by rw [hb.cell (p := ⟨gb, x, none⟩) hgb]; exact hB x hx
  have i0 : (0 : Int) ≤ (x : Int) := by omega
  have i1 : (x : Int) < (n : Int) := by omega
  dsimp only
  rw [Int.toNat_natCast]
  generalize A.getD x 0 = a at *
  generalize B.getD x 0 = b at *
  have CH := Lib.hid (fun w => hg w a b)
  generalize oneOf lt a b = r at *
  clear h7 h10 h12 hb hA hB hes hz hga hgb
  show Calls _ _ #[.int .i64 (x : Int), .pointer (some ⟨C7, 0, none⟩), .pointer (some ⟨C10, 0, none⟩), .pointer (some ⟨C12, 0, none⟩)] _ _
  go_enter Try.func181, Try.ntmps181
  go_wp2_with fail
  go_quiet ((go_at_fn g; first | exact quiet_left (CH.out _) | exact quiet_add_left (CH.out _)))
  go_wp2_with fail
  go_ret
  exact ⟨rfl, by first | exact below_drewN (Below.refl _ _) _ | exact below_drew (Below.refl _ _)⟩
theorem pickPred (C : List Int) (N : Nat) (v : Value) (W0 : World) (B : Nat) (hl : C.length ≤ 1048576) (h : IntsV W0 W0.heap.size v C) (hc : VBox W0 B v 22) :
    PredI 182 #[.pointer (some ⟨B, 0, none⟩)] (fun x => inL C (x : Int)) N W0 := by
  intro W x hx hb
  have y0 := (hc.below hb hc.lt).cell
  have M := Lib.hid (memI C v (x : Int) W hl ((h.below hb).more hb.size))
  obtain ⟨q, d, rfl, _⟩ := h
  dsimp only
  generalize inL C (x : Int) = r at *
  clear hc hb
  show Calls _ _ #[.int .i64 x, .pointer (some ⟨B, 0, none⟩)] _ _
  go_enter Try.func182, Try.ntmps182
  go_wp2_with fail
  refine M.out.mono ?_
  rintro e w1 ⟨rfl, b1⟩
  have HB := Lib.hid b1
  clear b1
  go_wp2_with fail
  go_ret
  exact ⟨rfl, HB.out⟩
set_option maxRecDepth 100000 in
set_option maxHeartbeats 4000000 in
theorem chooseI (ps ws a b : List Int) (g : Nat) (lt : Bool) (v u1 u2 : Value) (w : World) (eg : ∀ args w, (callFunc g args).run Try.prog w = .ok (.enter g args) w) (hg : ChooseI g lt) (hn1 : a.length ≤ 1048576) (hn2 : b.length ≤ 1048576)
    (h : TreeV w w.heap.size v ps ws) (hu : IntsV w w.heap.size u1 a) (hv : IntsV w w.heap.size u2 b) :
    Calls Try.prog 137 #[v, u1, u2, .func (.func g) #[] #[]] w (NewIntsB (ifTwo ps ws a b (pickT ps a b lt)) (twoB ps ws a b) w) := by
  have SA := Lib.hid (fun w' (hb : Below w.heap.size w w') => stopNodesI ps ws a v u1 w' hn1 (h.boxed hb) ((hu.below hb).more hb.size))
  have SB := Lib.hid (fun w' (hb : Below w.heap.size w w') => stopNodesI ps ws b v u2 w' hn2 (h.boxed hb) ((hv.below hb).more hb.size))
  have TV := Lib.hid (fun w' (hb : Below w.heap.size w w') => h.boxed hb)
  obtain ⟨p1, c1, p2, c2, rfl⟩ := h.shape
  obtain ⟨q1, d1, rfl, _⟩ := hu
  obtain ⟨q2, d2, rfl, _⟩ := hv
  clear h
  have hmf : ∀ (fn : Fn) (first cap : Array Value) (w : World), (Instr.makeFunc fn first cap).run Try.prog w = .ok (.func fn first cap) w := fun _ _ _ _ => rfl
  have B1 := ((Below.refl w.heap.size w).alloc (Nat.le_refl _) (.cells #[.slice p1 ps.length c1, .slice p2 ws.length c2] 28)).alloc (by simp) (.cells #[.func (.func g) #[] #[]] 75)
  have K0 := alloc_two w (.cells #[.slice p1 ps.length c1, .slice p2 ws.length c2] 28) (.cells #[.func (.func g) #[] #[]] 75)
  obtain ⟨x0, x1⟩ := (show TBox _ w.heap.size (.slice p1 ps.length c1) (.slice p2 ws.length c2) from K0.1).cells
  obtain ⟨wa, hwa⟩ : ∃ wa, wa = (w.alloc (.cells #[.slice p1 ps.length c1, .slice p2 ws.length c2] 28)).alloc (.cells #[.func (.func g) #[] #[]] 75) := ⟨_, rfl⟩
  rw [← hwa] at B1 K0
  have T1 := Lib.hid (show TBox wa w.heap.size (.slice p1 ps.length c1) (.slice p2 ws.length c2) from K0.1)
  have V1 := Lib.hid (show VBox wa (w.heap.size + 1) (.func (.func g) #[] #[]) 75 from K0.2)
  have HBA := Lib.hid B1
  clear K0 B1
  have D : Hid (twoB ps ws a b = (stopB ps ws a && stopB ps ws b)) := Lib.hid rfl
  have NO : Hid (twoB ps ws a b = false → ifTwo ps ws a b (pickT ps a b lt) = []) := Lib.hid (fun h => by unfold ifTwo; rw [h]; rfl)
  have FB : Hid (twoB ps ws a b = true → ifTwo ps ws a b (pickT ps a b lt) = pickT ps a b lt) := Lib.hid (fun h => by unfold ifTwo; rw [h]; rfl)
  go_enter Try.func137, Try.ntmps137
  go_wp2_with fail
  rw [← hwa]
  clear hwa
  refine (SA.out _ HBA.out).mono ?_
  rintro e w1 ⟨ua, rfl, oa, b1⟩
  obtain ⟨qa, da, rfl, _⟩ := oa.intsV
  have HB1 := Lib.hid ((HBA.out.trans (b1.mono HBA.out.size)).alloc (Nat.le_trans HBA.out.size b1.size) (.cells #[.slice qa (ifStop ps ws a (nodT ps a)).length da] 22))
  have HT1 := Lib.hid ((T1.out.below b1 T1.out.lt).alloc (.cells #[.slice qa (ifStop ps ws a (nodT ps a)).length da] 22))
  have HV1 := Lib.hid ((V1.out.below b1 V1.out.lt).alloc (.cells #[.slice qa (ifStop ps ws a (nodT ps a)).length da] 22))
  have HA1 := Lib.hid (show VBox (w1.alloc (.cells #[.slice qa (ifStop ps ws a (nodT ps a)).length da] 22)) w1.heap.size (.slice qa (ifStop ps ws a (nodT ps a)).length da) 22 from alloc_heap w1 _)
  have OA1 := Lib.hid (oa.below ((Below.refl w1.heap.size w1).alloc (Nat.le_refl _) (.cells #[.slice qa (ifStop ps ws a (nodT ps a)).length da] 22)))
  obtain ⟨C10, hC⟩ : ∃ C, C = w1.heap.size := ⟨_, rfl⟩
  clear x0 x1
  obtain ⟨x0, x1⟩ := HT1.out.cells
  obtain ⟨w2, hw2⟩ : ∃ w2, w2 = w1.alloc (.cells #[.slice qa (ifStop ps ws a (nodT ps a)).length da] 22) := ⟨_, rfl⟩
  rw [← hw2] at HB1 HT1 HV1 HA1 OA1
  rw [← hC] at HA1
  clear b1 oa T1 V1 HBA SA
  go_wp2_with fail
  rw [← hw2, ← hC]
  clear hw2 hC x0 x1
  refine (SB.out _ HB1.out).mono ?_
  rintro e w3 ⟨ub, rfl, ob, b3⟩
  obtain ⟨qb, db, rfl, _⟩ := ob.intsV
  have HB3 := Lib.hid ((HB1.out.trans (b3.mono HB1.out.size)).alloc (Nat.le_trans HB1.out.size b3.size) (.cells #[.slice qb (ifStop ps ws b (nodT ps b)).length db] 22))
  have HT3 := Lib.hid ((HT1.out.below b3 HT1.out.lt).alloc (.cells #[.slice qb (ifStop ps ws b (nodT ps b)).length db] 22))
  have HV3 := Lib.hid ((HV1.out.below b3 HV1.out.lt).alloc (.cells #[.slice qb (ifStop ps ws b (nodT ps b)).length db] 22))
  have HA3 := Lib.hid ((HA1.out.below b3 HA1.out.lt).alloc (.cells #[.slice qb (ifStop ps ws b (nodT ps b)).length db] 22))
  have HU3 := Lib.hid (show VBox (w3.alloc (.cells #[.slice qb (ifStop ps ws b (nodT ps b)).length db] 22)) w3.heap.size (.slice qb (ifStop ps ws b (nodT ps b)).length db) 22 from alloc_heap w3 _)
  have OA3 := Lib.hid ((OA1.out.below (b3.mono OA1.out.room)).below (((Below.refl w3.heap.size w3).alloc (Nat.le_refl _) (.cells #[.slice qb (ifStop ps ws b (nodT ps b)).length db] 22)).mono (Nat.le_trans OA1.out.room b3.size)))
  have OB3 := Lib.hid (ob.below ((Below.refl w3.heap.size w3).alloc (Nat.le_refl _) (.cells #[.slice qb (ifStop ps ws b (nodT ps b)).length db] 22)))
  obtain ⟨C12, hC⟩ : ∃ C, C = w3.heap.size := ⟨_, rfl⟩
  obtain ⟨x0, x1⟩ := HT3.out.cells
  obtain ⟨w4, hw4⟩ : ∃ w4, w4 = w3.alloc (.cells #[.slice qb (ifStop ps ws b (nodT ps b)).length db] 22) := ⟨_, rfl⟩
  rw [← hw4] at HB3 HT3 HV3 HA3 HU3 OA3 OB3
  rw [← hC] at HU3
  clear b3 ob HB1 HT1 HV1 HA1 OA1 SB
  cases hsa : stopB ps ws a
  · have R := Lib.hid (show twoB ps ws a b = false by rw [D.out, hsa]; rfl)
    have NR := Lib.hid (NO.out R.out)
    clear hsa D NO FB
    go_wp2_with fail
    have hs4 : w3.heap.size + 1 = w4.heap.size := by rw [hw4]; simp
    rw [← hw4]
    clear hw4 hC
    go_ret2
    rw [NR.out, R.out]
    exact newInts_empty2 HB3.out hs4
  · cases hsb : stopB ps ws b
    · have R := Lib.hid (show twoB ps ws a b = false by rw [D.out, hsa, hsb]; rfl)
      have NR := Lib.hid (NO.out R.out)
      clear hsa hsb D NO FB
      go_wp2_with fail
      have hs4 : w3.heap.size + 1 = w4.heap.size := by rw [hw4]; simp
      rw [← hw4]
      clear hw4 hC
      go_ret2
      rw [NR.out, R.out]
      exact newInts_empty2 HB3.out hs4
    · have R := Lib.hid (show twoB ps ws a b = true by rw [D.out, hsa, hsb]; rfl)
      have FR := Lib.hid (FB.out R.out)
      have STA := Lib.hid (stopB_iff.1 hsa)
      have STB := Lib.hid (stopB_iff.1 hsb)
      have IA : ifStop ps ws a (nodT ps a) = nodT ps a := by unfold ifStop; rw [hsa]; rfl
      have IB2 : ifStop ps ws b (nodT ps b) = nodT ps b := by unfold ifStop; rw [hsb]; rfl
      rw [IA] at OA3 HA3 ⊢
      rw [IB2] at OB3 HU3 hw4 x0 x1 ⊢
      clear IA IB2
      clear hsa hsb D NO FB
      have gd := STA.out.good
      have hn24 := gd.n24
      have hn0 := gd.n1
      have LA : (nodT ps a).length = ps.length := passT_len _ _ _
      have LB : (nodT ps b).length = ps.length := passT_len _ _ _
      obtain ⟨ga, ca, ea, _, hga⟩ := OA3.out.shape (by omega)
      obtain ⟨gb, cb, eb, _, hgb⟩ := OB3.out.shape (by omega)
      injection ea with ea1 _ ea2
      injection eb with eb1 _ eb2
      subst ea1; subst ea2; subst eb1; subst eb2
      have DA := Lib.hid (fun j (hj : j < ps.length) => OA3.out.cellGet (j := j) (by omega))
      have DB := Lib.hid (fun j (hj : j < ps.length) => OB3.out.cellGet (j := j) (by omega))
      have ra := OA3.out.room
      have rb := OB3.out.room
      rw [LA] at HA3
      rw [LB] at HU3
      have ENDS : Hid (∀ z ∈ endsT ps, ∃ x : Nat, z = (x : Int) ∧ x < ps.length) := Lib.hid (fun z hz => by obtain ⟨x, h1, h2, _⟩ := nodesW_mem hz; exact ⟨x, h1, h2⟩)
      have IB : Hid (∀ z ∈ endsT ps, InI64 (oneOf lt ((nodT ps a).getD z.toNat 0) ((nodT ps b).getD z.toNat 0))) := Lib.hid (fun z hz => by
        obtain ⟨x, rfl, hx, hl⟩ := nodesW_mem hz
        rw [Int.toNat_natCast]
        have h1 := nod_bd a (ParOk.of gd) x hx
        have h2 := nod_bd b (ParOk.of gd) x hx
        unfold oneOf InI64
        split <;> split <;> omega)
      have P := Lib.hid (atEndsI ps ws (fun e => oneOf lt ((nodT ps a).getD e.toNat 0) ((nodT ps b).getD e.toNat 0)) _ 181 #[.pointer (some ⟨w.heap.size + 1, 0, none⟩), .pointer (some ⟨C10, 0, none⟩), .pointer (some ⟨C12, 0, none⟩)] w4 (enters_of Try.func181 (by kernel_rfl) rfl) gd (TV.out w4 HB3.out) IB.out
        (pickEnd (endsT ps) (nodT ps a) (nodT ps b) g lt w4 _ _ _ ga da gb db ps.length eg hg (by omega) ENDS.out (Nat.lt_of_lt_of_le hga ra) (Nat.lt_of_lt_of_le hgb rb) DA.out DB.out HV3.out HA3.out HU3.out))
      change Hid (Calls _ _ _ _ (NewInts (pickC ps a b lt) w4)) at P
      have CLN : (pickC ps a b lt).length ≤ 1048576 := by rw [pickC_len]; have := ends_le ps; omega
      have GD := Lib.hid gd
      clear gd LA LB ra rb hga hgb IB ENDS DA DB
      go_wp2_with fail
      rw [← hw4, ← hC]
      clear hw4 hC x0 x1
      refine P.out.mono ?_
      rintro e w5 ⟨uc, rfl, oc, b5⟩
      obtain ⟨qc, dc, rfl, _⟩ := oc.intsV
      have HB5 := Lib.hid ((HB3.out.trans (b5.mono HB3.out.size)).alloc (Nat.le_trans HB3.out.size b5.size) (.cells #[.slice qc (pickC ps a b lt).length dc] 22))
      have HT5 := Lib.hid ((HT3.out.below b5 HT3.out.lt).alloc (.cells #[.slice qc (pickC ps a b lt).length dc] 22))
      have HU5 := Lib.hid (show VBox (w5.alloc (.cells #[.slice qc (pickC ps a b lt).length dc] 22)) w5.heap.size (.slice qc (pickC ps a b lt).length dc) 22 from alloc_heap w5 _)
      have OC5 := Lib.hid (((oc.below ((Below.refl w5.heap.size w5).alloc (Nat.le_refl _) (.cells #[.slice qc (pickC ps a b lt).length dc] 22))).intsV).more (by simp : w5.heap.size ≤ (w5.alloc (.cells #[.slice qc (pickC ps a b lt).length dc] 22)).heap.size))
      obtain ⟨C14, hC⟩ : ∃ C, C = w5.heap.size := ⟨_, rfl⟩
      obtain ⟨x0, x1⟩ := HT5.out.cells
      obtain ⟨w6, hw6⟩ : ∃ w6, w6 = w5.alloc (.cells #[.slice qc (pickC ps a b lt).length dc] 22) := ⟨_, rfl⟩
      rw [← hw6] at HB5 HT5 HU5 OC5
      rw [← hC] at HU5
      clear b5 oc
      have Q := Lib.hid (nodesI ps ws _ 182 #[.pointer (some ⟨C14, 0, none⟩)] (fun x => inL (pickC ps a b lt) (x : Int)) w6 (enters_of Try.func182 (by kernel_rfl) rfl) (by have := GD.out.n24; omega) (TV.out w6 HB5.out) (pickPred (pickC ps a b lt) ps.length _ w6 C14 CLN OC5.out HU5.out))
      change Hid (Calls _ _ _ _ (NewInts (pickT ps a b lt) w6)) at Q
      go_wp2_with fail
      rw [← hw6, ← hC]
      clear hw6 hC x0 x1
      refine Q.out.mono ?_
      rintro e w7 ⟨u7, rfl, o7, b7⟩
      have FIN := Lib.hid (newInts_back HB5.out o7 b7)
      clear o7 b7
      go_wp2_with fail
      go_ret2
      rw [FR.out, R.out]
      exact FIN.out
end Go.Proofs.Ytagljebfbacdhab
