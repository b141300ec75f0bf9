/- PlanCost answers as its model for all arguments, and nothing that was there is turned. No conditions. -/
import Derived.Test.YtligidmkhbcpmabRows
import Derived.Test.YtligidmkhbcpmabFrame
import Derived.Test.YtligidmkhbcpmabLawI
import Derived.Test.YtligidmkhbcpmabOpen
import Derived.Test.YtligidmkhbcpmabTabG
import Derived.Test.YtligidmkhbcpmabPlnJ
import Derived.Test.YtligidmkhbcpmabPlnN
import Derived.WalkKit
import Derived.ProofKit
import Derived.OpenShut
import Derived.ShutString
import Derived.SliceStrings
import Derived.Deep.DeepHandedRow
import Derived.Lib.LaidTab
import Derived.Lib.Hide
import Derived.WalkSpells
import Derived.Deep.RegionHeld3
import Derived.Deep.DeepCutAuto
import Derived.KernelRfl
namespace Go.Proofs.Ytligidmkhbcpmab.fnExactPlanCost
open Go.ChangeShapes Go.WideShapes Go.ChangeAt Go.RowKit
open Go.ChangeMaps (open_string shut_string)
set_option linter.unusedVariables false
theorem own : ownKnob Try.prog.godebug = none := by kernel_rfl
theorem laidOut : laidOutB Try.prog = true := by kernel_rfl
set_option maxRecDepth 100000 in
set_option maxHeartbeats 4000000 in
theorem walk (W : World) (zs0 : List Int) (v0 : Value) (t0 : IntsV W W.heap.size v0 zs0) (zs1 : List Int) (v1 : Value) (t1 : IntsV W W.heap.size v1 zs1) (R2 : Nat) (f2 : Nat → List Int) (v2 : Value) (t2 : TabV W W.heap.size v2 R2 f2) (R3 : Nat) (f3 : Nat → List Int) (v3 : Value) (t3 : TabV W W.heap.size v3 R3 f3) : Calls Try.prog 7 #[v0, v1, v2, v3] W fun e W' => e = .returned (.bool true) ∧ Below W.heap.size W W' := by
  have TI0 := Lib.hid (fun (hn : zs0.length ≤ 1048576) w' (hb : Below W.heap.size W w') => toI zs0 v0 w' hn ((t0.below hb).more hb.size))
  obtain ⟨q0, d0, rfl, _⟩ := t0
  have TI1 := Lib.hid (fun (hn : zs1.length ≤ 1048576) w' (hb : Below W.heap.size W w') => toI zs1 v1 w' hn ((t1.below hb).more hb.size))
  obtain ⟨q1, d1, rfl, _⟩ := t1
  by_cases hn0 : ¬ zs0.length ≤ 1048576
  · have hgt : ((zs0.length : Int) > 1048576) := by omega
    clear hn0
    go_enter Try.func7, Try.ntmps7
    go_wp2_with fail
    go_ret
    exact ⟨rfl, Below.refl _ _⟩
  have hn0 := Decidable.not_not.1 hn0
  by_cases hn1 : ¬ zs1.length ≤ 1048576
  · have hgt : ((zs1.length : Int) > 1048576) := by omega
    clear hn1
    go_enter Try.func7, Try.ntmps7
    go_wp2_with fail
    go_ret
    exact ⟨rfl, Below.refl _ _⟩
  have hn1 := Decidable.not_not.1 hn1
  have SZ2 := Lib.hid (fun l (h1 : -1 ≤ l) (h2 : l ≤ 1048576) => szSS R2 f2 v2 W.heap.size l W h1 h2 t2)
  have TV2 := Lib.hid t2
  obtain ⟨q2, d2, rfl, _⟩ := t2
  have SZ3 := Lib.hid (fun l (h1 : -1 ≤ l) (h2 : l ≤ 1048576) => szSS R3 f3 v3 W.heap.size l W h1 h2 t3)
  have TV3 := Lib.hid t3
  obtain ⟨q3, d3, rfl, _⟩ := t3
  go_enter Try.func7, Try.ntmps7
  go_wp2_with fail
  refine (SZ2.out _ (by omega) (by omega)).mono ?_
  rintro e w0 ⟨l2, rfl, hl02, hl12, rfl⟩
  by_cases hl2 : l2 < 0
  · clear hl12
    go_wp2_with fail
    go_ret
    exact ⟨rfl, Below.refl _ _⟩
  have hL2 := hl12 (by omega)
  have hM2 : l2 ≤ 1048576 := by omega
  have hR2 : R2 ≤ 1048576 := by omega
  have hTL2 := Lib.hid (show lenG f2 R2 ≤ 1048576 by omega)
  have hFL2 := Lib.hid (show ∀ i, i < R2 → (f2 i).length ≤ 1048576 from fun i hi => by have := lenG_le f2 R2 i hi; omega)
  have TI2 := Lib.hid (fun w' (hb : Below W.heap.size W w') => toSS R2 f2 _ w' hR2 hFL2.out ((TV2.out.below hb).more hb.size))
  clear hL2 hl12
  go_wp2_with fail
  refine (SZ3.out _ (by omega) (by omega)).mono ?_
  rintro e w0 ⟨l3, rfl, hl03, hl13, rfl⟩
  by_cases hl3 : l3 < 0
  · clear hl13
    go_wp2_with fail
    go_ret
    exact ⟨rfl, Below.refl _ _⟩
  have hL3 := hl13 (by omega)
  have hM3 : l3 ≤ 1048576 := by omega
  have hR3 : R3 ≤ 1048576 := by omega
  have hTL3 := Lib.hid (show lenG f3 R3 ≤ 1048576 by omega)
  have hFL3 := Lib.hid (show ∀ i, i < R3 → (f3 i).length ≤ 1048576 from fun i hi => by have := lenG_le f3 R3 i hi; omega)
  have TI3 := Lib.hid (fun w' (hb : Below W.heap.size W w') => toSS R3 f3 _ w' hR3 hFL3.out ((TV3.out.below hb).more hb.size))
  clear hL3 hl13
  have ZS := Lib.hid (fun w' (u0 : Value) (u1 : Value) (u2 : Value) (u3 : Value) (h0 : IntsV w' w'.heap.size u0 zs0) (h1 : IntsV w' w'.heap.size u1 zs1) (h2 : TabV w' w'.heap.size u2 R2 f2) (h3 : TabV w' w'.heap.size u3 R3 f3) => (pcoS zs0 zs1 R2 f2 R3 f3 u0 u1 u2 u3 w' hn0 hn1 hR2 hFL2.out hR3 hFL3.out h0 h1 h2 h3))
  have ZI := Lib.hid (fun w' (u0 : Value) (u1 : Value) (u2 : Value) (u3 : Value) (h0 : IntsV w' w'.heap.size u0 zs0) (h1 : IntsV w' w'.heap.size u1 zs1) (h2 : TabV w' w'.heap.size u2 R2 f2) (h3 : TabV w' w'.heap.size u3 R3 f3) => (pcoI zs0 zs1 R2 f2 R3 f3 u0 u1 u2 u3 w' hn0 hn1 hR2 hFL2.out hR3 hFL3.out h0 h1 h2 h3))
  obtain ⟨ra, rb, hK⟩ := pcoV_form zs0 zs1 R2 f2 R3 f3
  rw [hK] at ZS ZI
  clear hK
  go_wp2_with fail
  refine (TI0.out hn0 _ (Below.refl _ _)).mono ?_
  rintro e w1 ⟨u1, rfl, o1, b1⟩
  have s1 := b1.size
  have B1 := Lib.hid b1
  have Xm0_1 := Lib.hid o1
  clear o1
  clear b1
  go_wp2_with fail
  refine (TI1.out hn1 _ B1.out).mono ?_
  rintro e w2 ⟨u2, rfl, o2, b2⟩
  have s2 := b2.size
  have B2 := Lib.hid (below_next B1.out b2)
  have Xm0_2 := Lib.hid (Xm0_1.out.below (b2.mono (by omega)))
  clear Xm0_1
  clear B1
  have Xm1_2 := Lib.hid o2
  clear o2
  clear b2
  go_wp2_with fail
  refine (TI2.out _ B2.out).mono ?_
  rintro e w3 ⟨u3, rfl, o3, b3⟩
  have s3 := b3.size
  have B3 := Lib.hid (below_next B2.out b3)
  have Xm0_3 := Lib.hid (Xm0_2.out.below (b3.mono (by omega)))
  clear Xm0_2
  have Xm1_3 := Lib.hid (Xm1_2.out.below (b3.mono (by omega)))
  clear Xm1_2
  clear B2
  have Xm2_3 := Lib.hid o3
  clear o3
  clear b3
  go_wp2_with fail
  refine (TI3.out _ B3.out).mono ?_
  rintro e w4 ⟨u4, rfl, o4, b4⟩
  have s4 := b4.size
  have B4 := Lib.hid (below_next B3.out b4)
  have Xm0_4 := Lib.hid (Xm0_3.out.below (b4.mono (by omega)))
  clear Xm0_3
  have Xm1_4 := Lib.hid (Xm1_3.out.below (b4.mono (by omega)))
  clear Xm1_3
  have Xm2_4 := Lib.hid (Xm2_3.out.below (b4.mono (by omega)))
  clear Xm2_3
  clear B3
  have Xm3_4 := Lib.hid o4
  clear o4
  clear b4
  go_wp2_with fail
  refine (ZS.out _ _ _ _ _ (Xm0_4.out.intsV.more (by omega)) (Xm1_4.out.intsV.more (by omega)) (Xm2_4.out.tabV.more (by omega)) (Xm3_4.out.tabV.more (by omega))).mono ?_
  rintro e w5 ⟨rfl, b5⟩
  have s5 := b5.size
  have B5 := Lib.hid (below_next B4.out b5)
  have Xm0_5 := Lib.hid (Xm0_4.out.below (b5.mono (by omega)))
  clear Xm0_4
  have Xm1_5 := Lib.hid (Xm1_4.out.below (b5.mono (by omega)))
  clear Xm1_4
  have Xm2_5 := Lib.hid (Xm2_4.out.below (b5.mono (by omega)))
  clear Xm2_4
  have Xm3_5 := Lib.hid (Xm3_4.out.below (b5.mono (by omega)))
  clear Xm3_4
  clear B4
  clear b5
  clear Xm0_5
  clear Xm1_5
  clear Xm2_5
  clear Xm3_5
  go_wp2_with fail
  refine (TI0.out hn0 _ B5.out).mono ?_
  rintro e w6 ⟨u6, rfl, o6, b6⟩
  have s6 := b6.size
  have B6 := Lib.hid (below_next B5.out b6)
  clear B5
  have Xx0_6 := Lib.hid o6
  clear o6
  clear b6
  go_wp2_with fail
  refine (TI1.out hn1 _ B6.out).mono ?_
  rintro e w7 ⟨u7, rfl, o7, b7⟩
  have s7 := b7.size
  have B7 := Lib.hid (below_next B6.out b7)
  have Xx0_7 := Lib.hid (Xx0_6.out.below (b7.mono (by omega)))
  clear Xx0_6
  clear B6
  have Xx1_7 := Lib.hid o7
  clear o7
  clear b7
  go_wp2_with fail
  refine (TI2.out _ B7.out).mono ?_
  rintro e w8 ⟨u8, rfl, o8, b8⟩
  have s8 := b8.size
  have B8 := Lib.hid (below_next B7.out b8)
  have Xx0_8 := Lib.hid (Xx0_7.out.below (b8.mono (by omega)))
  clear Xx0_7
  have Xx1_8 := Lib.hid (Xx1_7.out.below (b8.mono (by omega)))
  clear Xx1_7
  clear B7
  have Xx2_8 := Lib.hid o8
  clear o8
  clear b8
  go_wp2_with fail
  refine (TI3.out _ B8.out).mono ?_
  rintro e w9 ⟨u9, rfl, o9, b9⟩
  have s9 := b9.size
  have B9 := Lib.hid (below_next B8.out b9)
  have Xx0_9 := Lib.hid (Xx0_8.out.below (b9.mono (by omega)))
  clear Xx0_8
  have Xx1_9 := Lib.hid (Xx1_8.out.below (b9.mono (by omega)))
  clear Xx1_8
  have Xx2_9 := Lib.hid (Xx2_8.out.below (b9.mono (by omega)))
  clear Xx2_8
  clear B8
  have Xx3_9 := Lib.hid o9
  clear o9
  clear b9
  go_wp2_with fail
  refine (ZI.out _ _ _ _ _ (Xx0_9.out.intsV.more (by omega)) (Xx1_9.out.intsV.more (by omega)) (Xx2_9.out.tabV.more (by omega)) (Xx3_9.out.tabV.more (by omega))).mono ?_
  rintro e w10 ⟨rfl, b10⟩
  have s10 := b10.size
  have B10 := Lib.hid (below_next B9.out b10)
  have Xx0_10 := Lib.hid (Xx0_9.out.below (b10.mono (by omega)))
  clear Xx0_9
  have Xx1_10 := Lib.hid (Xx1_9.out.below (b10.mono (by omega)))
  clear Xx1_9
  have Xx2_10 := Lib.hid (Xx2_9.out.below (b10.mono (by omega)))
  clear Xx2_9
  have Xx3_10 := Lib.hid (Xx3_9.out.below (b10.mono (by omega)))
  clear Xx3_9
  clear B9
  clear b10
  go_wp2_with fail
  refine (TI0.out hn0 _ B10.out).mono ?_
  rintro e w11 ⟨u11, rfl, o11, b11⟩
  have s11 := b11.size
  have B11 := Lib.hid (below_next B10.out b11)
  have Xx0_11 := Lib.hid (Xx0_10.out.below (b11.mono (by omega)))
  clear Xx0_10
  have Xx1_11 := Lib.hid (Xx1_10.out.below (b11.mono (by omega)))
  clear Xx1_10
  have Xx2_11 := Lib.hid (Xx2_10.out.below (b11.mono (by omega)))
  clear Xx2_10
  have Xx3_11 := Lib.hid (Xx3_10.out.below (b11.mono (by omega)))
  clear Xx3_10
  clear B10
  have Y_11 := Lib.hid o11
  clear o11
  clear b11
  go_wp2_with fail
  refine (eqIB zs0 _ _ _ _ w11 Xx0_11.out.intsV Y_11.out.intsV).mono ?_
  rintro e w12 ⟨rfl, b12⟩
  have s12 := b12.size
  have B12 := Lib.hid (below_next B11.out b12)
  have Xx0_12 := Lib.hid (Xx0_11.out.below (b12.mono (by omega)))
  clear Xx0_11
  have Xx1_12 := Lib.hid (Xx1_11.out.below (b12.mono (by omega)))
  clear Xx1_11
  have Xx2_12 := Lib.hid (Xx2_11.out.below (b12.mono (by omega)))
  clear Xx2_11
  have Xx3_12 := Lib.hid (Xx3_11.out.below (b12.mono (by omega)))
  clear Xx3_11
  have Y_12 := Lib.hid (Y_11.out.below (b12.mono (by omega)))
  clear Y_11
  clear B11
  clear b12
  clear Y_12
  go_wp2_with fail
  refine (TI1.out hn1 _ B12.out).mono ?_
  rintro e w13 ⟨u13, rfl, o13, b13⟩
  have s13 := b13.size
  have B13 := Lib.hid (below_next B12.out b13)
  have Xx0_13 := Lib.hid (Xx0_12.out.below (b13.mono (by omega)))
  clear Xx0_12
  have Xx1_13 := Lib.hid (Xx1_12.out.below (b13.mono (by omega)))
  clear Xx1_12
  have Xx2_13 := Lib.hid (Xx2_12.out.below (b13.mono (by omega)))
  clear Xx2_12
  have Xx3_13 := Lib.hid (Xx3_12.out.below (b13.mono (by omega)))
  clear Xx3_12
  clear B12
  have Y_13 := Lib.hid o13
  clear o13
  clear b13
  go_wp2_with fail
  refine (eqIB zs1 _ _ _ _ w13 Xx1_13.out.intsV Y_13.out.intsV).mono ?_
  rintro e w14 ⟨rfl, b14⟩
  have s14 := b14.size
  have B14 := Lib.hid (below_next B13.out b14)
  have Xx0_14 := Lib.hid (Xx0_13.out.below (b14.mono (by omega)))
  clear Xx0_13
  have Xx1_14 := Lib.hid (Xx1_13.out.below (b14.mono (by omega)))
  clear Xx1_13
  have Xx2_14 := Lib.hid (Xx2_13.out.below (b14.mono (by omega)))
  clear Xx2_13
  have Xx3_14 := Lib.hid (Xx3_13.out.below (b14.mono (by omega)))
  clear Xx3_13
  have Y_14 := Lib.hid (Y_13.out.below (b14.mono (by omega)))
  clear Y_13
  clear B13
  clear b14
  clear Y_14
  go_wp2_with fail
  refine (TI2.out _ B14.out).mono ?_
  rintro e w15 ⟨u15, rfl, o15, b15⟩
  have s15 := b15.size
  have B15 := Lib.hid (below_next B14.out b15)
  have Xx0_15 := Lib.hid (Xx0_14.out.below (b15.mono (by omega)))
  clear Xx0_14
  have Xx1_15 := Lib.hid (Xx1_14.out.below (b15.mono (by omega)))
  clear Xx1_14
  have Xx2_15 := Lib.hid (Xx2_14.out.below (b15.mono (by omega)))
  clear Xx2_14
  have Xx3_15 := Lib.hid (Xx3_14.out.below (b15.mono (by omega)))
  clear Xx3_14
  clear B14
  have Y_15 := Lib.hid o15
  clear o15
  clear b15
  go_wp2_with fail
  refine (eqTT R2 f2 _ _ _ _ w15 Xx2_15.out.tabV Y_15.out.tabV).mono ?_
  rintro e w16 ⟨rfl, b16⟩
  have s16 := b16.size
  have B16 := Lib.hid (below_next B15.out b16)
  have Xx0_16 := Lib.hid (Xx0_15.out.below (b16.mono (by omega)))
  clear Xx0_15
  have Xx1_16 := Lib.hid (Xx1_15.out.below (b16.mono (by omega)))
  clear Xx1_15
  have Xx2_16 := Lib.hid (Xx2_15.out.below (b16.mono (by omega)))
  clear Xx2_15
  have Xx3_16 := Lib.hid (Xx3_15.out.below (b16.mono (by omega)))
  clear Xx3_15
  have Y_16 := Lib.hid (Y_15.out.below (b16.mono (by omega)))
  clear Y_15
  clear B15
  clear b16
  clear Y_16
  go_wp2_with fail
  refine (TI3.out _ B16.out).mono ?_
  rintro e w17 ⟨u17, rfl, o17, b17⟩
  have s17 := b17.size
  have B17 := Lib.hid (below_next B16.out b17)
  have Xx0_17 := Lib.hid (Xx0_16.out.below (b17.mono (by omega)))
  clear Xx0_16
  have Xx1_17 := Lib.hid (Xx1_16.out.below (b17.mono (by omega)))
  clear Xx1_16
  have Xx2_17 := Lib.hid (Xx2_16.out.below (b17.mono (by omega)))
  clear Xx2_16
  have Xx3_17 := Lib.hid (Xx3_16.out.below (b17.mono (by omega)))
  clear Xx3_16
  clear B16
  have Y_17 := Lib.hid o17
  clear o17
  clear b17
  go_wp2_with fail
  refine (eqTT R3 f3 _ _ _ _ w17 Xx3_17.out.tabV Y_17.out.tabV).mono ?_
  rintro e w18 ⟨rfl, b18⟩
  have s18 := b18.size
  have B18 := Lib.hid (below_next B17.out b18)
  have Xx0_18 := Lib.hid (Xx0_17.out.below (b18.mono (by omega)))
  clear Xx0_17
  have Xx1_18 := Lib.hid (Xx1_17.out.below (b18.mono (by omega)))
  clear Xx1_17
  have Xx2_18 := Lib.hid (Xx2_17.out.below (b18.mono (by omega)))
  clear Xx2_17
  have Xx3_18 := Lib.hid (Xx3_17.out.below (b18.mono (by omega)))
  clear Xx3_17
  have Y_18 := Lib.hid (Y_17.out.below (b18.mono (by omega)))
  clear Y_17
  clear B17
  clear b18
  clear Y_18
  go_wp2_with fail
  go_ret
  exact ⟨rfl, B18.out⟩
set_option maxRecDepth 100000 in
/-- What the walk gives, for every argument and every world: the same for both forms. -/
theorem contract (H : Type) (enc : TypeId × Value → H) (W : World) (base : Nat) (args : Array Value) (ds gs : List (DataW H)) (before : List MemPlace)
    (hval : ∀ (j : Nat) t v, Try.f7.params[j]? = some t → args[j]? = some v → Value.okWide Try.prog W .any base t v)
    (hW : DataW.Whole enc Try.prog Try.f7.params.toList Rows.fnExactPlanCostSpec.vars false W args.toList ds gs before)
    (hsz : (DataW.weightsEach Try.prog (Try.f7.params.toList ++ (OpenSpec.ofChange Rows.fnExactPlanCostSpec).bare.plain.varTypes Try.prog) (ds ++ gs)).all (· ≤ reachBytes) = true)
    (hL : laidMetH Try.prog Rows.fnExactPlanCostRow.laid W) (hsh : W.ShapedOpen Try.prog) :
    Calls Try.prog 7 args W fun e W' => ∃ v, e = .returned v ∧ Rows.fnExactPlanCostSpec.post enc Try.prog Try.f7 false true false false W args v W' := by
  have hW' := hW
  obtain ⟨p, q, hA0, hV, rfl, hfz, hnd⟩ := hW
  have hA : DataW.TrodAll enc Try.prog W 0 (fun _ => true) true Try.f7.params.toList args.toList ds p := hA0
  rw [Try.params7] at hA hval hsz
  obtain ⟨v0, vs0, d0, ds0, p0, q0, hargs, rfl, rfl, h0, r0⟩ := trodAll_cons hA
  obtain ⟨v1, vs1, d1, ds1, p1, q1, rfl, rfl, rfl, h1, r1⟩ := trodAll_cons r0
  obtain ⟨v2, vs2, d2, ds2, p2, q2, rfl, rfl, rfl, h2, r2⟩ := trodAll_cons r1
  obtain ⟨v3, vs3, d3, ds3, p3, q3, rfl, rfl, rfl, h3, r3⟩ := trodAll_cons r2
  obtain ⟨rfl, rfl, rfl⟩ := trodAll_nil r3
  obtain rfl : args = #[v0, v1, v2, v3] := by cases args; simp_all
  obtain ⟨rfl, rfl⟩ := trodVars_none hV
  obtain ⟨zs0, t0⟩ := intsV_arg (hval 0 22 v0 rfl rfl) h0
  obtain ⟨zs1, t1⟩ := intsV_arg (hval 1 22 v1 rfl rfl) h1
  obtain ⟨R2, f2, t2⟩ := tabV_arg (hval 2 23 v2 rfl rfl) h2
  obtain ⟨R3, f3, t3⟩ := tabV_arg (hval 3 23 v3 rfl rfl) h3
  refine (walk W zs0 v0 t0 zs1 v1 t1 R2 f2 v2 t2 R3 f3 v3 t3).mono fun e W' ⟨he, hb⟩ => ?_
  subst he
  exact ⟨_, rfl, law_post laidOut rfl (by kernel_rfl) (by kernel_rfl) Try.underlying4 rfl rfl rfl hW' hb⟩
noncomputable def laidWorld (os : Os) : World := World.holding Try.prog os ⟨#[], #[], []⟩
theorem laid_met (os : Os) : laidMet Try.prog Rows.fnExactPlanCostRow.laid ((laidWorld os).forCall (fun _ _ => 0) ⟨#[], #[.slice none 0 0, .slice none 0 0, .slice none 0 0, .slice none 0 0], []⟩).memory :=
  laidMet_of_run' 8 (by kernel_rfl) (by kernel_rfl)
theorem reads (os : Os) {H : Type} (enc : TypeId × Value → H) : ∃ places, DataW.whole enc Try.prog ((laidWorld os).forCall (fun _ _ => 0) ⟨#[], #[.slice none 0 0, .slice none 0 0, .slice none 0 0, .slice none 0 0], []⟩).memory Try.f7.params.toList Rows.fnExactPlanCostSpec.vars false (#[.slice none 0 0, .slice none 0 0, .slice none 0 0, .slice none 0 0] : Array Value).toList 8 = some ([.nil, .nil, .nil, .nil], [], places) :=
  ⟨[], by kernel_rfl⟩
set_option maxRecDepth 100000 in
theorem lifted (os : Os) (started : os.Started) (H : Type) (enc : TypeId × Value → H) (F : Stop.Interp) :
    ReturnsInHanded {} Try.checked os 7 .any ((OpenSpec.ofChange Rows.fnExactPlanCostSpec).preRow enc Try.prog Try.f7 Rows.fnExactPlanCostRow.domain false Rows.fnExactPlanCostRow.laid) (((OpenSpec.ofChange Rows.fnExactPlanCostSpec).at F).post enc Try.prog Try.f7 false true false false) := by
  obtain ⟨places, hx⟩ := reads os enc
  refine returnsInHanded_of_row (C := Try.checked) (s := OpenSpec.ofChange Rows.fnExactPlanCostSpec) own started (by kernel_rfl) Try.func7
    (witness_row_at (enc := enc) (C := Try.checked) false (laidWorld os) #[.slice none 0 0, .slice none 0 0, .slice none 0 0, .slice none 0 0] rfl (by kernel_rfl) (by kernel_rfl) (by kernel_rfl)
      (OpenSpec.preRow_of_cond 8 hx (by kernel_rfl) (fun k hk => by cases hk) (by kernel_rfl) (laid_met os))) ?_
  intro W base args ds gs before hval hW _ _ hsz hL hsh _
  exact contract H enc W base args ds gs before hval hW hsz hL hsh
theorem said : Rows.FnExactPlanCostSaid :=
  OpenClaim.holds_of_cond 7 Try.f7 rfl rfl rfl rfl rfl rfl rfl ⟨rfl, rfl, rfl, rfl, rfl⟩ rfl rfl rfl rfl rfl (by kernel_rfl) Try.func7 (by kernel_rfl)
    (of_decide_eq_true (by kernel_rfl)) (by unfold Func.isWrapper; first | (rw [if_pos (by decide +kernel)]; kernel_rfl) | (rw [if_neg (by decide +kernel)]; exact ⟨rfl, rfl⟩))
    (fun os started H enc _ F => by rw [OpenClaim.pre_eq_preRow]; exact lifted os started H enc F)
/-- The statement. -/
theorem proved : Rows.FnExactPlanCostSaid := said
#print axioms proved
end Go.Proofs.Ytligidmkhbcpmab.fnExactPlanCost
