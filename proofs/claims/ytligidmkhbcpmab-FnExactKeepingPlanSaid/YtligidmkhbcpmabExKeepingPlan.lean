/- KeepingPlan answers as its model for all arguments, and nothing that was there is turned. No conditions. -/
import Derived.Test.YtligidmkhbcpmabRows
import Derived.Test.YtligidmkhbcpmabFrame
import Derived.Test.YtligidmkhbcpmabLawI
import Derived.Test.YtligidmkhbcpmabOpen
import Derived.Test.YtligidmkhbcpmabTabH
import Derived.Test.YtligidmkhbcpmabShjI
import Derived.Test.YtligidmkhbcpmabKepM
import Derived.WalkKit
import Derived.ProofKit
import Derived.OpenShut
import Derived.ShutString
import Derived.SliceStrings
import Derived.Deep.DeepHandedRow
import Derived.Lib.LaidTab
import Derived.Lib.Hide
import Derived.WalkSpells
import Derived.Deep.RegionHeld3
import Derived.Deep.DeepCutAuto
import Derived.KernelRfl
namespace Go.Proofs.Ytligidmkhbcpmab.fnExactKeepingPlan
open Go.ChangeShapes Go.WideShapes Go.ChangeAt Go.RowKit
open Go.ChangeMaps (open_string shut_string)
set_option linter.unusedVariables false
theorem own : ownKnob Try.prog.godebug = none := by kernel_rfl
theorem laidOut : laidOutB Try.prog = true := by kernel_rfl
set_option maxRecDepth 100000 in
set_option maxHeartbeats 4000000 in
theorem walk (W : World) (zs0 : List Int) (v0 : Value) (t0 : IntsV W W.heap.size v0 zs0) (zs1 : List Int) (v1 : Value) (t1 : IntsV W W.heap.size v1 zs1) : Calls Try.prog 9 #[v0, v1] W fun e W' => e = .returned (.bool true) ∧ Below W.heap.size W W' := by
  have TI0 := Lib.hid (fun (hn : zs0.length ≤ 1048576) w' (hb : Below W.heap.size W w') => toI zs0 v0 w' hn ((t0.below hb).more hb.size))
  obtain ⟨q0, d0, rfl, _⟩ := t0
  have TI1 := Lib.hid (fun (hn : zs1.length ≤ 1048576) w' (hb : Below W.heap.size W w') => toI zs1 v1 w' hn ((t1.below hb).more hb.size))
  obtain ⟨q1, d1, rfl, _⟩ := t1
  by_cases hn0 : ¬ zs0.length ≤ 1048576
  · have hgt : ((zs0.length : Int) > 1048576) := by omega
    clear hn0
    go_enter Try.func9, Try.ntmps9
    go_wp2_with fail
    go_ret
    exact ⟨rfl, Below.refl _ _⟩
  have hn0 := Decidable.not_not.1 hn0
  by_cases hn1 : ¬ zs1.length ≤ 1048576
  · have hgt : ((zs1.length : Int) > 1048576) := by omega
    clear hn1
    go_enter Try.func9, Try.ntmps9
    go_wp2_with fail
    go_ret
    exact ⟨rfl, Below.refl _ _⟩
  have hn1 := Decidable.not_not.1 hn1
  have ZS := Lib.hid (fun w' (u0 : Value) (u1 : Value) (h0 : IntsV w' w'.heap.size u0 zs0) (h1 : IntsV w' w'.heap.size u1 zs1) => (kepS zs0 zs1 u0 u1 w' hn0 hn1 h0 h1))
  have ZI := Lib.hid (fun w' (u0 : Value) (u1 : Value) (h0 : IntsV w' w'.heap.size u0 zs0) (h1 : IntsV w' w'.heap.size u1 zs1) => (kepI zs0 zs1 u0 u1 w' hn0 hn1 h0 h1))
  have hRR := Nat.le_trans (rwN_le (ps := zs0) (qs := zs1)) (show 8 ≤ 1048576 by omega)
  have hF8 := rw_rows (ps := zs0) (qs := zs1) (f := keT zs0 zs1) (fun i hi ha => by rw [keT_len (aliB_iff.1 ha) i hi]; exact (aliB_iff.1 ha).p.n8)
  have hFF := Lib.hid (show ∀ i, i < rwN zs0 zs1 → (keT zs0 zs1 i).length ≤ 1048576 from fun i hi => Nat.le_trans (hF8 i hi) (by omega))
  have hLL := Lib.hid (show lenG (keT zs0 zs1) (rwN zs0 zs1) ≤ 1048576 from by have := lenG_8 (keT zs0 zs1) (rwN zs0 zs1) rwN_le hF8; have := rwN_le (ps := zs0) (qs := zs1); omega)
  clear hF8
  obtain ⟨RR, hRe⟩ : ∃ r, r = rwN zs0 zs1 := ⟨_, rfl⟩
  obtain ⟨ff, hfe⟩ : ∃ r, r = keT zs0 zs1 := ⟨_, rfl⟩
  obtain ⟨ok, hok⟩ : ∃ b, b = aliB zs0 zs1 := ⟨_, rfl⟩
  rw [← hRe] at hRR hFF hLL
  rw [← hfe] at hFF hLL
  rw [← hRe, ← hfe, ← hok] at ZS ZI
  clear hRe hfe hok
  go_enter Try.func9, Try.ntmps9
  go_wp2_with fail
  refine (TI0.out hn0 _ (Below.refl _ _)).mono ?_
  rintro e w1 ⟨u1, rfl, o1, b1⟩
  have s1 := b1.size
  have B1 := Lib.hid b1
  have Xm0_1 := Lib.hid o1
  clear o1
  clear b1
  go_wp2_with fail
  refine (TI1.out hn1 _ B1.out).mono ?_
  rintro e w2 ⟨u2, rfl, o2, b2⟩
  have s2 := b2.size
  have B2 := Lib.hid (below_next B1.out b2)
  have Xm0_2 := Lib.hid (Xm0_1.out.below (b2.mono (by omega)))
  clear Xm0_1
  clear B1
  have Xm1_2 := Lib.hid o2
  clear o2
  clear b2
  go_wp2_with fail
  refine (ZS.out _ _ _ (Xm0_2.out.intsV.more (by omega)) (Xm1_2.out.intsV.more (by omega))).mono ?_
  rintro e w3 ⟨r0, rfl, o3, b3⟩
  have s3 := b3.size
  have B3 := Lib.hid (below_next B2.out b3)
  have Xm0_3 := Lib.hid (Xm0_2.out.below (b3.mono (by omega)))
  clear Xm0_2
  have Xm1_3 := Lib.hid (Xm1_2.out.below (b3.mono (by omega)))
  clear Xm1_2
  clear B2
  have R0_3 := Lib.hid o3
  clear o3
  clear b3
  clear Xm0_3
  clear Xm1_3
  go_wp2_with fail
  refine (TI0.out hn0 _ B3.out).mono ?_
  rintro e w4 ⟨u4, rfl, o4, b4⟩
  have s4 := b4.size
  have B4 := Lib.hid (below_next B3.out b4)
  have R0_4 := Lib.hid (R0_3.out.below (b4.mono (by omega)))
  clear R0_3
  clear B3
  have Xx0_4 := Lib.hid o4
  clear o4
  clear b4
  go_wp2_with fail
  refine (TI1.out hn1 _ B4.out).mono ?_
  rintro e w5 ⟨u5, rfl, o5, b5⟩
  have s5 := b5.size
  have B5 := Lib.hid (below_next B4.out b5)
  have R0_5 := Lib.hid (R0_4.out.below (b5.mono (by omega)))
  clear R0_4
  have Xx0_5 := Lib.hid (Xx0_4.out.below (b5.mono (by omega)))
  clear Xx0_4
  clear B4
  have Xx1_5 := Lib.hid o5
  clear o5
  clear b5
  go_wp2_with fail
  refine (ZI.out _ _ _ (Xx0_5.out.intsV.more (by omega)) (Xx1_5.out.intsV.more (by omega))).mono ?_
  rintro e w6 ⟨g0, rfl, o6, b6⟩
  have s6 := b6.size
  have B6 := Lib.hid (below_next B5.out b6)
  have R0_6 := Lib.hid (R0_5.out.below (b6.mono (by omega)))
  clear R0_5
  have Xx0_6 := Lib.hid (Xx0_5.out.below (b6.mono (by omega)))
  clear Xx0_5
  have Xx1_6 := Lib.hid (Xx1_5.out.below (b6.mono (by omega)))
  clear Xx1_5
  clear B5
  have G0_6 := Lib.hid o6
  clear o6
  clear b6
  go_wp2_with fail
  refine (eqTT RR ff g0 r0 _ _ w6 G0_6.out.tabV R0_6.out.tabV).mono ?_
  rintro e w7 ⟨rfl, b7⟩
  have s7 := b7.size
  have B7 := Lib.hid (below_next B6.out b7)
  have R0_7 := Lib.hid (R0_6.out.below (b7.mono (by omega)))
  clear R0_6
  have Xx0_7 := Lib.hid (Xx0_6.out.below (b7.mono (by omega)))
  clear Xx0_6
  have Xx1_7 := Lib.hid (Xx1_6.out.below (b7.mono (by omega)))
  clear Xx1_6
  have G0_7 := Lib.hid (G0_6.out.below (b7.mono (by omega)))
  clear G0_6
  clear B6
  clear b7
  go_wp2_with fail
  refine (TI0.out hn0 _ B7.out).mono ?_
  rintro e w8 ⟨u8, rfl, o8, b8⟩
  have s8 := b8.size
  have B8 := Lib.hid (below_next B7.out b8)
  have R0_8 := Lib.hid (R0_7.out.below (b8.mono (by omega)))
  clear R0_7
  have Xx0_8 := Lib.hid (Xx0_7.out.below (b8.mono (by omega)))
  clear Xx0_7
  have Xx1_8 := Lib.hid (Xx1_7.out.below (b8.mono (by omega)))
  clear Xx1_7
  have G0_8 := Lib.hid (G0_7.out.below (b8.mono (by omega)))
  clear G0_7
  clear B7
  have Y_8 := Lib.hid o8
  clear o8
  clear b8
  go_wp2_with fail
  refine (eqIB zs0 _ _ _ _ w8 Xx0_8.out.intsV Y_8.out.intsV).mono ?_
  rintro e w9 ⟨rfl, b9⟩
  have s9 := b9.size
  have B9 := Lib.hid (below_next B8.out b9)
  have R0_9 := Lib.hid (R0_8.out.below (b9.mono (by omega)))
  clear R0_8
  have Xx0_9 := Lib.hid (Xx0_8.out.below (b9.mono (by omega)))
  clear Xx0_8
  have Xx1_9 := Lib.hid (Xx1_8.out.below (b9.mono (by omega)))
  clear Xx1_8
  have G0_9 := Lib.hid (G0_8.out.below (b9.mono (by omega)))
  clear G0_8
  have Y_9 := Lib.hid (Y_8.out.below (b9.mono (by omega)))
  clear Y_8
  clear B8
  clear b9
  clear Y_9
  go_wp2_with fail
  refine (TI1.out hn1 _ B9.out).mono ?_
  rintro e w10 ⟨u10, rfl, o10, b10⟩
  have s10 := b10.size
  have B10 := Lib.hid (below_next B9.out b10)
  have R0_10 := Lib.hid (R0_9.out.below (b10.mono (by omega)))
  clear R0_9
  have Xx0_10 := Lib.hid (Xx0_9.out.below (b10.mono (by omega)))
  clear Xx0_9
  have Xx1_10 := Lib.hid (Xx1_9.out.below (b10.mono (by omega)))
  clear Xx1_9
  have G0_10 := Lib.hid (G0_9.out.below (b10.mono (by omega)))
  clear G0_9
  clear B9
  have Y_10 := Lib.hid o10
  clear o10
  clear b10
  go_wp2_with fail
  refine (eqIB zs1 _ _ _ _ w10 Xx1_10.out.intsV Y_10.out.intsV).mono ?_
  rintro e w11 ⟨rfl, b11⟩
  have s11 := b11.size
  have B11 := Lib.hid (below_next B10.out b11)
  have R0_11 := Lib.hid (R0_10.out.below (b11.mono (by omega)))
  clear R0_10
  have Xx0_11 := Lib.hid (Xx0_10.out.below (b11.mono (by omega)))
  clear Xx0_10
  have Xx1_11 := Lib.hid (Xx1_10.out.below (b11.mono (by omega)))
  clear Xx1_10
  have G0_11 := Lib.hid (G0_10.out.below (b11.mono (by omega)))
  clear G0_10
  have Y_11 := Lib.hid (Y_10.out.below (b11.mono (by omega)))
  clear Y_10
  clear B10
  clear b11
  clear Y_11
  go_wp2_with fail
  refine (markI zs0 _ _ _ (1) w11 hn0 (by omega) Xx0_11.out).mono ?_
  rintro e w12 ⟨rfl, _, b12⟩
  have s12 := b12.size
  have B12 := Lib.hid (below_alt B11.out b12 (by omega) (by omega))
  have R0_12 := Lib.hid (R0_11.out.alt b12 (by omega))
  clear R0_11
  have Xx1_12 := Lib.hid (Xx1_11.out.alt b12 (by omega))
  clear Xx1_11
  have G0_12 := Lib.hid (G0_11.out.alt b12 (by omega))
  clear G0_11
  clear B11
  clear b12
  clear Xx0_11
  go_wp2_with fail
  refine (markI zs1 _ _ _ (1 + zs0.length) w12 hn1 (by omega) Xx1_12.out).mono ?_
  rintro e w13 ⟨rfl, _, b13⟩
  have s13 := b13.size
  have B13 := Lib.hid (below_alt B12.out b13 (by omega) (by omega))
  have R0_13 := Lib.hid (R0_12.out.alt b13 (by omega))
  clear R0_12
  have G0_13 := Lib.hid (G0_12.out.alt b13 (by omega))
  clear G0_12
  clear B12
  clear b13
  clear Xx1_12
  have n1 : ¬ ((1 + zs0.length + zs1.length : Nat) : Int) < 0 := by omega
  have n2 : ¬ ((1 + lenG ff RR : Nat) : Int) < 0 := by omega
  go_wp2_with fail
  refine (eqTT RR ff g0 r0 _ _ w13 G0_13.out.tabV R0_13.out.tabV).mono ?_
  rintro e w14 ⟨rfl, b14⟩
  have s14 := b14.size
  have B14 := Lib.hid (below_next B13.out b14)
  have R0_14 := Lib.hid (R0_13.out.below (b14.mono (by omega)))
  clear R0_13
  have G0_14 := Lib.hid (G0_13.out.below (b14.mono (by omega)))
  clear G0_13
  clear B13
  clear b14
  go_wp2_with fail
  refine (markST RR ff g0 _ _ 1 w14 hRR hFF.out hLL.out (by omega) G0_14.out).mono ?_
  rintro e w15 ⟨rfl, o15, b15⟩
  have s15 := b15.size
  have B15 := Lib.hid (below_alt B14.out b15 (by omega) (by omega))
  have R0_15 := Lib.hid (R0_14.out.alt b15 (by omega))
  clear R0_14
  clear B14
  have G0_15 := Lib.hid o15
  clear o15
  clear b15
  clear G0_14
  go_wp2_with fail
  refine (heldST RR ff g0 _ 1 w15 hRR hFF.out hLL.out (by omega) G0_15.out.tabV).mono ?_
  rintro e w16 ⟨rfl, b16⟩
  have s16 := b16.size
  have B16 := Lib.hid (below_next B15.out b16)
  have R0_16 := Lib.hid (R0_15.out.below (b16.mono (by omega)))
  clear R0_15
  have G0_16 := Lib.hid (G0_15.out.below (b16.mono (by omega)))
  clear G0_15
  clear B15
  clear b16
  go_wp2_with fail
  refine (TI0.out hn0 _ B16.out).mono ?_
  rintro e w17 ⟨u17, rfl, o17, b17⟩
  have s17 := b17.size
  have B17 := Lib.hid (below_next B16.out b17)
  have R0_17 := Lib.hid (R0_16.out.below (b17.mono (by omega)))
  clear R0_16
  have G0_17 := Lib.hid (G0_16.out.below (b17.mono (by omega)))
  clear G0_16
  clear B16
  have Xz0_17 := Lib.hid o17
  clear o17
  clear b17
  go_wp2_with fail
  refine (TI1.out hn1 _ B17.out).mono ?_
  rintro e w18 ⟨u18, rfl, o18, b18⟩
  have s18 := b18.size
  have B18 := Lib.hid (below_next B17.out b18)
  have R0_18 := Lib.hid (R0_17.out.below (b18.mono (by omega)))
  clear R0_17
  have G0_18 := Lib.hid (G0_17.out.below (b18.mono (by omega)))
  clear G0_17
  have Xz0_18 := Lib.hid (Xz0_17.out.below (b18.mono (by omega)))
  clear Xz0_17
  clear B17
  have Xz1_18 := Lib.hid o18
  clear o18
  clear b18
  go_wp2_with fail
  refine (ZI.out _ _ _ (Xz0_18.out.intsV.more (by omega)) (Xz1_18.out.intsV.more (by omega))).mono ?_
  rintro e w19 ⟨h0, rfl, o19, b19⟩
  have s19 := b19.size
  have B19 := Lib.hid (below_next B18.out b19)
  have R0_19 := Lib.hid (R0_18.out.below (b19.mono (by omega)))
  clear R0_18
  have G0_19 := Lib.hid (G0_18.out.below (b19.mono (by omega)))
  clear G0_18
  have Xz0_19 := Lib.hid (Xz0_18.out.below (b19.mono (by omega)))
  clear Xz0_18
  have Xz1_19 := Lib.hid (Xz1_18.out.below (b19.mono (by omega)))
  clear Xz1_18
  clear B18
  have H0_19 := Lib.hid o19
  clear o19
  clear b19
  clear Xz0_19
  clear Xz1_19
  go_wp2_with fail
  refine (eqTT RR ff h0 r0 _ _ w19 H0_19.out.tabV R0_19.out.tabV).mono ?_
  rintro e w20 ⟨rfl, b20⟩
  have s20 := b20.size
  have B20 := Lib.hid (below_next B19.out b20)
  have R0_20 := Lib.hid (R0_19.out.below (b20.mono (by omega)))
  clear R0_19
  have G0_20 := Lib.hid (G0_19.out.below (b20.mono (by omega)))
  clear G0_19
  have H0_20 := Lib.hid (H0_19.out.below (b20.mono (by omega)))
  clear H0_19
  clear B19
  clear b20
  go_wp2_with fail
  refine (heldST RR ff g0 _ 1 w20 hRR hFF.out hLL.out (by omega) G0_20.out.tabV).mono ?_
  rintro e w21 ⟨rfl, b21⟩
  have s21 := b21.size
  have B21 := Lib.hid (below_next B20.out b21)
  have R0_21 := Lib.hid (R0_20.out.below (b21.mono (by omega)))
  clear R0_20
  have G0_21 := Lib.hid (G0_20.out.below (b21.mono (by omega)))
  clear G0_20
  have H0_21 := Lib.hid (H0_20.out.below (b21.mono (by omega)))
  clear H0_20
  clear B20
  clear b21
  go_wp2_with fail
  go_ret
  exact ⟨rfl, B21.out⟩
set_option maxRecDepth 100000 in
/-- What the walk gives, for every argument and every world: the same for both forms. -/
theorem contract (H : Type) (enc : TypeId × Value → H) (W : World) (base : Nat) (args : Array Value) (ds gs : List (DataW H)) (before : List MemPlace)
    (hval : ∀ (j : Nat) t v, Try.f9.params[j]? = some t → args[j]? = some v → Value.okWide Try.prog W .any base t v)
    (hW : DataW.Whole enc Try.prog Try.f9.params.toList Rows.fnExactKeepingPlanSpec.vars false W args.toList ds gs before)
    (hsz : (DataW.weightsEach Try.prog (Try.f9.params.toList ++ (OpenSpec.ofChange Rows.fnExactKeepingPlanSpec).bare.plain.varTypes Try.prog) (ds ++ gs)).all (· ≤ reachBytes) = true)
    (hL : laidMetH Try.prog Rows.fnExactKeepingPlanRow.laid W) (hsh : W.ShapedOpen Try.prog) :
    Calls Try.prog 9 args W fun e W' => ∃ v, e = .returned v ∧ Rows.fnExactKeepingPlanSpec.post enc Try.prog Try.f9 false true false false W args v W' := by
  have hW' := hW
  obtain ⟨p, q, hA0, hV, rfl, hfz, hnd⟩ := hW
  have hA : DataW.TrodAll enc Try.prog W 0 (fun _ => true) true Try.f9.params.toList args.toList ds p := hA0
  rw [Try.params9] at hA hval hsz
  obtain ⟨v0, vs0, d0, ds0, p0, q0, hargs, rfl, rfl, h0, r0⟩ := trodAll_cons hA
  obtain ⟨v1, vs1, d1, ds1, p1, q1, rfl, rfl, rfl, h1, r1⟩ := trodAll_cons r0
  obtain ⟨rfl, rfl, rfl⟩ := trodAll_nil r1
  obtain rfl : args = #[v0, v1] := by cases args; simp_all
  obtain ⟨rfl, rfl⟩ := trodVars_none hV
  obtain ⟨zs0, t0⟩ := intsV_arg (hval 0 22 v0 rfl rfl) h0
  obtain ⟨zs1, t1⟩ := intsV_arg (hval 1 22 v1 rfl rfl) h1
  refine (walk W zs0 v0 t0 zs1 v1 t1).mono fun e W' ⟨he, hb⟩ => ?_
  subst he
  exact ⟨_, rfl, law_post laidOut rfl (by kernel_rfl) (by kernel_rfl) Try.underlying4 rfl rfl rfl hW' hb⟩
noncomputable def laidWorld (os : Os) : World := World.holding Try.prog os ⟨#[], #[], []⟩
theorem laid_met (os : Os) : laidMet Try.prog Rows.fnExactKeepingPlanRow.laid ((laidWorld os).forCall (fun _ _ => 0) ⟨#[], #[.slice none 0 0, .slice none 0 0], []⟩).memory :=
  laidMet_of_run' 8 (by kernel_rfl) (by kernel_rfl)
theorem reads (os : Os) {H : Type} (enc : TypeId × Value → H) : ∃ places, DataW.whole enc Try.prog ((laidWorld os).forCall (fun _ _ => 0) ⟨#[], #[.slice none 0 0, .slice none 0 0], []⟩).memory Try.f9.params.toList Rows.fnExactKeepingPlanSpec.vars false (#[.slice none 0 0, .slice none 0 0] : Array Value).toList 8 = some ([.nil, .nil], [], places) :=
  ⟨[], by kernel_rfl⟩
set_option maxRecDepth 100000 in
theorem lifted (os : Os) (started : os.Started) (H : Type) (enc : TypeId × Value → H) (F : Stop.Interp) :
    ReturnsInHanded {} Try.checked os 9 .any ((OpenSpec.ofChange Rows.fnExactKeepingPlanSpec).preRow enc Try.prog Try.f9 Rows.fnExactKeepingPlanRow.domain false Rows.fnExactKeepingPlanRow.laid) (((OpenSpec.ofChange Rows.fnExactKeepingPlanSpec).at F).post enc Try.prog Try.f9 false true false false) := by
  obtain ⟨places, hx⟩ := reads os enc
  refine returnsInHanded_of_row (C := Try.checked) (s := OpenSpec.ofChange Rows.fnExactKeepingPlanSpec) own started (by kernel_rfl) Try.func9
    (witness_row_at (enc := enc) (C := Try.checked) false (laidWorld os) #[.slice none 0 0, .slice none 0 0] rfl (by kernel_rfl) (by kernel_rfl) (by kernel_rfl)
      (OpenSpec.preRow_of_cond 8 hx (by kernel_rfl) (fun k hk => by cases hk) (by kernel_rfl) (laid_met os))) ?_
  intro W base args ds gs before hval hW _ _ hsz hL hsh _
  exact contract H enc W base args ds gs before hval hW hsz hL hsh
theorem said : Rows.FnExactKeepingPlanSaid :=
  OpenClaim.holds_of_cond 9 Try.f9 rfl rfl rfl rfl rfl rfl rfl ⟨rfl, rfl, rfl, rfl, rfl⟩ rfl rfl rfl rfl rfl (by kernel_rfl) Try.func9 (by kernel_rfl)
    (of_decide_eq_true (by kernel_rfl)) (by unfold Func.isWrapper; first | (rw [if_pos (by decide +kernel)]; kernel_rfl) | (rw [if_neg (by decide +kernel)]; exact ⟨rfl, rfl⟩))
    (fun os started H enc _ F => by rw [OpenClaim.pre_eq_preRow]; exact lifted os started H enc F)
/-- The statement. -/
theorem proved : Rows.FnExactKeepingPlanSaid := said
#print axioms proved
end Go.Proofs.Ytligidmkhbcpmab.fnExactKeepingPlan
