/- IsUpward answers as its model for all arguments, and nothing that was there is turned. No conditions. -/
import Derived.Test.YtligidmkhbcpmabRows
import Derived.Test.YtligidmkhbcpmabFrame
import Derived.Test.YtligidmkhbcpmabLawI
import Derived.Test.YtligidmkhbcpmabOpen
import Derived.Test.YtligidmkhbcpmabTabG
import Derived.Test.YtligidmkhbcpmabPlnI
import Derived.Test.YtligidmkhbcpmabPlnM
import Derived.WalkKit
import Derived.ProofKit
import Derived.OpenShut
import Derived.ShutString
import Derived.SliceStrings
import Derived.Deep.DeepHandedRow
import Derived.Lib.LaidTab
import Derived.Lib.Hide
import Derived.WalkSpells
import Derived.Deep.RegionHeld3
import Derived.Deep.DeepCutAuto
import Derived.KernelRfl
namespace Go.Proofs.Ytligidmkhbcpmab.fnExactIsUpward
open Go.ChangeShapes Go.WideShapes Go.ChangeAt Go.RowKit
open Go.ChangeMaps (open_string shut_string)
set_option linter.unusedVariables false
theorem own : ownKnob Try.prog.godebug = none := by kernel_rfl
theorem laidOut : laidOutB Try.prog = true := by kernel_rfl
set_option maxRecDepth 100000 in
set_option maxHeartbeats 4000000 in
theorem walk (W : World) (zs0 : List Int) (v0 : Value) (t0 : IntsV W W.heap.size v0 zs0) (zs1 : List Int) (v1 : Value) (t1 : IntsV W W.heap.size v1 zs1) (R2 : Nat) (f2 : Nat → List Int) (v2 : Value) (t2 : TabV W W.heap.size v2 R2 f2) : Calls Try.prog 5 #[v0, v1, v2] W fun e W' => e = .returned (.bool true) ∧ Below W.heap.size W W' := by
  have TI0 := Lib.hid (fun (hn : zs0.length ≤ 1048576) w' (hb : Below W.heap.size W w') => toI zs0 v0 w' hn ((t0.below hb).more hb.size))
  obtain ⟨q0, d0, rfl, _⟩ := t0
  have TI1 := Lib.hid (fun (hn : zs1.length ≤ 1048576) w' (hb : Below W.heap.size W w') => toI zs1 v1 w' hn ((t1.below hb).more hb.size))
  obtain ⟨q1, d1, rfl, _⟩ := t1
  by_cases hn0 : ¬ zs0.length ≤ 1048576
  · have hgt : ((zs0.length : Int) > 1048576) := by omega
    clear hn0
    go_enter Try.func5, Try.ntmps5
    go_wp2_with fail
    go_ret
    exact ⟨rfl, Below.refl _ _⟩
  have hn0 := Decidable.not_not.1 hn0
  by_cases hn1 : ¬ zs1.length ≤ 1048576
  · have hgt : ((zs1.length : Int) > 1048576) := by omega
    clear hn1
    go_enter Try.func5, Try.ntmps5
    go_wp2_with fail
    go_ret
    exact ⟨rfl, Below.refl _ _⟩
  have hn1 := Decidable.not_not.1 hn1
  have SZ2 := Lib.hid (fun l (h1 : -1 ≤ l) (h2 : l ≤ 1048576) => szSS R2 f2 v2 W.heap.size l W h1 h2 t2)
  have TV2 := Lib.hid t2
  obtain ⟨q2, d2, rfl, _⟩ := t2
  go_enter Try.func5, Try.ntmps5
  go_wp2_with fail
  refine (SZ2.out _ (by omega) (by omega)).mono ?_
  rintro e w0 ⟨l2, rfl, hl02, hl12, rfl⟩
  by_cases hl2 : l2 < 0
  · clear hl12
    go_wp2_with fail
    go_ret
    exact ⟨rfl, Below.refl _ _⟩
  have hL2 := hl12 (by omega)
  have hM2 : l2 ≤ 1048576 := by omega
  have hR2 : R2 ≤ 1048576 := by omega
  have hTL2 := Lib.hid (show lenG f2 R2 ≤ 1048576 by omega)
  have hFL2 := Lib.hid (show ∀ i, i < R2 → (f2 i).length ≤ 1048576 from fun i hi => by have := lenG_le f2 R2 i hi; omega)
  have TI2 := Lib.hid (fun w' (hb : Below W.heap.size W w') => toSS R2 f2 _ w' hR2 hFL2.out ((TV2.out.below hb).more hb.size))
  clear hL2 hl12
  have ZS := Lib.hid (fun w' (u0 : Value) (u1 : Value) (u2 : Value) (h0 : IntsV w' w'.heap.size u0 zs0) (h1 : IntsV w' w'.heap.size u1 zs1) (h2 : TabV w' w'.heap.size u2 R2 f2) => (upwS zs0 zs1 R2 f2 u0 u1 u2 w' hn0 hn1 hR2 hFL2.out h0 h1 h2))
  have ZI := Lib.hid (fun w' (u0 : Value) (u1 : Value) (u2 : Value) (h0 : IntsV w' w'.heap.size u0 zs0) (h1 : IntsV w' w'.heap.size u1 zs1) (h2 : TabV w' w'.heap.size u2 R2 f2) => (upwI zs0 zs1 R2 f2 u0 u1 u2 w' hn0 hn1 hR2 hFL2.out h0 h1 h2))
  obtain ⟨ra, rb, hK⟩ := upwV_form zs0 zs1 R2 f2
  rw [hK] at ZS ZI
  clear hK
  go_wp2_with fail
  refine (TI0.out hn0 _ (Below.refl _ _)).mono ?_
  rintro e w1 ⟨u1, rfl, o1, b1⟩
  have s1 := b1.size
  have B1 := Lib.hid b1
  have Xm0_1 := Lib.hid o1
  clear o1
  clear b1
  go_wp2_with fail
  refine (TI1.out hn1 _ B1.out).mono ?_
  rintro e w2 ⟨u2, rfl, o2, b2⟩
  have s2 := b2.size
  have B2 := Lib.hid (below_next B1.out b2)
  have Xm0_2 := Lib.hid (Xm0_1.out.below (b2.mono (by omega)))
  clear Xm0_1
  clear B1
  have Xm1_2 := Lib.hid o2
  clear o2
  clear b2
  go_wp2_with fail
  refine (TI2.out _ B2.out).mono ?_
  rintro e w3 ⟨u3, rfl, o3, b3⟩
  have s3 := b3.size
  have B3 := Lib.hid (below_next B2.out b3)
  have Xm0_3 := Lib.hid (Xm0_2.out.below (b3.mono (by omega)))
  clear Xm0_2
  have Xm1_3 := Lib.hid (Xm1_2.out.below (b3.mono (by omega)))
  clear Xm1_2
  clear B2
  have Xm2_3 := Lib.hid o3
  clear o3
  clear b3
  go_wp2_with fail
  refine (ZS.out _ _ _ _ (Xm0_3.out.intsV.more (by omega)) (Xm1_3.out.intsV.more (by omega)) (Xm2_3.out.tabV.more (by omega))).mono ?_
  rintro e w4 ⟨rfl, b4⟩
  have s4 := b4.size
  have B4 := Lib.hid (below_next B3.out b4)
  have Xm0_4 := Lib.hid (Xm0_3.out.below (b4.mono (by omega)))
  clear Xm0_3
  have Xm1_4 := Lib.hid (Xm1_3.out.below (b4.mono (by omega)))
  clear Xm1_3
  have Xm2_4 := Lib.hid (Xm2_3.out.below (b4.mono (by omega)))
  clear Xm2_3
  clear B3
  clear b4
  clear Xm0_4
  clear Xm1_4
  clear Xm2_4
  go_wp2_with fail
  refine (TI0.out hn0 _ B4.out).mono ?_
  rintro e w5 ⟨u5, rfl, o5, b5⟩
  have s5 := b5.size
  have B5 := Lib.hid (below_next B4.out b5)
  clear B4
  have Xx0_5 := Lib.hid o5
  clear o5
  clear b5
  go_wp2_with fail
  refine (TI1.out hn1 _ B5.out).mono ?_
  rintro e w6 ⟨u6, rfl, o6, b6⟩
  have s6 := b6.size
  have B6 := Lib.hid (below_next B5.out b6)
  have Xx0_6 := Lib.hid (Xx0_5.out.below (b6.mono (by omega)))
  clear Xx0_5
  clear B5
  have Xx1_6 := Lib.hid o6
  clear o6
  clear b6
  go_wp2_with fail
  refine (TI2.out _ B6.out).mono ?_
  rintro e w7 ⟨u7, rfl, o7, b7⟩
  have s7 := b7.size
  have B7 := Lib.hid (below_next B6.out b7)
  have Xx0_7 := Lib.hid (Xx0_6.out.below (b7.mono (by omega)))
  clear Xx0_6
  have Xx1_7 := Lib.hid (Xx1_6.out.below (b7.mono (by omega)))
  clear Xx1_6
  clear B6
  have Xx2_7 := Lib.hid o7
  clear o7
  clear b7
  go_wp2_with fail
  refine (ZI.out _ _ _ _ (Xx0_7.out.intsV.more (by omega)) (Xx1_7.out.intsV.more (by omega)) (Xx2_7.out.tabV.more (by omega))).mono ?_
  rintro e w8 ⟨rfl, b8⟩
  have s8 := b8.size
  have B8 := Lib.hid (below_next B7.out b8)
  have Xx0_8 := Lib.hid (Xx0_7.out.below (b8.mono (by omega)))
  clear Xx0_7
  have Xx1_8 := Lib.hid (Xx1_7.out.below (b8.mono (by omega)))
  clear Xx1_7
  have Xx2_8 := Lib.hid (Xx2_7.out.below (b8.mono (by omega)))
  clear Xx2_7
  clear B7
  clear b8
  go_wp2_with fail
  refine (TI0.out hn0 _ B8.out).mono ?_
  rintro e w9 ⟨u9, rfl, o9, b9⟩
  have s9 := b9.size
  have B9 := Lib.hid (below_next B8.out b9)
  have Xx0_9 := Lib.hid (Xx0_8.out.below (b9.mono (by omega)))
  clear Xx0_8
  have Xx1_9 := Lib.hid (Xx1_8.out.below (b9.mono (by omega)))
  clear Xx1_8
  have Xx2_9 := Lib.hid (Xx2_8.out.below (b9.mono (by omega)))
  clear Xx2_8
  clear B8
  have Y_9 := Lib.hid o9
  clear o9
  clear b9
  go_wp2_with fail
  refine (eqIB zs0 _ _ _ _ w9 Xx0_9.out.intsV Y_9.out.intsV).mono ?_
  rintro e w10 ⟨rfl, b10⟩
  have s10 := b10.size
  have B10 := Lib.hid (below_next B9.out b10)
  have Xx0_10 := Lib.hid (Xx0_9.out.below (b10.mono (by omega)))
  clear Xx0_9
  have Xx1_10 := Lib.hid (Xx1_9.out.below (b10.mono (by omega)))
  clear Xx1_9
  have Xx2_10 := Lib.hid (Xx2_9.out.below (b10.mono (by omega)))
  clear Xx2_9
  have Y_10 := Lib.hid (Y_9.out.below (b10.mono (by omega)))
  clear Y_9
  clear B9
  clear b10
  clear Y_10
  go_wp2_with fail
  refine (TI1.out hn1 _ B10.out).mono ?_
  rintro e w11 ⟨u11, rfl, o11, b11⟩
  have s11 := b11.size
  have B11 := Lib.hid (below_next B10.out b11)
  have Xx0_11 := Lib.hid (Xx0_10.out.below (b11.mono (by omega)))
  clear Xx0_10
  have Xx1_11 := Lib.hid (Xx1_10.out.below (b11.mono (by omega)))
  clear Xx1_10
  have Xx2_11 := Lib.hid (Xx2_10.out.below (b11.mono (by omega)))
  clear Xx2_10
  clear B10
  have Y_11 := Lib.hid o11
  clear o11
  clear b11
  go_wp2_with fail
  refine (eqIB zs1 _ _ _ _ w11 Xx1_11.out.intsV Y_11.out.intsV).mono ?_
  rintro e w12 ⟨rfl, b12⟩
  have s12 := b12.size
  have B12 := Lib.hid (below_next B11.out b12)
  have Xx0_12 := Lib.hid (Xx0_11.out.below (b12.mono (by omega)))
  clear Xx0_11
  have Xx1_12 := Lib.hid (Xx1_11.out.below (b12.mono (by omega)))
  clear Xx1_11
  have Xx2_12 := Lib.hid (Xx2_11.out.below (b12.mono (by omega)))
  clear Xx2_11
  have Y_12 := Lib.hid (Y_11.out.below (b12.mono (by omega)))
  clear Y_11
  clear B11
  clear b12
  clear Y_12
  go_wp2_with fail
  refine (TI2.out _ B12.out).mono ?_
  rintro e w13 ⟨u13, rfl, o13, b13⟩
  have s13 := b13.size
  have B13 := Lib.hid (below_next B12.out b13)
  have Xx0_13 := Lib.hid (Xx0_12.out.below (b13.mono (by omega)))
  clear Xx0_12
  have Xx1_13 := Lib.hid (Xx1_12.out.below (b13.mono (by omega)))
  clear Xx1_12
  have Xx2_13 := Lib.hid (Xx2_12.out.below (b13.mono (by omega)))
  clear Xx2_12
  clear B12
  have Y_13 := Lib.hid o13
  clear o13
  clear b13
  go_wp2_with fail
  refine (eqTT R2 f2 _ _ _ _ w13 Xx2_13.out.tabV Y_13.out.tabV).mono ?_
  rintro e w14 ⟨rfl, b14⟩
  have s14 := b14.size
  have B14 := Lib.hid (below_next B13.out b14)
  have Xx0_14 := Lib.hid (Xx0_13.out.below (b14.mono (by omega)))
  clear Xx0_13
  have Xx1_14 := Lib.hid (Xx1_13.out.below (b14.mono (by omega)))
  clear Xx1_13
  have Xx2_14 := Lib.hid (Xx2_13.out.below (b14.mono (by omega)))
  clear Xx2_13
  have Y_14 := Lib.hid (Y_13.out.below (b14.mono (by omega)))
  clear Y_13
  clear B13
  clear b14
  clear Y_14
  go_wp2_with fail
  go_ret
  exact ⟨rfl, B14.out⟩
set_option maxRecDepth 100000 in
/-- What the walk gives, for every argument and every world: the same for both forms. -/
theorem contract (H : Type) (enc : TypeId × Value → H) (W : World) (base : Nat) (args : Array Value) (ds gs : List (DataW H)) (before : List MemPlace)
    (hval : ∀ (j : Nat) t v, Try.f5.params[j]? = some t → args[j]? = some v → Value.okWide Try.prog W .any base t v)
    (hW : DataW.Whole enc Try.prog Try.f5.params.toList Rows.fnExactIsUpwardSpec.vars false W args.toList ds gs before)
    (hsz : (DataW.weightsEach Try.prog (Try.f5.params.toList ++ (OpenSpec.ofChange Rows.fnExactIsUpwardSpec).bare.plain.varTypes Try.prog) (ds ++ gs)).all (· ≤ reachBytes) = true)
    (hL : laidMetH Try.prog Rows.fnExactIsUpwardRow.laid W) (hsh : W.ShapedOpen Try.prog) :
    Calls Try.prog 5 args W fun e W' => ∃ v, e = .returned v ∧ Rows.fnExactIsUpwardSpec.post enc Try.prog Try.f5 false true false false W args v W' := by
  have hW' := hW
  obtain ⟨p, q, hA0, hV, rfl, hfz, hnd⟩ := hW
  have hA : DataW.TrodAll enc Try.prog W 0 (fun _ => true) true Try.f5.params.toList args.toList ds p := hA0
  rw [Try.params5] at hA hval hsz
  obtain ⟨v0, vs0, d0, ds0, p0, q0, hargs, rfl, rfl, h0, r0⟩ := trodAll_cons hA
  obtain ⟨v1, vs1, d1, ds1, p1, q1, rfl, rfl, rfl, h1, r1⟩ := trodAll_cons r0
  obtain ⟨v2, vs2, d2, ds2, p2, q2, rfl, rfl, rfl, h2, r2⟩ := trodAll_cons r1
  obtain ⟨rfl, rfl, rfl⟩ := trodAll_nil r2
  obtain rfl : args = #[v0, v1, v2] := by cases args; simp_all
  obtain ⟨rfl, rfl⟩ := trodVars_none hV
  obtain ⟨zs0, t0⟩ := intsV_arg (hval 0 22 v0 rfl rfl) h0
  obtain ⟨zs1, t1⟩ := intsV_arg (hval 1 22 v1 rfl rfl) h1
  obtain ⟨R2, f2, t2⟩ := tabV_arg (hval 2 23 v2 rfl rfl) h2
  refine (walk W zs0 v0 t0 zs1 v1 t1 R2 f2 v2 t2).mono fun e W' ⟨he, hb⟩ => ?_
  subst he
  exact ⟨_, rfl, law_post laidOut rfl (by kernel_rfl) (by kernel_rfl) Try.underlying4 rfl rfl rfl hW' hb⟩
noncomputable def laidWorld (os : Os) : World := World.holding Try.prog os ⟨#[], #[], []⟩
theorem laid_met (os : Os) : laidMet Try.prog Rows.fnExactIsUpwardRow.laid ((laidWorld os).forCall (fun _ _ => 0) ⟨#[], #[.slice none 0 0, .slice none 0 0, .slice none 0 0], []⟩).memory :=
  laidMet_of_run' 8 (by kernel_rfl) (by kernel_rfl)
theorem reads (os : Os) {H : Type} (enc : TypeId × Value → H) : ∃ places, DataW.whole enc Try.prog ((laidWorld os).forCall (fun _ _ => 0) ⟨#[], #[.slice none 0 0, .slice none 0 0, .slice none 0 0], []⟩).memory Try.f5.params.toList Rows.fnExactIsUpwardSpec.vars false (#[.slice none 0 0, .slice none 0 0, .slice none 0 0] : Array Value).toList 8 = some ([.nil, .nil, .nil], [], places) :=
  ⟨[], by kernel_rfl⟩
set_option maxRecDepth 100000 in
theorem lifted (os : Os) (started : os.Started) (H : Type) (enc : TypeId × Value → H) (F : Stop.Interp) :
    ReturnsInHanded {} Try.checked os 5 .any ((OpenSpec.ofChange Rows.fnExactIsUpwardSpec).preRow enc Try.prog Try.f5 Rows.fnExactIsUpwardRow.domain false Rows.fnExactIsUpwardRow.laid) (((OpenSpec.ofChange Rows.fnExactIsUpwardSpec).at F).post enc Try.prog Try.f5 false true false false) := by
  obtain ⟨places, hx⟩ := reads os enc
  refine returnsInHanded_of_row (C := Try.checked) (s := OpenSpec.ofChange Rows.fnExactIsUpwardSpec) own started (by kernel_rfl) Try.func5
    (witness_row_at (enc := enc) (C := Try.checked) false (laidWorld os) #[.slice none 0 0, .slice none 0 0, .slice none 0 0] rfl (by kernel_rfl) (by kernel_rfl) (by kernel_rfl)
      (OpenSpec.preRow_of_cond 8 hx (by kernel_rfl) (fun k hk => by cases hk) (by kernel_rfl) (laid_met os))) ?_
  intro W base args ds gs before hval hW _ _ hsz hL hsh _
  exact contract H enc W base args ds gs before hval hW hsz hL hsh
theorem said : Rows.FnExactIsUpwardSaid :=
  OpenClaim.holds_of_cond 5 Try.f5 rfl rfl rfl rfl rfl rfl rfl ⟨rfl, rfl, rfl, rfl, rfl⟩ rfl rfl rfl rfl rfl (by kernel_rfl) Try.func5 (by kernel_rfl)
    (of_decide_eq_true (by kernel_rfl)) (by unfold Func.isWrapper; first | (rw [if_pos (by decide +kernel)]; kernel_rfl) | (rw [if_neg (by decide +kernel)]; exact ⟨rfl, rfl⟩))
    (fun os started H enc _ F => by rw [OpenClaim.pre_eq_preRow]; exact lifted os started H enc F)
/-- The statement. -/
theorem proved : Rows.FnExactIsUpwardSaid := said
#print axioms proved
end Go.Proofs.Ytligidmkhbcpmab.fnExactIsUpward
