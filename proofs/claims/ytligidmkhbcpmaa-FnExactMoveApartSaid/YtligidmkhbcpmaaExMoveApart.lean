/- MoveApart answers as its model for all arguments, and nothing that was there is turned. No conditions. -/
import Derived.Test.YtligidmkhbcpmaaRows
import Derived.Test.YtligidmkhbcpmaaFrame
import Derived.Test.YtligidmkhbcpmaaLawI
import Derived.Test.YtligidmkhbcpmaaOpen
import Derived.Test.YtligidmkhbcpmaaMovI
import Derived.Test.YtligidmkhbcpmaaMovM
import Derived.WalkKit
import Derived.ProofKit
import Derived.OpenShut
import Derived.ShutString
import Derived.SliceStrings
import Derived.Deep.DeepHandedRow
import Derived.Lib.LaidTab
import Derived.Lib.Hide
import Derived.WalkSpells
import Derived.Deep.RegionHeld3
import Derived.Deep.DeepCutAuto
import Derived.KernelRfl
namespace Go.Proofs.Ytligidmkhbcpmaa.fnExactMoveApart
open Go.ChangeShapes Go.WideShapes Go.ChangeAt Go.RowKit
open Go.ChangeMaps (open_string shut_string)
set_option linter.unusedVariables false
theorem own : ownKnob Try.prog.godebug = none := by kernel_rfl
theorem laidOut : laidOutB Try.prog = true := by kernel_rfl
set_option maxRecDepth 100000 in
set_option maxHeartbeats 4000000 in
theorem walk (W : World) (zs0 : List Int) (v0 : Value) (t0 : IntsV W W.heap.size v0 zs0) (a1 : Int) (w1 : (Lit.int .i64 a1).wf = true) : Calls Try.prog 9 #[v0, .int .i64 a1] W fun e W' => e = .returned (.bool true) ∧ Below W.heap.size W W' := by
  have i1 := inI64_of_wf w1
  have TI0 := Lib.hid (fun (hn : zs0.length ≤ 1048576) w' (hb : Below W.heap.size W w') => toI zs0 v0 w' hn ((t0.below hb).more hb.size))
  obtain ⟨q0, d0, rfl, _⟩ := t0
  by_cases hn0 : ¬ zs0.length ≤ 1048576
  · have hgt : ((zs0.length : Int) > 1048576) := by omega
    clear hn0
    go_enter Try.func9, Try.ntmps9
    go_wp2_with fail
    go_ret
    exact ⟨rfl, Below.refl _ _⟩
  have hn0 := Decidable.not_not.1 hn0
  have ZS := Lib.hid (fun w' (u0 : Value) (h0 : IntsV w' w'.heap.size u0 zs0) => (movS zs0 a1 u0 w' hn0 i1 h0))
  have ZI := Lib.hid (fun w' (u0 : Value) (h0 : IntsV w' w'.heap.size u0 zs0) => (movI zs0 a1 u0 w' hn0 i1 h0))
  obtain ⟨zs, hzs⟩ : ∃ z, z = mvL zs0 a1 := ⟨_, rfl⟩
  obtain ⟨ok, hok⟩ : ∃ b, b = mvB zs0 a1 := ⟨_, rfl⟩
  have hzl : zs.length ≤ 1048576 := by rw [hzs]; have := mvL_len zs0 a1; omega
  rw [← hzs, ← hok] at ZS ZI
  clear hzs hok
  clear w1 i1
  go_enter Try.func9, Try.ntmps9
  go_wp2_with fail
  refine (TI0.out hn0 _ (Below.refl _ _)).mono ?_
  rintro e w1 ⟨u1, rfl, o1, b1⟩
  have s1 := b1.size
  have B1 := Lib.hid b1
  have Xm0_1 := Lib.hid o1
  clear o1
  clear b1
  go_wp2_with fail
  refine (ZS.out _ _ (Xm0_1.out.intsV.more (by omega))).mono ?_
  rintro e w2 ⟨r0, rfl, o2, b2⟩
  have s2 := b2.size
  have B2 := Lib.hid (below_next B1.out b2)
  have Xm0_2 := Lib.hid (Xm0_1.out.below (b2.mono (by omega)))
  clear Xm0_1
  clear B1
  have R0_2 := Lib.hid o2
  clear o2
  clear b2
  clear Xm0_2
  go_wp2_with fail
  refine (TI0.out hn0 _ B2.out).mono ?_
  rintro e w3 ⟨u3, rfl, o3, b3⟩
  have s3 := b3.size
  have B3 := Lib.hid (below_next B2.out b3)
  have R0_3 := Lib.hid (R0_2.out.below (b3.mono (by omega)))
  clear R0_2
  clear B2
  have Xx0_3 := Lib.hid o3
  clear o3
  clear b3
  go_wp2_with fail
  refine (ZI.out _ _ (Xx0_3.out.intsV.more (by omega))).mono ?_
  rintro e w4 ⟨g0, rfl, o4, b4⟩
  have s4 := b4.size
  have B4 := Lib.hid (below_next B3.out b4)
  have R0_4 := Lib.hid (R0_3.out.below (b4.mono (by omega)))
  clear R0_3
  have Xx0_4 := Lib.hid (Xx0_3.out.below (b4.mono (by omega)))
  clear Xx0_3
  clear B3
  have G0_4 := Lib.hid o4
  clear o4
  clear b4
  go_wp2_with fail
  refine (eqIB zs g0 r0 _ _ w4 G0_4.out.intsV R0_4.out.intsV).mono ?_
  rintro e w5 ⟨rfl, b5⟩
  have s5 := b5.size
  have B5 := Lib.hid (below_next B4.out b5)
  have R0_5 := Lib.hid (R0_4.out.below (b5.mono (by omega)))
  clear R0_4
  have Xx0_5 := Lib.hid (Xx0_4.out.below (b5.mono (by omega)))
  clear Xx0_4
  have G0_5 := Lib.hid (G0_4.out.below (b5.mono (by omega)))
  clear G0_4
  clear B4
  clear b5
  go_wp2_with fail
  refine (TI0.out hn0 _ B5.out).mono ?_
  rintro e w6 ⟨u6, rfl, o6, b6⟩
  have s6 := b6.size
  have B6 := Lib.hid (below_next B5.out b6)
  have R0_6 := Lib.hid (R0_5.out.below (b6.mono (by omega)))
  clear R0_5
  have Xx0_6 := Lib.hid (Xx0_5.out.below (b6.mono (by omega)))
  clear Xx0_5
  have G0_6 := Lib.hid (G0_5.out.below (b6.mono (by omega)))
  clear G0_5
  clear B5
  have Y_6 := Lib.hid o6
  clear o6
  clear b6
  go_wp2_with fail
  refine (eqIB zs0 _ _ _ _ w6 Xx0_6.out.intsV Y_6.out.intsV).mono ?_
  rintro e w7 ⟨rfl, b7⟩
  have s7 := b7.size
  have B7 := Lib.hid (below_next B6.out b7)
  have R0_7 := Lib.hid (R0_6.out.below (b7.mono (by omega)))
  clear R0_6
  have Xx0_7 := Lib.hid (Xx0_6.out.below (b7.mono (by omega)))
  clear Xx0_6
  have G0_7 := Lib.hid (G0_6.out.below (b7.mono (by omega)))
  clear G0_6
  have Y_7 := Lib.hid (Y_6.out.below (b7.mono (by omega)))
  clear Y_6
  clear B6
  clear b7
  clear Y_7
  go_wp2_with fail
  refine (markI zs0 _ _ _ (1) w7 hn0 (by omega) Xx0_7.out).mono ?_
  rintro e w8 ⟨rfl, _, b8⟩
  have s8 := b8.size
  have B8 := Lib.hid (below_alt B7.out b8 (by omega) (by omega))
  have R0_8 := Lib.hid (R0_7.out.alt b8 (by omega))
  clear R0_7
  have G0_8 := Lib.hid (G0_7.out.alt b8 (by omega))
  clear G0_7
  clear B7
  clear b8
  clear Xx0_7
  have n1 : ¬ ((1 + zs0.length : Nat) : Int) < 0 := by omega
  have n2 : ¬ ((1 + zs.length : Nat) : Int) < 0 := by omega
  go_wp2_with fail
  refine (eqIB zs g0 r0 _ _ w8 G0_8.out.intsV R0_8.out.intsV).mono ?_
  rintro e w9 ⟨rfl, b9⟩
  have s9 := b9.size
  have B9 := Lib.hid (below_next B8.out b9)
  have R0_9 := Lib.hid (R0_8.out.below (b9.mono (by omega)))
  clear R0_8
  have G0_9 := Lib.hid (G0_8.out.below (b9.mono (by omega)))
  clear G0_8
  clear B8
  clear b9
  go_wp2_with fail
  refine (markI zs g0 _ _ 1 w9 hzl (by omega) G0_9.out).mono ?_
  rintro e w10 ⟨rfl, o10, b10⟩
  have s10 := b10.size
  have B10 := Lib.hid (below_alt B9.out b10 (by omega) (by omega))
  have R0_10 := Lib.hid (R0_9.out.alt b10 (by omega))
  clear R0_9
  clear B9
  have G0_10 := Lib.hid o10
  clear o10
  clear b10
  clear G0_9
  go_wp2_with fail
  refine (heldIB 1 zs.length g0 _ w10 hzl (by omega) G0_10.out.intsV).mono ?_
  rintro e w11 ⟨rfl, b11⟩
  have s11 := b11.size
  have B11 := Lib.hid (below_next B10.out b11)
  have R0_11 := Lib.hid (R0_10.out.below (b11.mono (by omega)))
  clear R0_10
  have G0_11 := Lib.hid (G0_10.out.below (b11.mono (by omega)))
  clear G0_10
  clear B10
  clear b11
  go_wp2_with fail
  refine (TI0.out hn0 _ B11.out).mono ?_
  rintro e w12 ⟨u12, rfl, o12, b12⟩
  have s12 := b12.size
  have B12 := Lib.hid (below_next B11.out b12)
  have R0_12 := Lib.hid (R0_11.out.below (b12.mono (by omega)))
  clear R0_11
  have G0_12 := Lib.hid (G0_11.out.below (b12.mono (by omega)))
  clear G0_11
  clear B11
  have Xz0_12 := Lib.hid o12
  clear o12
  clear b12
  go_wp2_with fail
  refine (ZI.out _ _ (Xz0_12.out.intsV.more (by omega))).mono ?_
  rintro e w13 ⟨h0, rfl, o13, b13⟩
  have s13 := b13.size
  have B13 := Lib.hid (below_next B12.out b13)
  have R0_13 := Lib.hid (R0_12.out.below (b13.mono (by omega)))
  clear R0_12
  have G0_13 := Lib.hid (G0_12.out.below (b13.mono (by omega)))
  clear G0_12
  have Xz0_13 := Lib.hid (Xz0_12.out.below (b13.mono (by omega)))
  clear Xz0_12
  clear B12
  have H0_13 := Lib.hid o13
  clear o13
  clear b13
  clear Xz0_13
  go_wp2_with fail
  refine (eqIB zs h0 r0 _ _ w13 H0_13.out.intsV R0_13.out.intsV).mono ?_
  rintro e w14 ⟨rfl, b14⟩
  have s14 := b14.size
  have B14 := Lib.hid (below_next B13.out b14)
  have R0_14 := Lib.hid (R0_13.out.below (b14.mono (by omega)))
  clear R0_13
  have G0_14 := Lib.hid (G0_13.out.below (b14.mono (by omega)))
  clear G0_13
  have H0_14 := Lib.hid (H0_13.out.below (b14.mono (by omega)))
  clear H0_13
  clear B13
  clear b14
  go_wp2_with fail
  refine (heldIB 1 zs.length g0 _ w14 hzl (by omega) G0_14.out.intsV).mono ?_
  rintro e w15 ⟨rfl, b15⟩
  have s15 := b15.size
  have B15 := Lib.hid (below_next B14.out b15)
  have R0_15 := Lib.hid (R0_14.out.below (b15.mono (by omega)))
  clear R0_14
  have G0_15 := Lib.hid (G0_14.out.below (b15.mono (by omega)))
  clear G0_14
  have H0_15 := Lib.hid (H0_14.out.below (b15.mono (by omega)))
  clear H0_14
  clear B14
  clear b15
  go_wp2_with fail
  go_ret
  exact ⟨rfl, B15.out⟩
set_option maxRecDepth 100000 in
/-- What the walk gives, for every argument and every world: the same for both forms. -/
theorem contract (H : Type) (enc : TypeId × Value → H) (W : World) (base : Nat) (args : Array Value) (ds gs : List (DataW H)) (before : List MemPlace)
    (hval : ∀ (j : Nat) t v, Try.f9.params[j]? = some t → args[j]? = some v → Value.okWide Try.prog W .any base t v)
    (hW : DataW.Whole enc Try.prog Try.f9.params.toList Rows.fnExactMoveApartSpec.vars false W args.toList ds gs before)
    (hsz : (DataW.weightsEach Try.prog (Try.f9.params.toList ++ (OpenSpec.ofChange Rows.fnExactMoveApartSpec).bare.plain.varTypes Try.prog) (ds ++ gs)).all (· ≤ reachBytes) = true)
    (hL : laidMetH Try.prog Rows.fnExactMoveApartRow.laid W) (hsh : W.ShapedOpen Try.prog) :
    Calls Try.prog 9 args W fun e W' => ∃ v, e = .returned v ∧ Rows.fnExactMoveApartSpec.post enc Try.prog Try.f9 false true false false W args v W' := by
  have hW' := hW
  obtain ⟨p, q, hA0, hV, rfl, hfz, hnd⟩ := hW
  have hA : DataW.TrodAll enc Try.prog W 0 (fun _ => true) true Try.f9.params.toList args.toList ds p := hA0
  rw [Try.params9] at hA hval hsz
  obtain ⟨v0, vs0, d0, ds0, p0, q0, hargs, rfl, rfl, h0, r0⟩ := trodAll_cons hA
  obtain ⟨v1, vs1, d1, ds1, p1, q1, rfl, rfl, rfl, h1, r1⟩ := trodAll_cons r0
  obtain ⟨rfl, rfl, rfl⟩ := trodAll_nil r1
  obtain rfl : args = #[v0, v1] := by cases args; simp_all
  obtain ⟨rfl, rfl⟩ := trodVars_none hV
  obtain ⟨zs0, t0⟩ := intsV_arg (hval 0 22 v0 rfl rfl) h0
  obtain ⟨a1, rfl, rfl, rfl, w1⟩ := open_int Try.underlying3 (hval 1 3 v1 rfl rfl) h1
  refine (walk W zs0 v0 t0 a1 w1).mono fun e W' ⟨he, hb⟩ => ?_
  subst he
  exact ⟨_, rfl, law_post laidOut rfl (by kernel_rfl) (by kernel_rfl) Try.underlying4 rfl rfl rfl hW' hb⟩
noncomputable def laidWorld (os : Os) : World := World.holding Try.prog os ⟨#[], #[], []⟩
theorem laid_met (os : Os) : laidMet Try.prog Rows.fnExactMoveApartRow.laid ((laidWorld os).forCall (fun _ _ => 0) ⟨#[], #[.slice none 0 0, .int .i64 0], []⟩).memory :=
  laidMet_of_run' 8 (by kernel_rfl) (by kernel_rfl)
theorem reads (os : Os) {H : Type} (enc : TypeId × Value → H) : ∃ places, DataW.whole enc Try.prog ((laidWorld os).forCall (fun _ _ => 0) ⟨#[], #[.slice none 0 0, .int .i64 0], []⟩).memory Try.f9.params.toList Rows.fnExactMoveApartSpec.vars false (#[.slice none 0 0, .int .i64 0] : Array Value).toList 8 = some ([.nil, .lit (.int .i64 0)], [], places) :=
  ⟨[], by kernel_rfl⟩
set_option maxRecDepth 100000 in
theorem lifted (os : Os) (started : os.Started) (H : Type) (enc : TypeId × Value → H) (F : Stop.Interp) :
    ReturnsInHanded {} Try.checked os 9 .any ((OpenSpec.ofChange Rows.fnExactMoveApartSpec).preRow enc Try.prog Try.f9 Rows.fnExactMoveApartRow.domain false Rows.fnExactMoveApartRow.laid) (((OpenSpec.ofChange Rows.fnExactMoveApartSpec).at F).post enc Try.prog Try.f9 false true false false) := by
  obtain ⟨places, hx⟩ := reads os enc
  refine returnsInHanded_of_row (C := Try.checked) (s := OpenSpec.ofChange Rows.fnExactMoveApartSpec) own started (by kernel_rfl) Try.func9
    (witness_row_at (enc := enc) (C := Try.checked) false (laidWorld os) #[.slice none 0 0, .int .i64 0] rfl (by kernel_rfl) (by kernel_rfl) (by kernel_rfl)
      (OpenSpec.preRow_of_cond 8 hx (by kernel_rfl) (fun k hk => by cases hk) (by kernel_rfl) (laid_met os))) ?_
  intro W base args ds gs before hval hW _ _ hsz hL hsh _
  exact contract H enc W base args ds gs before hval hW hsz hL hsh
theorem said : Rows.FnExactMoveApartSaid :=
  OpenClaim.holds_of_cond 9 Try.f9 rfl rfl rfl rfl rfl rfl rfl ⟨rfl, rfl, rfl, rfl, rfl⟩ rfl rfl rfl rfl rfl (by kernel_rfl) Try.func9 (by kernel_rfl)
    (of_decide_eq_true (by kernel_rfl)) (by unfold Func.isWrapper; first | (rw [if_pos (by decide +kernel)]; kernel_rfl) | (rw [if_neg (by decide +kernel)]; exact ⟨rfl, rfl⟩))
    (fun os started H enc _ F => by rw [OpenClaim.pre_eq_preRow]; exact lifted os started H enc F)
/-- The statement. -/
theorem proved : Rows.FnExactMoveApartSaid := said
#print axioms proved
end Go.Proofs.Ytligidmkhbcpmaa.fnExactMoveApart
