/- TeamWins answers as its model for all arguments, and nothing that was there is turned. No conditions. -/
import Derived.Test.YtligidmkhbcpmaaRows
import Derived.Test.YtligidmkhbcpmaaFrame
import Derived.Test.YtligidmkhbcpmaaLawI
import Derived.Test.YtligidmkhbcpmaaOpen
import Derived.Test.YtligidmkhbcpmaaTmwM
import Derived.Test.YtligidmkhbcpmaaTmwJ
import Derived.WalkKit
import Derived.ProofKit
import Derived.OpenShut
import Derived.ShutString
import Derived.SliceStrings
import Derived.Deep.DeepHandedRow
import Derived.Lib.LaidTab
import Derived.Lib.Hide
import Derived.WalkSpells
import Derived.Deep.RegionHeld3
import Derived.Deep.DeepCutAuto
import Derived.KernelRfl
namespace Go.Proofs.Ytligidmkhbcpmaa.fnExactTeamWins
open Go.ChangeShapes Go.WideShapes Go.ChangeAt Go.RowKit
open Go.ChangeMaps (open_string shut_string)
set_option linter.unusedVariables false
theorem own : ownKnob Try.prog.godebug = none := by kernel_rfl
theorem laidOut : laidOutB Try.prog = true := by kernel_rfl
set_option maxRecDepth 100000 in
set_option maxHeartbeats 4000000 in
theorem walk (W : World) (a0 : Int) (w0 : (Lit.int .i64 a0).wf = true) (zs1 : List Int) (v1 : Value) (t1 : IntsV W W.heap.size v1 zs1) (zs2 : List Int) (v2 : Value) (t2 : IntsV W W.heap.size v2 zs2) : Calls Try.prog 11 #[.int .i64 a0, v1, v2] W fun e W' => e = .returned (.bool true) ∧ Below W.heap.size W W' := by
  have i0 := inI64_of_wf w0
  have TI1 := Lib.hid (fun (hn : zs1.length ≤ 1048576) w' (hb : Below W.heap.size W w') => toI zs1 v1 w' hn ((t1.below hb).more hb.size))
  obtain ⟨q1, d1, rfl, _⟩ := t1
  have TI2 := Lib.hid (fun (hn : zs2.length ≤ 1048576) w' (hb : Below W.heap.size W w') => toI zs2 v2 w' hn ((t2.below hb).more hb.size))
  obtain ⟨q2, d2, rfl, _⟩ := t2
  by_cases hn1 : ¬ zs1.length ≤ 1048576
  · have hgt : ((zs1.length : Int) > 1048576) := by omega
    clear hn1
    go_enter Try.func11, Try.ntmps11
    go_wp2_with fail
    go_ret
    exact ⟨rfl, Below.refl _ _⟩
  have hn1 := Decidable.not_not.1 hn1
  by_cases hn2 : ¬ zs2.length ≤ 1048576
  · have hgt : ((zs2.length : Int) > 1048576) := by omega
    clear hn2
    go_enter Try.func11, Try.ntmps11
    go_wp2_with fail
    go_ret
    exact ⟨rfl, Below.refl _ _⟩
  have hn2 := Decidable.not_not.1 hn2
  have ZS := Lib.hid (fun w' (u1 : Value) (u2 : Value) (h1 : IntsV w' w'.heap.size u1 zs1) (h2 : IntsV w' w'.heap.size u2 zs2) => (twS a0 zs1 zs2 u1 u2 w' i0 hn1 hn2 h1 h2))
  have ZI := Lib.hid (fun w' (u1 : Value) (u2 : Value) (h1 : IntsV w' w'.heap.size u1 zs1) (h2 : IntsV w' w'.heap.size u2 zs2) => (twI a0 zs1 zs2 u1 u2 w' hn1 hn2 h1 h2))
  obtain ⟨r, hr⟩ : ∃ r, r = tmV a0 zs1 zs2 := ⟨_, rfl⟩
  obtain ⟨ok, hok⟩ : ∃ ok, ok = tmOk a0 zs1 zs2 := ⟨_, rfl⟩
  rw [← hr, ← hok] at ZS ZI
  clear hr hok
  clear w0 i0
  go_enter Try.func11, Try.ntmps11
  go_wp2_with fail
  refine (TI1.out hn1 _ (Below.refl _ _)).mono ?_
  rintro e w1 ⟨u1, rfl, o1, b1⟩
  have s1 := b1.size
  have B1 := Lib.hid b1
  have Xm1_1 := Lib.hid o1
  clear o1
  clear b1
  go_wp2_with fail
  refine (TI2.out hn2 _ B1.out).mono ?_
  rintro e w2 ⟨u2, rfl, o2, b2⟩
  have s2 := b2.size
  have B2 := Lib.hid (below_next B1.out b2)
  have Xm1_2 := Lib.hid (Xm1_1.out.below (b2.mono (by omega)))
  clear Xm1_1
  clear B1
  have Xm2_2 := Lib.hid o2
  clear o2
  clear b2
  go_wp2_with fail
  refine (ZS.out _ _ _ (Xm1_2.out.intsV.more (by omega)) (Xm2_2.out.intsV.more (by omega))).mono ?_
  rintro e w3 ⟨rfl, b3⟩
  have s3 := b3.size
  have B3 := Lib.hid (below_next B2.out b3)
  have Xm1_3 := Lib.hid (Xm1_2.out.below (b3.mono (by omega)))
  clear Xm1_2
  have Xm2_3 := Lib.hid (Xm2_2.out.below (b3.mono (by omega)))
  clear Xm2_2
  clear B2
  clear b3
  clear Xm1_3
  clear Xm2_3
  go_wp2_with fail
  refine (TI1.out hn1 _ B3.out).mono ?_
  rintro e w4 ⟨u4, rfl, o4, b4⟩
  have s4 := b4.size
  have B4 := Lib.hid (below_next B3.out b4)
  clear B3
  have Xx1_4 := Lib.hid o4
  clear o4
  clear b4
  go_wp2_with fail
  refine (TI2.out hn2 _ B4.out).mono ?_
  rintro e w5 ⟨u5, rfl, o5, b5⟩
  have s5 := b5.size
  have B5 := Lib.hid (below_next B4.out b5)
  have Xx1_5 := Lib.hid (Xx1_4.out.below (b5.mono (by omega)))
  clear Xx1_4
  clear B4
  have Xx2_5 := Lib.hid o5
  clear o5
  clear b5
  go_wp2_with fail
  refine (ZI.out _ _ _ (Xx1_5.out.intsV.more (by omega)) (Xx2_5.out.intsV.more (by omega))).mono ?_
  rintro e w6 ⟨rfl, b6⟩
  have s6 := b6.size
  have B6 := Lib.hid (below_next B5.out b6)
  have Xx1_6 := Lib.hid (Xx1_5.out.below (b6.mono (by omega)))
  clear Xx1_5
  have Xx2_6 := Lib.hid (Xx2_5.out.below (b6.mono (by omega)))
  clear Xx2_5
  clear B5
  clear b6
  go_wp2_with fail
  refine (TI1.out hn1 _ B6.out).mono ?_
  rintro e w7 ⟨u7, rfl, o7, b7⟩
  have s7 := b7.size
  have B7 := Lib.hid (below_next B6.out b7)
  have Xx1_7 := Lib.hid (Xx1_6.out.below (b7.mono (by omega)))
  clear Xx1_6
  have Xx2_7 := Lib.hid (Xx2_6.out.below (b7.mono (by omega)))
  clear Xx2_6
  clear B6
  have Y_7 := Lib.hid o7
  clear o7
  clear b7
  go_wp2_with fail
  refine (eqIB zs1 _ _ _ _ w7 Xx1_7.out.intsV Y_7.out.intsV).mono ?_
  rintro e w8 ⟨rfl, b8⟩
  have s8 := b8.size
  have B8 := Lib.hid (below_next B7.out b8)
  have Xx1_8 := Lib.hid (Xx1_7.out.below (b8.mono (by omega)))
  clear Xx1_7
  have Xx2_8 := Lib.hid (Xx2_7.out.below (b8.mono (by omega)))
  clear Xx2_7
  have Y_8 := Lib.hid (Y_7.out.below (b8.mono (by omega)))
  clear Y_7
  clear B7
  clear b8
  clear Y_8
  go_wp2_with fail
  refine (TI2.out hn2 _ B8.out).mono ?_
  rintro e w9 ⟨u9, rfl, o9, b9⟩
  have s9 := b9.size
  have B9 := Lib.hid (below_next B8.out b9)
  have Xx1_9 := Lib.hid (Xx1_8.out.below (b9.mono (by omega)))
  clear Xx1_8
  have Xx2_9 := Lib.hid (Xx2_8.out.below (b9.mono (by omega)))
  clear Xx2_8
  clear B8
  have Y_9 := Lib.hid o9
  clear o9
  clear b9
  go_wp2_with fail
  refine (eqIB zs2 _ _ _ _ w9 Xx2_9.out.intsV Y_9.out.intsV).mono ?_
  rintro e w10 ⟨rfl, b10⟩
  have s10 := b10.size
  have B10 := Lib.hid (below_next B9.out b10)
  have Xx1_10 := Lib.hid (Xx1_9.out.below (b10.mono (by omega)))
  clear Xx1_9
  have Xx2_10 := Lib.hid (Xx2_9.out.below (b10.mono (by omega)))
  clear Xx2_9
  have Y_10 := Lib.hid (Y_9.out.below (b10.mono (by omega)))
  clear Y_9
  clear B9
  clear b10
  clear Y_10
  go_wp2_with fail
  go_ret
  exact ⟨rfl, B10.out⟩
set_option maxRecDepth 100000 in
/-- What the walk gives, for every argument and every world: the same for both forms. -/
theorem contract (H : Type) (enc : TypeId × Value → H) (W : World) (base : Nat) (args : Array Value) (ds gs : List (DataW H)) (before : List MemPlace)
    (hval : ∀ (j : Nat) t v, Try.f11.params[j]? = some t → args[j]? = some v → Value.okWide Try.prog W .any base t v)
    (hW : DataW.Whole enc Try.prog Try.f11.params.toList Rows.fnExactTeamWinsSpec.vars false W args.toList ds gs before)
    (hsz : (DataW.weightsEach Try.prog (Try.f11.params.toList ++ (OpenSpec.ofChange Rows.fnExactTeamWinsSpec).bare.plain.varTypes Try.prog) (ds ++ gs)).all (· ≤ reachBytes) = true)
    (hL : laidMetH Try.prog Rows.fnExactTeamWinsRow.laid W) (hsh : W.ShapedOpen Try.prog) :
    Calls Try.prog 11 args W fun e W' => ∃ v, e = .returned v ∧ Rows.fnExactTeamWinsSpec.post enc Try.prog Try.f11 false true false false W args v W' := by
  have hW' := hW
  obtain ⟨p, q, hA0, hV, rfl, hfz, hnd⟩ := hW
  have hA : DataW.TrodAll enc Try.prog W 0 (fun _ => true) true Try.f11.params.toList args.toList ds p := hA0
  rw [Try.params11] at hA hval hsz
  obtain ⟨v0, vs0, d0, ds0, p0, q0, hargs, rfl, rfl, h0, r0⟩ := trodAll_cons hA
  obtain ⟨v1, vs1, d1, ds1, p1, q1, rfl, rfl, rfl, h1, r1⟩ := trodAll_cons r0
  obtain ⟨v2, vs2, d2, ds2, p2, q2, rfl, rfl, rfl, h2, r2⟩ := trodAll_cons r1
  obtain ⟨rfl, rfl, rfl⟩ := trodAll_nil r2
  obtain rfl : args = #[v0, v1, v2] := by cases args; simp_all
  obtain ⟨rfl, rfl⟩ := trodVars_none hV
  obtain ⟨a0, rfl, rfl, rfl, w0⟩ := open_int Try.underlying3 (hval 0 3 v0 rfl rfl) h0
  obtain ⟨zs1, t1⟩ := intsV_arg (hval 1 22 v1 rfl rfl) h1
  obtain ⟨zs2, t2⟩ := intsV_arg (hval 2 22 v2 rfl rfl) h2
  refine (walk W a0 w0 zs1 v1 t1 zs2 v2 t2).mono fun e W' ⟨he, hb⟩ => ?_
  subst he
  exact ⟨_, rfl, law_post laidOut rfl (by kernel_rfl) (by kernel_rfl) Try.underlying4 rfl rfl rfl hW' hb⟩
noncomputable def laidWorld (os : Os) : World := World.holding Try.prog os ⟨#[], #[], []⟩
theorem laid_met (os : Os) : laidMet Try.prog Rows.fnExactTeamWinsRow.laid ((laidWorld os).forCall (fun _ _ => 0) ⟨#[], #[.int .i64 0, .slice none 0 0, .slice none 0 0], []⟩).memory :=
  laidMet_of_run' 8 (by kernel_rfl) (by kernel_rfl)
theorem reads (os : Os) {H : Type} (enc : TypeId × Value → H) : ∃ places, DataW.whole enc Try.prog ((laidWorld os).forCall (fun _ _ => 0) ⟨#[], #[.int .i64 0, .slice none 0 0, .slice none 0 0], []⟩).memory Try.f11.params.toList Rows.fnExactTeamWinsSpec.vars false (#[.int .i64 0, .slice none 0 0, .slice none 0 0] : Array Value).toList 8 = some ([.lit (.int .i64 0), .nil, .nil], [], places) :=
  ⟨[], by kernel_rfl⟩
set_option maxRecDepth 100000 in
theorem lifted (os : Os) (started : os.Started) (H : Type) (enc : TypeId × Value → H) (F : Stop.Interp) :
    ReturnsInHanded {} Try.checked os 11 .any ((OpenSpec.ofChange Rows.fnExactTeamWinsSpec).preRow enc Try.prog Try.f11 Rows.fnExactTeamWinsRow.domain false Rows.fnExactTeamWinsRow.laid) (((OpenSpec.ofChange Rows.fnExactTeamWinsSpec).at F).post enc Try.prog Try.f11 false true false false) := by
  obtain ⟨places, hx⟩ := reads os enc
  refine returnsInHanded_of_row (C := Try.checked) (s := OpenSpec.ofChange Rows.fnExactTeamWinsSpec) own started (by kernel_rfl) Try.func11
    (witness_row_at (enc := enc) (C := Try.checked) false (laidWorld os) #[.int .i64 0, .slice none 0 0, .slice none 0 0] rfl (by kernel_rfl) (by kernel_rfl) (by kernel_rfl)
      (OpenSpec.preRow_of_cond 8 hx (by kernel_rfl) (fun k hk => by cases hk) (by kernel_rfl) (laid_met os))) ?_
  intro W base args ds gs before hval hW _ _ hsz hL hsh _
  exact contract H enc W base args ds gs before hval hW hsz hL hsh
theorem said : Rows.FnExactTeamWinsSaid :=
  OpenClaim.holds_of_cond 11 Try.f11 rfl rfl rfl rfl rfl rfl rfl ⟨rfl, rfl, rfl, rfl, rfl⟩ rfl rfl rfl rfl rfl (by kernel_rfl) Try.func11 (by kernel_rfl)
    (of_decide_eq_true (by kernel_rfl)) (by unfold Func.isWrapper; first | (rw [if_pos (by decide +kernel)]; kernel_rfl) | (rw [if_neg (by decide +kernel)]; exact ⟨rfl, rfl⟩))
    (fun os started H enc _ F => by rw [OpenClaim.pre_eq_preRow]; exact lifted os started H enc F)
/-- The statement. -/
theorem proved : Rows.FnExactTeamWinsSaid := said
#print axioms proved
end Go.Proofs.Ytligidmkhbcpmaa.fnExactTeamWins
