/- IsSpread answers as its model for all arguments, and nothing that was there is turned. No conditions. -/
import Derived.Test.YtligidmkhbcpmaaRows
import Derived.Test.YtligidmkhbcpmaaFrame
import Derived.Test.YtligidmkhbcpmaaLawI
import Derived.Test.YtligidmkhbcpmaaOpen
import Derived.Test.YtligidmkhbcpmaaSprI
import Derived.Test.YtligidmkhbcpmaaSprN
import Derived.WalkKit
import Derived.ProofKit
import Derived.OpenShut
import Derived.ShutString
import Derived.SliceStrings
import Derived.Deep.DeepHandedRow
import Derived.Lib.LaidTab
import Derived.Lib.Hide
import Derived.WalkSpells
import Derived.Deep.RegionHeld3
import Derived.Deep.DeepCutAuto
import Derived.KernelRfl
namespace Go.Proofs.Ytligidmkhbcpmaa.fnExactIsSpread
open Go.ChangeShapes Go.WideShapes Go.ChangeAt Go.RowKit
open Go.ChangeMaps (open_string shut_string)
set_option linter.unusedVariables false
theorem own : ownKnob Try.prog.godebug = none := by kernel_rfl
theorem laidOut : laidOutB Try.prog = true := by kernel_rfl
set_option maxRecDepth 100000 in
set_option maxHeartbeats 4000000 in
theorem walk (W : World) (zs0 : List Int) (v0 : Value) (t0 : IntsV W W.heap.size v0 zs0) : Calls Try.prog 3 #[v0] W fun e W' => e = .returned (.bool true) ∧ Below W.heap.size W W' := by
  have TI0 := Lib.hid (fun (hn : zs0.length ≤ 1048576) w' (hb : Below W.heap.size W w') => toI zs0 v0 w' hn ((t0.below hb).more hb.size))
  obtain ⟨q0, d0, rfl, _⟩ := t0
  by_cases hn0 : ¬ zs0.length ≤ 1048576
  · have hgt : ((zs0.length : Int) > 1048576) := by omega
    clear hn0
    go_enter Try.func3, Try.ntmps3
    go_wp2_with fail
    go_ret
    exact ⟨rfl, Below.refl _ _⟩
  have hn0 := Decidable.not_not.1 hn0
  have ZS := Lib.hid (fun w' (u0 : Value) (h0 : IntsV w' w'.heap.size u0 zs0) => (isSprS zs0 u0 w' hn0 h0))
  have ZI := Lib.hid (fun w' (u0 : Value) (h0 : IntsV w' w'.heap.size u0 zs0) => (isSpreadY zs0 u0 w' hn0 h0))
  obtain ⟨rx, hK⟩ : ∃ b, b = sprB zs0 := ⟨_, rfl⟩
  rw [← hK] at ZS ZI
  clear hK
  go_enter Try.func3, Try.ntmps3
  go_wp2_with fail
  refine (TI0.out hn0 _ (Below.refl _ _)).mono ?_
  rintro e w1 ⟨u1, rfl, o1, b1⟩
  have s1 := b1.size
  have B1 := Lib.hid b1
  have Xm0_1 := Lib.hid o1
  clear o1
  clear b1
  go_wp2_with fail
  refine (ZS.out _ _ (Xm0_1.out.intsV.more (by omega))).mono ?_
  rintro e w2 ⟨rfl, b2⟩
  have s2 := b2.size
  have B2 := Lib.hid (below_next B1.out b2)
  have Xm0_2 := Lib.hid (Xm0_1.out.below (b2.mono (by omega)))
  clear Xm0_1
  clear B1
  clear b2
  clear Xm0_2
  go_wp2_with fail
  refine (TI0.out hn0 _ B2.out).mono ?_
  rintro e w3 ⟨u3, rfl, o3, b3⟩
  have s3 := b3.size
  have B3 := Lib.hid (below_next B2.out b3)
  clear B2
  have Xx0_3 := Lib.hid o3
  clear o3
  clear b3
  go_wp2_with fail
  refine (ZI.out _ _ (Xx0_3.out.intsV.more (by omega))).mono ?_
  rintro e w4 ⟨rfl, b4⟩
  have s4 := b4.size
  have B4 := Lib.hid (below_next B3.out b4)
  have Xx0_4 := Lib.hid (Xx0_3.out.below (b4.mono (by omega)))
  clear Xx0_3
  clear B3
  clear b4
  go_wp2_with fail
  refine (TI0.out hn0 _ B4.out).mono ?_
  rintro e w5 ⟨u5, rfl, o5, b5⟩
  have s5 := b5.size
  have B5 := Lib.hid (below_next B4.out b5)
  have Xx0_5 := Lib.hid (Xx0_4.out.below (b5.mono (by omega)))
  clear Xx0_4
  clear B4
  have Y_5 := Lib.hid o5
  clear o5
  clear b5
  go_wp2_with fail
  refine (eqIB zs0 _ _ _ _ w5 Xx0_5.out.intsV Y_5.out.intsV).mono ?_
  rintro e w6 ⟨rfl, b6⟩
  have s6 := b6.size
  have B6 := Lib.hid (below_next B5.out b6)
  have Xx0_6 := Lib.hid (Xx0_5.out.below (b6.mono (by omega)))
  clear Xx0_5
  have Y_6 := Lib.hid (Y_5.out.below (b6.mono (by omega)))
  clear Y_5
  clear B5
  clear b6
  clear Y_6
  go_wp2_with fail
  go_ret
  exact ⟨rfl, B6.out⟩
set_option maxRecDepth 100000 in
/-- What the walk gives, for every argument and every world: the same for both forms. -/
theorem contract (H : Type) (enc : TypeId × Value → H) (W : World) (base : Nat) (args : Array Value) (ds gs : List (DataW H)) (before : List MemPlace)
    (hval : ∀ (j : Nat) t v, Try.f3.params[j]? = some t → args[j]? = some v → Value.okWide Try.prog W .any base t v)
    (hW : DataW.Whole enc Try.prog Try.f3.params.toList Rows.fnExactIsSpreadSpec.vars false W args.toList ds gs before)
    (hsz : (DataW.weightsEach Try.prog (Try.f3.params.toList ++ (OpenSpec.ofChange Rows.fnExactIsSpreadSpec).bare.plain.varTypes Try.prog) (ds ++ gs)).all (· ≤ reachBytes) = true)
    (hL : laidMetH Try.prog Rows.fnExactIsSpreadRow.laid W) (hsh : W.ShapedOpen Try.prog) :
    Calls Try.prog 3 args W fun e W' => ∃ v, e = .returned v ∧ Rows.fnExactIsSpreadSpec.post enc Try.prog Try.f3 false true false false W args v W' := by
  have hW' := hW
  obtain ⟨p, q, hA0, hV, rfl, hfz, hnd⟩ := hW
  have hA : DataW.TrodAll enc Try.prog W 0 (fun _ => true) true Try.f3.params.toList args.toList ds p := hA0
  rw [Try.params3] at hA hval hsz
  obtain ⟨v0, vs0, d0, ds0, p0, q0, hargs, rfl, rfl, h0, r0⟩ := trodAll_cons hA
  obtain ⟨rfl, rfl, rfl⟩ := trodAll_nil r0
  obtain rfl : args = #[v0] := by cases args; simp_all
  obtain ⟨rfl, rfl⟩ := trodVars_none hV
  obtain ⟨zs0, t0⟩ := intsV_arg (hval 0 22 v0 rfl rfl) h0
  refine (walk W zs0 v0 t0).mono fun e W' ⟨he, hb⟩ => ?_
  subst he
  exact ⟨_, rfl, law_post laidOut rfl (by kernel_rfl) (by kernel_rfl) Try.underlying4 rfl rfl rfl hW' hb⟩
noncomputable def laidWorld (os : Os) : World := World.holding Try.prog os ⟨#[], #[], []⟩
theorem laid_met (os : Os) : laidMet Try.prog Rows.fnExactIsSpreadRow.laid ((laidWorld os).forCall (fun _ _ => 0) ⟨#[], #[.slice none 0 0], []⟩).memory :=
  laidMet_of_run' 8 (by kernel_rfl) (by kernel_rfl)
theorem reads (os : Os) {H : Type} (enc : TypeId × Value → H) : ∃ places, DataW.whole enc Try.prog ((laidWorld os).forCall (fun _ _ => 0) ⟨#[], #[.slice none 0 0], []⟩).memory Try.f3.params.toList Rows.fnExactIsSpreadSpec.vars false (#[.slice none 0 0] : Array Value).toList 8 = some ([.nil], [], places) :=
  ⟨[], by kernel_rfl⟩
set_option maxRecDepth 100000 in
theorem lifted (os : Os) (started : os.Started) (H : Type) (enc : TypeId × Value → H) (F : Stop.Interp) :
    ReturnsInHanded {} Try.checked os 3 .any ((OpenSpec.ofChange Rows.fnExactIsSpreadSpec).preRow enc Try.prog Try.f3 Rows.fnExactIsSpreadRow.domain false Rows.fnExactIsSpreadRow.laid) (((OpenSpec.ofChange Rows.fnExactIsSpreadSpec).at F).post enc Try.prog Try.f3 false true false false) := by
  obtain ⟨places, hx⟩ := reads os enc
  refine returnsInHanded_of_row (C := Try.checked) (s := OpenSpec.ofChange Rows.fnExactIsSpreadSpec) own started (by kernel_rfl) Try.func3
    (witness_row_at (enc := enc) (C := Try.checked) false (laidWorld os) #[.slice none 0 0] rfl (by kernel_rfl) (by kernel_rfl) (by kernel_rfl)
      (OpenSpec.preRow_of_cond 8 hx (by kernel_rfl) (fun k hk => by cases hk) (by kernel_rfl) (laid_met os))) ?_
  intro W base args ds gs before hval hW _ _ hsz hL hsh _
  exact contract H enc W base args ds gs before hval hW hsz hL hsh
theorem said : Rows.FnExactIsSpreadSaid :=
  OpenClaim.holds_of_cond 3 Try.f3 rfl rfl rfl rfl rfl rfl rfl ⟨rfl, rfl, rfl, rfl, rfl⟩ rfl rfl rfl rfl rfl (by kernel_rfl) Try.func3 (by kernel_rfl)
    (of_decide_eq_true (by kernel_rfl)) (by unfold Func.isWrapper; first | (rw [if_pos (by decide +kernel)]; kernel_rfl) | (rw [if_neg (by decide +kernel)]; exact ⟨rfl, rfl⟩))
    (fun os started H enc _ F => by rw [OpenClaim.pre_eq_preRow]; exact lifted os started H enc F)
/-- The statement. -/
theorem proved : Rows.FnExactIsSpreadSaid := said
#print axioms proved
end Go.Proofs.Ytligidmkhbcpmaa.fnExactIsSpread
