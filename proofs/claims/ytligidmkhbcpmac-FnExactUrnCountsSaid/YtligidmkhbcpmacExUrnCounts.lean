/- UrnCounts answers as its model for all arguments, and nothing that was there is turned. No conditions. -/
import Derived.Test.YtligidmkhbcpmacRows
import Derived.Test.YtligidmkhbcpmacFrame
import Derived.Test.YtligidmkhbcpmacLawI
import Derived.Test.YtligidmkhbcpmacUkA
import Derived.WalkKit
import Derived.ProofKit
import Derived.OpenShut
import Derived.ShutString
import Derived.SliceStrings
import Derived.Deep.DeepHandedRow
import Derived.Lib.LaidTab
import Derived.Lib.Hide
import Derived.WalkSpells
import Derived.Deep.RegionHeld3
import Derived.Deep.DeepCutAuto
import Derived.KernelRfl
namespace Go.Proofs.Ytligidmkhbcpmac.fnExactUrnCounts
open Go.ChangeShapes Go.WideShapes Go.ChangeAt Go.RowKit
open Go.ChangeMaps (open_string shut_string)
set_option linter.unusedVariables false
theorem own : ownKnob Try.prog.godebug = none := by kernel_rfl
theorem laidOut : laidOutB Try.prog = true := by kernel_rfl
set_option maxRecDepth 100000 in
set_option maxHeartbeats 4000000 in
theorem walk (W : World) (a0 : Int) (w0 : (Lit.int .i64 a0).wf = true) (a1 : Int) (w1 : (Lit.int .i64 a1).wf = true) (a2 : Int) (w2 : (Lit.int .i64 a2).wf = true) (a3 : Int) (w3 : (Lit.int .i64 a3).wf = true) : Calls Try.prog 9 #[.int .i64 a0, .int .i64 a1, .int .i64 a2, .int .i64 a3] W fun e W' => e = .returned (.bool true) ∧ Below W.heap.size W W' := by
  have i0 := inI64_of_wf w0
  have i1 := inI64_of_wf w1
  have i2 := inI64_of_wf w2
  have i3 := inI64_of_wf w3
  have ZS := Lib.hid (fun w' => (ctS a0 a1 a2 a3 w' i0 i1))
  have ZI := Lib.hid (fun w' => (ctC a0 a1 a2 a3 w'))
  obtain ⟨nq, hnq⟩ : ∃ nq, nq = ctN a0 a1 a2 a3 := ⟨_, rfl⟩
  obtain ⟨zs, hzs⟩ : ∃ zs, zs = ctL a0 a1 a2 a3 := ⟨_, rfl⟩
  obtain ⟨ok, hok⟩ : ∃ ok, ok = ctOk a0 a1 a2 a3 := ⟨_, rfl⟩
  rw [← hnq, ← hzs, ← hok] at ZS ZI
  have hzl : nq ≤ 1048576 := by rw [hnq]; exact ct_len _ _ _ _
  clear hzs hok hnq
  clear w0 i0 w1 i1 w2 i2 w3 i3
  go_enter Try.func9, Try.ntmps9
  go_wp2_with fail
  refine (ZS.out W).mono ?_
  rintro e w1 ⟨r0, rfl, o1, b1⟩
  have s1 := b1.size
  have B1 := Lib.hid b1
  have R0_1 := Lib.hid o1
  clear o1
  clear b1
  go_wp2_with fail
  refine (ZI.out w1).mono ?_
  rintro e w2 ⟨g0, rfl, o2, b2⟩
  have s2 := b2.size
  have B2 := Lib.hid (below_next B1.out b2)
  have R0_2 := Lib.hid (R0_1.out.below (b2.mono (by omega)))
  clear R0_1
  clear B1
  have G0_2 := Lib.hid o2
  clear o2
  clear b2
  go_wp2_with fail
  refine (eqQ nq zs g0 r0 _ _ _ _ w2 hzl G0_2.out R0_2.out).mono ?_
  rintro e w3 ⟨rfl, b3⟩
  have s3 := b3.size
  have B3 := Lib.hid (below_next B2.out b3)
  have R0_3 := Lib.hid (R0_2.out.below (b3.mono (by omega)))
  clear R0_2
  have G0_3 := Lib.hid (G0_2.out.below (b3.mono (by omega)))
  clear G0_2
  clear B2
  clear b3
  have n2 : ¬ ((1 + nq * 2 : Nat) : Int) < 0 := by omega
  go_wp2_with fail
  refine (markQ nq zs g0 _ _ 1 w3 hzl (by omega) G0_3.out).mono ?_
  rintro e w4 ⟨rfl, o4, b4⟩
  have s4 := b4.size
  have B4 := Lib.hid (below_alt B3.out b4 (by omega) (by omega))
  have R0_4 := Lib.hid (R0_3.out.alt b4 (by omega))
  clear R0_3
  clear B3
  have G0_4 := Lib.hid o4
  clear o4
  clear b4
  clear G0_3
  go_wp2_with fail
  refine (heldQ 1 nq g0 _ _ w4 hzl (by omega) G0_4.out).mono ?_
  rintro e w5 ⟨rfl, b5⟩
  have s5 := b5.size
  have B5 := Lib.hid (below_next B4.out b5)
  have R0_5 := Lib.hid (R0_4.out.below (b5.mono (by omega)))
  clear R0_4
  have G0_5 := Lib.hid (G0_4.out.below (b5.mono (by omega)))
  clear G0_4
  clear B4
  clear b5
  go_wp2_with fail
  refine (ZI.out w5).mono ?_
  rintro e w6 ⟨h0, rfl, o6, b6⟩
  have s6 := b6.size
  have B6 := Lib.hid (below_next B5.out b6)
  have R0_6 := Lib.hid (R0_5.out.below (b6.mono (by omega)))
  clear R0_5
  have G0_6 := Lib.hid (G0_5.out.below (b6.mono (by omega)))
  clear G0_5
  clear B5
  have H0_6 := Lib.hid o6
  clear o6
  clear b6
  go_wp2_with fail
  refine (eqQ nq zs h0 r0 _ _ _ _ w6 hzl H0_6.out R0_6.out).mono ?_
  rintro e w7 ⟨rfl, b7⟩
  have s7 := b7.size
  have B7 := Lib.hid (below_next B6.out b7)
  have R0_7 := Lib.hid (R0_6.out.below (b7.mono (by omega)))
  clear R0_6
  have G0_7 := Lib.hid (G0_6.out.below (b7.mono (by omega)))
  clear G0_6
  have H0_7 := Lib.hid (H0_6.out.below (b7.mono (by omega)))
  clear H0_6
  clear B6
  clear b7
  go_wp2_with fail
  refine (heldQ 1 nq g0 _ _ w7 hzl (by omega) G0_7.out).mono ?_
  rintro e w8 ⟨rfl, b8⟩
  have s8 := b8.size
  have B8 := Lib.hid (below_next B7.out b8)
  have R0_8 := Lib.hid (R0_7.out.below (b8.mono (by omega)))
  clear R0_7
  have G0_8 := Lib.hid (G0_7.out.below (b8.mono (by omega)))
  clear G0_7
  have H0_8 := Lib.hid (H0_7.out.below (b8.mono (by omega)))
  clear H0_7
  clear B7
  clear b8
  go_wp2_with fail
  go_ret
  exact ⟨rfl, B8.out⟩
set_option maxRecDepth 100000 in
/-- What the walk gives, for every argument and every world: the same for both forms. -/
theorem contract (H : Type) (enc : TypeId × Value → H) (W : World) (base : Nat) (args : Array Value) (ds gs : List (DataW H)) (before : List MemPlace)
    (hval : ∀ (j : Nat) t v, Try.f9.params[j]? = some t → args[j]? = some v → Value.okWide Try.prog W .any base t v)
    (hW : DataW.Whole enc Try.prog Try.f9.params.toList Rows.fnExactUrnCountsSpec.vars false W args.toList ds gs before)
    (hsz : (DataW.weightsEach Try.prog (Try.f9.params.toList ++ (OpenSpec.ofChange Rows.fnExactUrnCountsSpec).bare.plain.varTypes Try.prog) (ds ++ gs)).all (· ≤ reachBytes) = true)
    (hL : laidMetH Try.prog Rows.fnExactUrnCountsRow.laid W) (hsh : W.ShapedOpen Try.prog) :
    Calls Try.prog 9 args W fun e W' => ∃ v, e = .returned v ∧ Rows.fnExactUrnCountsSpec.post enc Try.prog Try.f9 false true false false W args v W' := by
  have hW' := hW
  obtain ⟨p, q, hA0, hV, rfl, hfz, hnd⟩ := hW
  have hA : DataW.TrodAll enc Try.prog W 0 (fun _ => true) true Try.f9.params.toList args.toList ds p := hA0
  rw [Try.params9] at hA hval hsz
  obtain ⟨v0, vs0, d0, ds0, p0, q0, hargs, rfl, rfl, h0, r0⟩ := trodAll_cons hA
  obtain ⟨v1, vs1, d1, ds1, p1, q1, rfl, rfl, rfl, h1, r1⟩ := trodAll_cons r0
  obtain ⟨v2, vs2, d2, ds2, p2, q2, rfl, rfl, rfl, h2, r2⟩ := trodAll_cons r1
  obtain ⟨v3, vs3, d3, ds3, p3, q3, rfl, rfl, rfl, h3, r3⟩ := trodAll_cons r2
  obtain ⟨rfl, rfl, rfl⟩ := trodAll_nil r3
  obtain rfl : args = #[v0, v1, v2, v3] := by cases args; simp_all
  obtain ⟨rfl, rfl⟩ := trodVars_none hV
  obtain ⟨a0, rfl, rfl, rfl, w0⟩ := open_int Try.underlying3 (hval 0 3 v0 rfl rfl) h0
  obtain ⟨a1, rfl, rfl, rfl, w1⟩ := open_int Try.underlying3 (hval 1 3 v1 rfl rfl) h1
  obtain ⟨a2, rfl, rfl, rfl, w2⟩ := open_int Try.underlying3 (hval 2 3 v2 rfl rfl) h2
  obtain ⟨a3, rfl, rfl, rfl, w3⟩ := open_int Try.underlying3 (hval 3 3 v3 rfl rfl) h3
  refine (walk W a0 w0 a1 w1 a2 w2 a3 w3).mono fun e W' ⟨he, hb⟩ => ?_
  subst he
  exact ⟨_, rfl, law_post laidOut rfl (by kernel_rfl) (by kernel_rfl) Try.underlying4 rfl rfl rfl hW' hb⟩
noncomputable def laidWorld (os : Os) : World := World.holding Try.prog os ⟨#[], #[], []⟩
theorem laid_met (os : Os) : laidMet Try.prog Rows.fnExactUrnCountsRow.laid ((laidWorld os).forCall (fun _ _ => 0) ⟨#[], #[.int .i64 0, .int .i64 0, .int .i64 0, .int .i64 0], []⟩).memory :=
  laidMet_of_run' 8 (by kernel_rfl) (by kernel_rfl)
theorem reads (os : Os) {H : Type} (enc : TypeId × Value → H) : ∃ places, DataW.whole enc Try.prog ((laidWorld os).forCall (fun _ _ => 0) ⟨#[], #[.int .i64 0, .int .i64 0, .int .i64 0, .int .i64 0], []⟩).memory Try.f9.params.toList Rows.fnExactUrnCountsSpec.vars false (#[.int .i64 0, .int .i64 0, .int .i64 0, .int .i64 0] : Array Value).toList 8 = some ([.lit (.int .i64 0), .lit (.int .i64 0), .lit (.int .i64 0), .lit (.int .i64 0)], [], places) :=
  ⟨[], by kernel_rfl⟩
set_option maxRecDepth 100000 in
theorem lifted (os : Os) (started : os.Started) (H : Type) (enc : TypeId × Value → H) (F : Stop.Interp) :
    ReturnsInHanded {} Try.checked os 9 .any ((OpenSpec.ofChange Rows.fnExactUrnCountsSpec).preRow enc Try.prog Try.f9 Rows.fnExactUrnCountsRow.domain false Rows.fnExactUrnCountsRow.laid) (((OpenSpec.ofChange Rows.fnExactUrnCountsSpec).at F).post enc Try.prog Try.f9 false true false false) := by
  obtain ⟨places, hx⟩ := reads os enc
  refine returnsInHanded_of_row (C := Try.checked) (s := OpenSpec.ofChange Rows.fnExactUrnCountsSpec) own started (by kernel_rfl) Try.func9
    (witness_row_at (enc := enc) (C := Try.checked) false (laidWorld os) #[.int .i64 0, .int .i64 0, .int .i64 0, .int .i64 0] rfl (by kernel_rfl) (by kernel_rfl) (by kernel_rfl)
      (OpenSpec.preRow_of_cond 8 hx (by kernel_rfl) (fun k hk => by cases hk) (by kernel_rfl) (laid_met os))) ?_
  intro W base args ds gs before hval hW _ _ hsz hL hsh _
  exact contract H enc W base args ds gs before hval hW hsz hL hsh
theorem said : Rows.FnExactUrnCountsSaid :=
  OpenClaim.holds_of_cond 9 Try.f9 rfl rfl rfl rfl rfl rfl rfl ⟨rfl, rfl, rfl, rfl, rfl⟩ rfl rfl rfl rfl rfl (by kernel_rfl) Try.func9 (by kernel_rfl)
    (of_decide_eq_true (by kernel_rfl)) (by unfold Func.isWrapper; first | (rw [if_pos (by decide +kernel)]; kernel_rfl) | (rw [if_neg (by decide +kernel)]; exact ⟨rfl, rfl⟩))
    (fun os started H enc _ F => by rw [OpenClaim.pre_eq_preRow]; exact lifted os started H enc F)
/-- The statement. -/
theorem proved : Rows.FnExactUrnCountsSaid := said
#print axioms proved
end Go.Proofs.Ytligidmkhbcpmac.fnExactUrnCounts
