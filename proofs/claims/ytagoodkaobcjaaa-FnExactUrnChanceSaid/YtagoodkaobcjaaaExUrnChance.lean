/- UrnChance answers as its model for all arguments, and nothing that was there is turned. No conditions. -/
import Derived.Test.YtagoodkaobcjaaaRows
import Derived.Test.YtagoodkaobcjaaaFrame
import Derived.Test.YtagoodkaobcjaaaLawI
import Derived.Test.YtagoodkaobcjaaaLawX
import Derived.Test.YtagoodkaobcjaaaUhA
import Derived.Test.YtagoodkaobcjaaaPairE
import Derived.Test.YtagoodkaobcjaaaPBox
import Derived.WalkKit
import Derived.ProofKit
import Derived.OpenShut
import Derived.ShutString
import Derived.SliceStrings
import Derived.Deep.DeepHandedRow
import Derived.Lib.LaidTab
import Derived.Lib.Hide
import Derived.WalkSpells
import Derived.Deep.RegionHeld3
import Derived.Deep.DeepCutAuto
import Derived.KernelRfl
namespace Go.Proofs.Ytagoodkaobcjaaa.fnExactUrnChance
open Go.ChangeShapes Go.WideShapes Go.ChangeAt Go.RowKit
open Go.ChangeMaps (open_string shut_string)
set_option linter.unusedVariables false
theorem own : ownKnob Try.prog.godebug = none := by kernel_rfl
theorem laidOut : laidOutB Try.prog = true := by kernel_rfl
set_option maxRecDepth 100000 in
set_option maxHeartbeats 4000000 in
theorem walk (W : World) (a0 : Int) (w0 : (Lit.int .i64 a0).wf = true) (a1 : Int) (w1 : (Lit.int .i64 a1).wf = true) (a2 : Int) (w2 : (Lit.int .i64 a2).wf = true) (zs3 : List Int) (v3 : Value) (t3 : IntsV W W.heap.size v3 zs3) : Calls Try.prog 10 #[.int .i64 a0, .int .i64 a1, .int .i64 a2, v3] W fun e W' => e = .returned (.bool true) ∧ Below W.heap.size W W' := by
  have i0 := inI64_of_wf w0
  have i1 := inI64_of_wf w1
  have i2 := inI64_of_wf w2
  have TI3 := Lib.hid (fun (hn : zs3.length ≤ 1048576) w' (hb : Below W.heap.size W w') => toI zs3 v3 w' hn ((t3.below hb).more hb.size))
  obtain ⟨q3, d3, rfl, _⟩ := t3
  by_cases hn3 : ¬ zs3.length ≤ 1048576
  · have hgt : ((zs3.length : Int) > 1048576) := by omega
    clear hn3
    go_enter Try.func10, Try.ntmps10
    go_wp2_with fail
    go_ret
    exact ⟨rfl, Below.refl _ _⟩
  have hn3 := Decidable.not_not.1 hn3
  have ZS := Lib.hid (fun w' (u3 : Value) (h3 : IntsV w' w'.heap.size u3 zs3) => (ucS a0 a1 a2 zs3 u3 w' i0 i1 hn3 h3))
  have ZI := Lib.hid (fun w' (u3 : Value) (h3 : IntsV w' w'.heap.size u3 zs3) => (ucC a0 a1 a2 zs3 u3 w' hn3 h3))
  obtain ⟨pn, pd, ok, hK⟩ := ucV_form a0 a1 a2 zs3
  rw [hK] at ZS ZI
  clear hK
  have EP := Lib.hid (fun w => eqP pn pd w)
  clear w0 i0 w1 i1 w2 i2
  go_enter Try.func10, Try.ntmps10
  go_wp2_with fail
  refine (TI3.out hn3 _ (Below.refl _ _)).mono ?_
  rintro e w1 ⟨u1, rfl, o1, b1⟩
  have s1 := b1.size
  have B1 := Lib.hid b1
  have Xm3_1 := Lib.hid o1
  clear o1
  clear b1
  go_wp2_with fail
  refine (ZS.out _ _ (Xm3_1.out.intsV.more (by omega))).mono ?_
  rintro e w2 ⟨rfl, b2⟩
  have s2 := b2.size
  have B2 := Lib.hid (below_next B1.out b2)
  have Xm3_2 := Lib.hid (Xm3_1.out.below (b2.mono (by omega)))
  clear Xm3_1
  clear B1
  clear b2
  clear Xm3_2
  obtain ⟨w3, hw⟩ : ∃ w3, w3 = w2.alloc (.cells #[.int .i64 pn, .int .i64 pd] 32) := ⟨_, rfl⟩
  have b3 : Below w2.heap.size w2 w3 := by rw [hw]; exact (Below.refl _ _).alloc (Nat.le_refl _) _
  have s3 : w2.heap.size + 1 = w3.heap.size := by rw [hw]; simp
  have QB_3 := Lib.hid (show PBox w3 w2.heap.size pn pd by rw [hw]; exact alloc_heap _ _)
  have B3 := Lib.hid (below_next B2.out b3)
  clear B2
  clear b3
  go_wp2_with fail
  rw [← hw]
  clear hw
  refine (TI3.out hn3 _ B3.out).mono ?_
  rintro e w4 ⟨u4, rfl, o4, b4⟩
  have s4 := b4.size
  have B4 := Lib.hid (below_next B3.out b4)
  clear B3
  have QB_4 := Lib.hid (QB_3.out.below b4 QB_3.out.lt)
  clear QB_3
  have Xx3_4 := Lib.hid o4
  clear o4
  clear b4
  go_wp2_with fail
  refine (ZI.out _ _ (Xx3_4.out.intsV.more (by omega))).mono ?_
  rintro e w5 ⟨rfl, b5⟩
  have s5 := b5.size
  have B5 := Lib.hid (below_next B4.out b5)
  have Xx3_5 := Lib.hid (Xx3_4.out.below (b5.mono (by omega)))
  clear Xx3_4
  clear B4
  have QB_5 := Lib.hid (QB_4.out.below b5 QB_4.out.lt)
  clear QB_4
  clear b5
  obtain ⟨w6, hw⟩ : ∃ w6, w6 = w5.alloc (.cells #[.int .i64 pn, .int .i64 pd] 32) := ⟨_, rfl⟩
  have b6 : Below w5.heap.size w5 w6 := by rw [hw]; exact (Below.refl _ _).alloc (Nat.le_refl _) _
  have s6 : w5.heap.size + 1 = w6.heap.size := by rw [hw]; simp
  have QG_6 := Lib.hid (show PBox w6 w5.heap.size pn pd by rw [hw]; exact alloc_heap _ _)
  have B6 := Lib.hid (below_next B5.out b6)
  have Xx3_6 := Lib.hid (Xx3_5.out.below (b6.mono (by omega)))
  clear Xx3_5
  clear B5
  have QB_6 := Lib.hid (QB_5.out.below b6 QB_5.out.lt)
  clear QB_5
  clear b6
  obtain ⟨y0, y1, _, _⟩ := QG_6.out.cells
  obtain ⟨y2, y3, _, _⟩ := QB_6.out.cells
  rw [hw] at y0 y1 y2 y3
  go_wp2_with fail
  rw [← hw]
  clear hw y0 y1 y2 y3
  clear QB_6
  clear QG_6
  refine (EP.out _).mono ?_
  rintro e w7 ⟨rfl, b7⟩
  have s7 := b7.size
  have B7 := Lib.hid (below_next B6.out b7)
  have Xx3_7 := Lib.hid (Xx3_6.out.below (b7.mono (by omega)))
  clear Xx3_6
  clear B6
  clear b7
  go_wp2_with fail
  refine (TI3.out hn3 _ B7.out).mono ?_
  rintro e w8 ⟨u8, rfl, o8, b8⟩
  have s8 := b8.size
  have B8 := Lib.hid (below_next B7.out b8)
  have Xx3_8 := Lib.hid (Xx3_7.out.below (b8.mono (by omega)))
  clear Xx3_7
  clear B7
  have Y_8 := Lib.hid o8
  clear o8
  clear b8
  go_wp2_with fail
  refine (eqIB zs3 _ _ _ _ w8 Xx3_8.out.intsV Y_8.out.intsV).mono ?_
  rintro e w9 ⟨rfl, b9⟩
  have s9 := b9.size
  have B9 := Lib.hid (below_next B8.out b9)
  have Xx3_9 := Lib.hid (Xx3_8.out.below (b9.mono (by omega)))
  clear Xx3_8
  have Y_9 := Lib.hid (Y_8.out.below (b9.mono (by omega)))
  clear Y_8
  clear B8
  clear b9
  clear Y_9
  go_wp2_with fail
  go_ret
  exact ⟨rfl, B9.out⟩
set_option maxRecDepth 100000 in
/-- What the walk gives, for every argument and every world: the same for both forms. -/
theorem contract (H : Type) (enc : TypeId × Value → H) (W : World) (base : Nat) (args : Array Value) (ds gs : List (DataW H)) (before : List MemPlace)
    (hval : ∀ (j : Nat) t v, Try.f10.params[j]? = some t → args[j]? = some v → Value.okWide Try.prog W .any base t v)
    (hW : DataW.Whole enc Try.prog Try.f10.params.toList Rows.fnExactUrnChanceSpec.vars false W args.toList ds gs before)
    (hsz : (DataW.weightsEach Try.prog (Try.f10.params.toList ++ (OpenSpec.ofChange Rows.fnExactUrnChanceSpec).bare.plain.varTypes Try.prog) (ds ++ gs)).all (· ≤ reachBytes) = true)
    (hL : laidMetH Try.prog Rows.fnExactUrnChanceRow.laid W) (hsh : W.ShapedOpen Try.prog) :
    Calls Try.prog 10 args W fun e W' => ∃ v, e = .returned v ∧ Rows.fnExactUrnChanceSpec.post enc Try.prog Try.f10 false true false false W args v W' := by
  have hW' := hW
  obtain ⟨p, q, hA0, hV, rfl, hfz, hnd⟩ := hW
  have hA : DataW.TrodAll enc Try.prog W 0 (fun _ => true) true Try.f10.params.toList args.toList ds p := hA0
  rw [Try.params10] at hA hval hsz
  obtain ⟨v0, vs0, d0, ds0, p0, q0, hargs, rfl, rfl, h0, r0⟩ := trodAll_cons hA
  obtain ⟨v1, vs1, d1, ds1, p1, q1, rfl, rfl, rfl, h1, r1⟩ := trodAll_cons r0
  obtain ⟨v2, vs2, d2, ds2, p2, q2, rfl, rfl, rfl, h2, r2⟩ := trodAll_cons r1
  obtain ⟨v3, vs3, d3, ds3, p3, q3, rfl, rfl, rfl, h3, r3⟩ := trodAll_cons r2
  obtain ⟨rfl, rfl, rfl⟩ := trodAll_nil r3
  obtain rfl : args = #[v0, v1, v2, v3] := by cases args; simp_all
  obtain ⟨rfl, rfl⟩ := trodVars_none hV
  obtain ⟨a0, rfl, rfl, rfl, w0⟩ := open_int Try.underlying3 (hval 0 3 v0 rfl rfl) h0
  obtain ⟨a1, rfl, rfl, rfl, w1⟩ := open_int Try.underlying3 (hval 1 3 v1 rfl rfl) h1
  obtain ⟨a2, rfl, rfl, rfl, w2⟩ := open_int Try.underlying3 (hval 2 3 v2 rfl rfl) h2
  obtain ⟨zs3, t3⟩ := intsV_arg (hval 3 25 v3 rfl rfl) h3
  refine (walk W a0 w0 a1 w1 a2 w2 zs3 v3 t3).mono fun e W' ⟨he, hb⟩ => ?_
  subst he
  exact ⟨_, rfl, law_post laidOut rfl (by kernel_rfl) (by kernel_rfl) Try.underlying4 rfl rfl rfl hW' hb⟩
noncomputable def laidWorld (os : Os) : World := World.holding Try.prog os ⟨#[], #[], []⟩
theorem laid_met (os : Os) : laidMet Try.prog Rows.fnExactUrnChanceRow.laid ((laidWorld os).forCall (fun _ _ => 0) ⟨#[], #[.int .i64 0, .int .i64 0, .int .i64 0, .slice none 0 0], []⟩).memory :=
  laidMet_of_run' 8 (by kernel_rfl) (by kernel_rfl)
theorem reads (os : Os) {H : Type} (enc : TypeId × Value → H) : ∃ places, DataW.whole enc Try.prog ((laidWorld os).forCall (fun _ _ => 0) ⟨#[], #[.int .i64 0, .int .i64 0, .int .i64 0, .slice none 0 0], []⟩).memory Try.f10.params.toList Rows.fnExactUrnChanceSpec.vars false (#[.int .i64 0, .int .i64 0, .int .i64 0, .slice none 0 0] : Array Value).toList 8 = some ([.lit (.int .i64 0), .lit (.int .i64 0), .lit (.int .i64 0), .nil], [], places) :=
  ⟨[], by kernel_rfl⟩
set_option maxRecDepth 100000 in
theorem lifted (os : Os) (started : os.Started) (H : Type) (enc : TypeId × Value → H) (F : Stop.Interp) :
    ReturnsInHanded {} Try.checked os 10 .any ((OpenSpec.ofChange Rows.fnExactUrnChanceSpec).preRow enc Try.prog Try.f10 Rows.fnExactUrnChanceRow.domain false Rows.fnExactUrnChanceRow.laid) (((OpenSpec.ofChange Rows.fnExactUrnChanceSpec).at F).post enc Try.prog Try.f10 false true false false) := by
  obtain ⟨places, hx⟩ := reads os enc
  refine returnsInHanded_of_row (C := Try.checked) (s := OpenSpec.ofChange Rows.fnExactUrnChanceSpec) own started (by kernel_rfl) Try.func10
    (witness_row_at (enc := enc) (C := Try.checked) false (laidWorld os) #[.int .i64 0, .int .i64 0, .int .i64 0, .slice none 0 0] rfl (by kernel_rfl) (by kernel_rfl) (by kernel_rfl)
      (OpenSpec.preRow_of_cond 8 hx (by kernel_rfl) (fun k hk => by cases hk) (by kernel_rfl) (laid_met os))) ?_
  intro W base args ds gs before hval hW _ _ hsz hL hsh _
  exact contract H enc W base args ds gs before hval hW hsz hL hsh
theorem said : Rows.FnExactUrnChanceSaid :=
  OpenClaim.holds_of_cond 10 Try.f10 rfl rfl rfl rfl rfl rfl rfl ⟨rfl, rfl, rfl, rfl, rfl⟩ rfl rfl rfl rfl rfl (by kernel_rfl) Try.func10 (by kernel_rfl)
    (of_decide_eq_true (by kernel_rfl)) (by unfold Func.isWrapper; first | (rw [if_pos (by decide +kernel)]; kernel_rfl) | (rw [if_neg (by decide +kernel)]; exact ⟨rfl, rfl⟩))
    (fun os started H enc _ F => by rw [OpenClaim.pre_eq_preRow]; exact lifted os started H enc F)
/-- The statement. -/
theorem proved : Rows.FnExactUrnChanceSaid := said
#print axioms proved
end Go.Proofs.Ytagoodkaobcjaaa.fnExactUrnChance
