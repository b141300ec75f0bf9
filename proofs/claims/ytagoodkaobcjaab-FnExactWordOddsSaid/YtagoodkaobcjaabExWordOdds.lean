/- WordOdds answers as its model for all arguments, and nothing that was there is turned. No conditions. -/
import Derived.Test.YtagoodkaobcjaabRows
import Derived.Test.YtagoodkaobcjaabFrame
import Derived.Test.YtagoodkaobcjaabLawI
import Derived.Test.YtagoodkaobcjaabLawX
import Derived.Test.YtagoodkaobcjaabWoA
import Derived.Test.YtagoodkaobcjaabPairE
import Derived.WalkKit
import Derived.ProofKit
import Derived.OpenShut
import Derived.ShutString
import Derived.SliceStrings
import Derived.Deep.DeepHandedRow
import Derived.Lib.LaidTab
import Derived.Lib.Hide
import Derived.WalkSpells
import Derived.Deep.RegionHeld3
import Derived.Deep.DeepCutAuto
import Derived.KernelRfl
namespace Go.Proofs.Ytagoodkaobcjaab.fnExactWordOdds
open Go.ChangeShapes Go.WideShapes Go.ChangeAt Go.RowKit
open Go.ChangeMaps (open_string shut_string)
set_option linter.unusedVariables false
/-- A box of a pair. -/
def PBox (w : World) (R : Nat) (a b : Int) : Prop := w.heap[R]? = some (.cells #[.int .i64 a, .int .i64 b] 35 (0, 0))
theorem PBox.below {w w1 : World} {R C : Nat} {a b : Int} (h : PBox w R a b) (hb : Below C w w1) (hR : R < C) : PBox w1 R a b := (hb.block R hR).trans h
theorem PBox.lt {w : World} {R : Nat} {a b : Int} (h : PBox w R a b) : R < w.heap.size := by unfold PBox at h; exact (Array.getElem?_eq_some_iff.1 h).1
theorem PBox.cells {w : World} {R : Nat} {a b : Int} (h : PBox w R a b) : w.cell? ⟨R, 0, none⟩ = some (.int .i64 a) ∧ w.cell? ⟨R, 1, none⟩ = some (.int .i64 b) ∧ w.frozen? ⟨R, 0, none⟩ = false ∧ w.frozen? ⟨R, 1, none⟩ = false :=
  ⟨(cell_of_heap (o := 0) h rfl).1, (cell_of_heap (o := 1) h rfl).1, (cell_of_heap (o := 0) h rfl).2, (cell_of_heap (o := 1) h rfl).2⟩
theorem own : ownKnob Try.prog.godebug = none := by kernel_rfl
theorem laidOut : laidOutB Try.prog = true := by kernel_rfl
set_option maxRecDepth 100000 in
set_option maxHeartbeats 4000000 in
theorem walk (W : World) (a0 : Int) (w0 : (Lit.int .i64 a0).wf = true) (zs1 : List Int) (v1 : Value) (t1 : IntsV W W.heap.size v1 zs1) (zs2 : List Int) (v2 : Value) (t2 : IntsV W W.heap.size v2 zs2) : Calls Try.prog 7 #[.int .i64 a0, v1, v2] W fun e W' => e = .returned (.bool true) ∧ Below W.heap.size W W' := by
  have i0 := inI64_of_wf w0
  have TI1 := Lib.hid (fun (hn : zs1.length ≤ 1048576) w' (hb : Below W.heap.size W w') => toI zs1 v1 w' hn ((t1.below hb).more hb.size))
  obtain ⟨q1, d1, rfl, _⟩ := t1
  have TI2 := Lib.hid (fun (hn : zs2.length ≤ 1048576) w' (hb : Below W.heap.size W w') => toI zs2 v2 w' hn ((t2.below hb).more hb.size))
  obtain ⟨q2, d2, rfl, _⟩ := t2
  by_cases hn1 : ¬ zs1.length ≤ 1048576
  · have hgt : ((zs1.length : Int) > 1048576) := by omega
    clear hn1
    go_enter Try.func7, Try.ntmps7
    go_wp2_with fail
    go_ret
    exact ⟨rfl, Below.refl _ _⟩
  have hn1 := Decidable.not_not.1 hn1
  by_cases hn2 : ¬ zs2.length ≤ 1048576
  · have hgt : ((zs2.length : Int) > 1048576) := by omega
    clear hn2
    go_enter Try.func7, Try.ntmps7
    go_wp2_with fail
    go_ret
    exact ⟨rfl, Below.refl _ _⟩
  have hn2 := Decidable.not_not.1 hn2
  have ZS := Lib.hid (fun w' (u1 : Value) (u2 : Value) (h1 : IntsV w' w'.heap.size u1 zs1) (h2 : IntsV w' w'.heap.size u2 zs2) => (woS a0 zs1 zs2 u1 u2 w' i0 hn1 hn2 h1 h2))
  have ZI := Lib.hid (fun w' (u1 : Value) (u2 : Value) (h1 : IntsV w' w'.heap.size u1 zs1) (h2 : IntsV w' w'.heap.size u2 zs2) => (woC a0 zs1 zs2 u1 u2 w' hn1 hn2 h1 h2))
  obtain ⟨pn, pd, ok, hK⟩ := woV_form a0 zs1 zs2
  rw [hK] at ZS ZI
  clear hK
  have EP := Lib.hid (fun w => eqP pn pd w)
  clear w0 i0
  go_enter Try.func7, Try.ntmps7
  go_wp2_with fail
  refine (TI1.out hn1 _ (Below.refl _ _)).mono ?_
  rintro e w1 ⟨u1, rfl, o1, b1⟩
  have s1 := b1.size
  have B1 := Lib.hid b1
  have Xm1_1 := Lib.hid o1
  clear o1
  clear b1
  go_wp2_with fail
  refine (TI2.out hn2 _ B1.out).mono ?_
  rintro e w2 ⟨u2, rfl, o2, b2⟩
  have s2 := b2.size
  have B2 := Lib.hid (below_next B1.out b2)
  have Xm1_2 := Lib.hid (Xm1_1.out.below (b2.mono (by omega)))
  clear Xm1_1
  clear B1
  have Xm2_2 := Lib.hid o2
  clear o2
  clear b2
  go_wp2_with fail
  refine (ZS.out _ _ _ (Xm1_2.out.intsV.more (by omega)) (Xm2_2.out.intsV.more (by omega))).mono ?_
  rintro e w3 ⟨rfl, b3⟩
  have s3 := b3.size
  have B3 := Lib.hid (below_next B2.out b3)
  have Xm1_3 := Lib.hid (Xm1_2.out.below (b3.mono (by omega)))
  clear Xm1_2
  have Xm2_3 := Lib.hid (Xm2_2.out.below (b3.mono (by omega)))
  clear Xm2_2
  clear B2
  clear b3
  clear Xm1_3
  clear Xm2_3
  obtain ⟨w4, hw⟩ : ∃ w4, w4 = w3.alloc (.cells #[.int .i64 pn, .int .i64 pd] 35) := ⟨_, rfl⟩
  have b4 : Below w3.heap.size w3 w4 := by rw [hw]; exact (Below.refl _ _).alloc (Nat.le_refl _) _
  have s4 : w3.heap.size + 1 = w4.heap.size := by rw [hw]; simp
  have QB_4 := Lib.hid (show PBox w4 w3.heap.size pn pd by rw [hw]; exact alloc_heap _ _)
  have B4 := Lib.hid (below_next B3.out b4)
  clear B3
  clear b4
  go_wp2_with fail
  rw [← hw]
  clear hw
  refine (TI1.out hn1 _ B4.out).mono ?_
  rintro e w5 ⟨u5, rfl, o5, b5⟩
  have s5 := b5.size
  have B5 := Lib.hid (below_next B4.out b5)
  clear B4
  have QB_5 := Lib.hid (QB_4.out.below b5 QB_4.out.lt)
  clear QB_4
  have Xx1_5 := Lib.hid o5
  clear o5
  clear b5
  go_wp2_with fail
  refine (TI2.out hn2 _ B5.out).mono ?_
  rintro e w6 ⟨u6, rfl, o6, b6⟩
  have s6 := b6.size
  have B6 := Lib.hid (below_next B5.out b6)
  have Xx1_6 := Lib.hid (Xx1_5.out.below (b6.mono (by omega)))
  clear Xx1_5
  clear B5
  have QB_6 := Lib.hid (QB_5.out.below b6 QB_5.out.lt)
  clear QB_5
  have Xx2_6 := Lib.hid o6
  clear o6
  clear b6
  go_wp2_with fail
  refine (ZI.out _ _ _ (Xx1_6.out.intsV.more (by omega)) (Xx2_6.out.intsV.more (by omega))).mono ?_
  rintro e w7 ⟨rfl, b7⟩
  have s7 := b7.size
  have B7 := Lib.hid (below_next B6.out b7)
  have Xx1_7 := Lib.hid (Xx1_6.out.below (b7.mono (by omega)))
  clear Xx1_6
  have Xx2_7 := Lib.hid (Xx2_6.out.below (b7.mono (by omega)))
  clear Xx2_6
  clear B6
  have QB_7 := Lib.hid (QB_6.out.below b7 QB_6.out.lt)
  clear QB_6
  clear b7
  obtain ⟨w8, hw⟩ : ∃ w8, w8 = w7.alloc (.cells #[.int .i64 pn, .int .i64 pd] 35) := ⟨_, rfl⟩
  have b8 : Below w7.heap.size w7 w8 := by rw [hw]; exact (Below.refl _ _).alloc (Nat.le_refl _) _
  have s8 : w7.heap.size + 1 = w8.heap.size := by rw [hw]; simp
  have QG_8 := Lib.hid (show PBox w8 w7.heap.size pn pd by rw [hw]; exact alloc_heap _ _)
  have B8 := Lib.hid (below_next B7.out b8)
  have Xx1_8 := Lib.hid (Xx1_7.out.below (b8.mono (by omega)))
  clear Xx1_7
  have Xx2_8 := Lib.hid (Xx2_7.out.below (b8.mono (by omega)))
  clear Xx2_7
  clear B7
  have QB_8 := Lib.hid (QB_7.out.below b8 QB_7.out.lt)
  clear QB_7
  clear b8
  obtain ⟨y0, y1, _, _⟩ := QG_8.out.cells
  obtain ⟨y2, y3, _, _⟩ := QB_8.out.cells
  rw [hw] at y0 y1 y2 y3
  go_wp2_with fail
  rw [← hw]
  clear hw y0 y1 y2 y3
  clear QB_8
  clear QG_8
  refine (EP.out _).mono ?_
  rintro e w9 ⟨rfl, b9⟩
  have s9 := b9.size
  have B9 := Lib.hid (below_next B8.out b9)
  have Xx1_9 := Lib.hid (Xx1_8.out.below (b9.mono (by omega)))
  clear Xx1_8
  have Xx2_9 := Lib.hid (Xx2_8.out.below (b9.mono (by omega)))
  clear Xx2_8
  clear B8
  clear b9
  go_wp2_with fail
  refine (TI1.out hn1 _ B9.out).mono ?_
  rintro e w10 ⟨u10, rfl, o10, b10⟩
  have s10 := b10.size
  have B10 := Lib.hid (below_next B9.out b10)
  have Xx1_10 := Lib.hid (Xx1_9.out.below (b10.mono (by omega)))
  clear Xx1_9
  have Xx2_10 := Lib.hid (Xx2_9.out.below (b10.mono (by omega)))
  clear Xx2_9
  clear B9
  have Y_10 := Lib.hid o10
  clear o10
  clear b10
  go_wp2_with fail
  refine (eqIB zs1 _ _ _ _ w10 Xx1_10.out.intsV Y_10.out.intsV).mono ?_
  rintro e w11 ⟨rfl, b11⟩
  have s11 := b11.size
  have B11 := Lib.hid (below_next B10.out b11)
  have Xx1_11 := Lib.hid (Xx1_10.out.below (b11.mono (by omega)))
  clear Xx1_10
  have Xx2_11 := Lib.hid (Xx2_10.out.below (b11.mono (by omega)))
  clear Xx2_10
  have Y_11 := Lib.hid (Y_10.out.below (b11.mono (by omega)))
  clear Y_10
  clear B10
  clear b11
  clear Y_11
  go_wp2_with fail
  refine (TI2.out hn2 _ B11.out).mono ?_
  rintro e w12 ⟨u12, rfl, o12, b12⟩
  have s12 := b12.size
  have B12 := Lib.hid (below_next B11.out b12)
  have Xx1_12 := Lib.hid (Xx1_11.out.below (b12.mono (by omega)))
  clear Xx1_11
  have Xx2_12 := Lib.hid (Xx2_11.out.below (b12.mono (by omega)))
  clear Xx2_11
  clear B11
  have Y_12 := Lib.hid o12
  clear o12
  clear b12
  go_wp2_with fail
  refine (eqIB zs2 _ _ _ _ w12 Xx2_12.out.intsV Y_12.out.intsV).mono ?_
  rintro e w13 ⟨rfl, b13⟩
  have s13 := b13.size
  have B13 := Lib.hid (below_next B12.out b13)
  have Xx1_13 := Lib.hid (Xx1_12.out.below (b13.mono (by omega)))
  clear Xx1_12
  have Xx2_13 := Lib.hid (Xx2_12.out.below (b13.mono (by omega)))
  clear Xx2_12
  have Y_13 := Lib.hid (Y_12.out.below (b13.mono (by omega)))
  clear Y_12
  clear B12
  clear b13
  clear Y_13
  go_wp2_with fail
  go_ret
  exact ⟨rfl, B13.out⟩
set_option maxRecDepth 100000 in
/-- What the walk gives, for every argument and every world: the same for both forms. -/
theorem contract (H : Type) (enc : TypeId × Value → H) (W : World) (base : Nat) (args : Array Value) (ds gs : List (DataW H)) (before : List MemPlace)
    (hval : ∀ (j : Nat) t v, Try.f7.params[j]? = some t → args[j]? = some v → Value.okWide Try.prog W .any base t v)
    (hW : DataW.Whole enc Try.prog Try.f7.params.toList Rows.fnExactWordOddsSpec.vars false W args.toList ds gs before)
    (hsz : (DataW.weightsEach Try.prog (Try.f7.params.toList ++ (OpenSpec.ofChange Rows.fnExactWordOddsSpec).bare.plain.varTypes Try.prog) (ds ++ gs)).all (· ≤ reachBytes) = true)
    (hL : laidMetH Try.prog Rows.fnExactWordOddsRow.laid W) (hsh : W.ShapedOpen Try.prog) :
    Calls Try.prog 7 args W fun e W' => ∃ v, e = .returned v ∧ Rows.fnExactWordOddsSpec.post enc Try.prog Try.f7 false true false false W args v W' := by
  have hW' := hW
  obtain ⟨p, q, hA0, hV, rfl, hfz, hnd⟩ := hW
  have hA : DataW.TrodAll enc Try.prog W 0 (fun _ => true) true Try.f7.params.toList args.toList ds p := hA0
  rw [Try.params7] at hA hval hsz
  obtain ⟨v0, vs0, d0, ds0, p0, q0, hargs, rfl, rfl, h0, r0⟩ := trodAll_cons hA
  obtain ⟨v1, vs1, d1, ds1, p1, q1, rfl, rfl, rfl, h1, r1⟩ := trodAll_cons r0
  obtain ⟨v2, vs2, d2, ds2, p2, q2, rfl, rfl, rfl, h2, r2⟩ := trodAll_cons r1
  obtain ⟨rfl, rfl, rfl⟩ := trodAll_nil r2
  obtain rfl : args = #[v0, v1, v2] := by cases args; simp_all
  obtain ⟨rfl, rfl⟩ := trodVars_none hV
  obtain ⟨a0, rfl, rfl, rfl, w0⟩ := open_int Try.underlying3 (hval 0 3 v0 rfl rfl) h0
  obtain ⟨zs1, t1⟩ := intsV_arg (hval 1 22 v1 rfl rfl) h1
  obtain ⟨zs2, t2⟩ := intsV_arg (hval 2 22 v2 rfl rfl) h2
  refine (walk W a0 w0 zs1 v1 t1 zs2 v2 t2).mono fun e W' ⟨he, hb⟩ => ?_
  subst he
  exact ⟨_, rfl, law_post laidOut rfl (by kernel_rfl) (by kernel_rfl) Try.underlying4 rfl rfl rfl hW' hb⟩
noncomputable def laidWorld (os : Os) : World := World.holding Try.prog os ⟨#[], #[], []⟩
theorem laid_met (os : Os) : laidMet Try.prog Rows.fnExactWordOddsRow.laid ((laidWorld os).forCall (fun _ _ => 0) ⟨#[], #[.int .i64 0, .slice none 0 0, .slice none 0 0], []⟩).memory :=
  laidMet_of_run' 8 (by kernel_rfl) (by kernel_rfl)
theorem reads (os : Os) {H : Type} (enc : TypeId × Value → H) : ∃ places, DataW.whole enc Try.prog ((laidWorld os).forCall (fun _ _ => 0) ⟨#[], #[.int .i64 0, .slice none 0 0, .slice none 0 0], []⟩).memory Try.f7.params.toList Rows.fnExactWordOddsSpec.vars false (#[.int .i64 0, .slice none 0 0, .slice none 0 0] : Array Value).toList 8 = some ([.lit (.int .i64 0), .nil, .nil], [], places) :=
  ⟨[], by kernel_rfl⟩
set_option maxRecDepth 100000 in
theorem lifted (os : Os) (started : os.Started) (H : Type) (enc : TypeId × Value → H) (F : Stop.Interp) :
    ReturnsInHanded {} Try.checked os 7 .any ((OpenSpec.ofChange Rows.fnExactWordOddsSpec).preRow enc Try.prog Try.f7 Rows.fnExactWordOddsRow.domain false Rows.fnExactWordOddsRow.laid) (((OpenSpec.ofChange Rows.fnExactWordOddsSpec).at F).post enc Try.prog Try.f7 false true false false) := by
  obtain ⟨places, hx⟩ := reads os enc
  refine returnsInHanded_of_row (C := Try.checked) (s := OpenSpec.ofChange Rows.fnExactWordOddsSpec) own started (by kernel_rfl) Try.func7
    (witness_row_at (enc := enc) (C := Try.checked) false (laidWorld os) #[.int .i64 0, .slice none 0 0, .slice none 0 0] rfl (by kernel_rfl) (by kernel_rfl) (by kernel_rfl)
      (OpenSpec.preRow_of_cond 8 hx (by kernel_rfl) (fun k hk => by cases hk) (by kernel_rfl) (laid_met os))) ?_
  intro W base args ds gs before hval hW _ _ hsz hL hsh _
  exact contract H enc W base args ds gs before hval hW hsz hL hsh
theorem said : Rows.FnExactWordOddsSaid :=
  OpenClaim.holds_of_cond 7 Try.f7 rfl rfl rfl rfl rfl rfl rfl ⟨rfl, rfl, rfl, rfl, rfl⟩ rfl rfl rfl rfl rfl (by kernel_rfl) Try.func7 (by kernel_rfl)
    (of_decide_eq_true (by kernel_rfl)) (by unfold Func.isWrapper; first | (rw [if_pos (by decide +kernel)]; kernel_rfl) | (rw [if_neg (by decide +kernel)]; exact ⟨rfl, rfl⟩))
    (fun os started H enc _ F => by rw [OpenClaim.pre_eq_preRow]; exact lifted os started H enc F)
/-- The statement. -/
theorem proved : Rows.FnExactWordOddsSaid := said
#print axioms proved
end Go.Proofs.Ytagoodkaobcjaab.fnExactWordOdds
