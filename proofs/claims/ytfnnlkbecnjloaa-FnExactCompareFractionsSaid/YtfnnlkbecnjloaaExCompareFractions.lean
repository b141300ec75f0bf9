/- CompareFractions answers as its model for all arguments, and nothing that was there is turned. No conditions. -/
import Derived.Test.YtfnnlkbecnjloaaRows
import Derived.Test.YtfnnlkbecnjloaaFrame
import Derived.Test.YtfnnlkbecnjloaaFracL
import Derived.WalkKit
import Derived.ProofKit
import Derived.OpenShut
import Derived.ShutString
import Derived.SliceStrings
import Derived.Deep.DeepHandedRow
import Derived.Lib.LaidTab
import Derived.Lib.Hide
import Derived.WalkSpells
import Derived.Deep.RegionHeld3
import Derived.Deep.DeepCutAuto
import Derived.KernelRfl
namespace Go.Proofs.Ytfnnlkbecnjloaa.fnExactCompareFractions
open Go.ChangeShapes Go.WideShapes Go.ChangeAt Go.RowKit
open Go.ChangeMaps (open_string shut_string)
set_option linter.unusedVariables false
theorem own : ownKnob Try.prog.godebug = none := by kernel_rfl
theorem laidOut : laidOutB Try.prog = true := by kernel_rfl
set_option maxHeartbeats 2000000 in
theorem walk (W : World) (a0 b0 : Int) (a1 b1 : Int) : Calls Try.prog 7 #[.agg #[.int .i64 a0, .int .i64 b0], .agg #[.int .i64 a1, .int .i64 b1]] W fun e W' => e = .returned (.bool true) ∧ Below W.heap.size W W' := by
  have f1 := fun w => cmpM a0 b0 a1 b1 w
  have f2 := fun w => cmpI a0 b0 a1 b1 w
  obtain ⟨o, ok, hK⟩ := cmpV_form a0 b0 a1 b1
  rw [hK] at f1 f2
  have F1 := Lib.hid f1
  have F2 := Lib.hid f2
  have T1 := Lib.hid (fun w => toP a0 b0 w)
  have T2 := Lib.hid (fun w => toP a1 b1 w)
  clear f1 f2 hK
  have B := blocks2_below W a0 b0 a1 b1
  obtain ⟨V, hV⟩ : ∃ V, V = Blocks2 W a0 b0 a1 b1 := ⟨_, rfl⟩
  have K : Hid (∀ w1, Below V.heap.size V w1 → Cells2 W w1 a0 b0 a1 b1) := Lib.hid (by rw [hV]; exact fun w1 h => cells2 h)
  have BV : Hid (Below W.heap.size W V) := by rw [hV]; exact Lib.hid B
  obtain ⟨x0, x1, y0, y1⟩ := K.out V (Below.refl _ _)
  clear B
  go_enter Try.func7, Try.ntmps7
  go_upto_region 1 with fail
  change Code.wp _ _ _ _ (Blocks2 W a0 b0 a1 b1)
  rw [← hV]
  clear hV
  go_cut [5, 6] (fun s5 s6 wx => s5 = .int .i64 o ∧ s6 = .bool ok ∧ Hid (Below V.heap.size V wx))
  case first =>
    go_region_held3 (fun w' => w'.cell? ⟨W.heap.size, 0, none⟩ = some (.int .i64 a0) ∧ w'.cell? ⟨W.heap.size, 1, none⟩ = some (.int .i64 b0) ∧ w'.cell? ⟨W.heap.size + 1, 0, none⟩ = some (.int .i64 a1) ∧ w'.cell? ⟨W.heap.size + 1, 1, none⟩ = some (.int .i64 b1) ∧ Below V.heap.size V w')
      (first | exact S2_of K.out (below_drew (Below.refl _ _)) | exact S2_of K.out hb | go_keep)
      (first
        | (go_at_call 16; (first | (with_reducible refine (T1.out _).mono ?_) | (with_reducible refine (T2.out _).mono ?_)); rintro e w1 ⟨rfl, c1⟩; have hb : Below V.heap.size V w1 := by (apply BW_next c1; first | assumption | exact below_drew (Below.refl _ _)))
        | (go_at_call 25; (with_reducible refine (F1.out _).mono ?_); rintro e w1 ⟨rfl, c1⟩; have hb : Below V.heap.size V w1 := by (apply BW_next c1; first | assumption | exact below_drew (Below.refl _ _))))
    all_goals (go_wp2_with fail; go_meet; exact ⟨rfl, rfl, Lib.hid (by assumption)⟩)
  obtain ⟨rfl, rfl, hB'⟩ := hcut
  have hB := hB'
  clear hB' x0 x1 y0 y1
  obtain ⟨x0, x1, y0, y1⟩ := K.out _ hB.out
  go_upto_region 2 with fail
  go_cut [7, 8] (fun s5 s6 wx => s5 = .int .i64 o ∧ s6 = .bool ok ∧ Hid (Below V.heap.size V wx))
  case first =>
    go_region_held3 (fun w' => w'.cell? ⟨W.heap.size, 0, none⟩ = some (.int .i64 a0) ∧ w'.cell? ⟨W.heap.size, 1, none⟩ = some (.int .i64 b0) ∧ w'.cell? ⟨W.heap.size + 1, 0, none⟩ = some (.int .i64 a1) ∧ w'.cell? ⟨W.heap.size + 1, 1, none⟩ = some (.int .i64 b1) ∧ Below V.heap.size V w')
      (first | exact S2_of K.out (below_drew hB.out) | exact S2_of K.out hb | go_keep)
      (first
        | (go_at_call 16; (first | (with_reducible refine (T1.out _).mono ?_) | (with_reducible refine (T2.out _).mono ?_)); rintro e w1 ⟨rfl, c1⟩; have hb : Below V.heap.size V w1 := by (apply BW_next c1; first | assumption | exact below_drew hB.out))
        | (go_at_call 26; (with_reducible refine (F2.out _).mono ?_); rintro e w1 ⟨rfl, c1⟩; have hb : Below V.heap.size V w1 := by (apply BW_next c1; first | assumption | exact below_drew hB.out)))
    all_goals (go_wp2_with fail; go_meet; exact ⟨rfl, rfl, Lib.hid (by assumption)⟩)
  obtain ⟨rfl, rfl, hB'⟩ := hcut
  go_wp2_with fail
  go_ret
  exact ⟨rfl, BV.out.trans (hB'.out.mono BV.out.size)⟩
/-- What the walk gives, for every argument and every world: the same for both forms. -/
theorem contract (H : Type) (enc : TypeId × Value → H) (W : World) (base : Nat) (args : Array Value) (ds gs : List (DataW H)) (before : List MemPlace)
    (hval : ∀ (j : Nat) t v, Try.f7.params[j]? = some t → args[j]? = some v → Value.okWide Try.prog W .any base t v)
    (hW : DataW.Whole enc Try.prog Try.f7.params.toList Rows.fnExactCompareFractionsSpec.vars false W args.toList ds gs before)
    (hsz : (DataW.weightsEach Try.prog (Try.f7.params.toList ++ (OpenSpec.ofChange Rows.fnExactCompareFractionsSpec).bare.plain.varTypes Try.prog) (ds ++ gs)).all (· ≤ reachBytes) = true)
    (hL : laidMetH Try.prog Rows.fnExactCompareFractionsRow.laid W) (hsh : W.ShapedOpen Try.prog) :
    Calls Try.prog 7 args W fun e W' => ∃ v, e = .returned v ∧ Rows.fnExactCompareFractionsSpec.post enc Try.prog Try.f7 false true false false W args v W' := by
  have hW' := hW
  obtain ⟨p, q, hA0, hV, rfl, hfz, hnd⟩ := hW
  have hA : DataW.TrodAll enc Try.prog W 0 (fun _ => true) true Try.f7.params.toList args.toList ds p := hA0
  rw [Try.params7] at hA hval hsz
  obtain ⟨v0, vs0, d0, ds0, p0, q0, hargs, rfl, rfl, h0, r0⟩ := trodAll_cons hA
  obtain ⟨v1, vs1, d1, ds1, p1, q1, rfl, rfl, rfl, h1, r1⟩ := trodAll_cons r0
  obtain ⟨rfl, rfl, rfl⟩ := trodAll_nil r1
  obtain rfl : args = #[v0, v1] := by cases args; simp_all
  obtain ⟨rfl, rfl⟩ := trodVars_none hV
  obtain ⟨a0, b0, rfl⟩ := pairV_arg (hval 0 22 v0 rfl rfl) h0
  obtain ⟨a1, b1, rfl⟩ := pairV_arg (hval 1 22 v1 rfl rfl) h1
  refine (walk W a0 b0 a1 b1).mono fun e W' ⟨he, hb⟩ => ?_
  subst he
  exact ⟨_, rfl, law_post laidOut rfl (by kernel_rfl) (by kernel_rfl) Try.underlying4 rfl rfl rfl hW' hb⟩
noncomputable def laidWorld (os : Os) : World := World.holding Try.prog os ⟨#[], #[], []⟩
theorem laid_met (os : Os) : laidMet Try.prog Rows.fnExactCompareFractionsRow.laid ((laidWorld os).forCall (fun _ _ => 0) ⟨#[], #[.agg #[.int .i64 0, .int .i64 0], .agg #[.int .i64 0, .int .i64 0]], []⟩).memory :=
  laidMet_of_run' 8 (by kernel_rfl) (by kernel_rfl)
theorem reads (os : Os) {H : Type} (enc : TypeId × Value → H) : ∃ places, DataW.whole enc Try.prog ((laidWorld os).forCall (fun _ _ => 0) ⟨#[], #[.agg #[.int .i64 0, .int .i64 0], .agg #[.int .i64 0, .int .i64 0]], []⟩).memory Try.f7.params.toList Rows.fnExactCompareFractionsSpec.vars false (#[.agg #[.int .i64 0, .int .i64 0], .agg #[.int .i64 0, .int .i64 0]] : Array Value).toList 8 = some ([.agg [.lit (.int .i64 0), .lit (.int .i64 0)], .agg [.lit (.int .i64 0), .lit (.int .i64 0)]], [], places) :=
  ⟨[], by kernel_rfl⟩
set_option maxRecDepth 100000 in
theorem lifted (os : Os) (started : os.Started) (H : Type) (enc : TypeId × Value → H) (F : Stop.Interp) :
    ReturnsInHanded {} Try.checked os 7 .any ((OpenSpec.ofChange Rows.fnExactCompareFractionsSpec).preRow enc Try.prog Try.f7 Rows.fnExactCompareFractionsRow.domain false Rows.fnExactCompareFractionsRow.laid) (((OpenSpec.ofChange Rows.fnExactCompareFractionsSpec).at F).post enc Try.prog Try.f7 false true false false) := by
  obtain ⟨places, hx⟩ := reads os enc
  refine returnsInHanded_of_row (C := Try.checked) (s := OpenSpec.ofChange Rows.fnExactCompareFractionsSpec) own started (by kernel_rfl) Try.func7
    (witness_row_at (enc := enc) (C := Try.checked) false (laidWorld os) #[.agg #[.int .i64 0, .int .i64 0], .agg #[.int .i64 0, .int .i64 0]] rfl (by kernel_rfl) (by kernel_rfl) (by kernel_rfl)
      (OpenSpec.preRow_of_cond 8 hx (by kernel_rfl) (fun k hk => by cases hk) (by kernel_rfl) (laid_met os))) ?_
  intro W base args ds gs before hval hW _ _ hsz hL hsh _
  exact contract H enc W base args ds gs before hval hW hsz hL hsh
theorem said : Rows.FnExactCompareFractionsSaid :=
  OpenClaim.holds_of_cond 7 Try.f7 rfl rfl rfl rfl rfl rfl rfl ⟨rfl, rfl, rfl, rfl, rfl⟩ rfl rfl rfl rfl rfl (by kernel_rfl) Try.func7 (by kernel_rfl)
    (of_decide_eq_true (by kernel_rfl)) (by unfold Func.isWrapper; first | (rw [if_pos (by decide +kernel)]; kernel_rfl) | (rw [if_neg (by decide +kernel)]; exact ⟨rfl, rfl⟩))
    (fun os started H enc _ F => by rw [OpenClaim.pre_eq_preRow]; exact lifted os started H enc F)
/-- The statement. -/
theorem proved : Rows.FnExactCompareFractionsSaid := said
#print axioms proved
end Go.Proofs.Ytfnnlkbecnjloaa.fnExactCompareFractions
