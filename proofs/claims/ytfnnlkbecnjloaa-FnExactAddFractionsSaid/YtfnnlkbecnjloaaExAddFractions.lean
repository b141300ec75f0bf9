/- AddFractions answers as its model for all arguments, and nothing that was there is turned. No conditions. -/
import Derived.Test.YtfnnlkbecnjloaaRows
import Derived.Test.YtfnnlkbecnjloaaFrame
import Derived.Test.YtfnnlkbecnjloaaFracL
import Derived.WalkKit
import Derived.ProofKit
import Derived.OpenShut
import Derived.ShutString
import Derived.SliceStrings
import Derived.Deep.DeepHandedRow
import Derived.Lib.LaidTab
import Derived.Lib.Hide
import Derived.WalkSpells
import Derived.Deep.RegionHeld3
import Derived.Deep.DeepCutAuto
import Derived.KernelRfl
namespace Go.Proofs.Ytfnnlkbecnjloaa.fnExactAddFractions
open Go.ChangeShapes Go.WideShapes Go.ChangeAt Go.RowKit
open Go.ChangeMaps (open_string shut_string)
set_option linter.unusedVariables false
theorem own : ownKnob Try.prog.godebug = none := by kernel_rfl
theorem laidOut : laidOutB Try.prog = true := by kernel_rfl
set_option maxHeartbeats 2000000 in
theorem walk (W : World) (a0 b0 : Int) (a1 b1 : Int) : Calls Try.prog 5 #[.agg #[.int .i64 a0, .int .i64 b0], .agg #[.int .i64 a1, .int .i64 b1]] W fun e W' => e = .returned (.bool true) ∧ Below W.heap.size W W' := by
  have f1 := fun w => addM a0 b0 a1 b1 w
  have f2 := fun w => addI a0 b0 a1 b1 w
  obtain ⟨p, q, ok, hK⟩ := addV_form a0 b0 a1 b1
  rw [hK] at f1 f2
  have F1 := Lib.hid f1
  have F2 := Lib.hid f2
  have E := Lib.hid (fun w => eqP p q w)
  have T1 := Lib.hid (fun w => toP a0 b0 w)
  have T2 := Lib.hid (fun w => toP a1 b1 w)
  clear f1 f2 hK
  have B := blocks2_below W a0 b0 a1 b1
  obtain ⟨V, hV⟩ : ∃ V, V = Blocks2 W a0 b0 a1 b1 := ⟨_, rfl⟩
  have K : Hid (∀ w1, Below V.heap.size V w1 → Cells2 W w1 a0 b0 a1 b1) := Lib.hid (by rw [hV]; exact fun w1 h => cells2 h)
  have BV : Hid (Below W.heap.size W V) := by rw [hV]; exact Lib.hid B
  obtain ⟨x0, x1, y0, y1⟩ := K.out V (Below.refl _ _)
  clear B
  go_enter Try.func5, Try.ntmps5
  go_upto_region 1 with fail
  change Code.wp _ _ _ _ (Blocks2 W a0 b0 a1 b1)
  rw [← hV]
  clear hV
  go_cut [5, 6] (fun s5 s6 wx => ∃ g, s5 = .pointer (some ⟨g, 0, none⟩) ∧ s6 = .bool ok ∧ Hid (V.heap.size ≤ g ∧ g < wx.heap.size ∧ wx.cell? ⟨g, 0, none⟩ = some (.int .i64 p) ∧ wx.cell? ⟨g, 1, none⟩ = some (.int .i64 q)) ∧ Hid (Below V.heap.size V wx))
  case first =>
    go_region_held3 (fun w' => w'.cell? ⟨W.heap.size, 0, none⟩ = some (.int .i64 a0) ∧ w'.cell? ⟨W.heap.size, 1, none⟩ = some (.int .i64 b0) ∧ w'.cell? ⟨W.heap.size + 1, 0, none⟩ = some (.int .i64 a1) ∧ w'.cell? ⟨W.heap.size + 1, 1, none⟩ = some (.int .i64 b1) ∧ Below V.heap.size V w')
      ((refine S2_of K.out ?_; (repeat' (first | assumption | with_reducible refine below_al ?_ _ | with_reducible refine below_st ?_ ?_ _ | with_reducible refine below_drew ?_ | with_reducible exact Below.refl _ _)); all_goals (first | omega | (simp; omega) | simp)))
      (first
        | (go_at_call 16; (first | (with_reducible refine (T1.out _).mono ?_) | (with_reducible refine (T2.out _).mono ?_)); rintro e w1 ⟨rfl, c1⟩; have hb : Below V.heap.size V w1 := (by (apply BW_next c1; (repeat' (first | assumption | with_reducible refine below_al ?_ _ | with_reducible refine below_st ?_ ?_ _ | with_reducible refine below_drew ?_ | with_reducible exact Below.refl _ _)); all_goals (first | omega | (simp; omega) | simp))); obtain ⟨hc, hf⟩ := bcell c1; have hz := size_rule c1; have hz2 := hb.size; have s1 := c1.size; (try simp at s1); (try (have hv : V.heap.size < w1.heap.size := (by omega))))
        | (go_at_call 21; (with_reducible refine (F1.out _).mono ?_); rintro e w1 ⟨rfl, c1⟩; have hb : Below V.heap.size V w1 := (by (apply BW_next c1; (repeat' (first | assumption | with_reducible refine below_al ?_ _ | with_reducible refine below_st ?_ ?_ _ | with_reducible refine below_drew ?_ | with_reducible exact Below.refl _ _)); all_goals (first | omega | (simp; omega) | simp))); obtain ⟨hc, hf⟩ := bcell c1; have hz := size_rule c1; have hz2 := hb.size; have s1 := c1.size; (try simp at s1); (try (have hv : V.heap.size < w1.heap.size := (by omega)))))
    all_goals
      go_wp2_with fail
      go_meet
      refine ⟨_, rfl, rfl, Lib.hid ⟨?_, ?_, ?_, ?_⟩, Lib.hid ?_⟩
      · first | omega | (simp; omega) | simp
      · first | omega | (simp; omega) | simp
      · first | (refine pair_st0 (u := .int .i64 0) ?_; simp [*]) | simp [*]
      · first | (refine pair_st1 (u := .int .i64 0) ?_; simp [*]) | simp [*]
      · (repeat' (first | assumption | with_reducible refine below_al ?_ _ | with_reducible refine below_st ?_ ?_ _ | with_reducible refine below_drew ?_ | with_reducible exact Below.refl _ _)); all_goals (first | omega | (simp; omega) | simp)
  obtain ⟨g, rfl, rfl, hg, hB⟩ := hcut
  obtain ⟨U, rfl⟩ : ∃ U : World, U = wc := ⟨_, rfl⟩
  have K2 : Hid (∀ w1, Below U.heap.size U w1 → Cells2 W w1 a0 b0 a1 b1) := Lib.hid (fun w1 h => K.out w1 (hB.out.trans (h.mono hB.out.size)))
  clear x0 x1 y0 y1
  obtain ⟨x0, x1, y0, y1⟩ := K2.out _ (Below.refl _ _)
  go_upto_region 2 with fail
  go_cut [7, 8] (fun s5 s6 wx => ∃ g, s5 = .pointer (some ⟨g, 0, none⟩) ∧ s6 = .bool ok ∧ Hid (U.heap.size ≤ g ∧ g < wx.heap.size ∧ wx.cell? ⟨g, 0, none⟩ = some (.int .i64 p) ∧ wx.cell? ⟨g, 1, none⟩ = some (.int .i64 q)) ∧ Hid (Below U.heap.size U wx))
  case first =>
    go_region_held3 (fun w' => w'.cell? ⟨W.heap.size, 0, none⟩ = some (.int .i64 a0) ∧ w'.cell? ⟨W.heap.size, 1, none⟩ = some (.int .i64 b0) ∧ w'.cell? ⟨W.heap.size + 1, 0, none⟩ = some (.int .i64 a1) ∧ w'.cell? ⟨W.heap.size + 1, 1, none⟩ = some (.int .i64 b1) ∧ Below U.heap.size U w')
      ((refine S2_of K2.out ?_; (repeat' (first | assumption | with_reducible refine below_al ?_ _ | with_reducible refine below_st ?_ ?_ _ | with_reducible refine below_drew ?_ | with_reducible exact Below.refl _ _)); all_goals (first | omega | (simp; omega) | simp)))
      (first
        | (go_at_call 16; (first | (with_reducible refine (T1.out _).mono ?_) | (with_reducible refine (T2.out _).mono ?_)); rintro e w1 ⟨rfl, c1⟩; have hb : Below U.heap.size U w1 := (by (apply BW_next c1; (repeat' (first | assumption | with_reducible refine below_al ?_ _ | with_reducible refine below_st ?_ ?_ _ | with_reducible refine below_drew ?_ | with_reducible exact Below.refl _ _)); all_goals (first | omega | (simp; omega) | simp))); obtain ⟨hc, hf⟩ := bcell c1; have hz := size_rule c1; have hz2 := hb.size; have s1 := c1.size; (try simp at s1); (try (have hv : U.heap.size < w1.heap.size := (by omega))))
        | (go_at_call 22; (with_reducible refine (F2.out _).mono ?_); rintro e w1 ⟨rfl, c1⟩; have hb : Below U.heap.size U w1 := (by (apply BW_next c1; (repeat' (first | assumption | with_reducible refine below_al ?_ _ | with_reducible refine below_st ?_ ?_ _ | with_reducible refine below_drew ?_ | with_reducible exact Below.refl _ _)); all_goals (first | omega | (simp; omega) | simp))); obtain ⟨hc, hf⟩ := bcell c1; have hz := size_rule c1; have hz2 := hb.size; have s1 := c1.size; (try simp at s1); (try (have hv : U.heap.size < w1.heap.size := (by omega)))))
    all_goals
      go_wp2_with fail
      go_meet
      refine ⟨_, rfl, rfl, Lib.hid ⟨?_, ?_, ?_, ?_⟩, Lib.hid ?_⟩
      · first | omega | (simp; omega) | simp
      · first | omega | (simp; omega) | simp
      · first | (refine pair_st0 (u := .int .i64 0) ?_; simp [*]) | simp [*]
      · first | (refine pair_st1 (u := .int .i64 0) ?_; simp [*]) | simp [*]
      · (repeat' (first | assumption | with_reducible refine below_al ?_ _ | with_reducible refine below_st ?_ ?_ _ | with_reducible refine below_drew ?_ | with_reducible exact Below.refl _ _)); all_goals (first | omega | (simp; omega) | simp)
  obtain ⟨g2, rfl, rfl, hg2, hB2⟩ := hcut
  obtain ⟨U2, rfl⟩ : ∃ U : World, U = wc := ⟨_, rfl⟩
  clear x0 x1 y0 y1
  have x0 : U2.cell? ⟨g, 0, none⟩ = some (.int .i64 p) := by rw [hB2.out.cell (p := ⟨g, 0, none⟩) hg.out.2.1]; exact hg.out.2.2.1
  have x1 : U2.cell? ⟨g, 1, none⟩ = some (.int .i64 q) := by rw [hB2.out.cell (p := ⟨g, 1, none⟩) hg.out.2.1]; exact hg.out.2.2.2
  have y0 := hg2.out.2.2.1
  have y1 := hg2.out.2.2.2
  go_wp2_with fail
  refine (E.out _).mono ?_
  rintro e w3 ⟨rfl, b3⟩
  have B3 := Lib.hid (BV.out.trans ((hB.out.trans ((hB2.out.trans (b3.mono hB2.out.size)).mono hB.out.size)).mono BV.out.size))
  clear b3 x0 x1 y0 y1
  go_wp2_with fail
  go_ret
  exact ⟨rfl, B3.out⟩
/-- What the walk gives, for every argument and every world: the same for both forms. -/
theorem contract (H : Type) (enc : TypeId × Value → H) (W : World) (base : Nat) (args : Array Value) (ds gs : List (DataW H)) (before : List MemPlace)
    (hval : ∀ (j : Nat) t v, Try.f5.params[j]? = some t → args[j]? = some v → Value.okWide Try.prog W .any base t v)
    (hW : DataW.Whole enc Try.prog Try.f5.params.toList Rows.fnExactAddFractionsSpec.vars false W args.toList ds gs before)
    (hsz : (DataW.weightsEach Try.prog (Try.f5.params.toList ++ (OpenSpec.ofChange Rows.fnExactAddFractionsSpec).bare.plain.varTypes Try.prog) (ds ++ gs)).all (· ≤ reachBytes) = true)
    (hL : laidMetH Try.prog Rows.fnExactAddFractionsRow.laid W) (hsh : W.ShapedOpen Try.prog) :
    Calls Try.prog 5 args W fun e W' => ∃ v, e = .returned v ∧ Rows.fnExactAddFractionsSpec.post enc Try.prog Try.f5 false true false false W args v W' := by
  have hW' := hW
  obtain ⟨p, q, hA0, hV, rfl, hfz, hnd⟩ := hW
  have hA : DataW.TrodAll enc Try.prog W 0 (fun _ => true) true Try.f5.params.toList args.toList ds p := hA0
  rw [Try.params5] at hA hval hsz
  obtain ⟨v0, vs0, d0, ds0, p0, q0, hargs, rfl, rfl, h0, r0⟩ := trodAll_cons hA
  obtain ⟨v1, vs1, d1, ds1, p1, q1, rfl, rfl, rfl, h1, r1⟩ := trodAll_cons r0
  obtain ⟨rfl, rfl, rfl⟩ := trodAll_nil r1
  obtain rfl : args = #[v0, v1] := by cases args; simp_all
  obtain ⟨rfl, rfl⟩ := trodVars_none hV
  obtain ⟨a0, b0, rfl⟩ := pairV_arg (hval 0 22 v0 rfl rfl) h0
  obtain ⟨a1, b1, rfl⟩ := pairV_arg (hval 1 22 v1 rfl rfl) h1
  refine (walk W a0 b0 a1 b1).mono fun e W' ⟨he, hb⟩ => ?_
  subst he
  exact ⟨_, rfl, law_post laidOut rfl (by kernel_rfl) (by kernel_rfl) Try.underlying4 rfl rfl rfl hW' hb⟩
noncomputable def laidWorld (os : Os) : World := World.holding Try.prog os ⟨#[], #[], []⟩
theorem laid_met (os : Os) : laidMet Try.prog Rows.fnExactAddFractionsRow.laid ((laidWorld os).forCall (fun _ _ => 0) ⟨#[], #[.agg #[.int .i64 0, .int .i64 0], .agg #[.int .i64 0, .int .i64 0]], []⟩).memory :=
  laidMet_of_run' 8 (by kernel_rfl) (by kernel_rfl)
theorem reads (os : Os) {H : Type} (enc : TypeId × Value → H) : ∃ places, DataW.whole enc Try.prog ((laidWorld os).forCall (fun _ _ => 0) ⟨#[], #[.agg #[.int .i64 0, .int .i64 0], .agg #[.int .i64 0, .int .i64 0]], []⟩).memory Try.f5.params.toList Rows.fnExactAddFractionsSpec.vars false (#[.agg #[.int .i64 0, .int .i64 0], .agg #[.int .i64 0, .int .i64 0]] : Array Value).toList 8 = some ([.agg [.lit (.int .i64 0), .lit (.int .i64 0)], .agg [.lit (.int .i64 0), .lit (.int .i64 0)]], [], places) :=
  ⟨[], by kernel_rfl⟩
set_option maxRecDepth 100000 in
theorem lifted (os : Os) (started : os.Started) (H : Type) (enc : TypeId × Value → H) (F : Stop.Interp) :
    ReturnsInHanded {} Try.checked os 5 .any ((OpenSpec.ofChange Rows.fnExactAddFractionsSpec).preRow enc Try.prog Try.f5 Rows.fnExactAddFractionsRow.domain false Rows.fnExactAddFractionsRow.laid) (((OpenSpec.ofChange Rows.fnExactAddFractionsSpec).at F).post enc Try.prog Try.f5 false true false false) := by
  obtain ⟨places, hx⟩ := reads os enc
  refine returnsInHanded_of_row (C := Try.checked) (s := OpenSpec.ofChange Rows.fnExactAddFractionsSpec) own started (by kernel_rfl) Try.func5
    (witness_row_at (enc := enc) (C := Try.checked) false (laidWorld os) #[.agg #[.int .i64 0, .int .i64 0], .agg #[.int .i64 0, .int .i64 0]] rfl (by kernel_rfl) (by kernel_rfl) (by kernel_rfl)
      (OpenSpec.preRow_of_cond 8 hx (by kernel_rfl) (fun k hk => by cases hk) (by kernel_rfl) (laid_met os))) ?_
  intro W base args ds gs before hval hW _ _ hsz hL hsh _
  exact contract H enc W base args ds gs before hval hW hsz hL hsh
theorem said : Rows.FnExactAddFractionsSaid :=
  OpenClaim.holds_of_cond 5 Try.f5 rfl rfl rfl rfl rfl rfl rfl ⟨rfl, rfl, rfl, rfl, rfl⟩ rfl rfl rfl rfl rfl (by kernel_rfl) Try.func5 (by kernel_rfl)
    (of_decide_eq_true (by kernel_rfl)) (by unfold Func.isWrapper; first | (rw [if_pos (by decide +kernel)]; kernel_rfl) | (rw [if_neg (by decide +kernel)]; exact ⟨rfl, rfl⟩))
    (fun os started H enc _ F => by rw [OpenClaim.pre_eq_preRow]; exact lifted os started H enc F)
/-- The statement. -/
theorem proved : Rows.FnExactAddFractionsSaid := said
#print axioms proved
end Go.Proofs.Ytfnnlkbecnjloaa.fnExactAddFractions
