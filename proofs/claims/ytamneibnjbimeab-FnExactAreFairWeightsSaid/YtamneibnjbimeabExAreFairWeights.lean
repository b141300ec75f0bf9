/- AreFairWeights answers as its model for every value of its arguments' types, and writes into no argument. No conditions. -/
import Derived.Test.YtamneibnjbimeabRows
import Derived.Test.YtamneibnjbimeabFrame
import Derived.Test.YtamneibnjbimeabLawT
import Derived.Test.YtamneibnjbimeabLawX
import Derived.Test.YtamneibnjbimeabAwA
import Derived.WalkKit
import Derived.ProofKit
import Derived.OpenShut
import Derived.ShutString
import Derived.SliceStrings
import Derived.Deep.DeepHandedRow
import Derived.Lib.LaidTab
import Derived.Lib.Hide
import Derived.WalkSpells
import Derived.Deep.RegionHeld3
import Derived.Deep.DeepCutAuto
import Derived.KernelRfl
namespace Go.Proofs.Ytamneibnjbimeab.fnExactAreFairWeights
open Go.ChangeShapes Go.WideShapes Go.ChangeAt Go.RowKit
open Go.ChangeMaps (open_string shut_string)
set_option linter.unusedVariables false
theorem own : ownKnob Try.prog.godebug = none := by kernel_rfl
theorem laidOut : laidOutB Try.prog = true := by kernel_rfl
set_option maxRecDepth 100000 in
set_option maxHeartbeats 4000000 in
theorem walk (W : World) (ps0 ws0 cs0 : List Int) (v0 : Value) (t0 : MktV W W.heap.size v0 ps0 ws0 cs0) (zs1 : List Int) (v1 : Value) (t1 : IntsV W W.heap.size v1 zs1) : Calls Try.prog 8 #[v0, v1] W fun e W' => e = .returned (.bool true) ∧ Below W.heap.size W W' := by
  have Z := Lib.hid (fun w' (hb : Below W.heap.size W w') => szM ps0 ws0 cs0 v0 W.heap.size 1048576 w' (by omega) (by omega) hb.size (t0.below hb))
  have TV := Lib.hid t0
  have TI1 := Lib.hid (fun (hn : zs1.length ≤ 1048576) w' (hb : Below W.heap.size W w') => toI zs1 v1 w' hn ((t1.below hb).more hb.size))
  obtain ⟨p1, c1, p2, c2, py, cy, rfl⟩ := t0.shape
  clear t0
  obtain ⟨q1, d1, rfl, _⟩ := t1
  obtain ⟨V, hV⟩ : ∃ V, V = MBox W (.slice p1 ps0.length c1) (.slice p2 ws0.length c2) (.slice py cs0.length cy) := ⟨_, rfl⟩
  have K : Hid (∀ w1, Below V.heap.size V w1 → w1.cell? ⟨W.heap.size, 0, none⟩ = some (.slice p1 ps0.length c1) ∧ w1.cell? ⟨W.heap.size, 1, none⟩ = some (.slice p2 ws0.length c2) ∧ w1.cell? ⟨W.heap.size, 2, none⟩ = some (.slice py cs0.length cy)) := Lib.hid (by rw [hV]; exact fun w1 h => mbox_cells h)
  have BV : Hid (Below W.heap.size W V) := Lib.hid (by rw [hV]; exact mbox_below _ _ _ _)
  have sV : V.heap.size = W.heap.size + 1 := by rw [hV]; exact mbox_size _ _ _ _
  have SV := Lib.hid sV
  clear sV
  by_cases hn1 : ¬ zs1.length ≤ 1048576
  · have hgt : ((zs1.length : Int) > 1048576) := by omega
    clear hn1
    go_enter Try.func8, Try.ntmps8
    go_wp2_with fail
    go_ret
    exact ⟨rfl, mbox_below _ _ _ _⟩
  have hn1 := Decidable.not_not.1 hn1
  by_cases hl : leftM 1048576 ps0 ws0 cs0 < 0
  · generalize leftM 1048576 ps0 ws0 cs0 = l at *
    go_enter Try.func8, Try.ntmps8
    go_wp2_with fail
    change Calls _ _ _ (MBox W (.slice p1 ps0.length c1) (.slice p2 ws0.length c2) (.slice py cs0.length cy)) _
    rw [← hV]
    clear hV
    refine (Z.out _ BV.out).mono ?_
    rintro e w1 ⟨rfl, b1⟩
    have HB := Lib.hid (BV.out.trans (b1.mono BV.out.size))
    clear b1
    go_wp2_with fail
    go_ret
    exact ⟨rfl, HB.out⟩
  obtain ⟨hn, hm, hk⟩ := leftM_ok hl
  have TO := Lib.hid (fun w' (hb : Below W.heap.size W w') => toM ps0 ws0 cs0 _ w' hn hm hk (TV.out.boxed hb))
  have ZS := Lib.hid (fun w' (v : Value) (u1 : Value) (h : MktV w' w'.heap.size v ps0 ws0 cs0) (h1 : IntsV w' w'.heap.size u1 zs1) => afwS ps0 ws0 cs0 zs1 v u1 w' hk hn1 h h1)
  have ZI := Lib.hid (fun w' (v : Value) (u1 : Value) (h : MktV w' w'.heap.size v ps0 ws0 cs0) (h1 : IntsV w' w'.heap.size u1 zs1) => afwI ps0 ws0 cs0 zs1 v u1 w' hk hn1 h h1)
  obtain ⟨rx, ok, hK⟩ := awV_form ps0 ws0 cs0 zs1
  rw [hK] at ZS ZI
  clear hK
  generalize leftM 1048576 ps0 ws0 cs0 = l at *
  go_enter Try.func8, Try.ntmps8
  go_wp2_with fail
  change Calls _ _ _ (MBox W (.slice p1 ps0.length c1) (.slice p2 ws0.length c2) (.slice py cs0.length cy)) _
  rw [← hV]
  clear hV
  refine (Z.out _ BV.out).mono ?_
  rintro e w1 ⟨rfl, b1⟩
  have B1 := Lib.hid b1
  have s1 := b1.size
  clear b1 Z
  obtain ⟨x0, x1, x2⟩ := K.out _ B1.out
  go_wp2_with fail
  refine (TO.out _ (BV.out.trans (B1.out.mono BV.out.size))).mono ?_
  rintro e w2 ⟨u2, rfl, o2, b2⟩
  have s2 := b2.size
  have B2 := Lib.hid (below_next B1.out b2)
  clear B1
  have Xm0_2 := Lib.hid o2
  clear o2
  clear b2
  clear x0 x1 x2
  go_wp2_with fail
  refine (TI1.out hn1 _ (BV.out.trans (B2.out.mono BV.out.size))).mono ?_
  rintro e w3 ⟨u3, rfl, o3, b3⟩
  have s3 := b3.size
  have B3 := Lib.hid (below_next B2.out b3)
  have Xm0_3 := Lib.hid (Xm0_2.out.below (b3.mono (by omega)))
  clear Xm0_2
  clear B2
  have Xm1_3 := Lib.hid o3
  clear o3
  clear b3
  go_wp2_with fail
  refine (ZS.out _ _ _ (Xm0_3.out.mktV.more (by omega)) (Xm1_3.out.intsV.more (by omega))).mono ?_
  rintro e w4 ⟨rfl, b4⟩
  have s4 := b4.size
  have B4 := Lib.hid (below_next B3.out b4)
  have Xm0_4 := Lib.hid (Xm0_3.out.below (b4.mono (by omega)))
  clear Xm0_3
  have Xm1_4 := Lib.hid (Xm1_3.out.below (b4.mono (by omega)))
  clear Xm1_3
  clear B3
  clear b4
  clear Xm0_4
  clear Xm1_4
  obtain ⟨x0, x1, x2⟩ := K.out _ B4.out
  go_wp2_with fail
  refine (TO.out _ (BV.out.trans (B4.out.mono BV.out.size))).mono ?_
  rintro e w5 ⟨u5, rfl, o5, b5⟩
  have s5 := b5.size
  have B5 := Lib.hid (below_next B4.out b5)
  clear B4
  have Xx0_5 := Lib.hid o5
  clear o5
  clear b5
  clear x0 x1 x2
  obtain ⟨p3, c3, p4, c4, pz, cz, rfl⟩ := Xx0_5.out.shape
  obtain ⟨w6, hw⟩ : ∃ w6, w6 = w5.alloc (.cells #[.slice p3 ps0.length c3, .slice p4 ws0.length c4, .slice pz cs0.length cz] 32) := ⟨_, rfl⟩
  have b6 : Below w5.heap.size w5 w6 := by rw [hw]; exact (Below.refl _ _).alloc (Nat.le_refl _) _
  have s6 : w5.heap.size + 1 = w6.heap.size := by rw [hw]; simp
  have K5 : Hid (∀ w1, Below w6.heap.size w6 w1 → w1.cell? ⟨w5.heap.size, 0, none⟩ = some (.slice p3 ps0.length c3) ∧ w1.cell? ⟨w5.heap.size, 1, none⟩ = some (.slice p4 ws0.length c4) ∧ w1.cell? ⟨w5.heap.size, 2, none⟩ = some (.slice pz cs0.length cz)) := Lib.hid (by rw [hw]; exact fun w1 h => nbox_cells h)
  have B6 := Lib.hid (below_next B5.out b6)
  have Xx0_6 := Lib.hid (Xx0_5.out.below (b6.mono (by omega)))
  clear Xx0_5
  clear B5
  have C_6 := Lib.hid (Below.refl w6.heap.size w6)
  clear b6
  go_wp2_with fail
  change Calls _ _ _ (w5.alloc (.cells #[.slice p3 ps0.length c3, .slice p4 ws0.length c4, .slice pz cs0.length cz] 32)) _
  rw [← hw]
  clear hw
  refine (TI1.out hn1 _ (BV.out.trans (B6.out.mono BV.out.size))).mono ?_
  rintro e w7 ⟨u7, rfl, o7, b7⟩
  have s7 := b7.size
  have B7 := Lib.hid (below_next B6.out b7)
  have Xx0_7 := Lib.hid (Xx0_6.out.below (b7.mono (by omega)))
  clear Xx0_6
  have C_7 := Lib.hid (below_next C_6.out b7)
  clear C_6
  clear B6
  have Xx1_7 := Lib.hid o7
  clear o7
  clear b7
  obtain ⟨y0, y1, y2⟩ := K5.out _ C_7.out
  go_wp2_with fail
  refine (ZI.out _ _ _ (Xx0_7.out.mktV.more (by omega)) (Xx1_7.out.intsV.more (by omega))).mono ?_
  rintro e w8 ⟨rfl, b8⟩
  have s8 := b8.size
  have B8 := Lib.hid (below_next B7.out b8)
  have Xx0_8 := Lib.hid (Xx0_7.out.below (b8.mono (by omega)))
  clear Xx0_7
  have C_8 := Lib.hid (below_next C_7.out b8)
  clear C_7
  have Xx1_8 := Lib.hid (Xx1_7.out.below (b8.mono (by omega)))
  clear Xx1_7
  clear B7
  clear b8
  clear y0 y1 y2
  obtain ⟨x0, x1, x2⟩ := K.out _ B8.out
  obtain ⟨y0, y1, y2⟩ := K5.out _ C_8.out
  have K8 : Hid (∀ w', Below w8.heap.size w8 w' → w'.cell? ⟨w5.heap.size, 0, none⟩ = some (.slice p3 ps0.length c3) ∧ w'.cell? ⟨w5.heap.size, 1, none⟩ = some (.slice p4 ws0.length c4) ∧ w'.cell? ⟨w5.heap.size, 2, none⟩ = some (.slice pz cs0.length cz) ∧ w'.cell? ⟨W.heap.size, 0, none⟩ = some (.slice p1 ps0.length c1) ∧ w'.cell? ⟨W.heap.size, 1, none⟩ = some (.slice p2 ws0.length c2) ∧ w'.cell? ⟨W.heap.size, 2, none⟩ = some (.slice py cs0.length cy) ∧ Below w8.heap.size w8 w') := Lib.hid (fun w' hb => ⟨(K5.out _ (below_next C_8.out hb)).1, (K5.out _ (below_next C_8.out hb)).2.1, (K5.out _ (below_next C_8.out hb)).2.2, (K.out _ (below_next B8.out hb)).1, (K.out _ (below_next B8.out hb)).2.1, (K.out _ (below_next B8.out hb)).2.2, hb⟩)
  have Q7 : Hid (∀ w' u, Below w8.heap.size w8 w' → MktV w' w'.heap.size u ps0 ws0 cs0 → Calls Try.prog 17 #[.agg #[.slice p3 ps0.length c3, .slice p4 ws0.length c4, .slice pz cs0.length cz], u] w' fun e w'' => e = .returned (.bool true) ∧ Below w'.heap.size w' w'') := Lib.hid (fun w' u hb hu => eqM ps0 ws0 cs0 _ _ w5.heap.size w'.heap.size w' ((Xx0_8.out.below (hb.mono (by omega))).mktV) hu (by have := hb.size; omega) (Nat.le_refl _))
  have D7 := Lib.hid (BV.out.trans (B8.out.mono BV.out.size))
  go_upto_region 13 with fail
  go_cut [50] (fun s45 wx => s45 = .bool false ∧ Hid (Below w8.heap.size w8 wx))
  case first =>
    go_region_held3 (fun w' => w'.cell? ⟨w5.heap.size, 0, none⟩ = some (.slice p3 ps0.length c3) ∧ w'.cell? ⟨w5.heap.size, 1, none⟩ = some (.slice p4 ws0.length c4) ∧ w'.cell? ⟨w5.heap.size, 2, none⟩ = some (.slice pz cs0.length cz) ∧ w'.cell? ⟨W.heap.size, 0, none⟩ = some (.slice p1 ps0.length c1) ∧ w'.cell? ⟨W.heap.size, 1, none⟩ = some (.slice p2 ws0.length c2) ∧ w'.cell? ⟨W.heap.size, 2, none⟩ = some (.slice py cs0.length cy) ∧ Below w8.heap.size w8 w')
      (first | exact K8.out _ (below_drew (Below.refl _ _)) | exact K8.out _ hb9 | exact K8.out _ hb8)
      (first
        | (go_at_call 14; (with_reducible refine (TO.out _ (below_drew D7.out)).mono ?_); rintro e w98 ⟨u98, rfl, o98, b98⟩; (obtain ⟨p50, c50, p51, c51, p52, c52, rfl⟩ := o98.shape); (have hb8 := undrew b98); (have T8 := Lib.hid (o98.mktAt (Nat.le_refl _))); clear o98 b98)
        | (go_at_call 17; (with_reducible refine (Q7.out _ _ hb8 T8.out).mono ?_); rintro e w99 ⟨rfl, b99⟩; (have hb9 := below_next hb8 b99); clear b99))
    all_goals (go_wp2_with fail; go_meet; exact ⟨rfl, Lib.hid (by assumption)⟩)
  obtain ⟨rfl, h9⟩ := hcut
  obtain ⟨w9, rfl⟩ : ∃ w9 : World, w9 = wc := ⟨_, rfl⟩
  have b9 := h9.out
  have s9 := b9.size
  clear K8 Q7 D7 h9 x0 x1 x2 y0 y1 y2
  have B9 := Lib.hid (below_next B8.out b9)
  have Xx0_9 := Lib.hid (Xx0_8.out.below (b9.mono (by omega)))
  clear Xx0_8
  have C_9 := Lib.hid (below_next C_8.out b9)
  clear C_8
  have Xx1_9 := Lib.hid (Xx1_8.out.below (b9.mono (by omega)))
  clear Xx1_8
  clear B8
  clear b9
  go_wp2_with fail
  refine (TI1.out hn1 _ (BV.out.trans (B9.out.mono BV.out.size))).mono ?_
  rintro e w10 ⟨u10, rfl, o10, b10⟩
  have s10 := b10.size
  have B10 := Lib.hid (below_next B9.out b10)
  have Xx0_10 := Lib.hid (Xx0_9.out.below (b10.mono (by omega)))
  clear Xx0_9
  have C_10 := Lib.hid (below_next C_9.out b10)
  clear C_9
  have Xx1_10 := Lib.hid (Xx1_9.out.below (b10.mono (by omega)))
  clear Xx1_9
  clear B9
  have Y_10 := Lib.hid o10
  clear o10
  clear b10
  go_wp2_with fail
  refine (eqIB zs1 _ _ _ _ w10 Xx1_10.out.intsV Y_10.out.intsV).mono ?_
  rintro e w11 ⟨rfl, b11⟩
  have s11 := b11.size
  have B11 := Lib.hid (below_next B10.out b11)
  have Xx0_11 := Lib.hid (Xx0_10.out.below (b11.mono (by omega)))
  clear Xx0_10
  have C_11 := Lib.hid (below_next C_10.out b11)
  clear C_10
  have Xx1_11 := Lib.hid (Xx1_10.out.below (b11.mono (by omega)))
  clear Xx1_10
  have Y_11 := Lib.hid (Y_10.out.below (b11.mono (by omega)))
  clear Y_10
  clear B10
  clear b11
  clear Y_11
  have FIN := Lib.hid (BV.out.trans (B11.out.mono BV.out.size))
  go_wp2_with fail
  go_ret
  exact ⟨rfl, FIN.out⟩
set_option maxRecDepth 100000 in
/-- What the walk gives, for every argument and every world: the same for both forms. -/
theorem contract (H : Type) (enc : TypeId × Value → H) (W : World) (base : Nat) (args : Array Value) (ds gs : List (DataW H)) (before : List MemPlace)
    (hval : ∀ (j : Nat) t v, Try.f8.params[j]? = some t → args[j]? = some v → Value.okWide Try.prog W .any base t v)
    (hW : DataW.Whole enc Try.prog Try.f8.params.toList Rows.fnExactAreFairWeightsSpec.vars false W args.toList ds gs before)
    (hsz : (DataW.weightsEach Try.prog (Try.f8.params.toList ++ (OpenSpec.ofChange Rows.fnExactAreFairWeightsSpec).bare.plain.varTypes Try.prog) (ds ++ gs)).all (· ≤ reachBytes) = true)
    (hL : laidMetH Try.prog Rows.fnExactAreFairWeightsRow.laid W) (hsh : W.ShapedOpen Try.prog) :
    Calls Try.prog 8 args W fun e W' => ∃ v, e = .returned v ∧ Rows.fnExactAreFairWeightsSpec.post enc Try.prog Try.f8 false true false false W args v W' := by
  have hW' := hW
  obtain ⟨p, q, hA0, hV, rfl, hfz, hnd⟩ := hW
  have hA : DataW.TrodAll enc Try.prog W 0 (fun _ => true) true Try.f8.params.toList args.toList ds p := hA0
  rw [Try.params8] at hA hval hsz
  obtain ⟨v0, vs0, d0, ds0, p0, q0, hargs, rfl, rfl, h0, r0⟩ := trodAll_cons hA
  obtain ⟨v1, vs1, d1, ds1, p1, q1, rfl, rfl, rfl, h1, r1⟩ := trodAll_cons r0
  obtain ⟨rfl, rfl, rfl⟩ := trodAll_nil r1
  obtain rfl : args = #[v0, v1] := by cases args; simp_all
  obtain ⟨rfl, rfl⟩ := trodVars_none hV
  obtain ⟨ps0, ws0, cs0, t0⟩ := mktV_arg (hval 0 26 v0 rfl rfl) h0
  obtain ⟨zs1, t1⟩ := intsV_arg (hval 1 22 v1 rfl rfl) h1
  refine (walk W ps0 ws0 cs0 v0 t0 zs1 v1 t1).mono fun e W' ⟨he, hb⟩ => ?_
  subst he
  exact ⟨_, rfl, law_post laidOut rfl (by kernel_rfl) (by kernel_rfl) Try.underlying4 rfl rfl rfl hW' hb⟩
noncomputable def laidWorld (os : Os) : World := World.holding Try.prog os ⟨#[], #[], []⟩
theorem laid_met (os : Os) : laidMet Try.prog Rows.fnExactAreFairWeightsRow.laid ((laidWorld os).forCall (fun _ _ => 0) ⟨#[], #[.agg #[.slice none 0 0, .slice none 0 0, .slice none 0 0], .slice none 0 0], []⟩).memory :=
  laidMet_of_run' 8 (by kernel_rfl) (by kernel_rfl)
theorem reads (os : Os) {H : Type} (enc : TypeId × Value → H) : ∃ places, DataW.whole enc Try.prog ((laidWorld os).forCall (fun _ _ => 0) ⟨#[], #[.agg #[.slice none 0 0, .slice none 0 0, .slice none 0 0], .slice none 0 0], []⟩).memory Try.f8.params.toList Rows.fnExactAreFairWeightsSpec.vars false (#[.agg #[.slice none 0 0, .slice none 0 0, .slice none 0 0], .slice none 0 0] : Array Value).toList 8 = some ([.agg [.agg [.nil, .nil], .nil], .nil], [], places) :=
  ⟨[], by kernel_rfl⟩
set_option maxRecDepth 100000 in
theorem lifted (os : Os) (started : os.Started) (H : Type) (enc : TypeId × Value → H) (F : Stop.Interp) :
    ReturnsInHanded {} Try.checked os 8 .any ((OpenSpec.ofChange Rows.fnExactAreFairWeightsSpec).preRow enc Try.prog Try.f8 Rows.fnExactAreFairWeightsRow.domain false Rows.fnExactAreFairWeightsRow.laid) (((OpenSpec.ofChange Rows.fnExactAreFairWeightsSpec).at F).post enc Try.prog Try.f8 false true false false) := by
  obtain ⟨places, hx⟩ := reads os enc
  refine returnsInHanded_of_row (C := Try.checked) (s := OpenSpec.ofChange Rows.fnExactAreFairWeightsSpec) own started (by kernel_rfl) Try.func8
    (witness_row_at (enc := enc) (C := Try.checked) false (laidWorld os) #[.agg #[.slice none 0 0, .slice none 0 0, .slice none 0 0], .slice none 0 0] rfl (by kernel_rfl) (by kernel_rfl) (by kernel_rfl)
      (OpenSpec.preRow_of_cond 8 hx (by kernel_rfl) (fun k hk => by cases hk) (by kernel_rfl) (laid_met os))) ?_
  intro W base args ds gs before hval hW _ _ hsz hL hsh _
  exact contract H enc W base args ds gs before hval hW hsz hL hsh
theorem said : Rows.FnExactAreFairWeightsSaid :=
  OpenClaim.holds_of_cond 8 Try.f8 rfl rfl rfl rfl rfl rfl rfl ⟨rfl, rfl, rfl, rfl, rfl⟩ rfl rfl rfl rfl rfl (by kernel_rfl) Try.func8 (by kernel_rfl)
    (of_decide_eq_true (by kernel_rfl)) (by unfold Func.isWrapper; first | (rw [if_pos (by decide +kernel)]; kernel_rfl) | (rw [if_neg (by decide +kernel)]; exact ⟨rfl, rfl⟩))
    (fun os started H enc _ F => by rw [OpenClaim.pre_eq_preRow]; exact lifted os started H enc F)
/-- The statement. -/
theorem proved : Rows.FnExactAreFairWeightsSaid := said
#print axioms proved
end Go.Proofs.Ytamneibnjbimeab.fnExactAreFairWeights
