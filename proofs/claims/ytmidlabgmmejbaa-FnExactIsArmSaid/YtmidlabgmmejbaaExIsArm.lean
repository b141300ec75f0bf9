/- IsArm answers as its model for every value of its arguments' types, and writes into no argument. No conditions. -/
import Derived.Test.YtmidlabgmmejbaaRows
import Derived.Test.YtmidlabgmmejbaaFrame
import Derived.Test.YtmidlabgmmejbaaLawT
import Derived.Test.YtmidlabgmmejbaaLawX
import Derived.Test.YtmidlabgmmejbaaArmL
import Derived.Test.YtmidlabgmmejbaaArmI
import Derived.Test.YtmidlabgmmejbaaArmM
import Derived.WalkKit
import Derived.ProofKit
import Derived.OpenShut
import Derived.ShutString
import Derived.SliceStrings
import Derived.Deep.DeepHandedRow
import Derived.Lib.LaidTab
import Derived.Lib.Hide
import Derived.WalkSpells
import Derived.Deep.RegionHeld3
import Derived.Deep.DeepCutAuto
import Derived.KernelRfl
namespace Go.Proofs.Ytmidlabgmmejbaa.fnExactIsArm
open Go.ChangeShapes Go.WideShapes Go.ChangeAt Go.RowKit
open Go.ChangeMaps (open_string shut_string)
set_option linter.unusedVariables false
theorem own : ownKnob Try.prog.godebug = none := by kernel_rfl
theorem laidOut : laidOutB Try.prog = true := by kernel_rfl
set_option maxRecDepth 100000 in
set_option maxHeartbeats 4000000 in
theorem walk (W : World) (ps0 ws0 cs0 : List Int) (v0 : Value) (t0 : ArmV W W.heap.size v0 ps0 ws0 cs0) : Calls Try.prog 3 #[v0] W fun e W' => e = .returned (.bool true) ∧ Below W.heap.size W W' := by
  have Z := Lib.hid (fun w' (hb : Below W.heap.size W w') => szA ps0 ws0 cs0 v0 W.heap.size 1048576 w' (by omega) (by omega) hb.size (t0.below hb))
  have TV := Lib.hid t0
  obtain ⟨p1, c1, p2, c2, py, cy, rfl⟩ := t0.shape
  clear t0
  obtain ⟨V, hV⟩ : ∃ V, V = AMBox W (.slice p1 ps0.length c1) (.slice p2 ws0.length c2) (.slice py cs0.length cy) := ⟨_, rfl⟩
  have K : Hid (∀ w1, Below V.heap.size V w1 → w1.cell? ⟨W.heap.size, 0, none⟩ = some (.slice p1 ps0.length c1) ∧ w1.cell? ⟨W.heap.size, 1, none⟩ = some (.slice p2 ws0.length c2) ∧ w1.cell? ⟨W.heap.size, 2, none⟩ = some (.slice py cs0.length cy)) := Lib.hid (by rw [hV]; exact fun w1 h => ambox_cells h)
  have BV : Hid (Below W.heap.size W V) := Lib.hid (by rw [hV]; exact ambox_below _ _ _ _)
  have sV : V.heap.size = W.heap.size + 1 := by rw [hV]; exact ambox_size _ _ _ _
  have SV := Lib.hid sV
  clear sV
  by_cases hl : leftA 1048576 ps0 ws0 cs0 < 0
  · generalize leftA 1048576 ps0 ws0 cs0 = l at *
    go_enter Try.func3, Try.ntmps3
    go_wp2_with fail
    change Calls _ _ _ (AMBox W (.slice p1 ps0.length c1) (.slice p2 ws0.length c2) (.slice py cs0.length cy)) _
    rw [← hV]
    clear hV
    refine (Z.out _ BV.out).mono ?_
    rintro e w1 ⟨rfl, b1⟩
    have HB := Lib.hid (BV.out.trans (b1.mono BV.out.size))
    clear b1
    go_wp2_with fail
    go_ret
    exact ⟨rfl, HB.out⟩
  obtain ⟨hn, hm, hk⟩ := leftA_ok hl
  have TO := Lib.hid (fun w' (hb : Below W.heap.size W w') => toA ps0 ws0 cs0 _ w' hn hm hk (TV.out.boxed hb))
  have ZS := Lib.hid (fun w' (v : Value) (h : ArmV w' w'.heap.size v ps0 ws0 cs0) => isArmS ps0 ws0 cs0 v w' hk h)
  have ZI := Lib.hid (fun w' (v : Value) (h : ArmV w' w'.heap.size v ps0 ws0 cs0) => isArmI ps0 ws0 cs0 v w' hk h)
  obtain ⟨rx, hK⟩ : ∃ b, b = armB ps0 ws0 cs0 := ⟨_, rfl⟩
  rw [← hK] at ZS ZI
  clear hK
  generalize leftA 1048576 ps0 ws0 cs0 = l at *
  go_enter Try.func3, Try.ntmps3
  go_wp2_with fail
  change Calls _ _ _ (AMBox W (.slice p1 ps0.length c1) (.slice p2 ws0.length c2) (.slice py cs0.length cy)) _
  rw [← hV]
  clear hV
  refine (Z.out _ BV.out).mono ?_
  rintro e w1 ⟨rfl, b1⟩
  have B1 := Lib.hid b1
  have s1 := b1.size
  clear b1 Z
  obtain ⟨x0, x1, x2⟩ := K.out _ B1.out
  go_wp2_with fail
  refine (TO.out _ (BV.out.trans (B1.out.mono BV.out.size))).mono ?_
  rintro e w2 ⟨u2, rfl, o2, b2⟩
  have s2 := b2.size
  have B2 := Lib.hid (below_next B1.out b2)
  clear B1
  have Xm0_2 := Lib.hid o2
  clear o2
  clear b2
  clear x0 x1 x2
  go_wp2_with fail
  refine (ZS.out _ _ (Xm0_2.out.armV.more (by omega))).mono ?_
  rintro e w3 ⟨rfl, b3⟩
  have s3 := b3.size
  have B3 := Lib.hid (below_next B2.out b3)
  have Xm0_3 := Lib.hid (Xm0_2.out.below (b3.mono (by omega)))
  clear Xm0_2
  clear B2
  clear b3
  clear Xm0_3
  obtain ⟨x0, x1, x2⟩ := K.out _ B3.out
  go_wp2_with fail
  refine (TO.out _ (BV.out.trans (B3.out.mono BV.out.size))).mono ?_
  rintro e w4 ⟨u4, rfl, o4, b4⟩
  have s4 := b4.size
  have B4 := Lib.hid (below_next B3.out b4)
  clear B3
  have Xx0_4 := Lib.hid o4
  clear o4
  clear b4
  clear x0 x1 x2
  obtain ⟨p3, c3, p4, c4, pz, cz, rfl⟩ := Xx0_4.out.shape
  obtain ⟨w5, hw⟩ : ∃ w5, w5 = w4.alloc (.cells #[.slice p3 ps0.length c3, .slice p4 ws0.length c4, .slice pz cs0.length cz] 31) := ⟨_, rfl⟩
  have b5 : Below w4.heap.size w4 w5 := by rw [hw]; exact (Below.refl _ _).alloc (Nat.le_refl _) _
  have s5 : w4.heap.size + 1 = w5.heap.size := by rw [hw]; simp
  have K5 : Hid (∀ w1, Below w5.heap.size w5 w1 → w1.cell? ⟨w4.heap.size, 0, none⟩ = some (.slice p3 ps0.length c3) ∧ w1.cell? ⟨w4.heap.size, 1, none⟩ = some (.slice p4 ws0.length c4) ∧ w1.cell? ⟨w4.heap.size, 2, none⟩ = some (.slice pz cs0.length cz)) := Lib.hid (by rw [hw]; exact fun w1 h => anbox_cells h)
  have B5 := Lib.hid (below_next B4.out b5)
  have Xx0_5 := Lib.hid (Xx0_4.out.below (b5.mono (by omega)))
  clear Xx0_4
  clear B4
  have C_5 := Lib.hid (Below.refl w5.heap.size w5)
  clear b5
  go_wp2_with fail
  change Calls _ _ _ (w4.alloc (.cells #[.slice p3 ps0.length c3, .slice p4 ws0.length c4, .slice pz cs0.length cz] 31)) _
  rw [← hw]
  clear hw
  refine (ZI.out _ _ (Xx0_5.out.armV.more (by omega))).mono ?_
  rintro e w6 ⟨rfl, b6⟩
  have s6 := b6.size
  have B6 := Lib.hid (below_next B5.out b6)
  have Xx0_6 := Lib.hid (Xx0_5.out.below (b6.mono (by omega)))
  clear Xx0_5
  have C_6 := Lib.hid (below_next C_5.out b6)
  clear C_5
  clear B5
  clear b6
  obtain ⟨x0, x1, x2⟩ := K.out _ B6.out
  obtain ⟨y0, y1, y2⟩ := K5.out _ C_6.out
  have K8 : Hid (∀ w', Below w6.heap.size w6 w' → w'.cell? ⟨w4.heap.size, 0, none⟩ = some (.slice p3 ps0.length c3) ∧ w'.cell? ⟨w4.heap.size, 1, none⟩ = some (.slice p4 ws0.length c4) ∧ w'.cell? ⟨w4.heap.size, 2, none⟩ = some (.slice pz cs0.length cz) ∧ w'.cell? ⟨W.heap.size, 0, none⟩ = some (.slice p1 ps0.length c1) ∧ w'.cell? ⟨W.heap.size, 1, none⟩ = some (.slice p2 ws0.length c2) ∧ w'.cell? ⟨W.heap.size, 2, none⟩ = some (.slice py cs0.length cy) ∧ Below w6.heap.size w6 w') := Lib.hid (fun w' hb => ⟨(K5.out _ (below_next C_6.out hb)).1, (K5.out _ (below_next C_6.out hb)).2.1, (K5.out _ (below_next C_6.out hb)).2.2, (K.out _ (below_next B6.out hb)).1, (K.out _ (below_next B6.out hb)).2.1, (K.out _ (below_next B6.out hb)).2.2, hb⟩)
  have Q7 : Hid (∀ w' u, Below w6.heap.size w6 w' → ArmV w' w'.heap.size u ps0 ws0 cs0 → Calls Try.prog 16 #[.agg #[.slice p3 ps0.length c3, .slice p4 ws0.length c4, .slice pz cs0.length cz], u] w' fun e w'' => e = .returned (.bool true) ∧ Below w'.heap.size w' w'') := Lib.hid (fun w' u hb hu => eqA ps0 ws0 cs0 _ _ w4.heap.size w'.heap.size w' ((Xx0_6.out.below (hb.mono (by omega))).armV) hu (by have := hb.size; omega) (Nat.le_refl _))
  have D7 := Lib.hid (BV.out.trans (B6.out.mono BV.out.size))
  go_upto_region 10 with fail
  go_cut [26] (fun s45 wx => s45 = .bool false ∧ Hid (Below w6.heap.size w6 wx))
  case first =>
    go_region_held3 (fun w' => w'.cell? ⟨w4.heap.size, 0, none⟩ = some (.slice p3 ps0.length c3) ∧ w'.cell? ⟨w4.heap.size, 1, none⟩ = some (.slice p4 ws0.length c4) ∧ w'.cell? ⟨w4.heap.size, 2, none⟩ = some (.slice pz cs0.length cz) ∧ w'.cell? ⟨W.heap.size, 0, none⟩ = some (.slice p1 ps0.length c1) ∧ w'.cell? ⟨W.heap.size, 1, none⟩ = some (.slice p2 ws0.length c2) ∧ w'.cell? ⟨W.heap.size, 2, none⟩ = some (.slice py cs0.length cy) ∧ Below w6.heap.size w6 w')
      (first | exact K8.out _ (below_drew (Below.refl _ _)) | exact K8.out _ hb9 | exact K8.out _ hb8)
      (first
        | (go_at_call 14; (with_reducible refine (TO.out _ (below_drew D7.out)).mono ?_); rintro e w98 ⟨u98, rfl, o98, b98⟩; (obtain ⟨p50, c50, p51, c51, p52, c52, rfl⟩ := o98.shape); (have hb8 := undrew b98); (have T8 := Lib.hid (o98.armAt (Nat.le_refl _))); clear o98 b98)
        | (go_at_call 16; (with_reducible refine (Q7.out _ _ hb8 T8.out).mono ?_); rintro e w99 ⟨rfl, b99⟩; (have hb9 := below_next hb8 b99); clear b99))
    all_goals (go_wp2_with fail; go_meet; exact ⟨rfl, Lib.hid (by assumption)⟩)
  obtain ⟨rfl, h9⟩ := hcut
  obtain ⟨w7, rfl⟩ : ∃ w9 : World, w9 = wc := ⟨_, rfl⟩
  have b7 := h9.out
  have s7 := b7.size
  clear K8 Q7 D7 h9 x0 x1 x2 y0 y1 y2
  have B7 := Lib.hid (below_next B6.out b7)
  have Xx0_7 := Lib.hid (Xx0_6.out.below (b7.mono (by omega)))
  clear Xx0_6
  have C_7 := Lib.hid (below_next C_6.out b7)
  clear C_6
  clear B6
  clear b7
  have FIN := Lib.hid (BV.out.trans (B7.out.mono BV.out.size))
  go_wp2_with fail
  go_ret
  exact ⟨rfl, FIN.out⟩
set_option maxRecDepth 100000 in
/-- What the walk gives, for every argument and every world: the same for both forms. -/
theorem contract (H : Type) (enc : TypeId × Value → H) (W : World) (base : Nat) (args : Array Value) (ds gs : List (DataW H)) (before : List MemPlace)
    (hval : ∀ (j : Nat) t v, Try.f3.params[j]? = some t → args[j]? = some v → Value.okWide Try.prog W .any base t v)
    (hW : DataW.Whole enc Try.prog Try.f3.params.toList Rows.fnExactIsArmSpec.vars false W args.toList ds gs before)
    (hsz : (DataW.weightsEach Try.prog (Try.f3.params.toList ++ (OpenSpec.ofChange Rows.fnExactIsArmSpec).bare.plain.varTypes Try.prog) (ds ++ gs)).all (· ≤ reachBytes) = true)
    (hL : laidMetH Try.prog Rows.fnExactIsArmRow.laid W) (hsh : W.ShapedOpen Try.prog) :
    Calls Try.prog 3 args W fun e W' => ∃ v, e = .returned v ∧ Rows.fnExactIsArmSpec.post enc Try.prog Try.f3 false true false false W args v W' := by
  have hW' := hW
  obtain ⟨p, q, hA0, hV, rfl, hfz, hnd⟩ := hW
  have hA : DataW.TrodAll enc Try.prog W 0 (fun _ => true) true Try.f3.params.toList args.toList ds p := hA0
  rw [Try.params3] at hA hval hsz
  obtain ⟨v0, vs0, d0, ds0, p0, q0, hargs, rfl, rfl, h0, r0⟩ := trodAll_cons hA
  obtain ⟨rfl, rfl, rfl⟩ := trodAll_nil r0
  obtain rfl : args = #[v0] := by cases args; simp_all
  obtain ⟨rfl, rfl⟩ := trodVars_none hV
  obtain ⟨ps0, ws0, cs0, t0⟩ := armV_arg (hval 0 26 v0 rfl rfl) h0
  refine (walk W ps0 ws0 cs0 v0 t0).mono fun e W' ⟨he, hb⟩ => ?_
  subst he
  exact ⟨_, rfl, law_post laidOut rfl (by kernel_rfl) (by kernel_rfl) Try.underlying4 rfl rfl rfl hW' hb⟩
noncomputable def laidWorld (os : Os) : World := World.holding Try.prog os ⟨#[], #[], []⟩
theorem laid_met (os : Os) : laidMet Try.prog Rows.fnExactIsArmRow.laid ((laidWorld os).forCall (fun _ _ => 0) ⟨#[], #[.agg #[.slice none 0 0, .slice none 0 0, .slice none 0 0]], []⟩).memory :=
  laidMet_of_run' 8 (by kernel_rfl) (by kernel_rfl)
theorem reads (os : Os) {H : Type} (enc : TypeId × Value → H) : ∃ places, DataW.whole enc Try.prog ((laidWorld os).forCall (fun _ _ => 0) ⟨#[], #[.agg #[.slice none 0 0, .slice none 0 0, .slice none 0 0]], []⟩).memory Try.f3.params.toList Rows.fnExactIsArmSpec.vars false (#[.agg #[.slice none 0 0, .slice none 0 0, .slice none 0 0]] : Array Value).toList 8 = some ([.agg [.agg [.nil, .nil], .nil]], [], places) :=
  ⟨[], by kernel_rfl⟩
set_option maxRecDepth 100000 in
theorem lifted (os : Os) (started : os.Started) (H : Type) (enc : TypeId × Value → H) (F : Stop.Interp) :
    ReturnsInHanded {} Try.checked os 3 .any ((OpenSpec.ofChange Rows.fnExactIsArmSpec).preRow enc Try.prog Try.f3 Rows.fnExactIsArmRow.domain false Rows.fnExactIsArmRow.laid) (((OpenSpec.ofChange Rows.fnExactIsArmSpec).at F).post enc Try.prog Try.f3 false true false false) := by
  obtain ⟨places, hx⟩ := reads os enc
  refine returnsInHanded_of_row (C := Try.checked) (s := OpenSpec.ofChange Rows.fnExactIsArmSpec) own started (by kernel_rfl) Try.func3
    (witness_row_at (enc := enc) (C := Try.checked) false (laidWorld os) #[.agg #[.slice none 0 0, .slice none 0 0, .slice none 0 0]] rfl (by kernel_rfl) (by kernel_rfl) (by kernel_rfl)
      (OpenSpec.preRow_of_cond 8 hx (by kernel_rfl) (fun k hk => by cases hk) (by kernel_rfl) (laid_met os))) ?_
  intro W base args ds gs before hval hW _ _ hsz hL hsh _
  exact contract H enc W base args ds gs before hval hW hsz hL hsh
theorem said : Rows.FnExactIsArmSaid :=
  OpenClaim.holds_of_cond 3 Try.f3 rfl rfl rfl rfl rfl rfl rfl ⟨rfl, rfl, rfl, rfl, rfl⟩ rfl rfl rfl rfl rfl (by kernel_rfl) Try.func3 (by kernel_rfl)
    (of_decide_eq_true (by kernel_rfl)) (by unfold Func.isWrapper; first | (rw [if_pos (by decide +kernel)]; kernel_rfl) | (rw [if_neg (by decide +kernel)]; exact ⟨rfl, rfl⟩))
    (fun os started H enc _ F => by rw [OpenClaim.pre_eq_preRow]; exact lifted os started H enc F)
/-- The statement. -/
theorem proved : Rows.FnExactIsArmSaid := said
#print axioms proved
end Go.Proofs.Ytmidlabgmmejbaa.fnExactIsArm
