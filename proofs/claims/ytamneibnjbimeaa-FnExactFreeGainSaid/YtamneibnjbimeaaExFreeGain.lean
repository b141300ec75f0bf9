/- FreeGain answers as its model for every value of its arguments' types, and writes into no argument. No conditions. -/
import Derived.Test.YtamneibnjbimeaaRows
import Derived.Test.YtamneibnjbimeaaFrame
import Derived.Test.YtamneibnjbimeaaLawT
import Derived.Test.YtamneibnjbimeaaLawX
import Derived.Test.YtamneibnjbimeaaMktL
import Derived.Test.YtamneibnjbimeaaFreM
import Derived.WalkKit
import Derived.ProofKit
import Derived.OpenShut
import Derived.ShutString
import Derived.SliceStrings
import Derived.Deep.DeepHandedRow
import Derived.Lib.LaidTab
import Derived.Lib.Hide
import Derived.WalkSpells
import Derived.Deep.RegionHeld3
import Derived.Deep.DeepCutAuto
import Derived.KernelRfl
namespace Go.Proofs.Ytamneibnjbimeaa.fnExactFreeGain
open Go.ChangeShapes Go.WideShapes Go.ChangeAt Go.RowKit
open Go.ChangeMaps (open_string shut_string)
set_option linter.unusedVariables false
theorem own : ownKnob Try.prog.godebug = none := by kernel_rfl
theorem laidOut : laidOutB Try.prog = true := by kernel_rfl
set_option maxRecDepth 100000 in
set_option maxHeartbeats 4000000 in
theorem walk (W : World) (ps0 ws0 cs0 : List Int) (v0 : Value) (t0 : MktV W W.heap.size v0 ps0 ws0 cs0) : Calls Try.prog 8 #[v0] W fun e W' => e = .returned (.bool true) ∧ Below W.heap.size W W' := by
  have Z := Lib.hid (fun w' (hb : Below W.heap.size W w') => szM ps0 ws0 cs0 v0 W.heap.size 1048576 w' (by omega) (by omega) hb.size (t0.below hb))
  have TV := Lib.hid t0
  obtain ⟨p1, c1, p2, c2, py, cy, rfl⟩ := t0.shape
  clear t0
  obtain ⟨V, hV⟩ : ∃ V, V = MBox W (.slice p1 ps0.length c1) (.slice p2 ws0.length c2) (.slice py cs0.length cy) := ⟨_, rfl⟩
  have K : Hid (∀ w1, Below V.heap.size V w1 → w1.cell? ⟨W.heap.size, 0, none⟩ = some (.slice p1 ps0.length c1) ∧ w1.cell? ⟨W.heap.size, 1, none⟩ = some (.slice p2 ws0.length c2) ∧ w1.cell? ⟨W.heap.size, 2, none⟩ = some (.slice py cs0.length cy)) := Lib.hid (by rw [hV]; exact fun w1 h => mbox_cells h)
  have BV : Hid (Below W.heap.size W V) := Lib.hid (by rw [hV]; exact mbox_below _ _ _ _)
  have sV : V.heap.size = W.heap.size + 1 := by rw [hV]; exact mbox_size _ _ _ _
  have SV := Lib.hid sV
  clear sV
  by_cases hl : leftM 1048576 ps0 ws0 cs0 < 0
  · generalize leftM 1048576 ps0 ws0 cs0 = l at *
    go_enter Try.func8, Try.ntmps8
    go_wp2_with fail
    change Calls _ _ _ (MBox W (.slice p1 ps0.length c1) (.slice p2 ws0.length c2) (.slice py cs0.length cy)) _
    rw [← hV]
    clear hV
    refine (Z.out _ BV.out).mono ?_
    rintro e w1 ⟨rfl, b1⟩
    have HB := Lib.hid (BV.out.trans (b1.mono BV.out.size))
    clear b1
    go_wp2_with fail
    go_ret
    exact ⟨rfl, HB.out⟩
  obtain ⟨hn, hm, hk⟩ := leftM_ok hl
  have TO := Lib.hid (fun w' (hb : Below W.heap.size W w') => toM ps0 ws0 cs0 _ w' hn hm hk (TV.out.boxed hb))
  have ZS := Lib.hid (fun w' (v : Value) (h : MktV w' w'.heap.size v ps0 ws0 cs0) => freeS ps0 ws0 cs0 v w' hk h)
  have ZI := Lib.hid (fun w' (v : Value) (h : MktV w' w'.heap.size v ps0 ws0 cs0) => freeI ps0 ws0 cs0 v w' hk h)
  obtain ⟨zs, hzs⟩ : ∃ zs, zs = ifU ps0 ws0 cs0 (fgL ps0 cs0) := ⟨_, rfl⟩
  obtain ⟨ok, hok⟩ : ∃ ok, ok = (goodM ps0 ws0 cs0 && decide (0 ≤ unI ps0 cs0)) := ⟨_, rfl⟩
  rw [← hzs, ← hok] at ZS ZI
  have hzl : zs.length ≤ 1048576 := by rw [hzs]; exact fg_len _ _ _
  clear hzs hok
  generalize leftM 1048576 ps0 ws0 cs0 = l at *
  go_enter Try.func8, Try.ntmps8
  go_wp2_with fail
  change Calls _ _ _ (MBox W (.slice p1 ps0.length c1) (.slice p2 ws0.length c2) (.slice py cs0.length cy)) _
  rw [← hV]
  clear hV
  refine (Z.out _ BV.out).mono ?_
  rintro e w1 ⟨rfl, b1⟩
  have B1 := Lib.hid b1
  have s1 := b1.size
  clear b1 Z
  obtain ⟨x0, x1, x2⟩ := K.out _ B1.out
  go_wp2_with fail
  refine (TO.out _ (BV.out.trans (B1.out.mono BV.out.size))).mono ?_
  rintro e w2 ⟨u2, rfl, o2, b2⟩
  have s2 := b2.size
  have B2 := Lib.hid (below_next B1.out b2)
  clear B1
  have Xm0_2 := Lib.hid o2
  clear o2
  clear b2
  clear x0 x1 x2
  go_wp2_with fail
  refine (ZS.out _ _ (Xm0_2.out.mktV.more (by omega))).mono ?_
  rintro e w3 ⟨r0, rfl, o3, b3⟩
  have s3 := b3.size
  have B3 := Lib.hid (below_next B2.out b3)
  have Xm0_3 := Lib.hid (Xm0_2.out.below (b3.mono (by omega)))
  clear Xm0_2
  clear B2
  have R0_3 := Lib.hid o3
  clear o3
  clear b3
  clear Xm0_3
  obtain ⟨x0, x1, x2⟩ := K.out _ B3.out
  go_wp2_with fail
  refine (TO.out _ (BV.out.trans (B3.out.mono BV.out.size))).mono ?_
  rintro e w4 ⟨u4, rfl, o4, b4⟩
  have s4 := b4.size
  have B4 := Lib.hid (below_next B3.out b4)
  have R0_4 := Lib.hid (R0_3.out.below (b4.mono (by omega)))
  clear R0_3
  clear B3
  have Xx0_4 := Lib.hid o4
  clear o4
  clear b4
  clear x0 x1 x2
  obtain ⟨p3, c3, p4, c4, pz, cz, rfl⟩ := Xx0_4.out.shape
  obtain ⟨w5, hw⟩ : ∃ w5, w5 = w4.alloc (.cells #[.slice p3 ps0.length c3, .slice p4 ws0.length c4, .slice pz cs0.length cz] 31) := ⟨_, rfl⟩
  have b5 : Below w4.heap.size w4 w5 := by rw [hw]; exact (Below.refl _ _).alloc (Nat.le_refl _) _
  have s5 : w4.heap.size + 1 = w5.heap.size := by rw [hw]; simp
  have K5 : Hid (∀ w1, Below w5.heap.size w5 w1 → w1.cell? ⟨w4.heap.size, 0, none⟩ = some (.slice p3 ps0.length c3) ∧ w1.cell? ⟨w4.heap.size, 1, none⟩ = some (.slice p4 ws0.length c4) ∧ w1.cell? ⟨w4.heap.size, 2, none⟩ = some (.slice pz cs0.length cz)) := Lib.hid (by rw [hw]; exact fun w1 h => nbox_cells h)
  have B5 := Lib.hid (below_next B4.out b5)
  have R0_5 := Lib.hid (R0_4.out.below (b5.mono (by omega)))
  clear R0_4
  have Xx0_5 := Lib.hid (Xx0_4.out.below (b5.mono (by omega)))
  clear Xx0_4
  clear B4
  have C_5 := Lib.hid (Below.refl w5.heap.size w5)
  clear b5
  go_wp2_with fail
  change Calls _ _ _ (w4.alloc (.cells #[.slice p3 ps0.length c3, .slice p4 ws0.length c4, .slice pz cs0.length cz] 31)) _
  rw [← hw]
  clear hw
  refine (ZI.out _ _ (Xx0_5.out.mktV.more (by omega))).mono ?_
  rintro e w6 ⟨g0, rfl, o6, b6⟩
  have s6 := b6.size
  have B6 := Lib.hid (below_next B5.out b6)
  have R0_6 := Lib.hid (R0_5.out.below (b6.mono (by omega)))
  clear R0_5
  have Xx0_6 := Lib.hid (Xx0_5.out.below (b6.mono (by omega)))
  clear Xx0_5
  have C_6 := Lib.hid (below_next C_5.out b6)
  clear C_5
  clear B5
  have G0_6 := Lib.hid o6
  clear o6
  clear b6
  go_wp2_with fail
  refine (eqIB zs g0 r0 _ _ w6 G0_6.out.intsV R0_6.out.intsV).mono ?_
  rintro e w7 ⟨rfl, b7⟩
  have s7 := b7.size
  have B7 := Lib.hid (below_next B6.out b7)
  have R0_7 := Lib.hid (R0_6.out.below (b7.mono (by omega)))
  clear R0_6
  have Xx0_7 := Lib.hid (Xx0_6.out.below (b7.mono (by omega)))
  clear Xx0_6
  have C_7 := Lib.hid (below_next C_6.out b7)
  clear C_6
  have G0_7 := Lib.hid (G0_6.out.below (b7.mono (by omega)))
  clear G0_6
  clear B6
  clear b7
  obtain ⟨x0, x1, x2⟩ := K.out _ B7.out
  obtain ⟨y0, y1, y2⟩ := K5.out _ C_7.out
  have K8 : Hid (∀ w', Below w7.heap.size w7 w' → w'.cell? ⟨w4.heap.size, 0, none⟩ = some (.slice p3 ps0.length c3) ∧ w'.cell? ⟨w4.heap.size, 1, none⟩ = some (.slice p4 ws0.length c4) ∧ w'.cell? ⟨w4.heap.size, 2, none⟩ = some (.slice pz cs0.length cz) ∧ w'.cell? ⟨W.heap.size, 0, none⟩ = some (.slice p1 ps0.length c1) ∧ w'.cell? ⟨W.heap.size, 1, none⟩ = some (.slice p2 ws0.length c2) ∧ w'.cell? ⟨W.heap.size, 2, none⟩ = some (.slice py cs0.length cy) ∧ Below w7.heap.size w7 w') := Lib.hid (fun w' hb => ⟨(K5.out _ (below_next C_7.out hb)).1, (K5.out _ (below_next C_7.out hb)).2.1, (K5.out _ (below_next C_7.out hb)).2.2, (K.out _ (below_next B7.out hb)).1, (K.out _ (below_next B7.out hb)).2.1, (K.out _ (below_next B7.out hb)).2.2, hb⟩)
  have Q7 : Hid (∀ w' u, Below w7.heap.size w7 w' → MktV w' w'.heap.size u ps0 ws0 cs0 → Calls Try.prog 16 #[.agg #[.slice p3 ps0.length c3, .slice p4 ws0.length c4, .slice pz cs0.length cz], u] w' fun e w'' => e = .returned (.bool true) ∧ Below w'.heap.size w' w'') := Lib.hid (fun w' u hb hu => eqM ps0 ws0 cs0 _ _ w4.heap.size w'.heap.size w' ((Xx0_7.out.below (hb.mono (by omega))).mktV) hu (by have := hb.size; omega) (Nat.le_refl _))
  have D7 := Lib.hid (BV.out.trans (B7.out.mono BV.out.size))
  go_upto_region 10 with fail
  go_cut [45] (fun s45 wx => s45 = .bool false ∧ Hid (Below w7.heap.size w7 wx))
  case first =>
    go_region_held3 (fun w' => w'.cell? ⟨w4.heap.size, 0, none⟩ = some (.slice p3 ps0.length c3) ∧ w'.cell? ⟨w4.heap.size, 1, none⟩ = some (.slice p4 ws0.length c4) ∧ w'.cell? ⟨w4.heap.size, 2, none⟩ = some (.slice pz cs0.length cz) ∧ w'.cell? ⟨W.heap.size, 0, none⟩ = some (.slice p1 ps0.length c1) ∧ w'.cell? ⟨W.heap.size, 1, none⟩ = some (.slice p2 ws0.length c2) ∧ w'.cell? ⟨W.heap.size, 2, none⟩ = some (.slice py cs0.length cy) ∧ Below w7.heap.size w7 w')
      (first | exact K8.out _ (below_drew (Below.refl _ _)) | exact K8.out _ hb9 | exact K8.out _ hb8)
      (first
        | (go_at_call 14; (with_reducible refine (TO.out _ (below_drew D7.out)).mono ?_); rintro e w98 ⟨u98, rfl, o98, b98⟩; (obtain ⟨p50, c50, p51, c51, p52, c52, rfl⟩ := o98.shape); (have hb8 := undrew b98); (have T8 := Lib.hid (o98.mktAt (Nat.le_refl _))); clear o98 b98)
        | (go_at_call 16; (with_reducible refine (Q7.out _ _ hb8 T8.out).mono ?_); rintro e w99 ⟨rfl, b99⟩; (have hb9 := below_next hb8 b99); clear b99))
    all_goals (go_wp2_with fail; go_meet; exact ⟨rfl, Lib.hid (by assumption)⟩)
  obtain ⟨rfl, h9⟩ := hcut
  obtain ⟨w8, rfl⟩ : ∃ w9 : World, w9 = wc := ⟨_, rfl⟩
  have b8 := h9.out
  have s8 := b8.size
  clear K8 Q7 D7 h9 x0 x1 x2 y0 y1 y2
  have B8 := Lib.hid (below_next B7.out b8)
  have R0_8 := Lib.hid (R0_7.out.below (b8.mono (by omega)))
  clear R0_7
  have Xx0_8 := Lib.hid (Xx0_7.out.below (b8.mono (by omega)))
  clear Xx0_7
  have C_8 := Lib.hid (below_next C_7.out b8)
  clear C_7
  have G0_8 := Lib.hid (G0_7.out.below (b8.mono (by omega)))
  clear G0_7
  clear B7
  clear b8
  obtain ⟨y0, y1, y2⟩ := K5.out _ C_8.out
  go_wp2_with fail
  refine (markM ps0 ws0 cs0 _ w3.heap.size w4.heap.size 1 w8 hn hm hk (by omega) Xx0_8.out).mono ?_
  rintro e w9 ⟨rfl, _, b9⟩
  have s9 := b9.size
  have B9 := Lib.hid (below_alt B8.out b9 (by have := SV.out; omega) (by omega))
  have R0_9 := Lib.hid (R0_8.out.alt b9 (by omega))
  clear R0_8
  clear C_8
  have G0_9 := Lib.hid (G0_8.out.alt b9 (by omega))
  clear G0_8
  clear B8
  clear b9
  clear Xx0_8 y0 y1 y2
  have n1 : ¬ ((1 + ps0.length + ws0.length + cs0.length : Nat) : Int) < 0 := by omega
  go_wp2_with fail
  refine (eqIB zs g0 r0 _ _ w9 G0_9.out.intsV R0_9.out.intsV).mono ?_
  rintro e w10 ⟨rfl, b10⟩
  have s10 := b10.size
  have B10 := Lib.hid (below_next B9.out b10)
  have R0_10 := Lib.hid (R0_9.out.below (b10.mono (by omega)))
  clear R0_9
  have G0_10 := Lib.hid (G0_9.out.below (b10.mono (by omega)))
  clear G0_9
  clear B9
  clear b10
  have n2 : ¬ ((1 + zs.length : Nat) : Int) < 0 := by omega
  go_wp2_with fail
  refine (markI zs g0 _ _ 1 w10 hzl (by omega) G0_10.out).mono ?_
  rintro e w11 ⟨rfl, o11, b11⟩
  have s11 := b11.size
  have B11 := Lib.hid (below_alt B10.out b11 (by have := SV.out; omega) (by omega))
  have R0_11 := Lib.hid (R0_10.out.alt b11 (by omega))
  clear R0_10
  clear B10
  have G0_11 := Lib.hid o11
  clear o11
  clear b11
  clear G0_10
  go_wp2_with fail
  refine (heldIB 1 zs.length g0 _ w11 hzl (by omega) G0_11.out.intsV).mono ?_
  rintro e w12 ⟨rfl, b12⟩
  have s12 := b12.size
  have B12 := Lib.hid (below_next B11.out b12)
  have R0_12 := Lib.hid (R0_11.out.below (b12.mono (by omega)))
  clear R0_11
  have G0_12 := Lib.hid (G0_11.out.below (b12.mono (by omega)))
  clear G0_11
  clear B11
  clear b12
  obtain ⟨x0, x1, x2⟩ := K.out _ B12.out
  go_wp2_with fail
  refine (TO.out _ (BV.out.trans (B12.out.mono BV.out.size))).mono ?_
  rintro e w13 ⟨u13, rfl, o13, b13⟩
  have s13 := b13.size
  have B13 := Lib.hid (below_next B12.out b13)
  have R0_13 := Lib.hid (R0_12.out.below (b13.mono (by omega)))
  clear R0_12
  have G0_13 := Lib.hid (G0_12.out.below (b13.mono (by omega)))
  clear G0_12
  clear B12
  have Xz0_13 := Lib.hid o13
  clear o13
  clear b13
  clear x0 x1 x2
  go_wp2_with fail
  refine (ZI.out _ _ (Xz0_13.out.mktV.more (by omega))).mono ?_
  rintro e w14 ⟨h0, rfl, o14, b14⟩
  have s14 := b14.size
  have B14 := Lib.hid (below_next B13.out b14)
  have R0_14 := Lib.hid (R0_13.out.below (b14.mono (by omega)))
  clear R0_13
  have G0_14 := Lib.hid (G0_13.out.below (b14.mono (by omega)))
  clear G0_13
  have Xz0_14 := Lib.hid (Xz0_13.out.below (b14.mono (by omega)))
  clear Xz0_13
  clear B13
  have H0_14 := Lib.hid o14
  clear o14
  clear b14
  clear Xz0_14
  go_wp2_with fail
  refine (eqIB zs h0 r0 _ _ w14 H0_14.out.intsV R0_14.out.intsV).mono ?_
  rintro e w15 ⟨rfl, b15⟩
  have s15 := b15.size
  have B15 := Lib.hid (below_next B14.out b15)
  have R0_15 := Lib.hid (R0_14.out.below (b15.mono (by omega)))
  clear R0_14
  have G0_15 := Lib.hid (G0_14.out.below (b15.mono (by omega)))
  clear G0_14
  have H0_15 := Lib.hid (H0_14.out.below (b15.mono (by omega)))
  clear H0_14
  clear B14
  clear b15
  go_wp2_with fail
  refine (heldIB 1 zs.length g0 _ w15 hzl (by omega) G0_15.out.intsV).mono ?_
  rintro e w16 ⟨rfl, b16⟩
  have s16 := b16.size
  have B16 := Lib.hid (below_next B15.out b16)
  have R0_16 := Lib.hid (R0_15.out.below (b16.mono (by omega)))
  clear R0_15
  have G0_16 := Lib.hid (G0_15.out.below (b16.mono (by omega)))
  clear G0_15
  have H0_16 := Lib.hid (H0_15.out.below (b16.mono (by omega)))
  clear H0_15
  clear B15
  clear b16
  have FIN := Lib.hid (BV.out.trans (B16.out.mono BV.out.size))
  go_wp2_with fail
  go_ret
  exact ⟨rfl, FIN.out⟩
set_option maxRecDepth 100000 in
/-- What the walk gives, for every argument and every world: the same for both forms. -/
theorem contract (H : Type) (enc : TypeId × Value → H) (W : World) (base : Nat) (args : Array Value) (ds gs : List (DataW H)) (before : List MemPlace)
    (hval : ∀ (j : Nat) t v, Try.f8.params[j]? = some t → args[j]? = some v → Value.okWide Try.prog W .any base t v)
    (hW : DataW.Whole enc Try.prog Try.f8.params.toList Rows.fnExactFreeGainSpec.vars false W args.toList ds gs before)
    (hsz : (DataW.weightsEach Try.prog (Try.f8.params.toList ++ (OpenSpec.ofChange Rows.fnExactFreeGainSpec).bare.plain.varTypes Try.prog) (ds ++ gs)).all (· ≤ reachBytes) = true)
    (hL : laidMetH Try.prog Rows.fnExactFreeGainRow.laid W) (hsh : W.ShapedOpen Try.prog) :
    Calls Try.prog 8 args W fun e W' => ∃ v, e = .returned v ∧ Rows.fnExactFreeGainSpec.post enc Try.prog Try.f8 false true false false W args v W' := by
  have hW' := hW
  obtain ⟨p, q, hA0, hV, rfl, hfz, hnd⟩ := hW
  have hA : DataW.TrodAll enc Try.prog W 0 (fun _ => true) true Try.f8.params.toList args.toList ds p := hA0
  rw [Try.params8] at hA hval hsz
  obtain ⟨v0, vs0, d0, ds0, p0, q0, hargs, rfl, rfl, h0, r0⟩ := trodAll_cons hA
  obtain ⟨rfl, rfl, rfl⟩ := trodAll_nil r0
  obtain rfl : args = #[v0] := by cases args; simp_all
  obtain ⟨rfl, rfl⟩ := trodVars_none hV
  obtain ⟨ps0, ws0, cs0, t0⟩ := mktV_arg (hval 0 26 v0 rfl rfl) h0
  refine (walk W ps0 ws0 cs0 v0 t0).mono fun e W' ⟨he, hb⟩ => ?_
  subst he
  exact ⟨_, rfl, law_post laidOut rfl (by kernel_rfl) (by kernel_rfl) Try.underlying4 rfl rfl rfl hW' hb⟩
noncomputable def laidWorld (os : Os) : World := World.holding Try.prog os ⟨#[], #[], []⟩
theorem laid_met (os : Os) : laidMet Try.prog Rows.fnExactFreeGainRow.laid ((laidWorld os).forCall (fun _ _ => 0) ⟨#[], #[.agg #[.slice none 0 0, .slice none 0 0, .slice none 0 0]], []⟩).memory :=
  laidMet_of_run' 8 (by kernel_rfl) (by kernel_rfl)
theorem reads (os : Os) {H : Type} (enc : TypeId × Value → H) : ∃ places, DataW.whole enc Try.prog ((laidWorld os).forCall (fun _ _ => 0) ⟨#[], #[.agg #[.slice none 0 0, .slice none 0 0, .slice none 0 0]], []⟩).memory Try.f8.params.toList Rows.fnExactFreeGainSpec.vars false (#[.agg #[.slice none 0 0, .slice none 0 0, .slice none 0 0]] : Array Value).toList 8 = some ([.agg [.agg [.nil, .nil], .nil]], [], places) :=
  ⟨[], by kernel_rfl⟩
set_option maxRecDepth 100000 in
theorem lifted (os : Os) (started : os.Started) (H : Type) (enc : TypeId × Value → H) (F : Stop.Interp) :
    ReturnsInHanded {} Try.checked os 8 .any ((OpenSpec.ofChange Rows.fnExactFreeGainSpec).preRow enc Try.prog Try.f8 Rows.fnExactFreeGainRow.domain false Rows.fnExactFreeGainRow.laid) (((OpenSpec.ofChange Rows.fnExactFreeGainSpec).at F).post enc Try.prog Try.f8 false true false false) := by
  obtain ⟨places, hx⟩ := reads os enc
  refine returnsInHanded_of_row (C := Try.checked) (s := OpenSpec.ofChange Rows.fnExactFreeGainSpec) own started (by kernel_rfl) Try.func8
    (witness_row_at (enc := enc) (C := Try.checked) false (laidWorld os) #[.agg #[.slice none 0 0, .slice none 0 0, .slice none 0 0]] rfl (by kernel_rfl) (by kernel_rfl) (by kernel_rfl)
      (OpenSpec.preRow_of_cond 8 hx (by kernel_rfl) (fun k hk => by cases hk) (by kernel_rfl) (laid_met os))) ?_
  intro W base args ds gs before hval hW _ _ hsz hL hsh _
  exact contract H enc W base args ds gs before hval hW hsz hL hsh
theorem said : Rows.FnExactFreeGainSaid :=
  OpenClaim.holds_of_cond 8 Try.f8 rfl rfl rfl rfl rfl rfl rfl ⟨rfl, rfl, rfl, rfl, rfl⟩ rfl rfl rfl rfl rfl (by kernel_rfl) Try.func8 (by kernel_rfl)
    (of_decide_eq_true (by kernel_rfl)) (by unfold Func.isWrapper; first | (rw [if_pos (by decide +kernel)]; kernel_rfl) | (rw [if_neg (by decide +kernel)]; exact ⟨rfl, rfl⟩))
    (fun os started H enc _ F => by rw [OpenClaim.pre_eq_preRow]; exact lifted os started H enc F)
/-- The statement. -/
theorem proved : Rows.FnExactFreeGainSaid := said
#print axioms proved
end Go.Proofs.Ytamneibnjbimeaa.fnExactFreeGain
