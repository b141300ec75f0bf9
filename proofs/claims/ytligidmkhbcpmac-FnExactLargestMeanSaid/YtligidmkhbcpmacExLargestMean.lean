/- LargestMean answers as its model for every value of its arguments' types, and writes into no argument. No conditions. -/
import Derived.Test.YtligidmkhbcpmacRows
import Derived.Test.YtligidmkhbcpmacFrame
import Derived.Test.YtligidmkhbcpmacLawT
import Derived.Test.YtligidmkhbcpmacLawX
import Derived.Test.YtligidmkhbcpmacLgB
import Derived.Test.YtligidmkhbcpmacPairE
import Derived.Test.YtligidmkhbcpmacLgA
import Derived.WalkKit
import Derived.ProofKit
import Derived.OpenShut
import Derived.ShutString
import Derived.SliceStrings
import Derived.Deep.DeepHandedRow
import Derived.Lib.LaidTab
import Derived.Lib.Hide
import Derived.WalkSpells
import Derived.Deep.RegionHeld3
import Derived.Deep.DeepCutAuto
import Derived.KernelRfl
namespace Go.Proofs.Ytligidmkhbcpmac.fnExactLargestMean
open Go.ChangeShapes Go.WideShapes Go.ChangeAt Go.RowKit
open Go.ChangeMaps (open_string shut_string)
set_option linter.unusedVariables false
theorem own : ownKnob Try.prog.godebug = none := by kernel_rfl
theorem laidOut : laidOutB Try.prog = true := by kernel_rfl
set_option maxRecDepth 100000 in
set_option maxHeartbeats 4000000 in
theorem walk (W : World) (ps0 ws0 : List Int) (v0 : Value) (t0 : TreeV W W.heap.size v0 ps0 ws0) (zs1 : List Int) (v1 : Value) (t1 : IntsV W W.heap.size v1 zs1) : Calls Try.prog 3 #[v0, v1] W fun e W' => e = .returned (.bool true) ∧ Below W.heap.size W W' := by
  have Z := Lib.hid (fun w' (hb : Below W.heap.size W w') => szT ps0 ws0 v0 W.heap.size 1048576 w' (by omega) (by omega) hb.size (t0.below hb))
  have TV := Lib.hid t0
  have TI1 := Lib.hid (fun (hn : zs1.length ≤ 1048576) w' (hb : Below W.heap.size W w') => toI zs1 v1 w' hn ((t1.below hb).more hb.size))
  obtain ⟨p1, c1, p2, c2, rfl⟩ := t0.shape
  clear t0
  obtain ⟨q1, d1, rfl, _⟩ := t1
  obtain ⟨V, hV⟩ : ∃ V, V = LBox W (.slice p1 ps0.length c1) (.slice p2 ws0.length c2) := ⟨_, rfl⟩
  have K : Hid (∀ w1, Below V.heap.size V w1 → w1.cell? ⟨W.heap.size, 0, none⟩ = some (.slice p1 ps0.length c1) ∧ w1.cell? ⟨W.heap.size, 1, none⟩ = some (.slice p2 ws0.length c2)) := Lib.hid (by rw [hV]; exact fun w1 h => lbox_cells h)
  have BV : Hid (Below W.heap.size W V) := Lib.hid (by rw [hV]; exact lbox_below _ _ _)
  have sV : V.heap.size = W.heap.size + 1 := by rw [hV]; exact lbox_size _ _ _
  have SV := Lib.hid sV
  clear sV
  by_cases hn1 : ¬ zs1.length ≤ 1048576
  · have hgt : ((zs1.length : Int) > 1048576) := by omega
    clear hn1
    go_enter Try.func3, Try.ntmps3
    go_wp2_with fail
    go_ret
    exact ⟨rfl, lbox_below _ _ _⟩
  have hn1 := Decidable.not_not.1 hn1
  by_cases hl : leftOf 1048576 ps0 ws0 < 0
  · generalize leftOf 1048576 ps0 ws0 = l at *
    go_enter Try.func3, Try.ntmps3
    go_wp2_with fail
    change Calls _ _ _ (LBox W (.slice p1 ps0.length c1) (.slice p2 ws0.length c2)) _
    rw [← hV]
    clear hV
    refine (Z.out _ BV.out).mono ?_
    rintro e w1 ⟨rfl, b1⟩
    have HB := Lib.hid (BV.out.trans (b1.mono BV.out.size))
    clear b1
    go_wp2_with fail
    go_ret
    exact ⟨rfl, HB.out⟩
  obtain ⟨hn, hm⟩ := left_ok hl
  have TO := Lib.hid (fun w' (hb : Below W.heap.size W w') => toT ps0 ws0 _ w' hn hm (TV.out.boxed hb))
  have ZS := Lib.hid (fun w' (v : Value) (u1 : Value) (h : TreeV w' w'.heap.size v ps0 ws0) (h1 : IntsV w' w'.heap.size u1 zs1) => lmS ps0 ws0 zs1 v u1 w' hn1 h h1)
  have ZI := Lib.hid (fun w' (v : Value) (u1 : Value) (h : TreeV w' w'.heap.size v ps0 ws0) (h1 : IntsV w' w'.heap.size u1 zs1) => lmI ps0 ws0 zs1 v u1 w' hn1 h h1)
  obtain ⟨pn, pd, ok, hK⟩ := lmV_form ps0 ws0 zs1
  rw [hK] at ZS ZI
  clear hK
  have EP := Lib.hid (fun w => eqP pn pd w)
  generalize leftOf 1048576 ps0 ws0 = l at *
  go_enter Try.func3, Try.ntmps3
  go_wp2_with fail
  change Calls _ _ _ (LBox W (.slice p1 ps0.length c1) (.slice p2 ws0.length c2)) _
  rw [← hV]
  clear hV
  refine (Z.out _ BV.out).mono ?_
  rintro e w1 ⟨rfl, b1⟩
  have B1 := Lib.hid b1
  have s1 := b1.size
  clear b1 Z
  obtain ⟨x0, x1⟩ := K.out _ B1.out
  go_wp2_with fail
  refine (TO.out _ (BV.out.trans (B1.out.mono BV.out.size))).mono ?_
  rintro e w2 ⟨u2, rfl, o2, b2⟩
  have s2 := b2.size
  have B2 := Lib.hid (below_next B1.out b2)
  clear B1
  have Xm0_2 := Lib.hid o2
  clear o2
  clear b2
  clear x0 x1
  go_wp2_with fail
  refine (TI1.out hn1 _ (BV.out.trans (B2.out.mono BV.out.size))).mono ?_
  rintro e w3 ⟨u3, rfl, o3, b3⟩
  have s3 := b3.size
  have B3 := Lib.hid (below_next B2.out b3)
  have Xm0_3 := Lib.hid (Xm0_2.out.below (b3.mono (by omega)))
  clear Xm0_2
  clear B2
  have Xm1_3 := Lib.hid o3
  clear o3
  clear b3
  go_wp2_with fail
  refine (ZS.out _ _ _ (Xm0_3.out.treeV.more (by omega)) (Xm1_3.out.intsV.more (by omega))).mono ?_
  rintro e w4 ⟨rfl, b4⟩
  have s4 := b4.size
  have B4 := Lib.hid (below_next B3.out b4)
  have Xm0_4 := Lib.hid (Xm0_3.out.below (b4.mono (by omega)))
  clear Xm0_3
  have Xm1_4 := Lib.hid (Xm1_3.out.below (b4.mono (by omega)))
  clear Xm1_3
  clear B3
  clear b4
  clear Xm0_4
  clear Xm1_4
  obtain ⟨w5, hw⟩ : ∃ w5, w5 = w4.alloc (.cells #[.int .i64 pn, .int .i64 pd] 26) := ⟨_, rfl⟩
  have b5 : Below w4.heap.size w4 w5 := by rw [hw]; exact (Below.refl _ _).alloc (Nat.le_refl _) _
  have s5 : w4.heap.size + 1 = w5.heap.size := by rw [hw]; simp
  have QB_5 := Lib.hid (show PBox w5 w4.heap.size pn pd by rw [hw]; exact alloc_heap _ _)
  have B5 := Lib.hid (below_next B4.out b5)
  clear B4
  clear b5
  obtain ⟨x0, x1⟩ := K.out _ B5.out
  rw [hw] at x0 x1
  go_wp2_with fail
  rw [← hw]
  clear hw x0 x1
  obtain ⟨x0, x1⟩ := K.out _ B5.out
  refine (TO.out _ (BV.out.trans (B5.out.mono BV.out.size))).mono ?_
  rintro e w6 ⟨u6, rfl, o6, b6⟩
  have s6 := b6.size
  have B6 := Lib.hid (below_next B5.out b6)
  have QB_6 := Lib.hid (QB_5.out.below b6 QB_5.out.lt)
  clear QB_5
  clear B5
  have Xx0_6 := Lib.hid o6
  clear o6
  clear b6
  clear x0 x1
  obtain ⟨p3, c3, p4, c4, rfl⟩ := Xx0_6.out.shape
  obtain ⟨w7, hw⟩ : ∃ w7, w7 = w6.alloc (.cells #[.slice p3 ps0.length c3, .slice p4 ws0.length c4] 29) := ⟨_, rfl⟩
  have b7 : Below w6.heap.size w6 w7 := by rw [hw]; exact (Below.refl _ _).alloc (Nat.le_refl _) _
  have s7 : w6.heap.size + 1 = w7.heap.size := by rw [hw]; simp
  have K5 : Hid (∀ w1, Below w7.heap.size w7 w1 → w1.cell? ⟨w6.heap.size, 0, none⟩ = some (.slice p3 ps0.length c3) ∧ w1.cell? ⟨w6.heap.size, 1, none⟩ = some (.slice p4 ws0.length c4)) := Lib.hid (by rw [hw]; exact fun w1 h => ibox_cells h)
  have B7 := Lib.hid (below_next B6.out b7)
  have QB_7 := Lib.hid (QB_6.out.below b7 QB_6.out.lt)
  clear QB_6
  have Xx0_7 := Lib.hid (Xx0_6.out.below (b7.mono (by omega)))
  clear Xx0_6
  clear B6
  have C_7 := Lib.hid (Below.refl w7.heap.size w7)
  clear b7
  go_wp2_with fail
  change Calls _ _ _ (w6.alloc (.cells #[.slice p3 ps0.length c3, .slice p4 ws0.length c4] 29)) _
  rw [← hw]
  clear hw
  refine (TI1.out hn1 _ (BV.out.trans (B7.out.mono BV.out.size))).mono ?_
  rintro e w8 ⟨u8, rfl, o8, b8⟩
  have s8 := b8.size
  have B8 := Lib.hid (below_next B7.out b8)
  have QB_8 := Lib.hid (QB_7.out.below b8 QB_7.out.lt)
  clear QB_7
  have Xx0_8 := Lib.hid (Xx0_7.out.below (b8.mono (by omega)))
  clear Xx0_7
  have C_8 := Lib.hid (below_next C_7.out b8)
  clear C_7
  clear B7
  have Xx1_8 := Lib.hid o8
  clear o8
  clear b8
  obtain ⟨y0, y1⟩ := K5.out _ C_8.out
  go_wp2_with fail
  refine (ZI.out _ _ _ (Xx0_8.out.treeV.more (by omega)) (Xx1_8.out.intsV.more (by omega))).mono ?_
  rintro e w9 ⟨rfl, b9⟩
  have s9 := b9.size
  have B9 := Lib.hid (below_next B8.out b9)
  have QB_9 := Lib.hid (QB_8.out.below b9 QB_8.out.lt)
  clear QB_8
  have Xx0_9 := Lib.hid (Xx0_8.out.below (b9.mono (by omega)))
  clear Xx0_8
  have C_9 := Lib.hid (below_next C_8.out b9)
  clear C_8
  have Xx1_9 := Lib.hid (Xx1_8.out.below (b9.mono (by omega)))
  clear Xx1_8
  clear B8
  clear b9
  clear y0 y1
  obtain ⟨w10, hw⟩ : ∃ w10, w10 = w9.alloc (.cells #[.int .i64 pn, .int .i64 pd] 26) := ⟨_, rfl⟩
  have b10 : Below w9.heap.size w9 w10 := by rw [hw]; exact (Below.refl _ _).alloc (Nat.le_refl _) _
  have s10 : w9.heap.size + 1 = w10.heap.size := by rw [hw]; simp
  have QG_10 := Lib.hid (show PBox w10 w9.heap.size pn pd by rw [hw]; exact alloc_heap _ _)
  have B10 := Lib.hid (below_next B9.out b10)
  have QB_10 := Lib.hid (QB_9.out.below b10 QB_9.out.lt)
  clear QB_9
  have Xx0_10 := Lib.hid (Xx0_9.out.below (b10.mono (by omega)))
  clear Xx0_9
  have C_10 := Lib.hid (below_next C_9.out b10)
  clear C_9
  have Xx1_10 := Lib.hid (Xx1_9.out.below (b10.mono (by omega)))
  clear Xx1_9
  clear B9
  clear b10
  obtain ⟨y0, y1, _, _⟩ := QG_10.out.cells
  obtain ⟨y2, y3, _, _⟩ := QB_10.out.cells
  rw [hw] at y0 y1 y2 y3
  go_wp2_with fail
  rw [← hw]
  clear hw y0 y1 y2 y3
  clear QB_10
  clear QG_10
  refine (EP.out _).mono ?_
  rintro e w11 ⟨rfl, b11⟩
  have s11 := b11.size
  have B11 := Lib.hid (below_next B10.out b11)
  have Xx0_11 := Lib.hid (Xx0_10.out.below (b11.mono (by omega)))
  clear Xx0_10
  have C_11 := Lib.hid (below_next C_10.out b11)
  clear C_10
  have Xx1_11 := Lib.hid (Xx1_10.out.below (b11.mono (by omega)))
  clear Xx1_10
  clear B10
  clear b11
  obtain ⟨x0, x1⟩ := K.out _ B11.out
  obtain ⟨y0, y1⟩ := K5.out _ C_11.out
  have K8 : Hid (∀ w', Below w11.heap.size w11 w' → w'.cell? ⟨w6.heap.size, 0, none⟩ = some (.slice p3 ps0.length c3) ∧ w'.cell? ⟨w6.heap.size, 1, none⟩ = some (.slice p4 ws0.length c4) ∧ w'.cell? ⟨W.heap.size, 0, none⟩ = some (.slice p1 ps0.length c1) ∧ w'.cell? ⟨W.heap.size, 1, none⟩ = some (.slice p2 ws0.length c2) ∧ Below w11.heap.size w11 w') := Lib.hid (fun w' hb => ⟨(K5.out _ (below_next C_11.out hb)).1, (K5.out _ (below_next C_11.out hb)).2, (K.out _ (below_next B11.out hb)).1, (K.out _ (below_next B11.out hb)).2, hb⟩)
  have Q7 : Hid (∀ w' u, Below w11.heap.size w11 w' → TreeV w' w'.heap.size u ps0 ws0 → Calls Try.prog 18 #[.agg #[.slice p3 ps0.length c3, .slice p4 ws0.length c4], u] w' fun e w'' => e = .returned (.bool true) ∧ Below w'.heap.size w' w'') := Lib.hid (fun w' u hb hu => eqT ps0 ws0 _ _ w6.heap.size w'.heap.size w' ((Xx0_11.out.below (hb.mono (by omega))).treeV) hu (by have := hb.size; omega) (Nat.le_refl _))
  have D7 := Lib.hid (BV.out.trans (B11.out.mono BV.out.size))
  go_upto_region 13 with fail
  go_cut [51] (fun s45 wx => s45 = .bool false ∧ Hid (Below w11.heap.size w11 wx))
  case first =>
    go_region_held3 (fun w' => w'.cell? ⟨w6.heap.size, 0, none⟩ = some (.slice p3 ps0.length c3) ∧ w'.cell? ⟨w6.heap.size, 1, none⟩ = some (.slice p4 ws0.length c4) ∧ w'.cell? ⟨W.heap.size, 0, none⟩ = some (.slice p1 ps0.length c1) ∧ w'.cell? ⟨W.heap.size, 1, none⟩ = some (.slice p2 ws0.length c2) ∧ Below w11.heap.size w11 w')
      (first | exact K8.out _ (below_drew (Below.refl _ _)) | exact K8.out _ hb9 | exact K8.out _ hb8)
      (first
        | (go_at_call 14; (with_reducible refine (TO.out _ (below_drew D7.out)).mono ?_); rintro e w98 ⟨u98, rfl, o98, b98⟩; (obtain ⟨p50, c50, p51, c51, rfl⟩ := o98.shape); (have hb8 := undrew b98); (have T8 := Lib.hid (o98.treeAt (Nat.le_refl _))); clear o98 b98)
        | (go_at_call 18; (with_reducible refine (Q7.out _ _ hb8 T8.out).mono ?_); rintro e w99 ⟨rfl, b99⟩; (have hb9 := below_next hb8 b99); clear b99))
    all_goals (go_wp2_with fail; go_meet; exact ⟨rfl, Lib.hid (by assumption)⟩)
  obtain ⟨rfl, h9⟩ := hcut
  obtain ⟨w12, rfl⟩ : ∃ w9 : World, w9 = wc := ⟨_, rfl⟩
  have b12 := h9.out
  have s12 := b12.size
  clear K8 Q7 D7 h9 x0 x1 y0 y1
  have B12 := Lib.hid (below_next B11.out b12)
  have Xx0_12 := Lib.hid (Xx0_11.out.below (b12.mono (by omega)))
  clear Xx0_11
  have C_12 := Lib.hid (below_next C_11.out b12)
  clear C_11
  have Xx1_12 := Lib.hid (Xx1_11.out.below (b12.mono (by omega)))
  clear Xx1_11
  clear B11
  clear b12
  go_wp2_with fail
  refine (TI1.out hn1 _ (BV.out.trans (B12.out.mono BV.out.size))).mono ?_
  rintro e w13 ⟨u13, rfl, o13, b13⟩
  have s13 := b13.size
  have B13 := Lib.hid (below_next B12.out b13)
  have Xx0_13 := Lib.hid (Xx0_12.out.below (b13.mono (by omega)))
  clear Xx0_12
  have C_13 := Lib.hid (below_next C_12.out b13)
  clear C_12
  have Xx1_13 := Lib.hid (Xx1_12.out.below (b13.mono (by omega)))
  clear Xx1_12
  clear B12
  have Y_13 := Lib.hid o13
  clear o13
  clear b13
  go_wp2_with fail
  refine (eqIB zs1 _ _ _ _ w13 Xx1_13.out.intsV Y_13.out.intsV).mono ?_
  rintro e w14 ⟨rfl, b14⟩
  have s14 := b14.size
  have B14 := Lib.hid (below_next B13.out b14)
  have Xx0_14 := Lib.hid (Xx0_13.out.below (b14.mono (by omega)))
  clear Xx0_13
  have C_14 := Lib.hid (below_next C_13.out b14)
  clear C_13
  have Xx1_14 := Lib.hid (Xx1_13.out.below (b14.mono (by omega)))
  clear Xx1_13
  have Y_14 := Lib.hid (Y_13.out.below (b14.mono (by omega)))
  clear Y_13
  clear B13
  clear b14
  clear Y_14
  have FIN := Lib.hid (BV.out.trans (B14.out.mono BV.out.size))
  go_wp2_with fail
  go_ret
  exact ⟨rfl, FIN.out⟩
set_option maxRecDepth 100000 in
/-- What the walk gives, for every argument and every world: the same for both forms. -/
theorem contract (H : Type) (enc : TypeId × Value → H) (W : World) (base : Nat) (args : Array Value) (ds gs : List (DataW H)) (before : List MemPlace)
    (hval : ∀ (j : Nat) t v, Try.f3.params[j]? = some t → args[j]? = some v → Value.okWide Try.prog W .any base t v)
    (hW : DataW.Whole enc Try.prog Try.f3.params.toList Rows.fnExactLargestMeanSpec.vars false W args.toList ds gs before)
    (hsz : (DataW.weightsEach Try.prog (Try.f3.params.toList ++ (OpenSpec.ofChange Rows.fnExactLargestMeanSpec).bare.plain.varTypes Try.prog) (ds ++ gs)).all (· ≤ reachBytes) = true)
    (hL : laidMetH Try.prog Rows.fnExactLargestMeanRow.laid W) (hsh : W.ShapedOpen Try.prog) :
    Calls Try.prog 3 args W fun e W' => ∃ v, e = .returned v ∧ Rows.fnExactLargestMeanSpec.post enc Try.prog Try.f3 false true false false W args v W' := by
  have hW' := hW
  obtain ⟨p, q, hA0, hV, rfl, hfz, hnd⟩ := hW
  have hA : DataW.TrodAll enc Try.prog W 0 (fun _ => true) true Try.f3.params.toList args.toList ds p := hA0
  rw [Try.params3] at hA hval hsz
  obtain ⟨v0, vs0, d0, ds0, p0, q0, hargs, rfl, rfl, h0, r0⟩ := trodAll_cons hA
  obtain ⟨v1, vs1, d1, ds1, p1, q1, rfl, rfl, rfl, h1, r1⟩ := trodAll_cons r0
  obtain ⟨rfl, rfl, rfl⟩ := trodAll_nil r1
  obtain rfl : args = #[v0, v1] := by cases args; simp_all
  obtain ⟨rfl, rfl⟩ := trodVars_none hV
  obtain ⟨ps0, ws0, t0⟩ := treeV_arg (hval 0 24 v0 rfl rfl) h0
  obtain ⟨zs1, t1⟩ := intsV_arg (hval 1 22 v1 rfl rfl) h1
  refine (walk W ps0 ws0 v0 t0 zs1 v1 t1).mono fun e W' ⟨he, hb⟩ => ?_
  subst he
  exact ⟨_, rfl, law_post laidOut rfl (by kernel_rfl) (by kernel_rfl) Try.underlying4 rfl rfl rfl hW' hb⟩
noncomputable def laidWorld (os : Os) : World := World.holding Try.prog os ⟨#[], #[], []⟩
theorem laid_met (os : Os) : laidMet Try.prog Rows.fnExactLargestMeanRow.laid ((laidWorld os).forCall (fun _ _ => 0) ⟨#[], #[.agg #[.slice none 0 0, .slice none 0 0], .slice none 0 0], []⟩).memory :=
  laidMet_of_run' 8 (by kernel_rfl) (by kernel_rfl)
theorem reads (os : Os) {H : Type} (enc : TypeId × Value → H) : ∃ places, DataW.whole enc Try.prog ((laidWorld os).forCall (fun _ _ => 0) ⟨#[], #[.agg #[.slice none 0 0, .slice none 0 0], .slice none 0 0], []⟩).memory Try.f3.params.toList Rows.fnExactLargestMeanSpec.vars false (#[.agg #[.slice none 0 0, .slice none 0 0], .slice none 0 0] : Array Value).toList 8 = some ([.agg [.nil, .nil], .nil], [], places) :=
  ⟨[], by kernel_rfl⟩
set_option maxRecDepth 100000 in
theorem lifted (os : Os) (started : os.Started) (H : Type) (enc : TypeId × Value → H) (F : Stop.Interp) :
    ReturnsInHanded {} Try.checked os 3 .any ((OpenSpec.ofChange Rows.fnExactLargestMeanSpec).preRow enc Try.prog Try.f3 Rows.fnExactLargestMeanRow.domain false Rows.fnExactLargestMeanRow.laid) (((OpenSpec.ofChange Rows.fnExactLargestMeanSpec).at F).post enc Try.prog Try.f3 false true false false) := by
  obtain ⟨places, hx⟩ := reads os enc
  refine returnsInHanded_of_row (C := Try.checked) (s := OpenSpec.ofChange Rows.fnExactLargestMeanSpec) own started (by kernel_rfl) Try.func3
    (witness_row_at (enc := enc) (C := Try.checked) false (laidWorld os) #[.agg #[.slice none 0 0, .slice none 0 0], .slice none 0 0] rfl (by kernel_rfl) (by kernel_rfl) (by kernel_rfl)
      (OpenSpec.preRow_of_cond 8 hx (by kernel_rfl) (fun k hk => by cases hk) (by kernel_rfl) (laid_met os))) ?_
  intro W base args ds gs before hval hW _ _ hsz hL hsh _
  exact contract H enc W base args ds gs before hval hW hsz hL hsh
theorem said : Rows.FnExactLargestMeanSaid :=
  OpenClaim.holds_of_cond 3 Try.f3 rfl rfl rfl rfl rfl rfl rfl ⟨rfl, rfl, rfl, rfl, rfl⟩ rfl rfl rfl rfl rfl (by kernel_rfl) Try.func3 (by kernel_rfl)
    (of_decide_eq_true (by kernel_rfl)) (by unfold Func.isWrapper; first | (rw [if_pos (by decide +kernel)]; kernel_rfl) | (rw [if_neg (by decide +kernel)]; exact ⟨rfl, rfl⟩))
    (fun os started H enc _ F => by rw [OpenClaim.pre_eq_preRow]; exact lifted os started H enc F)
/-- The statement. -/
theorem proved : Rows.FnExactLargestMeanSaid := said
#print axioms proved
end Go.Proofs.Ytligidmkhbcpmac.fnExactLargestMean
