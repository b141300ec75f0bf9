/- DoMatchClaims answers as its model for every value of its arguments' types, and writes into no argument. No conditions. -/
import Derived.Test.YtamneibnjbimeaaRows
import Derived.Test.YtamneibnjbimeaaFrame
import Derived.Test.YtamneibnjbimeaaLawT
import Derived.Test.YtamneibnjbimeaaLawX
import Derived.Test.YtamneibnjbimeaaMktL
import Derived.Test.YtamneibnjbimeaaMeeM
import Derived.WalkKit
import Derived.ProofKit
import Derived.OpenShut
import Derived.ShutString
import Derived.SliceStrings
import Derived.Deep.DeepHandedRow
import Derived.Lib.LaidTab
import Derived.Lib.Hide
import Derived.WalkSpells
import Derived.Deep.RegionHeld3
import Derived.Deep.DeepCutAuto
import Derived.KernelRfl
namespace Go.Proofs.Ytamneibnjbimeaa.fnExactDoMatchClaims
open Go.ChangeShapes Go.WideShapes Go.ChangeAt Go.RowKit
open Go.ChangeMaps (open_string shut_string)
set_option linter.unusedVariables false
theorem own : ownKnob Try.prog.godebug = none := by kernel_rfl
theorem laidOut : laidOutB Try.prog = true := by kernel_rfl
set_option maxRecDepth 100000 in
set_option maxHeartbeats 4000000 in
theorem walk (W : World) (ps0 ws0 cs0 : List Int) (v0 : Value) (t0 : MktV W W.heap.size v0 ps0 ws0 cs0) (a1 : Int) (w1 : (Lit.int .i64 a1).wf = true) (zs2 : List Int) (v2 : Value) (t2 : IntsV W W.heap.size v2 zs2) (zs3 : List Int) (v3 : Value) (t3 : IntsV W W.heap.size v3 zs3) : Calls Try.prog 6 #[v0, .int .i64 a1, v2, v3] W fun e W' => e = .returned (.bool true) ∧ Below W.heap.size W W' := by
  have Z := Lib.hid (fun w' (hb : Below W.heap.size W w') => szM ps0 ws0 cs0 v0 W.heap.size 1048576 w' (by omega) (by omega) hb.size (t0.below hb))
  have TV := Lib.hid t0
  have TI2 := Lib.hid (fun (hn : zs2.length ≤ 1048576) w' (hb : Below W.heap.size W w') => toI zs2 v2 w' hn ((t2.below hb).more hb.size))
  have TI3 := Lib.hid (fun (hn : zs3.length ≤ 1048576) w' (hb : Below W.heap.size W w') => toI zs3 v3 w' hn ((t3.below hb).more hb.size))
  obtain ⟨p1, c1, p2, c2, py, cy, rfl⟩ := t0.shape
  clear t0
  obtain ⟨q2, d2, rfl, _⟩ := t2
  obtain ⟨q3, d3, rfl, _⟩ := t3
  obtain ⟨V, hV⟩ : ∃ V, V = MBox W (.slice p1 ps0.length c1) (.slice p2 ws0.length c2) (.slice py cs0.length cy) := ⟨_, rfl⟩
  have K : Hid (∀ w1, Below V.heap.size V w1 → w1.cell? ⟨W.heap.size, 0, none⟩ = some (.slice p1 ps0.length c1) ∧ w1.cell? ⟨W.heap.size, 1, none⟩ = some (.slice p2 ws0.length c2) ∧ w1.cell? ⟨W.heap.size, 2, none⟩ = some (.slice py cs0.length cy)) := Lib.hid (by rw [hV]; exact fun w1 h => mbox_cells h)
  have BV : Hid (Below W.heap.size W V) := Lib.hid (by rw [hV]; exact mbox_below _ _ _ _)
  have sV : V.heap.size = W.heap.size + 1 := by rw [hV]; exact mbox_size _ _ _ _
  have SV := Lib.hid sV
  clear sV
  by_cases hn2 : ¬ zs2.length ≤ 1048576
  · have hgt : ((zs2.length : Int) > 1048576) := by omega
    clear hn2
    go_enter Try.func6, Try.ntmps6
    go_wp2_with fail
    go_ret
    exact ⟨rfl, mbox_below _ _ _ _⟩
  have hn2 := Decidable.not_not.1 hn2
  by_cases hn3 : ¬ zs3.length ≤ 1048576
  · have hgt : ((zs3.length : Int) > 1048576) := by omega
    clear hn3
    go_enter Try.func6, Try.ntmps6
    go_wp2_with fail
    go_ret
    exact ⟨rfl, mbox_below _ _ _ _⟩
  have hn3 := Decidable.not_not.1 hn3
  by_cases hl : leftM 1048576 ps0 ws0 cs0 < 0
  · generalize leftM 1048576 ps0 ws0 cs0 = l at *
    go_enter Try.func6, Try.ntmps6
    go_wp2_with fail
    change Calls _ _ _ (MBox W (.slice p1 ps0.length c1) (.slice p2 ws0.length c2) (.slice py cs0.length cy)) _
    rw [← hV]
    clear hV
    refine (Z.out _ BV.out).mono ?_
    rintro e w1 ⟨rfl, b1⟩
    have HB := Lib.hid (BV.out.trans (b1.mono BV.out.size))
    clear b1
    go_wp2_with fail
    go_ret
    exact ⟨rfl, HB.out⟩
  obtain ⟨hn, hm, hk⟩ := leftM_ok hl
  have TO := Lib.hid (fun w' (hb : Below W.heap.size W w') => toM ps0 ws0 cs0 _ w' hn hm hk (TV.out.boxed hb))
  have ZS := Lib.hid (fun w' (v : Value) (u2 : Value) (u3 : Value) (h : MktV w' w'.heap.size v ps0 ws0 cs0) (h2 : IntsV w' w'.heap.size u2 zs2) (h3 : IntsV w' w'.heap.size u3 zs3) => matS ps0 ws0 cs0 zs2 zs3 a1 v u2 u3 w' hk hn2 hn3 h h2 h3)
  have ZI := Lib.hid (fun w' (v : Value) (u2 : Value) (u3 : Value) (h : MktV w' w'.heap.size v ps0 ws0 cs0) (h2 : IntsV w' w'.heap.size u2 zs2) (h3 : IntsV w' w'.heap.size u3 zs3) => matCI ps0 ws0 cs0 zs2 zs3 a1 v u2 u3 w' hk hn2 hn3 h h2 h3)
  obtain ⟨rx, ok, hK⟩ := meetV_form (fun x y => x == y) ps0 ws0 cs0 zs2 zs3 a1
  rw [hK] at ZS ZI
  clear hK
  generalize leftM 1048576 ps0 ws0 cs0 = l at *
  go_enter Try.func6, Try.ntmps6
  go_wp2_with fail
  change Calls _ _ _ (MBox W (.slice p1 ps0.length c1) (.slice p2 ws0.length c2) (.slice py cs0.length cy)) _
  rw [← hV]
  clear hV
  refine (Z.out _ BV.out).mono ?_
  rintro e w1 ⟨rfl, b1⟩
  have B1 := Lib.hid b1
  have s1 := b1.size
  clear b1 Z
  obtain ⟨x0, x1, x2⟩ := K.out _ B1.out
  go_wp2_with fail
  refine (TO.out _ (BV.out.trans (B1.out.mono BV.out.size))).mono ?_
  rintro e w2 ⟨u2, rfl, o2, b2⟩
  have s2 := b2.size
  have B2 := Lib.hid (below_next B1.out b2)
  clear B1
  have Xm0_2 := Lib.hid o2
  clear o2
  clear b2
  clear x0 x1 x2
  go_wp2_with fail
  refine (TI2.out hn2 _ (BV.out.trans (B2.out.mono BV.out.size))).mono ?_
  rintro e w3 ⟨u3, rfl, o3, b3⟩
  have s3 := b3.size
  have B3 := Lib.hid (below_next B2.out b3)
  have Xm0_3 := Lib.hid (Xm0_2.out.below (b3.mono (by omega)))
  clear Xm0_2
  clear B2
  have Xm2_3 := Lib.hid o3
  clear o3
  clear b3
  go_wp2_with fail
  refine (TI3.out hn3 _ (BV.out.trans (B3.out.mono BV.out.size))).mono ?_
  rintro e w4 ⟨u4, rfl, o4, b4⟩
  have s4 := b4.size
  have B4 := Lib.hid (below_next B3.out b4)
  have Xm0_4 := Lib.hid (Xm0_3.out.below (b4.mono (by omega)))
  clear Xm0_3
  have Xm2_4 := Lib.hid (Xm2_3.out.below (b4.mono (by omega)))
  clear Xm2_3
  clear B3
  have Xm3_4 := Lib.hid o4
  clear o4
  clear b4
  go_wp2_with fail
  refine (ZS.out _ _ _ _ (Xm0_4.out.mktV.more (by omega)) (Xm2_4.out.intsV.more (by omega)) (Xm3_4.out.intsV.more (by omega))).mono ?_
  rintro e w5 ⟨rfl, b5⟩
  have s5 := b5.size
  have B5 := Lib.hid (below_next B4.out b5)
  have Xm0_5 := Lib.hid (Xm0_4.out.below (b5.mono (by omega)))
  clear Xm0_4
  have Xm2_5 := Lib.hid (Xm2_4.out.below (b5.mono (by omega)))
  clear Xm2_4
  have Xm3_5 := Lib.hid (Xm3_4.out.below (b5.mono (by omega)))
  clear Xm3_4
  clear B4
  clear b5
  clear Xm0_5
  clear Xm2_5
  clear Xm3_5
  obtain ⟨x0, x1, x2⟩ := K.out _ B5.out
  go_wp2_with fail
  refine (TO.out _ (BV.out.trans (B5.out.mono BV.out.size))).mono ?_
  rintro e w6 ⟨u6, rfl, o6, b6⟩
  have s6 := b6.size
  have B6 := Lib.hid (below_next B5.out b6)
  clear B5
  have Xx0_6 := Lib.hid o6
  clear o6
  clear b6
  clear x0 x1 x2
  obtain ⟨p3, c3, p4, c4, pz, cz, rfl⟩ := Xx0_6.out.shape
  obtain ⟨w7, hw⟩ : ∃ w7, w7 = w6.alloc (.cells #[.slice p3 ps0.length c3, .slice p4 ws0.length c4, .slice pz cs0.length cz] 31) := ⟨_, rfl⟩
  have b7 : Below w6.heap.size w6 w7 := by rw [hw]; exact (Below.refl _ _).alloc (Nat.le_refl _) _
  have s7 : w6.heap.size + 1 = w7.heap.size := by rw [hw]; simp
  have K5 : Hid (∀ w1, Below w7.heap.size w7 w1 → w1.cell? ⟨w6.heap.size, 0, none⟩ = some (.slice p3 ps0.length c3) ∧ w1.cell? ⟨w6.heap.size, 1, none⟩ = some (.slice p4 ws0.length c4) ∧ w1.cell? ⟨w6.heap.size, 2, none⟩ = some (.slice pz cs0.length cz)) := Lib.hid (by rw [hw]; exact fun w1 h => nbox_cells h)
  have B7 := Lib.hid (below_next B6.out b7)
  have Xx0_7 := Lib.hid (Xx0_6.out.below (b7.mono (by omega)))
  clear Xx0_6
  clear B6
  have C_7 := Lib.hid (Below.refl w7.heap.size w7)
  clear b7
  go_wp2_with fail
  change Calls _ _ _ (w6.alloc (.cells #[.slice p3 ps0.length c3, .slice p4 ws0.length c4, .slice pz cs0.length cz] 31)) _
  rw [← hw]
  clear hw
  refine (TI2.out hn2 _ (BV.out.trans (B7.out.mono BV.out.size))).mono ?_
  rintro e w8 ⟨u8, rfl, o8, b8⟩
  have s8 := b8.size
  have B8 := Lib.hid (below_next B7.out b8)
  have Xx0_8 := Lib.hid (Xx0_7.out.below (b8.mono (by omega)))
  clear Xx0_7
  have C_8 := Lib.hid (below_next C_7.out b8)
  clear C_7
  clear B7
  have Xx2_8 := Lib.hid o8
  clear o8
  clear b8
  go_wp2_with fail
  refine (TI3.out hn3 _ (BV.out.trans (B8.out.mono BV.out.size))).mono ?_
  rintro e w9 ⟨u9, rfl, o9, b9⟩
  have s9 := b9.size
  have B9 := Lib.hid (below_next B8.out b9)
  have Xx0_9 := Lib.hid (Xx0_8.out.below (b9.mono (by omega)))
  clear Xx0_8
  have C_9 := Lib.hid (below_next C_8.out b9)
  clear C_8
  have Xx2_9 := Lib.hid (Xx2_8.out.below (b9.mono (by omega)))
  clear Xx2_8
  clear B8
  have Xx3_9 := Lib.hid o9
  clear o9
  clear b9
  obtain ⟨y0, y1, y2⟩ := K5.out _ C_9.out
  go_wp2_with fail
  refine (ZI.out _ _ _ _ (Xx0_9.out.mktV.more (by omega)) (Xx2_9.out.intsV.more (by omega)) (Xx3_9.out.intsV.more (by omega))).mono ?_
  rintro e w10 ⟨rfl, b10⟩
  have s10 := b10.size
  have B10 := Lib.hid (below_next B9.out b10)
  have Xx0_10 := Lib.hid (Xx0_9.out.below (b10.mono (by omega)))
  clear Xx0_9
  have C_10 := Lib.hid (below_next C_9.out b10)
  clear C_9
  have Xx2_10 := Lib.hid (Xx2_9.out.below (b10.mono (by omega)))
  clear Xx2_9
  have Xx3_10 := Lib.hid (Xx3_9.out.below (b10.mono (by omega)))
  clear Xx3_9
  clear B9
  clear b10
  clear y0 y1 y2
  obtain ⟨x0, x1, x2⟩ := K.out _ B10.out
  obtain ⟨y0, y1, y2⟩ := K5.out _ C_10.out
  have K8 : Hid (∀ w', Below w10.heap.size w10 w' → w'.cell? ⟨w6.heap.size, 0, none⟩ = some (.slice p3 ps0.length c3) ∧ w'.cell? ⟨w6.heap.size, 1, none⟩ = some (.slice p4 ws0.length c4) ∧ w'.cell? ⟨w6.heap.size, 2, none⟩ = some (.slice pz cs0.length cz) ∧ w'.cell? ⟨W.heap.size, 0, none⟩ = some (.slice p1 ps0.length c1) ∧ w'.cell? ⟨W.heap.size, 1, none⟩ = some (.slice p2 ws0.length c2) ∧ w'.cell? ⟨W.heap.size, 2, none⟩ = some (.slice py cs0.length cy) ∧ Below w10.heap.size w10 w') := Lib.hid (fun w' hb => ⟨(K5.out _ (below_next C_10.out hb)).1, (K5.out _ (below_next C_10.out hb)).2.1, (K5.out _ (below_next C_10.out hb)).2.2, (K.out _ (below_next B10.out hb)).1, (K.out _ (below_next B10.out hb)).2.1, (K.out _ (below_next B10.out hb)).2.2, hb⟩)
  have Q7 : Hid (∀ w' u, Below w10.heap.size w10 w' → MktV w' w'.heap.size u ps0 ws0 cs0 → Calls Try.prog 16 #[.agg #[.slice p3 ps0.length c3, .slice p4 ws0.length c4, .slice pz cs0.length cz], u] w' fun e w'' => e = .returned (.bool true) ∧ Below w'.heap.size w' w'') := Lib.hid (fun w' u hb hu => eqM ps0 ws0 cs0 _ _ w6.heap.size w'.heap.size w' ((Xx0_10.out.below (hb.mono (by omega))).mktV) hu (by have := hb.size; omega) (Nat.le_refl _))
  have D7 := Lib.hid (BV.out.trans (B10.out.mono BV.out.size))
  go_upto_region 16 with fail
  go_cut [65] (fun s45 wx => s45 = .bool false ∧ Hid (Below w10.heap.size w10 wx))
  case first =>
    go_region_held3 (fun w' => w'.cell? ⟨w6.heap.size, 0, none⟩ = some (.slice p3 ps0.length c3) ∧ w'.cell? ⟨w6.heap.size, 1, none⟩ = some (.slice p4 ws0.length c4) ∧ w'.cell? ⟨w6.heap.size, 2, none⟩ = some (.slice pz cs0.length cz) ∧ w'.cell? ⟨W.heap.size, 0, none⟩ = some (.slice p1 ps0.length c1) ∧ w'.cell? ⟨W.heap.size, 1, none⟩ = some (.slice p2 ws0.length c2) ∧ w'.cell? ⟨W.heap.size, 2, none⟩ = some (.slice py cs0.length cy) ∧ Below w10.heap.size w10 w')
      (first | exact K8.out _ (below_drew (Below.refl _ _)) | exact K8.out _ hb9 | exact K8.out _ hb8)
      (first
        | (go_at_call 14; (with_reducible refine (TO.out _ (below_drew D7.out)).mono ?_); rintro e w98 ⟨u98, rfl, o98, b98⟩; (obtain ⟨p50, c50, p51, c51, p52, c52, rfl⟩ := o98.shape); (have hb8 := undrew b98); (have T8 := Lib.hid (o98.mktAt (Nat.le_refl _))); clear o98 b98)
        | (go_at_call 16; (with_reducible refine (Q7.out _ _ hb8 T8.out).mono ?_); rintro e w99 ⟨rfl, b99⟩; (have hb9 := below_next hb8 b99); clear b99))
    all_goals (go_wp2_with fail; go_meet; exact ⟨rfl, Lib.hid (by assumption)⟩)
  obtain ⟨rfl, h9⟩ := hcut
  obtain ⟨w11, rfl⟩ : ∃ w9 : World, w9 = wc := ⟨_, rfl⟩
  have b11 := h9.out
  have s11 := b11.size
  clear K8 Q7 D7 h9 x0 x1 x2 y0 y1 y2
  have B11 := Lib.hid (below_next B10.out b11)
  have Xx0_11 := Lib.hid (Xx0_10.out.below (b11.mono (by omega)))
  clear Xx0_10
  have C_11 := Lib.hid (below_next C_10.out b11)
  clear C_10
  have Xx2_11 := Lib.hid (Xx2_10.out.below (b11.mono (by omega)))
  clear Xx2_10
  have Xx3_11 := Lib.hid (Xx3_10.out.below (b11.mono (by omega)))
  clear Xx3_10
  clear B10
  clear b11
  go_wp2_with fail
  refine (TI2.out hn2 _ (BV.out.trans (B11.out.mono BV.out.size))).mono ?_
  rintro e w12 ⟨u12, rfl, o12, b12⟩
  have s12 := b12.size
  have B12 := Lib.hid (below_next B11.out b12)
  have Xx0_12 := Lib.hid (Xx0_11.out.below (b12.mono (by omega)))
  clear Xx0_11
  have C_12 := Lib.hid (below_next C_11.out b12)
  clear C_11
  have Xx2_12 := Lib.hid (Xx2_11.out.below (b12.mono (by omega)))
  clear Xx2_11
  have Xx3_12 := Lib.hid (Xx3_11.out.below (b12.mono (by omega)))
  clear Xx3_11
  clear B11
  have Y_12 := Lib.hid o12
  clear o12
  clear b12
  go_wp2_with fail
  refine (eqIB zs2 _ _ _ _ w12 Xx2_12.out.intsV Y_12.out.intsV).mono ?_
  rintro e w13 ⟨rfl, b13⟩
  have s13 := b13.size
  have B13 := Lib.hid (below_next B12.out b13)
  have Xx0_13 := Lib.hid (Xx0_12.out.below (b13.mono (by omega)))
  clear Xx0_12
  have C_13 := Lib.hid (below_next C_12.out b13)
  clear C_12
  have Xx2_13 := Lib.hid (Xx2_12.out.below (b13.mono (by omega)))
  clear Xx2_12
  have Xx3_13 := Lib.hid (Xx3_12.out.below (b13.mono (by omega)))
  clear Xx3_12
  have Y_13 := Lib.hid (Y_12.out.below (b13.mono (by omega)))
  clear Y_12
  clear B12
  clear b13
  clear Y_13
  go_wp2_with fail
  refine (TI3.out hn3 _ (BV.out.trans (B13.out.mono BV.out.size))).mono ?_
  rintro e w14 ⟨u14, rfl, o14, b14⟩
  have s14 := b14.size
  have B14 := Lib.hid (below_next B13.out b14)
  have Xx0_14 := Lib.hid (Xx0_13.out.below (b14.mono (by omega)))
  clear Xx0_13
  have C_14 := Lib.hid (below_next C_13.out b14)
  clear C_13
  have Xx2_14 := Lib.hid (Xx2_13.out.below (b14.mono (by omega)))
  clear Xx2_13
  have Xx3_14 := Lib.hid (Xx3_13.out.below (b14.mono (by omega)))
  clear Xx3_13
  clear B13
  have Y_14 := Lib.hid o14
  clear o14
  clear b14
  go_wp2_with fail
  refine (eqIB zs3 _ _ _ _ w14 Xx3_14.out.intsV Y_14.out.intsV).mono ?_
  rintro e w15 ⟨rfl, b15⟩
  have s15 := b15.size
  have B15 := Lib.hid (below_next B14.out b15)
  have Xx0_15 := Lib.hid (Xx0_14.out.below (b15.mono (by omega)))
  clear Xx0_14
  have C_15 := Lib.hid (below_next C_14.out b15)
  clear C_14
  have Xx2_15 := Lib.hid (Xx2_14.out.below (b15.mono (by omega)))
  clear Xx2_14
  have Xx3_15 := Lib.hid (Xx3_14.out.below (b15.mono (by omega)))
  clear Xx3_14
  have Y_15 := Lib.hid (Y_14.out.below (b15.mono (by omega)))
  clear Y_14
  clear B14
  clear b15
  clear Y_15
  have FIN := Lib.hid (BV.out.trans (B15.out.mono BV.out.size))
  go_wp2_with fail
  go_ret
  exact ⟨rfl, FIN.out⟩
set_option maxRecDepth 100000 in
/-- What the walk gives, for every argument and every world: the same for both forms. -/
theorem contract (H : Type) (enc : TypeId × Value → H) (W : World) (base : Nat) (args : Array Value) (ds gs : List (DataW H)) (before : List MemPlace)
    (hval : ∀ (j : Nat) t v, Try.f6.params[j]? = some t → args[j]? = some v → Value.okWide Try.prog W .any base t v)
    (hW : DataW.Whole enc Try.prog Try.f6.params.toList Rows.fnExactDoMatchClaimsSpec.vars false W args.toList ds gs before)
    (hsz : (DataW.weightsEach Try.prog (Try.f6.params.toList ++ (OpenSpec.ofChange Rows.fnExactDoMatchClaimsSpec).bare.plain.varTypes Try.prog) (ds ++ gs)).all (· ≤ reachBytes) = true)
    (hL : laidMetH Try.prog Rows.fnExactDoMatchClaimsRow.laid W) (hsh : W.ShapedOpen Try.prog) :
    Calls Try.prog 6 args W fun e W' => ∃ v, e = .returned v ∧ Rows.fnExactDoMatchClaimsSpec.post enc Try.prog Try.f6 false true false false W args v W' := by
  have hW' := hW
  obtain ⟨p, q, hA0, hV, rfl, hfz, hnd⟩ := hW
  have hA : DataW.TrodAll enc Try.prog W 0 (fun _ => true) true Try.f6.params.toList args.toList ds p := hA0
  rw [Try.params6] at hA hval hsz
  obtain ⟨v0, vs0, d0, ds0, p0, q0, hargs, rfl, rfl, h0, r0⟩ := trodAll_cons hA
  obtain ⟨v1, vs1, d1, ds1, p1, q1, rfl, rfl, rfl, h1, r1⟩ := trodAll_cons r0
  obtain ⟨v2, vs2, d2, ds2, p2, q2, rfl, rfl, rfl, h2, r2⟩ := trodAll_cons r1
  obtain ⟨v3, vs3, d3, ds3, p3, q3, rfl, rfl, rfl, h3, r3⟩ := trodAll_cons r2
  obtain ⟨rfl, rfl, rfl⟩ := trodAll_nil r3
  obtain rfl : args = #[v0, v1, v2, v3] := by cases args; simp_all
  obtain ⟨rfl, rfl⟩ := trodVars_none hV
  obtain ⟨ps0, ws0, cs0, t0⟩ := mktV_arg (hval 0 26 v0 rfl rfl) h0
  obtain ⟨a1, rfl, rfl, rfl, w1⟩ := open_int Try.underlying3 (hval 1 3 v1 rfl rfl) h1
  obtain ⟨zs2, t2⟩ := intsV_arg (hval 2 22 v2 rfl rfl) h2
  obtain ⟨zs3, t3⟩ := intsV_arg (hval 3 22 v3 rfl rfl) h3
  refine (walk W ps0 ws0 cs0 v0 t0 a1 w1 zs2 v2 t2 zs3 v3 t3).mono fun e W' ⟨he, hb⟩ => ?_
  subst he
  exact ⟨_, rfl, law_post laidOut rfl (by kernel_rfl) (by kernel_rfl) Try.underlying4 rfl rfl rfl hW' hb⟩
noncomputable def laidWorld (os : Os) : World := World.holding Try.prog os ⟨#[], #[], []⟩
theorem laid_met (os : Os) : laidMet Try.prog Rows.fnExactDoMatchClaimsRow.laid ((laidWorld os).forCall (fun _ _ => 0) ⟨#[], #[.agg #[.slice none 0 0, .slice none 0 0, .slice none 0 0], .int .i64 0, .slice none 0 0, .slice none 0 0], []⟩).memory :=
  laidMet_of_run' 8 (by kernel_rfl) (by kernel_rfl)
theorem reads (os : Os) {H : Type} (enc : TypeId × Value → H) : ∃ places, DataW.whole enc Try.prog ((laidWorld os).forCall (fun _ _ => 0) ⟨#[], #[.agg #[.slice none 0 0, .slice none 0 0, .slice none 0 0], .int .i64 0, .slice none 0 0, .slice none 0 0], []⟩).memory Try.f6.params.toList Rows.fnExactDoMatchClaimsSpec.vars false (#[.agg #[.slice none 0 0, .slice none 0 0, .slice none 0 0], .int .i64 0, .slice none 0 0, .slice none 0 0] : Array Value).toList 8 = some ([.agg [.agg [.nil, .nil], .nil], .lit (.int .i64 0), .nil, .nil], [], places) :=
  ⟨[], by kernel_rfl⟩
set_option maxRecDepth 100000 in
theorem lifted (os : Os) (started : os.Started) (H : Type) (enc : TypeId × Value → H) (F : Stop.Interp) :
    ReturnsInHanded {} Try.checked os 6 .any ((OpenSpec.ofChange Rows.fnExactDoMatchClaimsSpec).preRow enc Try.prog Try.f6 Rows.fnExactDoMatchClaimsRow.domain false Rows.fnExactDoMatchClaimsRow.laid) (((OpenSpec.ofChange Rows.fnExactDoMatchClaimsSpec).at F).post enc Try.prog Try.f6 false true false false) := by
  obtain ⟨places, hx⟩ := reads os enc
  refine returnsInHanded_of_row (C := Try.checked) (s := OpenSpec.ofChange Rows.fnExactDoMatchClaimsSpec) own started (by kernel_rfl) Try.func6
    (witness_row_at (enc := enc) (C := Try.checked) false (laidWorld os) #[.agg #[.slice none 0 0, .slice none 0 0, .slice none 0 0], .int .i64 0, .slice none 0 0, .slice none 0 0] rfl (by kernel_rfl) (by kernel_rfl) (by kernel_rfl)
      (OpenSpec.preRow_of_cond 8 hx (by kernel_rfl) (fun k hk => by cases hk) (by kernel_rfl) (laid_met os))) ?_
  intro W base args ds gs before hval hW _ _ hsz hL hsh _
  exact contract H enc W base args ds gs before hval hW hsz hL hsh
theorem said : Rows.FnExactDoMatchClaimsSaid :=
  OpenClaim.holds_of_cond 6 Try.f6 rfl rfl rfl rfl rfl rfl rfl ⟨rfl, rfl, rfl, rfl, rfl⟩ rfl rfl rfl rfl rfl (by kernel_rfl) Try.func6 (by kernel_rfl)
    (of_decide_eq_true (by kernel_rfl)) (by unfold Func.isWrapper; first | (rw [if_pos (by decide +kernel)]; kernel_rfl) | (rw [if_neg (by decide +kernel)]; exact ⟨rfl, rfl⟩))
    (fun os started H enc _ F => by rw [OpenClaim.pre_eq_preRow]; exact lifted os started H enc F)
/-- The statement. -/
theorem proved : Rows.FnExactDoMatchClaimsSaid := said
#print axioms proved
end Go.Proofs.Ytamneibnjbimeaa.fnExactDoMatchClaims
