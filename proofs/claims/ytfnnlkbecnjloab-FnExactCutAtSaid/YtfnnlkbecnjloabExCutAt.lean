/- CutAt answers as its model for every value of a tree's shape and every int, writes into no argument and owns what it returns. No conditions. -/
import Derived.Test.YtfnnlkbecnjloabRows
import Derived.Test.YtfnnlkbecnjloabFrame
import Derived.Test.YtfnnlkbecnjloabLawT
import Derived.Test.YtfnnlkbecnjloabCutA
import Derived.WalkKit
import Derived.ProofKit
import Derived.OpenShut
import Derived.ShutString
import Derived.SliceStrings
import Derived.Deep.DeepHandedRow
import Derived.Lib.LaidTab
import Derived.Lib.Hide
import Derived.WalkSpells
import Derived.Deep.RegionHeld3
import Derived.Deep.DeepCutAuto
import Derived.KernelRfl
namespace Go.Proofs.Ytfnnlkbecnjloab.fnExactCutAt
open Go.ChangeShapes Go.WideShapes Go.ChangeAt Go.RowKit
open Go.ChangeMaps (open_string shut_string)
set_option linter.unusedVariables false
theorem own : ownKnob Try.prog.godebug = none := by kernel_rfl
theorem laidOut : laidOutB Try.prog = true := by kernel_rfl
set_option maxRecDepth 100000 in
set_option maxHeartbeats 4000000 in
theorem walk (W : World) (ps0 ws0 : List Int) (v0 : Value) (t0 : TreeV W W.heap.size v0 ps0 ws0) (a1 : Int) (w1 : (Lit.int .i64 a1).wf = true) : Calls Try.prog 4 #[v0, .int .i64 a1] W fun e W' => e = .returned (.bool true) ∧ Below W.heap.size W W' := by
  have Z := Lib.hid (fun w' (hb : Below W.heap.size W w') => szT ps0 ws0 v0 W.heap.size 1048576 w' (by omega) (by omega) hb.size (t0.below hb))
  have TV := Lib.hid t0
  obtain ⟨p1, c1, p2, c2, rfl⟩ := t0.shape
  clear t0
  obtain ⟨V, hV⟩ : ∃ V, V = LBox W (.slice p1 ps0.length c1) (.slice p2 ws0.length c2) := ⟨_, rfl⟩
  have K : Hid (∀ w1, Below V.heap.size V w1 → w1.cell? ⟨W.heap.size, 0, none⟩ = some (.slice p1 ps0.length c1) ∧ w1.cell? ⟨W.heap.size, 1, none⟩ = some (.slice p2 ws0.length c2)) := Lib.hid (by rw [hV]; exact fun w1 h => lbox_cells h)
  have BV : Hid (Below W.heap.size W V) := Lib.hid (by rw [hV]; exact lbox_below _ _ _)
  have sV : V.heap.size = W.heap.size + 1 := by rw [hV]; exact lbox_size _ _ _
  have SV := Lib.hid sV
  clear sV
  by_cases hl : leftOf 1048576 ps0 ws0 < 0
  · generalize leftOf 1048576 ps0 ws0 = l at *
    go_enter Try.func4, Try.ntmps4
    go_wp2_with fail
    change Calls _ _ _ (LBox W (.slice p1 ps0.length c1) (.slice p2 ws0.length c2)) _
    rw [← hV]
    clear hV
    refine (Z.out _ BV.out).mono ?_
    rintro e w1 ⟨rfl, b1⟩
    have HB := Lib.hid (BV.out.trans (b1.mono BV.out.size))
    clear b1
    go_wp2_with fail
    go_ret
    exact ⟨rfl, HB.out⟩
  · obtain ⟨hn, hm⟩ := left_ok hl
    have ZS := Lib.hid (fun w' (v : Value) (h : TreeV w' w'.heap.size v ps0 ws0) => cutM ps0 ws0 v a1 w' h)
    have ZI := Lib.hid (fun w' (v : Value) (h : TreeV w' w'.heap.size v ps0 ws0) => cutI ps0 ws0 v a1 w' h)
    obtain ⟨zs, hzs⟩ : ∃ zs, zs = ifCut ps0 ws0 a1 (cutT ps0 ws0 a1) := ⟨_, rfl⟩
    obtain ⟨ok, hok⟩ : ∃ ok, ok = okCut ps0 ws0 a1 := ⟨_, rfl⟩
    rw [← hzs, ← hok] at ZS ZI
    have hzl : zs.length ≤ 1048576 := by rw [hzs]; exact cut_len _ _ _
    have TO := Lib.hid (fun w' (hb : Below W.heap.size W w') => toT ps0 ws0 _ w' hn hm (TV.out.boxed hb))
    generalize leftOf 1048576 ps0 ws0 = l at *
    clear hzs hok
    go_enter Try.func4, Try.ntmps4
    go_wp2_with fail
    change Calls _ _ _ (LBox W (.slice p1 ps0.length c1) (.slice p2 ws0.length c2)) _
    rw [← hV]
    clear hV
    refine (Z.out _ BV.out).mono ?_
    rintro e w1 ⟨rfl, b1⟩
    have B1 := Lib.hid b1
    clear b1 Z
    obtain ⟨x0, x1⟩ := K.out _ B1.out
    go_wp2_with fail
    refine (TO.out _ (BV.out.trans (B1.out.mono BV.out.size))).mono ?_
    rintro e w2 ⟨u2, rfl, o2, b2⟩
    have B2 := Lib.hid (below_next B1.out b2)
    have T2 := Lib.hid (o2.treeAt (Nat.le_refl _))
    clear o2 b2 x0 x1
    go_wp2_with fail
    refine (ZS.out _ _ T2.out).mono ?_
    rintro e w3 ⟨r0, rfl, o3, b3⟩
    have B3 := Lib.hid (below_next B2.out b3)
    have R3 := Lib.hid o3.intsV
    clear o3 b3 T2
    obtain ⟨x0, x1⟩ := K.out _ B3.out
    go_wp2_with fail
    refine (TO.out _ (BV.out.trans (B3.out.mono BV.out.size))).mono ?_
    rintro e w4 ⟨u4, rfl, o4, b4⟩
    obtain ⟨p3, c3, p4, c4, rfl⟩ := o4.shape
    have B4 := Lib.hid (below_next B3.out b4)
    have X4 := Lib.hid o4
    have R4 := Lib.hid (R3.out.below b4)
    have s4 := b4.size
    have s3 := B3.out.size
    clear o4 b4 x0 x1 R3
    have A4 : Below w4.heap.size w4 (w4.alloc (.cells #[.slice p3 ps0.length c3, .slice p4 ws0.length c4] 29)) := (Below.refl _ _).alloc (Nat.le_refl _) _
    obtain ⟨V5, hV5⟩ : ∃ V5, V5 = w4.alloc (.cells #[.slice p3 ps0.length c3, .slice p4 ws0.length c4] 29) := ⟨_, rfl⟩
    have K5 : Hid (∀ w1, Below V5.heap.size V5 w1 → w1.cell? ⟨w4.heap.size, 0, none⟩ = some (.slice p3 ps0.length c3) ∧ w1.cell? ⟨w4.heap.size, 1, none⟩ = some (.slice p4 ws0.length c4)) := Lib.hid (by rw [hV5]; exact fun w1 h => ibox_cells h)
    rw [← hV5] at A4
    have sV5 : w4.heap.size + 1 = V5.heap.size := by rw [hV5]; simp
    have X5 := Lib.hid (X4.out.below A4)
    have R5 := Lib.hid (R4.out.below (A4.mono s4))
    have B5 := Lib.hid (below_next B4.out A4)
    clear X4 R4
    go_wp2_with fail
    change Calls _ _ _ (w4.alloc (.cells #[.slice p3 ps0.length c3, .slice p4 ws0.length c4] 29)) _
    rw [← hV5]
    clear hV5
    refine (ZI.out _ _ (X5.out.treeAt (by omega))).mono ?_
    rintro e w6 ⟨g0, rfl, o6, b6⟩
    have G6 := Lib.hid o6
    have C6 := Lib.hid b6
    have B6 := Lib.hid (below_next B5.out b6)
    have X6 := Lib.hid (X5.out.below (b6.mono (by omega)))
    have R6 := Lib.hid (R5.out.below (b6.mono (by omega)))
    have s6 := b6.size
    clear o6 b6 X5 R5
    have E6 := Lib.hid (eqI zs g0 r0 _ _ w6 G6.out.intsV R6.out)
    obtain ⟨y0, y1⟩ := K5.out _ C6.out
    obtain ⟨x0, x1⟩ := K.out _ B6.out
    go_wp2_with fail
    refine E6.out.mono ?_
    rintro e w7 ⟨rfl, q, rfl⟩
    have B7 := Lib.hid (below_drewN B6.out q)
    have C7 := Lib.hid (below_drewN C6.out q)
    have G7 : Hid (OwnV (w6.drewN q) V5.heap.size w6.heap.size g0 zs) := Lib.hid (G6.out.below (below_drewN (Below.refl _ _) q))
    have X7 : Hid (OwnTree (w6.drewN q) w3.heap.size w4.heap.size (.agg #[.slice p3 ps0.length c3, .slice p4 ws0.length c4]) ps0 ws0) := Lib.hid (X6.out.below (below_drewN (Below.refl _ _) q))
    have R7 : Hid (IntsV (w6.drewN q) w3.heap.size r0 zs) := Lib.hid (R6.out.drewN q)
    obtain ⟨w7, h7⟩ : ∃ w7, w7 = w6.drewN q := ⟨_, rfl⟩
    rw [← h7] at B7 C7 G7 X7 R7
    have s7 : w7.heap.size = w6.heap.size := by rw [h7]; rfl
    have S7 := Lib.hid s7
    clear E6 G6 X6 R6 B6 C6 x0 x1 y0 y1 s7
    obtain ⟨y0, y1⟩ := K5.out _ C7.out
    obtain ⟨x0, x1⟩ := K.out _ B7.out
    have D7 := Lib.hid (BV.out.trans (B7.out.mono BV.out.size))
    have K8 : Hid (∀ w', Below w7.heap.size w7 w' → w'.cell? ⟨w4.heap.size, 0, none⟩ = some (.slice p3 ps0.length c3) ∧ w'.cell? ⟨w4.heap.size, 1, none⟩ = some (.slice p4 ws0.length c4) ∧ w'.cell? ⟨W.heap.size, 0, none⟩ = some (.slice p1 ps0.length c1) ∧ w'.cell? ⟨W.heap.size, 1, none⟩ = some (.slice p2 ws0.length c2) ∧ Below w7.heap.size w7 w') := Lib.hid (fun w' hb => ⟨(K5.out _ (below_next C7.out hb)).1, (K5.out _ (below_next C7.out hb)).2, (K.out _ (below_next B7.out hb)).1, (K.out _ (below_next B7.out hb)).2, hb⟩)
    have Q7 : Hid (∀ w' u, Below w7.heap.size w7 w' → TreeV w' w'.heap.size u ps0 ws0 → Calls Try.prog 20 #[.agg #[.slice p3 ps0.length c3, .slice p4 ws0.length c4], u] w' fun e w'' => e = .returned (.bool true) ∧ Below w'.heap.size w' w'') := Lib.hid (fun w' u hb hu => eqT ps0 ws0 _ _ w4.heap.size w'.heap.size w' ((X7.out.below (hb.mono (by have := S7.out; omega))).treeV) hu (by have := hb.size; have := S7.out; omega) (Nat.le_refl _))
    go_upto_region 10 with fail
    rw [← h7]
    clear h7
    go_cut [49] (fun s45 wx => s45 = .bool false ∧ Hid (Below w7.heap.size w7 wx))
    case first =>
      go_region_held3 (fun w' => w'.cell? ⟨w4.heap.size, 0, none⟩ = some (.slice p3 ps0.length c3) ∧ w'.cell? ⟨w4.heap.size, 1, none⟩ = some (.slice p4 ws0.length c4) ∧ w'.cell? ⟨W.heap.size, 0, none⟩ = some (.slice p1 ps0.length c1) ∧ w'.cell? ⟨W.heap.size, 1, none⟩ = some (.slice p2 ws0.length c2) ∧ Below w7.heap.size w7 w')
        (first | exact K8.out _ (below_drew (Below.refl _ _)) | exact K8.out _ hb9 | exact K8.out _ hb8)
        (first
          | (go_at_call 17; (with_reducible refine (TO.out _ (below_drew D7.out)).mono ?_); rintro e w8 ⟨u8, rfl, o8, b8⟩; (obtain ⟨p5, c5, p6, c6, rfl⟩ := o8.shape); (have hb8 := undrew b8); (have T8 := Lib.hid (o8.treeAt (Nat.le_refl _))); clear o8 b8)
          | (go_at_call 20; (with_reducible refine (Q7.out _ _ hb8 T8.out).mono ?_); rintro e w9 ⟨rfl, b9⟩; (have hb9 := below_next hb8 b9); clear b9))
      all_goals (go_wp2_with fail; go_meet; exact ⟨rfl, Lib.hid (by assumption)⟩)
    obtain ⟨rfl, h9⟩ := hcut
    obtain ⟨w9, rfl⟩ : ∃ w9 : World, w9 = wc := ⟨_, rfl⟩
    have s9 : w6.heap.size ≤ w9.heap.size := by have := h9.out.size; have := S7.out; omega
    have hb9' := Lib.hid (h9.out.mono (show w6.heap.size ≤ w7.heap.size by have := S7.out; omega))
    have X9 := Lib.hid (X7.out.below (h9.out.mono (by have := S7.out; omega)))
    have G9 := Lib.hid (G7.out.below hb9'.out)
    have R9 := Lib.hid (R7.out.below (h9.out.mono (by have := S7.out; omega)))
    have B9 := Lib.hid (below_next B7.out h9.out)
    have C9 := Lib.hid (below_next C7.out h9.out)
    clear K8 Q7 D7 X7 G7 R7 B7 C7 hb9' x0 x1 y0 y1
    obtain ⟨y0, y1⟩ := K5.out _ C9.out
    have MT := Lib.hid (markT ps0 ws0 _ w3.heap.size w4.heap.size 1 w9 hn hm (by omega) X9.out)
    have n1 : ¬ ((1 + ps0.length + ws0.length : Nat) : Int) < 0 := by omega
    go_wp2_with fail
    refine MT.out.mono ?_
    rintro e w10 ⟨rfl, X10, a10⟩
    have A10 := Lib.hid a10
    have s10 := a10.size
    have G10 := Lib.hid (G9.out.alt a10 (.inr (by omega)))
    have R10 := Lib.hid (R9.out.alt a10 (Nat.le_refl _) (by omega))
    have B10 := Lib.hid (below_alt B9.out a10 s3 (by omega))
    have E10 := Lib.hid (eqI zs g0 r0 _ _ w10 G10.out.intsV R10.out)
    clear MT X9 G9 R9 B9 C9 X10 a10 y0 y1
    go_wp2_with fail
    refine E10.out.mono ?_
    rintro e w11 ⟨rfl, q2, rfl⟩
    have MG := Lib.hid (markI zs g0 V5.heap.size w6.heap.size 1 (w10.drewN q2) hzl (by omega) (G10.out.below (below_drewN (Below.refl _ _) q2)))
    have R11 := Lib.hid (R10.out.drewN q2)
    have B11 := Lib.hid (below_drewN B10.out q2)
    have S11 := Lib.hid (show (w10.drewN q2).heap.size = w10.heap.size from rfl)
    have n2 : ¬ ((1 + zs.length : Nat) : Int) < 0 := by omega
    clear E10 G10 R10 B10
    go_wp2_with fail
    refine MG.out.mono ?_
    rintro e w12 ⟨rfl, g12, a12⟩
    have s12 := a12.size
    rw [S11.out] at s12
    have R12 := Lib.hid (R11.out.alt a12 (by omega) (by rw [S11.out]; omega))
    have B12 := Lib.hid (below_alt B11.out a12 (by omega) (by rw [S11.out]; omega))
    have G12 := Lib.hid g12
    have H12 := Lib.hid (heldI 1 zs.length g0 _ w12 hzl (by omega) g12.intsV)
    clear MG R11 B11 S11 g12 a12
    go_wp2_with fail
    refine H12.out.mono ?_
    rintro e w13 ⟨rfl, q3, rfl⟩
    have R13 := Lib.hid (R12.out.drewN q3)
    have B13 := Lib.hid (below_drewN B12.out q3)
    have G13 := Lib.hid (G12.out.below (below_drewN (Below.refl _ _) q3))
    have S13 := Lib.hid (show (w12.drewN q3).heap.size = w12.heap.size from rfl)
    clear H12 R12 B12 G12
    obtain ⟨x0, x1⟩ := K.out _ B13.out
    go_wp2_with fail
    refine (TO.out _ (BV.out.trans (B13.out.mono BV.out.size))).mono ?_
    rintro e w14 ⟨u14, rfl, o14, b14⟩
    have s14 := b14.size
    rw [S13.out] at s14
    have R14 := Lib.hid (R13.out.below (b14.mono (by rw [S13.out]; omega)))
    have G14 := Lib.hid (G13.out.below (b14.mono (by rw [S13.out]; omega)))
    have B14 := Lib.hid (below_next B13.out b14)
    have T14 := Lib.hid (o14.treeAt (Nat.le_refl _))
    clear o14 b14 R13 G13 B13 S13 x0 x1
    go_wp2_with fail
    refine (ZI.out _ _ T14.out).mono ?_
    rintro e w15 ⟨h0, rfl, o15, b15⟩
    have s15 := b15.size
    have R15 := Lib.hid (R14.out.below (b15.mono (by omega)))
    have G15 := Lib.hid (G14.out.below (b15.mono (by omega)))
    have B15 := Lib.hid (below_next B14.out b15)
    have E15 := Lib.hid (eqI zs h0 r0 _ _ w15 o15.intsV R15.out)
    clear o15 b15 R14 G14 B14 T14
    go_wp2_with fail
    refine E15.out.mono ?_
    rintro e w16 ⟨rfl, q4, rfl⟩
    have H16 := Lib.hid (heldI 1 zs.length g0 _ (w15.drewN q4) hzl (by omega) (G15.out.below (below_drewN (Below.refl _ _) q4)).intsV)
    have B16 := Lib.hid (below_drewN B15.out q4)
    clear E15 G15 R15 B15
    go_wp2_with fail
    refine H16.out.mono ?_
    rintro e w17 ⟨rfl, q5, rfl⟩
    have FIN := Lib.hid (BV.out.trans ((below_drewN B16.out q5).mono BV.out.size))
    clear H16 B16
    go_wp2_with fail
    go_ret
    exact ⟨rfl, by have := FIN.out; rwa [World.drewN_drewN] at this⟩
/-- What the walk gives, for every argument and every world: the same for both forms. -/
theorem contract (H : Type) (enc : TypeId × Value → H) (W : World) (base : Nat) (args : Array Value) (ds gs : List (DataW H)) (before : List MemPlace)
    (hval : ∀ (j : Nat) t v, Try.f4.params[j]? = some t → args[j]? = some v → Value.okWide Try.prog W .any base t v)
    (hW : DataW.Whole enc Try.prog Try.f4.params.toList Rows.fnExactCutAtSpec.vars false W args.toList ds gs before)
    (hsz : (DataW.weightsEach Try.prog (Try.f4.params.toList ++ (OpenSpec.ofChange Rows.fnExactCutAtSpec).bare.plain.varTypes Try.prog) (ds ++ gs)).all (· ≤ reachBytes) = true)
    (hL : laidMetH Try.prog Rows.fnExactCutAtRow.laid W) (hsh : W.ShapedOpen Try.prog) :
    Calls Try.prog 4 args W fun e W' => ∃ v, e = .returned v ∧ Rows.fnExactCutAtSpec.post enc Try.prog Try.f4 false true false false W args v W' := by
  have hW' := hW
  obtain ⟨p, q, hA0, hV, rfl, hfz, hnd⟩ := hW
  have hA : DataW.TrodAll enc Try.prog W 0 (fun _ => true) true Try.f4.params.toList args.toList ds p := hA0
  rw [Try.params4] at hA hval hsz
  obtain ⟨v0, vs0, d0, ds0, p0, q0, hargs, rfl, rfl, h0, r0⟩ := trodAll_cons hA
  obtain ⟨v1, vs1, d1, ds1, p1, q1, rfl, rfl, rfl, h1, r1⟩ := trodAll_cons r0
  obtain ⟨rfl, rfl, rfl⟩ := trodAll_nil r1
  obtain rfl : args = #[v0, v1] := by cases args; simp_all
  obtain ⟨rfl, rfl⟩ := trodVars_none hV
  obtain ⟨ps0, ws0, t0⟩ := treeV_arg (hval 0 24 v0 rfl rfl) h0
  obtain ⟨a1, rfl, rfl, rfl, w1⟩ := open_int Try.underlying3 (hval 1 3 v1 rfl rfl) h1
  refine (walk W ps0 ws0 v0 t0 a1 w1).mono fun e W' ⟨he, hb⟩ => ?_
  subst he
  exact ⟨_, rfl, law_post laidOut rfl (by kernel_rfl) (by kernel_rfl) Try.underlying4 rfl rfl rfl hW' hb⟩
noncomputable def laidWorld (os : Os) : World := World.holding Try.prog os ⟨#[], #[], []⟩
theorem laid_met (os : Os) : laidMet Try.prog Rows.fnExactCutAtRow.laid ((laidWorld os).forCall (fun _ _ => 0) ⟨#[], #[.agg #[.slice none 0 0, .slice none 0 0], .int .i64 0], []⟩).memory :=
  laidMet_of_run' 8 (by kernel_rfl) (by kernel_rfl)
theorem reads (os : Os) {H : Type} (enc : TypeId × Value → H) : ∃ places, DataW.whole enc Try.prog ((laidWorld os).forCall (fun _ _ => 0) ⟨#[], #[.agg #[.slice none 0 0, .slice none 0 0], .int .i64 0], []⟩).memory Try.f4.params.toList Rows.fnExactCutAtSpec.vars false (#[.agg #[.slice none 0 0, .slice none 0 0], .int .i64 0] : Array Value).toList 8 = some ([.agg [.nil, .nil], .lit (.int .i64 0)], [], places) :=
  ⟨[], by kernel_rfl⟩
set_option maxRecDepth 100000 in
theorem lifted (os : Os) (started : os.Started) (H : Type) (enc : TypeId × Value → H) (F : Stop.Interp) :
    ReturnsInHanded {} Try.checked os 4 .any ((OpenSpec.ofChange Rows.fnExactCutAtSpec).preRow enc Try.prog Try.f4 Rows.fnExactCutAtRow.domain false Rows.fnExactCutAtRow.laid) (((OpenSpec.ofChange Rows.fnExactCutAtSpec).at F).post enc Try.prog Try.f4 false true false false) := by
  obtain ⟨places, hx⟩ := reads os enc
  refine returnsInHanded_of_row (C := Try.checked) (s := OpenSpec.ofChange Rows.fnExactCutAtSpec) own started (by kernel_rfl) Try.func4
    (witness_row_at (enc := enc) (C := Try.checked) false (laidWorld os) #[.agg #[.slice none 0 0, .slice none 0 0], .int .i64 0] rfl (by kernel_rfl) (by kernel_rfl) (by kernel_rfl)
      (OpenSpec.preRow_of_cond 8 hx (by kernel_rfl) (fun k hk => by cases hk) (by kernel_rfl) (laid_met os))) ?_
  intro W base args ds gs before hval hW _ _ hsz hL hsh _
  exact contract H enc W base args ds gs before hval hW hsz hL hsh
theorem said : Rows.FnExactCutAtSaid :=
  OpenClaim.holds_of_cond 4 Try.f4 rfl rfl rfl rfl rfl rfl rfl ⟨rfl, rfl, rfl, rfl, rfl⟩ rfl rfl rfl rfl rfl (by kernel_rfl) Try.func4 (by kernel_rfl)
    (of_decide_eq_true (by kernel_rfl)) (by unfold Func.isWrapper; first | (rw [if_pos (by decide +kernel)]; kernel_rfl) | (rw [if_neg (by decide +kernel)]; exact ⟨rfl, rfl⟩))
    (fun os started H enc _ F => by rw [OpenClaim.pre_eq_preRow]; exact lifted os started H enc F)
/-- The statement. -/
theorem proved : Rows.FnExactCutAtSaid := said
#print axioms proved
end Go.Proofs.Ytfnnlkbecnjloab.fnExactCutAt
