/- ChanceOf answers as its model for every value of a tree's shape and every int, and writes into no argument. No conditions. -/
import Derived.Test.YtfnnlkbecnjloabRows
import Derived.Test.YtfnnlkbecnjloabFrame
import Derived.Test.YtfnnlkbecnjloabLawT
import Derived.Test.YtfnnlkbecnjloabChance
import Derived.Test.YtfnnlkbecnjloabPairE
import Derived.WalkKit
import Derived.ProofKit
import Derived.OpenShut
import Derived.ShutString
import Derived.SliceStrings
import Derived.Deep.DeepHandedRow
import Derived.Lib.LaidTab
import Derived.Lib.Hide
import Derived.WalkSpells
import Derived.Deep.RegionHeld3
import Derived.Deep.DeepCutAuto
import Derived.KernelRfl
namespace Go.Proofs.Ytfnnlkbecnjloab.fnExactChanceOf
open Go.ChangeShapes Go.WideShapes Go.ChangeAt Go.RowKit
open Go.ChangeMaps (open_string shut_string)
set_option linter.unusedVariables false
theorem own : ownKnob Try.prog.godebug = none := by kernel_rfl
theorem laidOut : laidOutB Try.prog = true := by kernel_rfl
set_option maxRecDepth 100000 in
set_option maxHeartbeats 4000000 in
theorem walk (W : World) (ps0 ws0 : List Int) (v0 : Value) (t0 : TreeV W W.heap.size v0 ps0 ws0) (a1 : Int) (w1 : (Lit.int .i64 a1).wf = true) : Calls Try.prog 3 #[v0, .int .i64 a1] W fun e W' => e = .returned (.bool true) ∧ Below W.heap.size W W' := by
  have Z := Lib.hid (fun w' (hb : Below W.heap.size W w') => szT ps0 ws0 v0 W.heap.size 1048576 w' (by omega) (by omega) hb.size (t0.below hb))
  have TV := Lib.hid t0
  obtain ⟨p1, c1, p2, c2, rfl⟩ := t0.shape
  clear t0
  obtain ⟨V, hV⟩ : ∃ V, V = LBox W (.slice p1 ps0.length c1) (.slice p2 ws0.length c2) := ⟨_, rfl⟩
  have K : Hid (∀ w1, Below V.heap.size V w1 → w1.cell? ⟨W.heap.size, 0, none⟩ = some (.slice p1 ps0.length c1) ∧ w1.cell? ⟨W.heap.size, 1, none⟩ = some (.slice p2 ws0.length c2)) := Lib.hid (by rw [hV]; exact fun w1 h => lbox_cells h)
  have BV : Hid (Below W.heap.size W V) := Lib.hid (by rw [hV]; exact lbox_below _ _ _)
  have sV : V.heap.size = W.heap.size + 1 := by rw [hV]; exact lbox_size _ _ _
  have SV := Lib.hid sV
  clear sV
  by_cases hl : leftOf 1048576 ps0 ws0 < 0
  · generalize leftOf 1048576 ps0 ws0 = l at *
    go_enter Try.func3, Try.ntmps3
    go_wp2_with fail
    change Calls _ _ _ (LBox W (.slice p1 ps0.length c1) (.slice p2 ws0.length c2)) _
    rw [← hV]
    clear hV
    refine (Z.out _ BV.out).mono ?_
    rintro e w1 ⟨rfl, b1⟩
    have HB := Lib.hid (BV.out.trans (b1.mono BV.out.size))
    clear b1
    go_wp2_with fail
    go_ret
    exact ⟨rfl, HB.out⟩
  · obtain ⟨hn, hm⟩ := left_ok hl
    have ZS := Lib.hid (fun w' (v : Value) (h : TreeV w' w'.heap.size v ps0 ws0) => chanceM ps0 ws0 v a1 w' h)
    have ZI := Lib.hid (fun w' (v : Value) (h : TreeV w' w'.heap.size v ps0 ws0) => chanceI ps0 ws0 v a1 w' h)
    obtain ⟨pn, pd, ok, hK⟩ := chanceV_form ps0 ws0 a1
    rw [hK] at ZS ZI
    clear hK
    have EP := Lib.hid (fun w => eqP pn pd w)
    have TO := Lib.hid (fun w' (hb : Below W.heap.size W w') => toT ps0 ws0 _ w' hn hm (TV.out.boxed hb))
    generalize leftOf 1048576 ps0 ws0 = l at *
    go_enter Try.func3, Try.ntmps3
    go_wp2_with fail
    change Calls _ _ _ (LBox W (.slice p1 ps0.length c1) (.slice p2 ws0.length c2)) _
    rw [← hV]
    clear hV
    refine (Z.out _ BV.out).mono ?_
    rintro e w1 ⟨rfl, b1⟩
    have B1 := Lib.hid b1
    clear b1 Z
    obtain ⟨x0, x1⟩ := K.out _ B1.out
    go_wp2_with fail
    refine (TO.out _ (BV.out.trans (B1.out.mono BV.out.size))).mono ?_
    rintro e w2 ⟨u2, rfl, o2, b2⟩
    have B2 := Lib.hid (below_next B1.out b2)
    have T2 := Lib.hid (o2.treeAt (Nat.le_refl _))
    clear o2 b2 x0 x1
    go_wp2_with fail
    refine (ZS.out _ _ T2.out).mono ?_
    rintro e w2' ⟨rfl, b3⟩
    have B3' := Lib.hid (below_next B2.out b3)
    clear b3 T2
    obtain ⟨w3, hw3⟩ : ∃ w3, w3 = w2'.alloc (.cells #[.int .i64 pn, .int .i64 pd] 26) := ⟨_, rfl⟩
    have q0 : Below w2'.heap.size w2' w3 := by rw [hw3]; exact (Below.refl _ _).alloc (Nat.le_refl _) _
    have QB := Lib.hid (show PBox w3 w2'.heap.size pn pd by rw [hw3]; exact alloc_heap _ _)
    have B3 := Lib.hid (below_next B3'.out q0)
    have s23 : w2'.heap.size + 1 = w3.heap.size := by rw [hw3]; simp
    obtain ⟨x0, x1⟩ := K.out _ B3.out
    rw [hw3] at x0 x1
    clear q0
    go_wp2_with fail
    rw [← hw3]
    clear hw3 x0 x1
    obtain ⟨x0, x1⟩ := K.out _ B3.out
    refine (TO.out _ (BV.out.trans (B3.out.mono BV.out.size))).mono ?_
    rintro e w4 ⟨u4, rfl, o4, b4⟩
    obtain ⟨p3, c3, p4, c4, rfl⟩ := o4.shape
    have B4 := Lib.hid (below_next B3.out b4)
    have X4 := Lib.hid o4
    have Q4 := Lib.hid (QB.out.below b4 QB.out.lt)
    have s4 := b4.size
    have s3 := B3.out.size
    clear o4 b4 x0 x1 QB
    have A4 : Below w4.heap.size w4 (w4.alloc (.cells #[.slice p3 ps0.length c3, .slice p4 ws0.length c4] 29)) := (Below.refl _ _).alloc (Nat.le_refl _) _
    obtain ⟨V5, hV5⟩ : ∃ V5, V5 = w4.alloc (.cells #[.slice p3 ps0.length c3, .slice p4 ws0.length c4] 29) := ⟨_, rfl⟩
    have K5 : Hid (∀ w1, Below V5.heap.size V5 w1 → w1.cell? ⟨w4.heap.size, 0, none⟩ = some (.slice p3 ps0.length c3) ∧ w1.cell? ⟨w4.heap.size, 1, none⟩ = some (.slice p4 ws0.length c4)) := Lib.hid (by rw [hV5]; exact fun w1 h => ibox_cells h)
    rw [← hV5] at A4
    have sV5 : w4.heap.size + 1 = V5.heap.size := by rw [hV5]; simp
    have X5 := Lib.hid (X4.out.below A4)
    have Q5 := Lib.hid (Q4.out.below A4 Q4.out.lt)
    have B5 := Lib.hid (below_next B4.out A4)
    clear X4 Q4
    go_wp2_with fail
    change Calls _ _ _ (w4.alloc (.cells #[.slice p3 ps0.length c3, .slice p4 ws0.length c4] 29)) _
    rw [← hV5]
    clear hV5
    refine (ZI.out _ _ (X5.out.treeAt (by omega))).mono ?_
    rintro e w6 ⟨rfl, b6⟩
    have C6 := Lib.hid b6
    have B6 := Lib.hid (below_next B5.out b6)
    have X6 := Lib.hid (X5.out.below (b6.mono (by omega)))
    have Q6 := Lib.hid (Q5.out.below b6 Q5.out.lt)
    have s6 := b6.size
    clear b6 X5 Q5
    obtain ⟨w6', hw6⟩ : ∃ w6', w6' = w6.alloc (.cells #[.int .i64 pn, .int .i64 pd] 26) := ⟨_, rfl⟩
    have q6 : Below w6.heap.size w6 w6' := by rw [hw6]; exact (Below.refl _ _).alloc (Nat.le_refl _) _
    have QG := Lib.hid (show PBox w6' w6.heap.size pn pd by rw [hw6]; exact alloc_heap _ _)
    have QR := Lib.hid (Q6.out.below q6 Q6.out.lt)
    have C6' := Lib.hid (below_next C6.out q6)
    have B6' := Lib.hid (below_next B6.out q6)
    have X6' := Lib.hid (X6.out.below (q6.mono (by omega)))
    have s66 : w6.heap.size + 1 = w6'.heap.size := by rw [hw6]; simp
    obtain ⟨y0, y1, _, _⟩ := QG.out.cells
    obtain ⟨y2, y3, _, _⟩ := QR.out.cells
    clear q6 Q6 C6 B6 X6
    rw [hw6] at y0 y1 y2 y3
    go_wp2_with fail
    rw [← hw6]
    clear hw6
    refine (EP.out _).mono ?_
    rintro e w7 ⟨rfl, b7⟩
    have B7 := Lib.hid (below_next B6'.out b7)
    have C7 := Lib.hid (below_next C6'.out b7)
    have X7 := Lib.hid (X6'.out.below (b7.mono (by omega)))
    have S7 := Lib.hid b7.size
    clear b7 B6' C6' X6' y0 y1 y2 y3
    obtain ⟨y0, y1⟩ := K5.out _ C7.out
    obtain ⟨x0, x1⟩ := K.out _ B7.out
    have D7 := Lib.hid (BV.out.trans (B7.out.mono BV.out.size))
    have K8 : Hid (∀ w', Below w7.heap.size w7 w' → w'.cell? ⟨w4.heap.size, 0, none⟩ = some (.slice p3 ps0.length c3) ∧ w'.cell? ⟨w4.heap.size, 1, none⟩ = some (.slice p4 ws0.length c4) ∧ w'.cell? ⟨W.heap.size, 0, none⟩ = some (.slice p1 ps0.length c1) ∧ w'.cell? ⟨W.heap.size, 1, none⟩ = some (.slice p2 ws0.length c2) ∧ Below w7.heap.size w7 w') := Lib.hid (fun w' hb => ⟨(K5.out _ (below_next C7.out hb)).1, (K5.out _ (below_next C7.out hb)).2, (K.out _ (below_next B7.out hb)).1, (K.out _ (below_next B7.out hb)).2, hb⟩)
    have Q7 : Hid (∀ w' u, Below w7.heap.size w7 w' → TreeV w' w'.heap.size u ps0 ws0 → Calls Try.prog 20 #[.agg #[.slice p3 ps0.length c3, .slice p4 ws0.length c4], u] w' fun e w'' => e = .returned (.bool true) ∧ Below w'.heap.size w' w'') := Lib.hid (fun w' u hb hu => eqT ps0 ws0 _ _ w4.heap.size w'.heap.size w' ((X7.out.below (hb.mono (by have := S7.out; omega))).treeV) hu (by have := hb.size; have := S7.out; omega) (Nat.le_refl _))
    go_upto_region 10 with fail
    go_cut [44] (fun s45 wx => s45 = .bool false ∧ Hid (Below w7.heap.size w7 wx))
    case first =>
      go_region_held3 (fun w' => w'.cell? ⟨w4.heap.size, 0, none⟩ = some (.slice p3 ps0.length c3) ∧ w'.cell? ⟨w4.heap.size, 1, none⟩ = some (.slice p4 ws0.length c4) ∧ w'.cell? ⟨W.heap.size, 0, none⟩ = some (.slice p1 ps0.length c1) ∧ w'.cell? ⟨W.heap.size, 1, none⟩ = some (.slice p2 ws0.length c2) ∧ Below w7.heap.size w7 w')
        (first | exact K8.out _ (below_drew (Below.refl _ _)) | exact K8.out _ hb9 | exact K8.out _ hb8)
        (first
          | (go_at_call 17; (with_reducible refine (TO.out _ (below_drew D7.out)).mono ?_); rintro e w8 ⟨u8, rfl, o8, b8⟩; (obtain ⟨p5, c5, p6, c6, rfl⟩ := o8.shape); (have hb8 := undrew b8); (have T8 := Lib.hid (o8.treeAt (Nat.le_refl _))); clear o8 b8)
          | (go_at_call 20; (with_reducible refine (Q7.out _ _ hb8 T8.out).mono ?_); rintro e w9 ⟨rfl, b9⟩; (have hb9 := below_next hb8 b9); clear b9))
      all_goals (go_wp2_with fail; go_meet; exact ⟨rfl, Lib.hid (by assumption)⟩)
    obtain ⟨rfl, h9⟩ := hcut
    obtain ⟨w9, rfl⟩ : ∃ w9 : World, w9 = wc := ⟨_, rfl⟩
    have FIN := Lib.hid (BV.out.trans ((below_next B7.out h9.out).mono BV.out.size))
    clear K8 Q7 D7 X7 B7 C7 x0 x1 y0 y1
    go_wp2_with fail
    go_ret
    exact ⟨rfl, FIN.out⟩
/-- What the walk gives, for every argument and every world: the same for both forms. -/
theorem contract (H : Type) (enc : TypeId × Value → H) (W : World) (base : Nat) (args : Array Value) (ds gs : List (DataW H)) (before : List MemPlace)
    (hval : ∀ (j : Nat) t v, Try.f3.params[j]? = some t → args[j]? = some v → Value.okWide Try.prog W .any base t v)
    (hW : DataW.Whole enc Try.prog Try.f3.params.toList Rows.fnExactChanceOfSpec.vars false W args.toList ds gs before)
    (hsz : (DataW.weightsEach Try.prog (Try.f3.params.toList ++ (OpenSpec.ofChange Rows.fnExactChanceOfSpec).bare.plain.varTypes Try.prog) (ds ++ gs)).all (· ≤ reachBytes) = true)
    (hL : laidMetH Try.prog Rows.fnExactChanceOfRow.laid W) (hsh : W.ShapedOpen Try.prog) :
    Calls Try.prog 3 args W fun e W' => ∃ v, e = .returned v ∧ Rows.fnExactChanceOfSpec.post enc Try.prog Try.f3 false true false false W args v W' := by
  have hW' := hW
  obtain ⟨p, q, hA0, hV, rfl, hfz, hnd⟩ := hW
  have hA : DataW.TrodAll enc Try.prog W 0 (fun _ => true) true Try.f3.params.toList args.toList ds p := hA0
  rw [Try.params3] at hA hval hsz
  obtain ⟨v0, vs0, d0, ds0, p0, q0, hargs, rfl, rfl, h0, r0⟩ := trodAll_cons hA
  obtain ⟨v1, vs1, d1, ds1, p1, q1, rfl, rfl, rfl, h1, r1⟩ := trodAll_cons r0
  obtain ⟨rfl, rfl, rfl⟩ := trodAll_nil r1
  obtain rfl : args = #[v0, v1] := by cases args; simp_all
  obtain ⟨rfl, rfl⟩ := trodVars_none hV
  obtain ⟨ps0, ws0, t0⟩ := treeV_arg (hval 0 24 v0 rfl rfl) h0
  obtain ⟨a1, rfl, rfl, rfl, w1⟩ := open_int Try.underlying3 (hval 1 3 v1 rfl rfl) h1
  refine (walk W ps0 ws0 v0 t0 a1 w1).mono fun e W' ⟨he, hb⟩ => ?_
  subst he
  exact ⟨_, rfl, law_post laidOut rfl (by kernel_rfl) (by kernel_rfl) Try.underlying4 rfl rfl rfl hW' hb⟩
noncomputable def laidWorld (os : Os) : World := World.holding Try.prog os ⟨#[], #[], []⟩
theorem laid_met (os : Os) : laidMet Try.prog Rows.fnExactChanceOfRow.laid ((laidWorld os).forCall (fun _ _ => 0) ⟨#[], #[.agg #[.slice none 0 0, .slice none 0 0], .int .i64 0], []⟩).memory :=
  laidMet_of_run' 8 (by kernel_rfl) (by kernel_rfl)
theorem reads (os : Os) {H : Type} (enc : TypeId × Value → H) : ∃ places, DataW.whole enc Try.prog ((laidWorld os).forCall (fun _ _ => 0) ⟨#[], #[.agg #[.slice none 0 0, .slice none 0 0], .int .i64 0], []⟩).memory Try.f3.params.toList Rows.fnExactChanceOfSpec.vars false (#[.agg #[.slice none 0 0, .slice none 0 0], .int .i64 0] : Array Value).toList 8 = some ([.agg [.nil, .nil], .lit (.int .i64 0)], [], places) :=
  ⟨[], by kernel_rfl⟩
set_option maxRecDepth 100000 in
theorem lifted (os : Os) (started : os.Started) (H : Type) (enc : TypeId × Value → H) (F : Stop.Interp) :
    ReturnsInHanded {} Try.checked os 3 .any ((OpenSpec.ofChange Rows.fnExactChanceOfSpec).preRow enc Try.prog Try.f3 Rows.fnExactChanceOfRow.domain false Rows.fnExactChanceOfRow.laid) (((OpenSpec.ofChange Rows.fnExactChanceOfSpec).at F).post enc Try.prog Try.f3 false true false false) := by
  obtain ⟨places, hx⟩ := reads os enc
  refine returnsInHanded_of_row (C := Try.checked) (s := OpenSpec.ofChange Rows.fnExactChanceOfSpec) own started (by kernel_rfl) Try.func3
    (witness_row_at (enc := enc) (C := Try.checked) false (laidWorld os) #[.agg #[.slice none 0 0, .slice none 0 0], .int .i64 0] rfl (by kernel_rfl) (by kernel_rfl) (by kernel_rfl)
      (OpenSpec.preRow_of_cond 8 hx (by kernel_rfl) (fun k hk => by cases hk) (by kernel_rfl) (laid_met os))) ?_
  intro W base args ds gs before hval hW _ _ hsz hL hsh _
  exact contract H enc W base args ds gs before hval hW hsz hL hsh
theorem said : Rows.FnExactChanceOfSaid :=
  OpenClaim.holds_of_cond 3 Try.f3 rfl rfl rfl rfl rfl rfl rfl ⟨rfl, rfl, rfl, rfl, rfl⟩ rfl rfl rfl rfl rfl (by kernel_rfl) Try.func3 (by kernel_rfl)
    (of_decide_eq_true (by kernel_rfl)) (by unfold Func.isWrapper; first | (rw [if_pos (by decide +kernel)]; kernel_rfl) | (rw [if_neg (by decide +kernel)]; exact ⟨rfl, rfl⟩))
    (fun os started H enc _ F => by rw [OpenClaim.pre_eq_preRow]; exact lifted os started H enc F)
/-- The statement. -/
theorem proved : Rows.FnExactChanceOfSaid := said
#print axioms proved
end Go.Proofs.Ytfnnlkbecnjloab.fnExactChanceOf
