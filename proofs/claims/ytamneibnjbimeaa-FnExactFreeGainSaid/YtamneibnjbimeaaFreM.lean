/- FreeGain in the model. -/
import Derived.Test.YtamneibnjbimeaaFreI
import Derived.Test.YtamneibnjbimeaaUnmM
import Derived.Deep.RegionHeld3
import Derived.Deep.DeepCutAuto
namespace Go.Proofs.Ytamneibnjbimeaa
open Go.RowKit
set_option linter.unusedVariables false
theorem OwnV.up {w : World} {lo lo' hi : Nat} {g n c : Nat} {zs : List Int} (h : OwnV w lo hi (.slice (some ⟨g, 0, none⟩) n c) zs) (hl : lo' ≤ g) : OwnV w lo' hi (.slice (some ⟨g, 0, none⟩) n c) zs := by
  refine ⟨⟨h.row.1, ?_⟩, h.lt, h.room, h.in64⟩
  rcases h.row.2 with ⟨h1, _⟩ | ⟨g', cap, cur, h1, _, rest⟩
  · injection h1 with h1 _ _; cases h1
  · have e := h1
    injection e with e _ _
    injection e with e
    injection e with e _ _
    exact .inr ⟨g', cap, cur, h1, by omega, rest⟩
/-- What stands when the row is made and the node known. -/
structure FgS (w : World) (v1 v2 v3 : Value) (n g : Nat) (wx : World) : Prop where
  own : OwnV wx (w.heap.size + 1) wx.heap.size (.slice (some ⟨g, 0, none⟩) n n) (List.replicate n 0)
  box : KBox wx w.heap.size v1 v2 v3
  bel : Below w.heap.size w wx
def FgB (w : World) (v1 v2 v3 : Value) (wx : World) : Prop := KBox wx w.heap.size v1 v2 v3 ∧ Below w.heap.size w wx
theorem FgB.next {w wx wy : World} {v1 v2 v3 : Value} (h : FgB w v1 v2 v3 wx) (b : Below wx.heap.size wx wy) : FgB w v1 v2 v3 wy := ⟨h.1.below b h.1.lt, h.2.trans (b.mono h.2.size)⟩
set_option maxRecDepth 100000 in
set_option maxHeartbeats 4000000 in
theorem freeS (ps ws cs : List Int) (v : Value) (w : World) (hn : cs.length ≤ 1048576) (h : MktV w w.heap.size v ps ws cs) :
    Calls Try.prog 30 #[v] w (NewIntsB (ifU ps ws cs (fgL ps cs)) (goodM ps ws cs && decide (0 ≤ unI ps cs)) w) := by
  have G := Lib.hid (fun w' (hb : Below w.heap.size w w') => mktS ps ws cs v w' hn (h.boxed hb))
  have UC := Lib.hid (fun (mk : Mkt ps ws cs) w' (hb : Below w.heap.size w w') => unevM ps ws cs v w' mk (h.boxed hb))
  have SC := Lib.hid (fun (mk : Mkt ps ws cs) x (hx : x < ps.length) w' (hb : Below w.heap.size w w') => sidesM ps ws cs v x w' mk hx (h.boxed hb))
  unfold V3i at SC
  have IU : Hid (ifU ps ws cs (fgL ps cs) = if (goodM ps ws cs && decide (0 ≤ unI ps cs)) = true then fgL ps cs else []) := Lib.hid rfl
  obtain ⟨p1, c1, p2, c2, p3, c3, rfl⟩ := h.shape
  clear h
  have B1 := Lib.hid ((Below.refl w.heap.size w).alloc (Nat.le_refl _) (.cells #[.slice p1 ps.length c1, .slice p2 ws.length c2, .slice p3 cs.length c3] 31))
  have T1 := Lib.hid (show KBox (w.alloc (.cells #[.slice p1 ps.length c1, .slice p2 ws.length c2, .slice p3 cs.length c3] 31)) w.heap.size (.slice p1 ps.length c1) (.slice p2 ws.length c2) (.slice p3 cs.length c3) from alloc_heap w _)
  obtain ⟨wa, hwa⟩ : ∃ wa, wa = w.alloc (.cells #[.slice p1 ps.length c1, .slice p2 ws.length c2, .slice p3 cs.length c3] 31) := ⟨_, rfl⟩
  rw [← hwa] at B1 T1
  obtain ⟨x0, x1, x2⟩ := T1.out.cells
  cases hg : goodM ps ws cs
  · rw [hg, Bool.false_and, if_neg (by decide)] at IU
    rw [hg] at G
    rw [IU.out, Bool.false_and]
    clear hg IU SC UC
    go_enter Try.func30, Try.ntmps30
    go_wp2_with fail
    rw [← hwa]
    clear hwa
    refine (G.out _ B1.out).mono ?_
    rintro e w1 ⟨rfl, b1⟩
    have HB1 := Lib.hid (B1.out.trans (b1.mono B1.out.size))
    clear b1
    go_wp2_with fail
    go_ret2
    exact newInts_empty HB1.out
  · have mk := goodM_iff.1 hg
    have UC2 := Lib.hid (UC.out mk)
    have n24 := mk.good.n24
    have n1 := mk.good.n1
    have le1 : cs.length ≤ ps.length := Nat.le_of_eq mk.len
    have le2 : ps.length ≤ cs.length := Nat.le_of_eq mk.len.symm
    rw [hg, Bool.true_and] at IU
    rw [hg] at G
    rw [Bool.true_and]
    by_cases h0 : 0 ≤ unI ps cs
    · obtain ⟨x, hx, hxl⟩ := un_at h0
      have SC2 := Lib.hid (SC.out mk x hxl)
      have RL : Hid (List.replicate cs.length (0 : Int) = List.replicate ps.length 0) := Lib.hid (by rw [mk.len])
      have FG : Hid (fgL ps cs = (List.replicate ps.length 0).set x (if 0 < sdN ps cs x 0 ps.length then -1 else 1)) := Lib.hid (by unfold fgL; rw [hx, Int.toNat_natCast])
      rw [decide_eq_true h0, if_pos rfl] at IU
      rw [IU.out, FG.out, decide_eq_true h0]
      rw [hx] at UC2
      generalize sdN ps cs x 0 ps.length = s0 at *
      generalize sdN ps cs x 1 ps.length = s1 at *
      generalize sdN ps cs x 2 ps.length = s2 at *
      clear hg IU FG SC UC mk hx h0
      obtain ⟨i0, hi, hz0, hz1, hz2⟩ := info_parts intInfo
      have i1 : (0 : Int) ≤ (x : Int) := by omega
      have i2 : (x : Int) < (cs.length : Int) := by omega
      have i3 : (x : Int) < (ps.length : Int) := by omega
      have MK : Hid (∃ mk : World → World, ∀ w0, (Instr.makeSlice 22 (.int .i64 (cs.length : Int)) (.int .i64 (cs.length : Int))).run Try.prog w0 = .ok (.slice (some ⟨w0.heap.size, 0, none⟩) cs.length cs.length) (mk w0) ∧ (mk w0).ownsRow 0 3 1 (.slice (some ⟨w0.heap.size, 0, none⟩) cs.length cs.length) cs.length (List.replicate cs.length (.int .i64 0)) ∧ w0.grownBy (mk w0) none) := Lib.hid (by
        have hx : ∀ w0 : World, ∃ w', (Instr.makeSlice 22 (.int .i64 (cs.length : Int)) (.int .i64 (cs.length : Int))).run Try.prog w0 = .ok (.slice (some ⟨w0.heap.size, 0, none⟩) cs.length cs.length) w' ∧ w'.ownsRow 0 3 1 (.slice (some ⟨w0.heap.size, 0, none⟩) cs.length cs.length) cs.length (List.replicate cs.length (.int .i64 0)) ∧ w0.grownBy w' none := fun w0 => by
          obtain ⟨w', h1, h2, h3⟩ := run_make_full (P := Try.prog) w0 0 22 3 i0 (.int .i64 0) 1 Try.underlying22 hi hz0 hz1 .i64 .i64 cs.length (by rw [hz2]; omega) (by unfold maxLen; omega) (Nat.zero_le _)
          rw [show (Value.int .i64 0).cells = #[Value.int .i64 0] from rfl, Nat.mul_one, toList_madeCells_one] at h2
          exact ⟨w', h1, h2, h3⟩
        exact ⟨fun w0 => Classical.choose (hx w0), fun w0 => Classical.choose_spec (hx w0)⟩)
      have hix : ∀ w : World, (Instr.index 73 (.agg #[.int .i64 (s0 : Int), .int .i64 (s1 : Int), .int .i64 (s2 : Int)]) (.int .i64 0)).run Try.prog w = .ok (.int .i64 (s0 : Int)) w := fun _ => by kernel_rfl
      obtain ⟨mk, hmk⟩ := MK.out
      have RUN := fun w0 => (hmk w0).1
      have MKO := Lib.hid (fun w0 => OwnV.made (lo := 0) (hmk w0).2.1)
      have MKB : Hid (∀ w0 : World, Below w0.heap.size w0 (mk w0)) := Lib.hid (fun w0 => (Below.refl _ _).grown (hmk w0).2.2 (Nat.le_refl _) (by simp))
      clear hmk MK
      by_cases h0 : 0 < s0
      · have h0' : (0 : Int) < (s0 : Int) := by omega
        rw [if_pos h0]
        go_enter Try.func30, Try.ntmps30
        go_wp2_with fail
        rw [← hwa]
        clear hwa
        refine (G.out _ B1.out).mono ?_
        rintro e w1 ⟨rfl, b1⟩
        have HB1 := Lib.hid (B1.out.trans (b1.mono B1.out.size))
        have U1 := Lib.hid (T1.out.below b1 T1.out.lt)
        obtain ⟨y0, y1, y2⟩ := U1.out.cells
        clear b1 x0 x1 x2
        go_wp2_with fail
        refine (UC2.out _ HB1.out).mono ?_
        rintro e w2 ⟨rfl, b2⟩
        have HB2 := Lib.hid (HB1.out.trans (b2.mono HB1.out.size))
        have U2 := Lib.hid (U1.out.below b2 U1.out.lt)
        obtain ⟨z0, z1, z2⟩ := U2.out.cells
        clear b2 y0 y1 y2 U1 HB1 T1 B1 G
        go_upto_region 3 with fail
        go_cut [4, 5] (fun s4 s5 wx => ∃ g, s4 = .slice (some ⟨g, 0, none⟩) cs.length cs.length ∧ s5 = .int .i64 (x : Int) ∧ Hid (FgS w (.slice p1 ps.length c1) (.slice p2 ws.length c2) (.slice p3 cs.length c3) cs.length g wx))
        case first =>
          have HE0 := Lib.hid (show FgB w (.slice p1 ps.length c1) (.slice p2 ws.length c2) (.slice p3 cs.length c3) w2 from ⟨U2.out, HB2.out⟩)
          have HD := Lib.hid (HE0.out.next (below_drew (Below.refl w2.heap.size w2)))
          have KC : Hid (∀ w', Hid (FgB w (.slice p1 ps.length c1) (.slice p2 ws.length c2) (.slice p3 cs.length c3) w') → w'.cell? ⟨w.heap.size, 0, none⟩ = some (.slice p1 ps.length c1) ∧ w'.cell? ⟨w.heap.size, 1, none⟩ = some (.slice p2 ws.length c2) ∧ w'.cell? ⟨w.heap.size, 2, none⟩ = some (.slice p3 cs.length c3)) := Lib.hid (fun w' he => he.out.1.cells)
          have KM : Hid (∀ w', Hid (FgB w (.slice p1 ps.length c1) (.slice p2 ws.length c2) (.slice p3 cs.length c3) w') → Hid (FgB w (.slice p1 ps.length c1) (.slice p2 ws.length c2) (.slice p3 cs.length c3) (mk w'))) := Lib.hid (fun w' he => Lib.hid (he.out.next (MKB.out _)))
          have HDM := KM.out _ HD
          have CE : Hid (∀ w', Hid (FgB w (.slice p1 ps.length c1) (.slice p2 ws.length c2) (.slice p3 cs.length c3) w') → Calls Try.prog 57 #[.agg #[.slice p1 ps.length c1, .slice p2 ws.length c2, .slice p3 cs.length c3]] w' (Gives (.int .i64 (x : Int)) w')) := Lib.hid (fun w' he => UC2.out w' he.out.2)
          have TA : Hid (∀ (w8 : World), Below (mk w2.drew).heap.size (mk w2.drew) w8 → FgS w (.slice p1 ps.length c1) (.slice p2 ws.length c2) (.slice p3 cs.length c3) cs.length w2.drew.heap.size w8) := Lib.hid (fun w8 b8 =>
            ⟨(((MKO.out w2.drew).up (lo' := w.heap.size + 1) (show w.heap.size + 1 ≤ w2.drew.heap.size from U2.out.lt)).below b8).wide b8.size (Nat.le_refl _), (HDM.out.next b8).1, (HDM.out.next b8).2⟩)
          have TB : Hid (∀ (w8 : World), Hid (FgB w (.slice p1 ps.length c1) (.slice p2 ws.length c2) (.slice p3 cs.length c3) w8) → FgS w (.slice p1 ps.length c1) (.slice p2 ws.length c2) (.slice p3 cs.length c3) cs.length w8.heap.size (mk w8)) := Lib.hid (fun w8 he =>
            ⟨(MKO.out w8).up (lo' := w.heap.size + 1) he.out.1.lt, (KM.out _ he).out.1, (KM.out _ he).out.2⟩)
          go_region_held3 (fun w' => w'.cell? ⟨w.heap.size, 0, none⟩ = some (.slice p1 ps.length c1) ∧ w'.cell? ⟨w.heap.size, 1, none⟩ = some (.slice p2 ws.length c2) ∧ w'.cell? ⟨w.heap.size, 2, none⟩ = some (.slice p3 cs.length c3))
            (first | exact KC.out _ HD | exact KC.out _ HDM | exact KC.out _ (by assumption) | exact KC.out _ (KM.out _ (by assumption)) | go_keep)
            (first
              | (go_at_call 57; (with_reducible refine (CE.out _ (by first | exact HD | exact HDM | assumption)).mono ?_); rintro e w8 ⟨rfl, b8⟩; (have HE8 := Lib.hid (FgB.next (Hid.out (by first | exact HD | exact HDM | assumption)) b8))))
          all_goals
            go_wp2_with fail
            go_meet
            refine ⟨_, rfl, rfl, Lib.hid ?_⟩
            first
              | exact TA.out _ b8
              | exact TB.out _ HE8
        obtain ⟨g, rfl, rfl, hT⟩ := hcut
        obtain ⟨w3, rfl⟩ : ∃ w3 : World, w3 = wc := ⟨_, rfl⟩
        clear z0 z1 z2 U2 HB2 UC2 RUN MKO MKB
        have O2 := Lib.hid hT.out.own
        have hgl := (hT.out.own.row.lt g rfl).1
        have hfz := O2.out.frozenGet x
        have hcx := O2.out.cellGet (j := x) (by rw [List.length_replicate]; omega)
        have O3 := Lib.hid (O2.out.setAt x (x := 1) (by unfold InI64; omega))
        have B3 := Lib.hid (hT.out.bel.setCell (p := ⟨g, x, none⟩) (show w.heap.size ≤ g by omega) (.int .i64 1))
        have T3 := Lib.hid (hT.out.box.set (g := g) (o := x) (x := .int .i64 1) (by omega))
        obtain ⟨w4, hw4⟩ : ∃ w4, w4 = w3.setCell ⟨g, x, none⟩ (.int .i64 1) := ⟨_, rfl⟩
        rw [← hw4] at O3 B3 T3
        have hs4 : w3.heap.size = w4.heap.size := by rw [hw4]; simp [World.setCell]
        rw [hs4] at O3
        obtain ⟨t0, t1, t2⟩ := T3.out.cells
        rw [hw4] at t0 t1 t2
        clear hs4 O2 hT
        go_wp2_with fail
        rw [← hw4]
        clear hw4 hfz hcx t0 t1 t2
        refine (SC2.out _ B3.out).mono ?_
        rintro e w5 ⟨rfl, b5⟩
        have HB5 := Lib.hid (B3.out.trans (b5.mono B3.out.size))
        have O5 := Lib.hid ((O3.out.below b5).wide b5.size (Nat.le_refl _))
        have hfz := O5.out.frozenGet x
        have hcx := O5.out.cellGet (j := x) (by rw [List.length_set, List.length_replicate]; omega)
        have O6 := Lib.hid (O5.out.setAt x (x := -1) (by unfold InI64; omega))
        have B6 := Lib.hid (HB5.out.setCell (p := ⟨g, x, none⟩) (show w.heap.size ≤ g by omega) (.int .i64 (-1)))
        have hs6 : (w5.setCell ⟨g, x, none⟩ (.int .i64 (-1))).heap.size = w5.heap.size := by simp [World.setCell]
        rw [List.set_set, RL.out, ← hs6] at O6
        rw [RL.out] at O5
        have F6 := Lib.hid (O6.out.low (lo' := w.heap.size) (by omega))
        have F5 := Lib.hid (O5.out.low (lo' := w.heap.size) (by omega))
        clear b5 B3 O3 T3 hs6 O5 O6
        go_wp2_with fail
        go_ret2
        exact ⟨_, rfl, F6.out, B6.out⟩
      · have h0' : ¬ (0 : Int) < (s0 : Int) := by omega
        rw [if_neg h0]
        go_enter Try.func30, Try.ntmps30
        go_wp2_with fail
        rw [← hwa]
        clear hwa
        refine (G.out _ B1.out).mono ?_
        rintro e w1 ⟨rfl, b1⟩
        have HB1 := Lib.hid (B1.out.trans (b1.mono B1.out.size))
        have U1 := Lib.hid (T1.out.below b1 T1.out.lt)
        obtain ⟨y0, y1, y2⟩ := U1.out.cells
        clear b1 x0 x1 x2
        go_wp2_with fail
        refine (UC2.out _ HB1.out).mono ?_
        rintro e w2 ⟨rfl, b2⟩
        have HB2 := Lib.hid (HB1.out.trans (b2.mono HB1.out.size))
        have U2 := Lib.hid (U1.out.below b2 U1.out.lt)
        obtain ⟨z0, z1, z2⟩ := U2.out.cells
        clear b2 y0 y1 y2 U1 HB1 T1 B1 G
        go_upto_region 3 with fail
        go_cut [4, 5] (fun s4 s5 wx => ∃ g, s4 = .slice (some ⟨g, 0, none⟩) cs.length cs.length ∧ s5 = .int .i64 (x : Int) ∧ Hid (FgS w (.slice p1 ps.length c1) (.slice p2 ws.length c2) (.slice p3 cs.length c3) cs.length g wx))
        case first =>
          have HE0 := Lib.hid (show FgB w (.slice p1 ps.length c1) (.slice p2 ws.length c2) (.slice p3 cs.length c3) w2 from ⟨U2.out, HB2.out⟩)
          have HD := Lib.hid (HE0.out.next (below_drew (Below.refl w2.heap.size w2)))
          have KC : Hid (∀ w', Hid (FgB w (.slice p1 ps.length c1) (.slice p2 ws.length c2) (.slice p3 cs.length c3) w') → w'.cell? ⟨w.heap.size, 0, none⟩ = some (.slice p1 ps.length c1) ∧ w'.cell? ⟨w.heap.size, 1, none⟩ = some (.slice p2 ws.length c2) ∧ w'.cell? ⟨w.heap.size, 2, none⟩ = some (.slice p3 cs.length c3)) := Lib.hid (fun w' he => he.out.1.cells)
          have KM : Hid (∀ w', Hid (FgB w (.slice p1 ps.length c1) (.slice p2 ws.length c2) (.slice p3 cs.length c3) w') → Hid (FgB w (.slice p1 ps.length c1) (.slice p2 ws.length c2) (.slice p3 cs.length c3) (mk w'))) := Lib.hid (fun w' he => Lib.hid (he.out.next (MKB.out _)))
          have HDM := KM.out _ HD
          have CE : Hid (∀ w', Hid (FgB w (.slice p1 ps.length c1) (.slice p2 ws.length c2) (.slice p3 cs.length c3) w') → Calls Try.prog 57 #[.agg #[.slice p1 ps.length c1, .slice p2 ws.length c2, .slice p3 cs.length c3]] w' (Gives (.int .i64 (x : Int)) w')) := Lib.hid (fun w' he => UC2.out w' he.out.2)
          have TA : Hid (∀ (w8 : World), Below (mk w2.drew).heap.size (mk w2.drew) w8 → FgS w (.slice p1 ps.length c1) (.slice p2 ws.length c2) (.slice p3 cs.length c3) cs.length w2.drew.heap.size w8) := Lib.hid (fun w8 b8 =>
            ⟨(((MKO.out w2.drew).up (lo' := w.heap.size + 1) (show w.heap.size + 1 ≤ w2.drew.heap.size from U2.out.lt)).below b8).wide b8.size (Nat.le_refl _), (HDM.out.next b8).1, (HDM.out.next b8).2⟩)
          have TB : Hid (∀ (w8 : World), Hid (FgB w (.slice p1 ps.length c1) (.slice p2 ws.length c2) (.slice p3 cs.length c3) w8) → FgS w (.slice p1 ps.length c1) (.slice p2 ws.length c2) (.slice p3 cs.length c3) cs.length w8.heap.size (mk w8)) := Lib.hid (fun w8 he =>
            ⟨(MKO.out w8).up (lo' := w.heap.size + 1) he.out.1.lt, (KM.out _ he).out.1, (KM.out _ he).out.2⟩)
          go_region_held3 (fun w' => w'.cell? ⟨w.heap.size, 0, none⟩ = some (.slice p1 ps.length c1) ∧ w'.cell? ⟨w.heap.size, 1, none⟩ = some (.slice p2 ws.length c2) ∧ w'.cell? ⟨w.heap.size, 2, none⟩ = some (.slice p3 cs.length c3))
            (first | exact KC.out _ HD | exact KC.out _ HDM | exact KC.out _ (by assumption) | exact KC.out _ (KM.out _ (by assumption)) | go_keep)
            (first
              | (go_at_call 57; (with_reducible refine (CE.out _ (by first | exact HD | exact HDM | assumption)).mono ?_); rintro e w8 ⟨rfl, b8⟩; (have HE8 := Lib.hid (FgB.next (Hid.out (by first | exact HD | exact HDM | assumption)) b8))))
          all_goals
            go_wp2_with fail
            go_meet
            refine ⟨_, rfl, rfl, Lib.hid ?_⟩
            first
              | exact TA.out _ b8
              | exact TB.out _ HE8
        obtain ⟨g, rfl, rfl, hT⟩ := hcut
        obtain ⟨w3, rfl⟩ : ∃ w3 : World, w3 = wc := ⟨_, rfl⟩
        clear z0 z1 z2 U2 HB2 UC2 RUN MKO MKB
        have O2 := Lib.hid hT.out.own
        have hgl := (hT.out.own.row.lt g rfl).1
        have hfz := O2.out.frozenGet x
        have hcx := O2.out.cellGet (j := x) (by rw [List.length_replicate]; omega)
        have O3 := Lib.hid (O2.out.setAt x (x := 1) (by unfold InI64; omega))
        have B3 := Lib.hid (hT.out.bel.setCell (p := ⟨g, x, none⟩) (show w.heap.size ≤ g by omega) (.int .i64 1))
        have T3 := Lib.hid (hT.out.box.set (g := g) (o := x) (x := .int .i64 1) (by omega))
        obtain ⟨w4, hw4⟩ : ∃ w4, w4 = w3.setCell ⟨g, x, none⟩ (.int .i64 1) := ⟨_, rfl⟩
        rw [← hw4] at O3 B3 T3
        have hs4 : w3.heap.size = w4.heap.size := by rw [hw4]; simp [World.setCell]
        rw [hs4] at O3
        obtain ⟨t0, t1, t2⟩ := T3.out.cells
        rw [hw4] at t0 t1 t2
        clear hs4 O2 hT
        go_wp2_with fail
        rw [← hw4]
        clear hw4 hfz hcx t0 t1 t2
        refine (SC2.out _ B3.out).mono ?_
        rintro e w5 ⟨rfl, b5⟩
        have HB5 := Lib.hid (B3.out.trans (b5.mono B3.out.size))
        have O5 := Lib.hid ((O3.out.below b5).wide b5.size (Nat.le_refl _))
        have hfz := O5.out.frozenGet x
        have hcx := O5.out.cellGet (j := x) (by rw [List.length_set, List.length_replicate]; omega)
        have O6 := Lib.hid (O5.out.setAt x (x := -1) (by unfold InI64; omega))
        have B6 := Lib.hid (HB5.out.setCell (p := ⟨g, x, none⟩) (show w.heap.size ≤ g by omega) (.int .i64 (-1)))
        have hs6 : (w5.setCell ⟨g, x, none⟩ (.int .i64 (-1))).heap.size = w5.heap.size := by simp [World.setCell]
        rw [List.set_set, RL.out, ← hs6] at O6
        rw [RL.out] at O5
        have F6 := Lib.hid (O6.out.low (lo' := w.heap.size) (by omega))
        have F5 := Lib.hid (O5.out.low (lo' := w.heap.size) (by omega))
        clear b5 B3 O3 T3 hs6 O5 O6
        go_wp2_with fail
        go_ret2
        exact ⟨_, rfl, F5.out, HB5.out⟩
    · have h1 : unI ps cs < 0 := by omega
      rw [decide_eq_false h0, if_neg (by decide)] at IU
      rw [IU.out, decide_eq_false h0]
      generalize unI ps cs = r at *
      clear hg IU SC UC mk
      go_enter Try.func30, Try.ntmps30
      go_wp2_with fail
      rw [← hwa]
      clear hwa
      refine (G.out _ B1.out).mono ?_
      rintro e w1 ⟨rfl, b1⟩
      have HB1 := Lib.hid (B1.out.trans (b1.mono B1.out.size))
      obtain ⟨y0, y1, y2⟩ := (T1.out.below b1 T1.out.lt).cells
      clear b1 x0 x1 x2
      go_wp2_with fail
      refine (UC2.out _ HB1.out).mono ?_
      rintro e w2 ⟨rfl, b2⟩
      have HB2 := Lib.hid (HB1.out.trans (b2.mono HB1.out.size))
      clear b2
      go_wp2_with fail
      go_ret2
      exact newInts_empty HB2.out
end Go.Proofs.Ytamneibnjbimeaa
