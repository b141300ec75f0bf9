/- ChanceOf, in the program and in the model. -/
import Derived.Test.YtfnnlkbecnjloabSumsI
import Derived.Test.YtfnnlkbecnjloabNode
import Derived.Test.YtfnnlkbecnjloabFracK
import Derived.Deep.RegionHeld3
namespace Go.Proofs.Ytfnnlkbecnjloab
open Go.RowKit
set_option linter.unusedVariables false
/-- A box of a pair. -/
def PBox (w : World) (R : Nat) (a b : Int) : Prop := w.heap[R]? = some (.cells #[.int .i64 a, .int .i64 b] 26 (0, 0))
theorem PBox.below {w w1 : World} {R C : Nat} {a b : Int} (h : PBox w R a b) (hb : Below C w w1) (hR : R < C) : PBox w1 R a b := (hb.block R hR).trans h
theorem PBox.lt {w : World} {R : Nat} {a b : Int} (h : PBox w R a b) : R < w.heap.size := by unfold PBox at h; exact (Array.getElem?_eq_some_iff.1 h).1
theorem PBox.cells {w : World} {R : Nat} {a b : Int} (h : PBox w R a b) : w.cell? ⟨R, 0, none⟩ = some (.int .i64 a) ∧ w.cell? ⟨R, 1, none⟩ = some (.int .i64 b) ∧ w.frozen? ⟨R, 0, none⟩ = false ∧ w.frozen? ⟨R, 1, none⟩ = false :=
  ⟨(cell_of_heap (o := 0) h rfl).1, (cell_of_heap (o := 1) h rfl).1, (cell_of_heap (o := 0) h rfl).2, (cell_of_heap (o := 1) h rfl).2⟩
theorem bnext {V a b : World} (h : Below V.heap.size V a) (k : Below a.heap.size a b) : Below V.heap.size V b := h.trans (k.mono h.size)
theorem bundrew {a b : World} (h : Below a.drew.heap.size a.drew b) : Below a.heap.size a b := ⟨h.os, h.tape, h.output, h.size, h.block⟩
theorem far2 {X : World} {g R o : Nat} {a b : Value} (h : g ≠ R) : ((X.setCell ⟨R, 0, none⟩ a).setCell ⟨R, 1, none⟩ b).cell? ⟨g, o, none⟩ = X.cell? ⟨g, o, none⟩ := by
  rw [World.cell?_setCell_other _ _ _ _ (by simp), World.cell?_setCell_other _ _ _ _ (by simp)]
/-- What ChanceOf returns. -/
def chanceN (ps ws : List Int) (x : Int) : Int := cutN ((sumsT ps ws).getD x.toNat 0) ((sumsT ps ws).getD 0 0)
def chanceD (ps ws : List Int) (x : Int) : Int := cutD ((sumsT ps ws).getD x.toNat 0) ((sumsT ps ws).getD 0 0)
def chanceV (ps ws : List Int) (x : Int) : Value := if nodeB ps ws x = true then .tuple #[.agg #[.int .i64 (chanceN ps ws x), .int .i64 (chanceD ps ws x)], .bool true] else zeroP
theorem kept_small {a b : Int} (ha : -1000000 ≤ a ∧ a ≤ 1000000) (hb : 0 < b ∧ b ≤ 1000000) : keptV (cutN a b) (cutD a b) = .tuple #[.agg #[.int .i64 (cutN a b), .int .i64 (cutD a b)], .bool true] := by
  have h1 := abs_cutN (a := a) (b := b) 1000000 ha (by omega)
  have h2 := cutD_le (a := a) hb.1
  have h3 := cutD_pos (a := a) hb.1
  unfold keptV
  rw [if_pos (by unfold inB; simp; omega)]
theorem nodeB_true' {ps ws : List Int} {x : Int} (h : nodeB ps ws x = true) : Good ps ws ∧ 0 ≤ x ∧ x < (ps.length : Int) := by
  unfold nodeB at h
  rw [Bool.and_eq_true, decide_eq_true_eq] at h
  exact ⟨Good.of h.1, h.2.1, h.2.2⟩
set_option maxHeartbeats 4000000 in
theorem chanceI (ps ws : List Int) (v : Value) (x : Int) (w : World) (h : TreeV w w.heap.size v ps ws) :
    Calls Try.prog 18 #[v, .int .i64 x] w (Gives (chanceV ps ws x) w) := by
  have N := Lib.hid (fun w' (hb : Below w.heap.size w w') => isNodeI ps ws v x w' (h.boxed hb))
  have SU := Lib.hid (fun w' (hb : Below w.heap.size w w') => sumsI ps ws v w' (h.boxed hb))
  obtain ⟨p1, c1, p2, c2, rfl⟩ : ∃ p1 c1 p2 c2, v = .agg #[.slice p1 ps.length c1, .slice p2 ws.length c2] := by
    obtain ⟨v1, v2, e, ⟨p1, c1, e1, _⟩, ⟨p2, c2, e2, _⟩⟩ := h
    exact ⟨p1, c1, p2, c2, by rw [e, e1, e2]⟩
  clear h
  have B1 := ((Below.refl w.heap.size w).alloc (Nat.le_refl _) (.cells #[.slice p1 ps.length c1, .slice p2 ws.length c2] 29)).alloc (by simp) (.cells #[.int .i64 0, .int .i64 0] 26)
  have K0 := alloc_two w (.cells #[.slice p1 ps.length c1, .slice p2 ws.length c2] 29) (.cells #[.int .i64 0, .int .i64 0] 26)
  obtain ⟨wa, hwa⟩ : ∃ wa, wa = (w.alloc (.cells #[.slice p1 ps.length c1, .slice p2 ws.length c2] 29)).alloc (.cells #[.int .i64 0, .int .i64 0] 26) := ⟨_, rfl⟩
  rw [← hwa] at B1 K0
  have T1 := Lib.hid (show TBox wa w.heap.size (.slice p1 ps.length c1) (.slice p2 ws.length c2) from K0.1)
  have R1 := Lib.hid (show PBox wa (w.heap.size + 1) 0 0 from K0.2)
  have sz : wa.heap.size = w.heap.size + 2 := by rw [hwa]; simp
  have SZ := Lib.hid sz
  have HBA := Lib.hid B1
  clear K0 B1 sz
  obtain ⟨x0, x1⟩ := T1.out.cells
  have sGV : Hid (goodT ps ws = false → chanceV ps ws x = zeroP) := Lib.hid (fun h => by unfold chanceV nodeB; rw [h]; simp)
  have sNV : Hid (nodeB ps ws x = false → chanceV ps ws x = zeroP) := Lib.hid (fun h => by unfold chanceV; rw [h]; simp)
  cases hg : goodT ps ws
  · rw [hg] at SU
    have CV := Lib.hid (sGV.out hg)
    clear hg sGV sNV N
    go_enter Try.func18, Try.ntmps18
    go_wp2_with fail
    rw [← hwa]
    clear hwa
    refine (SU.out _ HBA.out).mono ?_
    rintro e w1 ⟨u, rfl, o1, b1⟩
    have HB1 := Lib.hid (HBA.out.trans (b1.mono HBA.out.size))
    obtain ⟨c0, c1, f0, f1⟩ := (R1.out.below b1 R1.out.lt).cells
    clear b1 o1
    go_wp2_with fail
    refine bodyPost_ret (v := .tuple #[.agg #[.int .i64 0, .int .i64 0], .bool false]) (by simp [results, Try.results18, go_sem, c0, c1]) rfl ⟨by rw [CV.out]; rfl, ?_⟩
    exact (HB1.out.setCell (p := ⟨w.heap.size + 1, 0, none⟩) (by simp) _).setCell (p := ⟨w.heap.size + 1, 1, none⟩) (by simp) _
  · rw [hg] at SU
    have gd := Good.of hg
    have hn1 := gd.n1
    have hSL := sumsT_len gd.nw
    have IG : ifGood ps ws (sumsT ps ws) = sumsT ps ws := by unfold ifGood; rw [hg]; rfl
    rw [IG] at SU
    have GD := Lib.hid gd
    clear hg sGV IG gd
    cases hnb : nodeB ps ws x
    · rw [hnb] at N
      have CV := Lib.hid (sNV.out hnb)
      clear hnb sNV
      go_enter Try.func18, Try.ntmps18
      go_wp2_with fail
      rw [← hwa]
      clear hwa
      refine (SU.out _ HBA.out).mono ?_
      rintro e w1 ⟨u, rfl, o1, b1⟩
      have HB1 := Lib.hid (HBA.out.trans (b1.mono HBA.out.size))
      have R2 := Lib.hid (R1.out.below b1 R1.out.lt)
      have T2 := Lib.hid (T1.out.below b1 T1.out.lt)
      clear b1 o1 x0 x1
      obtain ⟨x0, x1⟩ := T2.out.cells
      go_wp2_with fail
      refine (N.out _ HB1.out).mono ?_
      rintro e w2 ⟨rfl, b2⟩
      have HB2 := Lib.hid (HB1.out.trans (b2.mono HB1.out.size))
      obtain ⟨c0, c1, f0, f1⟩ := (R2.out.below b2 R2.out.lt).cells
      clear b2
      go_wp2_with fail
      refine bodyPost_ret (v := .tuple #[.agg #[.int .i64 0, .int .i64 0], .bool false]) (by simp [results, Try.results18, go_sem, c0, c1]) rfl ⟨by rw [CV.out]; rfl, ?_⟩
      exact (HB2.out.setCell (p := ⟨w.heap.size + 1, 0, none⟩) (by simp) _).setCell (p := ⟨w.heap.size + 1, 1, none⟩) (by simp) _
    · rw [hnb] at N
      obtain ⟨_, hx0, hx1⟩ := nodeB_true' hnb
      obtain ⟨k, rfl⟩ : ∃ k : Nat, x = (k : Int) := ⟨x.toNat, by omega⟩
      have hk : k < ps.length := by omega
      have CV : Hid (chanceV ps ws (k : Int) = .tuple #[.agg #[.int .i64 (cutN ((sumsT ps ws).getD k 0) ((sumsT ps ws).getD 0 0)), .int .i64 (cutD ((sumsT ps ws).getD k 0) ((sumsT ps ws).getD 0 0))], .bool true]) := Lib.hid (by unfold chanceV chanceN chanceD; rw [if_pos hnb]; rfl)
      have RP := sumsT_root GD.out
      have RB := sumsT_bd GD.out k hk
      have RZ := sumsT_bd GD.out 0 (by omega)
      have RC : Hid (∀ w', Calls Try.prog 57 #[.int .i64 ((sumsT ps ws).getD k 0), .int .i64 ((sumsT ps ws).getD 0 0)] w' (Gives (.tuple #[.agg #[.int .i64 (cutN ((sumsT ps ws).getD k 0) ((sumsT ps ws).getD 0 0)), .int .i64 (cutD ((sumsT ps ws).getD k 0) ((sumsT ps ws).getD 0 0))], .bool true]) w')) := Lib.hid (fun w' => by rw [← kept_small (by omega) (by omega)]; exact reduceI_pos _ _ w' (by omega) (by omega))
      clear hnb sNV
      go_enter Try.func18, Try.ntmps18
      go_wp2_with fail
      rw [← hwa]
      clear hwa
      refine (SU.out _ HBA.out).mono ?_
      rintro e w1 ⟨u, rfl, o1, b1⟩
      obtain ⟨g, cap, rfl, hg1, hg2⟩ := o1.shape (by omega)
      have ck := o1.cellGet (j := k) (by omega)
      have cz := o1.cellGet (j := 0) (by omega)
      obtain ⟨a, ha⟩ : ∃ a, a = (sumsT ps ws).getD k 0 := ⟨_, rfl⟩
      obtain ⟨b, hbz⟩ : ∃ b, b = (sumsT ps ws).getD 0 0 := ⟨_, rfl⟩
      rw [← ha] at ck RB CV RC
      rw [← hbz] at cz RP RZ CV RC
      rw [hSL]
      have CK1 := Lib.hid ck
      have C01 := Lib.hid cz
      have SG1 := Lib.hid hg2
      have GR : Hid (g ≠ w.heap.size + 1) := Lib.hid (by have := SZ.out; omega)
      have HB1 := Lib.hid (HBA.out.trans (b1.mono HBA.out.size))
      have R2 := Lib.hid (R1.out.below b1 R1.out.lt)
      have T2 := Lib.hid (T1.out.below b1 T1.out.lt)
      clear b1 o1 x0 x1 ck cz ha hbz hg1 hg2
      obtain ⟨x0, x1⟩ := T2.out.cells
      go_wp2_with fail
      refine (N.out _ HB1.out).mono ?_
      rintro e wl ⟨rfl, b2⟩
      have HB2 := Lib.hid (HB1.out.trans (b2.mono HB1.out.size))
      have RL := Lib.hid (R2.out.below b2 R2.out.lt)
      have SG : Hid (g < wl.heap.size) := Lib.hid (Nat.lt_of_lt_of_le SG1.out b2.size)
      have CK : Hid (wl.cell? ⟨g, k, none⟩ = some (.int .i64 a)) := Lib.hid (by rw [b2.cell (p := ⟨g, k, none⟩) SG1.out]; exact CK1.out)
      have C0 : Hid (wl.cell? ⟨g, 0, none⟩ = some (.int .i64 b)) := Lib.hid (by rw [b2.cell (p := ⟨g, 0, none⟩) SG1.out]; exact C01.out)
      clear b2 x0 x1
      have i0 : (0 : Int) ≤ (k : Int) := by omega
      have i1 : (k : Int) < (ps.length : Int) := by omega
      have i2 : (0 : Int) < (ps.length : Int) := by omega
      have hSLH := Lib.hid hSL
      clear hSL
      have y0 : wl.cell? ⟨g, k, none⟩ = some (.int .i64 a) := CK.out
      have y1 : wl.cell? ⟨g, 0, none⟩ = some (.int .i64 b) := C0.out
      have hn0 : 0 < ps.length := by omega
      have hgR : g ≠ w.heap.size + 1 := GR.out
      go_wp2_with fail
      go_region_held3 (fun w' => w'.cell? ⟨g, k, none⟩ = some (.int .i64 a) ∧ w'.cell? ⟨g, 0, none⟩ = some (.int .i64 b))
        (first | exact ⟨y0, y1⟩ | exact ⟨z0, z1⟩ | exact ⟨(far2 hgR).trans z0, (far2 hgR).trans z1⟩ | go_keep)
        (first | (go_at_call 57; (with_reducible refine (RC.out _).mono ?_); rintro e w9 ⟨rfl, b9⟩; (have hb9 := bundrew b9); (have HB9 := Lib.hid (HB2.out.trans (hb9.mono HB2.out.size))); (have z0 : w9.cell? ⟨g, k, none⟩ = some (.int .i64 a) := (hb9.cell (p := ⟨g, k, none⟩) SG.out).trans CK.out); (have z1 : w9.cell? ⟨g, 0, none⟩ = some (.int .i64 b) := (hb9.cell (p := ⟨g, 0, none⟩) SG.out).trans C0.out); (obtain ⟨c0, c1, f0, f1⟩ := (RL.out.below hb9 RL.out.lt).cells); clear b9 hb9))
      all_goals
        go_wp2_with fail
        refine bodyPost_ret (v := .tuple #[.agg #[.int .i64 (cutN a b), .int .i64 (cutD a b)], .bool true]) (by simp [results, Try.results18, go_sem, *]) rfl ⟨by rw [CV.out], ?_⟩
        exact (HB9.out.setCell (p := ⟨w.heap.size + 1, 0, none⟩) (by simp) _).setCell (p := ⟨w.heap.size + 1, 1, none⟩) (by simp) _
set_option maxHeartbeats 4000000 in
theorem chanceM (ps ws : List Int) (v : Value) (x : Int) (w : World) (h : TreeV w w.heap.size v ps ws) :
    Calls Try.prog 16 #[v, .int .i64 x] w (Gives (chanceV ps ws x) w) := by
  have N := Lib.hid (fun w' (hb : Below w.heap.size w w') => nodeS ps ws v x w' (h.boxed hb))
  have SU := Lib.hid (fun (gd : Good ps ws) w' (hb : Below w.heap.size w w') => sumsS ps ws v w' gd (h.boxed hb))
  obtain ⟨p1, c1, p2, c2, rfl⟩ : ∃ p1 c1 p2 c2, v = .agg #[.slice p1 ps.length c1, .slice p2 ws.length c2] := by
    obtain ⟨v1, v2, e, ⟨p1, c1, e1, _⟩, ⟨p2, c2, e2, _⟩⟩ := h
    exact ⟨p1, c1, p2, c2, by rw [e, e1, e2]⟩
  clear h
  have B1 := ((Below.refl w.heap.size w).alloc (Nat.le_refl _) (.cells #[.slice p1 ps.length c1, .slice p2 ws.length c2] 29)).alloc (by simp) (.cells #[.int .i64 0, .int .i64 0] 26)
  have K0 := alloc_two w (.cells #[.slice p1 ps.length c1, .slice p2 ws.length c2] 29) (.cells #[.int .i64 0, .int .i64 0] 26)
  obtain ⟨wa, hwa⟩ : ∃ wa, wa = (w.alloc (.cells #[.slice p1 ps.length c1, .slice p2 ws.length c2] 29)).alloc (.cells #[.int .i64 0, .int .i64 0] 26) := ⟨_, rfl⟩
  rw [← hwa] at B1 K0
  have T1 := Lib.hid (show TBox wa w.heap.size (.slice p1 ps.length c1) (.slice p2 ws.length c2) from K0.1)
  have R1 := Lib.hid (show PBox wa (w.heap.size + 1) 0 0 from K0.2)
  have sz : wa.heap.size = w.heap.size + 2 := by rw [hwa]; simp
  have SZ := Lib.hid sz
  have HBA := Lib.hid B1
  clear K0 B1 sz
  obtain ⟨x0, x1⟩ := T1.out.cells
  have sNV : Hid (nodeB ps ws x = false → chanceV ps ws x = zeroP) := Lib.hid (fun h => by unfold chanceV; rw [h]; simp)
  cases hnb : nodeB ps ws x
  · rw [hnb] at N
    have CV := Lib.hid (sNV.out hnb)
    clear hnb sNV
    go_enter Try.func16, Try.ntmps16
    go_wp2_with fail
    rw [← hwa]
    clear hwa
    refine (N.out _ HBA.out).mono ?_
    rintro e w1 ⟨rfl, b1⟩
    have HB1 := Lib.hid (HBA.out.trans (b1.mono HBA.out.size))
    obtain ⟨c0, c1, f0, f1⟩ := (R1.out.below b1 R1.out.lt).cells
    clear b1
    go_wp2_with fail
    refine bodyPost_ret (v := .tuple #[.agg #[.int .i64 0, .int .i64 0], .bool false]) (by simp [results, Try.results16, go_sem, c0, c1]) rfl ⟨by rw [CV.out]; rfl, ?_⟩
    exact (HB1.out.setCell (p := ⟨w.heap.size + 1, 0, none⟩) (by simp) _).setCell (p := ⟨w.heap.size + 1, 1, none⟩) (by simp) _
  · rw [hnb] at N
    obtain ⟨gd, hx0, hx1⟩ := nodeB_true' hnb
    have SU2 := Lib.hid (SU.out gd)
    have hn1 := gd.n1
    have hSL := sumsT_len gd.nw
    have GD := Lib.hid gd
    clear gd SU
    obtain ⟨k, rfl⟩ : ∃ k : Nat, x = (k : Int) := ⟨x.toNat, by omega⟩
    have hk : k < ps.length := by omega
    have CV : Hid (chanceV ps ws (k : Int) = .tuple #[.agg #[.int .i64 (cutN ((sumsT ps ws).getD k 0) ((sumsT ps ws).getD 0 0)), .int .i64 (cutD ((sumsT ps ws).getD k 0) ((sumsT ps ws).getD 0 0))], .bool true]) := Lib.hid (by unfold chanceV chanceN chanceD; rw [if_pos hnb]; rfl)
    have RP := sumsT_root GD.out
    have RB := sumsT_bd GD.out k hk
    have RZ := sumsT_bd GD.out 0 (by omega)
    have RC : Hid (∀ w', Calls Try.prog 54 #[.int .i64 ((sumsT ps ws).getD k 0), .int .i64 ((sumsT ps ws).getD 0 0)] w' (Gives (.agg #[.int .i64 (cutN ((sumsT ps ws).getD k 0) ((sumsT ps ws).getD 0 0)), .int .i64 (cutD ((sumsT ps ws).getD k 0) ((sumsT ps ws).getD 0 0))]) w')) := Lib.hid (fun w' => cutS _ _ w' (by omega) (by omega))
    clear hnb sNV
    go_enter Try.func16, Try.ntmps16
    go_wp2_with fail
    rw [← hwa]
    clear hwa
    refine (N.out _ HBA.out).mono ?_
    rintro e w1 ⟨rfl, b1⟩
    have HB1 := Lib.hid (HBA.out.trans (b1.mono HBA.out.size))
    have R2 := Lib.hid (R1.out.below b1 R1.out.lt)
    have T2 := Lib.hid (T1.out.below b1 T1.out.lt)
    have sz1 := b1.size
    clear b1 x0 x1
    obtain ⟨x0, x1⟩ := T2.out.cells
    go_wp2_with fail
    refine (SU2.out _ HB1.out).mono ?_
    rintro e wl ⟨u, rfl, o1, b2⟩
    obtain ⟨g, cap, rfl, hg1, hg2⟩ := o1.shape (by omega)
    have ck := o1.cellGet (j := k) (by omega)
    have cz := o1.cellGet (j := 0) (by omega)
    obtain ⟨a, ha⟩ : ∃ a, a = (sumsT ps ws).getD k 0 := ⟨_, rfl⟩
    obtain ⟨b, hbz⟩ : ∃ b, b = (sumsT ps ws).getD 0 0 := ⟨_, rfl⟩
    rw [← ha] at ck RB CV RC
    rw [← hbz] at cz RP RZ CV RC
    rw [hSL]
    have CK := Lib.hid ck
    have C0 := Lib.hid cz
    have SG := Lib.hid hg2
    have GR : Hid (g ≠ w.heap.size + 1) := Lib.hid (by have := SZ.out; omega)
    have HB2 := Lib.hid (HB1.out.trans (b2.mono HB1.out.size))
    have RL := Lib.hid (R2.out.below b2 R2.out.lt)
    clear b2 o1 x0 x1 ck cz ha hbz hg1 hg2 sz1
    have i0 : (0 : Int) ≤ (k : Int) := by omega
    have i1 : (k : Int) < (ps.length : Int) := by omega
    have i2 : (0 : Int) < (ps.length : Int) := by omega
    have hSLH := Lib.hid hSL
    clear hSL
    have y0 : wl.cell? ⟨g, k, none⟩ = some (.int .i64 a) := CK.out
    have y1 : wl.cell? ⟨g, 0, none⟩ = some (.int .i64 b) := C0.out
    have hn0 : 0 < ps.length := by omega
    have hgR : g ≠ w.heap.size + 1 := GR.out
    go_wp2_with fail
    go_region_held3 (fun w' => w'.cell? ⟨g, k, none⟩ = some (.int .i64 a) ∧ w'.cell? ⟨g, 0, none⟩ = some (.int .i64 b))
      (first | exact ⟨y0, y1⟩ | exact ⟨z0, z1⟩ | exact ⟨(far2 hgR).trans z0, (far2 hgR).trans z1⟩ | go_keep)
      (first | (go_at_call 54; (with_reducible refine (RC.out _).mono ?_); rintro e w9 ⟨rfl, b9⟩; (have hb9 := bundrew b9); (have HB9 := Lib.hid (HB2.out.trans (hb9.mono HB2.out.size))); (have z0 : w9.cell? ⟨g, k, none⟩ = some (.int .i64 a) := (hb9.cell (p := ⟨g, k, none⟩) SG.out).trans CK.out); (have z1 : w9.cell? ⟨g, 0, none⟩ = some (.int .i64 b) := (hb9.cell (p := ⟨g, 0, none⟩) SG.out).trans C0.out); (obtain ⟨c0, c1, f0, f1⟩ := (RL.out.below hb9 RL.out.lt).cells); clear b9 hb9))
    all_goals
      go_wp2_with fail
      refine bodyPost_ret (v := .tuple #[.agg #[.int .i64 (cutN a b), .int .i64 (cutD a b)], .bool true]) (by simp [results, Try.results16, go_sem, *]) rfl ⟨by rw [CV.out], ?_⟩
      exact (HB9.out.setCell (p := ⟨w.heap.size + 1, 0, none⟩) (by simp) _).setCell (p := ⟨w.heap.size + 1, 1, none⟩) (by simp) _
theorem chanceV_form (ps ws : List Int) (x : Int) : ∃ p q ok, chanceV ps ws x = .tuple #[.agg #[.int .i64 p, .int .i64 q], .bool ok] := by
  unfold chanceV zeroP
  split
  · exact ⟨_, _, _, rfl⟩
  · exact ⟨_, _, _, rfl⟩
end Go.Proofs.Ytfnnlkbecnjloab
