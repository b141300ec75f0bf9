/- Chances of events, in the model. -/
import Derived.Test.YtfnnlkbecnjloabEvC
import Derived.Test.YtfnnlkbecnjloabEvN
namespace Go.Proofs.Ytfnnlkbecnjloab
open Go.RowKit
set_option linter.unusedVariables false
/-- What stands between the calls of a function of events in the model. -/
def MSt (w : World) (B R : Nat) (v1 v2 : Value) (w' : World) : Prop := TBox w' B v1 v2 ∧ Below w.heap.size w w' ∧ PBox w' R 0 0
theorem MSt.next {w a b : World} {B R : Nat} {v1 v2 : Value} (h : MSt w B R v1 v2 a) (hb : Below a.heap.size a b) : MSt w B R v1 v2 b :=
  ⟨h.1.below hb h.1.lt, h.2.1.trans (hb.mono h.2.1.size), h.2.2.below hb h.2.2.lt⟩
theorem MSt.drew {w a : World} {B R : Nat} {v1 v2 : Value} (h : MSt w B R v1 v2 a) : MSt w B R v1 v2 a.drew := h.next (below_drew (Below.refl _ _))
theorem Good.ws_bd {ps ws : List Int} (g : Good ps ws) : ∀ x, x < ws.length → 0 ≤ ws.getD x 0 ∧ ws.getD x 0 ≤ 20 := fun x hx => g.w_bd (by rw [← g.nw]; exact hx)
theorem Ev.in_ws {ps ws evs : List Int} (e : Ev ps ws evs) : ∀ i, i < evs.length → 0 ≤ evs.getD i 0 ∧ evs.getD i 0 < (ws.length : Int) := fun i hi => ⟨e.lo i hi, by rw [e.good.nw]; exact e.hi i hi⟩
/-- The sums' root, read behind the call. -/
def NewRoot (s : Int) (w : World) (e : Ending) (w' : World) : Prop := ∃ g n c, e = .returned (.slice (some ⟨g, 0, none⟩) n c) ∧ 0 < n ∧ g < w'.heap.size ∧ w'.cell? ⟨g, 0, none⟩ = some (.int .i64 s) ∧ Below w.heap.size w w'
theorem rootS (ps ws : List Int) (v : Value) (w : World) (gd : Good ps ws) (h : TreeV w w.heap.size v ps ws) :
    Calls Try.prog 53 #[v] w (NewRoot ((sumsT ps ws).getD 0 0) w) := by
  have hl := sumsT_len (ps := ps) gd.nw
  have h1 := gd.n1
  refine (sumsS ps ws v w gd h).mono fun e w' ⟨u, he, o, b⟩ => ?_
  obtain ⟨g, cap, hu, _, h2⟩ := o.shape (by omega)
  rw [hu] at o he
  exact ⟨g, _, _, he, by omega, h2, o.cellGet (by omega), b⟩
set_option maxRecDepth 100000 in
set_option maxHeartbeats 4000000 in
theorem evChM (ps ws evs : List Int) (v u : Value) (w : World) (hl : evs.length ≤ 1048576) (h : TreeV w w.heap.size v ps ws) (hu : IntsV w w.heap.size u evs) :
    Calls Try.prog 33 #[v, u] w (Gives (evChV ps ws evs) w) := by
  have TV := Lib.hid h
  have UV := Lib.hid hu
  have ES := Lib.hid (fun w' (hb : Below w.heap.size w w') => eventS ps ws evs v u w' hl (h.boxed hb) ((hu.below hb).more hb.size))
  obtain ⟨p1, c1, p2, c2, rfl⟩ := h.shape
  obtain ⟨q, cq, rfl, _⟩ := hu
  clear h
  have B1 := ((Below.refl w.heap.size w).alloc (Nat.le_refl _) (.cells #[.slice p1 ps.length c1, .slice p2 ws.length c2] 29)).alloc (by simp) (.cells #[.int .i64 0, .int .i64 0] 26)
  have K0 := alloc_two w (.cells #[.slice p1 ps.length c1, .slice p2 ws.length c2] 29) (.cells #[.int .i64 0, .int .i64 0] 26)
  obtain ⟨wa, hwa⟩ : ∃ wa, wa = (w.alloc (.cells #[.slice p1 ps.length c1, .slice p2 ws.length c2] 29)).alloc (.cells #[.int .i64 0, .int .i64 0] 26) := ⟨_, rfl⟩
  rw [← hwa] at B1 K0
  have T1 := Lib.hid (show TBox wa w.heap.size (.slice p1 ps.length c1) (.slice p2 ws.length c2) from K0.1)
  have R1 := Lib.hid (show PBox wa (w.heap.size + 1) 0 0 from K0.2)
  have HBA := Lib.hid B1
  clear K0 B1
  obtain ⟨x0, x1⟩ := T1.out.cells
  obtain ⟨eb, heb⟩ : ∃ eb, eb = evB ps ws evs := ⟨_, rfl⟩
  rw [← heb] at ES
  have HEV := Lib.hid heb
  clear heb
  cases eb
  · have CV : Hid (evChV ps ws evs = zeroP) := Lib.hid (by unfold evChV; rw [← HEV.out]; simp)
    go_enter Try.func33, Try.ntmps33
    go_wp2_with fail
    rw [← hwa]
    clear hwa
    refine (ES.out _ HBA.out).mono ?_
    rintro e w1 ⟨rfl, b1⟩
    have HB1 := Lib.hid (HBA.out.trans (b1.mono HBA.out.size))
    obtain ⟨c0, c1, f0, f1⟩ := (R1.out.below b1 R1.out.lt).cells
    clear b1 x0 x1
    go_wp2_with fail
    refine bodyPost_ret (v := .tuple #[.agg #[.int .i64 0, .int .i64 0], .bool false]) (by simp [results, Try.results33, go_sem, c0, c1]) rfl ⟨by rw [CV.out]; rfl, ?_⟩
    exact (HB1.out.setCell (p := ⟨w.heap.size + 1, 0, none⟩) (by simp) _).setCell (p := ⟨w.heap.size + 1, 1, none⟩) (by simp) _
  · have EV := Lib.hid (evB_iff.1 HEV.out.symm)
    have CV : Hid (evChV ps ws evs = .tuple #[.agg #[.int .i64 (cutN (heavyT ps ws (fun x => inL evs (x : Int))) ((sumsT ps ws).getD 0 0)), .int .i64 (cutD (heavyT ps ws (fun x => inL evs (x : Int))) ((sumsT ps ws).getD 0 0))], .bool true]) := Lib.hid (by unfold evChV; rw [if_pos HEV.out.symm])
    have CW : Hid (∀ w', Hid (MSt w w.heap.size (w.heap.size + 1) (.slice p1 ps.length c1) (.slice p2 ws.length c2) w') → Calls Try.prog 70 #[.agg #[.slice p1 ps.length c1, .slice p2 ws.length c2], .slice q evs.length cq] w' (Gives (.int .i64 (heavyT ps ws (fun x => inL evs (x : Int)))) w')) := Lib.hid (fun w' he => by
      rw [← EV.out.heavy]
      exact heavyS ps ws evs _ _ w' hl EV.out.good.ws_bd EV.out.in_ws (TV.out.boxed he.out.2.1) ((UV.out.below he.out.2.1).more he.out.2.1.size))
    have CA : Hid (∀ w', Hid (MSt w w.heap.size (w.heap.size + 1) (.slice p1 ps.length c1) (.slice p2 ws.length c2) w') → Calls Try.prog 53 #[.agg #[.slice p1 ps.length c1, .slice p2 ws.length c2]] w' (NewRoot ((sumsT ps ws).getD 0 0) w')) := Lib.hid (fun w' he => rootS ps ws _ w' EV.out.good (TV.out.boxed he.out.2.1))
    have RC := Lib.hid (fun w' => cutS (heavyT ps ws (fun x => inL evs (x : Int))) ((sumsT ps ws).getD 0 0) w' (by have := heavy_bd EV.out.good (fun x => inL evs (x : Int)); omega) (by have := sumsT_root EV.out.good; have := sumsT_bd EV.out.good 0 (by have := EV.out.good.n1; omega); omega))
    obtain ⟨ha, hha⟩ : ∃ ha, ha = heavyT ps ws (fun x => inL evs (x : Int)) := ⟨_, rfl⟩
    obtain ⟨sa, hsa⟩ : ∃ sa, sa = (sumsT ps ws).getD 0 0 := ⟨_, rfl⟩
    rw [← hha] at CW RC CV
    rw [← hsa] at CA RC CV
    obtain ⟨pn, hpn⟩ : ∃ pn, pn = cutN ha sa := ⟨_, rfl⟩
    obtain ⟨pd, hpd⟩ : ∃ pd, pd = cutD ha sa := ⟨_, rfl⟩
    rw [← hpn, ← hpd] at RC CV
    have KC : Hid (∀ w', Hid (MSt w w.heap.size (w.heap.size + 1) (.slice p1 ps.length c1) (.slice p2 ws.length c2) w') → w'.cell? ⟨w.heap.size, 0, none⟩ = some (.slice p1 ps.length c1) ∧ w'.cell? ⟨w.heap.size, 1, none⟩ = some (.slice p2 ws.length c2)) := Lib.hid (fun w' he => he.out.1.cells)
    have hgR : w.heap.size ≠ w.heap.size + 1 := by omega
    clear hha hsa hpn hpd
    go_enter Try.func33, Try.ntmps33
    go_wp2_with fail
    rw [← hwa]
    clear hwa
    refine (ES.out _ HBA.out).mono ?_
    rintro e w1 ⟨rfl, b1⟩
    have HE1 := Lib.hid (show MSt w w.heap.size (w.heap.size + 1) (.slice p1 ps.length c1) (.slice p2 ws.length c2) w1 from ⟨T1.out.below b1 T1.out.lt, HBA.out.trans (b1.mono HBA.out.size), R1.out.below b1 R1.out.lt⟩)
    have HD := Lib.hid HE1.out.drew
    clear b1 x0 x1 ES T1 R1
    obtain ⟨x0, x1⟩ := KC.out _ HE1
    go_wp2_with fail
    go_region_with (first
        | (go_at_call 70; (with_reducible refine (CW.out _ (by first | exact HD | assumption)).mono ?_); rintro e w8 ⟨rfl, b8⟩; (have HE8 := Lib.hid (MSt.next (Hid.out (by first | exact HD | assumption)) b8)); (obtain ⟨x0, x1⟩ := KC.out _ HE8); (try (have y0 := (b8.cell (p := ⟨g, 0, none⟩) hg).trans y0)); (try (have hg := Nat.lt_of_lt_of_le hg b8.size)); clear b8)
        | (go_at_call 53; (with_reducible refine (CA.out _ (by first | exact HD | assumption)).mono ?_); rintro e w8 ⟨g, n, c, rfl, hn0, hg, y0, b8⟩; (have HE8 := Lib.hid (MSt.next (Hid.out (by first | exact HD | assumption)) b8)); (obtain ⟨x0, x1⟩ := KC.out _ HE8); (have hn1 : (0 : Int) < (n : Int) := by omega); clear b8)
        | (go_at_call 54; (with_reducible refine (RC.out _).mono ?_); rintro e w9 ⟨rfl, b9⟩; (have HE9 : Hid (MSt w w.heap.size (w.heap.size + 1) (.slice p1 ps.length c1) (.slice p2 ws.length c2) w9) := Lib.hid (MSt.next (Hid.out (by assumption)) b9)); (have HB9 := Lib.hid HE9.out.2.1); (obtain ⟨x0, x1⟩ := HE9.out.1.cells); (obtain ⟨c0, c1, f0, f1⟩ := HE9.out.2.2.cells); clear b9))
    all_goals
      go_wp2_with fail
      refine bodyPost_ret (v := .tuple #[.agg #[.int .i64 pn, .int .i64 pd], .bool true]) (by simp [results, Try.results33, go_sem, *]) rfl ⟨by rw [CV.out], ?_⟩
      exact (HB9.out.setCell (p := ⟨w.heap.size + 1, 0, none⟩) (by simp) _).setCell (p := ⟨w.heap.size + 1, 1, none⟩) (by simp) _
end Go.Proofs.Ytfnnlkbecnjloab
