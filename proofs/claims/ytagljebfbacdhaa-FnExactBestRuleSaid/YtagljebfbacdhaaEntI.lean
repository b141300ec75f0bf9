/- FirstEntry in the program. -/
import Derived.Test.YtagljebfbacdhaaEntP
import Derived.Test.YtagljebfbacdhaaPassI
import Derived.Test.YtagljebfbacdhaaVBox
import Derived.Test.YtagljebfbacdhaaProcI
import Derived.Deep.RegionHeld3
import Derived.BigQuiet
namespace Go.Proofs.Ytagljebfbacdhaa
open Go.RowKit
set_option linter.unusedVariables false
theorem hb_nextE {wa a b : World} (h : Hid (Below wa.heap.size wa a)) (k : Below a.heap.size a b) : Hid (Below wa.heap.size wa b) := Lib.hid (h.out.trans (k.mono h.out.size))
theorem isEndE {ps ws : List Int} {v : Value} {x : Nat} {w : World} (gd : Good ps ws) (hx : x < ps.length) (h : TreeV w w.heap.size v ps ws) : Calls Try.prog 67 #[v, .int .i64 x] w (Gives (.bool (leafB ps x)) w) := by
  have := isEndI ps ws v x w (by rw [gd.nw]; exact hx) h
  rwa [show decide (0 < ws.getD x 0) = leafB ps x by rw [Bool.eq_iff_iff, decide_eq_true_iff]; exact gd.end_iff hx] at this
set_option maxHeartbeats 2000000 in
theorem entPart (ps ws zs : List Int) (lv : Int) (v1 v2 : Value) (w W0 : World) (C3 C4 C5 d : Nat) (q : Option Addr) (pr : Proc ps ws zs) (hI : IntsAt w w.heap.size q zs) (h : TreeV w w.heap.size (.agg #[v1, v2]) ps ws) (h0 : Below w.heap.size w W0)
    (h3 : TBox W0 C3 v1 v2) (h4 : VBox W0 C4 (.slice q zs.length d) 22) (h5 : VBox W0 C5 (.int .i64 lv) 3) :
    PassI 113 #[.pointer (some ⟨C4, 0, none⟩), .pointer (some ⟨C5, 0, none⟩), .pointer (some ⟨C3, 0, none⟩)] ps (-1) (entT ps zs lv) W0 := by
  intro W x hx hb
  have HT := Lib.hid (h3.below hb h3.lt)
  have HV4 := Lib.hid (h4.below hb h4.lt)
  have HV5 := Lib.hid (h5.below hb h5.lt)
  have hp := ParOk.of pr.good
  have AT := passT_at hp (-1) (entS ps zs lv) hx
  change (entT ps zs lv).getD x 0 = (if abv ps (-1) (entT ps zs lv) x = -1 ∧ hitB ps zs lv x = true then (x : Int) else abv ps (-1) (entT ps zs lv) x) at AT
  have HH : hitB ps zs lv x = (decide (lv ≤ zs.getD x 0) || leafB ps x) := rfl
  have hl := pr.len
  have hn24 := pr.good.n24
  obtain ⟨b, off, rfl, hb2, hc2⟩ := hI.get (i := x) (by omega)
  have hb3 := h0.trans (hb.mono h0.size)
  have hcw : W.cell? ⟨b, off + x, none⟩ = some (.int .i64 (zs.getD x 0)) := by rw [hb3.cell (p := ⟨b, off + x, none⟩) hb2, hc2]
  have hbW : b < W.heap.size := Nat.lt_of_lt_of_le hb2 hb3.size
  have i0 : (0 : Int) ≤ (x : Int) := by omega
  have i1 : (x : Int) < (zs.length : Int) := by omega
  have zl : zs.length ≤ 24 := by omega
  have IE : Hid (∀ w', Hid (Below W.heap.size W w') → Calls Try.prog 67 #[.agg #[v1, v2], .int .i64 x] w' (Gives (.bool (leafB ps x)) w')) := Lib.hid (fun w' hw => isEndE pr.good hx (h.boxed (hb3.trans (hw.out.mono hb3.size))))
  obtain ⟨a, ha⟩ : ∃ a, a = abv ps (-1) (entT ps zs lv) x := ⟨_, rfl⟩
  rw [← ha] at AT ⊢
  obtain ⟨z, hz⟩ : ∃ z, z = zs.getD x 0 := ⟨_, rfl⟩
  rw [← hz] at HH hcw
  rw [HH] at AT
  rw [AT]
  obtain ⟨lf, hlf⟩ : ∃ lf, lf = leafB ps x := ⟨_, rfl⟩
  rw [← hlf] at IE ⊢
  obtain ⟨x0, x1⟩ := HT.out.cells
  have y4 := HV4.out.cell
  have y5 := HV5.out.cell
  clear hb AT ha hz hc2 hb3 h0 hI hp pr hl hn24 hb2 HH h3 h4 h5 hlf h
  show Calls _ _ #[.int .i64 a, .int .i64 x, .pointer (some ⟨C4, 0, none⟩), .pointer (some ⟨C5, 0, none⟩), .pointer (some ⟨C3, 0, none⟩)] _ _
  by_cases h1 : a = -1
  · subst h1
    by_cases h2 : lv ≤ z
    · rw [if_pos ⟨rfl, by rw [decide_eq_true h2]; rfl⟩]
      go_enter Try.func113, Try.ntmps113
      go_wp2_with fail
      go_quiet (fail)
      go_wp2_with fail
      go_ret
      exact ⟨rfl, by first | exact below_drew (Below.refl _ _) | exact below_drewN (Below.refl _ _) _⟩
    · have KC : Hid (∀ w', Hid (Below W.heap.size W w') → w'.cell? ⟨C3, 0, none⟩ = some v1 ∧ w'.cell? ⟨C3, 1, none⟩ = some v2 ∧ w'.cell? ⟨C4, 0, none⟩ = some (.slice (some ⟨b, off, none⟩) zs.length d) ∧ w'.cell? ⟨C5, 0, none⟩ = some (.int .i64 lv) ∧ w'.cell? ⟨b, off + x, none⟩ = some (.int .i64 z)) := Lib.hid (fun w' hw => ⟨(HT.out.below hw.out HT.out.lt).cells.1, (HT.out.below hw.out HT.out.lt).cells.2, (HV4.out.below hw.out HV4.out.lt).cell, (HV5.out.below hw.out HV5.out.lt).cell, (hw.out.cell (p := ⟨b, off + x, none⟩) hbW).trans hcw⟩)
      have HD : Hid (Below W.heap.size W W.drew) := Lib.hid (below_drew (Below.refl _ _))
      have R : Hid ((if (-1 : Int) = -1 ∧ (decide (lv ≤ z) || lf) = true then (x : Int) else -1) = if lf = true then (x : Int) else -1) := Lib.hid (by rw [decide_eq_false h2]; simp)
      rw [R.out]
      have nlv : ¬ (z ≥ lv) := h2
      have nlv2 : decide (lv ≤ z) = false := decide_eq_false h2
      have nlv3 : z < lv := by omega
      cases lf
      · go_enter Try.func113, Try.ntmps113
        go_wp2_with fail
        go_region_with (first
            | (go_at_call 67; (with_reducible refine (IE.out _ (by first | exact HD | assumption)).mono ?_); rintro e w8 ⟨rfl, b8⟩; (have HE8 := hb_nextE (wa := W) (by first | exact HD | assumption) b8); clear b8))
        all_goals
          go_wp2_with fail
          go_ret
          exact ⟨rfl, HE8.out⟩
      · go_enter Try.func113, Try.ntmps113
        go_wp2_with fail
        go_region_with (first
            | (go_at_call 67; (with_reducible refine (IE.out _ (by first | exact HD | assumption)).mono ?_); rintro e w8 ⟨rfl, b8⟩; (have HE8 := hb_nextE (wa := W) (by first | exact HD | assumption) b8); clear b8))
        all_goals
          go_wp2_with fail
          go_ret
          exact ⟨rfl, HE8.out⟩
  · rw [if_neg (fun h => h1 h.1)]
    have nb : (a == -1) = false := by rw [beq_eq_false_iff_ne]; exact h1
    go_enter Try.func113, Try.ntmps113
    go_wp2_with fail
    go_quiet (fail)
    go_wp2_with fail
    go_ret
    exact ⟨rfl, by first | exact below_drew (Below.refl _ _) | exact below_drewN (Below.refl _ _) _⟩
theorem entPred (T : List Int) (W0 : World) (C gb cap n : Nat) (hn : n ≤ 1000000) (hg : gb < W0.heap.size) (hD : ∀ j, j < n → W0.cell? ⟨gb, j, none⟩ = some (.int .i64 (T.getD j 0)))
    (hc : VBox W0 C (.slice (some ⟨gb, 0, none⟩) n cap) 22) :
    PredI 115 #[.pointer (some ⟨C, 0, none⟩)] (fun x => decide (T.getD x 0 = (x : Int))) n W0 := by
  intro W x hx hb
  have y0 := (hc.below hb hc.lt).cell
  have hcx : W.cell? ⟨gb, x, none⟩ = some (.int .i64 (T.getD x 0)) := by rw [hb.cell (p := ⟨gb, x, none⟩) hg]; exact hD x hx
  have i0 : (0 : Int) ≤ (x : Int) := by omega
  have i1 : (x : Int) < (n : Int) := by omega
  dsimp only
  generalize T.getD x 0 = a at *
  clear hc hb hD
  show Calls _ _ #[.int .i64 (x : Int), .pointer (some ⟨C, 0, none⟩)] _ _
  have R : Hid (decide (a = (x : Int)) = (a == (x : Int))) := Lib.hid (by rw [Bool.eq_iff_iff, decide_eq_true_iff, beq_iff_eq])
  rw [R.out]
  go_enter Try.func115, Try.ntmps115
  go_wp2
  go_ret
  exact ⟨rfl, Below.refl _ _⟩
/-- What FirstEntry returns. -/
def ifEnt (ps ws zs L : List Int) : List Int := if procB ps ws zs = true then L else []
theorem ent_len (ps ws zs : List Int) (lv : Int) : (ifEnt ps ws zs (entL ps zs lv)).length ≤ 1048576 := by
  unfold ifEnt
  split
  · rename_i h
    have h1 := (procB_iff.1 h).good.n24
    have h2 := nodesW_len (fun x => decide ((entT ps zs lv).getD x 0 = (x : Int))) ps.length
    unfold entL
    omega
  · simp
set_option maxRecDepth 100000 in
set_option maxHeartbeats 4000000 in
theorem entI (ps ws zs : List Int) (lv : Int) (v u : Value) (w : World) (hn1 : zs.length ≤ 1048576) (h : TreeV w w.heap.size v ps ws) (hu : IntsV w w.heap.size u zs) :
    Calls Try.prog 97 #[v, u, .int .i64 lv] w (NewIntsB (ifEnt ps ws zs (entL ps zs lv)) (procB ps ws zs) w) := by
  have PC := Lib.hid (fun w' (hb : Below w.heap.size w w') => procI ps ws zs v u w' hn1 (h.boxed hb) ((hu.below hb).more hb.size))
  have TV := Lib.hid (fun w' (hb : Below w.heap.size w w') => h.boxed hb)
  have TH := Lib.hid h
  obtain ⟨p1, c1, p2, c2, rfl⟩ := h.shape
  obtain ⟨q, d, rfl, _, _, _, j1⟩ := hu
  have Q1 := Lib.hid j1
  clear h j1
  have hmf : ∀ (fn : Fn) (first cap : Array Value) (w : World), (Instr.makeFunc fn first cap).run Try.prog w = .ok (.func fn first cap) w := fun _ _ _ _ => rfl
  have B1 := (((Below.refl w.heap.size w).alloc (Nat.le_refl _) (.cells #[.slice p1 ps.length c1, .slice p2 ws.length c2] 28)).alloc (by simp) (.cells #[.slice q zs.length d] 22)).alloc (by simp; omega) (.cells #[.int .i64 lv] 3)
  have K0 := heap_three w (.cells #[.slice p1 ps.length c1, .slice p2 ws.length c2] 28) (.cells #[.slice q zs.length d] 22) (.cells #[.int .i64 lv] 3)
  obtain ⟨x0, x1⟩ := (show TBox _ w.heap.size (.slice p1 ps.length c1) (.slice p2 ws.length c2) from K0.1).cells
  have x2 := (show VBox _ (w.heap.size + 1) (.slice q zs.length d) 22 from K0.2.1).cell
  obtain ⟨wa, hwa⟩ : ∃ wa, wa = ((w.alloc (.cells #[.slice p1 ps.length c1, .slice p2 ws.length c2] 28)).alloc (.cells #[.slice q zs.length d] 22)).alloc (.cells #[.int .i64 lv] 3) := ⟨_, rfl⟩
  rw [← hwa] at B1 K0
  have T1 := Lib.hid (show TBox wa w.heap.size (.slice p1 ps.length c1) (.slice p2 ws.length c2) from K0.1)
  have V1 := Lib.hid (show VBox wa (w.heap.size + 1) (.slice q zs.length d) 22 from K0.2.1)
  have V2 := Lib.hid (show VBox wa (w.heap.size + 1 + 1) (.int .i64 lv) 3 from K0.2.2)
  have HBA := Lib.hid B1
  clear K0 B1
  cases hp : procB ps ws zs
  · rw [hp] at PC
    have IS := Lib.hid (show ifEnt ps ws zs (entL ps zs lv) = [] by unfold ifEnt; rw [hp]; rfl)
    rw [IS.out]
    clear hp TV
    go_enter Try.func97, Try.ntmps97
    go_wp2_with fail
    rw [← hwa]
    clear hwa
    refine (PC.out _ HBA.out).mono ?_
    rintro e w1 ⟨rfl, b1⟩
    have HB1 := Lib.hid (HBA.out.trans (b1.mono HBA.out.size))
    clear b1
    go_wp2_with fail
    go_ret2
    exact newInts_empty HB1.out
  · rw [hp] at PC
    have IS := Lib.hid (show ifEnt ps ws zs (entL ps zs lv) = entL ps zs lv by unfold ifEnt; rw [hp]; rfl)
    have PR := Lib.hid (procB_iff.1 hp)
    have hn24 := PR.out.good.n24
    have hn0 := PR.out.good.n1
    have TL : Hid ((entT ps zs lv).length = ps.length) := Lib.hid (passT_len _ _ _)
    rw [IS.out]
    clear hp
    go_enter Try.func97, Try.ntmps97
    go_wp2_with fail
    rw [← hwa]
    clear hwa
    refine (PC.out _ HBA.out).mono ?_
    rintro e w1 ⟨rfl, b1⟩
    have HB1 := Lib.hid (HBA.out.trans (b1.mono HBA.out.size))
    have HT1 := Lib.hid (T1.out.below b1 T1.out.lt)
    have HV1 := Lib.hid (V1.out.below b1 V1.out.lt)
    have HV2 := Lib.hid (V2.out.below b1 V2.out.lt)
    clear b1 x0 x1 x2
    obtain ⟨x0, x1⟩ := HT1.out.cells
    have P := Lib.hid (passI ps ws (entT ps zs lv) (-1) _ 113 #[.pointer (some ⟨w.heap.size + 1, 0, none⟩), .pointer (some ⟨w.heap.size + 1 + 1, 0, none⟩), .pointer (some ⟨w.heap.size, 0, none⟩)] w1 (enters_of Try.func113 (by kernel_rfl) rfl) PR.out.good (TV.out w1 HB1.out) TL.out (fun i hi => by have := ent_bd (ParOk.of PR.out.good) zs lv i (by have := TL.out; omega); have := TL.out; unfold InI64; omega) (entPart ps ws zs lv _ _ w w1 _ _ _ d q PR.out Q1.out TH.out HB1.out HT1.out HV1.out HV2.out))
    go_wp2_with fail
    refine P.out.mono ?_
    rintro e w3 ⟨u3, rfl, o3, b3⟩
    obtain ⟨gb, cb, rfl, _, hg2⟩ := o3.shape (by have := TL.out; omega)
    have DC := Lib.hid (fun j (hj : j < ps.length) => o3.cellGet (j := j) (by have := TL.out; omega))
    rw [TL.out]
    have HB3 := Lib.hid (HB1.out.trans (b3.mono HB1.out.size))
    have HT3 := Lib.hid (HT1.out.below b3 HT1.out.lt)
    have HB4 := Lib.hid (HB3.out.alloc HB3.out.size (.cells #[.slice (some ⟨gb, 0, none⟩) ps.length cb] 22))
    have HT4 := Lib.hid (HT3.out.alloc (.cells #[.slice (some ⟨gb, 0, none⟩) ps.length cb] 22))
    have HV4 := Lib.hid (show VBox (w3.alloc (.cells #[.slice (some ⟨gb, 0, none⟩) ps.length cb] 22)) w3.heap.size (.slice (some ⟨gb, 0, none⟩) ps.length cb) 22 from alloc_heap w3 _)
    have DC4 : Hid (∀ j, j < ps.length → (w3.alloc (.cells #[.slice (some ⟨gb, 0, none⟩) ps.length cb] 22)).cell? ⟨gb, j, none⟩ = some (.int .i64 ((entT ps zs lv).getD j 0))) := Lib.hid (fun j hj => by rw [World.cell?_alloc_lt _ _ _ (by exact hg2)]; exact DC.out j hj)
    have HG4 : Hid (gb < (w3.alloc (.cells #[.slice (some ⟨gb, 0, none⟩) ps.length cb] 22)).heap.size) := Lib.hid (by simp; omega)
    clear b3 o3 hg2 DC x0 x1
    obtain ⟨x0, x1⟩ := HT4.out.cells
    obtain ⟨C, hC⟩ : ∃ C, C = w3.heap.size := ⟨_, rfl⟩
    obtain ⟨w4, hw4⟩ : ∃ w4, w4 = w3.alloc (.cells #[.slice (some ⟨gb, 0, none⟩) ps.length cb] 22) := ⟨_, rfl⟩
    rw [← hw4] at HB4 HT4 HV4 DC4 HG4
    rw [← hC] at HV4
    have A := Lib.hid (nodesI ps ws _ 115 #[.pointer (some ⟨C, 0, none⟩)] (fun x => decide ((entT ps zs lv).getD x 0 = (x : Int))) w4 (enters_of Try.func115 (by kernel_rfl) rfl) (by omega) (TV.out w4 HB4.out) (entPred (entT ps zs lv) w4 C gb cb ps.length (by omega) HG4.out DC4.out HV4.out))
    change Hid (Calls _ _ _ _ (NewInts (entL ps zs lv) w4)) at A
    go_wp2_with fail
    rw [← hw4, ← hC]
    clear hw4 hC x0 x1
    refine A.out.mono ?_
    rintro e w5 ⟨u5, rfl, o5, b5⟩
    have FIN := Lib.hid (newInts_back HB4.out o5 b5)
    clear o5 b5
    go_wp2_with fail
    go_ret2
    exact FIN.out
end Go.Proofs.Ytagljebfbacdhaa
