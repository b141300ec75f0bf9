/- SortedPlan and KeepingPlan in the program: what they answer. -/
import Derived.Test.YtligidmkhbcpmabShiI
namespace Go.Proofs.Ytligidmkhbcpmab
open Go.RowKit
open Go.Deep
set_option linter.unusedVariables false
/-- A shipment in new memory. -/
def NewShp (ps qs : List Int) (w : World) (e : Ending) (w' : World) : Prop :=
  ∃ gh ch gl cl lo hi go cap g c, e = .returned (.tuple #[shpV gh ch gl cl go cap ps.length, .bool true]) ∧ ShpW w' gh ch gl cl lo hi go cap g c ps.length (stS ps qs) ∧ OrdS go g ps.length ∧ w.heap.size ≤ gh ∧ Below w.heap.size w w'
theorem box3_cells {w w3 : World} {a b c : Value} (h : Below (w.alloc (.cells #[a, b, c] 53)).heap.size (w.alloc (.cells #[a, b, c] 53)) w3) :
    (w3.cell? ⟨w.heap.size, 0, none⟩ = some a ∧ w3.frozen? ⟨w.heap.size, 0, none⟩ = false) ∧ (w3.cell? ⟨w.heap.size, 1, none⟩ = some b ∧ w3.frozen? ⟨w.heap.size, 1, none⟩ = false) ∧ (w3.cell? ⟨w.heap.size, 2, none⟩ = some c ∧ w3.frozen? ⟨w.heap.size, 2, none⟩ = false) := by
  have k := (h.block w.heap.size (by simp)).trans (alloc_heap w (.cells #[a, b, c] 53))
  exact ⟨cell_of_heap (o := 0) k rfl, cell_of_heap (o := 1) k rfl, cell_of_heap (o := 2) k rfl⟩
set_option maxRecDepth 100000 in
set_option maxHeartbeats 8000000 in
theorem shipmentY (ps qs : List Int) (v u : Value) (w : World) (A : Ali ps qs) (hv : IntsV w w.heap.size v ps) (hu : IntsV w w.heap.size u qs) :
    Calls Try.prog 56 #[v, u] w (NewShp ps qs w) := by
  have l1 := A.p.n8
  have l2 := A.q.n8
  have AL := Lib.hid (fun w' (hb : Below w.heap.size w w') => aliY ps qs v u w' (by omega) (by omega) ((hv.below hb).more hb.size) ((hu.below hb).more hb.size))
  unfold aliV at AL
  rw [aliB_iff.2 A] at AL
  have CP := Lib.hid (fun w' (hb : Below w.heap.size w w') => cloneY ps v w' A.p.n1 (by omega) ((hv.below hb).more hb.size))
  have CQ := Lib.hid (fun w' (hb : Below w.heap.size w w') => cloneY qs u w' A.q.n1 (by omega) ((hu.below hb).more hb.size))
  have EM := Lib.hid (fun w' => emptyY ps.length w' A.p.n1 l1)
  have HN := Lib.hid A.p.n1
  have HLQ := Lib.hid A.len.symm
  obtain ⟨q1, c1, rfl, _⟩ := hv
  obtain ⟨q2, c2, rfl, _⟩ := hu
  obtain ⟨wa, hwa⟩ : ∃ wa, wa = w.alloc (.cells #[.slice none 0 0, .slice none 0 0, .slice none 0 0] 53) := ⟨_, rfl⟩
  have B0 := Lib.hid (show Below w.heap.size w wa by rw [hwa]; exact (Below.refl w.heap.size w).alloc (Nat.le_refl _) _)
  have S0 := Lib.hid (show w.heap.size < wa.heap.size by rw [hwa]; simp)
  have XA := Lib.hid (fun w' (hb : Below wa.heap.size wa w') => show (w'.cell? ⟨w.heap.size, 0, none⟩ = some (.slice none 0 0) ∧ w'.frozen? ⟨w.heap.size, 0, none⟩ = false) ∧ (w'.cell? ⟨w.heap.size, 1, none⟩ = some (.slice none 0 0) ∧ w'.frozen? ⟨w.heap.size, 1, none⟩ = false) ∧ (w'.cell? ⟨w.heap.size, 2, none⟩ = some (.slice none 0 0) ∧ w'.frozen? ⟨w.heap.size, 2, none⟩ = false) from by rw [hwa] at hb; exact box3_cells hb)
  clear A
  generalize (sprB ps && sprB qs) = ok at *
  go_enter Try.func56, Try.ntmps56
  go_wp2_with fail
  rw [← hwa]
  clear hwa
  refine (AL.out _ B0.out).mono ?_
  rintro e w1 ⟨rfl, b1⟩
  have B1 := Lib.hid (below_next B0.out b1)
  have BA1 := Lib.hid b1
  clear b1
  go_wp2_with fail
  refine (CP.out _ B1.out).mono ?_
  rintro e w2 ⟨x2, rfl, o2, b2⟩
  have B2 := Lib.hid (below_next B1.out b2)
  have BA2 := Lib.hid (below_next BA1.out b2)
  obtain ⟨gh, ch, rfl, hg1, hg2⟩ := o2.shape HN.out
  clear b2
  go_wp2_with fail
  refine (CQ.out _ B2.out).mono ?_
  rintro e w3 ⟨x3, rfl, o3, b3⟩
  have B3 := Lib.hid (below_next B2.out b3)
  have BA3 := Lib.hid (below_next BA2.out b3)
  obtain ⟨gl, cl, e3, hl1, hl2⟩ := o3.shape (by rw [HLQ.out]; exact HN.out)
  rw [HLQ.out] at e3
  subst e3
  have o2' := o2.below b3
  clear b3 o2
  go_wp2_with fail
  refine (EM.out _).mono ?_
  rintro e w4 ⟨x4, rfl, o4, b4⟩
  have B4 := Lib.hid (below_next B3.out b4)
  have BA4 := Lib.hid (below_next BA3.out b4)
  have r2 := o2'.room
  have s3 := BA3.out.size
  have s1 := BA1.out.size
  obtain ⟨go, cap, g, c, rfl, T4, OD⟩ := o4.tabS HN.out (fun i hi => by simp)
  have W4 := Lib.hid (show ShpW w4 gh ch gl cl w3.heap.size w4.heap.size go cap g c ps.length (stS ps qs) from ⟨(o2'.below (b4.mono (by omega))).tight, (o3.below b4).tight, T4, by omega, by omega⟩)
  have HOD := Lib.hid OD
  have HG : Hid (w.heap.size + 1 ≤ gh) := Lib.hid (by have := S0.out; omega)
  clear o2' o3 o4 b4 T4 OD r2 s3 s1 hg1 hg2 hl1 hl2
  obtain ⟨⟨x0, z0⟩, ⟨x1, z1⟩, x2, z2⟩ := XA.out w4 BA4.out
  have A1 := Alt.setC w4 w.heap.size 0 (.slice (some ⟨gh, 0, none⟩) ps.length ch)
  have A2 := Alt.setC (w4.setCell ⟨w.heap.size, 0, none⟩ (.slice (some ⟨gh, 0, none⟩) ps.length ch)) w.heap.size 1 (.slice (some ⟨gl, 0, none⟩) ps.length cl)
  have A3 := Alt.setC ((w4.setCell ⟨w.heap.size, 0, none⟩ (.slice (some ⟨gh, 0, none⟩) ps.length ch)).setCell ⟨w.heap.size, 1, none⟩ (.slice (some ⟨gl, 0, none⟩) ps.length cl)) w.heap.size 2 (.slice (some ⟨go, 0, none⟩) ps.length cap)
  have FIN := Lib.hid (show NewShp ps qs w (.returned (.tuple #[shpV gh ch gl cl go cap ps.length, .bool true])) _ from ⟨gh, ch, gl, cl, _, _, go, cap, g, c, rfl, W4.out.alt ((A1.trans A2).trans A3) (Or.inr HG.out), HOD.out, by have := HG.out; omega, ((B4.out.setCell (p := ⟨w.heap.size, 0, none⟩) (Nat.le_refl _) _).setCell (p := ⟨w.heap.size, 1, none⟩) (Nat.le_refl _) _).setCell (p := ⟨w.heap.size, 2, none⟩) (Nat.le_refl _) _⟩)
  clear A1 A2 A3 W4 HOD
  go_wp2_with fail
  unfold shpV at FIN
  refine bodyPost_ret (v := .tuple #[.agg #[.slice (some ⟨gh, 0, none⟩) ps.length ch, .slice (some ⟨gl, 0, none⟩) ps.length cl, .slice (some ⟨go, 0, none⟩) ps.length cap], .bool true]) (by simp [results, Try.results56, go_sem, x0, x1, x2]) rfl ?_
  exact FIN.out
set_option maxRecDepth 100000 in
set_option maxHeartbeats 8000000 in
theorem shipmentN (ps qs : List Int) (v u : Value) (w : World) (hp : ps.length ≤ 1048576) (hq : qs.length ≤ 1048576) (ha : aliB ps qs = false) (hv : IntsV w w.heap.size v ps) (hu : IntsV w w.heap.size u qs) :
    Calls Try.prog 56 #[v, u] w (Gives (.tuple #[.agg #[.slice none 0 0, .slice none 0 0, .slice none 0 0], .bool false]) w) := by
  have AL := Lib.hid (fun w' (hb : Below w.heap.size w w') => aliY ps qs v u w' hp hq ((hv.below hb).more hb.size) ((hu.below hb).more hb.size))
  unfold aliV at AL
  rw [ha] at AL
  obtain ⟨q1, c1, rfl, _⟩ := hv
  obtain ⟨q2, c2, rfl, _⟩ := hu
  obtain ⟨wa, hwa⟩ : ∃ wa, wa = w.alloc (.cells #[.slice none 0 0, .slice none 0 0, .slice none 0 0] 53) := ⟨_, rfl⟩
  have B0 := Lib.hid (show Below w.heap.size w wa by rw [hwa]; exact (Below.refl w.heap.size w).alloc (Nat.le_refl _) _)
  have XA := Lib.hid (fun w' (hb : Below wa.heap.size wa w') => show (w'.cell? ⟨w.heap.size, 0, none⟩ = some (.slice none 0 0) ∧ w'.frozen? ⟨w.heap.size, 0, none⟩ = false) ∧ (w'.cell? ⟨w.heap.size, 1, none⟩ = some (.slice none 0 0) ∧ w'.frozen? ⟨w.heap.size, 1, none⟩ = false) ∧ (w'.cell? ⟨w.heap.size, 2, none⟩ = some (.slice none 0 0) ∧ w'.frozen? ⟨w.heap.size, 2, none⟩ = false) from by rw [hwa] at hb; exact box3_cells hb)
  clear ha
  generalize (sprB ps && sprB qs) = ok at *
  go_enter Try.func56, Try.ntmps56
  go_wp2_with fail
  rw [← hwa]
  clear hwa
  refine (AL.out _ B0.out).mono ?_
  rintro e w1 ⟨rfl, b1⟩
  have B1 := Lib.hid (below_next B0.out b1)
  have X1 := Lib.hid (XA.out w1 b1)
  clear b1
  obtain ⟨⟨x0, z0⟩, ⟨x1, z1⟩, x2, z2⟩ := X1.out
  go_wp2_with fail
  refine bodyPost_ret (v := .tuple #[.agg #[.slice none 0 0, .slice none 0 0, .slice none 0 0], .bool false]) (by simp [results, Try.results56, go_sem, x0, x1, x2]) rfl ⟨rfl, ?_⟩
  exact ((B1.out.setCell (p := ⟨w.heap.size, 0, none⟩) (Nat.le_refl _) _).setCell (p := ⟨w.heap.size, 1, none⟩) (Nat.le_refl _) _).setCell (p := ⟨w.heap.size, 2, none⟩) (Nat.le_refl _) _
theorem tabB_none {w w1 : World} {f : Nat → List Int} (hb : Below w.heap.size w w1) : NewTabB 0 f false w (.returned (.tuple #[.slice (some ⟨w1.heap.size, 0, none⟩) 0 0, .bool false])) (w1.alloc (.cells #[] 22)) :=
  ⟨_, rfl, ⟨w1.heap.size, 0, fun _ => .slice none 0 0, fun _ => w1.heap.size + 1, rfl, Nat.le_refl _, Nat.zero_le _, hb.size, by show w1.heap.size < w1.heap.size + 1; omega, by simp, Nat.le_refl _, fun i hi => by omega⟩, hb.alloc hb.size _⟩
set_option maxRecDepth 100000 in
set_option maxHeartbeats 8000000 in
theorem srtI (ps qs : List Int) (v u : Value) (w : World) (hp : ps.length ≤ 1048576) (hq : qs.length ≤ 1048576) (hv : IntsV w w.heap.size v ps) (hu : IntsV w w.heap.size u qs) :
    Calls Try.prog 35 #[v, u] w (NewTabB (rwN ps qs) (soT ps qs) (aliB ps qs) w) := by
  cases ha : aliB ps qs
  · rw [show rwN ps qs = 0 from if_neg (by rw [ha]; decide)]
    have SN := Lib.hid (shipmentN ps qs v u w hp hq ha hv hu)
    obtain ⟨q1, c1, rfl, _⟩ := hv
    obtain ⟨q2, c2, rfl, _⟩ := hu
    clear ha
    go_enter Try.func35, Try.ntmps35
    go_wp2_with fail
    refine SN.out.mono ?_
    rintro e w1 ⟨rfl, b1⟩
    have B1 := Lib.hid b1
    clear b1
    go_wp2_with fail
    obtain ⟨w2, hw2⟩ : ∃ w2, w2 = w1.alloc (.cells #[.slice none 0 0, .slice none 0 0, .slice none 0 0] 53) := ⟨_, rfl⟩
    have B2 : Hid (Below w.heap.size w w2) := Lib.hid (by rw [hw2]; exact B1.out.alloc B1.out.size _)
    have E2 := Lib.hid (show w2.heap.size = w1.heap.size + 1 by rw [hw2]; simp)
    rw [← hw2]
    clear hw2 B1
    go_ret2
    have h := tabB_none (f := soT ps qs) B2.out
    rw [E2.out] at h
    exact h
  · rw [show rwN ps qs = ps.length from if_pos ha]
    have A := aliB_iff.1 ha
    have SY := Lib.hid (shipmentY ps qs v u w A hv hu)
    have OK := Lib.hid (st_ok A)
    have n8 := A.p.n8
    have HN := Lib.hid A.p.n1
    have VE := Lib.hid (show soT ps qs = (alT ps.length (stS ps qs) ps.length).f from rfl)
    obtain ⟨q1, c1, rfl, _⟩ := hv
    obtain ⟨q2, c2, rfl, _⟩ := hu
    clear ha A
    go_enter Try.func35, Try.ntmps35
    go_wp2_with fail
    refine SY.out.mono ?_
    rintro e w1 ⟨gh, ch, gl, cl, lo, hi, go, cap, g, c, rfl, s1, od, hg, b1⟩
    have B1 := Lib.hid b1
    have HOD := Lib.hid od
    have HG := Lib.hid hg
    have A2 := alt_alloc w1 (.cells #[.slice (some ⟨gh, 0, none⟩) ps.length ch, .slice (some ⟨gl, 0, none⟩) ps.length cl, .slice (some ⟨go, 0, none⟩) ps.length cap] 53) gh hi
    have W2 := s1.below (((Below.refl w1.heap.size w1).alloc (Nat.le_refl _) (.cells #[.slice (some ⟨gh, 0, none⟩) ps.length ch, .slice (some ⟨gl, 0, none⟩) ps.length cl, .slice (some ⟨go, 0, none⟩) ps.length cap] 53)).mono s1.p.room.2.2)
    have X2 : SBox3 _ w1.heap.size _ _ _ := alloc_heap w1 (.cells #[.slice (some ⟨gh, 0, none⟩) ps.length ch, .slice (some ⟨gl, 0, none⟩) ps.length cl, .slice (some ⟨go, 0, none⟩) ps.length cap] 53)
    have B2' := B1.out.alloc B1.out.size (.cells #[.slice (some ⟨gh, 0, none⟩) ps.length ch, .slice (some ⟨gl, 0, none⟩) ps.length cl, .slice (some ⟨go, 0, none⟩) ps.length cap] 53)
    have RM : Hid (hi ≤ w1.heap.size) := Lib.hid s1.p.room.2.2
    obtain ⟨w2, hw2⟩ : ∃ w2, w2 = w1.alloc (.cells #[.slice (some ⟨gh, 0, none⟩) ps.length ch, .slice (some ⟨gl, 0, none⟩) ps.length cl, .slice (some ⟨go, 0, none⟩) ps.length cap] 53) := ⟨_, rfl⟩
    rw [← hw2] at A2 W2 X2 B2'
    have WH := Lib.hid W2
    have XB := Lib.hid X2
    have B2 := Lib.hid B2'
    obtain ⟨x0, x1, x2⟩ := XB.out.cells
    clear s1 b1 W2 X2 A2 B2' od hg B1
    unfold shpV
    have TR := Lib.hid (takeRestY ps.length (stS ps qs) w2 gh ch gl cl lo hi go cap g c OK.out n8 WH.out)
    unfold shpV at TR
    go_wp2_with fail
    rw [← hw2]
    clear hw2
    go_wp2_with fail
    refine TR.out.mono ?_
    rintro e w3 ⟨rfl, s3, a3⟩
    have B3 := Lib.hid (B2.out.trans ((a3.below (by have := WH.out.h.room; omega)).mono HG.out))
    have O3 := Lib.hid (show OwnG w3 w.heap.size w3.heap.size (.slice (some ⟨go, 0, none⟩) ps.length cap) ps.length (soT ps qs) from by
      rw [VE.out]
      have r := s3.p.room
      have d := s3.d
      have og := s3.p.ownG HN.out HOD.out
      obtain ⟨go', cap', u', H', e', p1, p2, p3, p4, p5, p6, p7⟩ := og
      exact ⟨go', cap', u', H', e', p1, p2, by have := HG.out; omega, p4, by omega, Nat.le_refl _, p7⟩)
    clear s3 a3
    go_wp2_with fail
    go_ret2
    exact ⟨_, rfl, O3.out, B3.out⟩
set_option maxRecDepth 100000 in
set_option maxHeartbeats 8000000 in
theorem kepI (ps qs : List Int) (v u : Value) (w : World) (hp : ps.length ≤ 1048576) (hq : qs.length ≤ 1048576) (hv : IntsV w w.heap.size v ps) (hu : IntsV w w.heap.size u qs) :
    Calls Try.prog 30 #[v, u] w (NewTabB (rwN ps qs) (keT ps qs) (aliB ps qs) w) := by
  cases ha : aliB ps qs
  · rw [show rwN ps qs = 0 from if_neg (by rw [ha]; decide)]
    have SN := Lib.hid (shipmentN ps qs v u w hp hq ha hv hu)
    obtain ⟨q1, c1, rfl, _⟩ := hv
    obtain ⟨q2, c2, rfl, _⟩ := hu
    clear ha
    go_enter Try.func30, Try.ntmps30
    go_wp2_with fail
    refine SN.out.mono ?_
    rintro e w1 ⟨rfl, b1⟩
    have B1 := Lib.hid b1
    clear b1
    go_wp2_with fail
    obtain ⟨w2, hw2⟩ : ∃ w2, w2 = w1.alloc (.cells #[.slice none 0 0, .slice none 0 0, .slice none 0 0] 53) := ⟨_, rfl⟩
    have B2 : Hid (Below w.heap.size w w2) := Lib.hid (by rw [hw2]; exact B1.out.alloc B1.out.size _)
    have E2 := Lib.hid (show w2.heap.size = w1.heap.size + 1 by rw [hw2]; simp)
    rw [← hw2]
    clear hw2 B1
    go_ret2
    have h := tabB_none (f := keT ps qs) B2.out
    rw [E2.out] at h
    exact h
  · rw [show rwN ps qs = ps.length from if_pos ha]
    have A := aliB_iff.1 ha
    have SY := Lib.hid (shipmentY ps qs v u w A hv hu)
    have OK := Lib.hid (st_ok A)
    have n8 := A.p.n8
    have HN := Lib.hid A.p.n1
    have VE := Lib.hid (show keT ps qs = (alT ps.length (dgS (stS ps qs) ps.length) ps.length).f from rfl)
    obtain ⟨q1, c1, rfl, _⟩ := hv
    obtain ⟨q2, c2, rfl, _⟩ := hu
    clear ha A
    go_enter Try.func30, Try.ntmps30
    go_wp2_with fail
    refine SY.out.mono ?_
    rintro e w1 ⟨gh, ch, gl, cl, lo, hi, go, cap, g, c, rfl, s1, od, hg, b1⟩
    have B1 := Lib.hid b1
    have HOD := Lib.hid od
    have HG := Lib.hid hg
    have A2 := alt_alloc w1 (.cells #[.slice (some ⟨gh, 0, none⟩) ps.length ch, .slice (some ⟨gl, 0, none⟩) ps.length cl, .slice (some ⟨go, 0, none⟩) ps.length cap] 53) gh hi
    have W2 := s1.below (((Below.refl w1.heap.size w1).alloc (Nat.le_refl _) (.cells #[.slice (some ⟨gh, 0, none⟩) ps.length ch, .slice (some ⟨gl, 0, none⟩) ps.length cl, .slice (some ⟨go, 0, none⟩) ps.length cap] 53)).mono s1.p.room.2.2)
    have X2 : SBox3 _ w1.heap.size _ _ _ := alloc_heap w1 (.cells #[.slice (some ⟨gh, 0, none⟩) ps.length ch, .slice (some ⟨gl, 0, none⟩) ps.length cl, .slice (some ⟨go, 0, none⟩) ps.length cap] 53)
    have B2' := B1.out.alloc B1.out.size (.cells #[.slice (some ⟨gh, 0, none⟩) ps.length ch, .slice (some ⟨gl, 0, none⟩) ps.length cl, .slice (some ⟨go, 0, none⟩) ps.length cap] 53)
    have RM : Hid (hi ≤ w1.heap.size) := Lib.hid s1.p.room.2.2
    obtain ⟨w2, hw2⟩ : ∃ w2, w2 = w1.alloc (.cells #[.slice (some ⟨gh, 0, none⟩) ps.length ch, .slice (some ⟨gl, 0, none⟩) ps.length cl, .slice (some ⟨go, 0, none⟩) ps.length cap] 53) := ⟨_, rfl⟩
    rw [← hw2] at A2 W2 X2 B2'
    have WH := Lib.hid W2
    have XB := Lib.hid X2
    have B2 := Lib.hid B2'
    obtain ⟨x0, x1, x2⟩ := XB.out.cells
    clear s1 b1 W2 X2 A2 B2' od hg B1
    unfold shpV
    have TY := Lib.hid (fun s w' (hs : s < ps.length) (W' : ShpW w' gh ch gl cl lo hi go cap g c ps.length (dgS (stS ps qs) s)) => takeY ps.length (dgS (stS ps qs) s) s s w' gh ch gl cl lo hi go cap g c (dg_ok OK.out s) hs hs n8 W')
    unfold shpV at TY
    have TR := Lib.hid (fun w' W' => takeRestY ps.length (dgS (stS ps qs) ps.length) w' gh ch gl cl lo hi go cap g c (dg_ok OK.out ps.length) n8 W')
    unfold shpV at TR
    have A0 : Hid (Alt gh hi w2 w2) := Lib.hid ⟨rfl, rfl, rfl, Nat.le_refl _, fun _ _ _ => rfl⟩
    go_wp2_with fail
    rw [← hw2]
    clear hw2 x0 x1 x2
    go_loopg [20] ps.length (fun gg a wr => ∃ s : Nat, s ≤ ps.length ∧ ps.length - s ≤ gg ∧ a = .int .i64 s ∧ Hid (ShpW wr gh ch gl cl lo hi go cap g c ps.length (dgS (stS ps qs) s)) ∧ Hid (SBox3 wr w1.heap.size (.slice (some ⟨gh, 0, none⟩) ps.length ch) (.slice (some ⟨gl, 0, none⟩) ps.length cl) (.slice (some ⟨go, 0, none⟩) ps.length cap)) ∧ Hid (Alt gh hi w2 wr))
    case atStart => exact ⟨0, Nat.zero_le _, by omega, rfl, WH, XB, A0⟩
    case round =>
      have RH := Lib.hid (WH.out.h.room)
      clear WH XB A0
      obtain ⟨s, hs, hgg, rfl, HW, HX, HA⟩ := hrel
      obtain ⟨x0, x1, x2⟩ := HX.out.cells
      by_cases hsn : s < ps.length
      · have i1 : (s : Int) < (ps.length : Int) := by omega
        have TC := Lib.hid (TY.out s wr hsn HW.out)
        go_wp2_with fail
        refine TC.out.mono ?_
        rintro e w3 ⟨rfl, s3, a3⟩
        have HX3 := Lib.hid (HX.out.alt a3 RM.out)
        have HA3 := Lib.hid (HA.out.trans a3)
        have HW3 := Lib.hid (show ShpW w3 gh ch gl cl lo hi go cap g c ps.length (dgS (stS ps qs) (s + 1)) from s3)
        clear s3 a3 HX HA HW TC x0 x1 x2
        go_wp2_with fail
        go_roundg (ps.length - (s + 1))
        case rel => exact ⟨s + 1, by omega, by omega, by go_num, HW3, HX3, HA3⟩
        case measure => omega
      · have hsn' : s = ps.length := by omega
        have i1 : ¬ (s : Int) < (ps.length : Int) := by omega
        have TC := Lib.hid (TR.out wr (by have h := HW.out; rw [hsn'] at h; exact h))
        clear hsn' HW TY
        go_wp2_with fail
        refine TC.out.mono ?_
        rintro e w3 ⟨rfl, s3, a3⟩
        have B3 := Lib.hid (B2.out.trans (((HA.out.trans a3).below (by have := RH.out; omega)).mono HG.out))
        have O3 := Lib.hid (show OwnG w3 w.heap.size w3.heap.size (.slice (some ⟨go, 0, none⟩) ps.length cap) ps.length (keT ps qs) from by
          rw [VE.out]
          have r := s3.p.room
          have d := s3.d
          have og := s3.p.ownG HN.out HOD.out
          obtain ⟨go', cap', u', H', e', p1, p2, p3, p4, p5, p6, p7⟩ := og
          exact ⟨go', cap', u', H', e', p1, p2, by have := HG.out; omega, p4, by omega, Nat.le_refl _, p7⟩)
        clear s3 a3
        go_wp2_with fail
        go_ret2
        exact ⟨_, rfl, O3.out, B3.out⟩
end Go.Proofs.Ytligidmkhbcpmab
