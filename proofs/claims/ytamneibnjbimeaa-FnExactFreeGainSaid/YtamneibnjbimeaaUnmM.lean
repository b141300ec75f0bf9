/- The sides of nodes, and the least node that is not even, in the model. -/
import Derived.Test.YtamneibnjbimeaaMktM
import Derived.Test.YtamneibnjbimeaaSidP
import Derived.Test.YtamneibnjbimeaaWthP
import Derived.Test.YtamneibnjbimeaaKids
import Derived.IntWalk
namespace Go.Proofs.Ytamneibnjbimeaa
open Go.RowKit
set_option linter.unusedVariables false
/-- A box of three numbers. -/
def TB3 (w : World) (g : Nat) (a b c : Int) : Prop := w.heap[g]? = some (.cells #[.int .i64 a, .int .i64 b, .int .i64 c] 73 (0, 0))
theorem TB3.cf {w : World} {g : Nat} {a b c : Int} (h : TB3 w g a b c) : (w.cell? ⟨g, 0, none⟩ = some (.int .i64 a) ∧ w.frozen? ⟨g, 0, none⟩ = false) ∧ (w.cell? ⟨g, 1, none⟩ = some (.int .i64 b) ∧ w.frozen? ⟨g, 1, none⟩ = false) ∧ (w.cell? ⟨g, 2, none⟩ = some (.int .i64 c) ∧ w.frozen? ⟨g, 2, none⟩ = false) :=
  ⟨cell_of_heap (o := 0) h rfl, cell_of_heap (o := 1) h rfl, cell_of_heap (o := 2) h rfl⟩
theorem TB3.lt {w : World} {g : Nat} {a b c : Int} (h : TB3 w g a b c) : g < w.heap.size := (Array.getElem?_eq_some_iff.1 h).1
theorem TB3.below {w w1 : World} {g C : Nat} {a b c : Int} (h : TB3 w g a b c) (hb : Below C w w1) (hB : g < C) : TB3 w1 g a b c := (hb.block g hB).trans h
theorem TB3.s0 {w : World} {g : Nat} {a b c x : Int} (h : TB3 w g a b c) : TB3 (w.setCell ⟨g, 0, none⟩ (.int .i64 x)) g x b c := row_set (L := [.int .i64 a, .int .i64 b, .int .i64 c]) (j := 0) h
theorem TB3.s1 {w : World} {g : Nat} {a b c x : Int} (h : TB3 w g a b c) : TB3 (w.setCell ⟨g, 1, none⟩ (.int .i64 x)) g a x c := row_set (L := [.int .i64 a, .int .i64 b, .int .i64 c]) (j := 1) h
theorem TB3.s2 {w : World} {g : Nat} {a b c x : Int} (h : TB3 w g a b c) : TB3 (w.setCell ⟨g, 2, none⟩ (.int .i64 x)) g a b x := row_set (L := [.int .i64 a, .int .i64 b, .int .i64 c]) (j := 2) h
theorem TB3.far {w : World} {g g' o : Nat} {a b c : Int} {v : Value} (h : TB3 w g a b c) (hne : g ≠ g') : TB3 (w.setCell ⟨g', o, none⟩ v) g a b c := (heap_setCell_other w _ _ _ hne).trans h
theorem TB3.new (w : World) (a b c : Int) : TB3 (w.alloc (.cells #[.int .i64 a, .int .i64 b, .int .i64 c] 73)) w.heap.size a b c := alloc_heap w _
def V3i (a b c : Nat) : Value := .agg #[.int .i64 (a : Int), .int .i64 (b : Int), .int .i64 (c : Int)]
set_option maxRecDepth 100000 in
set_option maxHeartbeats 4000000 in
theorem sidesM (ps ws cs : List Int) (v : Value) (x : Nat) (w : World) (mk : Mkt ps ws cs) (hx : x < ps.length) (h : MktV w w.heap.size v ps ws cs) :
    Calls Try.prog 62 #[v, .int .i64 x] w (Gives (V3i (sdN ps cs x 0 ps.length) (sdN ps cs x 1 ps.length) (sdN ps cs x 2 ps.length)) w) := by
  have KC := Lib.hid (fun w' (v1 v2 v3 : Value) (hv : v = .agg #[v1, v2, v3]) (hb : Below w.heap.size w w') => kidsN ps ws (.agg #[v1, v2]) (x : Int) w' mk.good (by omega) (by omega) ((show TreeV w w.heap.size (.agg #[v1, v2]) ps ws by (have h2 := h; rw [hv] at h2; exact h2.tree.1)).boxed hb))
  obtain ⟨v1, v2, v3, rfl, ⟨p1, c1, rfl, _⟩, ⟨p2, c2, rfl, _⟩, ⟨p3, c3, rfl, l3, m3, _, i3⟩⟩ := h
  have P3 := Lib.hid i3
  clear i3 m3
  have n24 := mk.good.n24
  have le1 : cs.length ≤ ps.length := Nat.le_of_eq mk.len
  have le2 : ps.length ≤ cs.length := Nat.le_of_eq mk.len.symm
  have C0 := Lib.hid (cntK_kids ps cs x 0)
  have C1 := Lib.hid (cntK_kids ps cs x 1)
  have C2 := Lib.hid (cntK_kids ps cs x 2)
  have KL : (kidsT ps (x : Int)).length ≤ 24 := by have := nodesW_len (fun y => ps.getD y 0 == (x : Int)) ps.length; rw [← kidsT_eq] at this; omega
  have KI : Hid (∀ i, i < (kidsT ps (x : Int)).length → ∃ y : Nat, (kidsT ps (x : Int)).getD i 0 = (y : Int) ∧ y < ps.length) := Lib.hid (fun i hi => by
    obtain ⟨y, hy, hy2, _⟩ := nodesW_mem (p := fun y => ps.getD y 0 == (x : Int)) (n := ps.length) (getD_mem hi)
    exact ⟨y, hy, hy2⟩)
  have NX := Lib.hid (fun f i (hi : i < (kidsT ps (x : Int)).length) => cntK_next cs x f hi)
  have LE : Hid (∀ f i, cntK cs x f ((kidsT ps (x : Int)).take i) ≤ 24) := Lib.hid (fun f i => by
    have h1 := cntK_le cs x f ((kidsT ps (x : Int)).take i)
    rw [List.length_take] at h1
    omega)
  clear mk
  obtain ⟨K, hK⟩ : ∃ K, K = kidsT ps (x : Int) := ⟨_, rfl⟩
  rw [← hK] at KC C0 C1 C2 KL KI NX LE
  clear hK
  obtain ⟨wa, hwa⟩ : ∃ wa, wa = (w.alloc (.cells #[.slice p1 ps.length c1, .slice p2 ws.length c2, .slice p3 cs.length c3] 31)).alloc (.cells #[.int .i64 0, .int .i64 0, .int .i64 0] 73) := ⟨_, rfl⟩
  obtain ⟨k1, k2⟩ := alloc_two w (.cells #[.slice p1 ps.length c1, .slice p2 ws.length c2, .slice p3 cs.length c3] 31) (.cells #[.int .i64 0, .int .i64 0, .int .i64 0] 73)
  have B1 := Lib.hid (show Below w.heap.size w wa by rw [hwa]; exact ((Below.refl w.heap.size w).alloc (Nat.le_refl _) _).alloc (by simp) _)
  have T1 := Lib.hid (show KBox wa w.heap.size (.slice p1 ps.length c1) (.slice p2 ws.length c2) (.slice p3 cs.length c3) by rw [hwa]; exact k1)
  have R1 := Lib.hid (show TB3 wa (w.heap.size + 1) 0 0 0 by rw [hwa]; exact k2)
  clear k1 k2
  obtain ⟨x0, x1, x2⟩ := T1.out.cells
  go_enter Try.func62, Try.ntmps62
  go_wp2_with fail
  rw [← hwa]
  clear hwa
  refine (KC.out _ _ _ _ rfl B1.out).mono ?_
  rintro e w1 ⟨u, rfl, o1, b1⟩
  obtain ⟨gk, ck, hu, hk1, hk2⟩ : ∃ gk ck, u = .slice gk K.length ck ∧ IntsAt w1 w1.heap.size gk K ∧ True := by
    obtain ⟨p, c, e, _, _, _, i⟩ := o1.intsV
    exact ⟨p, c, e, i, trivial⟩
  subst hu
  have HB1 := Lib.hid (B1.out.trans (b1.mono B1.out.size))
  have T2 := Lib.hid (T1.out.below b1 T1.out.lt)
  have R2 := Lib.hid (R1.out.below b1 R1.out.lt)
  have KA := Lib.hid hk1
  clear o1 b1 x0 x1 x2 hk1 hk2 B1 T1 R1 KC
  have HB2 := Lib.hid (HB1.out.alloc HB1.out.size (.cells #[.int .i64 0, .int .i64 0, .int .i64 0] 73))
  have b2 : Below w1.heap.size w1 (w1.alloc (.cells #[.int .i64 0, .int .i64 0, .int .i64 0] 73)) := (Below.refl _ _).alloc (Nat.le_refl _) _
  have T3 := Lib.hid (T2.out.below b2 T2.out.lt)
  have R3 := Lib.hid (R2.out.below b2 R2.out.lt)
  have G3 := Lib.hid (TB3.new w1 0 0 0)
  have hgw : w.heap.size + 1 < w1.heap.size := R2.out.lt
  clear b2
  go_wp2_with fail
  go_loopw [7] (fun i wr => ∃ k : Nat, k ≤ K.length ∧ i = .int .i64 k ∧ Hid (TB3 wr w1.heap.size (cntK cs x 0 (K.take k) : Nat) (cntK cs x 1 (K.take k) : Nat) (cntK cs x 2 (K.take k) : Nat)) ∧ Hid (TB3 wr (w.heap.size + 1) 0 0 0) ∧ Hid (KBox wr w.heap.size (.slice p1 ps.length c1) (.slice p2 ws.length c2) (.slice p3 cs.length c3)) ∧ Hid (Below w1.heap.size w1 wr)) (fun i _ => K.length - (intOf i).toNat)
  case atStart => exact ⟨0, Nat.zero_le _, rfl, Lib.hid (by rw [List.take_zero]; exact G3.out), R3, T3, Lib.hid ((Below.refl _ _).alloc (Nat.le_refl _) _)⟩
  case round =>
    obtain ⟨k, hk, rfl, HG, HR, HT, HB⟩ := hrel
    obtain ⟨x0, x1, x2⟩ := HT.out.cells
    clear G3 R3 T3 HB2
    by_cases hlt : k < K.length
    · obtain ⟨y, hy, hyp⟩ := KI.out k hlt
      obtain ⟨b, off, rfl, hb, hc⟩ := KA.out.get hlt
      have hkw : wr.cell? ⟨b, off + k, none⟩ = some (.int .i64 y) := by rw [HB.out.cell (p := ⟨b, off + k, none⟩) hb, hc, hy]
      obtain ⟨bz, oz, rfl, hbz, hcz⟩ := P3.out.get (i := y) (by omega)
      obtain ⟨bz', oz', ez, hbz', hcz'⟩ := P3.out.get (i := x) (by omega)
      obtain ⟨rfl, rfl⟩ : bz = bz' ∧ oz = oz' := by injection ez with ez; injection ez with e1 e2; exact ⟨e1, e2⟩
      have hbw : ∀ o v, w.cell? ⟨bz, o, none⟩ = some v → wr.cell? ⟨bz, o, none⟩ = some v := fun o v hv => by
        rw [HB.out.cell (p := ⟨bz, o, none⟩) (by have := HB1.out.size; show bz < _; omega), HB1.out.cell (p := ⟨bz, o, none⟩) hbz]; exact hv
      have hz_y := hbw _ _ hcz
      have hz_x := hbw _ _ hcz'
      have n0 := NX.out 0 k hlt
      have n1 := NX.out 1 k hlt
      have n2 := NX.out 2 k hlt
      have l0 := LE.out 0 k
      have l1 := LE.out 1 k
      have l2 := LE.out 2 k
      rw [hy, Int.toNat_natCast] at n0 n1 n2
      obtain ⟨y1, hy1⟩ : ∃ t, t = cs.getD y 0 := ⟨_, rfl⟩
      obtain ⟨y2, hy2⟩ : ∃ t, t = cs.getD x 0 := ⟨_, rfl⟩
      rw [← hy1] at hz_y n0 n1 n2
      rw [← hy2] at hz_x n0 n1 n2
      obtain ⟨a, ha⟩ : ∃ t, t = cntK cs x 0 (K.take k) := ⟨_, rfl⟩
      obtain ⟨b', hb'⟩ : ∃ t, t = cntK cs x 1 (K.take k) := ⟨_, rfl⟩
      obtain ⟨c, hc'⟩ : ∃ t, t = cntK cs x 2 (K.take k) := ⟨_, rfl⟩
      rw [← ha] at HG n0 l0
      rw [← hb'] at HG n1 l1
      rw [← hc'] at HG n2 l2
      have i0 : (0 : Int) ≤ (k : Int) := by omega
      have i1 : (k : Int) < (K.length : Int) := by omega
      have q0 : (0 : Int) ≤ (y : Int) := by omega
      have q1 : (y : Int) < (cs.length : Int) := by omega
      have r0 : (0 : Int) ≤ (x : Int) := by omega
      have r1 : (x : Int) < (cs.length : Int) := by omega
      obtain ⟨⟨t0, f0⟩, ⟨t1, f1⟩, t2, f2⟩ := HG.out.cf
      have hw1 : w1.heap.size < wr.heap.size := HG.out.lt
      have N0 := Lib.hid n0
      have N1 := Lib.hid n1
      have N2 := Lib.hid n2
      clear n0 n1 n2 hy hc hcz hcz' ez hbw hy1 hy2 ha hb' hc' hb hbz hbz'
      by_cases hs1 : y1 < y2
      · have S := Lib.hid (show sgnC y1 y2 = 0 by unfold sgnC; rw [if_pos hs1])
        rw [S.out] at N0 N1 N2
        have G4 := Lib.hid (HG.out.s0 (x := (a : Int) + 1))
        have R4 := Lib.hid (HR.out.far (g' := w1.heap.size) (o := 0) (v := .int .i64 ((a : Int) + 1)) (by omega))
        have T4 := Lib.hid (HT.out.set (g := w1.heap.size) (o := 0) (x := .int .i64 ((a : Int) + 1)) (by omega))
        have B4 := Lib.hid (HB.out.setCell (p := ⟨w1.heap.size, 0, none⟩) (Nat.le_refl _) (.int .i64 ((a : Int) + 1)))
        clear HG HR HT HB S
        go_upto_region 5 with fail
        go_region
        go_wp2_with fail
        go_roundw
        case rel => exact ⟨k + 1, by omega, by go_num, Lib.hid (by rw [N0.out, N1.out, N2.out]; exact G4.out), Lib.hid R4.out, Lib.hid T4.out, Lib.hid (below_drew B4.out)⟩
        case measure => simp [intOf]; omega
      · by_cases hs2 : y1 = y2
        · have S := Lib.hid (show sgnC y1 y2 = 1 by unfold sgnC; rw [if_neg hs1, if_pos hs2])
          rw [S.out] at N0 N1 N2
          subst hs2
          have G4 := Lib.hid (HG.out.s1 (x := (b' : Int) + 1))
          have R4 := Lib.hid (HR.out.far (g' := w1.heap.size) (o := 1) (v := .int .i64 ((b' : Int) + 1)) (by omega))
          have T4 := Lib.hid (HT.out.set (g := w1.heap.size) (o := 1) (x := .int .i64 ((b' : Int) + 1)) (by omega))
          have B4 := Lib.hid (HB.out.setCell (p := ⟨w1.heap.size, 1, none⟩) (Nat.le_refl _) (.int .i64 ((b' : Int) + 1)))
          clear HG HR HT HB S
          go_upto_region 5 with fail
          go_region
          go_wp2_with fail
          go_roundw
          case rel => exact ⟨k + 1, by omega, by go_num, Lib.hid (by rw [N0.out, N1.out, N2.out]; exact G4.out), Lib.hid R4.out, Lib.hid T4.out, Lib.hid (below_drew B4.out)⟩
          case measure => simp [intOf]; omega
        · have S := Lib.hid (show sgnC y1 y2 = 2 by unfold sgnC; rw [if_neg hs1, if_neg hs2])
          have hs3 : (y1 == y2) = false := by simpa using hs2
          rw [S.out] at N0 N1 N2
          have G4 := Lib.hid (HG.out.s2 (x := (c : Int) + 1))
          have R4 := Lib.hid (HR.out.far (g' := w1.heap.size) (o := 2) (v := .int .i64 ((c : Int) + 1)) (by omega))
          have T4 := Lib.hid (HT.out.set (g := w1.heap.size) (o := 2) (x := .int .i64 ((c : Int) + 1)) (by omega))
          have B4 := Lib.hid (HB.out.setCell (p := ⟨w1.heap.size, 2, none⟩) (Nat.le_refl _) (.int .i64 ((c : Int) + 1)))
          clear HG HR HT HB S hs2
          go_upto_region 5 with fail
          go_region
          go_wp2_with fail
          go_roundw
          case rel => exact ⟨k + 1, by omega, by go_num, Lib.hid (by rw [N0.out, N1.out, N2.out]; exact G4.out), Lib.hid R4.out, Lib.hid T4.out, Lib.hid (below_drew B4.out)⟩
          case measure => simp [intOf]; omega
    · have hkk : K.length ≤ k := by omega
      rw [List.take_of_length_le hkk, C0.out, C1.out, C2.out] at HG
      generalize sdN ps cs x 0 ps.length = a at *
      generalize sdN ps cs x 1 ps.length = b at *
      generalize sdN ps cs x 2 ps.length = c at *
      obtain ⟨⟨t0, f0⟩, ⟨t1, f1⟩, t2, f2⟩ := HG.out.cf
      obtain ⟨⟨r0, e0⟩, ⟨r1, e1⟩, r2, e2⟩ := HR.out.cf
      have FIN : Hid (Below w.heap.size w (((wr.setCell ⟨w.heap.size + 1, 0, none⟩ (.int .i64 (a : Int))).setCell ⟨w.heap.size + 1, 1, none⟩ (.int .i64 (b : Int))).setCell ⟨w.heap.size + 1, 2, none⟩ (.int .i64 (c : Int)))) := Lib.hid (((((HB1.out.trans (HB.out.mono HB1.out.size)).setCell (p := ⟨w.heap.size + 1, 0, none⟩) (by simp) _).setCell (p := ⟨w.heap.size + 1, 1, none⟩) (by simp) _).setCell (p := ⟨w.heap.size + 1, 2, none⟩) (by simp) _))
      unfold V3i
      go_wp2_with fail
      refine bodyPost_ret (v := .agg #[.int .i64 (a : Int), .int .i64 (b : Int), .int .i64 (c : Int)]) (by simp [results, Try.results62, go_sem, r0, r1, r2]) rfl ⟨rfl, ?_⟩
      exact FIN.out
set_option maxRecDepth 100000 in
set_option maxHeartbeats 4000000 in
theorem unevM (ps ws cs : List Int) (v : Value) (w : World) (mk : Mkt ps ws cs) (h : MktV w w.heap.size v ps ws cs) :
    Calls Try.prog 57 #[v] w (Gives (.int .i64 (unI ps cs)) w) := by
  have SM := Lib.hid (fun x (hx : x < ps.length) w' (hb : Below w.heap.size w w') => sidesM ps ws cs v x w' mk hx (h.boxed hb))
  unfold V3i at SM
  have FM := Lib.hid (fun h => fstU_miss (B := unB ps cs) (n := ps.length) h)
  have FH := Lib.hid (fun k hk h hl => fstU_hit (B := unB ps cs) (n := ps.length) (k := k) hk h hl)
  have UD : Hid (unI ps cs = fstU (unB ps cs) ps.length) := Lib.hid rfl
  rw [← UD.out] at FM FH
  have DB : Hid (∀ x, unB ps cs x = ((decide (0 < sdN ps cs x 0 ps.length)) != (decide (0 < sdN ps cs x 2 ps.length)))) := Lib.hid (fun x => rfl)
  obtain ⟨p1, c1, p2, c2, p3, c3, rfl⟩ := h.shape
  have n24 := mk.good.n24
  have le1 : cs.length ≤ ps.length := Nat.le_of_eq mk.len
  have le2 : ps.length ≤ cs.length := Nat.le_of_eq mk.len.symm
  clear h mk UD
  obtain ⟨r, hr⟩ : ∃ r, r = unI ps cs := ⟨_, rfl⟩
  rw [← hr] at FM FH ⊢
  clear hr
  have B1 := Lib.hid ((Below.refl w.heap.size w).alloc (Nat.le_refl _) (.cells #[.slice p1 ps.length c1, .slice p2 ws.length c2, .slice p3 cs.length c3] 31))
  have T1 := Lib.hid (show KBox (w.alloc (.cells #[.slice p1 ps.length c1, .slice p2 ws.length c2, .slice p3 cs.length c3] 31)) w.heap.size (.slice p1 ps.length c1) (.slice p2 ws.length c2) (.slice p3 cs.length c3) from alloc_heap w _)
  go_enter Try.func57, Try.ntmps57
  go_wp2_with fail
  go_loopw [3] (fun i wr => ∃ k : Nat, k ≤ cs.length ∧ i = .int .i64 k ∧ Hid (∀ j, j < k → unB ps cs j = false) ∧ Hid (KBox wr w.heap.size (.slice p1 ps.length c1) (.slice p2 ws.length c2) (.slice p3 cs.length c3)) ∧ Hid (Below w.heap.size w wr)) (fun i _ => cs.length - (intOf i).toNat)
  case atStart => exact ⟨0, Nat.zero_le _, rfl, Lib.hid (fun j hj => by omega), T1, B1⟩
  case round =>
    obtain ⟨k, hk, rfl, HA, HT, HB⟩ := hrel
    obtain ⟨x0, x1, x2⟩ := HT.out.cells
    clear T1 B1
    by_cases hlt : k < cs.length
    · have S := Lib.hid (SM.out k (by omega) wr HB.out)
      have HIT := Lib.hid (fun h => FH.out k (by omega) h HA.out)
      have D := Lib.hid (DB.out k)
      have NX : Hid (unB ps cs k = false → ∀ j, j < k + 1 → unB ps cs j = false) := Lib.hid (fun h j hj => by
        rcases Nat.lt_or_ge j k with h' | h'
        · exact HA.out j h'
        · obtain rfl : j = k := by omega
          exact h)
      have i1 : (k : Int) < (cs.length : Int) := by omega
      obtain ⟨t, ht⟩ : ∃ t, t = unB ps cs k := ⟨_, rfl⟩
      rw [← ht] at HIT D NX
      obtain ⟨a, ha⟩ : ∃ t, t = sdN ps cs k 0 ps.length := ⟨_, rfl⟩
      obtain ⟨b, hb⟩ : ∃ t, t = sdN ps cs k 1 ps.length := ⟨_, rfl⟩
      obtain ⟨c, hc⟩ : ∃ t, t = sdN ps cs k 2 ps.length := ⟨_, rfl⟩
      rw [← ha] at S D
      rw [← hb] at S
      rw [← hc] at S D
      clear ht ha hb hc HA
      cases t
      · have N2 := Lib.hid (NX.out rfl)
        clear NX HIT
        go_wp2_with fail
        refine S.out.mono ?_
        rintro e w3 ⟨rfl, b3⟩
        have HT3 := Lib.hid ((HT.out.below b3 HT.out.lt).alloc (.cells #[.int .i64 (a : Int), .int .i64 (b : Int), .int .i64 (c : Int)] 73))
        have HB3 := Lib.hid ((HB.out.trans (b3.mono HB.out.size)).alloc (HB.out.trans (b3.mono HB.out.size)).size (.cells #[.int .i64 (a : Int), .int .i64 (b : Int), .int .i64 (c : Int)] 73))
        clear b3 S x0 x1 x2 HT HB
        have tt : (!(decide (0 < a) == decide (0 < c))) = false := D.out.symm
        go_wp2_with fail
        go_roundw
        case rel => exact ⟨k + 1, by omega, by go_num, N2, HT3, HB3⟩
        case measure => simp [intOf]; omega
      · have N2 := Lib.hid (HIT.out rfl)
        clear NX HIT
        go_wp2_with fail
        refine S.out.mono ?_
        rintro e w3 ⟨rfl, b3⟩
        have HB3 := Lib.hid ((HB.out.trans (b3.mono HB.out.size)).alloc (HB.out.trans (b3.mono HB.out.size)).size (.cells #[.int .i64 (a : Int), .int .i64 (b : Int), .int .i64 (c : Int)] 73))
        clear b3 S x0 x1 x2 HT HB
        have tt : (!(decide (0 < a) == decide (0 < c))) = true := D.out.symm
        go_wp2_with fail
        go_ret
        exact ⟨by rw [N2.out]; rfl, HB3.out⟩
    · have R := Lib.hid (FM.out (fun j hj => HA.out j (by omega)))
      clear HA
      go_wp2_with fail
      go_ret
      exact ⟨by rw [R.out]; rfl, HB.out⟩
set_option maxHeartbeats 4000000 in
theorem unevenS (ps ws cs : List Int) (v : Value) (w : World) (hn : cs.length ≤ 1048576) (h : MktV w w.heap.size v ps ws cs) :
    Calls Try.prog 28 #[v] w (Gives (unV ps ws cs) w) := by
  have G := Lib.hid (fun w' (hb : Below w.heap.size w w') => mktS ps ws cs v w' hn (h.boxed hb))
  have SC := Lib.hid (fun (mk : Mkt ps ws cs) w' (hb : Below w.heap.size w w') => unevM ps ws cs v w' mk (h.boxed hb))
  obtain ⟨p1, c1, p2, c2, p3, c3, rfl⟩ := h.shape
  clear h
  have UV : Hid (unV ps ws cs = if (goodM ps ws cs && decide (0 ≤ unI ps cs)) = true then .tuple #[.int .i64 (unI ps cs), .bool true] else .tuple #[.int .i64 0, .bool false]) := Lib.hid rfl
  have B1 := Lib.hid ((Below.refl w.heap.size w).alloc (Nat.le_refl _) (.cells #[.slice p1 ps.length c1, .slice p2 ws.length c2, .slice p3 cs.length c3] 31))
  have T1 := Lib.hid (show KBox (w.alloc (.cells #[.slice p1 ps.length c1, .slice p2 ws.length c2, .slice p3 cs.length c3] 31)) w.heap.size (.slice p1 ps.length c1) (.slice p2 ws.length c2) (.slice p3 cs.length c3) from alloc_heap w _)
  obtain ⟨wa, hwa⟩ : ∃ wa, wa = w.alloc (.cells #[.slice p1 ps.length c1, .slice p2 ws.length c2, .slice p3 cs.length c3] 31) := ⟨_, rfl⟩
  rw [← hwa] at B1 T1
  obtain ⟨x0, x1, x2⟩ := T1.out.cells
  cases hg : goodM ps ws cs
  · rw [hg, Bool.false_and, if_neg (by decide)] at UV
    rw [hg] at G
    rw [UV.out]
    clear hg UV SC
    go_enter Try.func28, Try.ntmps28
    go_wp2_with fail
    rw [← hwa]
    clear hwa
    refine (G.out _ B1.out).mono ?_
    rintro e w1 ⟨rfl, b1⟩
    have HB1 := Lib.hid (B1.out.trans (b1.mono B1.out.size))
    clear b1
    go_wp2_with fail
    go_ret2
    exact ⟨rfl, HB1.out⟩
  · have SC2 := Lib.hid (SC.out (goodM_iff.1 hg))
    rw [hg, Bool.true_and] at UV
    rw [hg] at G
    obtain ⟨r, hr⟩ : ∃ r, r = unI ps cs := ⟨_, rfl⟩
    rw [← hr] at UV SC2
    clear hg SC hr
    by_cases h0 : 0 ≤ r
    · rw [decide_eq_true h0, if_pos rfl] at UV
      rw [UV.out]
      clear UV
      go_enter Try.func28, Try.ntmps28
      go_wp2_with fail
      rw [← hwa]
      clear hwa
      refine (G.out _ B1.out).mono ?_
      rintro e w1 ⟨rfl, b1⟩
      have HB1 := Lib.hid (B1.out.trans (b1.mono B1.out.size))
      have U1 := Lib.hid (T1.out.below b1 T1.out.lt)
      obtain ⟨y0, y1, y2⟩ := U1.out.cells
      clear b1 x0 x1 x2
      go_wp2_with fail
      refine (SC2.out _ HB1.out).mono ?_
      rintro e w2 ⟨rfl, b2⟩
      have HB2 := Lib.hid (HB1.out.trans (b2.mono HB1.out.size))
      obtain ⟨z0, z1, z2⟩ := (U1.out.below b2 U1.out.lt).cells
      clear b2 y0 y1 y2
      go_wp2_with fail
      refine (SC2.out _ HB2.out).mono ?_
      rintro e w3 ⟨rfl, b3⟩
      have HB3 := Lib.hid (HB2.out.trans (b3.mono HB2.out.size))
      clear b3
      go_wp2_with fail
      go_ret2
      exact ⟨rfl, HB3.out⟩
    · rw [decide_eq_false h0, if_neg (by decide)] at UV
      rw [UV.out]
      clear UV
      go_enter Try.func28, Try.ntmps28
      go_wp2_with fail
      rw [← hwa]
      clear hwa
      refine (G.out _ B1.out).mono ?_
      rintro e w1 ⟨rfl, b1⟩
      have HB1 := Lib.hid (B1.out.trans (b1.mono B1.out.size))
      have U1 := Lib.hid (T1.out.below b1 T1.out.lt)
      obtain ⟨y0, y1, y2⟩ := U1.out.cells
      clear b1 x0 x1 x2
      go_wp2_with fail
      refine (SC2.out _ HB1.out).mono ?_
      rintro e w2 ⟨rfl, b2⟩
      have HB2 := Lib.hid (HB1.out.trans (b2.mono HB1.out.size))
      clear b2 y0 y1 y2
      go_wp2_with fail
      go_ret2
      exact ⟨rfl, HB2.out⟩
end Go.Proofs.Ytamneibnjbimeaa
