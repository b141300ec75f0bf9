/- GoingOn in the program. -/
import Derived.Test.YtagljebfbacdhaaEnvI
import Derived.Test.YtagljebfbacdhaaNode
import Derived.Test.YtagljebfbacdhaaHeldMore
import Derived.Deep.RegionHeld3
namespace Go.Proofs.Ytagljebfbacdhaa
open Go.RowKit
set_option linter.unusedVariables false
theorem kid_cap_bd {ps ws zs : List Int} (p : Proc ps ws zs) {x : Nat} (hx : x < ps.length) : -479520 ≤ kidT ps (capW ps ws zs) x ∧ kidT ps (capW ps ws zs) x ≤ 479520 := by
  have h2 := sumTo_scale (L := kidL ps (capW ps ws zs) x) (M := kidL ps (sumsT ps ws) x) (c := 999) ps.length (fun y hy => by
    rw [kidL_at hy, kidL_at hy]
    split
    · exact capN_bd p.good (own_bd p) 24 y hy
    · simp)
  have h3 := sums_kids p.good hx
  have h4 := p.good.w_bd hx
  have h5 := (sumsT_bd p.good x hx).2
  unfold kidT
  omega
def goB (ps ws zs : List Int) (a : Int) : Bool := procB ps ws zs && (nodeB ps ws a && !leafB ps a.toNat)
def goN (ps ws zs : List Int) (x : Nat) : Int := cutN (kidT ps (capW ps ws zs) x) ((sumsT ps ws).getD x 0)
def goD (ps ws zs : List Int) (x : Nat) : Int := cutD (kidT ps (capW ps ws zs) x) ((sumsT ps ws).getD x 0)
def goV (ps ws zs : List Int) (a : Int) : Value := if goB ps ws zs a = true then .tuple #[.agg #[.int .i64 (goN ps ws zs a.toNat), .int .i64 (goD ps ws zs a.toNat)], .bool true] else zeroP
theorem goV_form (ps ws zs : List Int) (a : Int) : ∃ p q ok, goV ps ws zs a = .tuple #[.agg #[.int .i64 p, .int .i64 q], .bool ok] := by
  unfold goV zeroP
  split
  · exact ⟨_, _, _, rfl⟩
  · exact ⟨_, _, _, rfl⟩
theorem goV_no {ps ws zs : List Int} {a : Int} (h : goB ps ws zs a = false) : goV ps ws zs a = zeroP := by unfold goV; rw [h]; simp
set_option maxRecDepth 100000 in
set_option maxHeartbeats 8000000 in
theorem goI (ps ws zs : List Int) (a : Int) (v u : Value) (w : World) (hn1 : zs.length ≤ 1048576) (h : TreeV w w.heap.size v ps ws) (hu : IntsV w w.heap.size u zs) :
    Calls Try.prog 33 #[v, u, .int .i64 a] w (Gives (goV ps ws zs a) w) := by
  have GC := Lib.hid (fun w' (hb : Below w.heap.size w w') => gameI ps ws zs v u w' hn1 (h.boxed hb) ((hu.below hb).more hb.size))
  have NC := Lib.hid (fun w' (hb : Below w.heap.size w w') => isNodeI ps ws v a w' (h.boxed hb))
  have EC := Lib.hid (fun (gd : Good ps ws) (x : Nat) (hx : x < ps.length) w' (hb : Below w.heap.size w w') => isEndC gd hx (h.boxed hb))
  obtain ⟨p1, c1, p2, c2, rfl⟩ := h.shape
  obtain ⟨q, d, rfl, _⟩ := hu
  clear h
  have B1 := ((Below.refl w.heap.size w).alloc (Nat.le_refl _) (.cells #[.slice p1 ps.length c1, .slice p2 ws.length c2] 28)).alloc (by simp) (.cells #[.int .i64 0, .int .i64 0] 34)
  have K0 := alloc_two w (.cells #[.slice p1 ps.length c1, .slice p2 ws.length c2] 28) (.cells #[.int .i64 0, .int .i64 0] 34)
  obtain ⟨wa, hwa⟩ : ∃ wa, wa = (w.alloc (.cells #[.slice p1 ps.length c1, .slice p2 ws.length c2] 28)).alloc (.cells #[.int .i64 0, .int .i64 0] 34) := ⟨_, rfl⟩
  rw [← hwa] at B1 K0
  have T1 := Lib.hid (show TBox wa w.heap.size (.slice p1 ps.length c1) (.slice p2 ws.length c2) from K0.1)
  have R1 := Lib.hid (show PBox wa (w.heap.size + 1) 0 0 from K0.2)
  have HBA := Lib.hid B1
  clear K0 B1
  obtain ⟨x0, x1⟩ := T1.out.cells
  have GC2 := Lib.hid (GC.out wa HBA.out)
  have D : Hid (goB ps ws zs a = (procB ps ws zs && (nodeB ps ws a && !leafB ps a.toNat))) := Lib.hid rfl
  have NV : Hid (goB ps ws zs a = false → goV ps ws zs a = zeroP) := Lib.hid goV_no
  cases hp : procB ps ws zs
  · have CV := Lib.hid (NV.out (by rw [D.out, hp, Bool.false_and]))
    have G3 : Hid (Calls Try.prog 61 #[.agg #[.slice p1 ps.length c1, .slice p2 ws.length c2], .slice q zs.length d] wa (Gives (.tuple #[noGame, .bool false]) wa)) := Lib.hid (GC2.out.mono (fun e w1 hh => by
      obtain ⟨hb, ⟨_, h2⟩ | ⟨h1, _⟩⟩ := hh
      · exact ⟨h2, hb⟩
      · rw [hp] at h1; cases h1))
    clear hp GC GC2 D NV NC EC
    unfold noGame at G3
    go_enter Try.func33, Try.ntmps33
    go_wp2_with fail
    rw [← hwa]
    clear hwa x0 x1
    refine G3.out.mono ?_
    rintro e w1 ⟨rfl, b1⟩
    have HB1 := HBA.out.trans (b1.mono HBA.out.size)
    have HB2 := Lib.hid (HB1.alloc HB1.size (.cells #[.slice none 0 0, .slice none 0 0, .slice none 0 0, .slice none 0 0] 60))
    have HR1 := R1.out.below b1 R1.out.lt
    have HR2 := HR1.below ((Below.refl w1.heap.size w1).alloc (Nat.le_refl _) (.cells #[.slice none 0 0, .slice none 0 0, .slice none 0 0, .slice none 0 0] 60)) HR1.lt
    obtain ⟨k0, k1, f0, f1⟩ := HR2.cells
    clear b1 HB1 HR1 HR2
    go_wp2_with fail
    refine bodyPost_ret (v := .tuple #[.agg #[.int .i64 0, .int .i64 0], .bool false]) (by simp [results, Try.results33, go_sem, k0, k1]) rfl ⟨by rw [CV.out]; rfl, ?_⟩
    exact (HB2.out.setCell (p := ⟨w.heap.size + 1, 0, none⟩) (by simp) _).setCell (p := ⟨w.heap.size + 1, 1, none⟩) (by simp) _
  · have PR := Lib.hid (procB_iff.1 hp)
    have G3 : Hid (Calls Try.prog 61 #[.agg #[.slice p1 ps.length c1, .slice p2 ws.length c2], .slice q zs.length d] wa (fun e w' => ∃ g, e = .returned (.tuple #[g, .bool true]) ∧ Game w' w'.heap.size g ps ws zs ∧ Below wa.heap.size wa w')) := Lib.hid (GC2.out.mono (fun e w1 hh => by
      obtain ⟨hb, ⟨h1, _⟩ | ⟨_, g, h2, h3⟩⟩ := hh
      · rw [hp] at h1; cases h1
      · exact ⟨g, h2, h3, hb⟩))
    rw [hp, Bool.true_and] at D
    clear hp GC GC2
    cases hnd : nodeB ps ws a
    · have CV := Lib.hid (NV.out (by rw [D.out, hnd, Bool.false_and]))
      rw [hnd] at NC
      clear hnd D NV EC
      go_enter Try.func33, Try.ntmps33
      go_wp2_with fail
      rw [← hwa]
      clear hwa x0 x1
      refine G3.out.mono ?_
      rintro e w1 ⟨g, rfl, hg, b1⟩
      have HB1 := HBA.out.trans (b1.mono HBA.out.size)
      obtain ⟨P1, C1, P2, C2, P3, N3, C3, P4, C4, rfl⟩ := hg.parts
      have HB2 := Lib.hid (HB1.alloc HB1.size (.cells #[.slice P1 ps.length C1, .slice P2 ws.length C2, .slice P3 N3 C3, .slice P4 zs.length C4] 60))
      have BB := (Below.refl w1.heap.size w1).alloc (Nat.le_refl _) (.cells #[.slice P1 ps.length C1, .slice P2 ws.length C2, .slice P3 N3 C3, .slice P4 zs.length C4] 60)
      have HR2 := Lib.hid ((R1.out.below b1 R1.out.lt).below BB (R1.out.below b1 R1.out.lt).lt)
      have HT2 := Lib.hid ((T1.out.below b1 T1.out.lt).below BB (T1.out.below b1 T1.out.lt).lt)
      obtain ⟨x0, x1⟩ := HT2.out.cells
      obtain ⟨wb, hwb⟩ : ∃ wb, wb = w1.alloc (.cells #[.slice P1 ps.length C1, .slice P2 ws.length C2, .slice P3 N3 C3, .slice P4 zs.length C4] 60) := ⟨_, rfl⟩
      rw [← hwb] at HB2 HR2 HT2
      clear b1 HB1 hg BB
      go_wp2_with fail
      rw [← hwb]
      clear hwb x0 x1
      refine (NC.out _ HB2.out).mono ?_
      rintro e w3 ⟨rfl, b3⟩
      have HB3 := Lib.hid (HB2.out.trans (b3.mono HB2.out.size))
      obtain ⟨k0, k1, f0, f1⟩ := (HR2.out.below b3 HR2.out.lt).cells
      clear b3
      go_wp2_with fail
      refine bodyPost_ret (v := .tuple #[.agg #[.int .i64 0, .int .i64 0], .bool false]) (by simp [results, Try.results33, go_sem, k0, k1]) rfl ⟨by rw [CV.out]; rfl, ?_⟩
      exact (HB3.out.setCell (p := ⟨w.heap.size + 1, 0, none⟩) (by simp) _).setCell (p := ⟨w.heap.size + 1, 1, none⟩) (by simp) _
    · obtain ⟨x, rfl, hx⟩ : ∃ x : Nat, a = (x : Int) ∧ x < ps.length := by
        unfold nodeB at hnd
        rw [Bool.and_eq_true, decide_eq_true_iff] at hnd
        exact ⟨a.toNat, by omega, by omega⟩
      have EC2 := Lib.hid (EC.out PR.out.good x hx)
      rw [hnd, Bool.true_and, Int.toNat_natCast] at D
      rw [hnd] at NC
      cases hl : leafB ps x
      · have GV : Hid (goV ps ws zs (x : Int) = .tuple #[.agg #[.int .i64 (goN ps ws zs x), .int .i64 (goD ps ws zs x)], .bool true]) := Lib.hid (by unfold goV; rw [if_pos (by rw [D.out, hl]; rfl), Int.toNat_natCast])
        rw [hl] at EC2
        have LE := Lib.hid (fun g w1 (hg : Game w1 w1.heap.size g ps ws zs) w2 (hb : Below w1.heap.size w1 w2) => show Calls Try.prog 62 #[g] w2 (NewInts (capW ps ws zs) w2) from leastI ps ws zs g w2 PR.out (hg.boxed hb))
        have GO := Lib.hid (fun g w1 (hg : Game w1 w1.heap.size g ps ws zs) w2 u2 (hb : Below w1.heap.size w1 w2) (hv : IntsV w2 w2.heap.size u2 (capW ps ws zs)) => goingI ps ws zs (capW ps ws zs) 0 g u2 w2 PR.out (capW_len _ _ _) (fun y hy => by have := capW_bd PR.out hy; omega) (hg.boxed hb) hv)
        have WO := Lib.hid (fun g w1 (hg : Game w1 w1.heap.size g ps ws zs) w2 (hb : Below w1.heap.size w1 w2) => show Calls Try.prog 63 #[g, .int .i64 x, .int .i64 (kidT ps (capW ps ws zs) x)] w2 (Gives (.agg #[.int .i64 (goN ps ws zs x), .int .i64 (goD ps ws zs x)]) w2) from worthI ps ws zs g x _ w2 PR.out hx (by have := kid_cap_bd PR.out hx; omega) (hg.boxed hb))
        have CL := Lib.hid (capW_len ps ws zs)
        have hn0 := PR.out.good.n1
        have GAT : Hid ((gonL ps (capW ps ws zs) ps.length).getD x 0 = kidT ps (capW ps ws zs) x) := Lib.hid (gonL_all hx)
        have GLN : Hid ((gonL ps (capW ps ws zs) ps.length).length = ps.length) := Lib.hid (gonL_len _ _ _)
        rw [GV.out]
        obtain ⟨N, hN⟩ : ∃ N, N = goN ps ws zs x := ⟨_, rfl⟩
        obtain ⟨E, hE⟩ : ∃ E, E = goD ps ws zs x := ⟨_, rfl⟩
        obtain ⟨C, hC⟩ : ∃ C, C = capW ps ws zs := ⟨_, rfl⟩
        rw [← hC] at LE GO WO CL GAT GLN
        obtain ⟨kk, hkk⟩ : ∃ kk, kk = kidT ps C x := ⟨_, rfl⟩
        rw [← hkk] at WO GAT
        rw [← hN, ← hE] at WO ⊢
        obtain ⟨L, hL⟩ : ∃ L, L = gonL ps C ps.length := ⟨_, rfl⟩
        rw [← hL] at GO GAT GLN
        clear hl hnd D NV EC GV hN hE hC hkk hL
        go_enter Try.func33, Try.ntmps33
        go_wp2_with fail
        rw [← hwa]
        clear hwa x0 x1
        refine G3.out.mono ?_
        rintro e w1 ⟨g, rfl, hg, b1⟩
        have HB1 := HBA.out.trans (b1.mono HBA.out.size)
        obtain ⟨P1, C1, P2, C2, P3, N3, C3, P4, C4, rfl⟩ := hg.parts
        have HG := Lib.hid hg
        have HB2 := Lib.hid (HB1.alloc HB1.size (.cells #[.slice P1 ps.length C1, .slice P2 ws.length C2, .slice P3 N3 C3, .slice P4 zs.length C4] 60))
        have BB := (Below.refl w1.heap.size w1).alloc (Nat.le_refl _) (.cells #[.slice P1 ps.length C1, .slice P2 ws.length C2, .slice P3 N3 C3, .slice P4 zs.length C4] 60)
        have HR2 := Lib.hid ((R1.out.below b1 R1.out.lt).below BB (R1.out.below b1 R1.out.lt).lt)
        have HT2 := Lib.hid ((T1.out.below b1 T1.out.lt).below BB (T1.out.below b1 T1.out.lt).lt)
        have GB2 := Lib.hid (show GBox (w1.alloc (.cells #[.slice P1 ps.length C1, .slice P2 ws.length C2, .slice P3 N3 C3, .slice P4 zs.length C4] 60)) w1.heap.size (.slice P1 ps.length C1) (.slice P2 ws.length C2) (.slice P3 N3 C3) (.slice P4 zs.length C4) from alloc_heap w1 _)
        have BW2 := Lib.hid BB
        have WW := Lib.hid (show w.heap.size + 1 < w1.heap.size from (R1.out.below b1 R1.out.lt).lt)
        obtain ⟨x0, x1⟩ := HT2.out.cells
        obtain ⟨wb, hwb⟩ : ∃ wb, wb = w1.alloc (.cells #[.slice P1 ps.length C1, .slice P2 ws.length C2, .slice P3 N3 C3, .slice P4 zs.length C4] 60) := ⟨_, rfl⟩
        rw [← hwb] at HB2 HR2 HT2 GB2 BW2
        clear b1 HB1 hg BB
        go_wp2_with fail
        rw [← hwb]
        clear hwb x0 x1
        refine (NC.out _ HB2.out).mono ?_
        rintro e w3 ⟨rfl, b3⟩
        have HB3 := Lib.hid (HB2.out.trans (b3.mono HB2.out.size))
        have HR3 := Lib.hid (HR2.out.below b3 HR2.out.lt)
        have HT3 := Lib.hid (HT2.out.below b3 HT2.out.lt)
        have GB3 := Lib.hid (GB2.out.below b3 GB2.out.lt)
        have BW3 := Lib.hid (BW2.out.trans (b3.mono BW2.out.size))
        obtain ⟨x0, x1⟩ := HT3.out.cells
        clear b3 HB2 HR2 HT2 GB2 BW2
        go_wp2_with fail
        clear x0 x1
        refine (EC2.out _ HB3.out).mono ?_
        rintro e w4 ⟨rfl, b4⟩
        have HB4 := Lib.hid (HB3.out.trans (b4.mono HB3.out.size))
        have HR4 := Lib.hid (HR3.out.below b4 HR3.out.lt)
        have GB4 := Lib.hid (GB3.out.below b4 GB3.out.lt)
        have BW4 := Lib.hid (BW3.out.trans (b4.mono BW3.out.size))
        clear b4 HB3 HR3 HT3 GB3 BW3
        have KC : Hid (∀ w', Hid (Below w4.heap.size w4 w') → (w'.cell? ⟨w1.heap.size, 0, none⟩ = some (.slice P1 ps.length C1) ∧ w'.cell? ⟨w1.heap.size, 1, none⟩ = some (.slice P2 ws.length C2) ∧ w'.cell? ⟨w1.heap.size, 2, none⟩ = some (.slice P3 N3 C3) ∧ w'.cell? ⟨w1.heap.size, 3, none⟩ = some (.slice P4 zs.length C4)) ∧ w'.cell? ⟨w.heap.size + 1, 0, none⟩ = some (.int .i64 0) ∧ w'.cell? ⟨w.heap.size + 1, 1, none⟩ = some (.int .i64 0) ∧ w'.frozen? ⟨w.heap.size + 1, 0, none⟩ = false ∧ w'.frozen? ⟨w.heap.size + 1, 1, none⟩ = false) := Lib.hid (fun w' hb => ⟨(GB4.out.below hb.out GB4.out.lt).cells, (HR4.out.below hb.out HR4.out.lt).cells⟩)
        have HD : Hid (Below w4.heap.size w4 w4.drew) := Lib.hid (below_drew (Below.refl _ _))
        have LE2 := Lib.hid (fun w' (hb : Hid (Below w4.heap.size w4 w')) => LE.out _ w1 HG.out w' (BW4.out.trans (hb.out.mono BW4.out.size)))
        have GO2 := Lib.hid (fun w' u (hb : Hid (Below w4.heap.size w4 w')) hv => GO.out _ w1 HG.out w' u (BW4.out.trans (hb.out.mono BW4.out.size)) hv)
        have WO2 := Lib.hid (fun w' (hb : Hid (Below w4.heap.size w4 w')) => WO.out _ w1 HG.out w' (BW4.out.trans (hb.out.mono BW4.out.size)))
        obtain ⟨⟨y0, y1, y2, y3⟩, y4, y5, y6, y7⟩ := KC.out w4 (Lib.hid (Below.refl _ _))
        have R4L := Lib.hid HR4.out.lt
        clear LE GO WO HG GB4 HR4 BW4 G3 NC EC2 R1 T1 HBA PR
        have i0 : (0 : Int) ≤ (x : Int) := by omega
        have i1 : (x : Int) < (ps.length : Int) := by omega
        go_upto_region 4 with fail
        refine wp_region_held_drew (S := fun w' => w'.cell? ⟨w1.heap.size, 0, none⟩ = some (.slice P1 ps.length C1) ∧ w'.cell? ⟨w1.heap.size, 1, none⟩ = some (.slice P2 ws.length C2) ∧ w'.cell? ⟨w1.heap.size, 2, none⟩ = some (.slice P3 N3 C3) ∧ w'.cell? ⟨w1.heap.size, 3, none⟩ = some (.slice P4 zs.length C4)) (by kernel_rfl) (KC.out _ HD).1 (fun hHeld => ?_)
        refine wpAnyH_take (i := 0) (oi := { dst := some 30, op := Op.load 60 (Operand.tmp 8), type := 60, pos := "l4_stopping.go:130", after := #[], guard := none }) (v := ?_) rfl (by kernel_rfl) (by kernel_rfl) (by kernel_rfl) (fun _ _ _ h => h) (Or.inl ⟨by rfl, ?_⟩) (by assumption) ?_
        rotate_left 1
        · intro wq hSw; (try dsimp only at hSw); first | (go_simp; done) | (go_simp; with_reducible rfl)
        (try simp only [Act.put, List.setIfInBounds_toArray, List.set_cons_zero, List.set_cons_succ])
        refine wpAnyH_take (i := 1) (oi := { dst := some 31, op := Op.move (Operand.tmp 2), type := 3, pos := "l4_stopping.go:130", after := #[], guard := none }) (v := ?_) rfl (by kernel_rfl) (by kernel_rfl) (by kernel_rfl) (fun _ _ _ h => h) (Or.inl ⟨by rfl, ?_⟩) (by assumption) ?_
        rotate_left 1
        · intro wq hSw; (try dsimp only at hSw); first | (go_simp; done) | (go_simp; with_reducible rfl)
        (try simp only [Act.put, List.setIfInBounds_toArray, List.set_cons_zero, List.set_cons_succ])
        refine wpAnyH_take (i := 2) (oi := { dst := some 32, op := Op.load 60 (Operand.tmp 8), type := 60, pos := "l4_stopping.go:130", after := #[], guard := none }) (v := ?_) rfl (by kernel_rfl) (by kernel_rfl) (by kernel_rfl) (fun _ _ _ h => h) (Or.inl ⟨by rfl, ?_⟩) (by assumption) ?_
        rotate_left 1
        · intro wq hSw; (try dsimp only at hSw); first | (go_simp; done) | (go_simp; with_reducible rfl)
        (try simp only [Act.put, List.setIfInBounds_toArray, List.set_cons_zero, List.set_cons_succ])
        refine wpAnyH_take (i := 3) (oi := { dst := some 33, op := Op.load 60 (Operand.tmp 8), type := 60, pos := "l4_stopping.go:130", after := #[], guard := none }) (v := ?_) rfl (by kernel_rfl) (by kernel_rfl) (by kernel_rfl) (fun _ _ _ h => h) (Or.inl ⟨by rfl, ?_⟩) (by assumption) ?_
        rotate_left 1
        · intro wq hSw; (try dsimp only at hSw); first | (go_simp; done) | (go_simp; with_reducible rfl)
        (try simp only [Act.put, List.setIfInBounds_toArray, List.set_cons_zero, List.set_cons_succ])
        refine wpAnyH_take (i := 6) (oi := { dst := some 36, op := Op.move (Operand.tmp 2), type := 3, pos := "l4_stopping.go:130", after := #[], guard := none }) (v := ?_) rfl (by kernel_rfl) (by kernel_rfl) (by kernel_rfl) (fun _ _ _ h => h) (Or.inl ⟨by rfl, ?_⟩) (by assumption) ?_
        rotate_left 1
        · intro wq hSw; (try dsimp only at hSw); first | (go_simp; done) | (go_simp; with_reducible rfl)
        (try simp only [Act.put, List.setIfInBounds_toArray, List.set_cons_zero, List.set_cons_succ])
        refine wpAnyH_ready (rs := [4]) (by kernel_rfl) (by simp) ?_
        refine AllReadyH.cons (o := { dst := some 34, op := Op.call { callee := Callee.value (Operand.func 62), args := #[Operand.tmp 33], argTypes := #[60] }, type := 22, pos := "l4_stopping.go:130", after := #[{ on := 3, ground := Ground.data }], guard := none }) rfl (fun K hK => ?_) AllReadyH.nil
        go_simp
        refine (LE2.out _ HD).mono ?_
        rintro e w7 ⟨u7, rfl, o7, b7⟩
        have HB7 : Hid (Below w4.heap.size w4 w7) := Lib.hid (HD.out.trans (b7.mono HD.out.size))
        have IV7 := Lib.hid o7.intsV
        clear o7 b7
        go_wp2_with fail
        refine hK.out _ _ ((KC.out _ HB7).1) (fun hHeld => ?_)
        (try simp only [Act.put, List.setIfInBounds_toArray, List.set_cons_zero, List.set_cons_succ])
        refine wpAnyH_ready (rs := [5]) (by kernel_rfl) (by simp) ?_
        refine AllReadyH.cons (o := { dst := some 35, op := Op.call { callee := Callee.value (Operand.func 68), args := #[Operand.tmp 32, Operand.tmp 34], argTypes := #[60, 22] }, type := 22, pos := "l4_stopping.go:130", after := #[{ on := 2, ground := Ground.data }, { on := 4, ground := Ground.data }, { on := 4, ground := Ground.chain }], guard := none }) rfl (fun K hK => ?_) AllReadyH.nil
        go_simp
        refine (GO2.out _ _ HB7 IV7.out).mono ?_
        rintro e w8 ⟨u8, rfl, o8, b8⟩
        have HB8 : Hid (Below w4.heap.size w4 w8) := Lib.hid (HB7.out.trans (b8.mono HB7.out.size))
        obtain ⟨g8, c8, rfl, hg8l, hg8⟩ := o8.shape (by rw [GLN.out]; exact hn0)
        have hc8 := o8.cellGet (j := x) (by rw [GLN.out]; exact hx)
        rw [GAT.out] at hc8
        rw [GLN.out]
        have hgr : g8 ≠ w.heap.size + 1 := by have h1 := HB7.out.size; have h2 := R4L.out; omega
        clear o8 b8
        go_wp2_with fail
        refine hK.out _ _ ((KC.out _ HB8).1) (fun hHeld => ?_)
        (try simp only [Act.put, List.setIfInBounds_toArray, List.set_cons_zero, List.set_cons_succ])
        refine held_more (S' := fun w' => w'.cell? ⟨w1.heap.size, 0, none⟩ = some (.slice P1 ps.length C1) ∧ w'.cell? ⟨w1.heap.size, 1, none⟩ = some (.slice P2 ws.length C2) ∧ w'.cell? ⟨w1.heap.size, 2, none⟩ = some (.slice P3 N3 C3) ∧ w'.cell? ⟨w1.heap.size, 3, none⟩ = some (.slice P4 zs.length C4) ∧ w'.cell? ⟨g8, x, none⟩ = some (.int .i64 kk)) (fun w' h => ⟨h.1, h.2.1, h.2.2.1, h.2.2.2.1⟩) _ _ _ _ ?_
        have hHeld2 : (fun w' : World => w'.cell? ⟨w1.heap.size, 0, none⟩ = some (.slice P1 ps.length C1) ∧ w'.cell? ⟨w1.heap.size, 1, none⟩ = some (.slice P2 ws.length C2) ∧ w'.cell? ⟨w1.heap.size, 2, none⟩ = some (.slice P3 N3 C3) ∧ w'.cell? ⟨w1.heap.size, 3, none⟩ = some (.slice P4 zs.length C4) ∧ w'.cell? ⟨g8, x, none⟩ = some (.int .i64 kk)) w8 := ⟨(KC.out _ HB8).1.1, (KC.out _ HB8).1.2.1, (KC.out _ HB8).1.2.2.1, (KC.out _ HB8).1.2.2.2, hc8⟩
        refine wpAnyH_take (i := 7) (oi := { dst := some 37, op := Op.indexAddr 22 (Operand.tmp 35) (Operand.tmp 36), type := 0, pos := "l4_stopping.go:130", after := #[{ on := 5, ground := Ground.data }, { on := 6, ground := Ground.data }], guard := none }) (v := ?_) rfl (by kernel_rfl) (by kernel_rfl) (by kernel_rfl) (fun _ _ _ h => h) (Or.inl ⟨by rfl, ?_⟩) (by assumption) ?_
        rotate_left 1
        · intro wq hSw; (try dsimp only at hSw); first | (go_simp; done) | (go_simp; with_reducible rfl)
        (try simp only [Act.put, List.setIfInBounds_toArray, List.set_cons_zero, List.set_cons_succ])
        refine wpAnyH_take (i := 8) (oi := { dst := some 38, op := Op.load 3 (Operand.tmp 37), type := 3, pos := "l4_stopping.go:130", after := #[{ on := 7, ground := Ground.data }], guard := none }) (v := ?_) rfl (by kernel_rfl) (by kernel_rfl) (by kernel_rfl) (fun _ _ _ h => h) (Or.inl ⟨by rfl, ?_⟩) (by assumption) ?_
        rotate_left 1
        · intro wq hSw; (try dsimp only at hSw); first | (go_simp; done) | (go_simp; with_reducible rfl)
        (try simp only [Act.put, List.setIfInBounds_toArray, List.set_cons_zero, List.set_cons_succ])
        refine wpAnyH_ready (rs := [9]) (by kernel_rfl) (by simp) ?_
        refine AllReadyH.cons (o := { dst := some 39, op := Op.call { callee := Callee.value (Operand.func 63), args := #[Operand.tmp 30, Operand.tmp 31, Operand.tmp 38], argTypes := #[60, 3, 3] }, type := 34, pos := "l4_stopping.go:130", after := #[{ on := 0, ground := Ground.data }, { on := 1, ground := Ground.data }, { on := 8, ground := Ground.data }, { on := 5, ground := Ground.chain }], guard := none }) rfl (fun K hK => ?_) AllReadyH.nil
        go_simp
        refine (WO2.out _ HB8).mono ?_
        rintro e w9 ⟨rfl, b9⟩
        have HB9 : Hid (Below w4.heap.size w4 w9) := Lib.hid (HB8.out.trans (b9.mono HB8.out.size))
        have hc9 := (b9.cell (p := ⟨g8, x, none⟩) hg8).trans hc8
        clear b9
        go_wp2_with fail
        refine hK.out _ _ (⟨(KC.out _ HB9).1.1, (KC.out _ HB9).1.2.1, (KC.out _ HB9).1.2.2.1, (KC.out _ HB9).1.2.2.2, hc9⟩) (fun hHeld => ?_)
        (try simp only [Act.put, List.setIfInBounds_toArray, List.set_cons_zero, List.set_cons_succ])
        obtain ⟨_, r0, r1, r2, r3⟩ := KC.out w9 HB9
        have hgR : w1.heap.size ≠ w.heap.size + 1 := by have := WW.out; omega
        refine wpAnyH_ready (rs := [10]) (by kernel_rfl) (by simp) ?_
        refine AllReadyH.cons (o := { dst := none, op := Op.store 34 (Operand.tmp 6) (Operand.tmp 39), type := 0, pos := "l4_stopping.go:130", after := #[{ on := 9, ground := Ground.data }, { on := 9, ground := Ground.chain }, { on := 0, ground := Ground.phase }, { on := 1, ground := Ground.phase }, { on := 2, ground := Ground.phase }, { on := 3, ground := Ground.phase }, { on := 4, ground := Ground.phase }, { on := 5, ground := Ground.phase }, { on := 6, ground := Ground.phase }, { on := 7, ground := Ground.phase }, { on := 8, ground := Ground.phase }, { on := 9, ground := Ground.phase }], guard := none }) rfl (fun K hK => ?_) AllReadyH.nil
        go_simp
        refine hK.out _ _ ⟨(far2 hgR).trans (KC.out _ HB9).1.1, (far2 hgR).trans (KC.out _ HB9).1.2.1, (far2 hgR).trans (KC.out _ HB9).1.2.2.1, (far2 hgR).trans (KC.out _ HB9).1.2.2.2, (far2 hgr).trans hc9⟩ (fun hHeld => ?_)
        (try simp only [Act.put, List.setIfInBounds_toArray, List.set_cons_zero, List.set_cons_succ])
        refine wpAnyH_take (i := 11) (oi := { dst := some 7, op := Op.assign (Operand.const (Value.bool true)), type := 4, pos := "l4_stopping.go:130", after := #[{ on := 10, ground := Ground.chain }, { on := 0, ground := Ground.phase }, { on := 1, ground := Ground.phase }, { on := 2, ground := Ground.phase }, { on := 3, ground := Ground.phase }, { on := 4, ground := Ground.phase }, { on := 5, ground := Ground.phase }, { on := 6, ground := Ground.phase }, { on := 7, ground := Ground.phase }, { on := 8, ground := Ground.phase }, { on := 9, ground := Ground.phase }, { on := 10, ground := Ground.phase }], guard := none }) (v := ?_) rfl (by kernel_rfl) (by kernel_rfl) (by kernel_rfl) (fun _ _ _ h => h) (Or.inl ⟨by rfl, ?_⟩) (by assumption) ?_
        rotate_left 1
        · intro wq hSw; (try dsimp only at hSw); first | (go_simp; done) | (go_simp; with_reducible rfl)
        (try simp only [Act.put, List.setIfInBounds_toArray, List.set_cons_zero, List.set_cons_succ])
        refine wpAnyH_done (by kernel_rfl) ?_ _
        have HBF := Lib.hid (HB4.out.trans (HB9.out.mono HB4.out.size))
        go_wp2_with fail
        refine bodyPost_ret (v := .tuple #[.agg #[.int .i64 N, .int .i64 E], .bool true]) (by simp [results, Try.results33, go_sem, *]) rfl ⟨rfl, ?_⟩
        exact (HBF.out.setCell (p := ⟨w.heap.size + 1, 0, none⟩) (by simp) _).setCell (p := ⟨w.heap.size + 1, 1, none⟩) (by simp) _
      · have CV := Lib.hid (NV.out (by rw [D.out, hl]; rfl))
        rw [hl] at EC2
        clear hl hnd D NV EC
        go_enter Try.func33, Try.ntmps33
        go_wp2_with fail
        rw [← hwa]
        clear hwa x0 x1
        refine G3.out.mono ?_
        rintro e w1 ⟨g, rfl, hg, b1⟩
        have HB1 := HBA.out.trans (b1.mono HBA.out.size)
        obtain ⟨P1, C1, P2, C2, P3, N3, C3, P4, C4, rfl⟩ := hg.parts
        have HB2 := Lib.hid (HB1.alloc HB1.size (.cells #[.slice P1 ps.length C1, .slice P2 ws.length C2, .slice P3 N3 C3, .slice P4 zs.length C4] 60))
        have BB := (Below.refl w1.heap.size w1).alloc (Nat.le_refl _) (.cells #[.slice P1 ps.length C1, .slice P2 ws.length C2, .slice P3 N3 C3, .slice P4 zs.length C4] 60)
        have HR2 := Lib.hid ((R1.out.below b1 R1.out.lt).below BB (R1.out.below b1 R1.out.lt).lt)
        have HT2 := Lib.hid ((T1.out.below b1 T1.out.lt).below BB (T1.out.below b1 T1.out.lt).lt)
        obtain ⟨x0, x1⟩ := HT2.out.cells
        obtain ⟨wb, hwb⟩ : ∃ wb, wb = w1.alloc (.cells #[.slice P1 ps.length C1, .slice P2 ws.length C2, .slice P3 N3 C3, .slice P4 zs.length C4] 60) := ⟨_, rfl⟩
        rw [← hwb] at HB2 HR2 HT2
        clear b1 HB1 hg BB
        go_wp2_with fail
        rw [← hwb]
        clear hwb x0 x1
        refine (NC.out _ HB2.out).mono ?_
        rintro e w3 ⟨rfl, b3⟩
        have HB3 := Lib.hid (HB2.out.trans (b3.mono HB2.out.size))
        have HR3 := Lib.hid (HR2.out.below b3 HR2.out.lt)
        have HT3 := Lib.hid (HT2.out.below b3 HT2.out.lt)
        obtain ⟨x0, x1⟩ := HT3.out.cells
        clear b3
        go_wp2_with fail
        clear x0 x1
        refine (EC2.out _ HB3.out).mono ?_
        rintro e w4 ⟨rfl, b4⟩
        have HB4 := Lib.hid (HB3.out.trans (b4.mono HB3.out.size))
        obtain ⟨k0, k1, f0, f1⟩ := (HR3.out.below b4 HR3.out.lt).cells
        clear b4
        go_wp2_with fail
        refine bodyPost_ret (v := .tuple #[.agg #[.int .i64 0, .int .i64 0], .bool false]) (by simp [results, Try.results33, go_sem, k0, k1]) rfl ⟨by rw [CV.out]; rfl, ?_⟩
        exact (HB4.out.setCell (p := ⟨w.heap.size + 1, 0, none⟩) (by simp) _).setCell (p := ⟨w.heap.size + 1, 1, none⟩) (by simp) _
end Go.Proofs.Ytagljebfbacdhaa
