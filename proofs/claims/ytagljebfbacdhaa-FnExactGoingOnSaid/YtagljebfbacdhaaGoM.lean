/- GoingOn in the model. -/
import Derived.Test.YtagljebfbacdhaaGoI
import Derived.Test.YtagljebfbacdhaaHeldMore
import Derived.Deep.RegionHeld3
import Derived.Test.YtagljebfbacdhaaCapM
import Derived.Test.YtagljebfbacdhaaKid4
import Derived.Test.YtagljebfbacdhaaFracC
import Derived.Test.YtagljebfbacdhaaPay4
namespace Go.Proofs.Ytagljebfbacdhaa
open Go.RowKit
set_option linter.unusedVariables false
set_option maxRecDepth 100000 in
set_option maxHeartbeats 8000000 in
theorem goM (ps ws zs : List Int) (a : Int) (v u : Value) (w : World) (hn1 : zs.length ≤ 1048576) (h : TreeV w w.heap.size v ps ws) (hu : IntsV w w.heap.size u zs) :
    Calls Try.prog 32 #[v, u, .int .i64 a] w (Gives (goV ps ws zs a) w) := by
  have PC := Lib.hid (fun w' (hb : Below w.heap.size w w') => pays4 ps ws zs v u w' hn1 (h.boxed hb) ((hu.below hb).more hb.size))
  have NC := Lib.hid (fun w' (hb : Below w.heap.size w w') => nodeS ps ws v a w' (h.boxed hb))
  have CPS := Lib.hid (fun (pr : Proc ps ws zs) w' (hb : Below w.heap.size w w') => show Calls Try.prog 58 #[v, u] w' (NewInts (capW ps ws zs) w') from caps4S ps ws zs v u w' pr (h.boxed hb) ((hu.below hb).more hb.size))
  have KDS := Lib.hid (fun (pr : Proc ps ws zs) (x : Nat) (hx : x < ps.length) w' u2 (hb : Below w.heap.size w w') (hv : IntsV w' w'.heap.size u2 (capW ps ws zs)) => kids4S ps ws (capW ps ws zs) v u2 x w' pr.good hx (capW_len _ _ _) (fun y hy => by have := capW_bd pr hy; omega) (h.boxed hb) hv)
  have SUS := Lib.hid (fun (pr : Proc ps ws zs) w' (hb : Below w.heap.size w w') => sumsS ps ws v w' pr.good (h.boxed hb))
  obtain ⟨v1, v2, rfl, ⟨p1, c1, rfl, _, _, _, _⟩, ⟨p2, c2, rfl, l2, m2, _, i2⟩⟩ := h
  have W2 := Lib.hid i2
  obtain ⟨q, d, rfl, _⟩ := hu
  clear i2 m2 l2
  have B1 := ((Below.refl w.heap.size w).alloc (Nat.le_refl _) (.cells #[.slice p1 ps.length c1, .slice p2 ws.length c2] 28)).alloc (by simp) (.cells #[.int .i64 0, .int .i64 0] 34)
  have K0 := alloc_two w (.cells #[.slice p1 ps.length c1, .slice p2 ws.length c2] 28) (.cells #[.int .i64 0, .int .i64 0] 34)
  obtain ⟨wa, hwa⟩ : ∃ wa, wa = (w.alloc (.cells #[.slice p1 ps.length c1, .slice p2 ws.length c2] 28)).alloc (.cells #[.int .i64 0, .int .i64 0] 34) := ⟨_, rfl⟩
  rw [← hwa] at B1 K0
  have T1 := Lib.hid (show TBox wa w.heap.size (.slice p1 ps.length c1) (.slice p2 ws.length c2) from K0.1)
  have R1 := Lib.hid (show PBox wa (w.heap.size + 1) 0 0 from K0.2)
  have HBA := Lib.hid B1
  clear K0 B1
  obtain ⟨x0, x1⟩ := T1.out.cells
  have D : Hid (goB ps ws zs a = (procB ps ws zs && (nodeB ps ws a && !leafB ps a.toNat))) := Lib.hid rfl
  have NV : Hid (goB ps ws zs a = false → goV ps ws zs a = zeroP) := Lib.hid goV_no
  cases hp : procB ps ws zs
  · have CV := Lib.hid (NV.out (by rw [D.out, hp, Bool.false_and]))
    rw [hp] at PC
    clear hp D NV NC CPS KDS SUS
    go_enter Try.func32, Try.ntmps32
    go_wp2_with fail
    rw [← hwa]
    clear hwa x0 x1
    refine (PC.out _ HBA.out).mono ?_
    rintro e w1 ⟨rfl, b1⟩
    have HB1 := Lib.hid (HBA.out.trans (b1.mono HBA.out.size))
    obtain ⟨k0, k1, f0, f1⟩ := (R1.out.below b1 R1.out.lt).cells
    clear b1
    go_wp2_with fail
    refine bodyPost_ret (v := .tuple #[.agg #[.int .i64 0, .int .i64 0], .bool false]) (by simp [results, Try.results32, go_sem, k0, k1]) rfl ⟨by rw [CV.out]; rfl, ?_⟩
    exact (HB1.out.setCell (p := ⟨w.heap.size + 1, 0, none⟩) (by simp) _).setCell (p := ⟨w.heap.size + 1, 1, none⟩) (by simp) _
  · have PR := Lib.hid (procB_iff.1 hp)
    rw [hp, Bool.true_and] at D
    rw [hp] at PC
    clear hp
    cases hnd : nodeB ps ws a
    · have CV := Lib.hid (NV.out (by rw [D.out, hnd, Bool.false_and]))
      rw [hnd] at NC
      clear hnd D NV CPS KDS SUS
      go_enter Try.func32, Try.ntmps32
      go_wp2_with fail
      rw [← hwa]
      clear hwa x0 x1
      refine (PC.out _ HBA.out).mono ?_
      rintro e w1 ⟨rfl, b1⟩
      have HB1 := Lib.hid (HBA.out.trans (b1.mono HBA.out.size))
      have HR1 := Lib.hid (R1.out.below b1 R1.out.lt)
      obtain ⟨y0, y1⟩ := (T1.out.below b1 T1.out.lt).cells
      clear b1
      go_wp2_with fail
      refine (NC.out _ HB1.out).mono ?_
      rintro e w3 ⟨rfl, b3⟩
      have HB3 := Lib.hid (HB1.out.trans (b3.mono HB1.out.size))
      obtain ⟨k0, k1, f0, f1⟩ := (HR1.out.below b3 HR1.out.lt).cells
      clear b3
      go_wp2_with fail
      refine bodyPost_ret (v := .tuple #[.agg #[.int .i64 0, .int .i64 0], .bool false]) (by simp [results, Try.results32, go_sem, k0, k1]) rfl ⟨by rw [CV.out]; rfl, ?_⟩
      exact (HB3.out.setCell (p := ⟨w.heap.size + 1, 0, none⟩) (by simp) _).setCell (p := ⟨w.heap.size + 1, 1, none⟩) (by simp) _
    · obtain ⟨x, rfl, hx⟩ : ∃ x : Nat, a = (x : Int) ∧ x < ps.length := by
        unfold nodeB at hnd
        rw [Bool.and_eq_true, decide_eq_true_iff] at hnd
        exact ⟨a.toNat, by omega, by omega⟩
      rw [hnd, Bool.true_and, Int.toNat_natCast] at D
      rw [hnd] at NC
      have gd := PR.out.good
      have hn0 := gd.n1
      have hn24 := gd.n24
      have NW := Lib.hid gd.nw
      have we := gd.end_iff hx
      have wd := gd.w_bd hx
      obtain ⟨b, off, hq, hb, hc⟩ := W2.out.get (i := x) (by have := NW.out; omega)
      subst hq
      have i0 : (0 : Int) ≤ (x : Int) := by omega
      have i1 : (x : Int) < (ps.length : Int) := by omega
      have i2 : (x : Int) < (ws.length : Int) := by have := NW.out; omega
      obtain ⟨wx, hwx⟩ : ∃ wx, wx = ws.getD x 0 := ⟨_, rfl⟩
      rw [← hwx] at hc we wd
      cases hl : leafB ps x
      · have GV : Hid (goV ps ws zs (x : Int) = .tuple #[.agg #[.int .i64 (goN ps ws zs x), .int .i64 (goD ps ws zs x)], .bool true]) := Lib.hid (by unfold goV; rw [if_pos (by rw [D.out, hl]; rfl), Int.toNat_natCast])
        have h0 : ¬ wx > 0 := fun h => by rw [we.1 h] at hl; cases hl
        have CP2 := Lib.hid (CPS.out PR.out)
        have KD2 := Lib.hid (KDS.out PR.out x hx)
        have SU2 := Lib.hid (SUS.out PR.out)
        have CL := Lib.hid (capW_len ps ws zs)
        have SL : Hid ((sumsT ps ws).length = ps.length) := Lib.hid (sumsT_len gd.nw)
        have RC : Hid (∀ w', Calls Try.prog 60 #[.int .i64 (kidT ps (capW ps ws zs) x), .int .i64 ((sumsT ps ws).getD x 0)] w' (Gives (.agg #[.int .i64 (goN ps ws zs x), .int .i64 (goD ps ws zs x)]) w')) := Lib.hid (fun w' => by
          have h1 := kid_cap_bd PR.out hx
          have h2 := sums_pos gd x hx
          have h3 := (sumsT_bd gd x hx).2
          exact cutS _ _ w' (by omega) (by omega))
        rw [GV.out]
        obtain ⟨N, hN⟩ : ∃ N, N = goN ps ws zs x := ⟨_, rfl⟩
        obtain ⟨E, hE⟩ : ∃ E, E = goD ps ws zs x := ⟨_, rfl⟩
        obtain ⟨kk, hkk⟩ : ∃ kk, kk = kidT ps (capW ps ws zs) x := ⟨_, rfl⟩
        rw [← hkk] at KD2 RC
        obtain ⟨C, hC⟩ : ∃ C, C = capW ps ws zs := ⟨_, rfl⟩
        rw [← hC] at CP2 KD2 CL
        obtain ⟨S, hS⟩ : ∃ S, S = sumsT ps ws := ⟨_, rfl⟩
        rw [← hS] at SU2 SL RC
        obtain ⟨sx, hsx⟩ : ∃ sx, sx = S.getD x 0 := ⟨_, rfl⟩
        rw [← hsx] at RC
        rw [← hN, ← hE] at RC ⊢
        have HSX := Lib.hid hsx
        clear hl hnd D NV GV hN hE hC hkk hS hsx CPS KDS SUS gd we wd PR hwx
        go_enter Try.func32, Try.ntmps32
        go_wp2_with fail
        rw [← hwa]
        clear hwa x0 x1
        refine (PC.out _ HBA.out).mono ?_
        rintro e w1 ⟨rfl, b1⟩
        have HB1 := Lib.hid (HBA.out.trans (b1.mono HBA.out.size))
        have HR1 := Lib.hid (R1.out.below b1 R1.out.lt)
        have HT1 := Lib.hid (T1.out.below b1 T1.out.lt)
        obtain ⟨y0, y1⟩ := HT1.out.cells
        clear b1
        go_wp2_with fail
        refine (NC.out _ HB1.out).mono ?_
        rintro e w4 ⟨rfl, b4⟩
        have HB4 := Lib.hid (HB1.out.trans (b4.mono HB1.out.size))
        have HR4 := Lib.hid (HR1.out.below b4 HR1.out.lt)
        have HT4 := Lib.hid (HT1.out.below b4 HT1.out.lt)
        have hcw : w4.cell? ⟨b, off + x, none⟩ = some (.int .i64 wx) := by rw [HB4.out.cell (p := ⟨b, off + x, none⟩) hb]; exact hc
        have KC : Hid (∀ w', Hid (Below w4.heap.size w4 w') → (w'.cell? ⟨w.heap.size, 0, none⟩ = some (.slice p1 ps.length c1) ∧ w'.cell? ⟨w.heap.size, 1, none⟩ = some (.slice (some ⟨b, off, none⟩) ws.length c2)) ∧ w'.cell? ⟨w.heap.size + 1, 0, none⟩ = some (.int .i64 0) ∧ w'.cell? ⟨w.heap.size + 1, 1, none⟩ = some (.int .i64 0) ∧ w'.frozen? ⟨w.heap.size + 1, 0, none⟩ = false ∧ w'.frozen? ⟨w.heap.size + 1, 1, none⟩ = false) := Lib.hid (fun w' hb => ⟨(HT4.out.below hb.out HT4.out.lt).cells, (HR4.out.below hb.out HR4.out.lt).cells⟩)
        have HD : Hid (Below w4.heap.size w4 w4.drew) := Lib.hid (below_drew (Below.refl _ _))
        have CP3 := Lib.hid (fun w' (hb : Hid (Below w4.heap.size w4 w')) => CP2.out w' (HB4.out.trans (hb.out.mono HB4.out.size)))
        have KD3 := Lib.hid (fun w' u (hb : Hid (Below w4.heap.size w4 w')) hv => KD2.out w' u (HB4.out.trans (hb.out.mono HB4.out.size)) hv)
        have SU3 := Lib.hid (fun w' (hb : Hid (Below w4.heap.size w4 w')) => SU2.out w' (HB4.out.trans (hb.out.mono HB4.out.size)))
        have R4L := Lib.hid HR4.out.lt
        clear b4 HB1 HR1 HT1 y0 y1 CP2 KD2 SU2 PC NC T1 R1 HBA hc
        obtain ⟨⟨y0, y1⟩, y4, y5, y6, y7⟩ := KC.out w4 (Lib.hid (Below.refl _ _))
        go_upto_region 3 with fail
        refine wp_region_held_drew (S := fun w' => w'.cell? ⟨w.heap.size, 0, none⟩ = some (.slice p1 ps.length c1) ∧ w'.cell? ⟨w.heap.size, 1, none⟩ = some (.slice (some ⟨b, off, none⟩) ws.length c2)) (by kernel_rfl) (KC.out _ HD).1 (fun hHeld => ?_)
        refine wpAnyH_take (i := 0) (oi := { dst := some 27, op := Op.load 28 (Operand.tmp 3), type := 28, pos := "l4_stopping.go:105", after := #[], guard := none }) (v := ?_) rfl (by kernel_rfl) (by kernel_rfl) (by kernel_rfl) (fun _ _ _ h => h) (Or.inl ⟨by rfl, ?_⟩) (by assumption) ?_
        rotate_left 1
        · intro wq hSw; (try dsimp only at hSw); first | (go_simp; done) | (go_simp; with_reducible rfl)
        (try simp only [Act.put, List.setIfInBounds_toArray, List.set_cons_zero, List.set_cons_succ])
        refine wpAnyH_take (i := 1) (oi := { dst := some 28, op := Op.load 28 (Operand.tmp 3), type := 28, pos := "l4_stopping.go:105", after := #[], guard := none }) (v := ?_) rfl (by kernel_rfl) (by kernel_rfl) (by kernel_rfl) (fun _ _ _ h => h) (Or.inl ⟨by rfl, ?_⟩) (by assumption) ?_
        rotate_left 1
        · intro wq hSw; (try dsimp only at hSw); first | (go_simp; done) | (go_simp; with_reducible rfl)
        (try simp only [Act.put, List.setIfInBounds_toArray, List.set_cons_zero, List.set_cons_succ])
        refine wpAnyH_take (i := 2) (oi := { dst := some 29, op := Op.move (Operand.tmp 1), type := 22, pos := "l4_stopping.go:105", after := #[], guard := none }) (v := ?_) rfl (by kernel_rfl) (by kernel_rfl) (by kernel_rfl) (fun _ _ _ h => h) (Or.inl ⟨by rfl, ?_⟩) (by assumption) ?_
        rotate_left 1
        · intro wq hSw; (try dsimp only at hSw); first | (go_simp; done) | (go_simp; with_reducible rfl)
        (try simp only [Act.put, List.setIfInBounds_toArray, List.set_cons_zero, List.set_cons_succ])
        refine wpAnyH_take (i := 4) (oi := { dst := some 31, op := Op.move (Operand.tmp 2), type := 3, pos := "l4_stopping.go:105", after := #[], guard := none }) (v := ?_) rfl (by kernel_rfl) (by kernel_rfl) (by kernel_rfl) (fun _ _ _ h => h) (Or.inl ⟨by rfl, ?_⟩) (by assumption) ?_
        rotate_left 1
        · intro wq hSw; (try dsimp only at hSw); first | (go_simp; done) | (go_simp; with_reducible rfl)
        (try simp only [Act.put, List.setIfInBounds_toArray, List.set_cons_zero, List.set_cons_succ])
        refine wpAnyH_take (i := 6) (oi := { dst := some 33, op := Op.load 28 (Operand.tmp 3), type := 28, pos := "l4_stopping.go:105", after := #[], guard := none }) (v := ?_) rfl (by kernel_rfl) (by kernel_rfl) (by kernel_rfl) (fun _ _ _ h => h) (Or.inl ⟨by rfl, ?_⟩) (by assumption) ?_
        rotate_left 1
        · intro wq hSw; (try dsimp only at hSw); first | (go_simp; done) | (go_simp; with_reducible rfl)
        (try simp only [Act.put, List.setIfInBounds_toArray, List.set_cons_zero, List.set_cons_succ])
        refine wpAnyH_take (i := 8) (oi := { dst := some 35, op := Op.move (Operand.tmp 2), type := 3, pos := "l4_stopping.go:105", after := #[], guard := none }) (v := ?_) rfl (by kernel_rfl) (by kernel_rfl) (by kernel_rfl) (fun _ _ _ h => h) (Or.inl ⟨by rfl, ?_⟩) (by assumption) ?_
        rotate_left 1
        · intro wq hSw; (try dsimp only at hSw); first | (go_simp; done) | (go_simp; with_reducible rfl)
        (try simp only [Act.put, List.setIfInBounds_toArray, List.set_cons_zero, List.set_cons_succ])
        refine wpAnyH_ready (rs := [3]) (by kernel_rfl) (by simp) ?_
        refine AllReadyH.cons (o := { dst := some 30, op := Op.call { callee := Callee.value (Operand.func 58), args := #[Operand.tmp 28, Operand.tmp 29], argTypes := #[28, 22] }, type := 22, pos := "l4_stopping.go:105", after := #[{ on := 1, ground := Ground.data }, { on := 2, ground := Ground.data }], guard := none }) rfl (fun K hK => ?_) AllReadyH.nil
        go_simp
        refine (CP3.out _ HD).mono ?_
        rintro e w5 ⟨u5, rfl, o5, b5⟩
        have HB5 : Hid (Below w4.heap.size w4 w5) := Lib.hid (HD.out.trans (b5.mono HD.out.size))
        have IV5 := Lib.hid o5.intsV
        clear o5 b5
        go_wp2_with fail
        refine hK.out _ _ ((KC.out _ HB5).1) (fun hHeld => ?_)
        (try simp only [Act.put, List.setIfInBounds_toArray, List.set_cons_zero, List.set_cons_succ])
        refine wpAnyH_ready (rs := [5]) (by kernel_rfl) (by simp) ?_
        refine AllReadyH.cons (o := { dst := some 32, op := Op.call { callee := Callee.value (Operand.func 65), args := #[Operand.tmp 27, Operand.tmp 30, Operand.tmp 31], argTypes := #[28, 22, 3] }, type := 3, pos := "l4_stopping.go:105", after := #[{ on := 0, ground := Ground.data }, { on := 3, ground := Ground.data }, { on := 4, ground := Ground.data }, { on := 3, ground := Ground.chain }], guard := none }) rfl (fun K hK => ?_) AllReadyH.nil
        go_simp
        refine (KD3.out _ _ HB5 IV5.out).mono ?_
        rintro e w6 ⟨rfl, b6⟩
        have HB6 : Hid (Below w4.heap.size w4 w6) := Lib.hid (HB5.out.trans (b6.mono HB5.out.size))
        clear b6
        go_wp2_with fail
        refine hK.out _ _ ((KC.out _ HB6).1) (fun hHeld => ?_)
        (try simp only [Act.put, List.setIfInBounds_toArray, List.set_cons_zero, List.set_cons_succ])
        refine wpAnyH_ready (rs := [7]) (by kernel_rfl) (by simp) ?_
        refine AllReadyH.cons (o := { dst := some 34, op := Op.call { callee := Callee.value (Operand.func 59), args := #[Operand.tmp 33], argTypes := #[28] }, type := 22, pos := "l4_stopping.go:105", after := #[{ on := 6, ground := Ground.data }, { on := 5, ground := Ground.chain }], guard := none }) rfl (fun K hK => ?_) AllReadyH.nil
        go_simp
        refine (SU3.out _ HB6).mono ?_
        rintro e w8 ⟨u8, rfl, o8, b8⟩
        have HB8 : Hid (Below w4.heap.size w4 w8) := Lib.hid (HB6.out.trans (b8.mono HB6.out.size))
        obtain ⟨g8, c8, rfl, hg8l, hg8⟩ := o8.shape (by rw [SL.out]; exact hn0)
        have hc8 := o8.cellGet (j := x) (by rw [SL.out]; exact hx)
        rw [← HSX.out] at hc8
        rw [SL.out]
        have hgr : g8 ≠ w.heap.size + 1 := by have h1 := HB6.out.size; have h2 := R4L.out; omega
        clear o8 b8
        go_wp2_with fail
        refine hK.out _ _ ((KC.out _ HB8).1) (fun hHeld => ?_)
        (try simp only [Act.put, List.setIfInBounds_toArray, List.set_cons_zero, List.set_cons_succ])
        refine held_more (S' := fun w' => w'.cell? ⟨w.heap.size, 0, none⟩ = some (.slice p1 ps.length c1) ∧ w'.cell? ⟨w.heap.size, 1, none⟩ = some (.slice (some ⟨b, off, none⟩) ws.length c2) ∧ w'.cell? ⟨g8, x, none⟩ = some (.int .i64 sx)) (fun w' h => ⟨h.1, h.2.1⟩) _ _ _ _ ?_
        have hHeld2 : (fun w' : World => w'.cell? ⟨w.heap.size, 0, none⟩ = some (.slice p1 ps.length c1) ∧ w'.cell? ⟨w.heap.size, 1, none⟩ = some (.slice (some ⟨b, off, none⟩) ws.length c2) ∧ w'.cell? ⟨g8, x, none⟩ = some (.int .i64 sx)) w8 := ⟨(KC.out _ HB8).1.1, (KC.out _ HB8).1.2, hc8⟩
        refine wpAnyH_take (i := 9) (oi := { dst := some 36, op := Op.indexAddr 22 (Operand.tmp 34) (Operand.tmp 35), type := 0, pos := "l4_stopping.go:105", after := #[{ on := 7, ground := Ground.data }, { on := 8, ground := Ground.data }], guard := none }) (v := ?_) rfl (by kernel_rfl) (by kernel_rfl) (by kernel_rfl) (fun _ _ _ h => h) (Or.inl ⟨by rfl, ?_⟩) (by assumption) ?_
        rotate_left 1
        · intro wq hSw; (try dsimp only at hSw); first | (go_simp; done) | (go_simp; with_reducible rfl)
        (try simp only [Act.put, List.setIfInBounds_toArray, List.set_cons_zero, List.set_cons_succ])
        refine wpAnyH_take (i := 10) (oi := { dst := some 37, op := Op.load 3 (Operand.tmp 36), type := 3, pos := "l4_stopping.go:105", after := #[{ on := 9, ground := Ground.data }], guard := none }) (v := ?_) rfl (by kernel_rfl) (by kernel_rfl) (by kernel_rfl) (fun _ _ _ h => h) (Or.inl ⟨by rfl, ?_⟩) (by assumption) ?_
        rotate_left 1
        · intro wq hSw; (try dsimp only at hSw); first | (go_simp; done) | (go_simp; with_reducible rfl)
        (try simp only [Act.put, List.setIfInBounds_toArray, List.set_cons_zero, List.set_cons_succ])
        refine wpAnyH_ready (rs := [11]) (by kernel_rfl) (by simp) ?_
        refine AllReadyH.cons (o := { dst := some 38, op := Op.call { callee := Callee.value (Operand.func 60), args := #[Operand.tmp 32, Operand.tmp 37], argTypes := #[3, 3] }, type := 34, pos := "l4_stopping.go:105", after := #[{ on := 5, ground := Ground.data }, { on := 10, ground := Ground.data }, { on := 7, ground := Ground.chain }], guard := none }) rfl (fun K hK => ?_) AllReadyH.nil
        go_simp
        refine (RC.out _).mono ?_
        rintro e w9 ⟨rfl, b9⟩
        have HB9 : Hid (Below w4.heap.size w4 w9) := Lib.hid (HB8.out.trans (b9.mono HB8.out.size))
        have hc9 := (b9.cell (p := ⟨g8, x, none⟩) hg8).trans hc8
        clear b9
        go_wp2_with fail
        refine hK.out _ _ (⟨(KC.out _ HB9).1.1, (KC.out _ HB9).1.2, hc9⟩) (fun hHeld => ?_)
        (try simp only [Act.put, List.setIfInBounds_toArray, List.set_cons_zero, List.set_cons_succ])
        obtain ⟨_, r0, r1, r2, r3⟩ := KC.out w9 HB9
        have hgR : w.heap.size ≠ w.heap.size + 1 := by omega
        refine wpAnyH_ready (rs := [12]) (by kernel_rfl) (by simp) ?_
        refine AllReadyH.cons (o := { dst := none, op := Op.store 34 (Operand.tmp 6) (Operand.tmp 38), type := 0, pos := "l4_stopping.go:105", after := #[{ on := 11, ground := Ground.data }, { on := 11, ground := Ground.chain }, { on := 0, ground := Ground.phase }, { on := 1, ground := Ground.phase }, { on := 2, ground := Ground.phase }, { on := 3, ground := Ground.phase }, { on := 4, ground := Ground.phase }, { on := 5, ground := Ground.phase }, { on := 6, ground := Ground.phase }, { on := 7, ground := Ground.phase }, { on := 8, ground := Ground.phase }, { on := 9, ground := Ground.phase }, { on := 10, ground := Ground.phase }, { on := 11, ground := Ground.phase }], guard := none }) rfl (fun K hK => ?_) AllReadyH.nil
        go_simp
        refine hK.out _ _ ⟨(far2 hgR).trans (KC.out _ HB9).1.1, (far2 hgR).trans (KC.out _ HB9).1.2, (far2 hgr).trans hc9⟩ (fun hHeld => ?_)
        (try simp only [Act.put, List.setIfInBounds_toArray, List.set_cons_zero, List.set_cons_succ])
        refine wpAnyH_take (i := 13) (oi := { dst := some 7, op := Op.assign (Operand.const (Value.bool true)), type := 4, pos := "l4_stopping.go:105", after := #[{ on := 12, ground := Ground.chain }, { on := 0, ground := Ground.phase }, { on := 1, ground := Ground.phase }, { on := 2, ground := Ground.phase }, { on := 3, ground := Ground.phase }, { on := 4, ground := Ground.phase }, { on := 5, ground := Ground.phase }, { on := 6, ground := Ground.phase }, { on := 7, ground := Ground.phase }, { on := 8, ground := Ground.phase }, { on := 9, ground := Ground.phase }, { on := 10, ground := Ground.phase }, { on := 11, ground := Ground.phase }, { on := 12, ground := Ground.phase }], guard := none }) (v := ?_) rfl (by kernel_rfl) (by kernel_rfl) (by kernel_rfl) (fun _ _ _ h => h) (Or.inl ⟨by rfl, ?_⟩) (by assumption) ?_
        rotate_left 1
        · intro wq hSw; (try dsimp only at hSw); first | (go_simp; done) | (go_simp; with_reducible rfl)
        (try simp only [Act.put, List.setIfInBounds_toArray, List.set_cons_zero, List.set_cons_succ])
        refine wpAnyH_done (by kernel_rfl) ?_ _
        have HBF := Lib.hid (HB4.out.trans (HB9.out.mono HB4.out.size))
        go_wp2_with fail
        refine bodyPost_ret (v := .tuple #[.agg #[.int .i64 N, .int .i64 E], .bool true]) (by simp [results, Try.results32, go_sem, *]) rfl ⟨rfl, ?_⟩
        exact (HBF.out.setCell (p := ⟨w.heap.size + 1, 0, none⟩) (by simp) _).setCell (p := ⟨w.heap.size + 1, 1, none⟩) (by simp) _
      · have CV := Lib.hid (NV.out (by rw [D.out, hl]; rfl))
        have h0 : wx > 0 := we.2 hl
        clear hl hnd D NV CPS KDS SUS gd we wd PR hwx
        go_enter Try.func32, Try.ntmps32
        go_wp2_with fail
        rw [← hwa]
        clear hwa x0 x1
        refine (PC.out _ HBA.out).mono ?_
        rintro e w1 ⟨rfl, b1⟩
        have HB1 := Lib.hid (HBA.out.trans (b1.mono HBA.out.size))
        have HR1 := Lib.hid (R1.out.below b1 R1.out.lt)
        have HT1 := Lib.hid (T1.out.below b1 T1.out.lt)
        obtain ⟨y0, y1⟩ := HT1.out.cells
        clear b1
        go_wp2_with fail
        refine (NC.out _ HB1.out).mono ?_
        rintro e w4 ⟨rfl, b4⟩
        have HB4 := Lib.hid (HB1.out.trans (b4.mono HB1.out.size))
        obtain ⟨k0, k1, f0, f1⟩ := (HR1.out.below b4 HR1.out.lt).cells
        obtain ⟨z0, z1⟩ := (HT1.out.below b4 HT1.out.lt).cells
        have hcw : w4.cell? ⟨b, off + x, none⟩ = some (.int .i64 wx) := by rw [HB4.out.cell (p := ⟨b, off + x, none⟩) hb]; exact hc
        clear b4 y0 y1 hc
        go_wp2_with fail
        refine bodyPost_ret (v := .tuple #[.agg #[.int .i64 0, .int .i64 0], .bool false]) (by simp [results, Try.results32, go_sem, k0, k1]) rfl ⟨by rw [CV.out]; rfl, ?_⟩
        exact (HB4.out.setCell (p := ⟨w.heap.size + 1, 0, none⟩) (by simp) _).setCell (p := ⟨w.heap.size + 1, 1, none⟩) (by simp) _
end Go.Proofs.Ytagljebfbacdhaa
