/- Claims and gaps, in the model. -/
import Derived.Test.YtamneibnjbimeaaWthM
import Derived.Test.YtamneibnjbimeaaEndsL
import Derived.Deep.DeepCutAuto
namespace Go.Proofs.Ytamneibnjbimeaa
open Go.RowKit
set_option linter.unusedVariables false
/-- What stands when the wealth and the ends are known. -/
structure GapS (w : World) (T E : List Int) (b0 gw ge : Nat) (wx : World) : Prop where
  own : OwnV wx (w.heap.size + 1) wx.heap.size (.slice (some ⟨b0, 0, none⟩) 0 0) []
  wl : ∀ i, i < T.length → wx.cell? ⟨gw, i, none⟩ = some (.int .i64 (T.getD i 0))
  en : ∀ i, i < E.length → wx.cell? ⟨ge, i, none⟩ = some (.int .i64 (E.getD i 0))
  n1 : b0 ≠ gw
  n2 : b0 ≠ ge
  l1 : gw < wx.heap.size
  l2 : ge < wx.heap.size
  bel : Below w.heap.size w wx
/-- The gaps. -/
def gapL (T E ds : List Int) : List Int := (List.range E.length).map fun i => T.getD (E.getD i 0).toNat 0 - ds.getD i 0
theorem gapL_len (T E ds : List Int) : (gapL T E ds).length = E.length := by simp [gapL]
theorem gapL_at (T E ds : List Int) {i : Nat} (h : i < E.length) : (gapL T E ds).getD i 0 = T.getD (E.getD i 0).toNat 0 - ds.getD i 0 := by
  unfold gapL
  rw [List.getD_eq_getElem?_getD, List.getElem?_map, List.getElem?_range h]; rfl
set_option maxRecDepth 100000 in
set_option maxHeartbeats 4000000 in
theorem gapS (ps ws cs hs ds T : List Int) (a : Int) (v u1 u2 : Value) (w : World) (hd : Hold ps ws cs hs) (ha : -999 ≤ a ∧ a ≤ 999) (hT : T = wlT ps cs hs a) (hl : ds.length = (endsT ps).length) (hb99 : ∀ i, i < ds.length → -99 ≤ ds.getD i 0 ∧ ds.getD i 0 ≤ 99) (h : MktV w w.heap.size v ps ws cs) (hu : IntsV w w.heap.size u1 hs) (hv : IntsV w w.heap.size u2 ds) :
    Calls Try.prog 53 #[v, .int .i64 a, u1, u2] w (NewInts (gapL T (endsT ps) ds) w) := by
  have WS := Lib.hid (fun w' (hb : Below w.heap.size w w') => wlMS ps ws cs hs (wlT ps cs hs a) a _ _ w' hd.mkt.good.n1 hd.mkt.good.n24 (by have := hd.mkt.len; omega) (by have := hd.mkt.len; omega) (by have := hd.mkt.len; have := hd.len; omega) (by have := hd.mkt.len; have := hd.len; omega) (by unfold InI64; omega) (wlFacts hd ha) (h.boxed hb) ((hu.below hb).more hb.size))
  rw [← hT] at WS
  have EN := Lib.hid (fun w' (v1 v2 v3 : Value) (hv : v = .agg #[v1, v2, v3]) (hb : Below w.heap.size w w') => endsS ps ws (.agg #[v1, v2]) w' ((show TreeV w w.heap.size (.agg #[v1, v2]) ps ws by (have h2 := h; rw [hv] at h2; exact h2.tree.1)).boxed hb) hd.mkt.good.n24 (parAll hd.mkt.good))
  have TB := Lib.hid (fun x hx => wl_bd hd ha x hx)
  rw [← hT] at TB
  have TL1 : T.length ≤ ps.length := by rw [hT, wlT_len]; exact Nat.le_refl _
  have TL2 : ps.length ≤ T.length := by rw [hT, wlT_len]; exact Nat.le_refl _
  have EP := ends_pos hd.mkt.good
  have EL := ends_le ps
  have n24 := hd.mkt.good.n24
  have n1 := hd.mkt.good.n1
  have EI := Lib.hid (fun i (hi : i < (endsT ps).length) => ends_in (ps := ps) hi)
  have DB := Lib.hid hb99
  have dl1 : ds.length ≤ (endsT ps).length := Nat.le_of_eq hl
  have dl2 : (endsT ps).length ≤ ds.length := Nat.le_of_eq hl.symm
  have GA := Lib.hid (fun i (hi : i < (endsT ps).length) => gapL_at T (endsT ps) ds hi)
  have gl1 : (gapL T (endsT ps) ds).length ≤ (endsT ps).length := Nat.le_of_eq (gapL_len _ _ _)
  have gl2 : (endsT ps).length ≤ (gapL T (endsT ps) ds).length := Nat.le_of_eq (gapL_len _ _ _).symm
  have NEXT := Lib.hid (fun k (hk : k < (gapL T (endsT ps) ds).length) => take_next hk)
  obtain ⟨p1, c1, p2, c2, p3, c3, rfl⟩ := h.shape
  obtain ⟨q1, d1, rfl, _⟩ := hu
  obtain ⟨q2, d2, rfl, _, _, _, j2⟩ := hv
  have Q2 := Lib.hid j2
  clear h j2 hd hT hl hb99 ha
  obtain ⟨E, hE⟩ : ∃ E, E = endsT ps := ⟨_, rfl⟩
  rw [← hE] at EN EP EL EI dl1 dl2 GA gl1 gl2 NEXT ⊢
  obtain ⟨D, hD⟩ : ∃ D, D = gapL T E ds := ⟨_, rfl⟩
  rw [← hD] at GA gl1 gl2 NEXT ⊢
  clear hE hD
  have B1 := (Below.refl w.heap.size w).alloc (Nat.le_refl _) (.cells #[.slice p1 ps.length c1, .slice p2 ws.length c2, .slice p3 cs.length c3] 31)
  have T1 := Lib.hid (show KBox (w.alloc (.cells #[.slice p1 ps.length c1, .slice p2 ws.length c2, .slice p3 cs.length c3] 31)) w.heap.size (.slice p1 ps.length c1) (.slice p2 ws.length c2) (.slice p3 cs.length c3) from alloc_heap w _)
  obtain ⟨wa, hwa⟩ : ∃ wa, wa = w.alloc (.cells #[.slice p1 ps.length c1, .slice p2 ws.length c2, .slice p3 cs.length c3] 31) := ⟨_, rfl⟩
  have sA : wa.heap.size = w.heap.size + 1 := by rw [hwa]; simp
  have SA := Lib.hid sA
  clear sA
  rw [← hwa] at B1 T1
  have BA := Lib.hid B1
  clear B1
  have KA : Hid (∀ w', Below wa.heap.size wa w' → w'.cell? ⟨w.heap.size, 0, none⟩ = some (.slice p1 ps.length c1) ∧ w'.cell? ⟨w.heap.size, 1, none⟩ = some (.slice p2 ws.length c2) ∧ w'.cell? ⟨w.heap.size, 2, none⟩ = some (.slice p3 cs.length c3)) := Lib.hid (fun w' hb => (T1.out.below hb T1.out.lt).cells)
  obtain ⟨x0, x1, x2⟩ := T1.out.cells
  obtain ⟨i0, hi, hz0, hz1, hz2⟩ := info_parts intInfo
  go_enter Try.func53, Try.ntmps53
  go_upto_region 1 with fail
  rw [← hwa]
  clear hwa
  go_cut [9, 10, 11] (fun s9 s10 s11 wx => ∃ b0 gw cw ge ce, s9 = .slice (some ⟨b0, 0, none⟩) 0 0 ∧ s10 = .slice (some ⟨gw, 0, none⟩) T.length cw ∧ s11 = .slice (some ⟨ge, 0, none⟩) E.length ce ∧ Hid (GapS w T E b0 gw ge wx))
  case first =>
    have HDA : Below wa.heap.size wa wa.drew := below_drew (Below.refl _ _)
    have z0 : wa.drew.heap.size = wa.heap.size := rfl
    refine wp_region_held_drew (S := fun w' => w'.cell? ⟨w.heap.size, 0, none⟩ = some (.slice p1 ps.length c1) ∧ w'.cell? ⟨w.heap.size, 1, none⟩ = some (.slice p2 ws.length c2) ∧ w'.cell? ⟨w.heap.size, 2, none⟩ = some (.slice p3 cs.length c3)) (by kernel_rfl) (KA.out _ HDA) (fun hHeld => ?_)
    refine wpAnyH_take (i := 1) (oi := { dst := some 14, op := Op.load 31 (Operand.tmp 4), type := 31, pos := "l6_hedging.go:62", after := #[], guard := none }) (v := ?_) rfl (by kernel_rfl) (by kernel_rfl) (by kernel_rfl) (fun _ _ _ h => h) (Or.inl ⟨by rfl, ?_⟩) (by assumption) ?_
    rotate_left 1
    · intro wq hSw; (try dsimp only at hSw); first | (go_simp; done) | (go_simp; with_reducible rfl)
    (try simp only [Act.put, List.setIfInBounds_toArray, List.set_cons_zero, List.set_cons_succ])
    refine wpAnyH_take (i := 2) (oi := { dst := some 15, op := Op.move (Operand.tmp 1), type := 3, pos := "l6_hedging.go:62", after := #[], guard := none }) (v := ?_) rfl (by kernel_rfl) (by kernel_rfl) (by kernel_rfl) (fun _ _ _ h => h) (Or.inl ⟨by rfl, ?_⟩) (by assumption) ?_
    rotate_left 1
    · intro wq hSw; (try dsimp only at hSw); first | (go_simp; done) | (go_simp; with_reducible rfl)
    (try simp only [Act.put, List.setIfInBounds_toArray, List.set_cons_zero, List.set_cons_succ])
    refine wpAnyH_take (i := 3) (oi := { dst := some 16, op := Op.move (Operand.tmp 2), type := 22, pos := "l6_hedging.go:62", after := #[], guard := none }) (v := ?_) rfl (by kernel_rfl) (by kernel_rfl) (by kernel_rfl) (fun _ _ _ h => h) (Or.inl ⟨by rfl, ?_⟩) (by assumption) ?_
    rotate_left 1
    · intro wq hSw; (try dsimp only at hSw); first | (go_simp; done) | (go_simp; with_reducible rfl)
    (try simp only [Act.put, List.setIfInBounds_toArray, List.set_cons_zero, List.set_cons_succ])
    refine wpAnyH_take (i := 5) (oi := { dst := some 18, op := Op.fieldAddr 31 (Operand.tmp 4) 0, type := 0, pos := "l6_hedging.go:62", after := #[], guard := none }) (v := ?_) rfl (by kernel_rfl) (by kernel_rfl) (by kernel_rfl) (fun _ _ _ h => h) (Or.inl ⟨by rfl, ?_⟩) (by assumption) ?_
    rotate_left 1
    · intro wq hSw; (try dsimp only at hSw); first | (go_simp; done) | (go_simp; with_reducible rfl)
    (try simp only [Act.put, List.setIfInBounds_toArray, List.set_cons_zero, List.set_cons_succ])
    refine wpAnyH_take (i := 6) (oi := { dst := some 19, op := Op.load 29 (Operand.tmp 18), type := 29, pos := "l6_hedging.go:62", after := #[{ on := 5, ground := Ground.data }], guard := none }) (v := ?_) rfl (by kernel_rfl) (by kernel_rfl) (by kernel_rfl) (fun _ _ _ h => h) (Or.inl ⟨by rfl, ?_⟩) (by assumption) ?_
    rotate_left 1
    · intro wq hSw; (try dsimp only at hSw); first | (go_simp; done) | (go_simp; with_reducible rfl)
    (try simp only [Act.put, List.setIfInBounds_toArray, List.set_cons_zero, List.set_cons_succ])
    refine wpAnyH_ready (rs := [0, 4]) (by kernel_rfl) (by simp) ?_
    refine AllReadyH.cons (o := { dst := some 13, op := Op.buildSlice 22 0 #[], type := 22, pos := "l6_hedging.go:62", after := #[], guard := none }) rfl (fun KQ hKQ => ?_) (AllReadyH.cons (o := { dst := some 17, op := Op.call { callee := Callee.value (Operand.func 48), args := #[Operand.tmp 14, Operand.tmp 15, Operand.tmp 16], argTypes := #[31, 3, 22] }, type := 22, pos := "l6_hedging.go:62", after := #[{ on := 1, ground := Ground.data }, { on := 2, ground := Ground.data }, { on := 3, ground := Ground.data }], guard := none }) rfl (fun KQ hKQ => ?_) (AllReadyH.nil))
    · have b1 : Below wa.drew.heap.size wa.drew (wa.drew.alloc (.cells #[] 3)) := (Below.refl _ _).alloc (Nat.le_refl _) _
      have z1 : (wa.drew.alloc (.cells #[] 3)).heap.size = wa.drew.heap.size + 1 := by simp
      have hb1 : Below wa.heap.size wa (wa.drew.alloc (.cells #[] 3)) := HDA.trans (b1.mono HDA.size)
      have hl1 := HDA.size
      have o1 := OwnV.empty wa.drew (w.heap.size + 1) (by have := SA.out; omega)
      go_simp
      refine hKQ.out _ _ (KA.out _ hb1) (fun hHeld => ?_)
      (try simp only [Act.put, List.setIfInBounds_toArray, List.set_cons_zero, List.set_cons_succ])
      refine wpAnyH_ready (rs := [4]) (by kernel_rfl) (by simp) ?_
      refine AllReadyH.cons (o := { dst := some 17, op := Op.call { callee := Callee.value (Operand.func 48), args := #[Operand.tmp 14, Operand.tmp 15, Operand.tmp 16], argTypes := #[31, 3, 22] }, type := 22, pos := "l6_hedging.go:62", after := #[{ on := 1, ground := Ground.data }, { on := 2, ground := Ground.data }, { on := 3, ground := Ground.data }], guard := none }) rfl (fun KQ hKQ => ?_) (AllReadyH.nil)
      · go_simp
        refine (WS.out _ (BA.out.trans (hb1.mono BA.out.size))).mono ?_
        rintro e w4w ⟨u2, rfl, o2, b2⟩
        obtain ⟨gw, cw, rfl, hgw1, hgw2⟩ := o2.shape (by omega)
        have s2 := b2.size
        have hb2 : Below wa.heap.size wa w4w := hb1.trans (b2.mono hb1.size)
        go_wp2_with fail
        refine hKQ.out _ _ (KA.out _ hb2) (fun hHeld => ?_)
        (try simp only [Act.put, List.setIfInBounds_toArray, List.set_cons_zero, List.set_cons_succ])
        refine wpAnyH_ready (rs := [7]) (by kernel_rfl) (by simp) ?_
        refine AllReadyH.cons (o := { dst := some 20, op := Op.call { callee := Callee.value (Operand.func 79), args := #[Operand.tmp 19], argTypes := #[29] }, type := 22, pos := "l6_hedging.go:62", after := #[{ on := 6, ground := Ground.data }, { on := 4, ground := Ground.chain }], guard := none }) rfl (fun KQ hKQ => ?_) (AllReadyH.nil)
        · go_simp
          refine (EN.out _ _ _ _ rfl (BA.out.trans (hb2.mono BA.out.size))).mono ?_
          rintro e w5e ⟨u3, rfl, o3, b3⟩
          obtain ⟨ge, ce, rfl, hge1, hge2⟩ := o3.shape (EP)
          have s3 := b3.size
          have hb3 : Below wa.heap.size wa w5e := hb2.trans (b3.mono hb2.size)
          go_wp2_with fail
          refine hKQ.out _ _ (KA.out _ hb3) (fun hHeld => ?_)
          (try simp only [Act.put, List.setIfInBounds_toArray, List.set_cons_zero, List.set_cons_succ])
          refine wpAnyH_take (i := 8) (oi := { dst := some 9, op := Op.assign (Operand.tmp 13), type := 22, pos := "l6_hedging.go:62", after := #[{ on := 0, ground := Ground.data }, { on := 7, ground := Ground.chain }, { on := 0, ground := Ground.phase }, { on := 1, ground := Ground.textOnly Departure.lateStores }, { on := 2, ground := Ground.textOnly Departure.lateStores }, { on := 3, ground := Ground.textOnly Departure.lateStores }, { on := 4, ground := Ground.textOnly Departure.lateStoresUnsure }, { on := 5, ground := Ground.textOnly Departure.lateStores }, { on := 6, ground := Ground.textOnly Departure.lateStores }, { on := 7, ground := Ground.textOnly Departure.lateStoresUnsure }], guard := none }) (v := ?_) rfl (by kernel_rfl) (by kernel_rfl) (by kernel_rfl) (fun _ _ _ h => h) (Or.inl ⟨by rfl, ?_⟩) (by assumption) ?_
          rotate_left 1
          · intro wq hSw; (try dsimp only at hSw); first | (go_simp; done) | (go_simp; with_reducible rfl)
          (try simp only [Act.put, List.setIfInBounds_toArray, List.set_cons_zero, List.set_cons_succ])
          refine wpAnyH_take (i := 9) (oi := { dst := some 10, op := Op.assign (Operand.tmp 17), type := 22, pos := "l6_hedging.go:62", after := #[{ on := 4, ground := Ground.data }, { on := 8, ground := Ground.chain }, { on := 0, ground := Ground.phase }, { on := 1, ground := Ground.phase }, { on := 2, ground := Ground.phase }, { on := 3, ground := Ground.phase }, { on := 4, ground := Ground.phase }, { on := 5, ground := Ground.textOnly Departure.lateStores }, { on := 6, ground := Ground.textOnly Departure.lateStores }, { on := 7, ground := Ground.textOnly Departure.lateStoresUnsure }, { on := 8, ground := Ground.phase }], guard := none }) (v := ?_) rfl (by kernel_rfl) (by kernel_rfl) (by kernel_rfl) (fun _ _ _ h => h) (Or.inl ⟨by rfl, ?_⟩) (by assumption) ?_
          rotate_left 1
          · intro wq hSw; (try dsimp only at hSw); first | (go_simp; done) | (go_simp; with_reducible rfl)
          (try simp only [Act.put, List.setIfInBounds_toArray, List.set_cons_zero, List.set_cons_succ])
          refine wpAnyH_take (i := 10) (oi := { dst := some 11, op := Op.assign (Operand.tmp 20), type := 22, pos := "l6_hedging.go:62", after := #[{ on := 7, ground := Ground.data }, { on := 9, ground := Ground.chain }, { on := 0, ground := Ground.phase }, { on := 1, ground := Ground.phase }, { on := 2, ground := Ground.phase }, { on := 3, ground := Ground.phase }, { on := 4, ground := Ground.phase }, { on := 5, ground := Ground.phase }, { on := 6, ground := Ground.phase }, { on := 7, ground := Ground.phase }, { on := 8, ground := Ground.phase }, { on := 9, ground := Ground.phase }], guard := none }) (v := ?_) rfl (by kernel_rfl) (by kernel_rfl) (by kernel_rfl) (fun _ _ _ h => h) (Or.inl ⟨by rfl, ?_⟩) (by assumption) ?_
          rotate_left 1
          · intro wq hSw; (try dsimp only at hSw); first | (go_simp; done) | (go_simp; with_reducible rfl)
          (try simp only [Act.put, List.setIfInBounds_toArray, List.set_cons_zero, List.set_cons_succ])
          have cb0 : Below wa.drew.heap.size wa.drew w5e := ((b1).trans (b2.mono (b1).size)).trans (b3.mono ((b1).trans (b2.mono (b1).size)).size)
          have sc0 := cb0.size
          have cb1 : Below (wa.drew.alloc (.cells #[] 3)).heap.size (wa.drew.alloc (.cells #[] 3)) w5e := (b2).trans (b3.mono (b2).size)
          have sc1 := cb1.size
          have cb2 : Below w4w.heap.size w4w w5e := b3
          have sc2 := cb2.size
          have cb3 : Below w5e.heap.size w5e w5e := Below.refl w5e.heap.size w5e
          have sc3 := cb3.size
          refine wpAnyH_done (by kernel_rfl) ?_ _
          go_wp2_with fail
          go_meet
          exact ⟨wa.drew.heap.size, gw, cw, ge, ce, rfl, rfl, rfl, Lib.hid ⟨(o1.below cb1).wide cb1.size (Nat.le_refl _), fun i hi => (cb2.cell (p := ⟨gw, i, none⟩) hgw2).trans (o2.cellGet hi), fun i hi => (cb3.cell (p := ⟨ge, i, none⟩) hge2).trans (o3.cellGet hi), by omega, by omega, by omega, by omega, BA.out.trans ((HDA.trans (cb0.mono HDA.size)).mono BA.out.size)⟩⟩
    · go_simp
      refine (WS.out _ (BA.out.trans (HDA.mono BA.out.size))).mono ?_
      rintro e w3w ⟨u1, rfl, o1, b1⟩
      obtain ⟨gw, cw, rfl, hgw1, hgw2⟩ := o1.shape (by omega)
      have s1 := b1.size
      have hb1 : Below wa.heap.size wa w3w := HDA.trans (b1.mono HDA.size)
      go_wp2_with fail
      refine hKQ.out _ _ (KA.out _ hb1) (fun hHeld => ?_)
      (try simp only [Act.put, List.setIfInBounds_toArray, List.set_cons_zero, List.set_cons_succ])
      refine wpAnyH_ready (rs := [0, 7]) (by kernel_rfl) (by simp) ?_
      refine AllReadyH.cons (o := { dst := some 13, op := Op.buildSlice 22 0 #[], type := 22, pos := "l6_hedging.go:62", after := #[], guard := none }) rfl (fun KQ hKQ => ?_) (AllReadyH.cons (o := { dst := some 20, op := Op.call { callee := Callee.value (Operand.func 79), args := #[Operand.tmp 19], argTypes := #[29] }, type := 22, pos := "l6_hedging.go:62", after := #[{ on := 6, ground := Ground.data }, { on := 4, ground := Ground.chain }], guard := none }) rfl (fun KQ hKQ => ?_) (AllReadyH.nil))
      · have b2 : Below w3w.heap.size w3w (w3w.alloc (.cells #[] 3)) := (Below.refl _ _).alloc (Nat.le_refl _) _
        have z2 : (w3w.alloc (.cells #[] 3)).heap.size = w3w.heap.size + 1 := by simp
        have hb2 : Below wa.heap.size wa (w3w.alloc (.cells #[] 3)) := hb1.trans (b2.mono hb1.size)
        have hl2 := hb1.size
        have o2 := OwnV.empty w3w (w.heap.size + 1) (by have := SA.out; omega)
        go_simp
        refine hKQ.out _ _ (KA.out _ hb2) (fun hHeld => ?_)
        (try simp only [Act.put, List.setIfInBounds_toArray, List.set_cons_zero, List.set_cons_succ])
        refine wpAnyH_ready (rs := [7]) (by kernel_rfl) (by simp) ?_
        refine AllReadyH.cons (o := { dst := some 20, op := Op.call { callee := Callee.value (Operand.func 79), args := #[Operand.tmp 19], argTypes := #[29] }, type := 22, pos := "l6_hedging.go:62", after := #[{ on := 6, ground := Ground.data }, { on := 4, ground := Ground.chain }], guard := none }) rfl (fun KQ hKQ => ?_) (AllReadyH.nil)
        · go_simp
          refine (EN.out _ _ _ _ rfl (BA.out.trans (hb2.mono BA.out.size))).mono ?_
          rintro e w5e ⟨u3, rfl, o3, b3⟩
          obtain ⟨ge, ce, rfl, hge1, hge2⟩ := o3.shape (EP)
          have s3 := b3.size
          have hb3 : Below wa.heap.size wa w5e := hb2.trans (b3.mono hb2.size)
          go_wp2_with fail
          refine hKQ.out _ _ (KA.out _ hb3) (fun hHeld => ?_)
          (try simp only [Act.put, List.setIfInBounds_toArray, List.set_cons_zero, List.set_cons_succ])
          refine wpAnyH_take (i := 8) (oi := { dst := some 9, op := Op.assign (Operand.tmp 13), type := 22, pos := "l6_hedging.go:62", after := #[{ on := 0, ground := Ground.data }, { on := 7, ground := Ground.chain }, { on := 0, ground := Ground.phase }, { on := 1, ground := Ground.textOnly Departure.lateStores }, { on := 2, ground := Ground.textOnly Departure.lateStores }, { on := 3, ground := Ground.textOnly Departure.lateStores }, { on := 4, ground := Ground.textOnly Departure.lateStoresUnsure }, { on := 5, ground := Ground.textOnly Departure.lateStores }, { on := 6, ground := Ground.textOnly Departure.lateStores }, { on := 7, ground := Ground.textOnly Departure.lateStoresUnsure }], guard := none }) (v := ?_) rfl (by kernel_rfl) (by kernel_rfl) (by kernel_rfl) (fun _ _ _ h => h) (Or.inl ⟨by rfl, ?_⟩) (by assumption) ?_
          rotate_left 1
          · intro wq hSw; (try dsimp only at hSw); first | (go_simp; done) | (go_simp; with_reducible rfl)
          (try simp only [Act.put, List.setIfInBounds_toArray, List.set_cons_zero, List.set_cons_succ])
          refine wpAnyH_take (i := 9) (oi := { dst := some 10, op := Op.assign (Operand.tmp 17), type := 22, pos := "l6_hedging.go:62", after := #[{ on := 4, ground := Ground.data }, { on := 8, ground := Ground.chain }, { on := 0, ground := Ground.phase }, { on := 1, ground := Ground.phase }, { on := 2, ground := Ground.phase }, { on := 3, ground := Ground.phase }, { on := 4, ground := Ground.phase }, { on := 5, ground := Ground.textOnly Departure.lateStores }, { on := 6, ground := Ground.textOnly Departure.lateStores }, { on := 7, ground := Ground.textOnly Departure.lateStoresUnsure }, { on := 8, ground := Ground.phase }], guard := none }) (v := ?_) rfl (by kernel_rfl) (by kernel_rfl) (by kernel_rfl) (fun _ _ _ h => h) (Or.inl ⟨by rfl, ?_⟩) (by assumption) ?_
          rotate_left 1
          · intro wq hSw; (try dsimp only at hSw); first | (go_simp; done) | (go_simp; with_reducible rfl)
          (try simp only [Act.put, List.setIfInBounds_toArray, List.set_cons_zero, List.set_cons_succ])
          refine wpAnyH_take (i := 10) (oi := { dst := some 11, op := Op.assign (Operand.tmp 20), type := 22, pos := "l6_hedging.go:62", after := #[{ on := 7, ground := Ground.data }, { on := 9, ground := Ground.chain }, { on := 0, ground := Ground.phase }, { on := 1, ground := Ground.phase }, { on := 2, ground := Ground.phase }, { on := 3, ground := Ground.phase }, { on := 4, ground := Ground.phase }, { on := 5, ground := Ground.phase }, { on := 6, ground := Ground.phase }, { on := 7, ground := Ground.phase }, { on := 8, ground := Ground.phase }, { on := 9, ground := Ground.phase }], guard := none }) (v := ?_) rfl (by kernel_rfl) (by kernel_rfl) (by kernel_rfl) (fun _ _ _ h => h) (Or.inl ⟨by rfl, ?_⟩) (by assumption) ?_
          rotate_left 1
          · intro wq hSw; (try dsimp only at hSw); first | (go_simp; done) | (go_simp; with_reducible rfl)
          (try simp only [Act.put, List.setIfInBounds_toArray, List.set_cons_zero, List.set_cons_succ])
          have cb0 : Below wa.drew.heap.size wa.drew w5e := ((b1).trans (b2.mono (b1).size)).trans (b3.mono ((b1).trans (b2.mono (b1).size)).size)
          have sc0 := cb0.size
          have cb1 : Below w3w.heap.size w3w w5e := (b2).trans (b3.mono (b2).size)
          have sc1 := cb1.size
          have cb2 : Below (w3w.alloc (.cells #[] 3)).heap.size (w3w.alloc (.cells #[] 3)) w5e := b3
          have sc2 := cb2.size
          have cb3 : Below w5e.heap.size w5e w5e := Below.refl w5e.heap.size w5e
          have sc3 := cb3.size
          refine wpAnyH_done (by kernel_rfl) ?_ _
          go_wp2_with fail
          go_meet
          exact ⟨w3w.heap.size, gw, cw, ge, ce, rfl, rfl, rfl, Lib.hid ⟨(o2.below cb2).wide cb2.size (Nat.le_refl _), fun i hi => (cb1.cell (p := ⟨gw, i, none⟩) hgw2).trans (o1.cellGet hi), fun i hi => (cb3.cell (p := ⟨ge, i, none⟩) hge2).trans (o3.cellGet hi), by omega, by omega, by omega, by omega, BA.out.trans ((HDA.trans (cb0.mono HDA.size)).mono BA.out.size)⟩⟩
      · go_simp
        refine (EN.out _ _ _ _ rfl (BA.out.trans (hb1.mono BA.out.size))).mono ?_
        rintro e w4e ⟨u2, rfl, o2, b2⟩
        obtain ⟨ge, ce, rfl, hge1, hge2⟩ := o2.shape (EP)
        have s2 := b2.size
        have hb2 : Below wa.heap.size wa w4e := hb1.trans (b2.mono hb1.size)
        go_wp2_with fail
        refine hKQ.out _ _ (KA.out _ hb2) (fun hHeld => ?_)
        (try simp only [Act.put, List.setIfInBounds_toArray, List.set_cons_zero, List.set_cons_succ])
        refine wpAnyH_ready (rs := [0]) (by kernel_rfl) (by simp) ?_
        refine AllReadyH.cons (o := { dst := some 13, op := Op.buildSlice 22 0 #[], type := 22, pos := "l6_hedging.go:62", after := #[], guard := none }) rfl (fun KQ hKQ => ?_) (AllReadyH.nil)
        · have b3 : Below w4e.heap.size w4e (w4e.alloc (.cells #[] 3)) := (Below.refl _ _).alloc (Nat.le_refl _) _
          have z3 : (w4e.alloc (.cells #[] 3)).heap.size = w4e.heap.size + 1 := by simp
          have hb3 : Below wa.heap.size wa (w4e.alloc (.cells #[] 3)) := hb2.trans (b3.mono hb2.size)
          have hl3 := hb2.size
          have o3 := OwnV.empty w4e (w.heap.size + 1) (by have := SA.out; omega)
          go_simp
          refine hKQ.out _ _ (KA.out _ hb3) (fun hHeld => ?_)
          (try simp only [Act.put, List.setIfInBounds_toArray, List.set_cons_zero, List.set_cons_succ])
          refine wpAnyH_take (i := 8) (oi := { dst := some 9, op := Op.assign (Operand.tmp 13), type := 22, pos := "l6_hedging.go:62", after := #[{ on := 0, ground := Ground.data }, { on := 7, ground := Ground.chain }, { on := 0, ground := Ground.phase }, { on := 1, ground := Ground.textOnly Departure.lateStores }, { on := 2, ground := Ground.textOnly Departure.lateStores }, { on := 3, ground := Ground.textOnly Departure.lateStores }, { on := 4, ground := Ground.textOnly Departure.lateStoresUnsure }, { on := 5, ground := Ground.textOnly Departure.lateStores }, { on := 6, ground := Ground.textOnly Departure.lateStores }, { on := 7, ground := Ground.textOnly Departure.lateStoresUnsure }], guard := none }) (v := ?_) rfl (by kernel_rfl) (by kernel_rfl) (by kernel_rfl) (fun _ _ _ h => h) (Or.inl ⟨by rfl, ?_⟩) (by assumption) ?_
          rotate_left 1
          · intro wq hSw; (try dsimp only at hSw); first | (go_simp; done) | (go_simp; with_reducible rfl)
          (try simp only [Act.put, List.setIfInBounds_toArray, List.set_cons_zero, List.set_cons_succ])
          refine wpAnyH_take (i := 9) (oi := { dst := some 10, op := Op.assign (Operand.tmp 17), type := 22, pos := "l6_hedging.go:62", after := #[{ on := 4, ground := Ground.data }, { on := 8, ground := Ground.chain }, { on := 0, ground := Ground.phase }, { on := 1, ground := Ground.phase }, { on := 2, ground := Ground.phase }, { on := 3, ground := Ground.phase }, { on := 4, ground := Ground.phase }, { on := 5, ground := Ground.textOnly Departure.lateStores }, { on := 6, ground := Ground.textOnly Departure.lateStores }, { on := 7, ground := Ground.textOnly Departure.lateStoresUnsure }, { on := 8, ground := Ground.phase }], guard := none }) (v := ?_) rfl (by kernel_rfl) (by kernel_rfl) (by kernel_rfl) (fun _ _ _ h => h) (Or.inl ⟨by rfl, ?_⟩) (by assumption) ?_
          rotate_left 1
          · intro wq hSw; (try dsimp only at hSw); first | (go_simp; done) | (go_simp; with_reducible rfl)
          (try simp only [Act.put, List.setIfInBounds_toArray, List.set_cons_zero, List.set_cons_succ])
          refine wpAnyH_take (i := 10) (oi := { dst := some 11, op := Op.assign (Operand.tmp 20), type := 22, pos := "l6_hedging.go:62", after := #[{ on := 7, ground := Ground.data }, { on := 9, ground := Ground.chain }, { on := 0, ground := Ground.phase }, { on := 1, ground := Ground.phase }, { on := 2, ground := Ground.phase }, { on := 3, ground := Ground.phase }, { on := 4, ground := Ground.phase }, { on := 5, ground := Ground.phase }, { on := 6, ground := Ground.phase }, { on := 7, ground := Ground.phase }, { on := 8, ground := Ground.phase }, { on := 9, ground := Ground.phase }], guard := none }) (v := ?_) rfl (by kernel_rfl) (by kernel_rfl) (by kernel_rfl) (fun _ _ _ h => h) (Or.inl ⟨by rfl, ?_⟩) (by assumption) ?_
          rotate_left 1
          · intro wq hSw; (try dsimp only at hSw); first | (go_simp; done) | (go_simp; with_reducible rfl)
          (try simp only [Act.put, List.setIfInBounds_toArray, List.set_cons_zero, List.set_cons_succ])
          have cb0 : Below wa.drew.heap.size wa.drew (w4e.alloc (.cells #[] 3)) := ((b1).trans (b2.mono (b1).size)).trans (b3.mono ((b1).trans (b2.mono (b1).size)).size)
          have sc0 := cb0.size
          have cb1 : Below w3w.heap.size w3w (w4e.alloc (.cells #[] 3)) := (b2).trans (b3.mono (b2).size)
          have sc1 := cb1.size
          have cb2 : Below w4e.heap.size w4e (w4e.alloc (.cells #[] 3)) := b3
          have sc2 := cb2.size
          have cb3 : Below (w4e.alloc (.cells #[] 3)).heap.size (w4e.alloc (.cells #[] 3)) (w4e.alloc (.cells #[] 3)) := Below.refl (w4e.alloc (.cells #[] 3)).heap.size (w4e.alloc (.cells #[] 3))
          have sc3 := cb3.size
          refine wpAnyH_done (by kernel_rfl) ?_ _
          go_wp2_with fail
          go_meet
          exact ⟨w4e.heap.size, gw, cw, ge, ce, rfl, rfl, rfl, Lib.hid ⟨(o3.below cb3).wide cb3.size (Nat.le_refl _), fun i hi => (cb1.cell (p := ⟨gw, i, none⟩) hgw2).trans (o1.cellGet hi), fun i hi => (cb2.cell (p := ⟨ge, i, none⟩) hge2).trans (o2.cellGet hi), by omega, by omega, by omega, by omega, BA.out.trans ((HDA.trans (cb0.mono HDA.size)).mono BA.out.size)⟩⟩
  obtain ⟨b0, gw, cw, ge, ce, rfl, rfl, rfl, HG⟩ := hcut
  clear x0 x1 x2 WS EN KA T1 BA SA
  go_wp2_with fail
  go_loopw [9, 12] (fun o i wr => ∃ k : Nat, k ≤ E.length ∧ i = .int .i64 k ∧ Hid (OwnV wr (w.heap.size + 1) wr.heap.size o (D.take k)) ∧ Hid (∀ q, o.ownBlock = some q → q ≠ ge ∧ q ≠ gw) ∧ Hid (∀ i, i < E.length → wr.cell? ⟨ge, i, none⟩ = some (.int .i64 (E.getD i 0))) ∧ Hid (∀ i, i < T.length → wr.cell? ⟨gw, i, none⟩ = some (.int .i64 (T.getD i 0))) ∧ Hid (Below w.heap.size w wr) ∧ Hid (ge < wr.heap.size ∧ gw < wr.heap.size) ∧ Hid (w.heap.size + 1 ≤ wr.heap.size)) (fun _ i _ => E.length - (intOf i).toNat)
  case atStart => exact ⟨0, Nat.zero_le _, rfl, Lib.hid (by rw [List.take_zero]; exact HG.out.own), Lib.hid (fun q hq => by (have h : (some b0 : Option Nat) = some q := hq); injection h with h; subst h; exact ⟨HG.out.n2, HG.out.n1⟩), Lib.hid HG.out.en, Lib.hid HG.out.wl, Lib.hid HG.out.bel, Lib.hid ⟨HG.out.l2, HG.out.l1⟩, Lib.hid (by have := HG.out.own.lt b0 rfl; have := (HG.out.own.row.lt b0 rfl).1; omega)⟩
  case round =>
    obtain ⟨k, hk, rfl, HO, HN, HE, HW, HB, HL, HS⟩ := hrel
    clear HG
    by_cases hlt : k < E.length
    · obtain ⟨j, hj, hjp, _⟩ := EI.out k hlt
      have hce : wr.cell? ⟨ge, k, none⟩ = some (.int .i64 j) := by rw [HE.out k hlt, hj]
      have hcw := HW.out j (by omega)
      obtain ⟨bz, oz, rfl, hbz, hcz⟩ := Q2.out.get (i := k) (by omega)
      have hz_k : wr.cell? ⟨bz, oz + k, none⟩ = some (.int .i64 (ds.getD k 0)) := by rw [HB.out.cell (p := ⟨bz, oz + k, none⟩) hbz, hcz]
      have LT : (D.take k).length = k := by rw [List.length_take]; omega
      have se := NEXT.out k (by omega)
      rw [GA.out k hlt, ← hj, Int.toNat_natCast] at se
      have zb := DB.out k (by omega)
      have tb := TB.out j (by omega)
      have gj : j * 1980 ≤ 23 * 1980 := Nat.mul_le_mul_right _ (by omega)
      obtain ⟨L, hL⟩ : ∃ L, L = D.take k := ⟨_, rfl⟩
      rw [← hL] at HO LT se
      obtain ⟨y, hy⟩ : ∃ t, t = ds.getD k 0 := ⟨_, rfl⟩
      obtain ⟨tj, htj⟩ : ∃ t, t = T.getD j 0 := ⟨_, rfl⟩
      rw [← hy] at hz_k se zb
      rw [← htj] at hcw se tb
      have SE := Lib.hid se
      have NI := Lib.hid (show InI64 (tj - y) by unfold InI64; omega)
      have tb1 : -60000 ≤ tj ∧ tj ≤ 60000 := by omega
      have le5 : L.length ≤ k := by omega
      have le6 : k ≤ L.length := by omega
      clear hcz hy htj hL se hj LT tb gj
      have hgr := HL.out.1
      have hgr2 := HL.out.2
      have hss := HS.out
      have i0' : (0 : Int) ≤ (k : Int) := by omega
      have i1' : (k : Int) < (E.length : Int) := by omega
      have i2' : (k : Int) < (ds.length : Int) := by omega
      have j0 : (0 : Int) ≤ (j : Int) := by omega
      have j1 : (j : Int) < (T.length : Int) := by omega
      have HD0 : Below wr.heap.size wr wr.drew := below_drew (Below.refl _ _)
      have HZ : wr.drew.heap.size = wr.heap.size := rfl
      have HOD := Lib.hid ((HO.out.below HD0).wide HD0.size (Nat.le_refl _))
      have HBD := Lib.hid (below_drew HB.out)
      have HOA := Lib.hid (HOD.out.row.alloc (.cells #[.int .i64 (tj - y)] 3))
      have HNA := Lib.hid (cell_one_new wr.drew (.int .i64 (tj - y)) 3)
      have KK : Hid (∀ w9, Below wr.heap.size wr w9 → w9.cell? ⟨ge, k, none⟩ = some (.int .i64 j) ∧ w9.cell? ⟨gw, j, none⟩ = some (.int .i64 tj) ∧ w9.cell? ⟨bz, oz + k, none⟩ = some (.int .i64 y)) := Lib.hid (fun w9 h9 => ⟨(h9.cell (p := ⟨ge, k, none⟩) (HL.out.1)).trans hce, (h9.cell (p := ⟨gw, j, none⟩) (HL.out.2)).trans hcw, (h9.cell (p := ⟨bz, oz + k, none⟩) (show bz < wr.heap.size from Nat.lt_of_lt_of_le hbz HB.out.size)).trans hz_k⟩)
      go_wp2_with fail
      refine wp_region_held_drew (S := fun w' => w'.cell? ⟨ge, k, none⟩ = some (.int .i64 j) ∧ w'.cell? ⟨gw, j, none⟩ = some (.int .i64 tj) ∧ w'.cell? ⟨bz, oz + k, none⟩ = some (.int .i64 y)) (by kernel_rfl) (KK.out _ HD0) (fun hHeld => ?_)
      refine wpAnyH_take (i := 0) (oi := { dst := some 27, op := Op.move (Operand.tmp 9), type := 22, pos := "l6_hedging.go:64", after := #[], guard := none }) (v := ?_) rfl (by kernel_rfl) (by kernel_rfl) (by kernel_rfl) (fun _ _ _ h => h) (Or.inl ⟨by rfl, ?_⟩) (by assumption) ?_
      rotate_left 1
      · intro wq hSw; (try dsimp only at hSw); first | (go_simp; done) | (go_simp; with_reducible rfl)
      (try simp only [Act.put, List.setIfInBounds_toArray, List.set_cons_zero, List.set_cons_succ])
      refine wpAnyH_take (i := 1) (oi := { dst := some 28, op := Op.move (Operand.tmp 10), type := 22, pos := "l6_hedging.go:64", after := #[], guard := none }) (v := ?_) rfl (by kernel_rfl) (by kernel_rfl) (by kernel_rfl) (fun _ _ _ h => h) (Or.inl ⟨by rfl, ?_⟩) (by assumption) ?_
      rotate_left 1
      · intro wq hSw; (try dsimp only at hSw); first | (go_simp; done) | (go_simp; with_reducible rfl)
      (try simp only [Act.put, List.setIfInBounds_toArray, List.set_cons_zero, List.set_cons_succ])
      refine wpAnyH_take (i := 2) (oi := { dst := some 29, op := Op.move (Operand.tmp 11), type := 22, pos := "l6_hedging.go:64", after := #[], guard := none }) (v := ?_) rfl (by kernel_rfl) (by kernel_rfl) (by kernel_rfl) (fun _ _ _ h => h) (Or.inl ⟨by rfl, ?_⟩) (by assumption) ?_
      rotate_left 1
      · intro wq hSw; (try dsimp only at hSw); first | (go_simp; done) | (go_simp; with_reducible rfl)
      (try simp only [Act.put, List.setIfInBounds_toArray, List.set_cons_zero, List.set_cons_succ])
      refine wpAnyH_take (i := 3) (oi := { dst := some 30, op := Op.move (Operand.tmp 12), type := 3, pos := "l6_hedging.go:64", after := #[], guard := none }) (v := ?_) rfl (by kernel_rfl) (by kernel_rfl) (by kernel_rfl) (fun _ _ _ h => h) (Or.inl ⟨by rfl, ?_⟩) (by assumption) ?_
      rotate_left 1
      · intro wq hSw; (try dsimp only at hSw); first | (go_simp; done) | (go_simp; with_reducible rfl)
      (try simp only [Act.put, List.setIfInBounds_toArray, List.set_cons_zero, List.set_cons_succ])
      refine wpAnyH_take (i := 4) (oi := { dst := some 31, op := Op.indexAddr 22 (Operand.tmp 29) (Operand.tmp 30), type := 0, pos := "l6_hedging.go:64", after := #[{ on := 2, ground := Ground.data }, { on := 3, ground := Ground.data }], guard := none }) (v := ?_) rfl (by kernel_rfl) (by kernel_rfl) (by kernel_rfl) (fun _ _ _ h => h) (Or.inl ⟨by rfl, ?_⟩) (by assumption) ?_
      rotate_left 1
      · intro wq hSw; (try dsimp only at hSw); first | (go_simp; done) | (go_simp; with_reducible rfl)
      (try simp only [Act.put, List.setIfInBounds_toArray, List.set_cons_zero, List.set_cons_succ])
      refine wpAnyH_take (i := 5) (oi := { dst := some 32, op := Op.load 3 (Operand.tmp 31), type := 3, pos := "l6_hedging.go:64", after := #[{ on := 4, ground := Ground.data }], guard := none }) (v := ?_) rfl (by kernel_rfl) (by kernel_rfl) (by kernel_rfl) (fun _ _ _ h => h) (Or.inl ⟨by rfl, ?_⟩) (by assumption) ?_
      rotate_left 1
      · intro wq hSw; (try dsimp only at hSw); first | (go_simp; done) | (go_simp; with_reducible rfl)
      (try simp only [Act.put, List.setIfInBounds_toArray, List.set_cons_zero, List.set_cons_succ])
      refine wpAnyH_take (i := 6) (oi := { dst := some 33, op := Op.indexAddr 22 (Operand.tmp 28) (Operand.tmp 32), type := 0, pos := "l6_hedging.go:64", after := #[{ on := 1, ground := Ground.data }, { on := 5, ground := Ground.data }], guard := none }) (v := ?_) rfl (by kernel_rfl) (by kernel_rfl) (by kernel_rfl) (fun _ _ _ h => h) (Or.inl ⟨by rfl, ?_⟩) (by assumption) ?_
      rotate_left 1
      · intro wq hSw; (try dsimp only at hSw); first | (go_simp; done) | (go_simp; with_reducible rfl)
      (try simp only [Act.put, List.setIfInBounds_toArray, List.set_cons_zero, List.set_cons_succ])
      refine wpAnyH_take (i := 7) (oi := { dst := some 34, op := Op.load 3 (Operand.tmp 33), type := 3, pos := "l6_hedging.go:64", after := #[{ on := 6, ground := Ground.data }], guard := none }) (v := ?_) rfl (by kernel_rfl) (by kernel_rfl) (by kernel_rfl) (fun _ _ _ h => h) (Or.inl ⟨by rfl, ?_⟩) (by assumption) ?_
      rotate_left 1
      · intro wq hSw; (try dsimp only at hSw); first | (go_simp; done) | (go_simp; with_reducible rfl)
      (try simp only [Act.put, List.setIfInBounds_toArray, List.set_cons_zero, List.set_cons_succ])
      refine wpAnyH_take (i := 8) (oi := { dst := some 35, op := Op.move (Operand.tmp 3), type := 22, pos := "l6_hedging.go:64", after := #[], guard := none }) (v := ?_) rfl (by kernel_rfl) (by kernel_rfl) (by kernel_rfl) (fun _ _ _ h => h) (Or.inl ⟨by rfl, ?_⟩) (by assumption) ?_
      rotate_left 1
      · intro wq hSw; (try dsimp only at hSw); first | (go_simp; done) | (go_simp; with_reducible rfl)
      (try simp only [Act.put, List.setIfInBounds_toArray, List.set_cons_zero, List.set_cons_succ])
      refine wpAnyH_take (i := 9) (oi := { dst := some 36, op := Op.move (Operand.tmp 12), type := 3, pos := "l6_hedging.go:64", after := #[], guard := none }) (v := ?_) rfl (by kernel_rfl) (by kernel_rfl) (by kernel_rfl) (fun _ _ _ h => h) (Or.inl ⟨by rfl, ?_⟩) (by assumption) ?_
      rotate_left 1
      · intro wq hSw; (try dsimp only at hSw); first | (go_simp; done) | (go_simp; with_reducible rfl)
      (try simp only [Act.put, List.setIfInBounds_toArray, List.set_cons_zero, List.set_cons_succ])
      refine wpAnyH_take (i := 10) (oi := { dst := some 37, op := Op.indexAddr 22 (Operand.tmp 35) (Operand.tmp 36), type := 0, pos := "l6_hedging.go:64", after := #[{ on := 8, ground := Ground.data }, { on := 9, ground := Ground.data }], guard := none }) (v := ?_) rfl (by kernel_rfl) (by kernel_rfl) (by kernel_rfl) (fun _ _ _ h => h) (Or.inl ⟨by rfl, ?_⟩) (by assumption) ?_
      rotate_left 1
      · intro wq hSw; (try dsimp only at hSw); first | (go_simp; done) | (go_simp; with_reducible rfl)
      (try simp only [Act.put, List.setIfInBounds_toArray, List.set_cons_zero, List.set_cons_succ])
      refine wpAnyH_take (i := 11) (oi := { dst := some 38, op := Op.load 3 (Operand.tmp 37), type := 3, pos := "l6_hedging.go:64", after := #[{ on := 10, ground := Ground.data }], guard := none }) (v := ?_) rfl (by kernel_rfl) (by kernel_rfl) (by kernel_rfl) (fun _ _ _ h => h) (Or.inl ⟨by rfl, ?_⟩) (by assumption) ?_
      rotate_left 1
      · intro wq hSw; (try dsimp only at hSw); first | (go_simp; done) | (go_simp; with_reducible rfl)
      (try simp only [Act.put, List.setIfInBounds_toArray, List.set_cons_zero, List.set_cons_succ])
      refine wpAnyH_take (i := 12) (oi := { dst := some 39, op := Op.binOp BinOp.sub 3 (Operand.tmp 34) (Operand.tmp 38) 3, type := 3, pos := "l6_hedging.go:64", after := #[{ on := 7, ground := Ground.data }, { on := 11, ground := Ground.data }], guard := none }) (v := .int .i64 (tj - y)) rfl (by kernel_rfl) (by kernel_rfl) (by kernel_rfl) (fun _ _ _ h => h) (Or.inl ⟨by rfl, ?_⟩) (by assumption) ?_
      · intro wq hSw; (try dsimp only at hSw); go_simp; first | done | rfl | (rw [IntWalk.i64_in _ (by omega)])
      (try simp only [Act.put, List.setIfInBounds_toArray, List.set_cons_zero, List.set_cons_succ])
      refine wpAnyH_ready (rs := [13]) (by kernel_rfl) (by simp) ?_
      refine AllReadyH.cons (o := { dst := some 40, op := Op.buildSlice 22 1 #[(0, Operand.tmp 39)], type := 22, pos := "l6_hedging.go:64", after := #[{ on := 12, ground := Ground.data }], guard := none }) rfl (fun KQ hKQ => ?_) AllReadyH.nil
      go_simp
      refine hKQ.out _ _ (KK.out _ (HD0.alloc (Nat.le_refl _) _)) (fun hHeld => ?_)
      (try simp only [Act.put, List.setIfInBounds_toArray, List.set_cons_zero, List.set_cons_succ])
      refine wpAnyH_ready (rs := [14]) (by kernel_rfl) (by simp) ?_
      refine AllReadyH.cons (o := { dst := some 41, op := Op.call { callee := Callee.builtin Builtin.append, args := #[Operand.tmp 27, Operand.tmp 40], argTypes := #[22, 22] }, type := 22, pos := "l6_hedging.go:64", after := #[{ on := 0, ground := Ground.data }, { on := 13, ground := Ground.data }], guard := none }) rfl (fun KQ hKQ => ?_) AllReadyH.nil
      refine step_append_lies _ rfl _ _ 22 rfl (w.heap.size + 1) 3 i0 (.int .i64 0) 1 8 Try.underlying22 hi hz0 hz1 hz2 rfl (by decide) _ L.length (L.map (.int .i64)) rfl HOA.out ⟨wr.drew.heap.size, 0, none⟩ 1 1 [.int .i64 (tj - y)] rfl rfl HNA.out (fun u hu => by simp at hu; subst hu; rfl) (by omega) (by unfold maxLen; omega) (by omega) (by simp; omega) _ rfl ?_
      intro g4 cap4 w4 hown3 hgrow3 hat3 hlt3
      have own3 := Lib.hid (HOD.out.app NI.out hown3)
      have bel3 := Lib.hid ((HBD.out.alloc HBD.out.size _).grown hgrow3 (by simp; omega) (fun q hq => by have := (HOA.out.lt q hq).1; omega))
      have far : Hid (∀ b o v, b < wr.heap.size → (∀ q, _ = some q → q ≠ b) → wr.cell? ⟨b, o, none⟩ = some v → w4.cell? ⟨b, o, none⟩ = some v) := Lib.hid (fun b o v hb hne hv => by
        rw [hgrow3.cell_far ⟨b, o, none⟩ (by simp; omega) (fun e => hne b e.symm rfl)]
        show (wr.drew.alloc _).cell? _ = _
        rw [World.cell?_alloc_lt _ _ _ (by show b < wr.drew.heap.size; omega)]
        exact hv)
      have n3 : Hid (∀ q, (Value.slice (some ⟨g4, 0, none⟩) (L.length + 1) cap4).ownBlock = some q → q ≠ ge ∧ q ≠ gw) := Lib.hid (fun q hq => by
        have e : (some g4 : Option Nat) = some q := hq
        injection e with e
        subst e
        rcases hat3 with h | h
        · exact HN.out _ h
        · simp at h; omega)
      have e3 : Hid (∀ i, i < E.length → w4.cell? ⟨ge, i, none⟩ = some (.int .i64 (E.getD i 0))) := Lib.hid (fun i hi => far.out _ _ _ hgr (fun q hq => (HN.out q hq).1) (HE.out i hi))
      have t3 : Hid (∀ i, i < T.length → w4.cell? ⟨gw, i, none⟩ = some (.int .i64 (T.getD i 0))) := Lib.hid (fun i hi => far.out _ _ _ hgr2 (fun q hq => (HN.out q hq).2) (HW.out i hi))
      have g3 : Hid (ge < w4.heap.size ∧ gw < w4.heap.size) := Lib.hid (by have := hgrow3.size; simp at this; omega)
      have l3 : Hid (w.heap.size + 1 ≤ w4.heap.size) := Lib.hid (by have := hgrow3.size; simp at this; omega)
      obtain ⟨e0, e1, e2⟩ := KK.out _ (Below.refl wr.heap.size wr)
      clear hown3
      refine hKQ.out _ _ ⟨far.out _ _ _ (HL.out.1) (fun q hq => (HN.out q hq).1) e0, far.out _ _ _ (HL.out.2) (fun q hq => (HN.out q hq).2) e1, far.out _ _ _ (show bz < wr.heap.size from Nat.lt_of_lt_of_le hbz HB.out.size) (fun q hq => by have := (HOA.out.lt q hq).1; have : bz < w.heap.size := hbz; omega) e2⟩ (fun hHeld => ?_)
      (try simp only [Act.put, List.setIfInBounds_toArray, List.set_cons_zero, List.set_cons_succ])
      refine wpAnyH_take (i := 15) (oi := { dst := some 9, op := Op.assign (Operand.tmp 41), type := 22, pos := "l6_hedging.go:64", after := #[{ on := 14, ground := Ground.data }, { on := 14, ground := Ground.chain }, { on := 0, ground := Ground.phase }, { on := 1, ground := Ground.phase }, { on := 2, ground := Ground.phase }, { on := 3, ground := Ground.phase }, { on := 4, ground := Ground.phase }, { on := 5, ground := Ground.phase }, { on := 6, ground := Ground.phase }, { on := 7, ground := Ground.phase }, { on := 8, ground := Ground.phase }, { on := 9, ground := Ground.phase }, { on := 10, ground := Ground.phase }, { on := 11, ground := Ground.phase }, { on := 12, ground := Ground.phase }, { on := 13, ground := Ground.phase }, { on := 14, ground := Ground.phase }], guard := none }) (v := ?_) rfl (by kernel_rfl) (by kernel_rfl) (by kernel_rfl) (fun _ _ _ h => h) (Or.inl ⟨by rfl, ?_⟩) (by assumption) ?_
      rotate_left 1
      · intro wq hSw; (try dsimp only at hSw); first | (go_simp; done) | (go_simp; with_reducible rfl)
      (try simp only [Act.put, List.setIfInBounds_toArray, List.set_cons_zero, List.set_cons_succ])
      refine wpAnyH_done (by kernel_rfl) ?_ _
      go_wp2_with fail
      go_roundw
      case rel => exact ⟨k + 1, by omega, by go_num, Lib.hid (by rw [SE.out]; exact own3.out), n3, e3, t3, bel3, g3, l3⟩
      case measure => simp [intOf]; omega
    · obtain rfl : k = E.length := by omega
      rw [List.take_of_length_le (by omega)] at HO
      have FIN : Hid (∀ o, OwnV wr (w.heap.size + 1) wr.heap.size o D → NewInts D w (.returned o) wr) := Lib.hid (fun o ho => ⟨o, rfl, ho.low (by omega), HB.out⟩)
      go_wp2_with fail
      go_ret
      exact FIN.out _ HO.out
end Go.Proofs.Ytamneibnjbimeaa
