/- Claims that are made of the prices of ends, in the model. -/
import Derived.Test.YtamneibnjbimeabMktM
import Derived.Test.YtamneibnjbimeabClmI
import Derived.Test.YtamneibnjbimeabWayS
import Derived.Test.YtamneibnjbimeabPassI
import Derived.Test.YtamneibnjbimeabHeldMore
import Derived.Deep.AppendLies
import Derived.BigRegion
import Derived.Deep.RegionLaw
import Derived.Deep.RegionHeld3
namespace Go.Proofs.Ytamneibnjbimeab
open Go.RowKit
set_option linter.unusedVariables false
set_option maxRecDepth 100000 in
set_option maxHeartbeats 4000000 in
theorem endPS (ps ws cs : List Int) (v : Value) (w : World) (mk : Mkt ps ws cs) (h : MktV w w.heap.size v ps ws cs) :
    Calls Try.prog 58 #[v] w (NewInts (endP ps cs id) w) := by
  have EN := Lib.hid (fun w' (v1 v2 v3 : Value) (hv : v = .agg #[v1, v2, v3]) (hb : Below w.heap.size w w') => endsS ps ws (.agg #[v1, v2]) w' ((show TreeV w w.heap.size (.agg #[v1, v2]) ps ws by (have h2 := h; rw [hv] at h2; exact h2.tree.1)).boxed hb) mk.good.n24 (parAll mk.good))
  have EP := ends_pos mk.good
  have EL := ends_le ps
  have n24 := mk.good.n24
  have EI := Lib.hid (fun i (hi : i < (endsT ps).length) => ends_in (ps := ps) hi)
  have ML1 : cs.length ≤ ps.length := Nat.le_of_eq mk.len
  have ML2 : ps.length ≤ cs.length := Nat.le_of_eq mk.len.symm
  have MB := Lib.hid mk.bd
  have hTL : (endP ps cs id).length = (endsT ps).length := by unfold endP; rw [List.length_map]
  have hT1 := Nat.le_of_eq hTL
  have hT2 := Nat.le_of_eq hTL.symm
  clear hTL
  have TA : Hid (∀ i, i < (endsT ps).length → (endP ps cs id).getD i 0 = cs.getD ((endsT ps).getD i 0).toNat 0) := Lib.hid (fun i hi => by
    have e : (endsT ps).getD i 0 = (endsT ps)[i] := by rw [List.getD_eq_getElem?_getD, List.getElem?_eq_getElem hi]; rfl
    rw [e]
    unfold endP
    rw [List.getD_eq_getElem?_getD, List.getElem?_map, List.getElem?_eq_getElem hi]; rfl)
  have NEXT := Lib.hid (fun k (hk : k < (endP ps cs id).length) => take_next hk)
  obtain ⟨v1, v2, v3, rfl, ⟨p1, c1, rfl, _⟩, ⟨p2, c2, rfl, _⟩, ⟨p3, c3, rfl, l3, m3, _, i3⟩⟩ := h
  have P3 := Lib.hid i3
  clear i3 m3 mk
  obtain ⟨E, hE⟩ : ∃ E, E = endsT ps := ⟨_, rfl⟩
  obtain ⟨T, hT⟩ : ∃ T, T = endP ps cs id := ⟨_, rfl⟩
  rw [← hE] at EN EP EL EI hT1 hT2 TA
  rw [← hT] at hT1 hT2 TA NEXT ⊢
  clear hE hT
  have B1 := Lib.hid ((Below.refl w.heap.size w).alloc (Nat.le_refl _) (.cells #[.slice p1 ps.length c1, .slice p2 ws.length c2, .slice p3 cs.length c3] 32))
  have T1 := Lib.hid (show KBox (w.alloc (.cells #[.slice p1 ps.length c1, .slice p2 ws.length c2, .slice p3 cs.length c3] 32)) w.heap.size (.slice p1 ps.length c1) (.slice p2 ws.length c2) (.slice p3 cs.length c3) from alloc_heap w _)
  have B2 := Lib.hid (B1.out.alloc B1.out.size (.cells #[] 3))
  have T2 := Lib.hid (T1.out.alloc (.cells #[] 3))
  have O2 := Lib.hid (OwnV.empty (w.alloc (.cells #[.slice p1 ps.length c1, .slice p2 ws.length c2, .slice p3 cs.length c3] 32)) (w.heap.size + 1) (by simp))
  rw [show (w.alloc (.cells #[.slice p1 ps.length c1, .slice p2 ws.length c2, .slice p3 cs.length c3] 32)).heap.size = w.heap.size + 1 by simp] at O2
  clear B1 T1
  obtain ⟨wa, hwa⟩ : ∃ wa, wa = (w.alloc (.cells #[.slice p1 ps.length c1, .slice p2 ws.length c2, .slice p3 cs.length c3] 32)).alloc (.cells #[] 3) := ⟨_, rfl⟩
  have swa : wa.heap.size = w.heap.size + 1 + 1 := by rw [hwa]; simp
  rw [← hwa] at B2 T2 O2
  obtain ⟨x0, x1, x2⟩ := T2.out.cells
  obtain ⟨i0, hi, hz0, hz1, hz2⟩ := info_parts intInfo
  go_enter Try.func58, Try.ntmps58
  go_wp2_with fail
  rw [← hwa]
  clear hwa
  refine (EN.out _ _ _ _ rfl B2.out).mono ?_
  rintro e w1 ⟨u, rfl, o1, b1⟩
  obtain ⟨ge, ce, rfl, hg1, hg2⟩ := o1.shape EP
  have B3 := Lib.hid (B2.out.trans (b1.mono B2.out.size))
  have T3 := Lib.hid (T2.out.below b1 T2.out.lt)
  have O3 := Lib.hid ((O2.out.below b1).wide b1.size (Nat.le_refl _))
  have E3 := Lib.hid o1
  have s1 := b1.size
  clear o1 b1 x0 x1 x2 EN B2 T2 O2
  go_wp2_with fail
  go_loopw [3, 5] (fun o i wr => ∃ k : Nat, k ≤ E.length ∧ i = .int .i64 k ∧ Hid (OwnV wr (w.heap.size + 1) wr.heap.size o (T.take k)) ∧ Hid (∀ q, o.ownBlock = some q → q ≠ ge) ∧ Hid (KBox wr w.heap.size (.slice p1 ps.length c1) (.slice p2 ws.length c2) (.slice p3 cs.length c3)) ∧ Hid (∀ i, i < E.length → wr.cell? ⟨ge, i, none⟩ = some (.int .i64 (E.getD i 0))) ∧ Hid (Below w.heap.size w wr) ∧ Hid (ge < wr.heap.size)) (fun _ i _ => E.length - (intOf i).toNat)
  case atStart => exact ⟨0, Nat.zero_le _, rfl, Lib.hid (by rw [List.take_zero]; exact O3.out), Lib.hid (fun q hq => by have h : (some (w.heap.size + 1) : Option Nat) = some q := hq; injection h; omega), T3, Lib.hid (fun i hi => E3.out.cellGet hi), B3, Lib.hid hg2⟩
  case round =>
    obtain ⟨k, hk, rfl, HO, HN, HT, HE, HB, HG⟩ := hrel
    obtain ⟨x0, x1, x2⟩ := HT.out.cells
    clear T3 B3 O3 E3
    by_cases hlt : k < E.length
    · obtain ⟨j, hj, hjp, _⟩ := EI.out k hlt
      have hce : wr.cell? ⟨ge, k, none⟩ = some (.int .i64 j) := by rw [HE.out k hlt, hj]
      obtain ⟨bz, oz, rfl, hbz, hcz⟩ := P3.out.get (i := j) (by omega)
      have hz_j : wr.cell? ⟨bz, oz + j, none⟩ = some (.int .i64 (cs.getD j 0)) := by rw [HB.out.cell (p := ⟨bz, oz + j, none⟩) hbz, hcz]
      have LT : (T.take k).length = k := by rw [List.length_take]; omega
      have se := NEXT.out k (by omega)
      rw [TA.out k hlt, ← hj, Int.toNat_natCast] at se
      have zb := MB.out j (by omega)
      obtain ⟨L, hL⟩ : ∃ L, L = T.take k := ⟨_, rfl⟩
      rw [← hL] at HO LT se
      obtain ⟨y, hy⟩ : ∃ t, t = cs.getD j 0 := ⟨_, rfl⟩
      rw [← hy] at hz_j se zb
      have SE := Lib.hid se
      have NI := Lib.hid (show InI64 y by unfold InI64; omega)
      have le5 : L.length ≤ k := by omega
      have le6 : k ≤ L.length := by omega
      have HJ := Lib.hid hj
      clear hcz hy hL se hj LT
      have hsz := HT.out.lt
      have hgr := HG.out
      have hge : w.heap.size + 1 ≤ ge := by omega
      have i0' : (0 : Int) ≤ (k : Int) := by omega
      have i1' : (k : Int) < (E.length : Int) := by omega
      have j0 : (0 : Int) ≤ (j : Int) := by omega
      have j1 : (j : Int) < (cs.length : Int) := by omega
      have HD0 : Below wr.heap.size wr wr.drew := below_drew (Below.refl _ _)
      have HZ : wr.drew.heap.size = wr.heap.size := rfl
      have HOD := Lib.hid ((HO.out.below HD0).wide HD0.size (Nat.le_refl _))
      have HBD := Lib.hid (below_drew HB.out)
      have HTD := Lib.hid (HT.out.below HD0 HT.out.lt)
      have HOA := Lib.hid (HOD.out.row.alloc (.cells #[.int .i64 (y)] 3))
      have HNA := Lib.hid (cell_one_new wr.drew (.int .i64 (y)) 3)
      have KK : Hid (∀ w9, Below wr.heap.size wr w9 → w9.cell? ⟨w.heap.size, 2, none⟩ = some (.slice (some ⟨bz, oz, none⟩) cs.length c3) ∧ w9.cell? ⟨ge, k, none⟩ = some (.int .i64 j) ∧ w9.cell? ⟨bz, oz + j, none⟩ = some (.int .i64 y)) := Lib.hid (fun w9 h9 => ⟨(h9.cell (p := ⟨w.heap.size, 2, none⟩) (show w.heap.size < wr.heap.size from HT.out.lt)).trans x2, (h9.cell (p := ⟨ge, k, none⟩) (HG.out)).trans hce, (h9.cell (p := ⟨bz, oz + j, none⟩) (show bz < wr.heap.size from Nat.lt_of_lt_of_le hbz HB.out.size)).trans hz_j⟩)
      go_wp2_with fail
      refine wp_region_held_drew (S := fun w' => w'.cell? ⟨w.heap.size, 2, none⟩ = some (.slice (some ⟨bz, oz, none⟩) cs.length c3) ∧ w'.cell? ⟨ge, k, none⟩ = some (.int .i64 j) ∧ w'.cell? ⟨bz, oz + j, none⟩ = some (.int .i64 y)) (by kernel_rfl) (KK.out _ HD0) (fun hHeld => ?_)
      refine wpAnyH_take (i := 0) (oi := { dst := some 16, op := Op.move (Operand.tmp 3), type := 22, pos := "l6_hedging.go:247", after := #[], guard := none }) (v := ?_) rfl (by kernel_rfl) (by kernel_rfl) (by kernel_rfl) (fun _ _ _ h => h) (Or.inl ⟨by rfl, ?_⟩) (by assumption) ?_
      rotate_left 1
      · intro wq hSw; (try dsimp only at hSw); first | (go_simp; done) | (go_simp; with_reducible rfl)
      (try simp only [Act.put, List.setIfInBounds_toArray, List.set_cons_zero, List.set_cons_succ])
      refine wpAnyH_take (i := 1) (oi := { dst := some 17, op := Op.fieldAddr 32 (Operand.tmp 1) 1, type := 0, pos := "l6_hedging.go:247", after := #[], guard := none }) (v := ?_) rfl (by kernel_rfl) (by kernel_rfl) (by kernel_rfl) (fun _ _ _ h => h) (Or.inl ⟨by rfl, ?_⟩) (by assumption) ?_
      rotate_left 1
      · intro wq hSw; (try dsimp only at hSw); first | (go_simp; done) | (go_simp; with_reducible rfl)
      (try simp only [Act.put, List.setIfInBounds_toArray, List.set_cons_zero, List.set_cons_succ])
      refine wpAnyH_take (i := 2) (oi := { dst := some 18, op := Op.load 22 (Operand.tmp 17), type := 22, pos := "l6_hedging.go:247", after := #[{ on := 1, ground := Ground.data }], guard := none }) (v := ?_) rfl (by kernel_rfl) (by kernel_rfl) (by kernel_rfl) (fun _ _ _ h => h) (Or.inl ⟨by rfl, ?_⟩) (by assumption) ?_
      rotate_left 1
      · intro wq hSw; (try dsimp only at hSw); first | (go_simp; done) | (go_simp; with_reducible rfl)
      (try simp only [Act.put, List.setIfInBounds_toArray, List.set_cons_zero, List.set_cons_succ])
      refine wpAnyH_take (i := 3) (oi := { dst := some 19, op := Op.move (Operand.tmp 4), type := 22, pos := "l6_hedging.go:247", after := #[], guard := none }) (v := ?_) rfl (by kernel_rfl) (by kernel_rfl) (by kernel_rfl) (fun _ _ _ h => h) (Or.inl ⟨by rfl, ?_⟩) (by assumption) ?_
      rotate_left 1
      · intro wq hSw; (try dsimp only at hSw); first | (go_simp; done) | (go_simp; with_reducible rfl)
      (try simp only [Act.put, List.setIfInBounds_toArray, List.set_cons_zero, List.set_cons_succ])
      refine wpAnyH_take (i := 4) (oi := { dst := some 20, op := Op.move (Operand.tmp 5), type := 3, pos := "l6_hedging.go:247", after := #[], guard := none }) (v := ?_) rfl (by kernel_rfl) (by kernel_rfl) (by kernel_rfl) (fun _ _ _ h => h) (Or.inl ⟨by rfl, ?_⟩) (by assumption) ?_
      rotate_left 1
      · intro wq hSw; (try dsimp only at hSw); first | (go_simp; done) | (go_simp; with_reducible rfl)
      (try simp only [Act.put, List.setIfInBounds_toArray, List.set_cons_zero, List.set_cons_succ])
      refine wpAnyH_take (i := 5) (oi := { dst := some 21, op := Op.indexAddr 22 (Operand.tmp 19) (Operand.tmp 20), type := 0, pos := "l6_hedging.go:247", after := #[{ on := 3, ground := Ground.data }, { on := 4, ground := Ground.data }], guard := none }) (v := ?_) rfl (by kernel_rfl) (by kernel_rfl) (by kernel_rfl) (fun _ _ _ h => h) (Or.inl ⟨by rfl, ?_⟩) (by assumption) ?_
      rotate_left 1
      · intro wq hSw; (try dsimp only at hSw); first | (go_simp; done) | (go_simp; with_reducible rfl)
      (try simp only [Act.put, List.setIfInBounds_toArray, List.set_cons_zero, List.set_cons_succ])
      refine wpAnyH_take (i := 6) (oi := { dst := some 22, op := Op.load 3 (Operand.tmp 21), type := 3, pos := "l6_hedging.go:247", after := #[{ on := 5, ground := Ground.data }], guard := none }) (v := ?_) rfl (by kernel_rfl) (by kernel_rfl) (by kernel_rfl) (fun _ _ _ h => h) (Or.inl ⟨by rfl, ?_⟩) (by assumption) ?_
      rotate_left 1
      · intro wq hSw; (try dsimp only at hSw); first | (go_simp; done) | (go_simp; with_reducible rfl)
      (try simp only [Act.put, List.setIfInBounds_toArray, List.set_cons_zero, List.set_cons_succ])
      refine wpAnyH_take (i := 7) (oi := { dst := some 23, op := Op.indexAddr 22 (Operand.tmp 18) (Operand.tmp 22), type := 0, pos := "l6_hedging.go:247", after := #[{ on := 2, ground := Ground.data }, { on := 6, ground := Ground.data }], guard := none }) (v := ?_) rfl (by kernel_rfl) (by kernel_rfl) (by kernel_rfl) (fun _ _ _ h => h) (Or.inl ⟨by rfl, ?_⟩) (by assumption) ?_
      rotate_left 1
      · intro wq hSw; (try dsimp only at hSw); first | (go_simp; done) | (go_simp; with_reducible rfl)
      (try simp only [Act.put, List.setIfInBounds_toArray, List.set_cons_zero, List.set_cons_succ])
      refine wpAnyH_take (i := 8) (oi := { dst := some 24, op := Op.load 3 (Operand.tmp 23), type := 3, pos := "l6_hedging.go:247", after := #[{ on := 7, ground := Ground.data }], guard := none }) (v := ?_) rfl (by kernel_rfl) (by kernel_rfl) (by kernel_rfl) (fun _ _ _ h => h) (Or.inl ⟨by rfl, ?_⟩) (by assumption) ?_
      rotate_left 1
      · intro wq hSw; (try dsimp only at hSw); first | (go_simp; done) | (go_simp; with_reducible rfl)
      (try simp only [Act.put, List.setIfInBounds_toArray, List.set_cons_zero, List.set_cons_succ])
      refine wpAnyH_ready (rs := [9]) (by kernel_rfl) (by simp) ?_
      refine AllReadyH.cons (o := { dst := some 25, op := Op.buildSlice 22 1 #[(0, Operand.tmp 24)], type := 22, pos := "l6_hedging.go:247", after := #[{ on := 8, ground := Ground.data }], guard := none }) rfl (fun KQ hKQ => ?_) AllReadyH.nil
      go_simp
      refine hKQ.out _ _ (KK.out _ (HD0.alloc (Nat.le_refl _) _)) (fun hHeld => ?_)
      (try simp only [Act.put, List.setIfInBounds_toArray, List.set_cons_zero, List.set_cons_succ])
      refine wpAnyH_ready (rs := [10]) (by kernel_rfl) (by simp) ?_
      refine AllReadyH.cons (o := { dst := some 26, op := Op.call { callee := Callee.builtin Builtin.append, args := #[Operand.tmp 16, Operand.tmp 25], argTypes := #[22, 22] }, type := 22, pos := "l6_hedging.go:247", after := #[{ on := 0, ground := Ground.data }, { on := 9, ground := Ground.data }], guard := none }) rfl (fun KQ hKQ => ?_) AllReadyH.nil
      refine step_append_lies _ rfl _ _ 22 rfl (w.heap.size + 1) 3 i0 (.int .i64 0) 1 8 Try.underlying22 hi hz0 hz1 hz2 rfl (by decide) _ L.length (L.map (.int .i64)) rfl HOA.out ⟨wr.drew.heap.size, 0, none⟩ 1 1 [.int .i64 (y)] rfl rfl HNA.out (fun u hu => by simp at hu; subst hu; rfl) (by omega) (by unfold maxLen; omega) (by omega) (by simp; omega) _ rfl ?_
      intro g4 cap4 w4 hown3 hgrow3 hat3 hlt3
      have own3 := Lib.hid (HOD.out.app NI.out hown3)
      have bel3 := Lib.hid ((HBD.out.alloc HBD.out.size _).grown hgrow3 (by simp; omega) (fun q hq => by have := (HOA.out.lt q hq).1; omega))
      have box3 := Lib.hid ((HTD.out.alloc _).grown hgrow3 (fun q hq => (HOA.out.lt q hq).1) (by omega))
      have far : Hid (∀ b o v, b < wr.heap.size → (∀ q, _ = some q → q ≠ b) → wr.cell? ⟨b, o, none⟩ = some v → w4.cell? ⟨b, o, none⟩ = some v) := Lib.hid (fun b o v hb hne hv => by
        rw [hgrow3.cell_far ⟨b, o, none⟩ (by simp; omega) (fun e => hne b e.symm rfl)]
        show (wr.drew.alloc _).cell? _ = _
        rw [World.cell?_alloc_lt _ _ _ (by show b < wr.drew.heap.size; omega)]
        exact hv)
      have n3 : Hid (∀ q, (Value.slice (some ⟨g4, 0, none⟩) (L.length + 1) cap4).ownBlock = some q → q ≠ ge) := Lib.hid (fun q hq => by
        have e : (some g4 : Option Nat) = some q := hq
        injection e with e
        subst e
        rcases hat3 with h | h
        · exact HN.out _ h
        · simp at h; omega)
      have e3 : Hid (∀ i, i < E.length → w4.cell? ⟨ge, i, none⟩ = some (.int .i64 (E.getD i 0))) := Lib.hid (fun i hi => far.out _ _ _ hgr (fun q hq => HN.out q hq) (HE.out i hi))
      have g3 : Hid (ge < w4.heap.size) := Lib.hid (by have := hgrow3.size; simp at this; omega)
      obtain ⟨e0, e1, e2⟩ := KK.out _ (Below.refl wr.heap.size wr)
      clear hown3
      refine hKQ.out _ _ ⟨far.out _ _ _ (show w.heap.size < wr.heap.size from HT.out.lt) (fun q hq => by have := (HOA.out.lt q hq).1; omega) e0, far.out _ _ _ (HG.out) (fun q hq => HN.out q hq) e1, far.out _ _ _ (show bz < wr.heap.size from Nat.lt_of_lt_of_le hbz HB.out.size) (fun q hq => by have := (HOA.out.lt q hq).1; have : bz < w.heap.size := hbz; omega) e2⟩ (fun hHeld => ?_)
      (try simp only [Act.put, List.setIfInBounds_toArray, List.set_cons_zero, List.set_cons_succ])
      refine wpAnyH_take (i := 11) (oi := { dst := some 3, op := Op.assign (Operand.tmp 26), type := 22, pos := "l6_hedging.go:247", after := #[{ on := 10, ground := Ground.data }, { on := 10, ground := Ground.chain }, { on := 0, ground := Ground.phase }, { on := 1, ground := Ground.phase }, { on := 2, ground := Ground.phase }, { on := 3, ground := Ground.phase }, { on := 4, ground := Ground.phase }, { on := 5, ground := Ground.phase }, { on := 6, ground := Ground.phase }, { on := 7, ground := Ground.phase }, { on := 8, ground := Ground.phase }, { on := 9, ground := Ground.phase }, { on := 10, ground := Ground.phase }], guard := none }) (v := ?_) rfl (by kernel_rfl) (by kernel_rfl) (by kernel_rfl) (fun _ _ _ h => h) (Or.inl ⟨by rfl, ?_⟩) (by assumption) ?_
      rotate_left 1
      · intro wq hSw; (try dsimp only at hSw); first | (go_simp; done) | (go_simp; with_reducible rfl)
      (try simp only [Act.put, List.setIfInBounds_toArray, List.set_cons_zero, List.set_cons_succ])
      refine wpAnyH_done (by kernel_rfl) ?_ _
      go_wp2_with fail
      go_roundw
      case rel => exact ⟨k + 1, by omega, by go_num, Lib.hid (by rw [SE.out]; exact own3.out), n3, box3, e3, bel3, g3⟩
      case measure => simp [intOf]; omega
    · obtain rfl : k = E.length := by omega
      rw [List.take_of_length_le (by omega)] at HO
      have FIN : Hid (∀ o, OwnV wr (w.heap.size + 1) wr.heap.size o T → NewInts T w (.returned o) wr) := Lib.hid (fun o ho => ⟨o, rfl, ho.low (by omega), HB.out⟩)
      go_wp2_with fail
      go_ret
      exact FIN.out _ HO.out
set_option maxRecDepth 100000 in
set_option maxHeartbeats 4000000 in
theorem callS (ps ws cs : List Int) (st : Int) (v : Value) (w : World) (hn : cs.length ≤ 1048576) (h : MktV w w.heap.size v ps ws cs) :
    Calls Try.prog 47 #[v, .int .i64 st] w (NewIntsB (ifC ps ws cs st (endP ps cs fun z => max 0 (z - st))) (goodM ps ws cs && strikeB st) w) := by
  have G := Lib.hid (fun w' (hb : Below w.heap.size w w') => mktS ps ws cs v w' hn (h.boxed hb))
  have F := Lib.hid (fun w => inS st 0 20 w)
  have EC := Lib.hid (fun (mk : Mkt ps ws cs) w' (hb : Below w.heap.size w w') => endPS ps ws cs v w' mk (h.boxed hb))
  obtain ⟨p1, c1, p2, c2, p3, c3, rfl⟩ := h.shape
  clear h
  have D : Hid (ifC ps ws cs st (endP ps cs fun z => max 0 (z - st)) = if (goodM ps ws cs && strikeB st) = true then (endP ps cs fun z => max 0 (z - st)) else []) := Lib.hid rfl
  have DS : Hid (strikeB st = decide (0 ≤ st ∧ st ≤ 20)) := Lib.hid rfl
  have B1 := Lib.hid ((Below.refl w.heap.size w).alloc (Nat.le_refl _) (.cells #[.slice p1 ps.length c1, .slice p2 ws.length c2, .slice p3 cs.length c3] 32))
  have T1 := Lib.hid (show KBox (w.alloc (.cells #[.slice p1 ps.length c1, .slice p2 ws.length c2, .slice p3 cs.length c3] 32)) w.heap.size (.slice p1 ps.length c1) (.slice p2 ws.length c2) (.slice p3 cs.length c3) from alloc_heap w _)
  have B2 := Lib.hid (B1.out.alloc B1.out.size (.cells #[] 3))
  have T2 := Lib.hid (T1.out.alloc (.cells #[] 3))
  have O2 := Lib.hid (OwnV.empty (w.alloc (.cells #[.slice p1 ps.length c1, .slice p2 ws.length c2, .slice p3 cs.length c3] 32)) (w.heap.size + 1) (by simp))
  rw [show (w.alloc (.cells #[.slice p1 ps.length c1, .slice p2 ws.length c2, .slice p3 cs.length c3] 32)).heap.size = w.heap.size + 1 by simp] at O2
  clear B1 T1
  obtain ⟨wa, hwa⟩ : ∃ wa, wa = (w.alloc (.cells #[.slice p1 ps.length c1, .slice p2 ws.length c2, .slice p3 cs.length c3] 32)).alloc (.cells #[] 3) := ⟨_, rfl⟩
  have swa : wa.heap.size = w.heap.size + 1 + 1 := by rw [hwa]; simp
  rw [← hwa] at B2 T2 O2
  obtain ⟨x0, x1, x2⟩ := T2.out.cells
  obtain ⟨i0, hi, hz0, hz1, hz2⟩ := info_parts intInfo
  cases hg : goodM ps ws cs
  · rw [hg, Bool.false_and, if_neg (by decide)] at D
    rw [hg] at G
    rw [D.out, Bool.false_and]
    clear hg D
    go_enter Try.func47, Try.ntmps47
    go_wp2_with fail
    rw [← hwa]
    clear hwa
    refine (G.out _ B2.out).mono ?_
    rintro e w1 ⟨rfl, b1⟩
    have FIN : Hid (NewIntsB [] false w (.returned (.tuple #[.slice (some ⟨w.heap.size + 1, 0, none⟩) 0 0, .bool false])) w1) := Lib.hid ⟨_, rfl, (((O2.out.below b1).wide b1.size (Nat.le_refl _))).low (by omega), B2.out.trans (b1.mono B2.out.size)⟩
    clear b1
    go_wp2_with fail
    go_ret2
    exact FIN.out
  · have MK := Lib.hid (goodM_iff.1 hg)
    have EC2 := Lib.hid (EC.out MK.out)
    rw [hg, Bool.true_and] at D
    rw [hg] at G
    rw [Bool.true_and]
    clear hg EC
    rw [← DS.out] at F
    cases hs : strikeB st
    · rw [hs, if_neg (by decide)] at D
      rw [hs] at F
      rw [D.out]
      clear hs D DS
      go_enter Try.func47, Try.ntmps47
      go_wp2_with fail
      rw [← hwa]
      clear hwa
      refine (G.out _ B2.out).mono ?_
      rintro e w1 ⟨rfl, b1⟩
      have FIN : Hid (NewIntsB [] false w (.returned (.tuple #[.slice (some ⟨w.heap.size + 1, 0, none⟩) 0 0, .bool false])) w1) := Lib.hid ⟨_, rfl, (((O2.out.below b1).wide b1.size (Nat.le_refl _))).low (by omega), B2.out.trans (b1.mono B2.out.size)⟩
      clear b1
      go_wp2_with fail
      refine (F.out _).mono ?_
      rintro e w2 ⟨rfl, rfl⟩
      go_wp2_with fail
      go_ret2
      exact FIN.out
    · obtain ⟨s0, s1⟩ : 0 ≤ st ∧ st ≤ 20 := of_decide_eq_true hs
      have EP := ends_pos MK.out.good
      have EL := ends_le ps
      have n24 := MK.out.good.n24
      have PLe : (endP ps cs id).length = (endsT ps).length := by unfold endP; rw [List.length_map]
      have TMe : (endP ps cs fun z => max 0 (z - st)) = (endP ps cs id).map fun z => max 0 (z - st) := by
        unfold endP
        rw [List.map_map]
        rfl
      have PB : Hid (∀ i, i < (endP ps cs id).length → 0 ≤ (endP ps cs id).getD i 0 ∧ (endP ps cs id).getD i 0 ≤ 20) := Lib.hid (fun i hi => by
        have hm := getD_mem hi
        unfold endP at hm ⊢
        obtain ⟨z, hz, e⟩ := List.mem_map.1 hm
        obtain ⟨x, rfl, hx, _⟩ := nodesW_mem (p := leafB ps) (n := ps.length) hz
        rw [← e, Int.toNat_natCast]
        exact MK.out.bd x (by have := MK.out.len; omega))
      have PP : 0 < (endP ps cs id).length := by omega
      have PN : (endP ps cs id).length ≤ 24 := by omega
      have TA : Hid (∀ i, i < (endP ps cs id).length → (endP ps cs fun z => max 0 (z - st)).getD i 0 = (fun z => max 0 (z - st)) ((endP ps cs id).getD i 0)) := Lib.hid (fun i hi => by
        rw [TMe, List.getD_eq_getElem?_getD, List.getElem?_map, List.getElem?_eq_getElem hi, List.getD_eq_getElem?_getD, List.getElem?_eq_getElem hi]; rfl)
      have TL1 : (endP ps cs fun z => max 0 (z - st)).length ≤ (endP ps cs id).length := by rw [TMe, List.length_map]; exact Nat.le_refl _
      have TL2 : (endP ps cs id).length ≤ (endP ps cs fun z => max 0 (z - st)).length := by rw [TMe, List.length_map]; exact Nat.le_refl _
      have NEXT := Lib.hid (fun k (hk : k < (endP ps cs fun z => max 0 (z - st)).length) => take_next hk)
      rw [hs, if_pos rfl] at D
      rw [hs] at F
      obtain ⟨T, hT⟩ : ∃ T, T = endP ps cs fun z => max 0 (z - st) := ⟨_, rfl⟩
      obtain ⟨P, hP⟩ : ∃ P, P = endP ps cs id := ⟨_, rfl⟩
      rw [D.out, ← hT]
      rw [← hT] at TA TL1 TL2 NEXT
      rw [← hP] at TA TL1 TL2 PB PP PN EC2
      clear hs D DS PLe TMe EP EL n24 MK hT hP
      go_enter Try.func47, Try.ntmps47
      go_wp2_with fail
      rw [← hwa]
      clear hwa
      refine (G.out _ B2.out).mono ?_
      rintro e w1 ⟨rfl, b1⟩
      have HB1 := Lib.hid (B2.out.trans (b1.mono B2.out.size))
      have U1 := Lib.hid (T2.out.below b1 T2.out.lt)
      have O3 := Lib.hid ((O2.out.below b1).wide b1.size (Nat.le_refl _))
      have sz1 := b1.size
      obtain ⟨y0, y1, y2⟩ := U1.out.cells
      clear b1 x0 x1 x2 O2
      go_wp2_with fail
      refine (F.out _).mono ?_
      rintro e w2 ⟨rfl, rfl⟩
      go_wp2_with fail
      refine (EC2.out _ HB1.out).mono ?_
      rintro e w3 ⟨u, rfl, o3, b3⟩
      obtain ⟨gp, cp, rfl, hg1, hg2⟩ := o3.shape PP
      have HB3 := Lib.hid (HB1.out.trans (b3.mono HB1.out.size))
      have O4 := Lib.hid ((O3.out.below b3).wide b3.size (Nat.le_refl _))
      have P3 := Lib.hid o3
      have sz3 := b3.size
      clear o3 b3 y0 y1 y2 G F EC2 U1 T2 O3
      go_wp2_with fail
      go_loopw [6, 8] (fun o i wr => ∃ k : Nat, k ≤ P.length ∧ i = .int .i64 k ∧ Hid (OwnV wr (w.heap.size + 1) wr.heap.size o (T.take k)) ∧ Hid (∀ q, o.ownBlock = some q → q ≠ gp) ∧ Hid (∀ i, i < P.length → wr.cell? ⟨gp, i, none⟩ = some (.int .i64 (P.getD i 0))) ∧ Hid (Below w.heap.size w wr) ∧ Hid (gp < wr.heap.size) ∧ Hid (w.heap.size + 1 ≤ wr.heap.size)) (fun _ i _ => P.length - (intOf i).toNat)
      case atStart => exact ⟨0, Nat.zero_le _, rfl, Lib.hid (by rw [List.take_zero]; exact O4.out), Lib.hid (fun q hq => by (have h : (some (w.heap.size + 1) : Option Nat) = some q := hq); injection h; omega), Lib.hid (fun i hi => P3.out.cellGet hi), HB3, Lib.hid hg2, Lib.hid (by omega)⟩
      case round =>
        obtain ⟨k, hk, rfl, HO, HN, HE, HB, HG, HS⟩ := hrel
        clear HB3 O4 P3 HB1
        by_cases hlt : k < P.length
        · have hce := HE.out k hlt
          have se := NEXT.out k (by omega)
          have pb := PB.out k hlt
          rw [TA.out k hlt] at se
          have LT : (T.take k).length = k := by rw [List.length_take]; omega
          obtain ⟨L, hL⟩ : ∃ L, L = T.take k := ⟨_, rfl⟩
          rw [← hL] at HO LT se
          obtain ⟨z, hz⟩ : ∃ z, z = P.getD k 0 := ⟨_, rfl⟩
          rw [← hz] at hce se pb
          have SE := Lib.hid se
          have le5 : L.length ≤ k := by omega
          have le6 : k ≤ L.length := by omega
          have lgp := HG.out
          have lws := HS.out
          have i0' : (0 : Int) ≤ (k : Int) := by omega
          have i1' : (k : Int) < (P.length : Int) := by omega
          have MS := Lib.hid (fun w => mostS (z - st) 0 w)
          rw [show max (z - st) 0 = max 0 (z - st) by omega] at MS
          have NI := Lib.hid (show InI64 (max 0 (z - st)) by unfold InI64; omega)
          clear hL se LT hz
          obtain ⟨y, hy⟩ : ∃ y, y = max 0 (z - st) := ⟨_, rfl⟩
          have SE2 : Hid (T.take (k + 1) = L ++ [y]) := Lib.hid (by rw [SE.out, hy])
          rw [← hy] at MS NI
          clear hy SE
          go_wp2_with fail
          refine (MS.out _).mono ?_
          rintro e w9 ⟨rfl, rfl⟩
          go_wp2_with (at_builtin; refine wpList_append_lies _ rfl _ _ 22 rfl (w.heap.size + 1) 3 i0 (.int .i64 0) 1 8 Try.underlying22 hi hz0 hz1 hz2 rfl (by decide) _ L.length (L.map (.int .i64)) rfl (HO.out.row.alloc _) ⟨wr.heap.size, 0, none⟩ 1 1 [.int .i64 y] rfl rfl (cell_one_new _ _ _) (fun x hx => by simp at hx; subst hx; rfl) (by omega) (by unfold maxLen; omega) (by omega) (by simp; omega) _ rfl ?_; intro g4 cap4 w4 hown3 hgrow3 hat3 hlt3)
          have own3 := Lib.hid (HO.out.app NI.out hown3)
          have bel3 := Lib.hid ((HB.out.alloc HB.out.size _).grown hgrow3 (by simp; omega) (fun q hq => by have := (HO.out.row.lt q hq).1; omega))
          have n3 : Hid (∀ q, (Value.slice (some ⟨g4, 0, none⟩) (L.length + 1) cap4).ownBlock = some q → q ≠ gp) := Lib.hid (fun q hq => by
            have e : (some g4 : Option Nat) = some q := hq
            injection e with e
            subst e
            rcases hat3 with h | h
            · exact HN.out _ h
            · simp at h; omega)
          have e3 : Hid (∀ i, i < P.length → w4.cell? ⟨gp, i, none⟩ = some (.int .i64 (P.getD i 0))) := Lib.hid (fun i hi => by
            rw [hgrow3.cell_far ⟨gp, i, none⟩ (by simp; omega) (fun e => HN.out gp e.symm rfl)]
            show (wr.alloc _).cell? _ = _
            rw [World.cell?_alloc_lt _ _ _ (by show gp < wr.heap.size; omega)]
            exact HE.out i hi)
          have g3 : Hid (gp < w4.heap.size) := Lib.hid (by have := hgrow3.size; simp at this; omega)
          have l3 : Hid (w.heap.size + 1 ≤ w4.heap.size) := Lib.hid (by have := hgrow3.size; simp at this; omega)
          clear hown3 hgrow3 hat3 hlt3
          go_roundw
          case rel => exact ⟨k + 1, by omega, by go_num, Lib.hid (by rw [SE2.out]; exact own3.out), n3, e3, bel3, g3, l3⟩
          case measure => simp [intOf]; omega
        · obtain rfl : k = P.length := by omega
          rw [List.take_of_length_le (by omega)] at HO
          have FIN : Hid (∀ o, OwnV wr (w.heap.size + 1) wr.heap.size o T → NewIntsB T true w (.returned (.tuple #[o, .bool true])) wr) := Lib.hid (fun o ho => ⟨o, rfl, ho.low (by omega), HB.out⟩)
          go_wp2_with fail
          go_ret2
          exact FIN.out _ HO.out
set_option maxRecDepth 100000 in
set_option maxHeartbeats 4000000 in
theorem putS (ps ws cs : List Int) (st : Int) (v : Value) (w : World) (hn : cs.length ≤ 1048576) (h : MktV w w.heap.size v ps ws cs) :
    Calls Try.prog 13 #[v, .int .i64 st] w (NewIntsB (ifC ps ws cs st (endP ps cs fun z => max 0 (st - z))) (goodM ps ws cs && strikeB st) w) := by
  have G := Lib.hid (fun w' (hb : Below w.heap.size w w') => mktS ps ws cs v w' hn (h.boxed hb))
  have F := Lib.hid (fun w => inS st 0 20 w)
  have EC := Lib.hid (fun (mk : Mkt ps ws cs) w' (hb : Below w.heap.size w w') => endPS ps ws cs v w' mk (h.boxed hb))
  obtain ⟨p1, c1, p2, c2, p3, c3, rfl⟩ := h.shape
  clear h
  have D : Hid (ifC ps ws cs st (endP ps cs fun z => max 0 (st - z)) = if (goodM ps ws cs && strikeB st) = true then (endP ps cs fun z => max 0 (st - z)) else []) := Lib.hid rfl
  have DS : Hid (strikeB st = decide (0 ≤ st ∧ st ≤ 20)) := Lib.hid rfl
  have B1 := Lib.hid ((Below.refl w.heap.size w).alloc (Nat.le_refl _) (.cells #[.slice p1 ps.length c1, .slice p2 ws.length c2, .slice p3 cs.length c3] 32))
  have T1 := Lib.hid (show KBox (w.alloc (.cells #[.slice p1 ps.length c1, .slice p2 ws.length c2, .slice p3 cs.length c3] 32)) w.heap.size (.slice p1 ps.length c1) (.slice p2 ws.length c2) (.slice p3 cs.length c3) from alloc_heap w _)
  have B2 := Lib.hid (B1.out.alloc B1.out.size (.cells #[] 3))
  have T2 := Lib.hid (T1.out.alloc (.cells #[] 3))
  have O2 := Lib.hid (OwnV.empty (w.alloc (.cells #[.slice p1 ps.length c1, .slice p2 ws.length c2, .slice p3 cs.length c3] 32)) (w.heap.size + 1) (by simp))
  rw [show (w.alloc (.cells #[.slice p1 ps.length c1, .slice p2 ws.length c2, .slice p3 cs.length c3] 32)).heap.size = w.heap.size + 1 by simp] at O2
  clear B1 T1
  obtain ⟨wa, hwa⟩ : ∃ wa, wa = (w.alloc (.cells #[.slice p1 ps.length c1, .slice p2 ws.length c2, .slice p3 cs.length c3] 32)).alloc (.cells #[] 3) := ⟨_, rfl⟩
  have swa : wa.heap.size = w.heap.size + 1 + 1 := by rw [hwa]; simp
  rw [← hwa] at B2 T2 O2
  obtain ⟨x0, x1, x2⟩ := T2.out.cells
  obtain ⟨i0, hi, hz0, hz1, hz2⟩ := info_parts intInfo
  cases hg : goodM ps ws cs
  · rw [hg, Bool.false_and, if_neg (by decide)] at D
    rw [hg] at G
    rw [D.out, Bool.false_and]
    clear hg D
    go_enter Try.func13, Try.ntmps13
    go_wp2_with fail
    rw [← hwa]
    clear hwa
    refine (G.out _ B2.out).mono ?_
    rintro e w1 ⟨rfl, b1⟩
    have FIN : Hid (NewIntsB [] false w (.returned (.tuple #[.slice (some ⟨w.heap.size + 1, 0, none⟩) 0 0, .bool false])) w1) := Lib.hid ⟨_, rfl, (((O2.out.below b1).wide b1.size (Nat.le_refl _))).low (by omega), B2.out.trans (b1.mono B2.out.size)⟩
    clear b1
    go_wp2_with fail
    go_ret2
    exact FIN.out
  · have MK := Lib.hid (goodM_iff.1 hg)
    have EC2 := Lib.hid (EC.out MK.out)
    rw [hg, Bool.true_and] at D
    rw [hg] at G
    rw [Bool.true_and]
    clear hg EC
    rw [← DS.out] at F
    cases hs : strikeB st
    · rw [hs, if_neg (by decide)] at D
      rw [hs] at F
      rw [D.out]
      clear hs D DS
      go_enter Try.func13, Try.ntmps13
      go_wp2_with fail
      rw [← hwa]
      clear hwa
      refine (G.out _ B2.out).mono ?_
      rintro e w1 ⟨rfl, b1⟩
      have FIN : Hid (NewIntsB [] false w (.returned (.tuple #[.slice (some ⟨w.heap.size + 1, 0, none⟩) 0 0, .bool false])) w1) := Lib.hid ⟨_, rfl, (((O2.out.below b1).wide b1.size (Nat.le_refl _))).low (by omega), B2.out.trans (b1.mono B2.out.size)⟩
      clear b1
      go_wp2_with fail
      refine (F.out _).mono ?_
      rintro e w2 ⟨rfl, rfl⟩
      go_wp2_with fail
      go_ret2
      exact FIN.out
    · obtain ⟨s0, s1⟩ : 0 ≤ st ∧ st ≤ 20 := of_decide_eq_true hs
      have EP := ends_pos MK.out.good
      have EL := ends_le ps
      have n24 := MK.out.good.n24
      have PLe : (endP ps cs id).length = (endsT ps).length := by unfold endP; rw [List.length_map]
      have TMe : (endP ps cs fun z => max 0 (st - z)) = (endP ps cs id).map fun z => max 0 (st - z) := by
        unfold endP
        rw [List.map_map]
        rfl
      have PB : Hid (∀ i, i < (endP ps cs id).length → 0 ≤ (endP ps cs id).getD i 0 ∧ (endP ps cs id).getD i 0 ≤ 20) := Lib.hid (fun i hi => by
        have hm := getD_mem hi
        unfold endP at hm ⊢
        obtain ⟨z, hz, e⟩ := List.mem_map.1 hm
        obtain ⟨x, rfl, hx, _⟩ := nodesW_mem (p := leafB ps) (n := ps.length) hz
        rw [← e, Int.toNat_natCast]
        exact MK.out.bd x (by have := MK.out.len; omega))
      have PP : 0 < (endP ps cs id).length := by omega
      have PN : (endP ps cs id).length ≤ 24 := by omega
      have TA : Hid (∀ i, i < (endP ps cs id).length → (endP ps cs fun z => max 0 (st - z)).getD i 0 = (fun z => max 0 (st - z)) ((endP ps cs id).getD i 0)) := Lib.hid (fun i hi => by
        rw [TMe, List.getD_eq_getElem?_getD, List.getElem?_map, List.getElem?_eq_getElem hi, List.getD_eq_getElem?_getD, List.getElem?_eq_getElem hi]; rfl)
      have TL1 : (endP ps cs fun z => max 0 (st - z)).length ≤ (endP ps cs id).length := by rw [TMe, List.length_map]; exact Nat.le_refl _
      have TL2 : (endP ps cs id).length ≤ (endP ps cs fun z => max 0 (st - z)).length := by rw [TMe, List.length_map]; exact Nat.le_refl _
      have NEXT := Lib.hid (fun k (hk : k < (endP ps cs fun z => max 0 (st - z)).length) => take_next hk)
      rw [hs, if_pos rfl] at D
      rw [hs] at F
      obtain ⟨T, hT⟩ : ∃ T, T = endP ps cs fun z => max 0 (st - z) := ⟨_, rfl⟩
      obtain ⟨P, hP⟩ : ∃ P, P = endP ps cs id := ⟨_, rfl⟩
      rw [D.out, ← hT]
      rw [← hT] at TA TL1 TL2 NEXT
      rw [← hP] at TA TL1 TL2 PB PP PN EC2
      clear hs D DS PLe TMe EP EL n24 MK hT hP
      go_enter Try.func13, Try.ntmps13
      go_wp2_with fail
      rw [← hwa]
      clear hwa
      refine (G.out _ B2.out).mono ?_
      rintro e w1 ⟨rfl, b1⟩
      have HB1 := Lib.hid (B2.out.trans (b1.mono B2.out.size))
      have U1 := Lib.hid (T2.out.below b1 T2.out.lt)
      have O3 := Lib.hid ((O2.out.below b1).wide b1.size (Nat.le_refl _))
      have sz1 := b1.size
      obtain ⟨y0, y1, y2⟩ := U1.out.cells
      clear b1 x0 x1 x2 O2
      go_wp2_with fail
      refine (F.out _).mono ?_
      rintro e w2 ⟨rfl, rfl⟩
      go_wp2_with fail
      refine (EC2.out _ HB1.out).mono ?_
      rintro e w3 ⟨u, rfl, o3, b3⟩
      obtain ⟨gp, cp, rfl, hg1, hg2⟩ := o3.shape PP
      have HB3 := Lib.hid (HB1.out.trans (b3.mono HB1.out.size))
      have O4 := Lib.hid ((O3.out.below b3).wide b3.size (Nat.le_refl _))
      have P3 := Lib.hid o3
      have sz3 := b3.size
      clear o3 b3 y0 y1 y2 G F EC2 U1 T2 O3
      go_wp2_with fail
      go_loopw [6, 8] (fun o i wr => ∃ k : Nat, k ≤ P.length ∧ i = .int .i64 k ∧ Hid (OwnV wr (w.heap.size + 1) wr.heap.size o (T.take k)) ∧ Hid (∀ q, o.ownBlock = some q → q ≠ gp) ∧ Hid (∀ i, i < P.length → wr.cell? ⟨gp, i, none⟩ = some (.int .i64 (P.getD i 0))) ∧ Hid (Below w.heap.size w wr) ∧ Hid (gp < wr.heap.size) ∧ Hid (w.heap.size + 1 ≤ wr.heap.size)) (fun _ i _ => P.length - (intOf i).toNat)
      case atStart => exact ⟨0, Nat.zero_le _, rfl, Lib.hid (by rw [List.take_zero]; exact O4.out), Lib.hid (fun q hq => by (have h : (some (w.heap.size + 1) : Option Nat) = some q := hq); injection h; omega), Lib.hid (fun i hi => P3.out.cellGet hi), HB3, Lib.hid hg2, Lib.hid (by omega)⟩
      case round =>
        obtain ⟨k, hk, rfl, HO, HN, HE, HB, HG, HS⟩ := hrel
        clear HB3 O4 P3 HB1
        by_cases hlt : k < P.length
        · have hce := HE.out k hlt
          have se := NEXT.out k (by omega)
          have pb := PB.out k hlt
          rw [TA.out k hlt] at se
          have LT : (T.take k).length = k := by rw [List.length_take]; omega
          obtain ⟨L, hL⟩ : ∃ L, L = T.take k := ⟨_, rfl⟩
          rw [← hL] at HO LT se
          obtain ⟨z, hz⟩ : ∃ z, z = P.getD k 0 := ⟨_, rfl⟩
          rw [← hz] at hce se pb
          have SE := Lib.hid se
          have le5 : L.length ≤ k := by omega
          have le6 : k ≤ L.length := by omega
          have lgp := HG.out
          have lws := HS.out
          have i0' : (0 : Int) ≤ (k : Int) := by omega
          have i1' : (k : Int) < (P.length : Int) := by omega
          have MS := Lib.hid (fun w => mostS (st - z) 0 w)
          rw [show max (st - z) 0 = max 0 (st - z) by omega] at MS
          have NI := Lib.hid (show InI64 (max 0 (st - z)) by unfold InI64; omega)
          clear hL se LT hz
          obtain ⟨y, hy⟩ : ∃ y, y = max 0 (st - z) := ⟨_, rfl⟩
          have SE2 : Hid (T.take (k + 1) = L ++ [y]) := Lib.hid (by rw [SE.out, hy])
          rw [← hy] at MS NI
          clear hy SE
          go_wp2_with fail
          refine (MS.out _).mono ?_
          rintro e w9 ⟨rfl, rfl⟩
          go_wp2_with (at_builtin; refine wpList_append_lies _ rfl _ _ 22 rfl (w.heap.size + 1) 3 i0 (.int .i64 0) 1 8 Try.underlying22 hi hz0 hz1 hz2 rfl (by decide) _ L.length (L.map (.int .i64)) rfl (HO.out.row.alloc _) ⟨wr.heap.size, 0, none⟩ 1 1 [.int .i64 y] rfl rfl (cell_one_new _ _ _) (fun x hx => by simp at hx; subst hx; rfl) (by omega) (by unfold maxLen; omega) (by omega) (by simp; omega) _ rfl ?_; intro g4 cap4 w4 hown3 hgrow3 hat3 hlt3)
          have own3 := Lib.hid (HO.out.app NI.out hown3)
          have bel3 := Lib.hid ((HB.out.alloc HB.out.size _).grown hgrow3 (by simp; omega) (fun q hq => by have := (HO.out.row.lt q hq).1; omega))
          have n3 : Hid (∀ q, (Value.slice (some ⟨g4, 0, none⟩) (L.length + 1) cap4).ownBlock = some q → q ≠ gp) := Lib.hid (fun q hq => by
            have e : (some g4 : Option Nat) = some q := hq
            injection e with e
            subst e
            rcases hat3 with h | h
            · exact HN.out _ h
            · simp at h; omega)
          have e3 : Hid (∀ i, i < P.length → w4.cell? ⟨gp, i, none⟩ = some (.int .i64 (P.getD i 0))) := Lib.hid (fun i hi => by
            rw [hgrow3.cell_far ⟨gp, i, none⟩ (by simp; omega) (fun e => HN.out gp e.symm rfl)]
            show (wr.alloc _).cell? _ = _
            rw [World.cell?_alloc_lt _ _ _ (by show gp < wr.heap.size; omega)]
            exact HE.out i hi)
          have g3 : Hid (gp < w4.heap.size) := Lib.hid (by have := hgrow3.size; simp at this; omega)
          have l3 : Hid (w.heap.size + 1 ≤ w4.heap.size) := Lib.hid (by have := hgrow3.size; simp at this; omega)
          clear hown3 hgrow3 hat3 hlt3
          go_roundw
          case rel => exact ⟨k + 1, by omega, by go_num, Lib.hid (by rw [SE2.out]; exact own3.out), n3, e3, bel3, g3, l3⟩
          case measure => simp [intOf]; omega
        · obtain rfl : k = P.length := by omega
          rw [List.take_of_length_le (by omega)] at HO
          have FIN : Hid (∀ o, OwnV wr (w.heap.size + 1) wr.heap.size o T → NewIntsB T true w (.returned (.tuple #[o, .bool true])) wr) := Lib.hid (fun o ho => ⟨o, rfl, ho.low (by omega), HB.out⟩)
          go_wp2_with fail
          go_ret2
          exact FIN.out _ HO.out
set_option maxHeartbeats 4000000 in
theorem shareS (ps ws cs : List Int) (v : Value) (w : World) (hn : cs.length ≤ 1048576) (h : MktV w w.heap.size v ps ws cs) :
    Calls Try.prog 50 #[v] w (NewIntsB (ifM ps ws cs (endP ps cs id)) (goodM ps ws cs) w) := by
  have G := Lib.hid (fun w' (hb : Below w.heap.size w w') => mktS ps ws cs v w' hn (h.boxed hb))
  have EC := Lib.hid (fun (mk : Mkt ps ws cs) w' (hb : Below w.heap.size w w') => endPS ps ws cs v w' mk (h.boxed hb))
  obtain ⟨p1, c1, p2, c2, p3, c3, rfl⟩ := h.shape
  clear h
  have D : Hid (ifM ps ws cs (endP ps cs id) = if goodM ps ws cs = true then endP ps cs id else []) := Lib.hid rfl
  have B1 := Lib.hid ((Below.refl w.heap.size w).alloc (Nat.le_refl _) (.cells #[.slice p1 ps.length c1, .slice p2 ws.length c2, .slice p3 cs.length c3] 32))
  have T1 := Lib.hid (show KBox (w.alloc (.cells #[.slice p1 ps.length c1, .slice p2 ws.length c2, .slice p3 cs.length c3] 32)) w.heap.size (.slice p1 ps.length c1) (.slice p2 ws.length c2) (.slice p3 cs.length c3) from alloc_heap w _)
  obtain ⟨wa, hwa⟩ : ∃ wa, wa = w.alloc (.cells #[.slice p1 ps.length c1, .slice p2 ws.length c2, .slice p3 cs.length c3] 32) := ⟨_, rfl⟩
  rw [← hwa] at B1 T1
  obtain ⟨x0, x1, x2⟩ := T1.out.cells
  cases hg : goodM ps ws cs
  · rw [hg, if_neg (by decide)] at D
    rw [hg] at G
    rw [D.out]
    clear hg D
    go_enter Try.func50, Try.ntmps50
    go_wp2_with fail
    rw [← hwa]
    clear hwa
    refine (G.out _ B1.out).mono ?_
    rintro e w1 ⟨rfl, b1⟩
    have HB1 := Lib.hid (B1.out.trans (b1.mono B1.out.size))
    clear b1
    go_wp2_with fail
    go_ret2
    exact newInts_empty HB1.out
  · have EC2 := Lib.hid (EC.out (goodM_iff.1 hg))
    rw [hg, if_pos rfl] at D
    rw [hg] at G
    obtain ⟨L, hL⟩ : ∃ L, L = endP ps cs id := ⟨_, rfl⟩
    rw [← hL] at EC2
    rw [D.out, ← hL]
    clear hg D EC hL
    go_enter Try.func50, Try.ntmps50
    go_wp2_with fail
    rw [← hwa]
    clear hwa
    refine (G.out _ B1.out).mono ?_
    rintro e w1 ⟨rfl, b1⟩
    have HB1 := Lib.hid (B1.out.trans (b1.mono B1.out.size))
    obtain ⟨y0, y1, y2⟩ := (T1.out.below b1 T1.out.lt).cells
    clear b1 x0 x1 x2
    go_wp2_with fail
    refine (EC2.out _ HB1.out).mono ?_
    rintro e w2 ⟨u, rfl, o2, b2⟩
    have FIN : Hid (NewIntsB L true w (.returned (.tuple #[u, .bool true])) w2) := Lib.hid ⟨_, rfl, o2.low HB1.out.size, HB1.out.trans (b2.mono HB1.out.size)⟩
    clear o2 b2
    go_wp2_with fail
    go_ret2
    exact FIN.out
end Go.Proofs.Ytamneibnjbimeab
