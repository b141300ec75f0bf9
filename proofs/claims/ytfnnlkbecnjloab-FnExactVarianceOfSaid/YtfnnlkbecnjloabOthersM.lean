/- OtherEnds in the model. -/
import Derived.Test.YtfnnlkbecnjloabOthers
import Derived.Test.YtfnnlkbecnjloabCutS
import Derived.Maps.AppendAt
namespace Go.Proofs.Ytfnnlkbecnjloab
open Go.RowKit
set_option linter.unusedVariables false
theorem ends_in {ps : List Int} {i : Nat} (hi : i < (endsT ps).length) : ∃ x : Nat, (x : Int) = (endsT ps).getD i 0 ∧ x < ps.length ∧ leafB ps x = true := by
  have hm : (endsT ps).getD i 0 ∈ endsT ps := by
    rw [List.getD_eq_getElem?_getD, List.getElem?_eq_getElem hi]
    exact List.getElem_mem hi
  obtain ⟨x, h1, h2, h3⟩ := nodesW_mem (p := leafB ps) (n := ps.length) hm
  exact ⟨x, h1.symm, h2, h3⟩
theorem ends_le (ps : List Int) : (endsT ps).length ≤ ps.length := nodesW_len _ _
theorem ends_pos {ps ws : List Int} (g : Good ps ws) : 0 < (endsT ps).length := by
  have h1 := g.n1
  refine List.length_pos_of_mem (a := ((ps.length - 1 : Nat) : Int)) ?_
  unfold endsT
  rw [List.mem_map]
  exact ⟨ps.length - 1, List.mem_filter.2 ⟨List.mem_range.2 (by omega), last_leaf g⟩, rfl⟩
set_option maxRecDepth 100000 in
set_option maxHeartbeats 4000000 in
theorem othersM (ps ws evs : List Int) (v u : Value) (w : World) (hl : evs.length ≤ 1048576) (h : TreeV w w.heap.size v ps ws) (hu : IntsV w w.heap.size u evs) :
    Calls Try.prog 37 #[v, u] w (NewIntsB (ifEv ps ws evs (othersT ps evs)) (evB ps ws evs) w) := by
  have EV := Lib.hid (fun w' (hb : Below w.heap.size w w') => eventS ps ws evs v u w' hl (h.boxed hb) ((hu.below hb).more hb.size))
  have EN := Lib.hid (fun (g : Good ps ws) w' (hb : Below w.heap.size w w') => endsS ps ws v w' (h.boxed hb) g.n24 (parAll g))
  have HS := Lib.hid (fun w' (hb : Below w.heap.size w w') z => hasS evs z u w.heap.size w' hl (hu.below hb))
  obtain ⟨p1, c1, p2, c2, rfl⟩ := h.shape
  obtain ⟨q, cq, rfl, _⟩ := hu
  clear h
  obtain ⟨i0, hi, hz0, hz1, hz2⟩ := info_parts intInfo
  have B1 := ((Below.refl w.heap.size w).alloc (Nat.le_refl _) (.cells #[.slice p1 ps.length c1, .slice p2 ws.length c2] 29)).alloc (by simp) (.cells #[] 3)
  have T1 := Lib.hid (TBox.alloc (show TBox (w.alloc (.cells #[.slice p1 ps.length c1, .slice p2 ws.length c2] 29)) w.heap.size (.slice p1 ps.length c1) (.slice p2 ws.length c2) from alloc_heap w _) (.cells #[] 3))
  have O1 := Lib.hid (OwnV.empty (w.alloc (.cells #[.slice p1 ps.length c1, .slice p2 ws.length c2] 29)) (w.heap.size + 1) (by simp))
  rw [show (w.alloc (.cells #[.slice p1 ps.length c1, .slice p2 ws.length c2] 29)).heap.size = w.heap.size + 1 by simp] at O1
  obtain ⟨wa, hwa⟩ : ∃ wa, wa = (w.alloc (.cells #[.slice p1 ps.length c1, .slice p2 ws.length c2] 29)).alloc (.cells #[] 3) := ⟨_, rfl⟩
  rw [← hwa] at B1 T1 O1
  have sz : wa.heap.size = w.heap.size + 2 := by rw [hwa]; simp
  have SZ := Lib.hid sz
  have HBA := Lib.hid B1
  clear B1 sz
  obtain ⟨x0, x1⟩ := T1.out.cells
  obtain ⟨eb, heb⟩ : ∃ eb, eb = evB ps ws evs := ⟨_, rfl⟩
  rw [← heb] at EV
  have HEV := Lib.hid heb
  clear heb
  cases eb
  · have IG := Lib.hid (show ifEv ps ws evs (othersT ps evs) = [] from by unfold ifEv; rw [← HEV.out]; rfl)
    go_enter Try.func37, Try.ntmps37
    go_wp2_with fail
    rw [← hwa]
    clear hwa
    refine (EV.out _ HBA.out).mono ?_
    rintro e w1 ⟨rfl, b1⟩
    have FIN : Hid (NewIntsB [] false w (.returned (.tuple #[.slice (some ⟨w.heap.size + 1, 0, none⟩) 0 0, .bool false])) w1) := Lib.hid ⟨_, rfl, ((O1.out.below b1).wide b1.size (Nat.le_refl _)).low (by omega), HBA.out.trans (b1.mono HBA.out.size)⟩
    clear b1 x0 x1
    go_wp2_with fail
    go_ret2
    rw [IG.out, ← HEV.out]
    exact FIN.out
  · have ev := evB_iff.1 HEV.out.symm
    have hn24 := ev.good.n24
    have hel := Nat.le_trans (ends_le ps) hn24
    have EN2 := Lib.hid (EN.out ev.good)
    have IG := Lib.hid (show ifEv ps ws evs (othersT ps evs) = othersT ps evs from by unfold ifEv; rw [← HEV.out]; rfl)
    have OF := Lib.hid (others_filter ps evs)
    have EI := Lib.hid (fun i (hi : i < (endsT ps).length) => ends_in hi)
    have EP := ends_pos ev.good
    obtain ⟨E, hE⟩ : ∃ E, E = endsT ps := ⟨_, rfl⟩
    rw [← hE] at EN2 OF hel EI EP
    clear hE EN ev
    go_enter Try.func37, Try.ntmps37
    go_wp2_with fail
    rw [← hwa]
    clear hwa
    refine (EV.out _ HBA.out).mono ?_
    rintro e w1 ⟨rfl, b1⟩
    have HB1 := Lib.hid (HBA.out.trans (b1.mono HBA.out.size))
    have HT1 := Lib.hid (T1.out.below b1 T1.out.lt)
    have O2 := Lib.hid ((O1.out.below b1).wide b1.size (Nat.le_refl _))
    have S1 := Lib.hid (Nat.le_trans (Nat.le_of_eq SZ.out.symm) b1.size)
    clear b1 x0 x1
    obtain ⟨x0, x1⟩ := HT1.out.cells
    go_wp2_with fail
    refine (EN2.out _ HB1.out).mono ?_
    rintro e w2 ⟨ue, rfl, o2, b2⟩
    have HB2 := Lib.hid (HB1.out.trans (b2.mono HB1.out.size))
    have O3 := Lib.hid ((O2.out.below b2).wide b2.size (Nat.le_refl _))
    obtain ⟨g, ce, rfl, hg1, hg2⟩ := o2.shape EP
    have DC : Hid (∀ j, j < E.length → w2.cell? ⟨g, j, none⟩ = some (.int .i64 (E.getD j 0))) := Lib.hid (fun j hj => o2.cellGet hj)
    have G1 := Lib.hid hg1
    have G2 := Lib.hid hg2
    clear o2 b2 x0 x1 O2 O1 hg1 hg2
    go_wp2_with fail
    go_loopw [6, 8] (fun o i wr => ∃ k : Nat, k ≤ E.length ∧ i = .int .i64 k ∧ Hid (OwnV wr (w.heap.size + 1) wr.heap.size o ((E.take k).filter (fun z => !inL evs z))) ∧ Hid (∀ q, o.ownBlock = some q → q ≠ g) ∧ Hid (∀ j, j < E.length → wr.cell? ⟨g, j, none⟩ = some (.int .i64 (E.getD j 0))) ∧ Hid (g < wr.heap.size) ∧ Hid (Below w.heap.size w wr)) (fun _ i _ => E.length - (intOf i).toNat)
    case atStart => exact ⟨0, Nat.zero_le _, rfl, O3, Lib.hid (fun q hq => by simp [Value.ownBlock] at hq; have := G1.out; have := S1.out; omega), DC, G2, HB2⟩
    case round =>
      obtain ⟨k, hk, rfl, HO, HQ, HD, HG, HB⟩ := hrel
      clear O3 HB2 DC
      by_cases hlt : k < E.length
      · have hc := HD.out k hlt
        obtain ⟨xn, hxn, hxl, _⟩ := EI.out k hlt
        have FT := Lib.hid (filter_take (q := fun z => !inL evs z) hlt)
        have i0' : (0 : Int) ≤ (k : Int) := by omega
        have i1 : (k : Int) < (E.length : Int) := by omega
        have LL : ((E.take k).filter (fun z => !inL evs z)).length ≤ k := Nat.le_trans (List.length_filter_le _ _) (by simp; omega)
        obtain ⟨L, hL⟩ : ∃ L, L = (E.take k).filter (fun z => !inL evs z) := ⟨_, rfl⟩
        rw [← hxn] at hc FT
        rw [← hL] at FT HO LL
        have C := Lib.hid (HS.out _ HB.out (xn : Int))
        clear hxn hL
        obtain ⟨t, ht⟩ : ∃ t, t = inL evs (xn : Int) := ⟨_, rfl⟩
        rw [← ht] at C FT
        clear ht
        cases t
        · have F := Lib.hid (show (E.take (k + 1)).filter (fun z => !inL evs z) = L ++ [(xn : Int)] by rw [FT.out]; rfl)
          clear FT
          go_wp2_with fail
          refine C.out.mono ?_
          rintro e w3 ⟨rfl, m, rfl⟩
          have HB1 := Lib.hid (below_drewN HB.out m)
          have HO1 := Lib.hid (HO.out.below (below_drewN (Below.refl _ _) m))
          have HD1 : Hid (∀ j, j < E.length → (wr.drewN m).cell? ⟨g, j, none⟩ = some (.int .i64 (E.getD j 0))) := Lib.hid (fun j hj => HD.out j hj)
          have HG1 : Hid (g < (wr.drewN m).heap.size) := Lib.hid HG.out
          have HO1' : Hid (OwnV (wr.drewN m) (w.heap.size + 1) (wr.drewN m).heap.size _ L) := HO1
          have hc' : (wr.drewN m).cell? ⟨g, k, none⟩ = some (.int .i64 (xn : Int)) := hc
          clear HB HO HD HG hc HO1
          obtain ⟨wq, hwq⟩ : ∃ wq, wq = wr.drewN m := ⟨_, rfl⟩
          rw [← hwq] at HB1 HO1' HD1 HG1 hc' ⊢
          clear hwq
          have hown := HO1'.out.row
          have hsz := HB1.out.size
          go_wp2_with (at_builtin; refine wpList_append_own_at _ rfl _ _ 22 rfl (w.heap.size + 1) 3 i0 (.int .i64 0) 1 8 Try.underlying22 hi hz0 hz1 hz2 rfl (by decide) _ L.length (L.map (.int .i64)) rfl (hown.alloc _) ⟨wq.heap.size, 0, none⟩ 1 1 [.int .i64 (xn : Int)] rfl rfl (cell_one_new _ _ _) (fun x hx => by simp at hx; subst hx; rfl) (by unfold maxLen; omega) (by omega) (by simp; have := HG1.out; have := G1.out; have := S1.out; omega) ?_; intro v' w4 hown3 hgrow3 hnil3 hloc3)
          have bel3 := Lib.hid ((HB1.out.alloc HB1.out.size _).grown hgrow3 (by simp; omega) (fun q hq => by have := (hown.lt q hq).1; omega))
          have own3 := Lib.hid (HO1'.out.app (x := (xn : Int)) (inI64_nat (by omega)) hown3)
          have q3 : Hid (∀ q, v'.ownBlock = some q → q ≠ g) := Lib.hid (fun q hq => by
            rcases hloc3 with h | h
            · exact HQ.out q (h.symm.trans hq)
            · rw [h] at hq; simp at hq; have := HG1.out; omega)
          have d3 : Hid (∀ j, j < E.length → w4.cell? ⟨g, j, none⟩ = some (.int .i64 (E.getD j 0))) := Lib.hid (fun j hj => by
            rw [ne_grown hgrow3 (by simp; have := HG1.out; omega) HQ.out, World.cell?_alloc_lt _ _ _ (by exact HG1.out)]; exact HD1.out j hj)
          have g3 : Hid (g < w4.heap.size) := Lib.hid (by have := hgrow3.size; simp at this; have := HG1.out; omega)
          clear hown hown3 hgrow3 hnil3 hloc3
          go_roundw
          case rel => exact ⟨k + 1, by omega, by go_num, Lib.hid (by rw [F.out]; exact own3.out), q3, d3, g3, bel3⟩
          case measure => simp [intOf]; omega
        · have F := Lib.hid (show (E.take (k + 1)).filter (fun z => !inL evs z) = L by rw [FT.out]; rfl)
          clear FT
          go_wp2_with fail
          refine C.out.mono ?_
          rintro e w3 ⟨rfl, m, rfl⟩
          have HB1 := Lib.hid (below_drewN HB.out m)
          have HO1 := Lib.hid (HO.out.below (below_drewN (Below.refl _ _) m))
          have HD1 : Hid (∀ j, j < E.length → (wr.drewN m).cell? ⟨g, j, none⟩ = some (.int .i64 (E.getD j 0))) := Lib.hid (fun j hj => HD.out j hj)
          have HG1 : Hid (g < (wr.drewN m).heap.size) := Lib.hid HG.out
          clear HB HO HD HG
          go_wp2
          go_roundw
          case rel => exact ⟨k + 1, by omega, by go_num, by rw [F.out]; exact HO1, HQ, HD1, HG1, HB1⟩
          case measure => simp [intOf]; omega
      · have FIN : Hid (NewIntsB (othersT ps evs) true w (.returned (.tuple #[_, .bool true])) wr) := Lib.hid ⟨_, rfl, by
          have := HO.out.low (lo' := w.heap.size) (by omega)
          rwa [List.take_of_length_le (by omega), OF.out] at this, HB.out⟩
        clear HO
        go_wp2
        go_ret2
        rw [IG.out, ← HEV.out]
        exact FIN.out
theorem others_len (ps ws evs : List Int) : (ifEv ps ws evs (othersT ps evs)).length ≤ 1048576 := by
  unfold ifEv
  split
  · rename_i h
    exact Nat.le_trans (nodesW_len _ _) (by have := (evB_iff.1 h).good.n24; omega)
  · simp
end Go.Proofs.Ytfnnlkbecnjloab
