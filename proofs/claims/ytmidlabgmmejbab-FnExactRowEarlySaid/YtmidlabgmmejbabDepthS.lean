/- The depths of the nodes, in the model. -/
import Derived.Test.YtmidlabgmmejbabDepthI
namespace Go.Proofs.Ytmidlabgmmejbab
open Go.RowKit
set_option linter.unusedVariables false
/-- A row of one number in a new block. -/
theorem OwnV.one (w : World) (lo : Nat) (x : Int) (hlo : lo ≤ w.heap.size) (hx : InI64 x) : OwnV (w.alloc (.cells #[.int .i64 x] 3)) lo (w.alloc (.cells #[.int .i64 x] 3)).heap.size (.slice (some ⟨w.heap.size, 0, none⟩) 1 1) [x] := by
  refine ⟨⟨rfl, .inr ⟨w.heap.size, 1, #[.int .i64 x], rfl, hlo, alloc_heap w _, by simp, by unfold maxLen; omega, rfl, rfl⟩⟩, ?_, Nat.le_refl _, ?_⟩
  · intro q hq
    simp [Value.ownBlock] at hq
    subst hq
    simp
  · intro z hz; simp at hz; subst hz; exact hx
set_option maxRecDepth 100000 in
set_option maxHeartbeats 4000000 in
theorem depthsS (ps ws : List Int) (v : Value) (w : World) (gd : Good ps ws) (h : TreeV w w.heap.size v ps ws) :
    Calls Try.prog 152 #[v] w (NewInts (depthsT ps) w) := by
  obtain ⟨v1, v2, rfl, ⟨p1, c1, rfl, l1, m1, _, i1⟩, ⟨p2, c2, rfl, l2, m2, _, i2⟩⟩ := h
  have P1 := Lib.hid i1
  clear i1 i2
  have hn := gd.n24
  have hn1 := gd.n1
  have GP := Lib.hid gd.par
  clear gd
  obtain ⟨i0, hi, hz0, hz1, hz2⟩ := info_parts intInfo
  have B1 := (Below.refl w.heap.size w).alloc (Nat.le_refl _) (.cells #[.slice p1 ps.length c1, .slice p2 ws.length c2] 37)
  have T1 : TBox (w.alloc (.cells #[.slice p1 ps.length c1, .slice p2 ws.length c2] 37)) w.heap.size (.slice p1 ps.length c1) (.slice p2 ws.length c2) := alloc_heap w _
  have O1 := OwnV.one (w.alloc (.cells #[.slice p1 ps.length c1, .slice p2 ws.length c2] 37)) (w.heap.size + 1) 0 (by simp) (by unfold InI64; omega)
  have T2 := Lib.hid (T1.alloc (.cells #[.int .i64 0] 3))
  have B2 := Lib.hid (B1.alloc (by simp) (.cells #[.int .i64 0] 3))
  have O2 := Lib.hid O1
  rw [show (w.alloc (.cells #[.slice p1 ps.length c1, .slice p2 ws.length c2] 37)).heap.size = w.heap.size + 1 by simp] at O2
  clear T1 O1 B1
  go_enter Try.func152, Try.ntmps152
  go_wp2
  go_loopw [3, 4] (fun o i wr => ∃ k : Nat, 1 ≤ k ∧ k ≤ ps.length ∧ i = .int .i64 k ∧ Hid (OwnV wr (w.heap.size + 1) wr.heap.size o (depthsL ps k)) ∧ Hid (TBox wr w.heap.size (.slice p1 ps.length c1) (.slice p2 ws.length c2)) ∧ Hid (Below w.heap.size w wr)) (fun _ i _ => ps.length - (intOf i).toNat)
  case atStart => exact ⟨1, Nat.le_refl _, hn1, rfl, O2, T2, B2⟩
  case round =>
    obtain ⟨k, hk1, hk, rfl, HO, HT, HB⟩ := hrel
    obtain ⟨x0, x1⟩ := HT.out.cells
    clear T2 B2 O2
    by_cases hlt : k < ps.length
    · obtain ⟨b, off, rfl, hb, hc⟩ := P1.out.get hlt
      obtain ⟨q1, q2⟩ := GP.out k (by omega) hlt
      obtain ⟨j, hj⟩ : ∃ j : Nat, ps.getD k 0 = (j : Int) := ⟨(ps.getD k 0).toNat, by omega⟩
      have hjk : j < k := by omega
      have hcw : wr.cell? ⟨b, off + k, none⟩ = some (.int .i64 j) := by rw [HB.out.cell (p := ⟨b, off + k, none⟩) hb, hc, hj]
      obtain ⟨d0, d1⟩ := depthsL_bd ps k j hjk
      have DL := depthsL_len ps k
      have ST : Hid (depthsL ps (k + 1) = depthsL ps k ++ [(depthsL ps k).getD j 0 + 1]) := Lib.hid (by rw [depthsL, if_neg (by omega), hj, show ((j : Int)).toNat = j by omega])
      obtain ⟨L, hL⟩ : ∃ L, L = depthsL ps k := ⟨_, rfl⟩
      rw [← hL] at HO DL ST d0 d1
      obtain ⟨g, cap, rfl, hg1, hg2⟩ := HO.out.shape (by omega)
      have hdj := HO.out.cellGet (j := j) (by omega)
      obtain ⟨d, hd⟩ : ∃ d, d = L.getD j 0 := ⟨_, rfl⟩
      rw [← hd] at hdj d0 d1 ST
      have hown := HO.out.row
      have hsz := HT.out.lt
      have i0' : (0 : Int) ≤ (k : Int) := by omega
      have i1 : (k : Int) < (ps.length : Int) := by omega
      have j0 : (0 : Int) ≤ (j : Int) := by omega
      have j1 : (j : Int) < (L.length : Int) := by omega
      have DLH := Lib.hid DL
      have LK : L.length ≤ 24 := by omega
      clear hL hc hd hj q1 q2 DL
      go_wp2_with (at_builtin; refine wpList_append_own _ rfl _ _ 30 rfl (w.heap.size + 1) 3 i0 (.int .i64 0) 1 8 Try.underlying30 hi hz0 hz1 hz2 rfl (by decide) _ L.length (L.map (.int .i64)) rfl (hown.alloc _) ⟨wr.heap.size, 0, none⟩ 1 1 [.int .i64 (d + 1)] rfl rfl (cell_one_new _ _ _) (fun x hx => by simp at hx; subst hx; rfl) (by unfold maxLen; omega) (by omega) (by simp; omega) ?_; intro v' w3 hown3 hgrow3 hnil3)
      have bel3 := Lib.hid ((HB.out.alloc HB.out.size _).grown hgrow3 (by simp; omega) (fun q hq => by have := (hown.lt q hq).1; omega))
      have own3 := Lib.hid (HO.out.app (x := d + 1) (by unfold InI64; omega) hown3)
      have box3 := Lib.hid ((HT.out.alloc _).grown hgrow3 (fun q hq => (hown.lt q hq).1) (by omega))
      clear hown hown3 hgrow3 hnil3
      go_roundw
      case rel => exact ⟨k + 1, by omega, by omega, by go_num, Lib.hid (by rw [ST.out]; exact own3.out), box3, bel3⟩
      case measure => simp [intOf]; omega
    · obtain rfl : k = ps.length := by omega
      have FIN : Hid (∀ o, OwnV wr (w.heap.size + 1) wr.heap.size o (depthsL ps ps.length) → NewInts (depthsT ps) w (.returned o) wr) := Lib.hid (fun o h => ⟨o, rfl, h.low (by omega), HB.out⟩)
      go_wp2
      go_ret
      exact FIN.out _ HO.out
end Go.Proofs.Ytmidlabgmmejbab
