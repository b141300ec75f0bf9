/- The cut at a time, in the model. -/
import Derived.Test.YtonlibncccljgaaSumS
namespace Go.Proofs.Ytonlibncccljgaa
open Go.RowKit
set_option linter.unusedVariables false
/-- Whether node x is in the cut at the time d. -/
def cutB (ps ws : List Int) (d : Int) (x : Nat) : Bool := (depthsT ps).getD x 0 == d || (decide ((depthsT ps).getD x 0 < d) && decide (0 < ws.getD x 0))
def cutT (ps ws : List Int) (d : Int) : List Int := nodesW (cutB ps ws d) ps.length
theorem ne_grown {w w3 : World} {r : Option Nat} {g : Nat} (hg : w.grownBy w3 r) (hs : g < w.heap.size) (hne : ∀ q, r = some q → q ≠ g) (o : Nat) : w3.cell? ⟨g, o, none⟩ = w.cell? ⟨g, o, none⟩ :=
  World.cell?_of_block (hg.block g hs (fun e => hne g e.symm rfl))
set_option maxRecDepth 100000 in
set_option maxHeartbeats 4000000 in
theorem cutRowS (ps ws : List Int) (v : Value) (d : Int) (w : World) (gd : Good ps ws) (h : TreeV w w.heap.size v ps ws) :
    Calls Try.prog 86 #[v, .int .i64 d] w (NewInts (cutT ps ws d) w) := by
  have DS := Lib.hid (fun w' (hb : Below w.heap.size w w') => depthsS ps ws v w' gd (h.boxed hb))
  obtain ⟨v1, v2, rfl, ⟨p1, c1, rfl, l1, m1, _, i1⟩, ⟨p2, c2, rfl, l2, m2, _, i2⟩⟩ := h
  have P2 := Lib.hid i2
  clear i1 i2
  unfold maxLen at m2
  have hn := gd.n24
  have hn1 := gd.n1
  have HW := Lib.hid gd.nw
  clear gd
  obtain ⟨i0, hi, hz0, hz1, hz2⟩ := info_parts intInfo
  have B1 := (Below.refl w.heap.size w).alloc (Nat.le_refl _) (.cells #[.slice p1 ps.length c1, .slice p2 ws.length c2] 29)
  have T1 : TBox (w.alloc (.cells #[.slice p1 ps.length c1, .slice p2 ws.length c2] 29)) w.heap.size (.slice p1 ps.length c1) (.slice p2 ws.length c2) := alloc_heap w _
  have O1 := OwnV.empty (w.alloc (.cells #[.slice p1 ps.length c1, .slice p2 ws.length c2] 29)) (w.heap.size + 1) (by simp)
  have T2 := Lib.hid (T1.alloc (.cells #[] 3))
  have B2 := Lib.hid (B1.alloc (by simp) (.cells #[] 3))
  have O2 := Lib.hid O1
  rw [show (w.alloc (.cells #[.slice p1 ps.length c1, .slice p2 ws.length c2] 29)).heap.size = w.heap.size + 1 by simp] at O2
  clear T1 O1 B1
  go_enter Try.func86, Try.ntmps86
  go_wp2_with fail
  refine (DS.out _ B2.out).mono ?_
  rintro e w1 ⟨u, rfl, o1, b1⟩
  have sz1 := b1.size
  simp at sz1
  have DL := depthsT_len ps
  obtain ⟨g, cap, rfl, hg1, hg2⟩ := o1.shape (by omega)
  simp at hg1
  rw [DL]
  have DC := Lib.hid (fun j (hj : j < ps.length) => o1.cellGet (j := j) (by omega))
  have T3 := Lib.hid (T2.out.below b1 T2.out.lt)
  have B3 := Lib.hid (B2.out.trans (b1.mono B2.out.size))
  have O3 := Lib.hid ((O2.out.below b1).wide b1.size (Nat.le_refl _))
  clear b1 o1 O2 T2 B2 DL
  go_wp2_with fail
  go_loopw [5, 7] (fun o i wr => ∃ k : Nat, k ≤ ps.length ∧ i = .int .i64 k ∧ Hid (OwnV wr (w.heap.size + 1) wr.heap.size o (nodesW (cutB ps ws d) k)) ∧ Hid (∀ q, o.ownBlock = some q → q ≠ g) ∧ Hid (∀ j, j < ps.length → wr.cell? ⟨g, j, none⟩ = some (.int .i64 ((depthsT ps).getD j 0))) ∧ Hid (g < wr.heap.size) ∧ Hid (TBox wr w.heap.size (.slice p1 ps.length c1) (.slice p2 ws.length c2)) ∧ Hid (Below w.heap.size w wr)) (fun _ i _ => ps.length - (intOf i).toNat)
  case atStart => exact ⟨0, Nat.zero_le _, rfl, O3, Lib.hid (fun q hq => by simp [Value.ownBlock] at hq; omega), DC, Lib.hid hg2, T3, B3⟩
  case round =>
    obtain ⟨k, hk, rfl, HO, HQ, HD, HG, HT, HB⟩ := hrel
    obtain ⟨x0, x1⟩ := HT.out.cells
    clear T3 B3 O3 DC
    by_cases hlt : k < ps.length
    · have hdk := HD.out k hlt
      obtain ⟨b, off, rfl, hb, hc⟩ := P2.out.get (i := k) (by have := HW.out; omega)
      have hcw : wr.cell? ⟨b, off + k, none⟩ = some (.int .i64 (ws.getD k 0)) := by rw [HB.out.cell (p := ⟨b, off + k, none⟩) hb, hc]
      have Y := Lib.hid (nodesW_yes (p := cutB ps ws d) (n := k))
      have N := Lib.hid (nodesW_no (p := cutB ps ws d) (n := k))
      have CB := Lib.hid (show cutB ps ws d k = ((depthsT ps).getD k 0 == d || (decide ((depthsT ps).getD k 0 < d) && decide (0 < ws.getD k 0))) from rfl)
      obtain ⟨dk, hdk2⟩ : ∃ z, z = (depthsT ps).getD k 0 := ⟨_, rfl⟩
      obtain ⟨wk, hwk⟩ : ∃ z, z = ws.getD k 0 := ⟨_, rfl⟩
      rw [← hdk2] at hdk CB
      rw [← hwk] at hcw CB
      have LL := nodesW_len (cutB ps ws d) k
      have i0' : (0 : Int) ≤ (k : Int) := by omega
      have i1 : (k : Int) < (ps.length : Int) := by omega
      have i2 : (k : Int) < (ws.length : Int) := by have := HW.out; omega
      have NO : Hid (cutB ps ws d k = false → nodesW (cutB ps ws d) (k + 1) = nodesW (cutB ps ws d) k) := N
      clear hc hdk2 hwk N
      obtain ⟨L, hL⟩ : ∃ L, L = nodesW (cutB ps ws d) k := ⟨_, rfl⟩
      rw [← hL] at HO Y NO LL
      clear hL
      have hown := HO.out.row
      have hsz := HT.out.lt
      have LQ : L.length ≤ 24 := by omega
      by_cases h1 : dk = d
      · have E := Lib.hid (Y.out (by rw [CB.out]; simp [h1]))
        have hb1 : (dk == d) = true := by simpa using h1
        clear Y NO CB h1
        go_wp2_with (at_builtin; refine wpList_append_own_at _ rfl _ _ 22 rfl (w.heap.size + 1) 3 i0 (.int .i64 0) 1 8 Try.underlying22 hi hz0 hz1 hz2 rfl (by decide) _ L.length (L.map (.int .i64)) rfl (hown.alloc _) ⟨wr.heap.size, 0, none⟩ 1 1 [.int .i64 k] rfl rfl (cell_one_new _ _ _) (fun x hx => by simp at hx; subst hx; rfl) (by unfold maxLen; omega) (by omega) (by simp; omega) ?_; intro v' w3 hown3 hgrow3 hnil3 hloc3)
        have bel3 := Lib.hid ((HB.out.alloc HB.out.size _).grown hgrow3 (by simp; omega) (fun q hq => by have := (hown.lt q hq).1; omega))
        have own3 := Lib.hid (HO.out.app (x := (k : Int)) (inI64_nat (k := k) (by omega)) hown3)
        have box3 := Lib.hid ((HT.out.alloc _).grown hgrow3 (fun q hq => (hown.lt q hq).1) (by omega))
        have q3 : Hid (∀ q, v'.ownBlock = some q → q ≠ g) := Lib.hid (fun q hq => by
          rcases hloc3 with h | h
          · exact HQ.out q (h.symm.trans hq)
          · rw [h] at hq; simp at hq; have := HG.out; omega)
        have d3 : Hid (∀ j, j < ps.length → w3.cell? ⟨g, j, none⟩ = some (.int .i64 ((depthsT ps).getD j 0))) := Lib.hid (fun j hj => by
          rw [ne_grown hgrow3 (by simp; have := HG.out; omega) HQ.out, World.cell?_alloc_lt _ _ _ (by exact HG.out)]; exact HD.out j hj)
        have g3 : Hid (g < w3.heap.size) := Lib.hid (by have := hgrow3.size; simp at this; have := HG.out; omega)
        clear hown hown3 hgrow3 hnil3 hloc3
        go_roundw
        case rel => exact ⟨k + 1, by omega, by go_num, Lib.hid (by rw [E.out]; exact own3.out), q3, d3, g3, box3, bel3⟩
        case measure => simp [intOf]; omega
      · have hb1 : (dk == d) = false := by simpa using h1
        by_cases h2 : dk < d
        · by_cases h3 : 0 < wk
          · have E := Lib.hid (Y.out (by rw [CB.out]; simp [h2, h3]))
            have hb2 : decide (dk < d) = true := decide_eq_true h2
            have hb3 : decide (0 < wk) = true := decide_eq_true h3
            clear Y NO CB h1
            go_wp2_with (at_builtin; refine wpList_append_own_at _ rfl _ _ 22 rfl (w.heap.size + 1) 3 i0 (.int .i64 0) 1 8 Try.underlying22 hi hz0 hz1 hz2 rfl (by decide) _ L.length (L.map (.int .i64)) rfl (hown.alloc _) ⟨wr.heap.size, 0, none⟩ 1 1 [.int .i64 k] rfl rfl (cell_one_new _ _ _) (fun x hx => by simp at hx; subst hx; rfl) (by unfold maxLen; omega) (by omega) (by simp; omega) ?_; intro v' w3 hown3 hgrow3 hnil3 hloc3)
            have bel3 := Lib.hid ((HB.out.alloc HB.out.size _).grown hgrow3 (by simp; omega) (fun q hq => by have := (hown.lt q hq).1; omega))
            have own3 := Lib.hid (HO.out.app (x := (k : Int)) (inI64_nat (k := k) (by omega)) hown3)
            have box3 := Lib.hid ((HT.out.alloc _).grown hgrow3 (fun q hq => (hown.lt q hq).1) (by omega))
            have q3 : Hid (∀ q, v'.ownBlock = some q → q ≠ g) := Lib.hid (fun q hq => by
              rcases hloc3 with h | h
              · exact HQ.out q (h.symm.trans hq)
              · rw [h] at hq; simp at hq; have := HG.out; omega)
            have d3 : Hid (∀ j, j < ps.length → w3.cell? ⟨g, j, none⟩ = some (.int .i64 ((depthsT ps).getD j 0))) := Lib.hid (fun j hj => by
              rw [ne_grown hgrow3 (by simp; have := HG.out; omega) HQ.out, World.cell?_alloc_lt _ _ _ (by exact HG.out)]; exact HD.out j hj)
            have g3 : Hid (g < w3.heap.size) := Lib.hid (by have := hgrow3.size; simp at this; have := HG.out; omega)
            clear hown hown3 hgrow3 hnil3 hloc3
            go_roundw
            case rel => exact ⟨k + 1, by omega, by go_num, Lib.hid (by rw [E.out]; exact own3.out), q3, d3, g3, box3, bel3⟩
            case measure => simp [intOf]; omega
          · have E := Lib.hid (NO.out (by rw [CB.out, hb1]; simp [h3]))
            have hb2 : decide (dk < d) = true := decide_eq_true h2
            have hb3 : decide (0 < wk) = false := decide_eq_false h3
            clear Y NO CB h1 hown
            go_wp2_with fail
            go_roundw
            case rel => exact ⟨k + 1, by omega, by go_num, Lib.hid (by rw [E.out]; exact HO.out), HQ, HD, HG, HT, HB⟩
            case measure => simp [intOf]; omega
        · have E := Lib.hid (NO.out (by rw [CB.out, hb1]; simp [h2]))
          have hb2 : decide (dk < d) = false := decide_eq_false h2
          clear Y NO CB h1 hown
          go_wp2_with fail
          go_roundw
          case rel => exact ⟨k + 1, by omega, by go_num, Lib.hid (by rw [E.out]; exact HO.out), HQ, HD, HG, HT, HB⟩
          case measure => simp [intOf]; omega
    · obtain rfl : k = ps.length := by omega
      have FIN : Hid (∀ o, OwnV wr (w.heap.size + 1) wr.heap.size o (nodesW (cutB ps ws d) ps.length) → NewInts (cutT ps ws d) w (.returned o) wr) := Lib.hid (fun o h => ⟨o, rfl, h.low (by omega), HB.out⟩)
      go_wp2_with fail
      go_ret
      exact FIN.out _ HO.out
end Go.Proofs.Ytonlibncccljgaa
