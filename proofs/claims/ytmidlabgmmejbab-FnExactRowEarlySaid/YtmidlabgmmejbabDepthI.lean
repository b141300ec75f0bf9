/- The depths of the nodes, in the program and in the model. -/
import Derived.Test.YtmidlabgmmejbabPrm
import Derived.Test.YtmidlabgmmejbabEnds
import Derived.Test.YtmidlabgmmejbabDepthP
namespace Go.Proofs.Ytmidlabgmmejbab
open Go.RowKit
set_option linter.unusedVariables false
set_option maxRecDepth 100000 in
set_option maxHeartbeats 4000000 in
theorem depthsI (ps ws : List Int) (v : Value) (w : World) (h : TreeV w w.heap.size v ps ws) :
    Calls Try.prog 154 #[v] w (NewIntsB (ifGood ps ws (depthsT ps)) (goodT ps ws) w) := by
  have G := Lib.hid (fun w' (hb : Below w.heap.size w w') => isTreeI ps ws v w' (h.boxed hb))
  obtain ⟨v1, v2, rfl, ⟨p1, c1, rfl, l1, m1, _, i1⟩, ⟨p2, c2, rfl, l2, m2, _, i2⟩⟩ := h
  have P1 := Lib.hid i1
  clear i1 i2
  have B1 := (Below.refl w.heap.size w).alloc (Nat.le_refl _) (.cells #[.slice p1 ps.length c1, .slice p2 ws.length c2] 37)
  have T1 := Lib.hid (show TBox (w.alloc (.cells #[.slice p1 ps.length c1, .slice p2 ws.length c2] 37)) w.heap.size (.slice p1 ps.length c1) (.slice p2 ws.length c2) from alloc_heap w _)
  cases hg : goodT ps ws
  · rw [hg] at G
    have IG := Lib.hid (show ifGood ps ws (depthsT ps) = [] from by unfold ifGood; rw [hg]; rfl)
    clear hg
    go_enter Try.func154, Try.ntmps154
    go_wp2_with fail
    refine (G.out _ B1).mono ?_
    rintro e w1 ⟨rfl, b1⟩
    have HB1 := Lib.hid (B1.trans (b1.mono B1.size))
    clear b1
    go_wp2_with fail
    go_ret2
    rw [IG.out]
    exact newInts_empty HB1.out
  · rw [hg] at G
    have IG := Lib.hid (show ifGood ps ws (depthsT ps) = depthsT ps from by unfold ifGood; rw [hg]; rfl)
    have gd := Good.of hg
    have hn := gd.n24
    have hn1 := gd.n1
    have GP := Lib.hid gd.par
    clear hg gd
    obtain ⟨i0, hi, hz0, hz1, hz2⟩ := info_parts intInfo
    have c1' : i0.bytes * ps.length ≤ 281474976710656 := by rw [hz2]; omega
    have c2' : ps.length ≤ maxLen := by unfold maxLen; omega
    go_enter Try.func154, Try.ntmps154
    go_wp2_with fail
    refine (G.out _ B1).mono ?_
    rintro e w1 ⟨rfl, b1⟩
    have HB1 := Lib.hid (B1.trans (b1.mono B1.size))
    have HT1 := Lib.hid (T1.out.below b1 (by simp))
    have HS1 : w.heap.size + 1 ≤ w1.heap.size := by have := b1.size; simpa using this
    clear b1
    obtain ⟨x0, x1⟩ := HT1.out.cells
    go_wp2_with (at_make; refine wpList_make_full _ rfl _ _ 30 rfl w1.heap.size 3 i0 (.int .i64 0) 1 Try.underlying30 hi hz0 hz1 .i64 .i64 _ _ ps.length rfl rfl rfl rfl c1' c2' (Nat.le_refl _) ?_; intro w2 hown hg2)
    have hown1 : w2.ownsRow w1.heap.size 3 1 (.slice (some ⟨w1.heap.size, 0, none⟩) ps.length ps.length) ps.length (List.replicate ps.length (.int .i64 0)) := by
      have h2 := hown
      rw [show (Value.int .i64 0).cells = #[Value.int .i64 0] from rfl, Nat.mul_one, toList_madeCells_one] at h2
      exact h2
    have O2 := Lib.hid (OwnV.made hown1)
    rw [← depthsH_one ps hn1] at O2
    have B2 := Lib.hid (HB1.out.grown hg2 HB1.out.size (fun q hq => by simp at hq))
    have S2 := hg2.size
    have T2 := Lib.hid (HT1.out.grown hg2 (lo := w1.heap.size) (fun q hq => by simp at hq) (by omega))
    clear hown hown1 hg2 c1' c2' hi hz0 hz1 hz2 x0 x1
    go_loopw [5] (fun i wr => ∃ k : Nat, 1 ≤ k ∧ k ≤ ps.length ∧ i = .int .i64 k ∧ Hid (OwnV wr w1.heap.size wr.heap.size (.slice (some ⟨w1.heap.size, 0, none⟩) ps.length ps.length) (depthsH ps k)) ∧ Hid (TBox wr w.heap.size (.slice p1 ps.length c1) (.slice p2 ws.length c2)) ∧ Hid (Below w.heap.size w wr)) (fun i _ => ps.length - (intOf i).toNat)
    case atStart => exact ⟨1, Nat.le_refl _, hn1, rfl, O2, T2, B2⟩
    case round =>
      obtain ⟨k, hk1, hk, rfl, HO, HT, HB⟩ := hrel
      obtain ⟨x0, x1⟩ := HT.out.cells
      clear T2 B2 O2
      by_cases hlt : k < ps.length
      · obtain ⟨b, off, rfl, hb, hc⟩ := P1.out.get hlt
        obtain ⟨q1, q2⟩ := GP.out k (by omega) hlt
        obtain ⟨j, hj⟩ : ∃ j : Nat, ps.getD k 0 = (j : Int) := ⟨(ps.getD k 0).toNat, by omega⟩
        have hjk : j < k := by omega
        have hcw : wr.cell? ⟨b, off + k, none⟩ = some (.int .i64 j) := by rw [HB.out.cell (p := ⟨b, off + k, none⟩) hb, hc, hj]
        have hdj : wr.cell? ⟨w1.heap.size, j, none⟩ = some (.int .i64 ((depthsL ps k).getD j 0)) := by
          rw [HO.out.cellGet (by rw [depthsH_len ps hk]; omega), depthsH_at ps hjk]
        have hdk : ∃ z : Int, wr.cell? ⟨w1.heap.size, k, none⟩ = some (.int .i64 z) := ⟨_, HO.out.cellGet (by rw [depthsH_len ps hk]; omega)⟩
        obtain ⟨z, hdk⟩ := hdk
        have hfz : wr.frozen? ⟨w1.heap.size, k, none⟩ = false := HO.out.frozenGet k
        obtain ⟨d0, d1⟩ := depthsL_bd ps k j hjk
        have ST := depthsH_set ps (k := k) (by omega) hlt
        rw [hj, show ((j : Int)).toNat = j by omega] at ST
        obtain ⟨d, hd⟩ : ∃ d, d = (depthsL ps k).getD j 0 := ⟨_, rfl⟩
        rw [← hd] at hdj d0 d1 ST
        have O3 := Lib.hid (HO.out.setAt k (x := d + 1) (by unfold InI64; omega))
        rw [ST] at O3
        have T3 := Lib.hid (HT.out.set (g := w1.heap.size) (o := k) (x := .int .i64 (d + 1)) (by omega))
        have B3 := Lib.hid (HB.out.setCell (p := ⟨w1.heap.size, k, none⟩) (by simp; omega) (.int .i64 (d + 1)))
        have i0 : (0 : Int) ≤ (k : Int) := by omega
        have i1 : (k : Int) < (ps.length : Int) := by omega
        have j0 : (0 : Int) ≤ (j : Int) := by omega
        have j1 : (j : Int) < (ps.length : Int) := by omega
        clear hc hd ST hj q1 q2 HO HT HB
        go_wp2
        go_roundw
        case rel => exact ⟨k + 1, by omega, by omega, by go_num, Lib.hid (by have := O3.out; simpa [World.setCell] using this), T3, B3⟩
        case measure => simp [intOf]; omega
      · obtain rfl : k = ps.length := by omega
        have FIN : Hid (NewIntsB (depthsT ps) true w (.returned (.tuple #[.slice (some ⟨w1.heap.size, 0, none⟩) ps.length ps.length, .bool true])) wr) := Lib.hid ⟨_, rfl, by have := HO.out.low (lo' := w.heap.size) (by omega); rwa [depthsH_all] at this, HB.out⟩
        go_wp2
        go_ret2
        rw [IG.out]
        exact FIN.out
end Go.Proofs.Ytmidlabgmmejbab
