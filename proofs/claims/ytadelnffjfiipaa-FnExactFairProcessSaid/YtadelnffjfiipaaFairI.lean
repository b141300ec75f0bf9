/- FairProcess in the program. -/
import Derived.Test.YtadelnffjfiipaaFairP
import Derived.Test.YtadelnffjfiipaaMeanI
import Derived.Deep.LoopGhost
namespace Go.Proofs.Ytadelnffjfiipaa
open Go.RowKit
set_option linter.unusedVariables false
theorem newInts_emptyF {w w1 : World} (hb : Below w.heap.size w w1) {g : Nat} (hg : g = w1.heap.size) : NewIntsB [] false w (.returned (.tuple #[.slice (some ⟨g, 0, none⟩) 0 0, .bool false])) (w1.alloc (.cells #[] 3)) := by
  subst hg; exact newInts_empty hb
set_option maxRecDepth 100000 in
set_option maxHeartbeats 4000000 in
theorem fairI (ps ws vs : List Int) (v u : Value) (w : World) (hl9 : vs.length ≤ 1048576) (h : TreeV w w.heap.size v ps ws) (hu : IntsV w w.heap.size u vs) :
    Calls Try.prog 34 #[v, u] w (NewIntsB (fairL ps ws vs) (fairB ps ws vs) w) := by
  have MC := Lib.hid (fun w' (hb : Below w.heap.size w w') => meansI ps ws vs v u w' hl9 (h.boxed hb) ((hu.below hb).more hb.size))
  obtain ⟨p1, c1, p2, c2, rfl⟩ := h.shape
  obtain ⟨qa, da, rfl, _⟩ := hu
  clear h
  have B1 := (Below.refl w.heap.size w).alloc (Nat.le_refl _) (.cells #[.slice p1 ps.length c1, .slice p2 ws.length c2] 28)
  have K0 := alloc_heap w (.cells #[.slice p1 ps.length c1, .slice p2 ws.length c2] 28)
  obtain ⟨wa, hwa⟩ : ∃ wa, wa = w.alloc (.cells #[.slice p1 ps.length c1, .slice p2 ws.length c2] 28) := ⟨_, rfl⟩
  rw [← hwa] at B1 K0
  have T1 := Lib.hid (show TBox wa w.heap.size (.slice p1 ps.length c1) (.slice p2 ws.length c2) from K0)
  have HBA := Lib.hid B1
  clear K0 B1
  obtain ⟨x0, x1⟩ := T1.out.cells
  cases hp : payB ps ws vs
  · have FL := Lib.hid (fairL_no (fair_no hp))
    have FB := Lib.hid (fair_no hp)
    have ML : meanLen ps ws vs = 0 := by unfold meanLen; rw [hp]; rfl
    rw [hp, ML] at MC
    rw [FL.out, FB.out]
    clear hp ML
    go_enter Try.func34, Try.ntmps34
    go_wp2_with fail
    rw [← hwa]
    clear hwa
    refine (MC.out _ HBA.out).mono ?_
    rintro e w1 ⟨um, rfl, o1, b1⟩
    obtain ⟨pm, cm, rfl, _⟩ := o1.opened
    have HB1 := Lib.hid (HBA.out.trans (b1.mono HBA.out.size))
    clear b1 o1
    go_wp2_with fail
    go_ret2
    exact newInts_empty HB1.out
  · have PA := Lib.hid (payB_iff.1 hp)
    have HP := Lib.hid hp
    have ML : meanLen ps ws vs = ps.length := by unfold meanLen; rw [if_pos hp]
    have MS : meanL ps ws vs = prL (meanN ps ws vs) (meanD ps ws vs) ps.length := by unfold meanL; rw [if_pos hp]
    rw [hp, ML, MS] at MC
    have hn24 := PA.out.good.n24
    have hn1 := PA.out.good.n1
    have BD := Lib.hid (fun x (hx : x < ps.length) => mean_bd PA.out hx)
    have YES := Lib.hid (fun (h : ∀ x, x < ps.length → meanD ps ws vs x = 1) => fair_yes hp h)
    have YL := Lib.hid (fun (h : fairB ps ws vs = true) => fairL_yes h)
    have BAD := Lib.hid (fun (x : Nat) (hx : x < ps.length) (h : meanD ps ws vs x ≠ 1) => fair_bad hx h)
    have NL := Lib.hid (fun (h : fairB ps ws vs = false) => fairL_no h)
    clear hp ML MS
    obtain ⟨A, hA⟩ : ∃ A, A = meanN ps ws vs := ⟨_, rfl⟩
    obtain ⟨B, hB⟩ : ∃ B, B = meanD ps ws vs := ⟨_, rfl⟩
    rw [← hA] at MC BD YL
    rw [← hB] at MC BD YES BAD
    clear hA hB
    obtain ⟨i0, hi, hz0, hz1, hz2⟩ := info_parts intInfo
    have c1' : i0.bytes * ps.length ≤ 281474976710656 := by rw [hz2]; omega
    have c2' : ps.length ≤ maxLen := by unfold maxLen; omega
    go_enter Try.func34, Try.ntmps34
    go_wp2_with fail
    rw [← hwa]
    clear hwa
    refine (MC.out _ HBA.out).mono ?_
    rintro e w1 ⟨um, rfl, o1, b1⟩
    obtain ⟨gm, cm, rfl, _, hgm⟩ := o1.shape hn1
    have HB1 := Lib.hid (HBA.out.trans (b1.mono HBA.out.size))
    have DM : Hid (∀ j, j < ps.length → w1.cell? ⟨gm, j * 2, none⟩ = some (.int .i64 (A j)) ∧ w1.cell? ⟨gm, j * 2 + 1, none⟩ = some (.int .i64 (B j))) := Lib.hid (fun j hj => by
      have h0 := o1.cellGet (j := j * 2) (by omega)
      have h1 := o1.cellGet (j := j * 2 + 1) (by omega)
      rw [(prL_at A B hj).1] at h0
      rw [(prL_at A B hj).2] at h1
      exact ⟨h0, h1⟩)
    have HGM := Lib.hid hgm
    clear b1 o1 x0 x1 T1 MC HBA hgm
    go_wp2_with (at_make; refine wpList_make_full _ rfl _ _ 22 rfl w1.heap.size 3 i0 (.int .i64 0) 1 Try.underlying22 hi hz0 hz1 .i64 .i64 _ _ ps.length rfl rfl rfl rfl c1' c2' (Nat.le_refl _) ?_; intro w3 hown hg2)
    have hown1 : w3.ownsRow w1.heap.size 3 1 (.slice (some ⟨w1.heap.size, 0, none⟩) ps.length ps.length) ps.length (List.replicate ps.length (.int .i64 0)) := by
      have h2 := hown
      rw [show (Value.int .i64 0).cells = #[Value.int .i64 0] from rfl, Nat.mul_one, toList_madeCells_one] at h2
      exact h2
    have O2 := Lib.hid (OwnV.made hown1)
    rw [← halfN_zero A] at O2
    have B2 := Lib.hid (HB1.out.grown hg2 HB1.out.size (fun q hq => by simp at hq))
    have bw : Below w1.heap.size w1 w3 := (Below.refl _ _).grown hg2 (Nat.le_refl _) (by simp)
    have D2 : Hid (∀ j, j < ps.length → w3.cell? ⟨gm, j * 2, none⟩ = some (.int .i64 (A j)) ∧ w3.cell? ⟨gm, j * 2 + 1, none⟩ = some (.int .i64 (B j))) := Lib.hid (fun j hj =>
      ⟨(bw.cell (p := ⟨gm, j * 2, none⟩) HGM.out).trans (DM.out j hj).1, (bw.cell (p := ⟨gm, j * 2 + 1, none⟩) HGM.out).trans (DM.out j hj).2⟩)
    have S2 : Hid (gm < w3.heap.size ∧ w1.heap.size < w3.heap.size) := Lib.hid (by have := HGM.out; have := (hown1.lt w1.heap.size rfl).2; omega)
    obtain ⟨G, hG⟩ : ∃ G, G = w1.heap.size := ⟨_, rfl⟩
    have NP : Hid (gm ≠ G ∧ w.heap.size ≤ G) := Lib.hid (by have := HGM.out; have := HB1.out.size; omega)
    rw [← hG] at O2 S2 ⊢
    clear hown hown1 hg2 c1' c2' hi hz0 hz1 hz2 bw DM HGM HB1 hG
    have HST := Lib.hid (fun k (hk : k < ps.length) => halfN_set A hk)
    have HAL := Lib.hid (fun k (hk : ps.length ≤ k) => halfN_all A hk)
    have HLN := Lib.hid (fun k (hk : k ≤ ps.length) => halfN_len A hk)
    go_wp2_with fail
    go_loopg [25] ps.length (fun gg i wr => ∃ k : Nat, k ≤ ps.length ∧ ps.length - k ≤ gg ∧ i = .int .i64 k ∧ Hid (OwnV wr G wr.heap.size (.slice (some ⟨G, 0, none⟩) ps.length ps.length) (halfN A ps.length k)) ∧ Hid (∀ j, j < ps.length → wr.cell? ⟨gm, j * 2, none⟩ = some (.int .i64 (A j)) ∧ wr.cell? ⟨gm, j * 2 + 1, none⟩ = some (.int .i64 (B j))) ∧ Hid (gm < wr.heap.size ∧ G < wr.heap.size) ∧ Hid (Below w.heap.size w wr) ∧ Hid (∀ j, j < k → B j = 1))
    case atStart => exact ⟨0, Nat.zero_le _, by omega, rfl, O2, D2, S2, B2, Lib.hid (fun j hj => by omega)⟩
    case round =>
      obtain ⟨k, hk, hgg, rfl, HO, HM, HZ, HB, HU⟩ := hrel
      clear O2 D2 S2 B2
      by_cases hlt : k < ps.length
      · obtain ⟨m0, m1⟩ := HM.out k hlt
        have bd := BD.out k hlt
        have ST := Lib.hid (HST.out k hlt)
        have BA := Lib.hid (fun h => BAD.out k hlt h)
        obtain ⟨hnp1, hnp2⟩ := NP.out
        have i0' : (0 : Int) ≤ (k : Int) := by omega
        have i1' : (k : Int) < (ps.length : Int) := by omega
        have old : wr.cell? ⟨G, k, none⟩ = some (.int .i64 ((halfN A ps.length k).getD k 0)) := HO.out.cellGet (by rw [HLN.out k hk]; exact hlt)
        have hfz : wr.frozen? ⟨G, k, none⟩ = false := HO.out.frozenGet k
        obtain ⟨s, hs⟩ : ∃ s, s = (halfN A ps.length k).getD k 0 := ⟨_, rfl⟩
        rw [← hs] at old
        by_cases hd : B k = 1
        · rw [hd] at m1
          obtain ⟨mn, hmn⟩ : ∃ mn, mn = A k := ⟨_, rfl⟩
          rw [← hmn] at m0 bd ST
          have O3 := HO.out.setAt k (x := mn) (by unfold InI64; omega)
          rw [ST.out] at O3
          have O4 : Hid (OwnV ((wr.setCell ⟨G, k, none⟩ (.int .i64 mn)).alloc (.cells #[.int .i64 mn, .int .i64 1] 57)) G ((wr.setCell ⟨G, k, none⟩ (.int .i64 mn)).alloc (.cells #[.int .i64 mn, .int .i64 1] 57)).heap.size (.slice (some ⟨G, 0, none⟩) ps.length ps.length) (halfN A ps.length (k + 1))) := Lib.hid ((O3.below ((Below.refl _ _).alloc (by simp) _)).wide (by simp) (Nat.le_refl _))
          have M4 : Hid (∀ j, j < ps.length → ((wr.setCell ⟨G, k, none⟩ (.int .i64 mn)).alloc (.cells #[.int .i64 mn, .int .i64 1] 57)).cell? ⟨gm, j * 2, none⟩ = some (.int .i64 (A j)) ∧ ((wr.setCell ⟨G, k, none⟩ (.int .i64 mn)).alloc (.cells #[.int .i64 mn, .int .i64 1] 57)).cell? ⟨gm, j * 2 + 1, none⟩ = some (.int .i64 (B j))) := Lib.hid (fun j hj => by
            have hz := HZ.out.1
            rw [World.cell?_alloc_lt _ _ _ (by simp; omega), World.cell?_alloc_lt _ _ _ (by simp; omega), World.cell?_setCell_other _ _ _ _ (by intro c; injection c; omega), World.cell?_setCell_other _ _ _ _ (by intro c; injection c; omega)]
            exact HM.out j hj)
          have Z4 : Hid (gm < ((wr.setCell ⟨G, k, none⟩ (.int .i64 mn)).alloc (.cells #[.int .i64 mn, .int .i64 1] 57)).heap.size ∧ G < ((wr.setCell ⟨G, k, none⟩ (.int .i64 mn)).alloc (.cells #[.int .i64 mn, .int .i64 1] 57)).heap.size) := Lib.hid (by have := HZ.out; simp; omega)
          have B4 : Hid (Below w.heap.size w ((wr.setCell ⟨G, k, none⟩ (.int .i64 mn)).alloc (.cells #[.int .i64 mn, .int .i64 1] 57))) := Lib.hid ((HB.out.setCell (p := ⟨G, k, none⟩) hnp2 (.int .i64 mn)).alloc (by have := HB.out.size; simp; omega) _)
          have U4 : Hid (∀ j, j < k + 1 → B j = 1) := Lib.hid (fun j hj => by
            rcases Nat.lt_or_ge j k with h' | h'
            · exact HU.out j h'
            · obtain rfl : j = k := by omega
              exact hd)
          have hdb : ((1 : Int) == 1) = true := rfl
          have hgw : G < wr.heap.size := HZ.out.2
          clear HO HM HZ HB HU hd hmn hs O3 bd BA ST
          go_wp2
          go_roundg (ps.length - (k + 1))
          case rel => exact ⟨k + 1, by omega, by omega, by go_num, by first | exact O4 | (rw [← World.setCell_alloc_past] at O4; exact O4), M4, Z4, B4, U4⟩
          case measure => omega
        · have FB := Lib.hid (BA.out hd)
          have FL := Lib.hid (NL.out FB.out)
          obtain ⟨md, hmd⟩ : ∃ md, md = B k := ⟨_, rfl⟩
          rw [← hmd] at m1 bd hd
          obtain ⟨mn, hmn⟩ : ∃ mn, mn = A k := ⟨_, rfl⟩
          rw [← hmn] at m0 bd
          have hdb : (md == (1 : Int)) = false := by simpa using hd
          have FIN : Hid (NewIntsB (fairL ps ws vs) (fairB ps ws vs) w (.returned (.tuple #[.slice (some ⟨wr.heap.size + 1, 0, none⟩) 0 0, .bool false])) ((wr.alloc (.cells #[.int .i64 mn, .int .i64 md] 57)).alloc (.cells #[] 3))) := Lib.hid (by
            rw [FL.out, FB.out]
            exact newInts_emptyF (HB.out.alloc HB.out.size _) (by simp))
          clear HO HM HZ HB HU hmd hmn hs bd BA ST old hfz
          go_wp2
          go_ret2
          exact FIN.out
      · obtain rfl : k = ps.length := by omega
        have FB := Lib.hid (YES.out HU.out)
        have FL := Lib.hid (YL.out FB.out)
        have FIN : Hid (NewIntsB (fairL ps ws vs) (fairB ps ws vs) w (.returned (.tuple #[.slice (some ⟨G, 0, none⟩) ps.length ps.length, .bool true])) wr) := Lib.hid (by
          rw [FL.out, FB.out]
          have := HO.out.low (lo' := w.heap.size) NP.out.2
          rw [HAL.out _ (Nat.le_refl _)] at this
          exact ⟨_, rfl, this, HB.out⟩)
        go_wp2
        go_ret2
        exact FIN.out
end Go.Proofs.Ytadelnffjfiipaa
