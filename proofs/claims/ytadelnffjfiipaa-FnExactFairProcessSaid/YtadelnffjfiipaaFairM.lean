/- FairProcess in the model. -/
import Derived.Test.YtadelnffjfiipaaFairP
import Derived.Test.YtadelnffjfiipaaMeanM
import Derived.Maps.AppendAt
import Derived.Deep.LoopGhost
namespace Go.Proofs.Ytadelnffjfiipaa
open Go.RowKit
set_option linter.unusedVariables false
set_option maxRecDepth 100000 in
set_option maxHeartbeats 4000000 in
theorem fairM (ps ws vs : List Int) (v u : Value) (w : World) (hl9 : vs.length ≤ 1048576) (h : TreeV w w.heap.size v ps ws) (hu : IntsV w w.heap.size u vs) :
    Calls Try.prog 33 #[v, u] w (NewIntsB (fairL ps ws vs) (fairB ps ws vs) w) := by
  have PC := Lib.hid (fun w' (hb : Below w.heap.size w w') => paysS ps ws vs v u w' hl9 (h.boxed hb) ((hu.below hb).more hb.size))
  have MC := Lib.hid (fun (p : Pay ps ws vs) w' (hb : Below w.heap.size w w') => l2MeansS ps ws vs v u w' p (h.boxed hb) ((hu.below hb).more hb.size))
  obtain ⟨p1, c1, p2, c2, rfl⟩ := h.shape
  obtain ⟨q, d, rfl, _⟩ := hu
  clear h
  obtain ⟨i0, hi, hz0, hz1, hz2⟩ := info_parts intInfo
  have B1 := ((Below.refl w.heap.size w).alloc (Nat.le_refl _) (.cells #[.slice p1 ps.length c1, .slice p2 ws.length c2] 28)).alloc (by simp) (.cells #[] 3)
  have T1 := Lib.hid (TBox.alloc (show TBox (w.alloc (.cells #[.slice p1 ps.length c1, .slice p2 ws.length c2] 28)) w.heap.size (.slice p1 ps.length c1) (.slice p2 ws.length c2) from alloc_heap w _) (.cells #[] 3))
  have O1 := Lib.hid (OwnV.empty (w.alloc (.cells #[.slice p1 ps.length c1, .slice p2 ws.length c2] 28)) (w.heap.size + 1) (by simp))
  rw [show (w.alloc (.cells #[.slice p1 ps.length c1, .slice p2 ws.length c2] 28)).heap.size = w.heap.size + 1 by simp] at O1
  obtain ⟨x0, x1⟩ := T1.out.cells
  obtain ⟨wa, hwa⟩ : ∃ wa, wa = (w.alloc (.cells #[.slice p1 ps.length c1, .slice p2 ws.length c2] 28)).alloc (.cells #[] 3) := ⟨_, rfl⟩
  rw [← hwa] at B1 T1 O1
  have sz : wa.heap.size = w.heap.size + 2 := by rw [hwa]; simp
  have SZ := Lib.hid sz
  have HBA := Lib.hid B1
  clear B1 sz
  cases hp : payB ps ws vs
  · rw [hp] at PC
    have FL := Lib.hid (fairL_no (fair_no hp))
    have FB := Lib.hid (fair_no hp)
    rw [FL.out, FB.out]
    clear hp MC
    go_enter Try.func33, Try.ntmps33
    go_wp2_with fail
    rw [← hwa]
    clear hwa
    refine (PC.out _ HBA.out).mono ?_
    rintro e w1 ⟨rfl, b1⟩
    have FIN : Hid (NewIntsB [] false w (.returned (.tuple #[.slice (some ⟨w.heap.size + 1, 0, none⟩) 0 0, .bool false])) w1) := Lib.hid ⟨_, rfl, ((O1.out.below b1).wide b1.size (Nat.le_refl _)).low (by omega), HBA.out.trans (b1.mono HBA.out.size)⟩
    clear b1
    go_wp2_with fail
    go_ret2
    exact FIN.out
  · rw [hp] at PC
    have PA := Lib.hid (payB_iff.1 hp)
    have MC2 := Lib.hid (MC.out PA.out)
    have hn24 := PA.out.good.n24
    have hn1 := PA.out.good.n1
    have BD := Lib.hid (fun x (hx : x < ps.length) => mean_bd PA.out hx)
    have YES := Lib.hid (fun (h : ∀ x, x < ps.length → meanD ps ws vs x = 1) => fair_yes hp h)
    have YL := Lib.hid (fun (h : fairB ps ws vs = true) => fairL_yes h)
    have BAD := Lib.hid (fun (x : Nat) (hx : x < ps.length) (h : meanD ps ws vs x ≠ 1) => fair_bad hx h)
    have NL := Lib.hid (fun (h : fairB ps ws vs = false) => fairL_no h)
    clear hp MC
    obtain ⟨A, hA⟩ : ∃ A, A = meanN ps ws vs := ⟨_, rfl⟩
    obtain ⟨B, hB⟩ : ∃ B, B = meanD ps ws vs := ⟨_, rfl⟩
    rw [← hA] at MC2 BD YL
    rw [← hB] at MC2 BD YES BAD
    clear hA hB
    have NSU := Lib.hid (fun k => numL_succ A k)
    have NLE := Lib.hid (fun k => numL_len A k)
    go_enter Try.func33, Try.ntmps33
    go_wp2_with fail
    rw [← hwa]
    clear hwa
    refine (PC.out _ HBA.out).mono ?_
    rintro e w1 ⟨rfl, b1⟩
    have HB1 := Lib.hid (HBA.out.trans (b1.mono HBA.out.size))
    have HT1 := Lib.hid (T1.out.below b1 T1.out.lt)
    have HO1 := Lib.hid ((O1.out.below b1).wide b1.size (Nat.le_refl _))
    clear b1 x0 x1
    obtain ⟨x0, x1⟩ := HT1.out.cells
    go_wp2_with fail
    refine (MC2.out _ HB1.out).mono ?_
    rintro e w2 ⟨um, rfl, o2, b2⟩
    obtain ⟨gm, cm, rfl, hg1, hg2⟩ := o2.shape hn1
    have B2 := Lib.hid (HB1.out.trans (b2.mono HB1.out.size))
    have O2 := Lib.hid ((HO1.out.below b2).wide b2.size (Nat.le_refl _))
    have Q2 : Hid (∀ q, (Value.slice (some ⟨w.heap.size + 1, 0, none⟩) 0 0).ownBlock = some q → q ≠ gm) := Lib.hid (fun q hq => by
      have h1 : w.heap.size + 1 < w1.heap.size := HO1.out.lt _ rfl
      simp [Value.ownBlock] at hq
      omega)
    have D2 : Hid (∀ j, j < ps.length → w2.cell? ⟨gm, j * 2, none⟩ = some (.int .i64 (A j)) ∧ w2.cell? ⟨gm, j * 2 + 1, none⟩ = some (.int .i64 (B j))) := Lib.hid (fun j hj => by
      have h0 := o2.cellGet (j := j * 2) (by omega)
      have h1 := o2.cellGet (j := j * 2 + 1) (by omega)
      rw [(prL_at A B hj).1] at h0
      rw [(prL_at A B hj).2] at h1
      exact ⟨h0, h1⟩)
    have G2 : Hid (gm < w2.heap.size ∧ w.heap.size < w2.heap.size) := Lib.hid (by have := HT1.out.lt; have := b2.size; omega)
    clear b2 o2 x0 x1 hg1 hg2 HB1 HT1 HO1 T1 O1 HBA MC2 PC
    go_wp2_with fail
    go_loopg [6, 8] ps.length (fun gg o i wr => ∃ k : Nat, k ≤ ps.length ∧ ps.length - k ≤ gg ∧ i = .int .i64 k ∧ Hid (OwnV wr (w.heap.size + 1) wr.heap.size o (numL A k)) ∧ Hid (∀ q, o.ownBlock = some q → q ≠ gm) ∧ Hid (∀ j, j < ps.length → wr.cell? ⟨gm, j * 2, none⟩ = some (.int .i64 (A j)) ∧ wr.cell? ⟨gm, j * 2 + 1, none⟩ = some (.int .i64 (B j))) ∧ Hid (gm < wr.heap.size ∧ w.heap.size < wr.heap.size) ∧ Hid (Below w.heap.size w wr) ∧ Hid (∀ j, j < k → B j = 1))
    case atStart => exact ⟨0, Nat.zero_le _, by omega, rfl, O2, Q2, D2, G2, B2, Lib.hid (fun j hj => by omega)⟩
    case round =>
      obtain ⟨k, hk, hgg, rfl, HO, HQ, HM, HG, HB, HU⟩ := hrel
      clear O2 Q2 D2 G2 B2
      by_cases hlt : k < ps.length
      · obtain ⟨m0, m1⟩ := HM.out k hlt
        have bd := BD.out k hlt
        have NX := Lib.hid (NSU.out k)
        have LL : (numL A k).length ≤ 24 := by rw [NLE.out]; omega
        have BA := Lib.hid (fun h => BAD.out k hlt h)
        have i0' : (0 : Int) ≤ (k : Int) := by omega
        have i1' : (k : Int) < (ps.length : Int) := by omega
        by_cases hd : B k = 1
        · rw [hd] at m1
          have U4 : Hid (∀ j, j < k + 1 → B j = 1) := Lib.hid (fun j hj => by
            rcases Nat.lt_or_ge j k with h' | h'
            · exact HU.out j h'
            · obtain rfl : j = k := by omega
              exact hd)
          obtain ⟨mn, hmn⟩ : ∃ mn, mn = A k := ⟨_, rfl⟩
          rw [← hmn] at m0 bd NX
          have HI : Hid (InI64 mn) := Lib.hid (by unfold InI64; omega)
          obtain ⟨L, hL⟩ : ∃ L, L = numL A k := ⟨_, rfl⟩
          rw [← hL] at HO NX LL
          have hown := HO.out.row
          have hsz : w.heap.size + 1 ≤ wr.heap.size := by have := HG.out; omega
          have hdb : ((1 : Int) == 1) = true := rfl
          clear hL hmn hd HU BA bd
          go_wp2_with (at_builtin; refine wpList_append_own_at _ rfl _ _ 22 rfl (w.heap.size + 1) 3 i0 (.int .i64 0) 1 8 Try.underlying22 hi hz0 hz1 hz2 rfl (by decide) _ L.length (L.map (.int .i64)) rfl (hown.alloc _) ⟨wr.heap.size, 0, none⟩ 1 1 [.int .i64 mn] rfl rfl (cell_one_new _ _ _) (fun x hx => by simp at hx; subst hx; rfl) (by unfold maxLen; omega) (by omega) (by simp; omega) ?_; intro v' w4 hown3 hgrow3 hnil3 hloc3)
          have bel3 := Lib.hid ((HB.out.alloc HB.out.size _).grown hgrow3 (by simp; omega) (fun q hq => by have := (hown.lt q hq).1; omega))
          have own3 := Lib.hid (HO.out.app HI.out hown3)
          have q3 : Hid (∀ q, v'.ownBlock = some q → q ≠ gm) := Lib.hid (fun q hq => by
            rcases hloc3 with h | h
            · exact HQ.out q (h.symm.trans hq)
            · rw [h] at hq; simp at hq; have := HG.out.1; omega)
          have d3 : Hid (∀ j, j < ps.length → w4.cell? ⟨gm, j * 2, none⟩ = some (.int .i64 (A j)) ∧ w4.cell? ⟨gm, j * 2 + 1, none⟩ = some (.int .i64 (B j))) := Lib.hid (fun j hj => by
            rw [ne_grownP hgrow3 (by simp; have := HG.out.1; omega) HQ.out, ne_grownP hgrow3 (by simp; have := HG.out.1; omega) HQ.out, World.cell?_alloc_lt _ _ _ (by exact HG.out.1), World.cell?_alloc_lt _ _ _ (by exact HG.out.1)]; exact HM.out j hj)
          have g3 : Hid (gm < w4.heap.size ∧ w.heap.size < w4.heap.size) := Lib.hid (by have := hgrow3.size; simp at this; have := HG.out; omega)
          clear hown hown3 hgrow3 hnil3 hloc3 HO HQ HM HG HB
          go_wp2_with fail
          go_roundg (ps.length - (k + 1))
          case rel => exact ⟨k + 1, by omega, by omega, by go_num, Lib.hid (by rw [NX.out]; exact own3.out), q3, d3, g3, bel3, U4⟩
          case measure => omega
        · have FB := Lib.hid (BA.out hd)
          have FL := Lib.hid (NL.out FB.out)
          obtain ⟨md, hmd⟩ : ∃ md, md = B k := ⟨_, rfl⟩
          rw [← hmd] at m1 bd hd
          have hdb : (md == (1 : Int)) = false := by simpa using hd
          have FIN : Hid (NewIntsB (fairL ps ws vs) (fairB ps ws vs) w (.returned (.tuple #[.slice (some ⟨wr.heap.size, 0, none⟩) 0 0, .bool false])) (wr.alloc (.cells #[] 3))) := Lib.hid (by
            rw [FL.out, FB.out]
            exact newInts_empty HB.out)
          clear HO HQ HM HG HB HU hmd bd BA NX
          go_wp2
          go_ret2
          exact FIN.out
      · obtain rfl : k = ps.length := by omega
        have FB := Lib.hid (YES.out HU.out)
        have FL := Lib.hid (YL.out FB.out)
        have FIN : Hid (∀ o, OwnV wr (w.heap.size + 1) wr.heap.size o (numL A ps.length) → NewIntsB (fairL ps ws vs) (fairB ps ws vs) w (.returned (.tuple #[o, .bool true])) wr) := Lib.hid (fun o ho => by
          rw [FL.out, FB.out]
          exact ⟨_, rfl, ho.low (by omega), HB.out⟩)
        go_wp2
        go_ret2
        exact FIN.out _ HO.out
end Go.Proofs.Ytadelnffjfiipaa
