/- StoppedProcess in the program. -/
import Derived.Test.YtbpelmpipkkonabStpP
import Derived.Test.YtbpelmpipkkonabClone
import Derived.Test.YtbpelmpipkkonabStopI
namespace Go.Proofs.Ytbpelmpipkkonab
open Go.RowKit
set_option linter.unusedVariables false
set_option maxRecDepth 100000 in
set_option maxHeartbeats 4000000 in
theorem stpI (ps ws zs ss : List Int) (v u1 u2 : Value) (w : World) (hn1 : zs.length ≤ 1048576) (hn2 : ss.length ≤ 1048576) (h : TreeV w w.heap.size v ps ws) (hu : IntsV w w.heap.size u1 zs) (hv : IntsV w w.heap.size u2 ss) :
    Calls Try.prog 23 #[v, u1, u2] w (NewIntsB (ifBoth ps ws zs ss (stpT ps zs ss)) (bothB ps ws zs ss) w) := by
  have SN := Lib.hid (fun w' (hb : Below w.heap.size w w') => stopNodesI ps ws ss v u2 w' hn2 (h.boxed hb) ((hv.below hb).more hb.size))
  have PC := Lib.hid (fun w' (hb : Below w.heap.size w w') => procI ps ws zs v u1 w' hn1 (h.boxed hb) ((hu.below hb).more hb.size))
  have CL := Lib.hid (fun (hp : 0 < zs.length) w' (hb : Below w.heap.size w w') => cloneI zs u1 w' hp hn1 ((hu.below hb).more hb.size))
  obtain ⟨p1, c1, p2, c2, rfl⟩ := h.shape
  obtain ⟨q1, d1, rfl, _, _, _, j1⟩ := hu
  have Q1 := Lib.hid j1
  obtain ⟨q2, d2, rfl, _⟩ := hv
  clear h j1
  have B1 := Lib.hid ((Below.refl w.heap.size w).alloc (Nat.le_refl _) (.cells #[.slice p1 ps.length c1, .slice p2 ws.length c2] 28))
  have T1 := Lib.hid (show TBox (w.alloc (.cells #[.slice p1 ps.length c1, .slice p2 ws.length c2] 28)) w.heap.size (.slice p1 ps.length c1) (.slice p2 ws.length c2) from alloc_heap w _)
  obtain ⟨x0, x1⟩ := T1.out.cells
  obtain ⟨wa, hwa⟩ : ∃ wa, wa = w.alloc (.cells #[.slice p1 ps.length c1, .slice p2 ws.length c2] 28) := ⟨_, rfl⟩
  rw [← hwa] at B1 T1
  have D : Hid (bothB ps ws zs ss = (procB ps ws zs && stopB ps ws ss)) := Lib.hid rfl
  cases hs : stopB ps ws ss
  · have SB := Lib.hid (show bothB ps ws zs ss = false by rw [D.out, hs, Bool.and_false])
    have IS := Lib.hid (show ifBoth ps ws zs ss (stpT ps zs ss) = [] by unfold ifBoth; rw [SB.out]; rfl)
    rw [hs] at SN
    rw [SB.out, IS.out]
    clear hs D
    go_enter Try.func23, Try.ntmps23
    go_wp2_with fail
    rw [← hwa]
    clear hwa x0 x1
    refine (SN.out _ B1.out).mono ?_
    rintro e w1 ⟨u1, rfl, o1, b1⟩
    have HB1 := Lib.hid (B1.out.trans (b1.mono B1.out.size))
    clear b1 o1
    go_wp2_with fail
    go_ret2
    exact newInts_empty HB1.out
  · have I0 : Hid (ifStop ps ws ss (nodT ps ss) = nodT ps ss) := Lib.hid (by unfold ifStop; rw [hs]; rfl)
    have STP := Lib.hid (stopB_iff.1 hs)
    rw [hs, I0.out] at SN
    cases hp : procB ps ws zs
    · have SB := Lib.hid (show bothB ps ws zs ss = false by rw [D.out, hp, Bool.false_and])
      have IS := Lib.hid (show ifBoth ps ws zs ss (stpT ps zs ss) = [] by unfold ifBoth; rw [SB.out]; rfl)
      rw [hp] at PC
      rw [SB.out, IS.out]
      clear hs D hp
      go_enter Try.func23, Try.ntmps23
      go_wp2_with fail
      rw [← hwa]
      clear hwa x0 x1
      refine (SN.out _ B1.out).mono ?_
      rintro e w1 ⟨u1, rfl, o1, b1⟩
      have HB1 := Lib.hid (B1.out.trans (b1.mono B1.out.size))
      obtain ⟨y0, y1⟩ := (T1.out.below b1 T1.out.lt).cells
      clear b1 o1
      go_wp2_with fail
      refine (PC.out _ HB1.out).mono ?_
      rintro e w2 ⟨rfl, b2⟩
      have HB2 := Lib.hid (HB1.out.trans (b2.mono HB1.out.size))
      clear b2
      go_wp2_with fail
      go_ret2
      exact newInts_empty HB2.out
    · have SB := Lib.hid (show bothB ps ws zs ss = true by rw [D.out, hp, hs]; rfl)
      have IS := Lib.hid (show ifBoth ps ws zs ss (stpT ps zs ss) = stpT ps zs ss by unfold ifBoth; rw [SB.out]; rfl)
      have PR := procB_iff.1 hp
      have hn0 := PR.good.n1
      have hn24 := PR.good.n24
      have HZ := Lib.hid PR.len
      have le1 : zs.length ≤ ps.length := by have := HZ.out; omega
      have le2 : ps.length ≤ zs.length := by have := HZ.out; omega
      have ZB := Lib.hid PR.bd
      have NL : Hid ((nodT ps ss).length = ps.length) := Lib.hid (passT_len _ _ _)
      have NB := Lib.hid (fun x (hx : x < ps.length) => nod_bd ss (ParOk.of PR.good) x hx)
      have CL2 := Lib.hid (CL.out (by omega))
      have Z0 := Lib.hid (halfN_zero zs (stpF ps zs ss) HZ.out)
      have HSET := Lib.hid (fun k (hk : k < ps.length) => halfN_set (zs := zs) (f := stpF ps zs ss) hk)
      have HKEEP := Lib.hid (fun k h => halfN_keep (zs := zs) (f := stpF ps zs ss) (n := ps.length) (k := k) h)
      have FK := Lib.hid (fun x h => stpF_keep (ps := ps) (zs := zs) (ss := ss) (x := x) h)
      have FS := Lib.hid (fun x y h => stpF_set (ps := ps) (zs := zs) (ss := ss) (x := x) (y := y) h)
      have HL := Lib.hid (halfN_len zs (stpF ps zs ss) ps.length)
      rw [hp] at PC
      rw [SB.out, IS.out]
      clear hs D hp PR CL SB IS
      unfold stpT
      generalize stpF ps zs ss = F at *
      go_enter Try.func23, Try.ntmps23
      go_wp2_with fail
      rw [← hwa]
      clear hwa x0 x1
      refine (SN.out _ B1.out).mono ?_
      rintro e w1 ⟨u1, rfl, o1, b1⟩
      obtain ⟨gn, cn, rfl, _, hg2⟩ := o1.shape (by have := NL.out; omega)
      have HB1 := Lib.hid (B1.out.trans (b1.mono B1.out.size))
      have DC := Lib.hid (fun j (hj : j < ps.length) => o1.cellGet (j := j) (by have := NL.out; omega))
      obtain ⟨y0, y1⟩ := (T1.out.below b1 T1.out.lt).cells
      obtain ⟨nl, hnl⟩ : ∃ nl, nl = (nodT ps ss).length := ⟨_, rfl⟩
      have le3 : nl ≤ ps.length := by have := NL.out; omega
      have le4 : ps.length ≤ nl := by have := NL.out; omega
      rw [← hnl]
      clear b1 o1 hnl
      go_wp2_with fail
      refine (PC.out _ HB1.out).mono ?_
      rintro e w2 ⟨rfl, b2⟩
      have HB2 := Lib.hid (HB1.out.trans (b2.mono HB1.out.size))
      have DC2 : Hid (∀ j, j < ps.length → w2.cell? ⟨gn, j, none⟩ = some (.int .i64 ((nodT ps ss).getD j 0))) := Lib.hid (fun j hj => by rw [b2.cell (p := ⟨gn, j, none⟩) hg2]; exact DC.out j hj)
      have hg3 := Nat.lt_of_lt_of_le hg2 b2.size
      clear b2 y0 y1 DC hg2
      go_wp2_with fail
      refine (CL2.out _ HB2.out).mono ?_
      rintro e w3 ⟨u3, rfl, o3, b3⟩
      obtain ⟨gb, cb, rfl, hg4, hg5⟩ := o3.shape (by omega)
      have HB3 := Lib.hid (HB2.out.trans (b3.mono HB2.out.size))
      have HBX := Lib.hid b3
      have O3 := Lib.hid (o3.low (Nat.le_refl w2.heap.size))
      have GN : Hid (gn < w2.heap.size) := Lib.hid hg3
      have GB : Hid (w2.heap.size ≤ gb) := Lib.hid hg4
      have W2 : Hid (w.heap.size ≤ w2.heap.size) := Lib.hid HB2.out.size
      rw [← Z0.out] at O3
      clear b3 o3 hg3 hg4 hg5
      have zl := HZ.out
      obtain ⟨zn, hzn⟩ : ∃ zn, zn = (halfN zs F ps.length 0).length := ⟨_, rfl⟩
      have zle1 : zn ≤ ps.length := by rw [hzn, HL.out]; exact Nat.le_refl _
      have zle2 : ps.length ≤ zn := by rw [hzn, HL.out]; exact Nat.le_refl _
      have ZN : Hid (zs.length = zn) := Lib.hid (by rw [hzn, HL.out]; exact zl)
      rw [← hzn] at O3
      rw [ZN.out]
      clear zl hzn
      go_wp2
      go_loopw [32] (fun i wr => ∃ k : Nat, k ≤ nl ∧ i = .int .i64 k ∧ Hid (OwnV wr w2.heap.size wr.heap.size (.slice (some ⟨gb, 0, none⟩) zn cb) (halfN zs F ps.length k)) ∧ Hid (Below w2.heap.size w2 wr)) (fun i _ => nl - (intOf i).toNat)
      case atStart => exact ⟨0, Nat.zero_le _, rfl, O3, HBX⟩
      case round =>
        obtain ⟨k, hk, rfl, HO, HB⟩ := hrel
        clear O3 HBX
        by_cases hlt : k < nl
        · have hkp : k < ps.length := by omega
          have hce : wr.cell? ⟨gn, k, none⟩ = some (.int .i64 ((nodT ps ss).getD k 0)) := by rw [HB.out.cell (p := ⟨gn, k, none⟩) GN.out]; exact DC2.out k hkp
          have nb := NB.out k hkp
          have fk := FK.out k
          have fs := FS.out k
          have i0 : (0 : Int) ≤ (k : Int) := by omega
          have i1 : (k : Int) < (nl : Int) := by omega
          have i2 : (k : Int) < (zn : Int) := by omega
          obtain ⟨z, hz⟩ : ∃ z, z = (nodT ps ss).getD k 0 := ⟨_, rfl⟩
          rw [← hz] at hce nb fk fs
          clear hz
          by_cases hz : z < 0
          · have N2 := Lib.hid (HKEEP.out k (fk hz))
            obtain rfl : z = -1 := by omega
            clear fk fs
            go_wp2
            go_roundw
            case rel => exact ⟨k + 1, by omega, by go_num, Lib.hid (by rw [← N2.out]; exact HO.out), HB⟩
            case measure => simp [intOf]; omega
          · obtain ⟨y, rfl⟩ : ∃ y : Nat, z = (y : Int) := ⟨z.toNat, by omega⟩
            have hyk : y < ps.length := by omega
            have SE := Lib.hid (HSET.out k hkp)
            rw [fs y rfl] at SE
            obtain ⟨b, off, rfl, hb, hc⟩ := Q1.out.get (i := y) (by omega)
            have hcw : wr.cell? ⟨b, off + y, none⟩ = some (.int .i64 (zs.getD y 0)) := by rw [HB.out.cell (p := ⟨b, off + y, none⟩) (Nat.lt_of_lt_of_le hb W2.out), HB2.out.cell (p := ⟨b, off + y, none⟩) hb]; exact hc
            have zb := ZB.out y (by omega)
            have hcx := HO.out.cellGet (j := k) (by rw [HL.out]; exact hkp)
            have hfx := HO.out.frozenGet k
            obtain ⟨a, ha⟩ : ∃ a, a = zs.getD y 0 := ⟨_, rfl⟩
            rw [← ha] at SE hcw zb
            obtain ⟨a2, ha2⟩ : ∃ a2, a2 = (halfN zs F ps.length k).getD k 0 := ⟨_, rfl⟩
            rw [← ha2] at hcx
            have O4 := Lib.hid (HO.out.setAt k (x := a) (by unfold InI64; omega))
            rw [SE.out] at O4
            have B4 := Lib.hid (HB.out.setCell (p := ⟨gb, k, none⟩) GB.out (.int .i64 a))
            have j0 : (0 : Int) ≤ (y : Int) := by omega
            have j1 : (y : Int) < (zn : Int) := by omega
            have nz : ((y : Int) != -1) = true := by rw [bne_iff_ne]; omega
            clear fk fs hc ha ha2 HO HB
            go_wp2
            go_roundw
            case rel => exact ⟨k + 1, by omega, by go_num, Lib.hid (by have := O4.out; simpa [World.setCell] using this), B4⟩
            case measure => simp [intOf]; omega
        · have hkn : k = ps.length := by omega
          have FIN : Hid (NewIntsB (halfN zs F ps.length ps.length) true w (.returned (.tuple #[.slice (some ⟨gb, 0, none⟩) zn cb, .bool true])) wr) := Lib.hid ⟨_, rfl, by have h := HO.out.low W2.out; rwa [hkn] at h, HB2.out.trans (HB.out.mono W2.out)⟩
          clear hkn
          go_wp2
          go_ret2
          exact FIN.out
end Go.Proofs.Ytbpelmpipkkonab
