/- StpP, Clone, StpI, ProcM, StpM, Stm, Rmn in one text. -/
import Derived.Test.YtagljebfbacdhaaStopP
import Derived.Test.YtagljebfbacdhaaProcI
import Derived.Test.YtagljebfbacdhaaSumI
import Derived.Test.YtagljebfbacdhaaLawT
import Derived.Test.YtagljebfbacdhaaStopI
import Derived.Test.YtagljebfbacdhaaGoodS
import Derived.Test.YtagljebfbacdhaaStopM
import Derived.Test.YtagljebfbacdhaaPBox
import Derived.Test.YtagljebfbacdhaaGainP
import Derived.Test.YtagljebfbacdhaaRulM
import Derived.Test.YtagljebfbacdhaaPay4
import Derived.Lib.SliceRun
import Derived.IntWalk
namespace Go.Proofs.Ytagljebfbacdhaa
set_option linter.unusedVariables false
/-- The number at a node. -/
def stpF (ps zs ss : List Int) (x : Nat) : Int := if (nodT ps ss).getD x 0 < 0 then zs.getD x 0 else zs.getD ((nodT ps ss).getD x 0).toNat 0
def halfN (zs : List Int) (f : Nat → Int) (n k : Nat) : List Int := (List.range n).map fun x => if x < k then f x else zs.getD x 0
def stpT (ps zs ss : List Int) : List Int := halfN zs (stpF ps zs ss) ps.length ps.length
theorem halfN_len (zs : List Int) (f : Nat → Int) (n k : Nat) : (halfN zs f n k).length = n := by simp [halfN]
theorem halfN_at {zs : List Int} {f : Nat → Int} {n k x : Nat} (hx : x < n) : (halfN zs f n k).getD x 0 = if x < k then f x else zs.getD x 0 := by
  rw [List.getD_eq_getElem?_getD, List.getElem?_eq_getElem (by rw [halfN_len]; exact hx)]
  simp [halfN]
theorem halfN_zero (zs : List Int) (f : Nat → Int) {n : Nat} (h : zs.length = n) : halfN zs f n 0 = zs := by
  refine list_ext_getD (by rw [halfN_len, h]) (fun y hy => ?_)
  rw [halfN_len] at hy
  rw [halfN_at hy, if_neg (by omega)]
theorem halfN_set {zs : List Int} {f : Nat → Int} {n k : Nat} (hk : k < n) : (halfN zs f n k).set k (f k) = halfN zs f n (k + 1) := by
  refine list_ext_getD (by rw [List.length_set, halfN_len, halfN_len]) (fun y hy => ?_)
  rw [List.length_set, halfN_len] at hy
  rw [halfN_at hy]
  by_cases e : y = k
  · subst e; rw [getD_set_same (by rw [halfN_len]; exact hk), if_pos (by omega)]
  · rw [getD_set_other (fun e' => e e'.symm), halfN_at hy]
    by_cases h : y < k
    · rw [if_pos h, if_pos (by omega)]
    · rw [if_neg h, if_neg (by omega)]
theorem halfN_keep {zs : List Int} {f : Nat → Int} {n k : Nat} (h : f k = zs.getD k 0) : halfN zs f n k = halfN zs f n (k + 1) := by
  refine list_ext_getD (by rw [halfN_len, halfN_len]) (fun y hy => ?_)
  rw [halfN_len] at hy
  rw [halfN_at hy, halfN_at hy]
  by_cases e : y = k
  · subst e; rw [if_neg (by omega), if_pos (by omega), h]
  · by_cases h' : y < k
    · rw [if_pos h', if_pos (by omega)]
    · rw [if_neg h', if_neg (by omega)]
/-- A process and a stopping of a valid tree. -/
def bothB (ps ws zs ss : List Int) : Bool := procB ps ws zs && stopB ps ws ss
def ifBoth (ps ws zs ss L : List Int) : List Int := if bothB ps ws zs ss = true then L else []
theorem stp_len (ps ws zs ss : List Int) : (ifBoth ps ws zs ss (stpT ps zs ss)).length ≤ 1048576 := by
  unfold ifBoth
  split
  · rename_i h
    unfold bothB at h
    rw [Bool.and_eq_true] at h
    have := (procB_iff.1 h.1).good.n24
    unfold stpT
    rw [halfN_len]; omega
  · simp
theorem stpF_keep {ps zs ss : List Int} {x : Nat} (h : (nodT ps ss).getD x 0 < 0) : stpF ps zs ss x = zs.getD x 0 := by unfold stpF; rw [if_pos h]
theorem stpF_set {ps zs ss : List Int} {x y : Nat} (h : (nodT ps ss).getD x 0 = (y : Int)) : stpF ps zs ss x = zs.getD y 0 := by
  unfold stpF; rw [h, if_neg (by omega), Int.toNat_natCast]
end Go.Proofs.Ytagljebfbacdhaa
namespace Go.Proofs.Ytagljebfbacdhaa
open Go.RowKit
set_option linter.unusedVariables false
end Go.Proofs.Ytagljebfbacdhaa
namespace Go.Proofs.Ytagljebfbacdhaa
open Go.RowKit
set_option linter.unusedVariables false
end Go.Proofs.Ytagljebfbacdhaa
namespace Go.Proofs.Ytagljebfbacdhaa
open Go.RowKit
set_option linter.unusedVariables false
end Go.Proofs.Ytagljebfbacdhaa
namespace Go.Proofs.Ytagljebfbacdhaa
open Go.RowKit
set_option linter.unusedVariables false
end Go.Proofs.Ytagljebfbacdhaa
namespace Go.Proofs.Ytagljebfbacdhaa
open Go.RowKit
set_option linter.unusedVariables false
/-- The sum of the products of the sums and the numbers of some nodes. -/
def pickP (su zs l : List Int) : Int := (l.map fun z => su.getD z.toNat 0 * zs.getD z.toNat 0).sum
theorem pickP_take (su zs : List Int) {l : List Int} {k : Nat} (h : k < l.length) : pickP su zs (l.take (k + 1)) = pickP su zs (l.take k) + su.getD (l.getD k 0).toNat 0 * zs.getD (l.getD k 0).toNat 0 := by
  unfold pickP
  rw [List.take_succ_eq_append_getElem h, List.map_append, List.sum_append, show l.getD k 0 = l[k] by rw [List.getD_eq_getElem?_getD, List.getElem?_eq_getElem h]; rfl]
  simp
theorem pickP_bd {su zs l : List Int} {n : Nat} (hs : ∀ x, x < n → (su.getD x 0).natAbs ≤ 480) (hz : ∀ x, x < n → (zs.getD x 0).natAbs ≤ 999) (hl : ∀ z ∈ l, 0 ≤ z ∧ z < (n : Int)) : ∀ k, k ≤ l.length → (pickP su zs (l.take k)).natAbs ≤ k * 479520 := by
  intro k
  induction k with
  | zero => intro _; simp [pickP]
  | succ k ih =>
    intro hk
    have h1 := ih (by omega)
    have h2 := hl (l.getD k 0) (by rw [List.getD_eq_getElem?_getD, List.getElem?_eq_getElem (by omega : k < l.length)]; exact List.getElem_mem _)
    have h3 := mul_abs (hs (l.getD k 0).toNat (by omega)) (hz (l.getD k 0).toNat (by omega))
    rw [pickP_take su zs (by omega)]
    have h4 : (k + 1) * 479520 = k * 479520 + 479520 := by rw [Nat.succ_mul]
    omega
theorem kept_mid {a b : Int} (ha : -1000000000 ≤ a ∧ a ≤ 1000000000) (hb : 0 < b ∧ b ≤ 1000000) : keptV (cutN a b) (cutD a b) = .tuple #[.agg #[.int .i64 (cutN a b), .int .i64 (cutD a b)], .bool true] := by
  have h1 := abs_cutN (a := a) (b := b) 1000000000 ha (by omega)
  have h2 := cutD_le (a := a) hb.1
  have h3 := cutD_pos (a := a) hb.1
  unfold keptV
  rw [if_pos (by unfold inB; simp; omega)]
def stmS (ps ws zs ss : List Int) : Int := pickP (sumsT ps ws) zs ss
def stmV (ps ws zs ss : List Int) : Value := if bothB ps ws zs ss = true then .tuple #[.agg #[.int .i64 (cutN (stmS ps ws zs ss) ((sumsT ps ws).getD 0 0)), .int .i64 (cutD (stmS ps ws zs ss) ((sumsT ps ws).getD 0 0))], .bool true] else zeroP
theorem stmV_form (ps ws zs ss : List Int) : ∃ p q ok, stmV ps ws zs ss = .tuple #[.agg #[.int .i64 p, .int .i64 q], .bool ok] := by
  unfold stmV zeroP
  split
  · exact ⟨_, _, _, rfl⟩
  · exact ⟨_, _, _, rfl⟩
structure Stm (ps ws zs ss : List Int) : Prop where
  proc : Proc ps ws zs
  stop : Stop ps ws ss
theorem stm_of {ps ws zs ss : List Int} (h : bothB ps ws zs ss = true) : Stm ps ws zs ss := by
  unfold bothB at h
  rw [Bool.and_eq_true] at h
  exact ⟨procB_iff.1 h.1, stopB_iff.1 h.2⟩
theorem Stm.bd {ps ws zs ss : List Int} (s : Stm ps ws zs ss) : ∀ k, k ≤ ss.length → (pickP (sumsT ps ws) zs (ss.take k)).natAbs ≤ k * 479520 :=
  pickP_bd (n := ps.length) (fun x hx => by have := sumsT_bd s.proc.good x hx; omega) (fun x hx => by have := s.proc.bd x (by have := s.proc.len; omega); omega) (rise_up s.stop.rise).2
theorem Stm.len {ps ws zs ss : List Int} (s : Stm ps ws zs ss) : ss.length ≤ 24 := Nat.le_trans (rise_len s.stop.rise) s.proc.good.n24
theorem Stm.tot {ps ws zs ss : List Int} (s : Stm ps ws zs ss) : (stmS ps ws zs ss).natAbs ≤ 11508480 := by
  have h := s.bd ss.length (Nat.le_refl _)
  rw [List.take_of_length_le (Nat.le_refl _)] at h
  have h2 : ss.length * 479520 ≤ 24 * 479520 := Nat.mul_le_mul_right _ s.len
  unfold stmS
  omega
set_option maxRecDepth 100000 in
set_option maxHeartbeats 4000000 in
theorem stmI (ps ws zs ss : List Int) (v u1 u2 : Value) (w : World) (hn1 : zs.length ≤ 1048576) (hn2 : ss.length ≤ 1048576) (h : TreeV w w.heap.size v ps ws) (hu : IntsV w w.heap.size u1 zs) (hv : IntsV w w.heap.size u2 ss) :
    Calls Try.prog 57 #[v, u1, u2] w (Gives (stmV ps ws zs ss) w) := by
  have SN := Lib.hid (fun w' (hb : Below w.heap.size w w') => stopNodesI ps ws ss v u2 w' hn2 (h.boxed hb) ((hv.below hb).more hb.size))
  have PC := Lib.hid (fun w' (hb : Below w.heap.size w w') => procI ps ws zs v u1 w' hn1 (h.boxed hb) ((hu.below hb).more hb.size))
  have SU := Lib.hid (fun w' (hb : Below w.heap.size w w') => sumsI ps ws v w' (h.boxed hb))
  obtain ⟨p1, c1, p2, c2, rfl⟩ := h.shape
  obtain ⟨q1, d1, rfl, _, _, _, j1⟩ := hu
  have Q1 := Lib.hid j1
  obtain ⟨q2, d2, rfl, _, _, _, j2⟩ := hv
  have Q2 := Lib.hid j2
  clear h j1 j2
  have B1 := ((Below.refl w.heap.size w).alloc (Nat.le_refl _) (.cells #[.slice p1 ps.length c1, .slice p2 ws.length c2] 28)).alloc (by simp) (.cells #[.int .i64 0, .int .i64 0] 34)
  have K0 := alloc_two w (.cells #[.slice p1 ps.length c1, .slice p2 ws.length c2] 28) (.cells #[.int .i64 0, .int .i64 0] 34)
  obtain ⟨wa, hwa⟩ : ∃ wa, wa = (w.alloc (.cells #[.slice p1 ps.length c1, .slice p2 ws.length c2] 28)).alloc (.cells #[.int .i64 0, .int .i64 0] 34) := ⟨_, rfl⟩
  rw [← hwa] at B1 K0
  have T1 := Lib.hid (show TBox wa w.heap.size (.slice p1 ps.length c1) (.slice p2 ws.length c2) from K0.1)
  have R1 := Lib.hid (show PBox wa (w.heap.size + 1) 0 0 from K0.2)
  have sz : wa.heap.size = w.heap.size + 2 := by rw [hwa]; simp
  have SZ := Lib.hid sz
  have HBA := Lib.hid B1
  clear K0 B1 sz
  obtain ⟨x0, x1⟩ := T1.out.cells
  have D : Hid (bothB ps ws zs ss = (procB ps ws zs && stopB ps ws ss)) := Lib.hid rfl
  have NV : Hid (bothB ps ws zs ss = false → stmV ps ws zs ss = zeroP) := Lib.hid (fun h => by unfold stmV; rw [h]; simp)
  cases hs : stopB ps ws ss
  · have CV := Lib.hid (NV.out (by rw [D.out, hs, Bool.and_false]))
    rw [hs] at SN
    clear hs D NV
    go_enter Try.func57, Try.ntmps57
    go_wp2_with fail
    rw [← hwa]
    clear hwa
    refine (SN.out _ HBA.out).mono ?_
    rintro e w1 ⟨un, rfl, o1, b1⟩
    have HB1 := Lib.hid (HBA.out.trans (b1.mono HBA.out.size))
    obtain ⟨c0, c1, f0, f1⟩ := (R1.out.below b1 R1.out.lt).cells
    clear b1 o1
    go_wp2_with fail
    refine bodyPost_ret (v := .tuple #[.agg #[.int .i64 0, .int .i64 0], .bool false]) (by simp [results, Try.results57, go_sem, c0, c1]) rfl ⟨by rw [CV.out]; rfl, ?_⟩
    exact (HB1.out.setCell (p := ⟨w.heap.size + 1, 0, none⟩) (by simp) _).setCell (p := ⟨w.heap.size + 1, 1, none⟩) (by simp) _
  · have I0 : Hid (ifStop ps ws ss (nodT ps ss) = nodT ps ss) := Lib.hid (by unfold ifStop; rw [hs]; rfl)
    rw [hs, I0.out] at SN
    cases hp : procB ps ws zs
    · have CV := Lib.hid (NV.out (by rw [D.out, hp, Bool.false_and]))
      rw [hp] at PC
      clear hs hp D NV
      go_enter Try.func57, Try.ntmps57
      go_wp2_with fail
      rw [← hwa]
      clear hwa
      refine (SN.out _ HBA.out).mono ?_
      rintro e w1 ⟨un, rfl, o1, b1⟩
      have HB1 := Lib.hid (HBA.out.trans (b1.mono HBA.out.size))
      have HR1 := Lib.hid (R1.out.below b1 R1.out.lt)
      obtain ⟨y0, y1⟩ := (T1.out.below b1 T1.out.lt).cells
      clear b1 o1
      go_wp2_with fail
      refine (PC.out _ HB1.out).mono ?_
      rintro e w2 ⟨rfl, b2⟩
      have HB2 := Lib.hid (HB1.out.trans (b2.mono HB1.out.size))
      obtain ⟨c0, c1, f0, f1⟩ := (HR1.out.below b2 HR1.out.lt).cells
      clear b2
      go_wp2_with fail
      refine bodyPost_ret (v := .tuple #[.agg #[.int .i64 0, .int .i64 0], .bool false]) (by simp [results, Try.results57, go_sem, c0, c1]) rfl ⟨by rw [CV.out]; rfl, ?_⟩
      exact (HB2.out.setCell (p := ⟨w.heap.size + 1, 0, none⟩) (by simp) _).setCell (p := ⟨w.heap.size + 1, 1, none⟩) (by simp) _
    · have BB : bothB ps ws zs ss = true := by rw [D.out, hp, hs]; rfl
      have SM := stm_of BB
      have gd := SM.proc.good
      have hg : goodT ps ws = true := (goodT_iff _ _).2 gd
      rw [hg, show ifGood ps ws (sumsT ps ws) = sumsT ps ws by unfold ifGood; rw [hg]; rfl] at SU
      have CV : Hid (stmV ps ws zs ss = .tuple #[.agg #[.int .i64 (cutN (stmS ps ws zs ss) ((sumsT ps ws).getD 0 0)), .int .i64 (cutD (stmS ps ws zs ss) ((sumsT ps ws).getD 0 0))], .bool true]) := Lib.hid (by unfold stmV; rw [if_pos BB])
      have RP := sumsT_root gd
      have RZ := sumsT_bd gd 0 (by have := gd.n1; omega)
      have TB := SM.tot
      have RC : Hid (∀ w', Calls Try.prog 93 #[.int .i64 (stmS ps ws zs ss), .int .i64 ((sumsT ps ws).getD 0 0)] w' (Gives (.tuple #[.agg #[.int .i64 (cutN (stmS ps ws zs ss) ((sumsT ps ws).getD 0 0)), .int .i64 (cutD (stmS ps ws zs ss) ((sumsT ps ws).getD 0 0))], .bool true]) w')) := Lib.hid (fun w' => by rw [← kept_mid (by omega) (by omega)]; exact reduceI_pos _ _ w' (by omega) (by omega))
      have hn0 := gd.n1
      have SL : Hid ((sumsT ps ws).length = ps.length) := Lib.hid (sumsT_len gd.nw)
      have ZL := Lib.hid SM.proc.len
      have RIN := Lib.hid (fun k (hk : k < ss.length) => (rise_up SM.stop.rise).2 (ss.getD k 0) (getD_mem hk))
      have TK := Lib.hid (fun k (hk : k < ss.length) => pickP_take (sumsT ps ws) zs hk)
      have BD := Lib.hid SM.bd
      have SB := Lib.hid (fun x (hx : x < ps.length) => sumsT_bd gd x hx)
      have ZB := Lib.hid (fun x (hx : x < ps.length) => SM.proc.bd x (by have := SM.proc.len; omega))
      have sl24 := SM.len
      have ALL : Hid (pickP (sumsT ps ws) zs (ss.take ss.length) = stmS ps ws zs ss) := Lib.hid (by rw [List.take_of_length_le (Nat.le_refl _)]; rfl)
      rw [hp] at PC
      clear hs hp D NV BB SM gd hg
      generalize stmS ps ws zs ss = tot at *
      obtain ⟨su, hsu⟩ : ∃ su, su = sumsT ps ws := ⟨_, rfl⟩
      rw [← hsu] at SU CV RP RZ RC SL TK BD SB ALL
      clear hsu
      go_enter Try.func57, Try.ntmps57
      go_wp2_with fail
      rw [← hwa]
      clear hwa
      refine (SN.out _ HBA.out).mono ?_
      rintro e w1 ⟨un, rfl, o1, b1⟩
      have HB1 := Lib.hid (HBA.out.trans (b1.mono HBA.out.size))
      have HR1 := Lib.hid (R1.out.below b1 R1.out.lt)
      have HT1 := Lib.hid (T1.out.below b1 T1.out.lt)
      obtain ⟨y0, y1⟩ := HT1.out.cells
      clear b1 o1 x0 x1
      go_wp2_with fail
      refine (PC.out _ HB1.out).mono ?_
      rintro e w2 ⟨rfl, b2⟩
      have HB2 := Lib.hid (HB1.out.trans (b2.mono HB1.out.size))
      have HR2 := Lib.hid (HR1.out.below b2 HR1.out.lt)
      obtain ⟨x0, x1⟩ := (HT1.out.below b2 HT1.out.lt).cells
      clear b2 y0 y1
      go_wp2_with fail
      refine (SU.out _ HB2.out).mono ?_
      rintro e w3 ⟨u3, rfl, o3, b3⟩
      obtain ⟨gs, cs, rfl, _, hg2⟩ := o3.shape (by have := SL.out; omega)
      have HB3 := Lib.hid (HB2.out.trans (b3.mono HB2.out.size))
      have HR3 := Lib.hid (HR2.out.below b3 HR2.out.lt)
      have DC := Lib.hid (fun j (hj : j < ps.length) => o3.cellGet (j := j) (by have := SL.out; omega))
      obtain ⟨sn, hsn⟩ : ∃ sn, sn = su.length := ⟨_, rfl⟩
      have le1 : sn ≤ ps.length := by have := SL.out; omega
      have le2 : ps.length ≤ sn := by have := SL.out; omega
      obtain ⟨zn, hzn⟩ : ∃ zn, zn = zs.length := ⟨_, rfl⟩
      have le3 : zn ≤ ps.length := by have := ZL.out; omega
      have le4 : ps.length ≤ zn := by have := ZL.out; omega
      have LEZ : Hid (∀ y, y < zn → y < zs.length) := Lib.hid (fun y hy => by omega)
      rw [← hsn, ← hzn]
      clear b3 o3 x0 x1 hg2 hsn hzn
      go_wp2
      go_loopw [12, 37] (fun s i wr => ∃ k : Nat, k ≤ ss.length ∧ i = .int .i64 k ∧ s = .int .i64 (pickP su zs (ss.take k)) ∧ ∃ n, wr = w3.drewN n) (fun _ i _ => ss.length - (intOf i).toNat)
      case atStart => exact ⟨0, Nat.zero_le _, rfl, rfl, 0, rfl⟩
      case round =>
        obtain ⟨k, hk, rfl, rfl, n, rfl⟩ := hrel
        by_cases hlt : k < ss.length
        · obtain ⟨b, off, rfl, hb, hc⟩ := Q2.out.get hlt
          have hcw : w3.cell? ⟨b, off + k, none⟩ = some (.int .i64 (ss.getD k 0)) := by rw [HB3.out.cell (p := ⟨b, off + k, none⟩) hb]; exact hc
          obtain ⟨z0, z1⟩ := RIN.out k hlt
          have ST := Lib.hid (TK.out k hlt)
          have b0 := BD.out k hk
          have b1 := BD.out (k + 1) (by omega)
          have k24 : (k + 1) * 479520 ≤ 24 * 479520 := Nat.mul_le_mul_right _ (by omega)
          have k23 : k * 479520 ≤ 24 * 479520 := Nat.mul_le_mul_right _ (by omega)
          obtain ⟨x, hx⟩ : ∃ x : Nat, (x : Int) = ss.getD k 0 := ⟨(ss.getD k 0).toNat, by omega⟩
          rw [← hx] at hcw ST z0 z1
          rw [Int.toNat_natCast] at ST
          have hxl : x < ps.length := by omega
          have hcs := DC.out x hxl
          obtain ⟨bz, oz, rfl, hbz, hcz⟩ := Q1.out.get (i := x) (LEZ.out x (by omega))
          have hcx : w3.cell? ⟨bz, oz + x, none⟩ = some (.int .i64 (zs.getD x 0)) := by rw [HB3.out.cell (p := ⟨bz, oz + x, none⟩) hbz]; exact hcz
          have sb := SB.out x hxl
          have zb := ZB.out x hxl
          have MB := mul_abs (x := su.getD x 0) (y := zs.getD x 0) (a := 480) (b := 999) (by omega) (by omega)
          rw [ST.out] at b1
          have i0 : (0 : Int) ≤ (k : Int) := by omega
          have i1 : (k : Int) < (ss.length : Int) := by omega
          have i2 : (x : Int) < (sn : Int) := by omega
          have i3 : (x : Int) < (zn : Int) := by omega
          obtain ⟨a, ha⟩ : ∃ a, a = su.getD x 0 := ⟨_, rfl⟩
          obtain ⟨c, hcc⟩ : ∃ c, c = zs.getD x 0 := ⟨_, rfl⟩
          obtain ⟨s, hsx⟩ : ∃ s, s = pickP su zs (ss.take k) := ⟨_, rfl⟩
          rw [← ha] at hcs ST sb MB b1
          rw [← hcc] at hcx ST zb MB b1
          rw [← hsx] at ST b0 b1 ⊢
          have WR : IntKind.i64.wrap (a * c) = a * c := IntWalk.i64_in _ (by omega)
          have p1 : -479520 ≤ a * c ∧ a * c ≤ 479520 := by omega
          have p2 : -11508480 ≤ s ∧ s ≤ 11508480 := by omega
          clear hc hcz hx ha hcc hsx b0 b1 MB k24 k23
          go_wp2_with fail
          go_quiet (fail)
          go_wp2_with fail
          go_roundw
          case rel => exact ⟨k + 1, by omega, by go_num, by rw [ST.out], _, rfl⟩
          case measure => simp [intOf]; omega
        · have hkn : k = ss.length := by omega
          rw [hkn, ALL.out]
          have hcz := DC.out 0 (by omega)
          obtain ⟨s0, hs0⟩ : ∃ s0, s0 = su.getD 0 0 := ⟨_, rfl⟩
          rw [← hs0] at hcz RC CV
          have HBN := Lib.hid (below_drewN HB3.out n)
          have HRN : Hid (PBox (w3.drewN n) (w.heap.size + 1) 0 0) := HR3
          have hcz' : (w3.drewN n).cell? ⟨gs, 0, none⟩ = some (.int .i64 s0) := hcz
          obtain ⟨w4, hw4⟩ : ∃ w4, w4 = w3.drewN n := ⟨_, rfl⟩
          rw [← hw4] at HBN HRN hcz' ⊢
          have i2 : (0 : Int) < (sn : Int) := by omega
          clear hkn hcz hw4 hs0 RP RZ TB
          go_wp2_with fail
          refine (RC.out _).mono ?_
          rintro e w5 ⟨rfl, b5⟩
          have HB5 := Lib.hid (HBN.out.trans (b5.mono HBN.out.size))
          obtain ⟨c0, c1, f0, f1⟩ := (HRN.out.below b5 HRN.out.lt).cells
          clear b5
          go_wp2_with fail
          refine bodyPost_ret (v := .tuple #[.agg #[.int .i64 (cutN tot s0), .int .i64 (cutD tot s0)], .bool true]) (by simp [results, Try.results57, go_sem, *]) rfl ⟨by rw [CV.out], ?_⟩
          exact (HB5.out.setCell (p := ⟨w.heap.size + 1, 0, none⟩) (by simp) _).setCell (p := ⟨w.heap.size + 1, 1, none⟩) (by simp) _
end Go.Proofs.Ytagljebfbacdhaa
namespace Go.Proofs.Ytagljebfbacdhaa
open Go.RowKit
set_option linter.unusedVariables false
set_option maxRecDepth 100000 in
set_option maxHeartbeats 4000000 in
theorem mean4S (ps ws zs ss : List Int) (v u1 u2 : Value) (w : World) (SM : Stm ps ws zs ss) (h : TreeV w w.heap.size v ps ws) (hu : IntsV w w.heap.size u1 zs) (hv : IntsV w w.heap.size u2 ss) :
    Calls Try.prog 56 #[v, u1, u2] w (Gives (.agg #[.int .i64 (cutN (stmS ps ws zs ss) ((sumsT ps ws).getD 0 0)), .int .i64 (cutD (stmS ps ws zs ss) ((sumsT ps ws).getD 0 0))]) w) := by
  have SU2 := Lib.hid (fun w' (hb : Below w.heap.size w w') => sumsS ps ws v w' SM.proc.good (h.boxed hb))
  obtain ⟨p1, c1, p2, c2, rfl⟩ := h.shape
  obtain ⟨q1, d1, rfl, _, _, _, j1⟩ := hu
  have Q1 := Lib.hid j1
  obtain ⟨q2, d2, rfl, _, _, _, j2⟩ := hv
  have Q2 := Lib.hid j2
  clear h j1 j2
  have B1 := ((Below.refl w.heap.size w).alloc (Nat.le_refl _) (.cells #[.slice p1 ps.length c1, .slice p2 ws.length c2] 28)).alloc (by simp) (.cells #[.int .i64 0, .int .i64 0] 34)
  have K0 := alloc_two w (.cells #[.slice p1 ps.length c1, .slice p2 ws.length c2] 28) (.cells #[.int .i64 0, .int .i64 0] 34)
  obtain ⟨wa, hwa⟩ : ∃ wa, wa = (w.alloc (.cells #[.slice p1 ps.length c1, .slice p2 ws.length c2] 28)).alloc (.cells #[.int .i64 0, .int .i64 0] 34) := ⟨_, rfl⟩
  rw [← hwa] at B1 K0
  have T1 := Lib.hid (show TBox wa w.heap.size (.slice p1 ps.length c1) (.slice p2 ws.length c2) from K0.1)
  have R1 := Lib.hid (show PBox wa (w.heap.size + 1) 0 0 from K0.2)
  have sz : wa.heap.size = w.heap.size + 2 := by rw [hwa]; simp
  have SZ := Lib.hid sz
  have HBA := Lib.hid B1
  clear K0 B1 sz
  obtain ⟨x0, x1⟩ := T1.out.cells
  have gd := SM.proc.good
  have RP := sumsT_root gd
  have RZ := sumsT_bd gd 0 (by have := gd.n1; omega)
  have TB := SM.tot
  have RC : Hid (∀ w', Calls Try.prog 60 #[.int .i64 (stmS ps ws zs ss), .int .i64 ((sumsT ps ws).getD 0 0)] w' (Gives (.agg #[.int .i64 (cutN (stmS ps ws zs ss) ((sumsT ps ws).getD 0 0)), .int .i64 (cutD (stmS ps ws zs ss) ((sumsT ps ws).getD 0 0))]) w')) := Lib.hid (fun w' => cutS _ _ w' (by omega) (by omega))
  have hn0 := gd.n1
  have SL : Hid ((sumsT ps ws).length = ps.length) := Lib.hid (sumsT_len gd.nw)
  have ZL := Lib.hid SM.proc.len
  have RIN := Lib.hid (fun k (hk : k < ss.length) => (rise_up SM.stop.rise).2 (ss.getD k 0) (getD_mem hk))
  have TK := Lib.hid (fun k (hk : k < ss.length) => pickP_take (sumsT ps ws) zs hk)
  have BD := Lib.hid SM.bd
  have SB := Lib.hid (fun x (hx : x < ps.length) => sumsT_bd gd x hx)
  have ZB := Lib.hid (fun x (hx : x < ps.length) => SM.proc.bd x (by have := SM.proc.len; omega))
  have sl24 := SM.len
  have ALL : Hid (pickP (sumsT ps ws) zs (ss.take ss.length) = stmS ps ws zs ss) := Lib.hid (by rw [List.take_of_length_le (Nat.le_refl _)]; rfl)
  clear SM gd
  generalize stmS ps ws zs ss = tot at *
  obtain ⟨su, hsu⟩ : ∃ su, su = sumsT ps ws := ⟨_, rfl⟩
  rw [← hsu] at SU2 RP RZ RC SL TK BD SB ALL ⊢
  clear hsu
  go_enter Try.func56, Try.ntmps56
  go_wp2_with fail
  rw [← hwa]
  clear hwa
  refine (SU2.out _ HBA.out).mono ?_
  rintro e w3 ⟨u3, rfl, o3, b3⟩
  obtain ⟨gs, cs, rfl, _, hg2⟩ := o3.shape (by have := SL.out; omega)
  have HB3 := Lib.hid (HBA.out.trans (b3.mono HBA.out.size))
  have HR3 := Lib.hid (R1.out.below b3 R1.out.lt)
  have DC := Lib.hid (fun j (hj : j < ps.length) => o3.cellGet (j := j) (by have := SL.out; omega))
  obtain ⟨sn, hsn⟩ : ∃ sn, sn = su.length := ⟨_, rfl⟩
  have le1 : sn ≤ ps.length := by have := SL.out; omega
  have le2 : ps.length ≤ sn := by have := SL.out; omega
  obtain ⟨zn, hzn⟩ : ∃ zn, zn = zs.length := ⟨_, rfl⟩
  have le3 : zn ≤ ps.length := by have := ZL.out; omega
  have le4 : ps.length ≤ zn := by have := ZL.out; omega
  have LEZ : Hid (∀ y, y < zn → y < zs.length) := Lib.hid (fun y hy => by omega)
  rw [← hsn, ← hzn]
  clear b3 o3 x0 x1 hg2 hsn hzn
  go_wp2
  go_loopw [8, 9] (fun s i wr => ∃ k : Nat, k ≤ ss.length ∧ i = .int .i64 k ∧ s = .int .i64 (pickP su zs (ss.take k)) ∧ ∃ n, wr = w3.drewN n) (fun _ i _ => ss.length - (intOf i).toNat)
  case atStart => exact ⟨0, Nat.zero_le _, rfl, rfl, 0, rfl⟩
  case round =>
    obtain ⟨k, hk, rfl, rfl, n, rfl⟩ := hrel
    by_cases hlt : k < ss.length
    · obtain ⟨b, off, rfl, hb, hc⟩ := Q2.out.get hlt
      have hcw : w3.cell? ⟨b, off + k, none⟩ = some (.int .i64 (ss.getD k 0)) := by rw [HB3.out.cell (p := ⟨b, off + k, none⟩) hb]; exact hc
      obtain ⟨z0, z1⟩ := RIN.out k hlt
      have ST := Lib.hid (TK.out k hlt)
      have b0 := BD.out k hk
      have b1 := BD.out (k + 1) (by omega)
      have k24 : (k + 1) * 479520 ≤ 24 * 479520 := Nat.mul_le_mul_right _ (by omega)
      have k23 : k * 479520 ≤ 24 * 479520 := Nat.mul_le_mul_right _ (by omega)
      obtain ⟨x, hx⟩ : ∃ x : Nat, (x : Int) = ss.getD k 0 := ⟨(ss.getD k 0).toNat, by omega⟩
      rw [← hx] at hcw ST z0 z1
      rw [Int.toNat_natCast] at ST
      have hxl : x < ps.length := by omega
      have hcs := DC.out x hxl
      obtain ⟨bz, oz, rfl, hbz, hcz⟩ := Q1.out.get (i := x) (LEZ.out x (by omega))
      have hcx : w3.cell? ⟨bz, oz + x, none⟩ = some (.int .i64 (zs.getD x 0)) := by rw [HB3.out.cell (p := ⟨bz, oz + x, none⟩) hbz]; exact hcz
      have sb := SB.out x hxl
      have zb := ZB.out x hxl
      have MB := mul_abs (x := su.getD x 0) (y := zs.getD x 0) (a := 480) (b := 999) (by omega) (by omega)
      rw [ST.out] at b1
      have i0 : (0 : Int) ≤ (k : Int) := by omega
      have i1 : (k : Int) < (ss.length : Int) := by omega
      have i2 : (x : Int) < (sn : Int) := by omega
      have i3 : (x : Int) < (zn : Int) := by omega
      obtain ⟨a, ha⟩ : ∃ a, a = su.getD x 0 := ⟨_, rfl⟩
      obtain ⟨c, hcc⟩ : ∃ c, c = zs.getD x 0 := ⟨_, rfl⟩
      obtain ⟨s, hsx⟩ : ∃ s, s = pickP su zs (ss.take k) := ⟨_, rfl⟩
      rw [← ha] at hcs ST sb MB b1
      rw [← hcc] at hcx ST zb MB b1
      rw [← hsx] at ST b0 b1 ⊢
      have WR : IntKind.i64.wrap (a * c) = a * c := IntWalk.i64_in _ (by omega)
      have p1 : -479520 ≤ a * c ∧ a * c ≤ 479520 := by omega
      have p2 : -11508480 ≤ s ∧ s ≤ 11508480 := by omega
      clear hc hcz hx ha hcc hsx b0 b1 MB k24 k23
      go_wp2_with fail
      go_quiet (fail)
      go_wp2_with fail
      go_roundw
      case rel => exact ⟨k + 1, by omega, by go_num, by rw [ST.out], _, rfl⟩
      case measure => simp [intOf]; omega
    · have hkn : k = ss.length := by omega
      rw [hkn, ALL.out]
      have hcz := DC.out 0 (by omega)
      obtain ⟨s0, hs0⟩ : ∃ s0, s0 = su.getD 0 0 := ⟨_, rfl⟩
      rw [← hs0] at hcz RC ⊢
      have HBN := Lib.hid (below_drewN HB3.out n)
      have HRN : Hid (PBox (w3.drewN n) (w.heap.size + 1) 0 0) := HR3
      have hcz' : (w3.drewN n).cell? ⟨gs, 0, none⟩ = some (.int .i64 s0) := hcz
      obtain ⟨w4, hw4⟩ : ∃ w4, w4 = w3.drewN n := ⟨_, rfl⟩
      rw [← hw4] at HBN HRN hcz' ⊢
      have i2 : (0 : Int) < (sn : Int) := by omega
      have HS0 := Lib.hid hs0
      clear hkn hcz hw4 hs0 RP RZ TB
      go_wp2_with fail
      refine (RC.out _).mono ?_
      rintro e w5 ⟨rfl, b5⟩
      have HB5 := Lib.hid (HBN.out.trans (b5.mono HBN.out.size))
      obtain ⟨c0, c1, f0, f1⟩ := (HRN.out.below b5 HRN.out.lt).cells
      clear b5
      go_wp2_with fail
      refine bodyPost_ret (v := .agg #[.int .i64 (cutN tot s0), .int .i64 (cutD tot s0)]) (by simp [results, Try.results56, go_sem, *]) rfl ⟨by rw [HS0.out], ?_⟩
      exact (HB5.out.setCell (p := ⟨w.heap.size + 1, 0, none⟩) (by simp) _).setCell (p := ⟨w.heap.size + 1, 1, none⟩) (by simp) _
set_option maxRecDepth 100000 in
set_option maxHeartbeats 4000000 in
theorem ruleMeanM (ps ws zs ss : List Int) (v u1 u2 : Value) (w : World) (hn1 : zs.length ≤ 1048576) (hn2 : ss.length ≤ 1048576) (h : TreeV w w.heap.size v ps ws) (hu : IntsV w w.heap.size u1 zs) (hv : IntsV w w.heap.size u2 ss) :
    Calls Try.prog 22 #[v, u1, u2] w (Gives (stmV ps ws zs ss) w) := by
  have PC := Lib.hid (fun w' (hb : Below w.heap.size w w') => pays4 ps ws zs v u1 w' hn1 (h.boxed hb) ((hu.below hb).more hb.size))
  have SS := Lib.hid (fun (gd : Good ps ws) w' (hb : Below w.heap.size w w') => rule4S ps ws ss v u2 w' gd hn2 (h.boxed hb) ((hv.below hb).more hb.size))
  have MN := Lib.hid (fun (s : Stm ps ws zs ss) w' (hb : Below w.heap.size w w') => mean4S ps ws zs ss v u1 u2 w' s (h.boxed hb) ((hu.below hb).more hb.size) ((hv.below hb).more hb.size))
  obtain ⟨p1, c1, p2, c2, rfl⟩ := h.shape
  obtain ⟨q1, d1, rfl, _⟩ := hu
  obtain ⟨q2, d2, rfl, _⟩ := hv
  clear h
  have B1 := ((Below.refl w.heap.size w).alloc (Nat.le_refl _) (.cells #[.slice p1 ps.length c1, .slice p2 ws.length c2] 28)).alloc (by simp) (.cells #[.int .i64 0, .int .i64 0] 34)
  have K0 := alloc_two w (.cells #[.slice p1 ps.length c1, .slice p2 ws.length c2] 28) (.cells #[.int .i64 0, .int .i64 0] 34)
  obtain ⟨wa, hwa⟩ : ∃ wa, wa = (w.alloc (.cells #[.slice p1 ps.length c1, .slice p2 ws.length c2] 28)).alloc (.cells #[.int .i64 0, .int .i64 0] 34) := ⟨_, rfl⟩
  rw [← hwa] at B1 K0
  have T1 := Lib.hid (show TBox wa w.heap.size (.slice p1 ps.length c1) (.slice p2 ws.length c2) from K0.1)
  have R1 := Lib.hid (show PBox wa (w.heap.size + 1) 0 0 from K0.2)
  have sz : wa.heap.size = w.heap.size + 2 := by rw [hwa]; simp
  have SZ := Lib.hid sz
  have HBA := Lib.hid B1
  clear K0 B1 sz
  obtain ⟨x0, x1⟩ := T1.out.cells
  have D : Hid (bothB ps ws zs ss = (procB ps ws zs && stopB ps ws ss)) := Lib.hid rfl
  have NV : Hid (bothB ps ws zs ss = false → stmV ps ws zs ss = zeroP) := Lib.hid (fun h => by unfold stmV; rw [h]; simp)
  have HR := R1
  cases hp : procB ps ws zs
  · have CV := Lib.hid (NV.out (by rw [D.out, hp, Bool.false_and]))
    rw [hp] at PC
    clear hp SS MN NV D
    go_enter Try.func22, Try.ntmps22
    go_wp2_with fail
    rw [← hwa]
    clear hwa x0 x1
    refine (PC.out _ HBA.out).mono ?_
    rintro e w1 ⟨rfl, b1⟩
    have HB1 := Lib.hid (HBA.out.trans (b1.mono HBA.out.size))
    obtain ⟨c0, c1, f0, f1⟩ := (HR.out.below b1 HR.out.lt).cells
    clear b1
    go_wp2_with fail
    refine bodyPost_ret (v := .tuple #[.agg #[.int .i64 0, .int .i64 0], .bool false]) (by simp [results, Try.results22, go_sem, c0, c1]) rfl ⟨by rw [CV.out]; rfl, ?_⟩
    exact (HB1.out.setCell (p := ⟨w.heap.size + 1, 0, none⟩) (by simp) _).setCell (p := ⟨w.heap.size + 1, 1, none⟩) (by simp) _
  · have PR := procB_iff.1 hp
    have SS2 := Lib.hid (SS.out PR.good)
    rw [hp] at PC
    cases hs : stopB ps ws ss
    · have CV := Lib.hid (NV.out (by rw [D.out, hs, Bool.and_false]))
      rw [hs] at SS2
      clear hp hs SS MN NV D PR
      go_enter Try.func22, Try.ntmps22
      go_wp2_with fail
      rw [← hwa]
      clear hwa x0 x1
      refine (PC.out _ HBA.out).mono ?_
      rintro e w1 ⟨rfl, b1⟩
      have HB1 := Lib.hid (HBA.out.trans (b1.mono HBA.out.size))
      have HR1 := Lib.hid (R1.out.below b1 R1.out.lt)
      obtain ⟨y0, y1⟩ := (T1.out.below b1 T1.out.lt).cells
      clear b1 HR
      have HR := HR1
      go_wp2_with fail
      refine (SS2.out _ HB1.out).mono ?_
      rintro e w2 ⟨rfl, b2⟩
      have HB2 := Lib.hid (HB1.out.trans (b2.mono HB1.out.size))
      obtain ⟨c0, c1, f0, f1⟩ := (HR.out.below b2 HR.out.lt).cells
      clear b2
      go_wp2_with fail
      refine bodyPost_ret (v := .tuple #[.agg #[.int .i64 0, .int .i64 0], .bool false]) (by simp [results, Try.results22, go_sem, c0, c1]) rfl ⟨by rw [CV.out]; rfl, ?_⟩
      exact (HB2.out.setCell (p := ⟨w.heap.size + 1, 0, none⟩) (by simp) _).setCell (p := ⟨w.heap.size + 1, 1, none⟩) (by simp) _
    · have CV : Hid (stmV ps ws zs ss = .tuple #[.agg #[.int .i64 (cutN (stmS ps ws zs ss) ((sumsT ps ws).getD 0 0)), .int .i64 (cutD (stmS ps ws zs ss) ((sumsT ps ws).getD 0 0))], .bool true]) := Lib.hid (by unfold stmV; rw [if_pos (by rw [D.out, hp, hs]; rfl)])
      have MN2 := Lib.hid (MN.out ⟨PR, stopB_iff.1 hs⟩)
      rw [hs] at SS2
      clear hp hs SS MN NV D PR
      generalize cutN (stmS ps ws zs ss) ((sumsT ps ws).getD 0 0) = mn at *
      generalize cutD (stmS ps ws zs ss) ((sumsT ps ws).getD 0 0) = md at *
      go_enter Try.func22, Try.ntmps22
      go_wp2_with fail
      rw [← hwa]
      clear hwa x0 x1
      refine (PC.out _ HBA.out).mono ?_
      rintro e w1 ⟨rfl, b1⟩
      have HB1 := Lib.hid (HBA.out.trans (b1.mono HBA.out.size))
      have HR1 := Lib.hid (R1.out.below b1 R1.out.lt)
      have HT1 := Lib.hid (T1.out.below b1 T1.out.lt)
      obtain ⟨y0, y1⟩ := HT1.out.cells
      clear b1 HR
      go_wp2_with fail
      refine (SS2.out _ HB1.out).mono ?_
      rintro e w2 ⟨rfl, b2⟩
      have HB2 := Lib.hid (HB1.out.trans (b2.mono HB1.out.size))
      have HR2 := Lib.hid (HR1.out.below b2 HR1.out.lt)
      obtain ⟨z0, z1⟩ := (HT1.out.below b2 HT1.out.lt).cells
      clear b2 y0 y1
      go_wp2_with fail
      refine (MN2.out _ HB2.out).mono ?_
      rintro e w3 ⟨rfl, b3⟩
      have HB3 := Lib.hid (HB2.out.trans (b3.mono HB2.out.size))
      obtain ⟨c0, c1, f0, f1⟩ := (HR2.out.below b3 HR2.out.lt).cells
      clear b3
      go_wp2_with fail
      refine bodyPost_ret (v := .tuple #[.agg #[.int .i64 mn, .int .i64 md], .bool true]) (by simp [results, Try.results22, go_sem, *]) rfl ⟨by rw [CV.out], ?_⟩
      exact (HB3.out.setCell (p := ⟨w.heap.size + 1, 0, none⟩) (by simp) _).setCell (p := ⟨w.heap.size + 1, 1, none⟩) (by simp) _
set_option maxRecDepth 100000 in
set_option maxHeartbeats 2000000 in
theorem ruleMeanI (ps ws zs ss : List Int) (v u1 u2 : Value) (w : World) (hn1 : zs.length ≤ 1048576) (hn2 : ss.length ≤ 1048576) (h : TreeV w w.heap.size v ps ws) (hu : IntsV w w.heap.size u1 zs) (hv : IntsV w w.heap.size u2 ss) :
    Calls Try.prog 23 #[v, u1, u2] w (Gives (stmV ps ws zs ss) w) := by
  have C := Lib.hid (fun w' (hb : Below w.heap.size w w') => stmI ps ws zs ss v u1 u2 w' hn1 hn2 (h.boxed hb) ((hu.below hb).more hb.size) ((hv.below hb).more hb.size))
  obtain ⟨p1, c1, p2, c2, rfl⟩ := h.shape
  obtain ⟨q1, d1, rfl, _⟩ := hu
  obtain ⟨q2, d2, rfl, _⟩ := hv
  clear h
  have B1 := ((Below.refl w.heap.size w).alloc (Nat.le_refl _) (.cells #[.slice p1 ps.length c1, .slice p2 ws.length c2] 28)).alloc (by simp) (.cells #[.int .i64 0, .int .i64 0] 34)
  have K0 := alloc_two w (.cells #[.slice p1 ps.length c1, .slice p2 ws.length c2] 28) (.cells #[.int .i64 0, .int .i64 0] 34)
  obtain ⟨wa, hwa⟩ : ∃ wa, wa = (w.alloc (.cells #[.slice p1 ps.length c1, .slice p2 ws.length c2] 28)).alloc (.cells #[.int .i64 0, .int .i64 0] 34) := ⟨_, rfl⟩
  rw [← hwa] at B1 K0
  have T1 := Lib.hid (show TBox wa w.heap.size (.slice p1 ps.length c1) (.slice p2 ws.length c2) from K0.1)
  have R1 := Lib.hid (show PBox wa (w.heap.size + 1) 0 0 from K0.2)
  have sz : wa.heap.size = w.heap.size + 2 := by rw [hwa]; simp
  have SZ := Lib.hid sz
  have HBA := Lib.hid B1
  clear K0 B1 sz
  obtain ⟨x0, x1⟩ := T1.out.cells
  obtain ⟨pn, pd, ok, hV⟩ := stmV_form ps ws zs ss
  rw [hV] at C ⊢
  clear hV
  go_enter Try.func23, Try.ntmps23
  go_wp2_with fail
  rw [← hwa]
  clear hwa x0 x1
  refine (C.out _ HBA.out).mono ?_
  rintro e w1 ⟨rfl, b1⟩
  have HB1 := Lib.hid (HBA.out.trans (b1.mono HBA.out.size))
  obtain ⟨c0, c1, f0, f1⟩ := (R1.out.below b1 R1.out.lt).cells
  clear b1
  go_wp2_with fail
  refine bodyPost_ret (v := .tuple #[.agg #[.int .i64 pn, .int .i64 pd], .bool ok]) (by simp [results, Try.results23, go_sem, *]) rfl ⟨rfl, ?_⟩
  exact (HB1.out.setCell (p := ⟨w.heap.size + 1, 0, none⟩) (by simp) _).setCell (p := ⟨w.heap.size + 1, 1, none⟩) (by simp) _
end Go.Proofs.Ytagljebfbacdhaa
