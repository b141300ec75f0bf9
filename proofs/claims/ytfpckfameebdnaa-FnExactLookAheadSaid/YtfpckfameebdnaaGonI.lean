/- What going on gives, in the program. -/
import Derived.Test.YtfpckfameebdnaaGamI
namespace Go.Proofs.Ytfpckfameebdnaa
open Go.RowKit
set_option linter.unusedVariables false
set_option maxRecDepth 100000 in
set_option maxHeartbeats 4000000 in
theorem goingI (ps ws zs C : List Int) (B : Nat) (g u : Value) (w : World) (pr : Proc ps ws zs) (hC : C.length = ps.length) (hb : ∀ y, y < ps.length → (C.getD y 0).natAbs ≤ 1000000000) (h : Game w w.heap.size g ps ws zs) (hu : IntsV w w.heap.size u C) :
    Calls Try.prog 80 #[g, u] w (NewInts (gonL ps C ps.length) w) := by
  have gd := pr.good
  have GP := Lib.hid gd.par
  have hn := gd.n24
  have hn0 := gd.n1
  have ONE := Lib.hid (gonL_one (V := C) gd.root gd.n1)
  have SET := Lib.hid (fun (k j : Nat) hk hj hjn => gonL_set (ps := ps) (V := C) (k := k) (j := j) hk hj hjn)
  have GL := Lib.hid (fun k => gonL_len ps C k)
  have GB := Lib.hid (fun (k j : Nat) (hk : k ≤ ps.length) (hj : j < ps.length) => show ((gonL ps C k).getD j 0).natAbs ≤ 24000000000 from by
    rw [gonL_at hj]
    have h1 := kid_bd hb j hk
    have h2 : k * 1000000000 ≤ 24 * 1000000000 := Nat.mul_le_mul_right _ (by omega)
    omega)
  have CB := Lib.hid hb
  obtain ⟨v1, v2, us, uz, rfl, h1, h2, h3⟩ := h
  obtain ⟨v1', v2', hs, ⟨p1, c1, rfl, _, _, _, i1⟩, ⟨p2, c2, rfl, _⟩⟩ := h1
  injection hs with hs
  injection hs with hs
  injection hs with hs1 hs
  injection hs with hs2 hs
  subst hs1; subst hs2
  clear hs
  obtain ⟨p3, c3, rfl, _⟩ := h2
  obtain ⟨p4, c4, rfl, _⟩ := h3
  obtain ⟨q1, d1, rfl, _, _, _, j1⟩ := hu
  have P1 := Lib.hid i1
  have Q1 := Lib.hid j1
  obtain ⟨sn, hsn⟩ : ∃ sn, sn = (sumsT ps ws).length := ⟨_, rfl⟩
  rw [← hsn]
  have B1 := (Below.refl w.heap.size w).alloc (Nat.le_refl _) (.cells #[.slice p1 ps.length c1, .slice p2 ws.length c2, .slice p3 sn c3, .slice p4 zs.length c4] 73)
  have R1 := show GBox (w.alloc (.cells #[.slice p1 ps.length c1, .slice p2 ws.length c2, .slice p3 sn c3, .slice p4 zs.length c4] 73)) w.heap.size _ _ _ _ from alloc_heap w _
  obtain ⟨wa, hwa⟩ : ∃ wa, wa = w.alloc (.cells #[.slice p1 ps.length c1, .slice p2 ws.length c2, .slice p3 sn c3, .slice p4 zs.length c4] 73) := ⟨_, rfl⟩
  have sz : wa.heap.size = w.heap.size + 1 := by rw [hwa]; simp
  rw [← hwa] at B1 R1
  have HB2 := Lib.hid B1
  have HT2 := Lib.hid R1
  have CLH := Lib.hid hC
  have SZ := Lib.hid sz
  clear i1 j1 B1 R1 hsn pr gd hb hC sz
  obtain ⟨i0, hi, hz0, hz1, hz2⟩ := info_parts intInfo
  have c1' : i0.bytes * C.length ≤ 281474976710656 := by rw [hz2]; have := CLH.out; omega
  have c2' : C.length ≤ maxLen := by unfold maxLen; have := CLH.out; omega
  have le1 : C.length ≤ ps.length := by have := CLH.out; omega
  have le2 : ps.length ≤ C.length := by have := CLH.out; omega
  go_enter Try.func80, Try.ntmps80
  go_wp2_with (at_make; refine wpList_make_full _ rfl _ _ 22 rfl (w.heap.size + 1) 3 i0 (.int .i64 0) 1 Try.underlying22 hi hz0 hz1 .i64 .i64 _ _ C.length rfl rfl rfl rfl c1' c2' (by simp) ?_; intro w3 hown hg2)
  rw [← hwa] at hg2
  have hown1 : w3.ownsRow (w.heap.size + 1) 3 1 (.slice (some ⟨w.heap.size + 1, 0, none⟩) C.length C.length) C.length (List.replicate C.length (.int .i64 0)) := by
    have h2 := hown
    rw [show (Value.int .i64 0).cells = #[Value.int .i64 0] from rfl, Nat.mul_one, toList_madeCells_one] at h2
    simpa using h2
  have O2 := Lib.hid (OwnV.made hown1)
  have ONE2 := ONE.out
  rw [← CLH.out] at ONE2
  rw [← ONE2] at O2
  have B2 := Lib.hid (HB2.out.grown hg2 HB2.out.size (fun q hq => by simp at hq))
  have BW := Lib.hid ((Below.refl wa.heap.size wa).grown hg2 (Nat.le_refl _) (fun q hq => by simp at hq))
  clear hown hown1 hg2 c1' c2' hi hz0 hz1 hz2 ONE2 ONE hwa
  go_wp2_with fail
  go_loopw [6] (fun i wr => ∃ k : Nat, 1 ≤ k ∧ k ≤ ps.length ∧ i = .int .i64 k ∧ Hid (OwnV wr (w.heap.size + 1) wr.heap.size (.slice (some ⟨w.heap.size + 1, 0, none⟩) C.length C.length) (gonL ps C k)) ∧ Hid (Below wa.heap.size wa wr)) (fun i _ => ps.length - (intOf i).toNat)
  case atStart => exact ⟨1, Nat.le_refl _, hn0, rfl, O2, BW⟩
  case round =>
    obtain ⟨k, hk1, hk, rfl, HO, HB⟩ := hrel
    have HBX := Lib.hid (HB2.out.trans (HB.out.mono HB2.out.size))
    have HTX := Lib.hid (HT2.out.below HB.out HT2.out.lt)
    clear O2 B2 BW
    by_cases hlt : k < ps.length
    · obtain ⟨b, off, hq, hb, hc⟩ := P1.out.get hlt
      subst hq
      obtain ⟨bz, oz, hqz, hbz, hcz⟩ := Q1.out.get (i := k) (by omega)
      subst hqz
      obtain ⟨g1, g2⟩ := GP.out k (by omega) hlt
      obtain ⟨j, hj⟩ : ∃ j : Nat, ps.getD k 0 = (j : Int) := ⟨(ps.getD k 0).toNat, by omega⟩
      have hjk : j < k := by omega
      have hcw : wr.cell? ⟨b, off + k, none⟩ = some (.int .i64 j) := by rw [HBX.out.cell (p := ⟨b, off + k, none⟩) hb, hc, hj]
      have hcy : wr.cell? ⟨bz, oz + k, none⟩ = some (.int .i64 (C.getD k 0)) := by rw [HBX.out.cell (p := ⟨bz, oz + k, none⟩) hbz, hcz]
      have hdj := HO.out.cellGet (j := j) (by rw [GL.out]; omega)
      have hfz : wr.frozen? ⟨w.heap.size + 1, j, none⟩ = false := HO.out.frozenGet j
      have se := SET.out k j hlt hj (by omega)
      have gb := GB.out k j hk (by omega)
      have cb := CB.out k hlt
      obtain ⟨a, ha⟩ : ∃ t, t = (gonL ps C k).getD j 0 := ⟨_, rfl⟩
      obtain ⟨c, hcc⟩ : ∃ t, t = C.getD k 0 := ⟨_, rfl⟩
      rw [← ha] at hdj se gb
      rw [← hcc] at hcy se cb
      have O3 := Lib.hid (HO.out.setAt j (x := a + c) (by unfold InI64; omega))
      rw [se] at O3
      have B3 := Lib.hid (HB.out.setCell (p := ⟨w.heap.size + 1, j, none⟩) (by simp; have := SZ.out; omega) (.int .i64 (a + c)))
      obtain ⟨x0, x1, x2, x3⟩ := HTX.out.cells
      have i0' : (0 : Int) ≤ (k : Int) := by omega
      have i1' : (k : Int) < (ps.length : Int) := by omega
      have i2' : (k : Int) < (C.length : Int) := by omega
      have j0 : (0 : Int) ≤ (j : Int) := by omega
      have j1 : (j : Int) < (C.length : Int) := by omega
      have ab : -24000000000 ≤ a ∧ a ≤ 24000000000 := by omega
      have cb2 : -1000000000 ≤ c ∧ c ≤ 1000000000 := by omega
      clear HO HB HBX HTX se gb cb hc hcz hj ha hcc g1 g2
      go_wp2_with fail
      go_region
      go_wp2_with fail
      go_roundw
      case rel => exact ⟨k + 1, by omega, by omega, by go_num, Lib.hid (by have h := O3.out.below (below_drew (Below.refl _ _)); simpa [World.setCell] using h), Lib.hid (below_drew B3.out)⟩
      case measure => simp [intOf]; omega
    · obtain rfl : k = ps.length := by omega
      have FIN : Hid (NewInts (gonL ps C ps.length) w (.returned (.slice (some ⟨w.heap.size + 1, 0, none⟩) C.length C.length)) wr) := Lib.hid ⟨_, rfl, HO.out.low (by omega), HBX.out⟩
      go_wp2_with fail
      go_ret
      exact FIN.out
end Go.Proofs.Ytfpckfameebdnaa
