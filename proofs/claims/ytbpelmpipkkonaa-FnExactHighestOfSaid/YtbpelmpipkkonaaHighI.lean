/- HighestOf in the program. -/
import Derived.Test.YtbpelmpipkkonaaHighP
import Derived.Test.YtbpelmpipkkonaaPassI
import Derived.Test.YtbpelmpipkkonaaAtI
import Derived.Test.YtbpelmpipkkonaaVBox
namespace Go.Proofs.Ytbpelmpipkkonaa
open Go.RowKit
set_option linter.unusedVariables false
set_option maxHeartbeats 1000000 in
theorem highPart (ps ws zs : List Int) (w W0 : World) (C d : Nat) (q : Option Addr) (pr : Proc ps ws zs) (hI : IntsAt w w.heap.size q zs) (h0 : Below w.heap.size w W0) (hc : VBox W0 C (.slice q zs.length d) 22) :
    PassI 74 #[.pointer (some ⟨C, 0, none⟩)] ps (-999) (highT ps zs) W0 := by
  intro W x hx hb
  have y0 := (hc.below hb hc.lt).cell
  have hp := ParOk.of pr.good
  have AT := passT_at hp (-999) (fun a x => maxI a (zs.getD x 0)) hx
  change (highT ps zs).getD x 0 = maxI (abv ps (-999) (highT ps zs) x) (zs.getD x 0) at AT
  have hl := pr.len
  have hn24 := pr.good.n24
  obtain ⟨b, off, rfl, hb2, hc2⟩ := hI.get (i := x) (by omega)
  have hb3 := h0.trans (hb.mono h0.size)
  have hcw : W.cell? ⟨b, off + x, none⟩ = some (.int .i64 (zs.getD x 0)) := by rw [hb3.cell (p := ⟨b, off + x, none⟩) hb2, hc2]
  have i0 : (0 : Int) ≤ (x : Int) := by omega
  have i1 : (x : Int) < (zs.length : Int) := by omega
  have zl : zs.length ≤ 24 := by omega
  obtain ⟨a, ha⟩ : ∃ a, a = abv ps (-999) (highT ps zs) x := ⟨_, rfl⟩
  rw [← ha] at AT ⊢
  obtain ⟨z, hz⟩ : ∃ z, z = zs.getD x 0 := ⟨_, rfl⟩
  rw [← hz] at AT hcw
  rw [AT]
  have DM : Hid (maxI a z = if a < z then z else a) := Lib.hid rfl
  clear hc hb AT ha hz hc2 hb3 h0 hI hp pr hl hn24 hb2
  show Calls _ _ #[.int .i64 a, .int .i64 x, .pointer (some ⟨C, 0, none⟩)] _ _
  by_cases hlt : a < z
  · have R : Hid (maxI a z = z) := Lib.hid (by rw [DM.out, if_pos hlt])
    rw [R.out]
    go_enter Try.func74, Try.ntmps74
    go_wp2
    go_ret
    exact ⟨by first | rfl | (simp; omega), Below.refl _ _⟩
  · have R : Hid (maxI a z = a) := Lib.hid (by rw [DM.out, if_neg hlt])
    rw [R.out]
    go_enter Try.func74, Try.ntmps74
    go_wp2
    go_ret
    exact ⟨by first | rfl | (simp; omega), Below.refl _ _⟩
theorem endAt (es T : List Int) (g : Nat) (W0 : World) (C gb cap n : Nat) (hn : n ≤ 1000000) (hes : ∀ z ∈ es, ∃ x : Nat, z = (x : Int) ∧ x < n) (hg : gb < W0.heap.size) (hD : ∀ j, j < n → W0.cell? ⟨gb, j, none⟩ = some (.int .i64 (T.getD j 0)))
    (hc : VBox W0 C (.slice (some ⟨gb, 0, none⟩) n cap) 22) :
    EndI 76 #[.pointer (some ⟨C, 0, none⟩)] es (fun e => T.getD e.toNat 0) W0 := by
  intro W z hz hb
  obtain ⟨x, rfl, hx⟩ := hes z hz
  have y0 := (hc.below hb hc.lt).cell
  have hcx : W.cell? ⟨gb, x, none⟩ = some (.int .i64 (T.getD x 0)) := by rw [hb.cell (p := ⟨gb, x, none⟩) hg]; exact hD x hx
  have i0 : (0 : Int) ≤ (x : Int) := by omega
  have i1 : (x : Int) < (n : Int) := by omega
  dsimp only
  rw [Int.toNat_natCast]
  generalize T.getD x 0 = a at *
  clear hc hb hD hes hz
  show Calls _ _ #[.int .i64 (x : Int), .pointer (some ⟨C, 0, none⟩)] _ _
  go_enter Try.func76, Try.ntmps76
  go_wp2
  go_ret
  exact ⟨rfl, Below.refl _ _⟩
set_option maxRecDepth 100000 in
set_option maxHeartbeats 4000000 in
theorem highI (ps ws zs : List Int) (v u : Value) (w : World) (hn1 : zs.length ≤ 1048576) (h : TreeV w w.heap.size v ps ws) (hu : IntsV w w.heap.size u zs) :
    Calls Try.prog 41 #[v, u] w (NewIntsB (ifProc ps ws zs (highE ps zs)) (procB ps ws zs) w) := by
  have PC := Lib.hid (fun w' (hb : Below w.heap.size w w') => procI ps ws zs v u w' hn1 (h.boxed hb) ((hu.below hb).more hb.size))
  have TV := Lib.hid (fun w' (hb : Below w.heap.size w w') => h.boxed hb)
  obtain ⟨p1, c1, p2, c2, rfl⟩ := h.shape
  obtain ⟨q, d, rfl, _, _, _, j1⟩ := hu
  have Q1 := Lib.hid j1
  clear h j1
  have hmf : ∀ (fn : Fn) (first cap : Array Value) (w : World), (Instr.makeFunc fn first cap).run Try.prog w = .ok (.func fn first cap) w := fun _ _ _ _ => rfl
  have B1 := ((Below.refl w.heap.size w).alloc (Nat.le_refl _) (.cells #[.slice p1 ps.length c1, .slice p2 ws.length c2] 28)).alloc (by simp) (.cells #[.slice q zs.length d] 22)
  have K0 := alloc_two w (.cells #[.slice p1 ps.length c1, .slice p2 ws.length c2] 28) (.cells #[.slice q zs.length d] 22)
  obtain ⟨x0, x1⟩ := (show TBox _ w.heap.size (.slice p1 ps.length c1) (.slice p2 ws.length c2) from K0.1).cells
  have x2 := (show VBox _ (w.heap.size + 1) (.slice q zs.length d) 22 from K0.2).cell
  obtain ⟨wa, hwa⟩ : ∃ wa, wa = (w.alloc (.cells #[.slice p1 ps.length c1, .slice p2 ws.length c2] 28)).alloc (.cells #[.slice q zs.length d] 22) := ⟨_, rfl⟩
  rw [← hwa] at B1 K0
  have T1 := Lib.hid (show TBox wa w.heap.size (.slice p1 ps.length c1) (.slice p2 ws.length c2) from K0.1)
  have V1 := Lib.hid (show VBox wa (w.heap.size + 1) (.slice q zs.length d) 22 from K0.2)
  have HBA := Lib.hid B1
  clear K0 B1
  cases hp : procB ps ws zs
  · rw [hp] at PC
    have IS := Lib.hid (show ifProc ps ws zs (highE ps zs) = [] by unfold ifProc; rw [hp]; rfl)
    rw [IS.out]
    clear hp TV
    go_enter Try.func41, Try.ntmps41
    go_wp2_with fail
    rw [← hwa]
    clear hwa
    refine (PC.out _ HBA.out).mono ?_
    rintro e w1 ⟨rfl, b1⟩
    have HB1 := Lib.hid (HBA.out.trans (b1.mono HBA.out.size))
    clear b1
    go_wp2_with fail
    go_ret2
    exact newInts_empty HB1.out
  · rw [hp] at PC
    have IS := Lib.hid (show ifProc ps ws zs (highE ps zs) = highE ps zs by unfold ifProc; rw [hp]; rfl)
    have PR := Lib.hid (procB_iff.1 hp)
    have hn24 := PR.out.good.n24
    have hn0 := PR.out.good.n1
    have TL : Hid ((highT ps zs).length = ps.length) := Lib.hid (passT_len _ _ _)
    have HE : Hid (highE ps zs = (endsT ps).map (fun e => (highT ps zs).getD e.toNat 0)) := Lib.hid rfl
    rw [IS.out]
    clear hp
    go_enter Try.func41, Try.ntmps41
    go_wp2_with fail
    rw [← hwa]
    clear hwa
    refine (PC.out _ HBA.out).mono ?_
    rintro e w1 ⟨rfl, b1⟩
    have HB1 := Lib.hid (HBA.out.trans (b1.mono HBA.out.size))
    have HT1 := Lib.hid (T1.out.below b1 T1.out.lt)
    have HV1 := Lib.hid (V1.out.below b1 V1.out.lt)
    clear b1 x0 x1 x2
    obtain ⟨x0, x1⟩ := HT1.out.cells
    have P := Lib.hid (passI ps ws (highT ps zs) (-999) _ 74 #[.pointer (some ⟨w.heap.size + 1, 0, none⟩)] w1 (enters_of Try.func74 (by kernel_rfl) rfl) PR.out.good (TV.out w1 HB1.out) TL.out (fun i hi => by have := high_bd PR.out i (by have := TL.out; omega); unfold InI64; omega) (highPart ps ws zs w w1 _ d q PR.out Q1.out HB1.out HV1.out))
    go_wp2_with fail
    refine P.out.mono ?_
    rintro e w3 ⟨u3, rfl, o3, b3⟩
    obtain ⟨gb, cb, rfl, _, hg2⟩ := o3.shape (by have := TL.out; omega)
    have DC := Lib.hid (fun j (hj : j < ps.length) => o3.cellGet (j := j) (by have := TL.out; omega))
    rw [TL.out]
    have HB3 := Lib.hid (HB1.out.trans (b3.mono HB1.out.size))
    have HT3 := Lib.hid (HT1.out.below b3 HT1.out.lt)
    have HB4 := Lib.hid (HB3.out.alloc HB3.out.size (.cells #[.slice (some ⟨gb, 0, none⟩) ps.length cb] 22))
    have HT4 := Lib.hid (HT3.out.alloc (.cells #[.slice (some ⟨gb, 0, none⟩) ps.length cb] 22))
    have HV4 := Lib.hid (show VBox (w3.alloc (.cells #[.slice (some ⟨gb, 0, none⟩) ps.length cb] 22)) w3.heap.size (.slice (some ⟨gb, 0, none⟩) ps.length cb) 22 from alloc_heap w3 _)
    have DC4 : Hid (∀ j, j < ps.length → (w3.alloc (.cells #[.slice (some ⟨gb, 0, none⟩) ps.length cb] 22)).cell? ⟨gb, j, none⟩ = some (.int .i64 ((highT ps zs).getD j 0))) := Lib.hid (fun j hj => by rw [World.cell?_alloc_lt _ _ _ (by exact hg2)]; exact DC.out j hj)
    have HG4 : Hid (gb < (w3.alloc (.cells #[.slice (some ⟨gb, 0, none⟩) ps.length cb] 22)).heap.size) := Lib.hid (by simp; omega)
    clear b3 o3 hg2 DC x0 x1
    obtain ⟨x0, x1⟩ := HT4.out.cells
    obtain ⟨C, hC⟩ : ∃ C, C = w3.heap.size := ⟨_, rfl⟩
    obtain ⟨w4, hw4⟩ : ∃ w4, w4 = w3.alloc (.cells #[.slice (some ⟨gb, 0, none⟩) ps.length cb] 22) := ⟨_, rfl⟩
    rw [← hw4] at HB4 HT4 HV4 DC4 HG4
    rw [← hC] at HV4
    have A := Lib.hid (atEndsI ps ws (fun e => (highT ps zs).getD e.toNat 0) _ 76 #[.pointer (some ⟨C, 0, none⟩)] w4 (enters_of Try.func76 (by kernel_rfl) rfl) PR.out.good (TV.out w4 HB4.out) (fun z hz => by
      obtain ⟨x, rfl, hx, _⟩ := nodesW_mem hz
      have := high_bd PR.out x hx
      try dsimp only
      rw [Int.toNat_natCast]
      unfold InI64; omega) (endAt (endsT ps) (highT ps zs) 0 w4 C gb cb ps.length (by omega) (fun z hz => by obtain ⟨x, h1, h2, _⟩ := nodesW_mem hz; exact ⟨x, h1, h2⟩) HG4.out DC4.out HV4.out))
    rw [← HE.out] at A
    go_wp2_with fail
    rw [← hw4, ← hC]
    clear hw4 hC x0 x1
    refine A.out.mono ?_
    rintro e w5 ⟨u5, rfl, o5, b5⟩
    have FIN := Lib.hid (newInts_back HB4.out o5 b5)
    clear o5 b5
    go_wp2_with fail
    go_ret2
    exact FIN.out
end Go.Proofs.Ytbpelmpipkkonaa
