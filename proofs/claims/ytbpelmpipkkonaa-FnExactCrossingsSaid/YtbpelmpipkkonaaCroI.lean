/- Crossings in the program. -/
import Derived.Test.YtbpelmpipkkonaaCroP
import Derived.Test.YtbpelmpipkkonaaPassC
import Derived.Test.YtbpelmpipkkonaaAtI
import Derived.Test.YtbpelmpipkkonaaVBox
import Derived.Deep.RegionHeld3
import Derived.BigQuiet
namespace Go.Proofs.Ytbpelmpipkkonaa
open Go.RowKit
set_option linter.unusedVariables false
def crV (c : Int) : Value × Value := (.int .i64 (crM c), .bool (crB c))
theorem heap_four (w : World) (a b c d : Obj) : ((((w.alloc a).alloc b).alloc c).alloc d).heap[w.heap.size]? = some a ∧ ((((w.alloc a).alloc b).alloc c).alloc d).heap[w.heap.size + 1]? = some b ∧ ((((w.alloc a).alloc b).alloc c).alloc d).heap[w.heap.size + 1 + 1]? = some c ∧ ((((w.alloc a).alloc b).alloc c).alloc d).heap[w.heap.size + 1 + 1 + 1]? = some d := by
  obtain ⟨h1, h2, h3⟩ := heap_three w a b c
  have hs : (((w.alloc a).alloc b).alloc c).heap.size = w.heap.size + 3 := by simp
  refine ⟨?_, ?_, ?_, ?_⟩
  · show ((((w.alloc a).alloc b).alloc c).heap.push d)[_]? = _
    rw [Array.getElem?_push, if_neg (by omega)]; exact h1
  · show ((((w.alloc a).alloc b).alloc c).heap.push d)[_]? = _
    rw [Array.getElem?_push, if_neg (by omega)]; exact h2
  · show ((((w.alloc a).alloc b).alloc c).heap.push d)[_]? = _
    rw [Array.getElem?_push, if_neg (by omega)]; exact h3
  · show ((((w.alloc a).alloc b).alloc c).heap.push d)[_]? = _
    rw [Array.getElem?_push, if_pos (by omega)]
set_option maxHeartbeats 4000000 in
theorem croPart (ps ws zs : List Int) (lo hi : Int) (w W0 : World) (C1 C2 C3 d : Nat) (q : Option Addr) (pr : Proc ps ws zs) (hI : IntsAt w w.heap.size q zs) (h0 : Below w.heap.size w W0)
    (h1 : VBox W0 C1 (.slice q zs.length d) 22) (h2 : VBox W0 C2 (.int .i64 lo) 3) (h3 : VBox W0 C3 (.int .i64 hi) 3) :
    PassC 78 #[.pointer (some ⟨C1, 0, none⟩), .pointer (some ⟨C3, 0, none⟩), .pointer (some ⟨C2, 0, none⟩)] ps (.int .i64 0, .bool false) (fun x => crV ((crT ps zs lo hi).getD x 0)) W0 := by
  intro W x hx hb
  have y1 := (h1.below hb h1.lt).cell
  have y2 := (h2.below hb h2.lt).cell
  have y3 := (h3.below hb h3.lt).cell
  have hp := ParOk.of pr.good
  have AT := passT_at hp 0 (fun c x => crSt lo hi c (zs.getD x 0)) hx
  change (crT ps zs lo hi).getD x 0 = crSt lo hi (abv ps 0 (crT ps zs lo hi) x) (zs.getD x 0) at AT
  have AB : (if x = 0 then ((Value.int .i64 0, Value.bool false) : Value × Value) else crV ((crT ps zs lo hi).getD (ps.getD x 0).toNat 0)) = crV (abv ps 0 (crT ps zs lo hi) x) := by
    unfold abv
    split
    · rfl
    · rfl
  have BD : 0 ≤ abv ps 0 (crT ps zs lo hi) x ∧ abv ps 0 (crT ps zs lo hi) x ≤ 24 := by
    unfold abv
    have hn := pr.good.n24
    split
    · omega
    · have hl := par_lt hp (by omega) hx
      have := cr_bd pr lo hi (ps.getD x 0).toNat (by omega)
      omega
  have hl := pr.len
  have hn24 := pr.good.n24
  have l1 : C1 < W.heap.size := Nat.lt_of_lt_of_le h1.lt hb.size
  have l2 : C2 < W.heap.size := Nat.lt_of_lt_of_le h2.lt hb.size
  have l3 : C3 < W.heap.size := Nat.lt_of_lt_of_le h3.lt hb.size
  obtain ⟨b, off, rfl, hb2, hc2⟩ := hI.get (i := x) (by omega)
  have hb3 := h0.trans (hb.mono h0.size)
  have hcw : W.cell? ⟨b, off + x, none⟩ = some (.int .i64 (zs.getD x 0)) := by rw [hb3.cell (p := ⟨b, off + x, none⟩) hb2, hc2]
  have l4 : b < W.heap.size := Nat.lt_of_lt_of_le hb2 hb3.size
  have LW : ∀ (A B : Obj) (n o : Nat) (v : Value), n < W.heap.size → W.cell? ⟨n, o, none⟩ = some v → ((W.alloc A).alloc B).cell? ⟨n, o, none⟩ = some v := fun A B n o v hn h => by
    rw [World.cell?_alloc_lt _ _ _ (by simp; omega), World.cell?_alloc_lt _ _ _ (by exact hn)]; exact h
  have i0 : (0 : Int) ≤ (x : Int) := by omega
  have i1 : (x : Int) < (zs.length : Int) := by omega
  have zl : zs.length ≤ 24 := by omega
  dsimp only
  rw [AB, AT]
  obtain ⟨c, hc⟩ : ∃ c, c = abv ps 0 (crT ps zs lo hi) x := ⟨_, rfl⟩
  rw [← hc] at BD ⊢
  obtain ⟨z, hz⟩ : ∃ z, z = zs.getD x 0 := ⟨_, rfl⟩
  rw [← hz] at hcw ⊢
  obtain ⟨m, m0, m1, hm, hcs⟩ := cr_cases c BD.1
  have m2 : m ≤ 24 := by omega
  clear hb AT AB hc hz hc2 hb3 h0 hI hp pr hl hn24 hb2 h1 h2 h3 hm BD
  have LW := Lib.hid LW
  rcases hcs with ⟨rfl, _⟩ | ⟨rfl, _⟩
  · have z1 := LW.out (.cells #[.int .i64 m, .bool true] 77) (.cells #[.int .i64 0, .bool false] 77) _ _ _ l1 y1
    have z2 := LW.out (.cells #[.int .i64 m, .bool true] 77) (.cells #[.int .i64 0, .bool false] 77) _ _ _ l2 y2
    have z3 := LW.out (.cells #[.int .i64 m, .bool true] 77) (.cells #[.int .i64 0, .bool false] 77) _ _ _ l3 y3
    have z4 := LW.out (.cells #[.int .i64 m, .bool true] 77) (.cells #[.int .i64 0, .bool false] 77) _ _ _ l4 hcw
    clear LW
    have r0 := (heap_two W (.cells #[.int .i64 m, .bool true] 77) (.cells #[.int .i64 0, .bool false] 77)).2
    have c0 := (cell_of_heap (o := 0) r0 rfl).1
    have c1 := (cell_of_heap (o := 1) r0 rfl).1
    have BB := Lib.hid (((Below.refl W.heap.size W).alloc (Nat.le_refl _) (.cells #[.int .i64 m, .bool true] 77)).alloc (by simp) (.cells #[.int .i64 0, .bool false] 77))
    clear r0
    by_cases hz : hi ≤ z
    · rw [cr_ll lo hi m z hz]
      unfold crV
      rw [crM_odd, crB_odd, crM_even, crB_even]
      dsimp only [AGG]
      show Calls _ _ #[.agg #[.int .i64 m, .bool true], .int .i64 x, .pointer (some ⟨C1, 0, none⟩), .pointer (some ⟨C3, 0, none⟩), .pointer (some ⟨C2, 0, none⟩)] _ _
      go_enter Try.func78, Try.ntmps78
      go_wp2_with fail
      go_quiet (fail)
      go_wp2_with fail
      refine bodyPost_ret (v := .agg #[.int .i64 (m + 1), .bool false]) (by simp [results, Try.results78, go_sem, c0, c1]) rfl ⟨rfl, ?_⟩
      first
        | exact ((below_drewN BB.out _).setCell (p := ⟨W.heap.size + 1, 0, none⟩) (by simp) _).setCell (p := ⟨W.heap.size + 1, 1, none⟩) (by simp) _
        | exact ((below_drew (below_drewN BB.out _)).setCell (p := ⟨W.heap.size + 1, 0, none⟩) (by simp) _).setCell (p := ⟨W.heap.size + 1, 1, none⟩) (by simp) _
    · rw [cr_ln lo hi m z hz]
      unfold crV
      rw [crM_odd, crB_odd]
      dsimp only [AGG]
      show Calls _ _ #[.agg #[.int .i64 m, .bool true], .int .i64 x, .pointer (some ⟨C1, 0, none⟩), .pointer (some ⟨C3, 0, none⟩), .pointer (some ⟨C2, 0, none⟩)] _ _
      have nh : decide (hi ≤ z) = false := decide_eq_false hz
      go_enter Try.func78, Try.ntmps78
      go_wp2_with fail
      go_quiet (fail)
      go_wp2_with fail
      go_region
      all_goals
        go_wp2_with fail
        refine bodyPost_ret (v := .agg #[.int .i64 m, .bool true]) (by simp [results, Try.results78, go_sem, c0, c1]) rfl ⟨rfl, ?_⟩
        first
          | exact ((below_drewN BB.out _).setCell (p := ⟨W.heap.size + 1, 0, none⟩) (by simp) _).setCell (p := ⟨W.heap.size + 1, 1, none⟩) (by simp) _
          | exact ((below_drew (below_drewN BB.out _)).setCell (p := ⟨W.heap.size + 1, 0, none⟩) (by simp) _).setCell (p := ⟨W.heap.size + 1, 1, none⟩) (by simp) _
  · have z1 := LW.out (.cells #[.int .i64 m, .bool false] 77) (.cells #[.int .i64 0, .bool false] 77) _ _ _ l1 y1
    have z2 := LW.out (.cells #[.int .i64 m, .bool false] 77) (.cells #[.int .i64 0, .bool false] 77) _ _ _ l2 y2
    have z3 := LW.out (.cells #[.int .i64 m, .bool false] 77) (.cells #[.int .i64 0, .bool false] 77) _ _ _ l3 y3
    have z4 := LW.out (.cells #[.int .i64 m, .bool false] 77) (.cells #[.int .i64 0, .bool false] 77) _ _ _ l4 hcw
    clear LW
    have r0 := (heap_two W (.cells #[.int .i64 m, .bool false] 77) (.cells #[.int .i64 0, .bool false] 77)).2
    have c0 := (cell_of_heap (o := 0) r0 rfl).1
    have c1 := (cell_of_heap (o := 1) r0 rfl).1
    have BB := Lib.hid (((Below.refl W.heap.size W).alloc (Nat.le_refl _) (.cells #[.int .i64 m, .bool false] 77)).alloc (by simp) (.cells #[.int .i64 0, .bool false] 77))
    clear r0
    by_cases hz : z ≤ lo
    · rw [cr_nl lo hi m z hz]
      unfold crV
      rw [crM_even, crB_even, crM_odd, crB_odd]
      dsimp only [AGG]
      show Calls _ _ #[.agg #[.int .i64 m, .bool false], .int .i64 x, .pointer (some ⟨C1, 0, none⟩), .pointer (some ⟨C3, 0, none⟩), .pointer (some ⟨C2, 0, none⟩)] _ _
      go_enter Try.func78, Try.ntmps78
      go_wp2_with fail
      go_quiet (fail)
      go_wp2_with fail
      go_region
      all_goals
        go_wp2_with fail
        refine bodyPost_ret (v := .agg #[.int .i64 m, .bool true]) (by simp [results, Try.results78, go_sem, c0, c1]) rfl ⟨rfl, ?_⟩
        first
          | exact ((below_drewN BB.out _).setCell (p := ⟨W.heap.size + 1, 0, none⟩) (by simp) _).setCell (p := ⟨W.heap.size + 1, 1, none⟩) (by simp) _
          | exact ((below_drew (below_drewN BB.out _)).setCell (p := ⟨W.heap.size + 1, 0, none⟩) (by simp) _).setCell (p := ⟨W.heap.size + 1, 1, none⟩) (by simp) _
    · rw [cr_nn lo hi m z hz]
      unfold crV
      rw [crM_even, crB_even]
      dsimp only [AGG]
      show Calls _ _ #[.agg #[.int .i64 m, .bool false], .int .i64 x, .pointer (some ⟨C1, 0, none⟩), .pointer (some ⟨C3, 0, none⟩), .pointer (some ⟨C2, 0, none⟩)] _ _
      have nh : decide (z ≤ lo) = false := decide_eq_false hz
      go_enter Try.func78, Try.ntmps78
      go_wp2_with fail
      go_quiet (fail)
      go_wp2_with fail
      go_region
      all_goals
        go_wp2_with fail
        refine bodyPost_ret (v := .agg #[.int .i64 m, .bool false]) (by simp [results, Try.results78, go_sem, c0, c1]) rfl ⟨rfl, ?_⟩
        first
          | exact ((below_drewN BB.out _).setCell (p := ⟨W.heap.size + 1, 0, none⟩) (by simp) _).setCell (p := ⟨W.heap.size + 1, 1, none⟩) (by simp) _
          | exact ((below_drew (below_drewN BB.out _)).setCell (p := ⟨W.heap.size + 1, 0, none⟩) (by simp) _).setCell (p := ⟨W.heap.size + 1, 1, none⟩) (by simp) _
theorem croEnd (es T : List Int) (W0 : World) (C gb cap n : Nat) (hn : n ≤ 1000000) (hes : ∀ z ∈ es, ∃ x : Nat, z = (x : Int) ∧ x < n) (hg : gb < W0.heap.size) (hD : ∀ j, j < n → W0.cell? ⟨gb, j * 2, none⟩ = some (.int .i64 (crM (T.getD j 0))))
    (hc : VBox W0 C (.slice (some ⟨gb, 0, none⟩) n cap) 74) :
    EndI 79 #[.pointer (some ⟨C, 0, none⟩)] es (fun e => crM (T.getD e.toNat 0)) W0 := by
  intro W z hz hb
  obtain ⟨x, rfl, hx⟩ := hes z hz
  have y0 := (hc.below hb hc.lt).cell
  have hcx : W.cell? ⟨gb, x * 2, none⟩ = some (.int .i64 (crM (T.getD x 0))) := by rw [hb.cell (p := ⟨gb, x * 2, none⟩) hg]; exact hD x hx
  have i0 : (0 : Int) ≤ (x : Int) := by omega
  have i1 : (x : Int) < (n : Int) := by omega
  dsimp only
  rw [Int.toNat_natCast]
  generalize crM (T.getD x 0) = a at *
  clear hc hb hD hes hz
  show Calls _ _ #[.int .i64 (x : Int), .pointer (some ⟨C, 0, none⟩)] _ _
  go_enter Try.func79, Try.ntmps79
  go_wp2
  go_ret
  exact ⟨rfl, Below.refl _ _⟩
theorem croB_false {ps ws zs : List Int} {lo hi : Int} (h : croB ps ws zs lo hi = false) (hp : procB ps ws zs = true) : ¬ lo < hi := by
  unfold croB at h
  rw [hp, Bool.true_and] at h
  exact of_decide_eq_false h
set_option maxRecDepth 100000 in
set_option maxHeartbeats 4000000 in
theorem croI (ps ws zs : List Int) (lo hi : Int) (v u : Value) (w : World) (hn1 : zs.length ≤ 1048576) (h : TreeV w w.heap.size v ps ws) (hu : IntsV w w.heap.size u zs) :
    Calls Try.prog 43 #[v, u, .int .i64 lo, .int .i64 hi] w (NewIntsB (ifCro ps ws zs lo hi) (croB ps ws zs lo hi) w) := by
  have PC := Lib.hid (fun w' (hb : Below w.heap.size w w') => procI ps ws zs v u w' hn1 (h.boxed hb) ((hu.below hb).more hb.size))
  have TV := Lib.hid (fun w' (hb : Below w.heap.size w w') => h.boxed hb)
  obtain ⟨p1, c1, p2, c2, rfl⟩ := h.shape
  obtain ⟨q, d, rfl, _, _, _, j1⟩ := hu
  have Q1 := Lib.hid j1
  clear h j1
  have hmf : ∀ (fn : Fn) (first cap : Array Value) (w : World), (Instr.makeFunc fn first cap).run Try.prog w = .ok (.func fn first cap) w := fun _ _ _ _ => rfl
  have B1 := ((((Below.refl w.heap.size w).alloc (Nat.le_refl _) (.cells #[.slice p1 ps.length c1, .slice p2 ws.length c2] 28)).alloc (by simp) (.cells #[.slice q zs.length d] 22)).alloc (by simp; omega) (.cells #[.int .i64 lo] 3)).alloc (by simp; omega) (.cells #[.int .i64 hi] 3)
  have K0 := heap_four w (.cells #[.slice p1 ps.length c1, .slice p2 ws.length c2] 28) (.cells #[.slice q zs.length d] 22) (.cells #[.int .i64 lo] 3) (.cells #[.int .i64 hi] 3)
  obtain ⟨x0, x1⟩ := (show TBox _ w.heap.size (.slice p1 ps.length c1) (.slice p2 ws.length c2) from K0.1).cells
  have x2 := (show VBox _ (w.heap.size + 1) (.slice q zs.length d) 22 from K0.2.1).cell
  have x3 := (show VBox _ (w.heap.size + 1 + 1) (.int .i64 lo) 3 from K0.2.2.1).cell
  have x4 := (show VBox _ (w.heap.size + 1 + 1 + 1) (.int .i64 hi) 3 from K0.2.2.2).cell
  obtain ⟨wa, hwa⟩ : ∃ wa, wa = (((w.alloc (.cells #[.slice p1 ps.length c1, .slice p2 ws.length c2] 28)).alloc (.cells #[.slice q zs.length d] 22)).alloc (.cells #[.int .i64 lo] 3)).alloc (.cells #[.int .i64 hi] 3) := ⟨_, rfl⟩
  rw [← hwa] at B1 K0
  have T1 := Lib.hid (show TBox wa w.heap.size (.slice p1 ps.length c1) (.slice p2 ws.length c2) from K0.1)
  have V1 := Lib.hid (show VBox wa (w.heap.size + 1) (.slice q zs.length d) 22 from K0.2.1)
  have V2 := Lib.hid (show VBox wa (w.heap.size + 1 + 1) (.int .i64 lo) 3 from K0.2.2.1)
  have V3 := Lib.hid (show VBox wa (w.heap.size + 1 + 1 + 1) (.int .i64 hi) 3 from K0.2.2.2)
  have HBA := Lib.hid B1
  clear K0 B1
  cases hp : procB ps ws zs
  · rw [hp] at PC
    have CF := Lib.hid (show croB ps ws zs lo hi = false by unfold croB; rw [hp]; rfl)
    have IS := Lib.hid (show ifCro ps ws zs lo hi = [] by unfold ifCro; rw [CF.out]; rfl)
    rw [IS.out, CF.out]
    clear hp TV
    go_enter Try.func43, Try.ntmps43
    go_wp2_with fail
    rw [← hwa]
    clear hwa
    refine (PC.out _ HBA.out).mono ?_
    rintro e w1 ⟨rfl, b1⟩
    have HB1 := Lib.hid (HBA.out.trans (b1.mono HBA.out.size))
    clear b1
    go_wp2_with fail
    go_ret2
    exact newInts_empty HB1.out
  · rw [hp] at PC
    have PR := Lib.hid (procB_iff.1 hp)
    have hn24 := PR.out.good.n24
    have hn0 := PR.out.good.n1
    cases hcr : croB ps ws zs lo hi
    · have IS := Lib.hid (show ifCro ps ws zs lo hi = [] by unfold ifCro; rw [hcr]; rfl)
      have hge : lo ≥ hi := Int.not_lt.1 (croB_false hcr hp)
      rw [IS.out]
      clear hp hcr TV
      go_enter Try.func43, Try.ntmps43
      go_wp2_with fail
      rw [← hwa]
      clear hwa
      refine (PC.out _ HBA.out).mono ?_
      rintro e w1 ⟨rfl, b1⟩
      have HB1 := Lib.hid (HBA.out.trans (b1.mono HBA.out.size))
      have HV2 := Lib.hid (V2.out.below b1 V2.out.lt)
      have HV3 := Lib.hid (V3.out.below b1 V3.out.lt)
      clear b1 x0 x1 x2 x3 x4
      have x3 := HV2.out.cell
      have x4 := HV3.out.cell
      go_wp2_with fail
      go_ret2
      exact newInts_empty HB1.out
    · have IS := Lib.hid (show ifCro ps ws zs lo hi = crE ps zs lo hi by unfold ifCro; rw [hcr]; rfl)
      have hge : ¬ lo ≥ hi := by unfold croB at hcr; rw [hp, Bool.true_and] at hcr; have := of_decide_eq_true hcr; omega
      have nge : decide (hi ≤ lo) = false := decide_eq_false hge
      have HE : Hid (crE ps zs lo hi = (endsT ps).map (fun e => crM ((crT ps zs lo hi).getD e.toNat 0))) := Lib.hid rfl
      rw [IS.out]
      clear hp hcr
      go_enter Try.func43, Try.ntmps43
      go_wp2_with fail
      rw [← hwa]
      clear hwa
      refine (PC.out _ HBA.out).mono ?_
      rintro e w1 ⟨rfl, b1⟩
      have HB1 := Lib.hid (HBA.out.trans (b1.mono HBA.out.size))
      have HT1 := Lib.hid (T1.out.below b1 T1.out.lt)
      have HV1 := Lib.hid (V1.out.below b1 V1.out.lt)
      have HV2 := Lib.hid (V2.out.below b1 V2.out.lt)
      have HV3 := Lib.hid (V3.out.below b1 V3.out.lt)
      clear b1 x0 x1 x2 x3 x4
      obtain ⟨x0, x1⟩ := HT1.out.cells
      have x3 := HV2.out.cell
      have x4 := HV3.out.cell
      have P := Lib.hid (passC ps ws (.int .i64 0, .bool false) (fun x => crV ((crT ps zs lo hi).getD x 0)) _ 78 #[.pointer (some ⟨w.heap.size + 1, 0, none⟩), .pointer (some ⟨w.heap.size + 1 + 1 + 1, 0, none⟩), .pointer (some ⟨w.heap.size + 1 + 1, 0, none⟩)] w1 (enters_of Try.func78 (by kernel_rfl) rfl) PR.out.good (TV.out w1 HB1.out) (fun x => ⟨_, _, rfl⟩) ⟨_, _, rfl⟩ (croPart ps ws zs lo hi w w1 _ _ _ d q PR.out Q1.out HB1.out HV1.out HV2.out HV3.out))
      dsimp only [AGG] at P
      go_wp2_with fail
      refine P.out.mono ?_
      rintro e w3 ⟨u3, rfl, o3, b3⟩
      obtain ⟨gb, cb, rfl, _, hg2⟩ := o3.shape (by rw [rowP_len]; omega)
      have DC := Lib.hid (fun j (hj : j < ps.length) => (o3.cellGet (rowP_at (fun x => crV ((crT ps zs lo hi).getD x 0)) hj)).1)
      rw [rowP_len]
      have HB3 := Lib.hid (HB1.out.trans (b3.mono HB1.out.size))
      have HT3 := Lib.hid (HT1.out.below b3 HT1.out.lt)
      have HB4 := Lib.hid (HB3.out.alloc HB3.out.size (.cells #[.slice (some ⟨gb, 0, none⟩) ps.length cb] 74))
      have HT4 := Lib.hid (HT3.out.alloc (.cells #[.slice (some ⟨gb, 0, none⟩) ps.length cb] 74))
      have HV4 := Lib.hid (show VBox (w3.alloc (.cells #[.slice (some ⟨gb, 0, none⟩) ps.length cb] 74)) w3.heap.size (.slice (some ⟨gb, 0, none⟩) ps.length cb) 74 from alloc_heap w3 _)
      have DC4 : Hid (∀ j, j < ps.length → (w3.alloc (.cells #[.slice (some ⟨gb, 0, none⟩) ps.length cb] 74)).cell? ⟨gb, j * 2, none⟩ = some (.int .i64 (crM ((crT ps zs lo hi).getD j 0)))) := Lib.hid (fun j hj => by rw [World.cell?_alloc_lt _ _ _ (by exact hg2)]; exact DC.out j hj)
      have HG4 : Hid (gb < (w3.alloc (.cells #[.slice (some ⟨gb, 0, none⟩) ps.length cb] 74)).heap.size) := Lib.hid (by simp; omega)
      clear b3 o3 hg2 DC x0 x1 x3 x4
      obtain ⟨x0, x1⟩ := HT4.out.cells
      obtain ⟨C, hC⟩ : ∃ C, C = w3.heap.size := ⟨_, rfl⟩
      obtain ⟨w4, hw4⟩ : ∃ w4, w4 = w3.alloc (.cells #[.slice (some ⟨gb, 0, none⟩) ps.length cb] 74) := ⟨_, rfl⟩
      rw [← hw4] at HB4 HT4 HV4 DC4 HG4
      rw [← hC] at HV4
      have A := Lib.hid (atEndsI ps ws (fun e => crM ((crT ps zs lo hi).getD e.toNat 0)) _ 79 #[.pointer (some ⟨C, 0, none⟩)] w4 (enters_of Try.func79 (by kernel_rfl) rfl) PR.out.good (TV.out w4 HB4.out) (fun z hz => by
        obtain ⟨x, rfl, hx, _⟩ := nodesW_mem hz
        have := cr_bd PR.out lo hi x hx
        try dsimp only
        rw [Int.toNat_natCast]
        unfold InI64 crM; omega) (croEnd (endsT ps) (crT ps zs lo hi) w4 C gb cb ps.length (by omega) (fun z hz => by obtain ⟨x, h1, h2, _⟩ := nodesW_mem hz; exact ⟨x, h1, h2⟩) HG4.out DC4.out HV4.out))
      rw [← HE.out] at A
      go_wp2_with fail
      rw [← hw4, ← hC]
      clear hw4 hC x0 x1
      refine A.out.mono ?_
      rintro e w5 ⟨u5, rfl, o5, b5⟩
      have FIN := Lib.hid (newInts_back HB4.out o5 b5)
      clear o5 b5
      go_wp2_with fail
      go_ret2
      exact FIN.out
end Go.Proofs.Ytbpelmpipkkonaa
