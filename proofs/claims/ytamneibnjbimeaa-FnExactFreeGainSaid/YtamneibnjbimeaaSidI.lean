/- The sides of nodes, in the program. -/
import Derived.Test.YtamneibnjbimeaaSidP
import Derived.Test.YtamneibnjbimeaaMktI
import Derived.Test.YtamneibnjbimeaaWthP
import Derived.Test.YtamneibnjbimeaaDepthI
import Derived.Deep.RegionHeld3
namespace Go.Proofs.Ytamneibnjbimeaa
open Go.RowKit
set_option linter.unusedVariables false
theorem cmpC (a b : Int) (w : World) : Calls Try.prog 82 #[.int .i64 a, .int .i64 b] w fun e w' => e = .returned (.int .i64 ((sgnC a b : Nat) - 1)) ∧ w = w' := by
  by_cases h1 : a < b
  · rw [show sgnC a b = 0 by unfold sgnC; rw [if_pos h1]]
    go_enter Try.func82, Try.ntmps82
    go_wp2
    go_ret
    exact ⟨rfl, rfl⟩
  · by_cases h2 : a = b
    · rw [show sgnC a b = 1 by unfold sgnC; rw [if_neg h1, if_pos h2]]
      subst h2
      go_enter Try.func82, Try.ntmps82
      go_wp2
      go_ret
      exact ⟨rfl, rfl⟩
    · rw [show sgnC a b = 2 by unfold sgnC; rw [if_neg h1, if_neg h2]]
      have h3 : b < a := by omega
      go_enter Try.func82, Try.ntmps82
      go_wp2
      go_ret
      exact ⟨rfl, rfl⟩
/-- What sidesOf answers: a table in new memory. -/
def NewSides (ps cs : List Int) (n : Nat) (w : World) (e : Ending) (w' : World) : Prop :=
  ∃ g, e = .returned (.slice (some ⟨g, 0, none⟩) n n) ∧ w.heap.size ≤ g ∧ w'.heap[g]? = some (.cells (sdV ps cs n n).toArray 69 (0, 0)) ∧ Below w.heap.size w w'
theorem sideInfo : (Try.prog.info? 69).map (fun i => (i.zero, i.size, i.bytes)) = some (some (.agg #[.int .i64 0, .int .i64 0, .int .i64 0]), 3, 24) := by kernel_rfl
theorem made3 (m : Nat) : (madeCells #[Value.int .i64 0, Value.int .i64 0, Value.int .i64 0] m).toList = List.replicate m (Value.int .i64 0) := by
  unfold madeCells
  rw [Array.toList_map, Array.toList_range, List.eq_replicate_iff]
  refine ⟨by simp, fun v hv => ?_⟩
  obtain ⟨i, _, rfl⟩ := List.mem_map.1 hv
  have : i % 3 = 0 ∨ i % 3 = 1 ∨ i % 3 = 2 := by omega
  rcases this with h | h | h <;> simp [h]
theorem heap_own3 {w : World} {lo g n : Nat} {T : TypeId} {vs : List Value} (h : w.ownsRow lo T 3 (.slice (some ⟨g, 0, none⟩) n n) n vs) : w.heap[g]? = some (.cells vs.toArray T (0, 0)) := by
  rcases h.2 with ⟨h1, _⟩ | ⟨g', cap, cur, h1, _, hg, _, _, hs, ht⟩
  · injection h1 with h1 _ _; cases h1
  · injection h1 with h1 _ h3
    injection h1 with h1
    injection h1 with h1
    subst h1
    subst h3
    rw [hg, ← ht, List.take_of_length_le (by rw [Array.length_toList]; omega)]
theorem sd_cell {w : World} {g : Nat} {vs : List Value} {T : TypeId} {i : Nat} {v : Value} (h : w.heap[g]? = some (.cells vs.toArray T (0, 0))) (hv : vs[i]? = some v) : w.cell? ⟨g, i, none⟩ = some v ∧ w.frozen? ⟨g, i, none⟩ = false :=
  cell_of_heap (o := i) h (by rw [List.getElem?_toArray]; exact hv)
set_option maxRecDepth 100000 in
set_option maxHeartbeats 4000000 in
theorem sidesI (ps ws cs : List Int) (v : Value) (w : World) (mk : Mkt ps ws cs) (h : MktV w w.heap.size v ps ws cs) :
    Calls Try.prog 59 #[v] w (NewSides ps cs ps.length w) := by
  rw [← mk.len]
  obtain ⟨v1, v2, v3, rfl, ⟨p1, c1, rfl, l1, m1, _, i1⟩, ⟨p2, c2, rfl, _⟩, ⟨p3, c3, rfl, l3, m3, _, i3⟩⟩ := h
  have P1 := Lib.hid i1
  have P3 := Lib.hid i3
  clear i1 i3 m1 m3
  have n1 := mk.good.n1
  have n24 := mk.good.n24
  have le1 : cs.length ≤ ps.length := Nat.le_of_eq mk.len
  have le2 : ps.length ≤ cs.length := Nat.le_of_eq mk.len.symm
  have PAR := Lib.hid mk.good.par
  have CB := Lib.hid mk.bd
  have ONE := Lib.hid (sdV_one cs cs.length mk.good.root)
  have SET := Lib.hid (fun (k p : Nat) (hp : ps.getD k 0 = (p : Int)) (hpn : p < cs.length) => sdV_set cs (n := cs.length) hp hpn)
  have AT := Lib.hid (fun (k x f : Nat) (hx : x < cs.length) (hf : f < 3) => sdV_at ps cs (n := cs.length) (k := k) hx hf)
  have LE := Lib.hid (fun x f k => sdN_le ps cs x f k)
  clear mk
  have B1 := Lib.hid ((Below.refl w.heap.size w).alloc (Nat.le_refl _) (.cells #[.slice p1 ps.length c1, .slice p2 ws.length c2, .slice p3 cs.length c3] 31))
  have T1 := Lib.hid (show KBox (w.alloc (.cells #[.slice p1 ps.length c1, .slice p2 ws.length c2, .slice p3 cs.length c3] 31)) w.heap.size (.slice p1 ps.length c1) (.slice p2 ws.length c2) (.slice p3 cs.length c3) from alloc_heap w _)
  obtain ⟨wa, hwa⟩ : ∃ wa, wa = w.alloc (.cells #[.slice p1 ps.length c1, .slice p2 ws.length c2, .slice p3 cs.length c3] 31) := ⟨_, rfl⟩
  rw [← hwa] at B1 T1
  obtain ⟨x0, x1, x2⟩ := T1.out.cells
  have hla := T1.out.lt
  obtain ⟨i0, hi, hz0, hz1, hz2⟩ := info_parts sideInfo
  have c1' : i0.bytes * cs.length ≤ 281474976710656 := by rw [hz2]; omega
  have c2' : cs.length ≤ maxLen := by unfold maxLen; omega
  go_enter Try.func59, Try.ntmps59
  go_upto_region 1 with fail
  rw [← hwa]
  clear hwa
  go_wp2_with (at_make; refine wpList_make_full _ rfl _ _ 67 rfl wa.heap.size 69 i0 (.agg #[.int .i64 0, .int .i64 0, .int .i64 0]) 3 Try.underlying67 hi hz0 hz1 .i64 .i64 _ _ cs.length rfl rfl rfl rfl c1' c2' (Nat.le_refl _) ?_; intro w1 hown hg1)
  have HG : Hid (w1.heap[wa.heap.size]? = some (.cells (sdV ps cs cs.length 1).toArray 69 (0, 0))) := Lib.hid (by
    rw [ONE.out]
    have h2 := hown
    rw [show (Value.agg #[Value.int .i64 0, Value.int .i64 0, Value.int .i64 0]).cells = #[Value.int .i64 0, Value.int .i64 0, Value.int .i64 0] from rfl, made3] at h2
    exact heap_own3 h2)
  have B2 := Lib.hid (B1.out.grown hg1 B1.out.size (fun q hq => by simp at hq))
  have T2 := Lib.hid (T1.out.grown hg1 (lo := wa.heap.size) (fun q hq => by simp at hq) hla)
  have hgl := (hown.lt wa.heap.size rfl).2
  obtain ⟨g, hg⟩ : ∃ g, g = wa.heap.size := ⟨_, rfl⟩
  rw [← hg] at HG hla hgl ⊢
  have HGL := Lib.hid hgl
  have hwg : w.heap.size < g := hla
  clear hown hg1 hg hgl hla x0 x1 x2 T1 ONE c1' c2' hi hz0 hz1 hz2 i0 B1
  go_wp2_with fail
  go_loopw [4] (fun i wr => ∃ k : Nat, 1 ≤ k ∧ k ≤ cs.length ∧ i = .int .i64 k ∧ Hid (wr.heap[g]? = some (.cells (sdV ps cs cs.length k).toArray 69 (0, 0))) ∧ Hid (KBox wr w.heap.size (.slice p1 ps.length c1) (.slice p2 ws.length c2) (.slice p3 cs.length c3)) ∧ Hid (Below w.heap.size w wr)) (fun i _ => cs.length - (intOf i).toNat)
  case atStart => exact ⟨1, Nat.le_refl _, by omega, rfl, HG, T2, B2⟩
  case round =>
    obtain ⟨k, hk1, hk, rfl, HS, HT, HB⟩ := hrel
    clear HG T2 B2
    obtain ⟨x0, x1, x2⟩ := HT.out.cells
    by_cases hlt : k < cs.length
    · obtain ⟨b, off, rfl, hb, hc⟩ := P1.out.get (i := k) (by omega)
      obtain ⟨g1, g2⟩ := PAR.out k (by omega) (by omega)
      obtain ⟨j, hj⟩ : ∃ j : Nat, ps.getD k 0 = (j : Int) := ⟨(ps.getD k 0).toNat, by omega⟩
      have hjk : j < k := by omega
      have hcw : wr.cell? ⟨b, off + k, none⟩ = some (.int .i64 j) := by rw [HB.out.cell (p := ⟨b, off + k, none⟩) hb, hc, hj]
      obtain ⟨bz, oz, rfl, hbz, hcz⟩ := P3.out.get (i := k) (by omega)
      obtain ⟨bz', oz', ez, hbz', hcz'⟩ := P3.out.get (i := j) (by omega)
      obtain ⟨rfl, rfl⟩ : bz = bz' ∧ oz = oz' := by injection ez with ez; injection ez with e1 e2; exact ⟨e1, e2⟩
      have hz_k : wr.cell? ⟨bz, oz + k, none⟩ = some (.int .i64 (cs.getD k 0)) := by rw [HB.out.cell (p := ⟨bz, oz + k, none⟩) hbz, hcz]
      have hz_j : wr.cell? ⟨bz, oz + j, none⟩ = some (.int .i64 (cs.getD j 0)) := by rw [HB.out.cell (p := ⟨bz, oz + j, none⟩) hbz, hcz']
      have ST := Lib.hid (SET.out k j hj (by omega))
      have SL := sgnC_lt (cs.getD k 0) (cs.getD j 0)
      have A := Lib.hid (fun f (hf : f < 3) => AT.out k j f (by omega) hf)
      have LJ := Lib.hid (fun f => LE.out j f k)
      obtain ⟨y1, hy1⟩ : ∃ t, t = cs.getD k 0 := ⟨_, rfl⟩
      obtain ⟨y2, hy2⟩ : ∃ t, t = cs.getD j 0 := ⟨_, rfl⟩
      rw [← hy1] at hz_k ST SL
      rw [← hy2] at hz_j ST SL
      obtain ⟨f, hf⟩ : ∃ f, f = sgnC y1 y2 := ⟨_, rfl⟩
      have CM := Lib.hid (fun w => cmpC y1 y2 w)
      rw [← hf] at ST SL CM
      have K8 : Hid (∀ w', Below wr.heap.size wr w' → w'.cell? ⟨w.heap.size, 2, none⟩ = some (.slice (some ⟨bz, oz, none⟩) cs.length c3) ∧ w'.cell? ⟨bz, oz + k, none⟩ = some (.int .i64 y1) ∧ w'.cell? ⟨bz, oz + j, none⟩ = some (.int .i64 y2)) := Lib.hid (fun w' h9 => ⟨(h9.cell (p := ⟨w.heap.size, 2, none⟩) (show w.heap.size < wr.heap.size from HT.out.lt)).trans x2, (h9.cell (p := ⟨bz, oz + k, none⟩) (show bz < wr.heap.size from Nat.lt_of_lt_of_le hbz HB.out.size)).trans hz_k, (h9.cell (p := ⟨bz, oz + j, none⟩) (show bz < wr.heap.size from Nat.lt_of_lt_of_le hbz HB.out.size)).trans hz_j⟩)
      have i0' : (0 : Int) ≤ (k : Int) := by omega
      have i1' : (k : Int) < (ps.length : Int) := by omega
      have i2' : (k : Int) < (cs.length : Int) := by omega
      have j0 : (0 : Int) ≤ (j : Int) := by omega
      have j1 : (j : Int) < (cs.length : Int) := by omega
      obtain ⟨cf, ff⟩ := sd_cell HS.out (A.out f SL)
      have lj := LJ.out f
      obtain ⟨nf, hnf⟩ : ∃ n, n = sdN ps cs j f k := ⟨_, rfl⟩
      rw [← hnf] at ST cf lj
      have BS := Lib.hid (HB.out.setCell (p := ⟨g, j * 3 + f, none⟩) (show w.heap.size ≤ g by omega) (.int .i64 (nf + 1)))
      have TS := Lib.hid (HT.out.set (g := g) (o := j * 3 + f) (x := .int .i64 (nf + 1)) (by omega))
      have SS : Hid ((wr.setCell ⟨g, j * 3 + f, none⟩ (.int .i64 (nf + 1))).heap[g]? = some (.cells (sdV ps cs cs.length (k + 1)).toArray 69 (0, 0))) := Lib.hid (by
        rw [← ST.out]; exact row_set HS.out)
      have HD0 : Below wr.heap.size wr wr.drew := below_drew (Below.refl _ _)
      clear hc hcz hcz' ez hj hy1 hy2 g1 g2 hbz' hnf A LJ hf HS HT ST hz_k hz_j
      have hf3 : f = 0 ∨ f = 1 ∨ f = 2 := by omega
      rcases hf3 with rfl | rfl | rfl
      all_goals
        (try simp only [Nat.add_zero] at cf ff BS TS SS)
        go_upto_region 6 with fail
        go_region_held3 (fun w' => w'.cell? ⟨w.heap.size, 2, none⟩ = some (.slice (some ⟨bz, oz, none⟩) cs.length c3) ∧ w'.cell? ⟨bz, oz + k, none⟩ = some (.int .i64 y1) ∧ w'.cell? ⟨bz, oz + j, none⟩ = some (.int .i64 y2))
          (first | exact K8.out _ HD0)
          (first | (go_at_call 82; (refine (CM.out _).mono ?_); rintro e w9 ⟨rfl, rfl⟩))
        all_goals
          go_wp2_with fail
          go_roundw
          case rel => exact ⟨k + 1, by omega, by omega, by go_num, Lib.hid SS.out, Lib.hid TS.out, Lib.hid (below_drew BS.out)⟩
          case measure => simp [intOf]; omega
    · obtain rfl : k = cs.length := by omega
      go_wp2_with fail
      go_ret
      exact ⟨g, rfl, by omega, HS.out, HB.out⟩
end Go.Proofs.Ytamneibnjbimeaa
