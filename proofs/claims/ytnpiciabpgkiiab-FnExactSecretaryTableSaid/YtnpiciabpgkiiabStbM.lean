/- SecretaryTable in the model. -/
import Derived.Test.YtnpiciabpgkiiabStbP
import Derived.Test.YtnpiciabpgkiiabPrsF
import Derived.Test.YtnpiciabpgkiiabRes
import Derived.Test.YtnpiciabpgkiiabInS
import Derived.Test.YtnpiciabpgkiiabFracU
import Derived.Test.YtnpiciabpgkiiabFracW
import Derived.Deep.RegionHeld3
import Derived.Deep.DeepCutAuto
import Derived.Deep.LoopGhost
namespace Go.Proofs.Ytnpiciabpgkiiab
open Go.RowKit
set_option linter.unusedVariables false
def sL (n k : Nat) : List Int := prL (fun i => (sV n (k + i)).1) (fun i => (sV n (k + i)).2) (n + 1 - k)
theorem prL_cons (A B : Nat → Int) (m : Nat) : prL A B (m + 1) = A 0 :: B 0 :: prL (fun i => A (i + 1)) (fun i => B (i + 1)) m := by
  induction m with
  | zero => rfl
  | succ m ih => rw [prL, ih]; rfl
theorem sL_last {n : Nat} (h : n < 11) (h1 : 1 ≤ n) : sL n n = [0, 1] := by
  unfold sL
  rw [show n + 1 - n = 1 by omega]
  show [(sV n (n + 0)).1, (sV n (n + 0)).2] = [0, 1]
  rw [Nat.add_zero, st0 n h h1]
theorem sL_step {n k : Nat} (h : 1 ≤ k) (hk : k ≤ n) : sL n (k - 1) = (sV n (k - 1)).1 :: (sV n (k - 1)).2 :: sL n k := by
  unfold sL
  rw [show n + 1 - (k - 1) = (n + 1 - k) + 1 by omega, prL_cons]
  simp only [Nat.add_zero]
  congr 2
  have e : ∀ i, k - 1 + (i + 1) = k + i := fun i => by omega
  simp only [e]
theorem sL_len (n k : Nat) : (sL n k).length = (n + 1 - k) * 2 := prL_len _ _ _
theorem sL_at {n k : Nat} (hk : k ≤ n) : (sL n k).getD 0 0 = (sV n k).1 ∧ (sL n k).getD 1 0 = (sV n k).2 := by
  have := prL_at (fun i => (sV n (k + i)).1) (fun i => (sV n (k + i)).2) (k := n + 1 - k) (j := 0) (by omega)
  unfold sL
  simpa using this
theorem sb_bd {n d : Int} (h : isFr n d = true) : ((-1000000000 ≤ n ∧ n ≤ 1000000000) ∧ (1 ≤ d ∧ d ≤ 1000000)) ∧ gI n d = 1 := by
  have := (isFr_iff n d).1 h
  exact ⟨by omega, this.2⟩
theorem OwnQ.one (w1 : World) (lo : Nat) {x y : Int} (h : lo ≤ w1.heap.size) (hx : InI64 x) (hy : InI64 y) : OwnQ (w1.alloc (.cells #[.int .i64 x, .int .i64 y] 32)) lo (w1.alloc (.cells #[.int .i64 x, .int .i64 y] 32)).heap.size (.slice (some ⟨w1.heap.size, 0, none⟩) 1 1) 1 [x, y] := by
  refine ⟨rfl, ⟨rfl, .inr ⟨w1.heap.size, 1, #[.int .i64 x, .int .i64 y], rfl, h, alloc_heap w1 _, Nat.le_refl _, by unfold maxLen; omega, rfl, rfl⟩⟩, ?_, Nat.le_refl _, fun z hz => ?_⟩
  · intro q hq
    simp [Value.ownBlock] at hq
    subst hq
    simp
  · simp at hz
    rcases hz with rfl | rfl
    · exact hx
    · exact hy
theorem OwnQ.pre {w3 : World} {lo m : Nat} {v' : Value} {fs : List Int} {x y : Int} (hl : fs.length = m * 2) (hf : ∀ z ∈ fs, InI64 z) (hx : InI64 x) (hy : InI64 y)
    (hown : w3.ownsRow lo 32 2 v' (1 + m) ([.int .i64 x, .int .i64 y] ++ fs.map (.int .i64))) : OwnQ w3 lo w3.heap.size v' (m + 1) (x :: y :: fs) := by
  rw [Nat.add_comm 1 m] at hown
  refine ⟨by simp; omega, hown, fun q hq => (hown.lt q hq).2, Nat.le_refl _, fun z hz => ?_⟩
  rcases List.mem_cons.1 hz with rfl | hz
  · exact hx
  · rcases List.mem_cons.1 hz with rfl | hz
    · exact hy
    · exact hf z hz
set_option maxRecDepth 100000 in
set_option maxHeartbeats 2000000 in
theorem greaterS7 (n d m e : Int) (w : World) (h1 : isFr n d = true) (h2 : isFr m e = true) :
    Calls Try.prog 61 #[.agg #[.int .i64 n, .int .i64 d], .agg #[.int .i64 m, .int .i64 e]] w (Gives (.agg #[.int .i64 (grt (n, d) (m, e)).1, .int .i64 (grt (n, d) (m, e)).2]) w) := by
  obtain ⟨⟨hn, hd⟩, _⟩ := sb_bd h1
  obtain ⟨⟨hm, he⟩, _⟩ := sb_bd h2
  have LS := Lib.hid (fun w => lessS n d m e w hn hd hm he)
  obtain ⟨wa, hwa⟩ : ∃ wa, wa = ((w.alloc (.cells #[.int .i64 n, .int .i64 d] 32)).alloc (.cells #[.int .i64 m, .int .i64 e] 32)).alloc (.cells #[.int .i64 0, .int .i64 0] 32) := ⟨_, rfl⟩
  have B3 : Below w.heap.size w wa := by rw [hwa]; exact (((Below.refl w.heap.size w).alloc (Nat.le_refl _) _).alloc (by simp) _).alloc (by simp; omega) _
  obtain ⟨k0, k1, k2⟩ := heap_three w (.cells #[.int .i64 n, .int .i64 d] 32) (.cells #[.int .i64 m, .int .i64 e] 32) (.cells #[.int .i64 0, .int .i64 0] 32)
  rw [← hwa] at k0 k1 k2
  have T0 := Lib.hid (show QBox wa w.heap.size n d from k0)
  have T1 := Lib.hid (show QBox wa (w.heap.size + 1) m e from k1)
  have T2 := Lib.hid (show QBox wa (w.heap.size + 1 + 1) 0 0 from k2)
  clear k0 k1 k2 hn hd hm he h1 h2
  obtain ⟨⟨x0, x1⟩, _, _⟩ := T0.out.cells
  obtain ⟨⟨y0, y1⟩, _, _⟩ := T1.out.cells
  unfold grt
  dsimp only
  by_cases hc : n * e < m * d
  · rw [if_pos hc]
    rw [decide_eq_true hc] at LS
    clear hc
    go_enter Try.func61, Try.ntmps61
    go_wp2_with fail
    rw [← hwa]
    clear hwa
    refine (LS.out _).mono ?_
    rintro e w1 ⟨rfl, b1⟩
    obtain ⟨⟨a0, a1⟩, _, _⟩ := (T1.out.below b1 T1.out.lt).cells
    obtain ⟨⟨c0, c1⟩, f0, f1⟩ := (T2.out.below b1 T2.out.lt).cells
    have HB := Lib.hid (bl_then B3 b1)
    clear b1 x0 x1 y0 y1
    go_wp2_with fail
    refine bodyPost_ret (v := .agg #[.int .i64 m, .int .i64 e]) (by simp [results, Try.results61, go_sem, c0, c1]) rfl ⟨rfl, ?_⟩
    exact bl_st HB.out (by omega) _ _
  · rw [if_neg hc]
    rw [decide_eq_false hc] at LS
    clear hc
    go_enter Try.func61, Try.ntmps61
    go_wp2_with fail
    rw [← hwa]
    clear hwa
    refine (LS.out _).mono ?_
    rintro e w1 ⟨rfl, b1⟩
    obtain ⟨⟨a0, a1⟩, _, _⟩ := (T0.out.below b1 T0.out.lt).cells
    obtain ⟨⟨c0, c1⟩, f0, f1⟩ := (T2.out.below b1 T2.out.lt).cells
    have HB := Lib.hid (bl_then B3 b1)
    clear b1 x0 x1 y0 y1
    go_wp2_with fail
    refine bodyPost_ret (v := .agg #[.int .i64 n, .int .i64 d]) (by simp [results, Try.results61, go_sem, c0, c1]) rfl ⟨rfl, ?_⟩
    exact bl_st HB.out (by omega) _ _
set_option maxRecDepth 100000 in
set_option maxHeartbeats 2000000 in
/-- A list of fractions is told. -/
theorem toldS (m : Nat) (fs : List Int) (v : Value) (lo hi : Nat) (w : World) (hm : m ≤ 100) (hv : OwnQ w lo hi v m fs) (hf : ∀ i, i < m → isFr (fs.getD (i * 2) 0) (fs.getD (i * 2 + 1) 0) = true) :
    Calls Try.prog 43 #[v] w (Gives (.tuple #[v, .bool true]) w) := by
  have HV := Lib.hid hv
  have HF := Lib.hid hf
  obtain ⟨p, cap, rfl, hO⟩ := hv.opened
  have HO := Lib.hid hO
  have hr := hv.room
  clear hf hO hv
  go_enter Try.func43, Try.ntmps43
  go_wp2_with fail
  go_loopg [4] m (fun gg i wr => ∃ k : Nat, k ≤ m ∧ m - k ≤ gg ∧ i = .int .i64 k ∧ Hid (Below w.heap.size w wr))
  case atStart => exact ⟨0, by omega, by omega, rfl, Lib.hid (Below.refl _ _)⟩
  case round =>
    obtain ⟨k, hk, hgg, rfl, HB⟩ := hrel
    by_cases hlt : k < m
    · have i1 : (k : Int) < (m : Int) := by omega
      have i2 : 0 ≤ (k : Int) := by omega
      obtain ⟨g, rfl, hg1, hg2, c0⟩ := HO.out (k * 2) (by omega)
      obtain ⟨g', hgg', _, _, c1⟩ := HO.out (k * 2 + 1) (by omega)
      obtain rfl : g = g' := by injection hgg' with h; injection h
      have c0' : wr.cell? ⟨g, k * 2, none⟩ = some (.int .i64 (fs.getD (k * 2) 0)) := (HB.out.cell (p := ⟨g, k * 2, none⟩) (show g < w.heap.size by omega)).trans c0
      have c1' : wr.cell? ⟨g, k * 2 + 1, none⟩ = some (.int .i64 (fs.getD (k * 2 + 1) 0)) := (HB.out.cell (p := ⟨g, k * 2 + 1, none⟩) (show g < w.heap.size by omega)).trans c1
      have FR := Lib.hid (fun w => fracS (fs.getD (k * 2) 0) (fs.getD (k * 2 + 1) 0) w)
      rw [HF.out k hlt] at FR
      generalize fs.getD (k * 2) 0 = x at *
      generalize fs.getD (k * 2 + 1) 0 = y at *
      clear c0 c1 hgg'
      go_wp2_with fail
      refine (FR.out _).mono ?_
      rintro e w1 ⟨rfl, b1⟩
      have HB1 := Lib.hid (bl_then HB.out b1)
      clear b1 c0' c1'
      go_wp2_with fail
      go_roundg (m - (k + 1))
      case rel => exact ⟨k + 1, by omega, by omega, by go_num, HB1⟩
      case measure => omega
    · obtain rfl : k = m := by omega
      go_wp2_with fail
      go_ret2
      exact ⟨rfl, HB.out⟩
theorem stG {n k : Nat} (hn : n < 11) (hk : k < n + 1) (h1 : 1 ≤ k) (w : World) : Calls Try.prog 61 #[.agg #[.int .i64 (cutN (k : Int) n), .int .i64 (cutD (k : Int) n)], .agg #[.int .i64 (sV n k).1, .int .i64 (sV n k).2]] w (Gives (.agg #[.int .i64 (sT n k).1, .int .i64 (sT n k).2]) w) :=
  greaterS7 _ _ _ _ w (st3 n hn k hk h1) (st2 n hn (by omega) k hk)
theorem sT_fr {n k : Nat} (hn : n < 11) (hk : k < n + 1) (h1 : 1 ≤ k) : isFr (sT n k).1 (sT n k).2 = true := grt_fr (st3 n hn k hk h1) (st2 n hn (by omega) k hk)
theorem stM1 {n k : Nat} (hn : n < 11) (hk : k < n + 1) (h1 : 1 ≤ k) (w : World) : Calls Try.prog 55 #[.agg #[.int .i64 (sT n k).1, .int .i64 (sT n k).2], .agg #[.int .i64 1, .int .i64 k]] w (Gives (.agg #[.int .i64 (sU n k).1, .int .i64 (sU n k).2]) w) := by
  have a := sb_bd (sT_fr hn hk h1)
  exact timesS (sT n k).1 (sT n k).2 1 (k : Int) w a.1.1 a.1.2 (by omega) (by omega) a.2 (by unfold gI; simp)
theorem stM2 {n k : Nat} (hn : n < 11) (hk : k < n + 1) (h1 : 1 ≤ k) (w : World) : Calls Try.prog 55 #[.agg #[.int .i64 (sV n k).1, .int .i64 (sV n k).2], .agg #[.int .i64 (sC k).1, .int .i64 (sC k).2]] w (Gives (.agg #[.int .i64 (sW n k).1, .int .i64 (sW n k).2]) w) := by
  have a := sb_bd (st2 n hn (by omega) k hk)
  have c := sb_bd (st5 k (by omega) h1)
  exact timesS _ _ _ _ w a.1.1 a.1.2 c.1.1 c.1.2 a.2 c.2
theorem stAd {n k : Nat} (hn : n < 11) (hk : k < n + 1) (h1 : 1 ≤ k) (w : World) : Calls Try.prog 63 #[.agg #[.int .i64 (sU n k).1, .int .i64 (sU n k).2], .agg #[.int .i64 (sW n k).1, .int .i64 (sW n k).2]] w (Gives (.agg #[.int .i64 (sV n (k - 1)).1, .int .i64 (sV n (k - 1)).2]) w) := by
  have a := sb_bd (st4 n hn k hk h1)
  have c := sb_bd (st6 n hn k hk h1)
  have A := addS (sU n k).1 (sU n k).2 (sW n k).1 (sW n k).2 w a.1.1 a.1.2 c.1.1 c.1.2
  rw [← st1 n hn k hk h1]
  exact A
def stLenM (n : Int) : Nat := if 1 ≤ n ∧ n ≤ 10 then n.toNat + 1 else 0
def stLM (n : Int) : List Int := if 1 ≤ n ∧ n ≤ 10 then sL n.toNat 0 else []
theorem peopleT (n : Int) (w : World) : Calls Try.prog 60 #[.int .i64 n] w fun e w' => e = .returned (.bool (decide (1 ≤ n ∧ n ≤ 10))) ∧ w = w' := by
  have I := Lib.hid (fun w => inS n 1 10 w)
  generalize decide (1 ≤ n ∧ n ≤ 10) = bb at *
  go_enter Try.func60, Try.ntmps60
  go_wp2_with fail
  refine (I.out _).mono ?_
  rintro e w1 ⟨rfl, rfl⟩
  go_wp2_with fail
  go_ret
  exact ⟨rfl, rfl⟩
set_option maxRecDepth 100000 in
set_option maxHeartbeats 8000000 in
theorem sectabS (n : Int) (w : World) : Calls Try.prog 28 #[.int .i64 n] w (NewQB (stLenM n) (stLM n) (decide (1 ≤ n ∧ n ≤ 10)) w) := by
  have F := Lib.hid (fun w => peopleT n w)
  by_cases h : 1 ≤ n ∧ n ≤ 10
  · rw [decide_eq_true h] at F ⊢
    obtain ⟨N, rfl⟩ : ∃ N : Nat, n = N := ⟨n.toNat, by omega⟩
    have hN : N < 11 := by omega
    have hN1 : 1 ≤ N := by omega
    have iN : (N : Int) ≤ 10 := h.2
    rw [show stLenM N = N + 1 from if_pos h, show stLM N = sL N 0 from if_pos h]
    have SL0 := Lib.hid (sL_last hN hN1)
    obtain ⟨i0, hif, hz0, hz1, hz2⟩ := info_parts pairInfo
    have HIF := Lib.hid hif
    have in0 : InI64 0 := by unfold InI64; omega
    have in1 : InI64 1 := by unfold InI64; omega
    obtain ⟨wa, hwa⟩ : ∃ wa, wa = w.alloc (.cells #[.int .i64 0, .int .i64 1] 32) := ⟨_, rfl⟩
    have O1 := Lib.hid (show OwnQ wa w.heap.size wa.heap.size (.slice (some ⟨w.heap.size, 0, none⟩) 1 1) 1 [0, 1] by rw [hwa]; exact OwnQ.one w _ (Nat.le_refl _) in0 in1)
    have BA := Lib.hid (show Below w.heap.size w wa by rw [hwa]; exact (Below.refl w.heap.size w).alloc (Nat.le_refl _) _)
    clear h hif in0 in1
    go_enter Try.func28, Try.ntmps28
    go_wp2_with fail
    refine (F.out _).mono ?_
    rintro e w1 ⟨rfl, rfl⟩
    go_wp2_with fail
    rw [← hwa]
    clear hwa
    go_loopg [4, 5] N (fun gg s i wr => ∃ k : Nat, k ≤ N ∧ k ≤ gg ∧ i = .int .i64 k ∧ Hid (OwnQ wr w.heap.size wr.heap.size s (N + 1 - k) (sL N k)) ∧ Hid (Below w.heap.size w wr))
    case atStart => exact ⟨N, Nat.le_refl _, Nat.le_refl _, rfl, by rw [SL0.out, show N + 1 - N = 1 by omega]; exact O1, BA⟩
    case round =>
      clear O1 BA
      obtain ⟨k, hk, hgg, rfl, HO, HB⟩ := hrel
      obtain ⟨wq, rfl⟩ : ∃ wq : World, wq = wr := ⟨_, rfl⟩
      by_cases hk1 : 1 ≤ k
      · have i1 : 1 ≤ (k : Int) := by omega
        have i2 : (k : Int) ≤ (N : Int) := by omega
        obtain ⟨g, cap, rfl, hg1, hg2⟩ := HO.out.shape (by omega)
        have CU := Lib.hid (fun w => cutS (k : Int) (N : Int) w (by omega) (by omega))
        have CK := Lib.hid (fun w => cutS ((k : Int) - 1) (k : Int) w (by omega) (by omega))
        have GR := Lib.hid (fun w => stG hN (by omega : k < N + 1) hk1 w)
        have M1 := Lib.hid (fun w => stM1 hN (by omega : k < N + 1) hk1 w)
        have M2 := Lib.hid (fun w => stM2 hN (by omega : k < N + 1) hk1 w)
        have AD := Lib.hid (fun w => stAd hN (by omega : k < N + 1) hk1 w)
        unfold sC at M2
        dsimp only at M2
        have x0 := HO.out.cellGet (j := 0) (by omega)
        have x1 := HO.out.cellGet (j := 1) (by omega)
        rw [(sL_at hk).1] at x0
        rw [(sL_at hk).2] at x1
        have bd0 := sb_bd (st2 N hN hN1 (k - 1) (by omega))
        have STEP := Lib.hid (sL_step hk1 hk)
        obtain ⟨x, hx⟩ : ∃ x, x = (sV N k).1 := ⟨_, rfl⟩
        obtain ⟨y, hy⟩ : ∃ y, y = (sV N k).2 := ⟨_, rfl⟩
        obtain ⟨t1, ht1⟩ : ∃ t1, t1 = (sT N k).1 := ⟨_, rfl⟩
        obtain ⟨t2, ht2⟩ : ∃ t2, t2 = (sT N k).2 := ⟨_, rfl⟩
        obtain ⟨z1, hz1'⟩ : ∃ z1, z1 = (sV N (k - 1)).1 := ⟨_, rfl⟩
        obtain ⟨z2, hz2'⟩ : ∃ z2, z2 = (sV N (k - 1)).2 := ⟨_, rfl⟩
        rw [← hx, ← hy, ← ht1, ← ht2] at GR
        rw [← ht1, ← ht2] at M1
        rw [← hx, ← hy] at M2
        rw [← hz1', ← hz2'] at AD bd0 STEP
        rw [← hx] at x0
        rw [← hy] at x1
        have IN : Hid (InI64 z1 ∧ InI64 z2) := Lib.hid (by unfold InI64; omega)
        clear hx hy ht1 ht2 hz1' hz2' bd0
        generalize cutN (k : Int) (N : Int) = cn at *
        generalize cutD (k : Int) (N : Int) = cd at *
        generalize cutN ((k : Int) - 1) (k : Int) = en at *
        generalize cutD ((k : Int) - 1) (k : Int) = ed at *
        have X0 := Lib.hid x0
        have X1 := Lib.hid x1
        have WK : IntKind.i64.wrap ((k : Int) - 1) = (k : Int) - 1 := IntWalk.i64_in _ (by omega)
        obtain ⟨m, hm⟩ : ∃ m, m = N + 1 - k := ⟨_, rfl⟩
        rw [← hm] at HO ⊢
        have lp1 : 0 < m := by omega
        have lp2 : (0 : Int) < (m : Int) := by omega
        have lp3 : m ≤ 10 := by omega
        have HM := Lib.hid hm
        clear hm
        go_upto_region 7 with fail
        go_cut [6] (fun s9 wx => ∃ g, s9 = .pointer (some ⟨g, 0, none⟩) ∧ wq.heap.size ≤ g ∧ Hid (Below wq.heap.size wq wx) ∧ Hid (QBox wx g t1 t2))
        case first =>
          have HD : Hid (Below wq.heap.size wq wq.drew) := Lib.hid (below_drew (Below.refl _ _))
          have HDA : Hid (Below wq.heap.size wq (wq.alloc (.cells #[.int .i64 0, .int .i64 0] 32)).drew) := Lib.hid (below_drew ((Below.refl wq.heap.size wq).alloc (Nat.le_refl _) _))
          have KC : Hid (∀ w', Hid (Below wq.heap.size wq w') → w'.cell? ⟨g, 0, none⟩ = some (.int .i64 x) ∧ w'.cell? ⟨g, 1, none⟩ = some (.int .i64 y)) := Lib.hid (fun w' h => ⟨(h.out.cell (p := ⟨g, 0, none⟩) hg2).trans X0.out, (h.out.cell (p := ⟨g, 1, none⟩) hg2).trans X1.out⟩)
          have KA : Hid (∀ (w' : World) (o : Obj), Hid (Below wq.heap.size wq w') → Hid (Below wq.heap.size wq (w'.alloc o))) := Lib.hid (fun w' o h => Lib.hid (h.out.alloc h.out.size o))
          have KN : Hid (∀ (w' w'' : World), Hid (Below wq.heap.size wq w') → Below w'.heap.size w' w'' → Hid (Below wq.heap.size wq w'')) := Lib.hid (fun w' w'' h k => Lib.hid (h.out.trans (k.mono h.out.size)))
          have KS : Hid (∀ (w' : World) (g : Nat) (x y : Value), Hid (Below wq.heap.size wq w') → wq.heap.size ≤ g → Hid (Below wq.heap.size wq ((w'.setCell ⟨g, 0, none⟩ x).setCell ⟨g, 1, none⟩ y))) := Lib.hid (fun w' g x y h hg => Lib.hid (bl_st h.out hg x y))
          have HZ0 : Hid (QBox (wq.alloc (.cells #[.int .i64 0, .int .i64 0] 32)).drew wq.heap.size 0 0) := Lib.hid (QBox.new wq 0 0)
          have hle0 : wq.heap.size ≤ wq.heap.size := Nat.le_refl _
          go_region_held3 (fun w' => w'.cell? ⟨g, 0, none⟩ = some (.int .i64 x) ∧ w'.cell? ⟨g, 1, none⟩ = some (.int .i64 y))
            (first | exact KC.out _ HD | exact KC.out _ HDA | exact KC.out _ (by assumption) | exact KC.out _ (KA.out _ _ (by assumption)) | exact KC.out _ (KS.out _ _ _ _ (by assumption) (by assumption)) | go_keep)
            (first
              | (go_at_call 62; (with_reducible refine (CU.out _).mono ?_); rintro e v1 ⟨rfl, b1⟩; (have D1 := KN.out _ _ (by first | exact HD | exact HDA | assumption | exact KA.out _ _ (by assumption)) b1); (have hle1 := D1.out.size); (first | (have HZ1 := Lib.hid (QBox.below HZ0.out b1 HZ0.out.lt)) | (have HZ1 := Lib.hid (QBox.below (QBox.new _ 0 0) b1 (by simp))) | skip); clear b1)
              | (go_at_call 61; (with_reducible refine (GR.out _).mono ?_); rintro e v2 ⟨rfl, b2⟩; (have D2 := KN.out _ _ (by first | assumption | exact KA.out _ _ (by assumption)) b2); (have hle2 := D2.out.size); (first | (have HZ2 := Lib.hid (QBox.below HZ1.out b2 HZ1.out.lt); (obtain ⟨⟨c0, c1⟩, f0, f1⟩ := HZ2.out.cells)) | (have HZ2 := Lib.hid (QBox.below (QBox.new _ 0 0) b2 (by simp)); (obtain ⟨⟨c0, c1⟩, f0, f1⟩ := HZ2.out.cells)) | skip); clear b2))
          all_goals
            go_wp2_with fail
            go_meet
            first
              | exact ⟨_, rfl, hle0, Lib.hid (KS.out _ _ _ _ D2 hle0).out, Lib.hid (HZ2.out.st _ _)⟩
              | exact ⟨_, rfl, hle1, Lib.hid (KS.out _ _ _ _ D2 hle1).out, Lib.hid (HZ2.out.st _ _)⟩
              | exact ⟨_, rfl, hle2, Lib.hid (KA.out _ _ D2).out, Lib.hid (QBox.new _ _ _)⟩
              | (trace_state; sorry)
        obtain ⟨gT, rfl, hgT, HBq, HQT⟩ := hcut
        obtain ⟨w3, rfl⟩ : ∃ w3 : World, w3 = wc := ⟨_, rfl⟩
        clear x0 x1
        have hg3 : g < w3.heap.size := by have := HBq.out.size; omega
        have hgT3 := HQT.out.lt
        have X3 := Lib.hid ((HBq.out.cell (p := ⟨g, 0, none⟩) hg2).trans X0.out)
        have X4 := Lib.hid ((HBq.out.cell (p := ⟨g, 1, none⟩) hg2).trans X1.out)
        have x0 := X3.out
        have x1 := X4.out
        obtain ⟨⟨y0, y1⟩, _, _⟩ := HQT.out.cells
        have Y3 := Lib.hid y0
        have Y4 := Lib.hid y1
        go_upto_region 8 with fail
        go_cut [7] (fun s9 wx => ∃ g, s9 = .pointer (some ⟨g, 0, none⟩) ∧ w3.heap.size ≤ g ∧ Hid (Below wq.heap.size wq wx) ∧ Hid (QBox wx g z1 z2))
        case first =>
          have HD : Hid (Below wq.heap.size wq w3.drew) := Lib.hid (below_drew HBq.out)
          have HDA : Hid (Below wq.heap.size wq (w3.alloc (.cells #[.int .i64 0, .int .i64 0] 32)).drew) := Lib.hid (below_drew (HBq.out.alloc HBq.out.size _))
          have HE : Hid (Below w3.heap.size w3 w3.drew) := Lib.hid (below_drew (Below.refl _ _))
          have HEA : Hid (Below w3.heap.size w3 (w3.alloc (.cells #[.int .i64 0, .int .i64 0] 32)).drew) := Lib.hid (below_drew ((Below.refl w3.heap.size w3).alloc (Nat.le_refl _) _))
          have KC : Hid (∀ w', Hid (Below w3.heap.size w3 w') → w'.cell? ⟨g, 0, none⟩ = some (.int .i64 x) ∧ w'.cell? ⟨g, 1, none⟩ = some (.int .i64 y) ∧ w'.cell? ⟨gT, 0, none⟩ = some (.int .i64 t1) ∧ w'.cell? ⟨gT, 1, none⟩ = some (.int .i64 t2)) := Lib.hid (fun w' h => ⟨(h.out.cell (p := ⟨g, 0, none⟩) hg3).trans X3.out, (h.out.cell (p := ⟨g, 1, none⟩) hg3).trans X4.out, (h.out.cell (p := ⟨gT, 0, none⟩) hgT3).trans Y3.out, (h.out.cell (p := ⟨gT, 1, none⟩) hgT3).trans Y4.out⟩)
          have KA : Hid (∀ (w' : World) (o : Obj), Hid (Below w3.heap.size w3 w') → Hid (Below w3.heap.size w3 (w'.alloc o))) := Lib.hid (fun w' o h => Lib.hid (h.out.alloc h.out.size o))
          have KN : Hid (∀ (w' w'' : World), Hid (Below w3.heap.size w3 w') → Below w'.heap.size w' w'' → Hid (Below w3.heap.size w3 w'')) := Lib.hid (fun w' w'' h k => Lib.hid (h.out.trans (k.mono h.out.size)))
          have KS : Hid (∀ (w' : World) (g : Nat) (x y : Value), Hid (Below w3.heap.size w3 w') → w3.heap.size ≤ g → Hid (Below w3.heap.size w3 ((w'.setCell ⟨g, 0, none⟩ x).setCell ⟨g, 1, none⟩ y))) := Lib.hid (fun w' g x y h hg => Lib.hid (bl_st h.out hg x y))
          have HZ0 : Hid (QBox (w3.alloc (.cells #[.int .i64 0, .int .i64 0] 32)).drew w3.heap.size 0 0) := Lib.hid (QBox.new w3 0 0)
          have hle0 : w3.heap.size ≤ w3.heap.size := Nat.le_refl _
          go_region_held3 (fun w' => w'.cell? ⟨g, 0, none⟩ = some (.int .i64 x) ∧ w'.cell? ⟨g, 1, none⟩ = some (.int .i64 y) ∧ w'.cell? ⟨gT, 0, none⟩ = some (.int .i64 t1) ∧ w'.cell? ⟨gT, 1, none⟩ = some (.int .i64 t2))
            (first | exact KC.out _ HE | exact KC.out _ HEA | exact KC.out _ (by assumption) | exact KC.out _ (KA.out _ _ (by assumption)) | exact KC.out _ (KS.out _ _ _ _ (by assumption) (by assumption)) | go_keep)
            (first
              | (go_at_call 55; (with_reducible refine (M1.out _).mono ?_); rintro e v1 ⟨rfl, b1⟩; (have D1 := KN.out _ _ (by first | exact HE | exact HEA | assumption | exact KA.out _ _ (by assumption)) b1); (have hle1 := D1.out.size); (first | (have HZ1 := Lib.hid (QBox.below HZ0.out b1 HZ0.out.lt)) | (have HZ1 := Lib.hid (QBox.below (QBox.new _ 0 0) b1 (by simp))) | skip); clear b1)
              | (go_at_call 62; (with_reducible refine (CK.out _).mono ?_); rintro e v2 ⟨rfl, b2⟩; (have D2 := KN.out _ _ (by first | assumption | exact KA.out _ _ (by assumption)) b2); (have hle2 := D2.out.size); (first | (have HZ2 := Lib.hid (QBox.below HZ1.out b2 HZ1.out.lt)) | (have HZ2 := Lib.hid (QBox.below (QBox.new _ 0 0) b2 (by simp))) | skip); clear b2)
              | (go_at_call 55; (with_reducible refine (M2.out _).mono ?_); rintro e v3 ⟨rfl, b3⟩; (have D3 := KN.out _ _ (by first | assumption | exact KA.out _ _ (by assumption)) b3); (have hle3 := D3.out.size); (first | (have HZ3 := Lib.hid (QBox.below HZ2.out b3 HZ2.out.lt)) | (have HZ3 := Lib.hid (QBox.below (QBox.new _ 0 0) b3 (by simp))) | skip); clear b3)
              | (go_at_call 63; (with_reducible refine (AD.out _).mono ?_); rintro e v4 ⟨rfl, b4⟩; (have D4 := KN.out _ _ (by first | assumption | exact KA.out _ _ (by assumption)) b4); (have hle4 := D4.out.size); (first | (have HZ4 := Lib.hid (QBox.below HZ3.out b4 HZ3.out.lt); (obtain ⟨⟨c0, c1⟩, f0, f1⟩ := HZ4.out.cells)) | (have HZ4 := Lib.hid (QBox.below (QBox.new _ 0 0) b4 (by simp)); (obtain ⟨⟨c0, c1⟩, f0, f1⟩ := HZ4.out.cells)) | skip); clear b4))
          all_goals
            go_wp2_with fail
            go_meet
            first
              | exact ⟨_, rfl, hle0, Lib.hid (HBq.out.trans ((KS.out _ _ _ _ D4 hle0).out.mono HBq.out.size)), Lib.hid (HZ4.out.st _ _)⟩
              | exact ⟨_, rfl, hle1, Lib.hid (HBq.out.trans ((KS.out _ _ _ _ D4 hle1).out.mono HBq.out.size)), Lib.hid (HZ4.out.st _ _)⟩
              | exact ⟨_, rfl, hle2, Lib.hid (HBq.out.trans ((KS.out _ _ _ _ D4 hle2).out.mono HBq.out.size)), Lib.hid (HZ4.out.st _ _)⟩
              | exact ⟨_, rfl, hle3, Lib.hid (HBq.out.trans ((KS.out _ _ _ _ D4 hle3).out.mono HBq.out.size)), Lib.hid (HZ4.out.st _ _)⟩
              | exact ⟨_, rfl, hle4, Lib.hid (HBq.out.trans ((KA.out _ _ D4).out.mono HBq.out.size)), Lib.hid (QBox.new _ _ _)⟩
              | (trace_state; sorry)
        obtain ⟨gU, rfl, hgU, HBx, HQU⟩ := hcut
        obtain ⟨w5, rfl⟩ : ∃ w5 : World, w5 = wc := ⟨_, rfl⟩
        clear x0 x1 y0 y1 X3 X4 Y3 Y4 HQT HBq CU CK GR M1 M2 AD hg3 hgT3 hgT hgU
        obtain ⟨⟨y0, y1⟩, _, _⟩ := HQU.out.cells
        have HO5 := Lib.hid (HO.out.below HBx.out)
        have hs5 := HBx.out.size
        have hws := HB.out.size
        obtain ⟨w6, hw6⟩ : ∃ w6, w6 = w5.alloc (.cells #[.int .i64 z1, .int .i64 z2] 32) := ⟨_, rfl⟩
        have S6 : w6.heap.size = w5.heap.size + 1 := by rw [hw6]; simp
        have ON := OwnQ.one w5 (w.heap.size) (Nat.le_trans hws hs5) IN.out.1 IN.out.2
        rw [← hw6] at ON
        have ON' := Lib.hid ON
        have B56 : Below w5.heap.size w5 w6 := by rw [hw6]; exact (Below.refl _ _).alloc (Nat.le_refl _) _
        have HO6 := Lib.hid (HO5.out.below (B56.mono hs5))
        have HB6 := Lib.hid ((HB.out.trans (HBx.out.mono hws)).trans (B56.mono (Nat.le_trans hws hs5)))
        have hrow := HO6.out.row
        have SRC := Lib.hid (fun (j : Nat) (u : Value) (hu : ((sL N k).map (Value.int .i64))[j]? = some u) => show w6.cell? ((⟨g, 0, none⟩ : Addr).add j) = some u from by
          have hj : j < (sL N k).length := by
            have := (List.getElem?_eq_some_iff.1 hu).1
            simpa using this
          have hl := HO6.out.len
          rw [List.getElem?_map, List.getElem?_eq_getElem hj] at hu
          have := HO6.out.cellGet (j := j) (by omega)
          rw [List.getD_eq_getElem?_getD, List.getElem?_eq_getElem hj] at this
          simp at hu
          rw [← hu]
          rw [Addr.add_lit, Nat.zero_add]; exact this)
        have ON1 := ON'.out.row
        have FL := Lib.hid HO6.out.len
        have F64 := Lib.hid HO6.out.in64
        have SZ6 : w.heap.size ≤ w6.heap.size := by omega
        have HQ5 := Lib.hid (Nat.le_trans hws hs5)
        clear ON hrow HO5 HO6 HO
        subst hw6
        go_upto_region 6 with (at_builtin; refine wpList_append_own_at _ rfl _ _ 24 rfl w.heap.size 32 i0 (.agg #[.int .i64 0, .int .i64 0]) 2 16 Try.underlying24 HIF.out hz0 hz1 hz2 rfl (by decide) _ 1 [.int .i64 z1, .int .i64 z2] rfl ON1 ⟨g, 0, none⟩ m cap ((sL N k).map (.int .i64)) rfl (by rw [List.length_map]; exact FL.out) SRC.out (fun u hu => by obtain ⟨z, _, rfl⟩ := List.mem_map.1 hu; rfl) (by unfold maxLen; omega) (by omega) SZ6 ?_; intro v' w7 hown7 hgrow7 hnil7 hloc7)
        have own7 := Lib.hid (OwnQ.pre FL.out F64.out IN.out.1 IN.out.2 hown7)
        have HB7 := Lib.hid (HB6.out.grown hgrow7 SZ6 (fun q hq => (ON1.lt q hq).1))
        have ik : (k : Int) - 1 = ((k - 1 : Nat) : Int) := by omega
        clear hown7 hgrow7 hnil7 hloc7 ON1 SRC ON'
        go_wp2_with fail
        go_roundg (k - 1)
        case rel => exact ⟨k - 1, by omega, by omega, by first | rfl | go_num, Lib.hid (by rw [STEP.out, show N + 1 - (k - 1) = m + 1 by have := HM.out; omega]; exact own7.out), HB7⟩
        case measure => omega
      · have hk0 : k = 0 := by omega
        subst hk0
        obtain ⟨g, cap, rfl, hg1, hg2⟩ := HO.out.shape (by omega)
        obtain ⟨s, hs⟩ : ∃ s : Value, s = .slice (some ⟨g, 0, none⟩) (N + 1 - 0) cap := ⟨_, rfl⟩
        rw [← hs] at HO ⊢
        have TD := Lib.hid (toldS (N + 1 - 0) (sL N 0) s _ _ wq (by omega) HO.out (fun i hi => by
          unfold sL
          rw [(prL_at _ _ hi).1, (prL_at _ _ hi).2]
          exact st2 N hN hN1 _ (by omega)))
        clear hs
        go_wp2_with fail
        refine TD.out.mono ?_
        rintro e w4 ⟨rfl, b4⟩
        have FIN : Hid (NewQB (N + 1) (sL N 0) true w (.returned (.tuple #[s, .bool true])) w4) := Lib.hid ⟨s, rfl, (HO.out.below b4).wide b4.size (Nat.le_refl _), HB.out.trans (b4.mono HB.out.size)⟩
        go_wp2_with fail
        go_ret2
        exact FIN.out
  · rw [decide_eq_false h] at F ⊢
    rw [show stLenM n = 0 from if_neg h, show stLM n = [] from if_neg h]
    clear h
    go_enter Try.func28, Try.ntmps28
    go_wp2_with fail
    refine (F.out _).mono ?_
    rintro e w1 ⟨rfl, rfl⟩
    go_wp2_with fail
    go_ret2
    exact newQ_empty (Below.refl _ _) rfl
end Go.Proofs.Ytnpiciabpgkiiab
