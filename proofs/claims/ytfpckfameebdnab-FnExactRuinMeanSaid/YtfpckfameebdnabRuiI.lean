/- The chance and the mean of ruin, in the program. -/
import Derived.Test.YtfpckfameebdnabRuiP
import Derived.Test.YtfpckfameebdnabWlkF
import Derived.Test.YtfpckfameebdnabFracB
namespace Go.Proofs.Ytfpckfameebdnab
open Go.RowKit
set_option linter.unusedVariables false
theorem pow_le_of {a : Nat} (h : a ≤ 20) {k : Nat} (hk : k ≤ 12) : ∀ j, j ≤ k → a ^ j ≤ 4096000000000000 := fun j hj => pow_bd h (by omega)
def gamOk (a b n : Int) : Bool := decide ((1 ≤ a ∧ a ≤ 20) ∧ (1 ≤ b ∧ b ≤ 20) ∧ (1 ≤ n ∧ n ≤ 12))
def gamV (a b n : Int) : Value := if gamOk a b n = true then .tuple #[.agg #[.int .i64 a, .int .i64 b, .int .i64 n], .bool true] else .tuple #[.agg #[.int .i64 0, .int .i64 0, .int .i64 0], .bool false]
theorem gamOk_mk {a b n : Int} (h : gamOk a b n = true) : ∃ A B N : Nat, a = A ∧ b = B ∧ n = N ∧ (1 ≤ A ∧ A ≤ 20) ∧ (1 ≤ B ∧ B ≤ 20) ∧ 1 ≤ N ∧ N ≤ 12 := by
  unfold gamOk at h
  rw [decide_eq_true_iff] at h
  exact ⟨a.toNat, b.toNat, n.toNat, by omega, by omega, by omega, by omega, by omega, by omega⟩

set_option maxRecDepth 100000 in
set_option maxHeartbeats 2000000 in
theorem powC (b k : Nat) (w : World) (hb : b ≤ 20) (h : ∀ j, j ≤ k → b ^ j ≤ 4096000000000000) (hk : k ≤ 1000) : Calls Try.prog 56 #[.int .i64 b, .int .i64 k] w (QR (.int .i64 (b ^ k : Nat)) w) := by
  have PB := Lib.hid h
  have PS := Lib.hid (fun i => show b ^ (i + 1) = b ^ i * b from Nat.pow_succ ..)
  have P0 := Lib.hid (show b ^ 0 = 1 from Nat.pow_zero _)
  clear h
  obtain ⟨F, hF⟩ : ∃ F : Nat → Nat, F = fun i => b ^ i := ⟨_, rfl⟩
  have FD : ∀ i, b ^ i = F i := fun i => by rw [hF]
  simp only [FD] at PB PS P0 ⊢
  clear hF FD
  go_enter Try.func56, Try.ntmps56
  go_wp2_with fail
  go_loopg [5, 7] k (fun gg s t wr => ∃ i : Nat, i ≤ k ∧ k - i ≤ gg ∧ s = .int .i64 (F i : Nat) ∧ t = .int .i64 i ∧ w = wr)
  case atStart => exact ⟨0, Nat.zero_le _, by omega, by rw [P0.out]; rfl, rfl, rfl⟩
  case round =>
    obtain ⟨i, hi, hgg, rfl, rfl, rfl⟩ := hrel
    by_cases hlt : i < k
    · have pb := PB.out i hi
      have pb1 := PB.out (i + 1) (by omega)
      have ps := PS.out i
      have WR : IntKind.i64.wrap ((F i : Int) * (b : Int)) = (F i : Int) * (b : Int) := IntWalk.i64_in _ (by rw [← Int.natCast_mul, ← ps]; omega)
      have PE := Lib.hid (show ((F i : Int) * (b : Int)) = (F (i + 1) : Nat) by rw [ps, Int.natCast_mul])
      clear ps pb1
      go_wp2_with fail
      go_roundg (k - (i + 1))
      case rel => exact ⟨i + 1, by omega, by omega, by rw [← PE.out], by go_num, rfl⟩
      case measure => omega
    · have hik : i = k := by omega
      subst hik
      go_wp2_with fail
      go_ret
      exact ⟨rfl, rfl⟩

set_option maxRecDepth 100000 in
set_option maxHeartbeats 2000000 in
theorem gamC (a b n : Int) (w : World) : Calls Try.prog 37 #[.int .i64 a, .int .i64 b, .int .i64 n] w (Gives (gamV a b n) w) := by
  have F := Lib.hid (fun w => fromI a 1 20 w)
  have G := Lib.hid (fun w => fromI b 1 20 w)
  have K := Lib.hid (fun w => fromI n 1 12 w)
  have FIN : Hid (∀ o, Below w.heap.size w (w.alloc o)) := Lib.hid (fun o => (Below.refl w.heap.size w).alloc (Nat.le_refl _) o)
  by_cases h1 : 1 ≤ a ∧ a ≤ 20
  · rw [decide_eq_true h1] at F
    by_cases h2 : 1 ≤ b ∧ b ≤ 20
    · rw [decide_eq_true h2] at G
      by_cases h3 : 1 ≤ n ∧ n ≤ 12
      · rw [decide_eq_true h3] at K
        rw [show gamV a b n = .tuple #[.agg #[.int .i64 a, .int .i64 b, .int .i64 n], .bool true] from if_pos (decide_eq_true ⟨h1, h2, h3⟩)]
        clear h1 h2 h3
        go_enter Try.func37, Try.ntmps37
        go_wp2_with fail
        refine (F.out _).mono ?_
        rintro e w1 ⟨rfl, rfl⟩
        go_wp2_with fail
        refine (G.out _).mono ?_
        rintro e w2 ⟨rfl, rfl⟩
        go_wp2_with fail
        refine (K.out _).mono ?_
        rintro e w3 ⟨rfl, rfl⟩
        go_wp2_with fail
        refine bodyPost_ret (v := .tuple #[.agg #[.int .i64 a, .int .i64 b, .int .i64 n], .bool true]) (by simp [results, Try.results37, go_sem, *]) rfl ⟨rfl, ?_⟩
        exact FIN.out _
      · rw [decide_eq_false h3] at K
        rw [show gamV a b n = .tuple #[.agg #[.int .i64 0, .int .i64 0, .int .i64 0], .bool false] from if_neg (by unfold gamOk; rw [decide_eq_false (fun h => h3 h.2.2)]; decide)]
        clear h1 h2 h3
        go_enter Try.func37, Try.ntmps37
        go_wp2_with fail
        refine (F.out _).mono ?_
        rintro e w1 ⟨rfl, rfl⟩
        go_wp2_with fail
        refine (G.out _).mono ?_
        rintro e w2 ⟨rfl, rfl⟩
        go_wp2_with fail
        refine (K.out _).mono ?_
        rintro e w3 ⟨rfl, rfl⟩
        go_wp2_with fail
        refine bodyPost_ret (v := .tuple #[.agg #[.int .i64 0, .int .i64 0, .int .i64 0], .bool false]) (by simp [results, Try.results37, go_sem, *]) rfl ⟨rfl, ?_⟩
        exact FIN.out _
    · rw [decide_eq_false h2] at G
      rw [show gamV a b n = .tuple #[.agg #[.int .i64 0, .int .i64 0, .int .i64 0], .bool false] from if_neg (by unfold gamOk; rw [decide_eq_false (fun h => h2 h.2.1)]; decide)]
      clear h1 h2
      go_enter Try.func37, Try.ntmps37
      go_wp2_with fail
      refine (F.out _).mono ?_
      rintro e w1 ⟨rfl, rfl⟩
      go_wp2_with fail
      refine (G.out _).mono ?_
      rintro e w2 ⟨rfl, rfl⟩
      go_wp2_with fail
      refine bodyPost_ret (v := .tuple #[.agg #[.int .i64 0, .int .i64 0, .int .i64 0], .bool false]) (by simp [results, Try.results37, go_sem, *]) rfl ⟨rfl, ?_⟩
      exact FIN.out _
  · rw [decide_eq_false h1] at F
    rw [show gamV a b n = .tuple #[.agg #[.int .i64 0, .int .i64 0, .int .i64 0], .bool false] from if_neg (by unfold gamOk; rw [decide_eq_false (fun h => h1 h.1)]; decide)]
    clear h1
    go_enter Try.func37, Try.ntmps37
    go_wp2_with fail
    refine (F.out _).mono ?_
    rintro e w1 ⟨rfl, rfl⟩
    go_wp2_with fail
    refine bodyPost_ret (v := .tuple #[.agg #[.int .i64 0, .int .i64 0, .int .i64 0], .bool false]) (by simp [results, Try.results37, go_sem, *]) rfl ⟨rfl, ?_⟩
    exact FIN.out _

def prX (a b i n : Nat) : Int := if a = b then i else ipT a b i n
def prY (a b n : Nat) : Int := if a = b then n else ipB a b n
set_option maxRecDepth 100000 in
set_option maxHeartbeats 2000000 in
theorem partsC (a b i n : Nat) (w : World) (ha : 1 ≤ a ∧ a ≤ 20) (hb : 1 ≤ b ∧ b ≤ 20) (hn : n ≤ 12) (hi : i ≤ n) : Calls Try.prog 40 #[.agg #[.int .i64 a, .int .i64 b, .int .i64 n], .int .i64 i] w (Gives (.tuple #[.int .i64 (prX a b i n), .int .i64 (prY a b n)]) w) := by
  have B1 := Lib.hid ((Below.refl w.heap.size w).alloc (Nat.le_refl _) (.cells #[.int .i64 a, .int .i64 b, .int .i64 n] 43))
  have k0 := alloc_heap w (.cells #[.int .i64 a, .int .i64 b, .int .i64 n] 43)
  obtain ⟨c0, _⟩ := cell_of_heap (o := 0) k0 rfl
  obtain ⟨c1, _⟩ := cell_of_heap (o := 1) k0 rfl
  obtain ⟨c2, _⟩ := cell_of_heap (o := 2) k0 rfl
  obtain ⟨wa, hwa⟩ : ∃ wa, wa = w.alloc (.cells #[.int .i64 a, .int .i64 b, .int .i64 n] 43) := ⟨_, rfl⟩
  rw [← hwa] at B1 c0 c1 c2
  clear k0
  by_cases hab : a = b
  · subst hab
    rw [show prX a a i n = i from if_pos rfl, show prY a a n = n from if_pos rfl]
    go_enter Try.func40, Try.ntmps40
    go_wp2_with fail
    rw [← hwa]
    clear hwa
    go_quiet (fail)
    go_wp2_with fail
    go_ret2
    exact ⟨rfl, by first | exact B1.out | exact below_drewN B1.out _ | exact below_drew B1.out⟩
  · rw [show prX a b i n = ipT a b i n from if_neg hab, show prY a b n = ipB a b n from if_neg hab]
    have z : ((a : Int) == (b : Int)) = false := by simp; omega
    have P1 := Lib.hid (fun w => powC a (n - i) w ha.2 (pow_le_of ha.2 (by omega)) (by omega))
    have P2 := Lib.hid (fun w => powC a i w ha.2 (pow_le_of ha.2 (by omega)) (by omega))
    have P3 := Lib.hid (fun w => powC b i w hb.2 (pow_le_of hb.2 (by omega)) (by omega))
    have P4 := Lib.hid (fun w => powC a n w ha.2 (pow_le_of ha.2 (by omega)) (by omega))
    have P5 := Lib.hid (fun w => powC b n w hb.2 (pow_le_of hb.2 (by omega)) (by omega))
    rw [show ((n - i : Nat) : Int) = (n : Int) - i by omega] at P1
    have t1 := pow_bd (k := n - i) ha.2 (by omega)
    have t2 := pow_bd (k := i) ha.2 (by omega)
    have t3 := pow_bd (k := i) hb.2 (by omega)
    have t4 := pow_bd (k := n) ha.2 (by omega)
    have t5 := pow_bd (k := n) hb.2 (by omega)
    have tb := ipT_bd ha hb hn hi
    unfold ipT at tb ⊢
    unfold ipB
    obtain ⟨x1, h1⟩ : ∃ x, x = a ^ (n - i) := ⟨_, rfl⟩
    obtain ⟨x2, h2⟩ : ∃ x, x = a ^ i := ⟨_, rfl⟩
    obtain ⟨x3, h3⟩ : ∃ x, x = b ^ i := ⟨_, rfl⟩
    obtain ⟨x4, h4⟩ : ∃ x, x = a ^ n := ⟨_, rfl⟩
    obtain ⟨x5, h5⟩ : ∃ x, x = b ^ n := ⟨_, rfl⟩
    rw [← h1] at P1 t1 tb
    rw [← h2] at P2 t2 tb
    rw [← h3] at P3 t3 tb
    rw [← h4] at P4 t4
    rw [← h5] at P5 t5
    rw [← h1, ← h2, ← h3, ← h4, ← h5]
    have WR : IntKind.i64.wrap ((x1 : Int) * ((x2 : Int) - (x3 : Int))) = (x1 : Int) * ((x2 : Int) - (x3 : Int)) := IntWalk.i64_in _ (by omega)
    have hin : (i : Int) ≤ (n : Int) := by omega
    clear h1 h2 h3 h4 h5 tb hab
    go_enter Try.func40, Try.ntmps40
    go_wp2_with fail
    rw [← hwa]
    clear hwa
    go_quiet ((go_at_call 56; first | with_reducible exact quiet_left (P1.out _) | with_reducible exact quiet_left (P2.out _) | with_reducible exact quiet_left (P3.out _)))
    go_wp2_with fail
    go_quiet ((go_at_call 56; first | with_reducible exact quiet_left (P4.out _) | with_reducible exact quiet_left (P5.out _) | with_reducible exact quiet_add_left (P4.out _) | with_reducible exact quiet_add_left (P5.out _)))
    go_wp2_with fail
    go_ret2
    exact ⟨rfl, by first | exact B1.out | exact below_drewN B1.out _ | exact below_drew B1.out | exact below_drewN (below_drewN B1.out _) _⟩

def ruinOk (a b i n : Int) : Bool := gamOk a b n && decide (0 ≤ i ∧ i ≤ n)
def rcV (a b i n : Int) : Value := if ruinOk a b i n = true then keptV (rcN a.toNat b.toNat i.toNat n.toNat) (rcD a.toNat b.toNat i.toNat n.toNat) else zeroP
def rmK (a b i n : Nat) : Value := if a = b then keptV ((i : Int) * ((n : Int) - i)) 1 else keptV (cutN (rmN' a b i n) (rmD' a b i n)) (cutD (rmN' a b i n) (rmD' a b i n))
def rmV (a b i n : Int) : Value := if ruinOk a b i n = true then rmK a.toNat b.toNat i.toNat n.toNat else zeroP
theorem rmK_form (a b i n : Nat) : ∃ p q ok, rmK a b i n = .tuple #[.agg #[.int .i64 p, .int .i64 q], .bool ok] := by
  unfold rmK; split <;> exact keptV_form _ _
theorem rcV_form (a b i n : Int) : ∃ p q ok, rcV a b i n = .tuple #[.agg #[.int .i64 p, .int .i64 q], .bool ok] := by
  unfold rcV zeroP; split
  · exact keptV_form _ _
  · exact ⟨_, _, _, rfl⟩
theorem rmV_form (a b i n : Int) : ∃ p q ok, rmV a b i n = .tuple #[.agg #[.int .i64 p, .int .i64 q], .bool ok] := by
  unfold rmV zeroP; split
  · exact rmK_form _ _ _ _
  · exact ⟨_, _, _, rfl⟩
theorem red_rc (a b i n : Nat) (w : World) (ha : 1 ≤ a ∧ a ≤ 20) (hb : 1 ≤ b ∧ b ≤ 20) (hn : 1 ≤ n ∧ n ≤ 12) (hi : i ≤ n) : Calls Try.prog 39 #[.int .i64 (prX a b i n), .int .i64 (prY a b n)] w (Gives (keptV (rcN a b i n) (rcD a b i n)) w) := by
  have t1 := ipT_bd (i := i) ha hb hn.2 hi
  have t2 := ipB_bd ha.2 hb.2 hn.2
  by_cases hab : a = b
  · unfold prX prY rcN rcD
    rw [if_pos hab, if_pos hab, if_pos hab, if_pos hab]
    exact reduceI_pos _ _ w (by omega) (by omega)
  · unfold prX prY
    rw [if_neg hab, if_neg hab]
    by_cases h : b < a
    · obtain ⟨e1, e2, e3⟩ := rc_pos (i := i) h hb.1 hn.1
      rw [← e1, ← e2]
      exact reduceI_pos _ _ w (by omega) (by omega)
    · obtain ⟨e1, e2, e3⟩ := rc_neg (i := i) (show a < b by omega) ha.1 hn.1
      rw [← e1, ← e2]
      exact reduceI_neg _ _ w (by omega) (by omega)
theorem red_rm (a b i n : Nat) (w : World) (hab : a ≠ b) (ha : 1 ≤ a ∧ a ≤ 20) (hb : 1 ≤ b ∧ b ≤ 20) (hn : 1 ≤ n ∧ n ≤ 12) (hi : i ≤ n) : Calls Try.prog 39 #[.int .i64 (imT a b i n), .int .i64 (imB a b n)] w (Gives (rmK a b i n) w) := by
  have t1 := imT_bd (i := i) ha hb hn.2 hi
  have t2 := imB_bd ha hb hn.2
  obtain ⟨e1, e2, e3⟩ := rm_eq (i := i) hab ha.1 hb.1 hn.1
  unfold rmK
  rw [if_neg hab, ← e2, ← e3]
  exact reduceI_neg _ _ w (by omega) (by omega)
theorem mul_in {i n : Nat} (hi : i ≤ n) (hn : n ≤ 12) : 0 ≤ (i : Int) * ((n : Int) - i) ∧ (i : Int) * ((n : Int) - i) ≤ 144 := by
  rw [show (n : Int) - i = ((n - i : Nat) : Int) by omega, ← Int.natCast_mul]
  have : i * (n - i) ≤ 12 * 12 := Nat.mul_le_mul (by omega) (by omega)
  omega
theorem red_one (a i n : Nat) (w : World) (hn : n ≤ 12) (hi : i ≤ n) : Calls Try.prog 39 #[.int .i64 ((i : Int) * ((n : Int) - i)), .int .i64 1] w (Gives (rmK a a i n) w) := by
  have t1 := mul_in hi hn
  have g1 : gI ((i : Int) * ((n : Int) - i)) 1 = 1 := by unfold gI; rw [Int.gcd_one_right]; rfl
  obtain ⟨e1, e2⟩ := cut_self (a := (i : Int) * ((n : Int) - i)) (b := 1) (by omega) g1
  have h := reduceI_pos ((i : Int) * ((n : Int) - i)) 1 w (by omega) (by omega)
  rw [e1, e2] at h
  unfold rmK
  rw [if_pos rfl]
  exact h
theorem ruin_mk {a b i n : Int} (h : ruinOk a b i n = true) : ∃ A B I N : Nat, a = A ∧ b = B ∧ i = I ∧ n = N ∧ (1 ≤ A ∧ A ≤ 20) ∧ (1 ≤ B ∧ B ≤ 20) ∧ (1 ≤ N ∧ N ≤ 12) ∧ I ≤ N := by
  unfold ruinOk at h
  rw [Bool.and_eq_true, decide_eq_true_iff] at h
  obtain ⟨A, B, N, rfl, rfl, rfl, h1, h2, h3, h4⟩ := gamOk_mk h.1
  exact ⟨A, B, i.toNat, N, rfl, rfl, by omega, rfl, h1, h2, ⟨h3, h4⟩, by omega⟩
theorem res_cells {w w3 : World} (b : Below (w.alloc (.cells #[.int .i64 0, .int .i64 0] 22)).heap.size (w.alloc (.cells #[.int .i64 0, .int .i64 0] 22)) w3) : (w3.cell? ⟨w.heap.size, 0, none⟩ = some (.int .i64 0) ∧ w3.frozen? ⟨w.heap.size, 0, none⟩ = false) ∧ (w3.cell? ⟨w.heap.size, 1, none⟩ = some (.int .i64 0) ∧ w3.frozen? ⟨w.heap.size, 1, none⟩ = false) := by
  have k0 := (b.block w.heap.size (by simp)).trans (alloc_heap w (.cells #[.int .i64 0, .int .i64 0] 22))
  exact ⟨cell_of_heap (o := 0) k0 rfl, cell_of_heap (o := 1) k0 rfl⟩
theorem res_fin {w w3 : World} {x y : Value} (b : Below (w.alloc (.cells #[.int .i64 0, .int .i64 0] 22)).heap.size (w.alloc (.cells #[.int .i64 0, .int .i64 0] 22)) w3) : Below w.heap.size w ((w3.setCell ⟨w.heap.size, 0, none⟩ x).setCell ⟨w.heap.size, 1, none⟩ y) :=
  ((((Below.refl w.heap.size w).alloc (Nat.le_refl _) _).trans (b.mono (by simp))).setCell (p := ⟨w.heap.size, 0, none⟩) (Nat.le_refl _) _).setCell (p := ⟨w.heap.size, 1, none⟩) (Nat.le_refl _) _
theorem below_box {V w1 w2 : World} {o : Obj} (h : Below V.heap.size V w1) (b : Below (w1.alloc o).heap.size (w1.alloc o) w2) : Below V.heap.size V w2 :=
  (h.alloc h.size o).trans (b.mono (by have := h.size; simp; omega))
theorem below_then {V w1 w2 : World} (h : Below V.heap.size V w1) (b : Below w1.heap.size w1 w2) : Below V.heap.size V w2 := h.trans (b.mono h.size)

set_option maxRecDepth 100000 in
set_option maxHeartbeats 2000000 in
theorem rcC (a b i n : Int) (w : World) : Calls Try.prog 13 #[.int .i64 a, .int .i64 b, .int .i64 i, .int .i64 n] w (Gives (rcV a b i n) w) := by
  cases hk : ruinOk a b i n
  · have e1 : rcV a b i n = zeroP := if_neg (by rw [hk]; decide)
    rw [e1]
    unfold zeroP
    have G := Lib.hid (fun w => gamC a b n w)
    have F := Lib.hid (fun w => fromI i 0 n w)
    unfold ruinOk at hk
    cases hg : gamOk a b n
    · rw [show gamV a b n = .tuple #[.agg #[.int .i64 0, .int .i64 0, .int .i64 0], .bool false] from if_neg (by rw [hg]; decide)] at G
      clear hk hg e1
      go_enter Try.func13, Try.ntmps13
      go_wp2_with fail
      refine (G.out _).mono ?_
      rintro e w1 ⟨rfl, b1⟩
      have B2 := Lib.hid (b1.alloc b1.size (.cells #[.int .i64 0, .int .i64 0, .int .i64 0] 43))
      obtain ⟨⟨x0, y0⟩, x1, y1⟩ := res_cells B2.out
      clear b1
      go_wp2_with fail
      refine bodyPost_ret (v := .tuple #[.agg #[.int .i64 0, .int .i64 0], .bool false]) (by simp [results, Try.results13, go_sem, x0, x1]) rfl ⟨rfl, ?_⟩
      exact res_fin B2.out
    · rw [hg, Bool.true_and] at hk
      rw [show gamV a b n = .tuple #[.agg #[.int .i64 a, .int .i64 b, .int .i64 n], .bool true] from if_pos hg] at G
      rw [hk] at F
      clear hk hg e1
      go_enter Try.func13, Try.ntmps13
      go_wp2_with fail
      refine (G.out _).mono ?_
      rintro e w1 ⟨rfl, b1⟩
      have B2 := Lib.hid (b1.alloc b1.size (.cells #[.int .i64 a, .int .i64 b, .int .i64 n] 43))
      obtain ⟨⟨x0, y0⟩, x1, y1⟩ := res_cells B2.out
      clear b1
      go_wp2_with fail
      refine (F.out _).mono ?_
      rintro e w2 ⟨rfl, rfl⟩
      go_wp2_with fail
      refine bodyPost_ret (v := .tuple #[.agg #[.int .i64 0, .int .i64 0], .bool false]) (by simp [results, Try.results13, go_sem, x0, x1]) rfl ⟨rfl, ?_⟩
      exact res_fin B2.out
  · have e1 : rcV a b i n = keptV (rcN a.toNat b.toNat i.toNat n.toNat) (rcD a.toNat b.toNat i.toNat n.toNat) := if_pos hk
    rw [e1]
    obtain ⟨A, B, J, N, rfl, rfl, rfl, rfl, hA, hB, hN, hJ⟩ := ruin_mk hk
    simp only [Int.toNat_natCast]
    have G := Lib.hid (fun w => gamC A B N w)
    have F := Lib.hid (fun w => fromI J 0 N w)
    rw [decide_eq_true (by omega)] at F
    rw [show gamV A B N = .tuple #[.agg #[.int .i64 A, .int .i64 B, .int .i64 N], .bool true] from if_pos (by unfold gamOk; rw [decide_eq_true_iff]; omega)] at G
    have PC := Lib.hid (fun w => partsC A B J N w hA hB hN.2 hJ)
    have RD := Lib.hid (fun w => red_rc A B J N w hA hB hN hJ)
    obtain ⟨p, q, okk, hK⟩ := keptV_form (rcN A B J N) (rcD A B J N)
    rw [hK] at RD ⊢
    generalize prX A B J N = X at *
    generalize prY A B N = Y at *
    clear hk e1 hK
    go_enter Try.func13, Try.ntmps13
    go_wp2_with fail
    refine (G.out _).mono ?_
    rintro e w1 ⟨rfl, b1⟩
    have B2 := Lib.hid (b1.alloc b1.size (.cells #[.int .i64 A, .int .i64 B, .int .i64 N] 43))
    clear b1
    go_wp2_with fail
    refine (F.out _).mono ?_
    rintro e w2 ⟨rfl, rfl⟩
    go_wp2_with fail
    refine (PC.out _).mono ?_
    rintro e w3 ⟨rfl, b3⟩
    have B3 := Lib.hid (below_then B2.out b3)
    clear b3
    go_wp2_with fail
    refine (RD.out _).mono ?_
    rintro e w4 ⟨rfl, b4⟩
    have B4 := Lib.hid (below_then B3.out b4)
    clear b4
    obtain ⟨⟨x0, y0⟩, x1, y1⟩ := res_cells B4.out
    go_wp2_with fail
    refine bodyPost_ret (v := .tuple #[.agg #[.int .i64 p, .int .i64 q], .bool okk]) (by simp [results, Try.results13, go_sem, x0, x1]) rfl ⟨rfl, ?_⟩
    exact res_fin B4.out

set_option maxRecDepth 100000 in
set_option maxHeartbeats 2000000 in
theorem rmC (a b i n : Int) (w : World) : Calls Try.prog 16 #[.int .i64 a, .int .i64 b, .int .i64 i, .int .i64 n] w (Gives (rmV a b i n) w) := by
  cases hk : ruinOk a b i n
  · have e1 : rmV a b i n = zeroP := if_neg (by rw [hk]; decide)
    rw [e1]
    unfold zeroP
    have G := Lib.hid (fun w => gamC a b n w)
    have F := Lib.hid (fun w => fromI i 0 n w)
    unfold ruinOk at hk
    cases hg : gamOk a b n
    · rw [show gamV a b n = .tuple #[.agg #[.int .i64 0, .int .i64 0, .int .i64 0], .bool false] from if_neg (by rw [hg]; decide)] at G
      clear hk hg e1
      go_enter Try.func16, Try.ntmps16
      go_wp2_with fail
      refine (G.out _).mono ?_
      rintro e w1 ⟨rfl, b1⟩
      have B2 := Lib.hid (b1.alloc b1.size (.cells #[.int .i64 0, .int .i64 0, .int .i64 0] 43))
      obtain ⟨⟨x0, y0⟩, x1, y1⟩ := res_cells B2.out
      clear b1
      go_wp2_with fail
      refine bodyPost_ret (v := .tuple #[.agg #[.int .i64 0, .int .i64 0], .bool false]) (by simp [results, Try.results16, go_sem, x0, x1]) rfl ⟨rfl, ?_⟩
      exact res_fin B2.out
    · rw [hg, Bool.true_and] at hk
      rw [show gamV a b n = .tuple #[.agg #[.int .i64 a, .int .i64 b, .int .i64 n], .bool true] from if_pos hg] at G
      rw [hk] at F
      clear hk hg e1
      go_enter Try.func16, Try.ntmps16
      go_wp2_with fail
      refine (G.out _).mono ?_
      rintro e w1 ⟨rfl, b1⟩
      have B2 := Lib.hid (b1.alloc b1.size (.cells #[.int .i64 a, .int .i64 b, .int .i64 n] 43))
      obtain ⟨⟨x0, y0⟩, x1, y1⟩ := res_cells B2.out
      clear b1
      go_wp2_with fail
      refine (F.out _).mono ?_
      rintro e w2 ⟨rfl, rfl⟩
      go_wp2_with fail
      refine bodyPost_ret (v := .tuple #[.agg #[.int .i64 0, .int .i64 0], .bool false]) (by simp [results, Try.results16, go_sem, x0, x1]) rfl ⟨rfl, ?_⟩
      exact res_fin B2.out
  · have e1 : rmV a b i n = rmK a.toNat b.toNat i.toNat n.toNat := if_pos hk
    rw [e1]
    obtain ⟨A, B, J, N, rfl, rfl, rfl, rfl, hA, hB, hN, hJ⟩ := ruin_mk hk
    simp only [Int.toNat_natCast]
    have G := Lib.hid (fun w => gamC A B N w)
    have F := Lib.hid (fun w => fromI J 0 N w)
    rw [decide_eq_true (by omega)] at F
    rw [show gamV A B N = .tuple #[.agg #[.int .i64 A, .int .i64 B, .int .i64 N], .bool true] from if_pos (by unfold gamOk; rw [decide_eq_true_iff]; omega)] at G
    have PC := Lib.hid (fun w => partsC A B J N w hA hB hN.2 hJ)
    by_cases hab : A = B
    · subst hab
      have RD := Lib.hid (fun w => red_one A J N w hN.2 hJ)
      obtain ⟨p, q, okk, hK⟩ := rmK_form A A J N
      rw [hK] at RD ⊢
      have mi := mul_in hJ hN.2
      have WR : IntKind.i64.wrap ((J : Int) * ((N : Int) - J)) = (J : Int) * ((N : Int) - J) := IntWalk.i64_in _ (by omega)
      clear hk e1 hK PC mi
      go_enter Try.func16, Try.ntmps16
      go_wp2_with fail
      refine (G.out _).mono ?_
      rintro e w1 ⟨rfl, b1⟩
      have B2 := Lib.hid (b1.alloc b1.size (.cells #[.int .i64 A, .int .i64 A, .int .i64 N] 43))
      clear b1
      go_wp2_with fail
      refine (F.out _).mono ?_
      rintro e w2 ⟨rfl, rfl⟩
      go_wp2_with fail
      refine (RD.out _).mono ?_
      rintro e w4 ⟨rfl, b4⟩
      have B4 := Lib.hid (below_then B2.out b4)
      clear b4
      obtain ⟨⟨x0, y0⟩, x1, y1⟩ := res_cells B4.out
      go_wp2_with fail
      refine bodyPost_ret (v := .tuple #[.agg #[.int .i64 p, .int .i64 q], .bool okk]) (by simp [results, Try.results16, go_sem, x0, x1]) rfl ⟨rfl, ?_⟩
      exact res_fin B4.out
    · have RD := Lib.hid (fun w => red_rm A B J N w hab hA hB hN hJ)
      obtain ⟨p, q, okk, hK⟩ := rmK_form A B J N
      rw [hK] at RD ⊢
      have z : ((A : Int) == (B : Int)) = false := by simp; omega
      have t1 := ipT_bd (i := J) hA hB hN.2 hJ
      have t2 := ipB_bd hA.2 hB.2 hN.2
      have t3 := imT_bd (i := J) hA hB hN.2 hJ
      have t4 := imB_bd hA hB hN.2
      rw [show prX A B J N = ipT A B J N from if_neg hab, show prY A B N = ipB A B N from if_neg hab] at PC
      unfold imT imB at RD
      unfold imT at t3
      unfold imB at t4
      generalize ipT A B J N = X at *
      generalize ipB A B N = Y at *
      have W1 : IntKind.i64.wrap ((J : Int) * Y) = (J : Int) * Y := IntWalk.i64_in _ (by omega)
      have W2 : IntKind.i64.wrap ((N : Int) * X) = (N : Int) * X := IntWalk.i64_in _ (by omega)
      have W3 : IntKind.i64.wrap ((J : Int) * Y - (N : Int) * X) = (J : Int) * Y - (N : Int) * X := IntWalk.i64_in _ (by omega)
      have W4 : IntKind.i64.wrap (((A : Int) + B) * ((J : Int) * Y - (N : Int) * X)) = ((A : Int) + B) * ((J : Int) * Y - (N : Int) * X) := IntWalk.i64_in _ (by omega)
      have W5 : IntKind.i64.wrap (((B : Int) - A) * Y) = ((B : Int) - A) * Y := IntWalk.i64_in _ (by omega)
      clear hk e1 hK t1 t2 t3 t4 hab
      go_enter Try.func16, Try.ntmps16
      go_wp2_with fail
      refine (G.out _).mono ?_
      rintro e w1 ⟨rfl, b1⟩
      have B2 := Lib.hid (b1.alloc b1.size (.cells #[.int .i64 A, .int .i64 B, .int .i64 N] 43))
      clear b1
      go_wp2_with fail
      refine (F.out _).mono ?_
      rintro e w2 ⟨rfl, rfl⟩
      go_wp2_with fail
      refine (PC.out _).mono ?_
      rintro e w3 ⟨rfl, b3⟩
      have B3 := Lib.hid (below_then B2.out b3)
      clear b3
      go_wp2_with fail
      refine (RD.out _).mono ?_
      rintro e w4 ⟨rfl, b4⟩
      have B4 := Lib.hid (below_then B3.out b4)
      clear b4
      obtain ⟨⟨x0, y0⟩, x1, y1⟩ := res_cells B4.out
      go_wp2_with fail
      refine bodyPost_ret (v := .tuple #[.agg #[.int .i64 p, .int .i64 q], .bool okk]) (by simp [results, Try.results16, go_sem, x0, x1]) rfl ⟨rfl, ?_⟩
      exact res_fin B4.out

end Go.Proofs.Ytfpckfameebdnab
