/- The chance and the mean of ruin, in the program. -/
import Derived.Test.YtagoodkaobcjaabRuiP
import Derived.Test.YtagoodkaobcjaabPowI
import Derived.Test.YtagoodkaobcjaabFracB
namespace Go.Proofs.Ytagoodkaobcjaab
open Go.RowKit
set_option linter.unusedVariables false
theorem pow_le_of {a : Nat} (h : a ≤ 20) {k : Nat} (hk : k ≤ 12) : ∀ j, j ≤ k → a ^ j ≤ 4096000000000000 := fun j hj => pow_bd h (by omega)
def gamOk (a b n : Int) : Bool := decide ((1 ≤ a ∧ a ≤ 20) ∧ (1 ≤ b ∧ b ≤ 20) ∧ (1 ≤ n ∧ n ≤ 12))
def gamV (a b n : Int) : Value := if gamOk a b n = true then .tuple #[.agg #[.int .i64 a, .int .i64 b, .int .i64 n], .bool true] else .tuple #[.agg #[.int .i64 0, .int .i64 0, .int .i64 0], .bool false]
theorem gamOk_mk {a b n : Int} (h : gamOk a b n = true) : ∃ A B N : Nat, a = A ∧ b = B ∧ n = N ∧ (1 ≤ A ∧ A ≤ 20) ∧ (1 ≤ B ∧ B ≤ 20) ∧ 1 ≤ N ∧ N ≤ 12 := by
  unfold gamOk at h
  rw [decide_eq_true_iff] at h
  exact ⟨a.toNat, b.toNat, n.toNat, by omega, by omega, by omega, by omega, by omega, by omega⟩

set_option maxRecDepth 100000 in
set_option maxHeartbeats 2000000 in
theorem gamC (a b n : Int) (w : World) : Calls Try.prog 108 #[.int .i64 a, .int .i64 b, .int .i64 n] w (Gives (gamV a b n) w) := by
  have F := Lib.hid (fun w => fromI a 1 20 w)
  have G := Lib.hid (fun w => fromI b 1 20 w)
  have K := Lib.hid (fun w => fromI n 1 12 w)
  have FIN : Hid (∀ o, Below w.heap.size w (w.alloc o)) := Lib.hid (fun o => (Below.refl w.heap.size w).alloc (Nat.le_refl _) o)
  by_cases h1 : 1 ≤ a ∧ a ≤ 20
  · rw [decide_eq_true h1] at F
    by_cases h2 : 1 ≤ b ∧ b ≤ 20
    · rw [decide_eq_true h2] at G
      by_cases h3 : 1 ≤ n ∧ n ≤ 12
      · rw [decide_eq_true h3] at K
        rw [show gamV a b n = .tuple #[.agg #[.int .i64 a, .int .i64 b, .int .i64 n], .bool true] from if_pos (decide_eq_true ⟨h1, h2, h3⟩)]
        clear h1 h2 h3
        go_enter Try.func108, Try.ntmps108
        go_wp2_with fail
        refine (F.out _).mono ?_
        rintro e w1 ⟨rfl, rfl⟩
        go_wp2_with fail
        refine (G.out _).mono ?_
        rintro e w2 ⟨rfl, rfl⟩
        go_wp2_with fail
        refine (K.out _).mono ?_
        rintro e w3 ⟨rfl, rfl⟩
        go_wp2_with fail
        refine bodyPost_ret (v := .tuple #[.agg #[.int .i64 a, .int .i64 b, .int .i64 n], .bool true]) (by simp [results, Try.results108, go_sem, *]) rfl ⟨rfl, ?_⟩
        exact FIN.out _
      · rw [decide_eq_false h3] at K
        rw [show gamV a b n = .tuple #[.agg #[.int .i64 0, .int .i64 0, .int .i64 0], .bool false] from if_neg (by unfold gamOk; rw [decide_eq_false (fun h => h3 h.2.2)]; decide)]
        clear h1 h2 h3
        go_enter Try.func108, Try.ntmps108
        go_wp2_with fail
        refine (F.out _).mono ?_
        rintro e w1 ⟨rfl, rfl⟩
        go_wp2_with fail
        refine (G.out _).mono ?_
        rintro e w2 ⟨rfl, rfl⟩
        go_wp2_with fail
        refine (K.out _).mono ?_
        rintro e w3 ⟨rfl, rfl⟩
        go_wp2_with fail
        refine bodyPost_ret (v := .tuple #[.agg #[.int .i64 0, .int .i64 0, .int .i64 0], .bool false]) (by simp [results, Try.results108, go_sem, *]) rfl ⟨rfl, ?_⟩
        exact FIN.out _
    · rw [decide_eq_false h2] at G
      rw [show gamV a b n = .tuple #[.agg #[.int .i64 0, .int .i64 0, .int .i64 0], .bool false] from if_neg (by unfold gamOk; rw [decide_eq_false (fun h => h2 h.2.1)]; decide)]
      clear h1 h2
      go_enter Try.func108, Try.ntmps108
      go_wp2_with fail
      refine (F.out _).mono ?_
      rintro e w1 ⟨rfl, rfl⟩
      go_wp2_with fail
      refine (G.out _).mono ?_
      rintro e w2 ⟨rfl, rfl⟩
      go_wp2_with fail
      refine bodyPost_ret (v := .tuple #[.agg #[.int .i64 0, .int .i64 0, .int .i64 0], .bool false]) (by simp [results, Try.results108, go_sem, *]) rfl ⟨rfl, ?_⟩
      exact FIN.out _
  · rw [decide_eq_false h1] at F
    rw [show gamV a b n = .tuple #[.agg #[.int .i64 0, .int .i64 0, .int .i64 0], .bool false] from if_neg (by unfold gamOk; rw [decide_eq_false (fun h => h1 h.1)]; decide)]
    clear h1
    go_enter Try.func108, Try.ntmps108
    go_wp2_with fail
    refine (F.out _).mono ?_
    rintro e w1 ⟨rfl, rfl⟩
    go_wp2_with fail
    refine bodyPost_ret (v := .tuple #[.agg #[.int .i64 0, .int .i64 0, .int .i64 0], .bool false]) (by simp [results, Try.results108, go_sem, *]) rfl ⟨rfl, ?_⟩
    exact FIN.out _

def prX (a b i n : Nat) : Int := if a = b then i else ipT a b i n
def prY (a b n : Nat) : Int := if a = b then n else ipB a b n
def ruinOk (a b i n : Int) : Bool := gamOk a b n && decide (0 ≤ i ∧ i ≤ n)
def rcV (a b i n : Int) : Value := if ruinOk a b i n = true then keptV (rcN a.toNat b.toNat i.toNat n.toNat) (rcD a.toNat b.toNat i.toNat n.toNat) else zeroP
def rmK (a b i n : Nat) : Value := if a = b then keptV ((i : Int) * ((n : Int) - i)) 1 else keptV (cutN (rmN' a b i n) (rmD' a b i n)) (cutD (rmN' a b i n) (rmD' a b i n))
def rmV (a b i n : Int) : Value := if ruinOk a b i n = true then rmK a.toNat b.toNat i.toNat n.toNat else zeroP
theorem rmK_form (a b i n : Nat) : ∃ p q ok, rmK a b i n = .tuple #[.agg #[.int .i64 p, .int .i64 q], .bool ok] := by
  unfold rmK; split <;> exact keptV_form _ _
theorem rcV_form (a b i n : Int) : ∃ p q ok, rcV a b i n = .tuple #[.agg #[.int .i64 p, .int .i64 q], .bool ok] := by
  unfold rcV zeroP; split
  · exact keptV_form _ _
  · exact ⟨_, _, _, rfl⟩
theorem rmV_form (a b i n : Int) : ∃ p q ok, rmV a b i n = .tuple #[.agg #[.int .i64 p, .int .i64 q], .bool ok] := by
  unfold rmV zeroP; split
  · exact rmK_form _ _ _ _
  · exact ⟨_, _, _, rfl⟩
theorem red_rc (a b i n : Nat) (w : World) (ha : 1 ≤ a ∧ a ≤ 20) (hb : 1 ≤ b ∧ b ≤ 20) (hn : 1 ≤ n ∧ n ≤ 12) (hi : i ≤ n) : Calls Try.prog 81 #[.int .i64 (prX a b i n), .int .i64 (prY a b n)] w (Gives (keptV (rcN a b i n) (rcD a b i n)) w) := by
  have t1 := ipT_bd (i := i) ha hb hn.2 hi
  have t2 := ipB_bd ha.2 hb.2 hn.2
  by_cases hab : a = b
  · unfold prX prY rcN rcD
    rw [if_pos hab, if_pos hab, if_pos hab, if_pos hab]
    exact reduceI_pos _ _ w (by omega) (by omega)
  · unfold prX prY
    rw [if_neg hab, if_neg hab]
    by_cases h : b < a
    · obtain ⟨e1, e2, e3⟩ := rc_pos (i := i) h hb.1 hn.1
      rw [← e1, ← e2]
      exact reduceI_pos _ _ w (by omega) (by omega)
    · obtain ⟨e1, e2, e3⟩ := rc_neg (i := i) (show a < b by omega) ha.1 hn.1
      rw [← e1, ← e2]
      exact reduceI_neg _ _ w (by omega) (by omega)
theorem red_rm (a b i n : Nat) (w : World) (hab : a ≠ b) (ha : 1 ≤ a ∧ a ≤ 20) (hb : 1 ≤ b ∧ b ≤ 20) (hn : 1 ≤ n ∧ n ≤ 12) (hi : i ≤ n) : Calls Try.prog 81 #[.int .i64 (imT a b i n), .int .i64 (imB a b n)] w (Gives (rmK a b i n) w) := by
  have t1 := imT_bd (i := i) ha hb hn.2 hi
  have t2 := imB_bd ha hb hn.2
  obtain ⟨e1, e2, e3⟩ := rm_eq (i := i) hab ha.1 hb.1 hn.1
  unfold rmK
  rw [if_neg hab, ← e2, ← e3]
  exact reduceI_neg _ _ w (by omega) (by omega)
theorem mul_in {i n : Nat} (hi : i ≤ n) (hn : n ≤ 12) : 0 ≤ (i : Int) * ((n : Int) - i) ∧ (i : Int) * ((n : Int) - i) ≤ 144 := by
  rw [show (n : Int) - i = ((n - i : Nat) : Int) by omega, ← Int.natCast_mul]
  have : i * (n - i) ≤ 12 * 12 := Nat.mul_le_mul (by omega) (by omega)
  omega
theorem red_one (a i n : Nat) (w : World) (hn : n ≤ 12) (hi : i ≤ n) : Calls Try.prog 81 #[.int .i64 ((i : Int) * ((n : Int) - i)), .int .i64 1] w (Gives (rmK a a i n) w) := by
  have t1 := mul_in hi hn
  have g1 : gI ((i : Int) * ((n : Int) - i)) 1 = 1 := by unfold gI; rw [Int.gcd_one_right]; rfl
  obtain ⟨e1, e2⟩ := cut_self (a := (i : Int) * ((n : Int) - i)) (b := 1) (by omega) g1
  have h := reduceI_pos ((i : Int) * ((n : Int) - i)) 1 w (by omega) (by omega)
  rw [e1, e2] at h
  unfold rmK
  rw [if_pos rfl]
  exact h
theorem ruin_mk {a b i n : Int} (h : ruinOk a b i n = true) : ∃ A B I N : Nat, a = A ∧ b = B ∧ i = I ∧ n = N ∧ (1 ≤ A ∧ A ≤ 20) ∧ (1 ≤ B ∧ B ≤ 20) ∧ (1 ≤ N ∧ N ≤ 12) ∧ I ≤ N := by
  unfold ruinOk at h
  rw [Bool.and_eq_true, decide_eq_true_iff] at h
  obtain ⟨A, B, N, rfl, rfl, rfl, h1, h2, h3, h4⟩ := gamOk_mk h.1
  exact ⟨A, B, i.toNat, N, rfl, rfl, by omega, rfl, h1, h2, ⟨h3, h4⟩, by omega⟩
theorem res_cells {w w3 : World} (b : Below (w.alloc (.cells #[.int .i64 0, .int .i64 0] 35)).heap.size (w.alloc (.cells #[.int .i64 0, .int .i64 0] 35)) w3) : (w3.cell? ⟨w.heap.size, 0, none⟩ = some (.int .i64 0) ∧ w3.frozen? ⟨w.heap.size, 0, none⟩ = false) ∧ (w3.cell? ⟨w.heap.size, 1, none⟩ = some (.int .i64 0) ∧ w3.frozen? ⟨w.heap.size, 1, none⟩ = false) := by
  have k0 := (b.block w.heap.size (by simp)).trans (alloc_heap w (.cells #[.int .i64 0, .int .i64 0] 35))
  exact ⟨cell_of_heap (o := 0) k0 rfl, cell_of_heap (o := 1) k0 rfl⟩
theorem res_fin {w w3 : World} {x y : Value} (b : Below (w.alloc (.cells #[.int .i64 0, .int .i64 0] 35)).heap.size (w.alloc (.cells #[.int .i64 0, .int .i64 0] 35)) w3) : Below w.heap.size w ((w3.setCell ⟨w.heap.size, 0, none⟩ x).setCell ⟨w.heap.size, 1, none⟩ y) :=
  ((((Below.refl w.heap.size w).alloc (Nat.le_refl _) _).trans (b.mono (by simp))).setCell (p := ⟨w.heap.size, 0, none⟩) (Nat.le_refl _) _).setCell (p := ⟨w.heap.size, 1, none⟩) (Nat.le_refl _) _
theorem below_box {V w1 w2 : World} {o : Obj} (h : Below V.heap.size V w1) (b : Below (w1.alloc o).heap.size (w1.alloc o) w2) : Below V.heap.size V w2 :=
  (h.alloc h.size o).trans (b.mono (by have := h.size; simp; omega))
theorem below_then {V w1 w2 : World} (h : Below V.heap.size V w1) (b : Below w1.heap.size w1 w2) : Below V.heap.size V w2 := h.trans (b.mono h.size)

end Go.Proofs.Ytagoodkaobcjaab
