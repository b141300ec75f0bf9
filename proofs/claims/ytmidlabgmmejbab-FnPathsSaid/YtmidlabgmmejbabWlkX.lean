/- What the functions of walks and votes return, in the program and in the model. -/
import Derived.Test.YtmidlabgmmejbabWlkF
import Derived.Test.YtmidlabgmmejbabLawI
namespace Go.Proofs.Ytmidlabgmmejbab
open Go.RowKit
set_option linter.unusedVariables false
def okM (l m : Int) : Bool := decide (l ≤ m ∧ m ≤ 30)
def pcV (m x : Int) : Int := if okM 0 m = true then wkI m.toNat x else 0
def okA (m d : Int) : Bool := decide ((0 ≤ m ∧ m ≤ 30) ∧ (-30 ≤ d ∧ d ≤ 0))
def abV (m x d : Int) : Int := if okA m d = true then paI m.toNat x d else 0
def okF (m x : Int) : Bool := decide ((1 ≤ m ∧ m ≤ 30) ∧ ¬ x = 0)
def fpV (m x : Int) : Int := if okF m x = true then fpI m.toNat x else 0
def okV (p q : Int) : Bool := decide (0 ≤ p ∧ 0 ≤ q ∧ p + q ≤ 30)
def baV (p q : Int) : Int := if okV p q = true then balI p.toNat q.toNat else 0
def tiV (p q : Int) : Int := if okV p q = true then tieI p.toNat q.toNat else 0
def TI (r : Int) (ok : Bool) : Value := .tuple #[.int .i64 r, .bool ok]
theorem okV_mk {p q : Int} (h : okV p q = true) : ∃ P Q : Nat, p = P ∧ q = Q ∧ P + Q ≤ 30 := by
  unfold okV at h
  rw [decide_eq_true_iff] at h
  exact ⟨p.toNat, q.toNat, by omega, by omega, by omega⟩
set_option maxRecDepth 100000 in
set_option maxHeartbeats 1000000 in
theorem pcC (m x : Int) (w : World) : Calls Try.prog 30 #[.int .i64 m, .int .i64 x] w (QR (TI (pcV m x) (okM 0 m)) w) := by
  have F := Lib.hid (fun w => fromI m 0 30 w)
  by_cases h : 0 ≤ m ∧ m ≤ 30
  · have e1 : okM 0 m = true := decide_eq_true h
    have e2 : pcV m x = wkI m.toNat x := by unfold pcV; rw [if_pos e1]
    rw [e1, e2]
    rw [decide_eq_true h] at F
    obtain ⟨n, rfl⟩ : ∃ n : Nat, m = n := ⟨m.toNat, by omega⟩
    rw [Int.toNat_natCast]
    have C := Lib.hid (fun w => walkC n x w (by omega))
    clear e1 e2 h
    go_enter Try.func30, Try.ntmps30
    go_wp2_with fail
    refine (F.out _).mono ?_
    rintro e w1 ⟨rfl, rfl⟩
    go_wp2_with fail
    refine (C.out _).mono ?_
    rintro e w2 ⟨rfl, rfl⟩
    go_wp2_with fail
    go_ret2
    exact ⟨rfl, rfl⟩
  · have e1 : okM 0 m = false := decide_eq_false h
    have e2 : pcV m x = 0 := by unfold pcV; rw [if_neg (by rw [e1]; decide)]
    rw [e1, e2]
    rw [decide_eq_false h] at F
    clear e1 e2 h
    go_enter Try.func30, Try.ntmps30
    go_wp2_with fail
    refine (F.out _).mono ?_
    rintro e w1 ⟨rfl, rfl⟩
    go_wp2_with fail
    go_ret2
    exact ⟨rfl, rfl⟩
set_option maxRecDepth 100000 in
set_option maxHeartbeats 1000000 in
theorem pcS (m x : Int) (w : World) : Calls Try.prog 31 #[.int .i64 m, .int .i64 x] w (QR (TI (pcV m x) (okM 0 m)) w) := by
  have F := Lib.hid (fun w => inS m 0 30 w)
  by_cases h : 0 ≤ m ∧ m ≤ 30
  · have e1 : okM 0 m = true := decide_eq_true h
    have e2 : pcV m x = wkI m.toNat x := by unfold pcV; rw [if_pos e1]
    rw [e1, e2]
    rw [decide_eq_true h] at F
    obtain ⟨n, rfl⟩ : ∃ n : Nat, m = n := ⟨m.toNat, by omega⟩
    rw [Int.toNat_natCast]
    have C := Lib.hid (fun w => pathS n x w (by omega))
    clear e1 e2 h
    go_enter Try.func31, Try.ntmps31
    go_wp2_with fail
    refine (F.out _).mono ?_
    rintro e w1 ⟨rfl, rfl⟩
    go_wp2_with fail
    refine (C.out _).mono ?_
    rintro e w2 ⟨rfl, rfl⟩
    go_wp2_with fail
    go_ret2
    exact ⟨rfl, rfl⟩
  · have e1 : okM 0 m = false := decide_eq_false h
    have e2 : pcV m x = 0 := by unfold pcV; rw [if_neg (by rw [e1]; decide)]
    rw [e1, e2]
    rw [decide_eq_false h] at F
    clear e1 e2 h
    go_enter Try.func31, Try.ntmps31
    go_wp2_with fail
    refine (F.out _).mono ?_
    rintro e w1 ⟨rfl, rfl⟩
    go_wp2_with fail
    go_ret2
    exact ⟨rfl, rfl⟩
set_option maxRecDepth 100000 in
set_option maxHeartbeats 1000000 in
theorem abC (m x d : Int) (w : World) : Calls Try.prog 28 #[.int .i64 m, .int .i64 x, .int .i64 d] w (QR (TI (abV m x d) (okA m d)) w) := by
  have F := Lib.hid (fun w => fromI m 0 30 w)
  have G := Lib.hid (fun w => fromI d (-30) 0 w)
  by_cases h : 0 ≤ m ∧ m ≤ 30
  · by_cases h2 : -30 ≤ d ∧ d ≤ 0
    · have e1 : okA m d = true := decide_eq_true ⟨h, h2⟩
      have e2 : abV m x d = paI m.toNat x d := by unfold abV; rw [if_pos e1]
      rw [e1, e2]
      rw [decide_eq_true h] at F
      rw [decide_eq_true h2] at G
      obtain ⟨n, rfl⟩ : ∃ n : Nat, m = n := ⟨m.toNat, by omega⟩
      rw [Int.toNat_natCast]
      have hn : n ≤ 30 := by omega
      clear e1 e2 h
      have C := Lib.hid (fun w => aboveC n x d w hn h2)
      clear h2
      go_enter Try.func28, Try.ntmps28
      go_wp2_with fail
      refine (F.out _).mono ?_
      rintro e w1 ⟨rfl, rfl⟩
      go_wp2_with fail
      refine (G.out _).mono ?_
      rintro e w2 ⟨rfl, rfl⟩
      go_wp2_with fail
      refine (C.out _).mono ?_
      rintro e w3 ⟨rfl, rfl⟩
      go_wp2_with fail
      go_ret2
      exact ⟨rfl, rfl⟩
    · have e1 : okA m d = false := decide_eq_false (fun h' => h2 h'.2)
      have e2 : abV m x d = 0 := by unfold abV; rw [if_neg (by rw [e1]; decide)]
      rw [e1, e2]
      rw [decide_eq_true h] at F
      rw [decide_eq_false h2] at G
      clear e1 e2 h h2
      go_enter Try.func28, Try.ntmps28
      go_wp2_with fail
      refine (F.out _).mono ?_
      rintro e w1 ⟨rfl, rfl⟩
      go_wp2_with fail
      refine (G.out _).mono ?_
      rintro e w2 ⟨rfl, rfl⟩
      go_wp2_with fail
      go_ret2
      exact ⟨rfl, rfl⟩
  · have e1 : okA m d = false := decide_eq_false (fun h' => h h'.1)
    have e2 : abV m x d = 0 := by unfold abV; rw [if_neg (by rw [e1]; decide)]
    rw [e1, e2]
    rw [decide_eq_false h] at F
    clear e1 e2 h
    go_enter Try.func28, Try.ntmps28
    go_wp2_with fail
    refine (F.out _).mono ?_
    rintro e w1 ⟨rfl, rfl⟩
    go_wp2_with fail
    go_ret2
    exact ⟨rfl, rfl⟩
set_option maxRecDepth 100000 in
set_option maxHeartbeats 1000000 in
theorem abS (m x d : Int) (w : World) : Calls Try.prog 29 #[.int .i64 m, .int .i64 x, .int .i64 d] w (QR (TI (abV m x d) (okA m d)) w) := by
  have F := Lib.hid (fun w => inS m 0 30 w)
  have G := Lib.hid (fun w => inS d (-30) 0 w)
  by_cases h : 0 ≤ m ∧ m ≤ 30
  · by_cases h2 : -30 ≤ d ∧ d ≤ 0
    · have e1 : okA m d = true := decide_eq_true ⟨h, h2⟩
      have e2 : abV m x d = paI m.toNat x d := by unfold abV; rw [if_pos e1]
      rw [e1, e2]
      rw [decide_eq_true h] at F
      rw [decide_eq_true h2] at G
      obtain ⟨n, rfl⟩ : ∃ n : Nat, m = n := ⟨m.toNat, by omega⟩
      rw [Int.toNat_natCast]
      have hn : n ≤ 30 := by omega
      clear e1 e2 h
      have J := Lib.hid (fun w => inS x d n w)
      by_cases h1 : d ≤ x ∧ x ≤ n
      · rw [decide_eq_true h1] at J
        have R : paI n x d = wkI n x - wkI n (2 * (d - 1) - x) := by unfold paI; rw [if_pos h1]
        rw [R]
        obtain ⟨h1a, h1b⟩ := h1
        obtain ⟨d1, d2⟩ := h2
        have b1 := wkI_bd hn x
        have b2 := wkI_bd hn (2 * (d - 1) - x)
        have C1 := Lib.hid (fun w => pathS n x w hn)
        have C2 := Lib.hid (fun w => pathS n (2 * (d - 1) - x) w hn)
        obtain ⟨p, hp⟩ : ∃ p, p = wkI n x := ⟨_, rfl⟩
        obtain ⟨q, hq⟩ : ∃ q, q = wkI n (2 * (d - 1) - x) := ⟨_, rfl⟩
        rw [← hp] at C1 b1 ⊢
        rw [← hq] at C2 b2 ⊢
        clear hp hq R
        go_enter Try.func29, Try.ntmps29
        go_wp2_with fail
        refine (F.out _).mono ?_
        rintro e w1 ⟨rfl, rfl⟩
        go_wp2_with fail
        refine (G.out _).mono ?_
        rintro e w2 ⟨rfl, rfl⟩
        go_wp2_with fail
        refine (J.out _).mono ?_
        rintro e w3 ⟨rfl, rfl⟩
        go_wp2_with fail
        refine (C1.out _).mono ?_
        rintro e w4 ⟨rfl, rfl⟩
        go_wp2_with fail
        refine (C2.out _).mono ?_
        rintro e w5 ⟨rfl, rfl⟩
        go_wp2_with fail
        go_ret2
        exact ⟨rfl, rfl⟩
      · rw [decide_eq_false h1] at J
        have R : paI n x d = 0 := by unfold paI; rw [if_neg h1]
        rw [R]
        clear R h1
        go_enter Try.func29, Try.ntmps29
        go_wp2_with fail
        refine (F.out _).mono ?_
        rintro e w1 ⟨rfl, rfl⟩
        go_wp2_with fail
        refine (G.out _).mono ?_
        rintro e w2 ⟨rfl, rfl⟩
        go_wp2_with fail
        refine (J.out _).mono ?_
        rintro e w3 ⟨rfl, rfl⟩
        go_wp2_with fail
        go_ret2
        exact ⟨rfl, rfl⟩
    · have e1 : okA m d = false := decide_eq_false (fun h' => h2 h'.2)
      have e2 : abV m x d = 0 := by unfold abV; rw [if_neg (by rw [e1]; decide)]
      rw [e1, e2]
      rw [decide_eq_true h] at F
      rw [decide_eq_false h2] at G
      clear e1 e2 h h2
      go_enter Try.func29, Try.ntmps29
      go_wp2_with fail
      refine (F.out _).mono ?_
      rintro e w1 ⟨rfl, rfl⟩
      go_wp2_with fail
      refine (G.out _).mono ?_
      rintro e w2 ⟨rfl, rfl⟩
      go_wp2_with fail
      go_ret2
      exact ⟨rfl, rfl⟩
  · have e1 : okA m d = false := decide_eq_false (fun h' => h h'.1)
    have e2 : abV m x d = 0 := by unfold abV; rw [if_neg (by rw [e1]; decide)]
    rw [e1, e2]
    rw [decide_eq_false h] at F
    clear e1 e2 h
    go_enter Try.func29, Try.ntmps29
    go_wp2_with fail
    refine (F.out _).mono ?_
    rintro e w1 ⟨rfl, rfl⟩
    go_wp2_with fail
    go_ret2
    exact ⟨rfl, rfl⟩
theorem fp_in {n : Nat} (hn : n ≤ 30) (h1 : 1 ≤ n) {x : Int} (h : -(n : Int) ≤ x ∧ x ≤ n) : 0 ≤ wkI n x * max x (-x) ∧ wkI n x * max x (-x) ≤ 4653525600 ∧ Int.tdiv (wkI n x * max x (-x)) (n : Int) = fpI n x := by
  have b := wkI_bd hn x
  have h2 : 0 ≤ max x (-x) ∧ max x (-x) ≤ 30 := by omega
  unfold fpI
  rw [if_pos h]
  generalize wkI n x = a at *
  generalize max x (-x) = y at *
  have h3 : a * y ≤ 155117520 * 30 := Int.mul_le_mul b.2 h2.2 h2.1 (by omega)
  have h4 := Int.mul_nonneg b.1 h2.1
  exact ⟨h4, by omega, Int.tdiv_eq_ediv_of_nonneg h4⟩
theorem fp_bd {n : Nat} (hn : n ≤ 30) (h1 : 1 ≤ n) (x : Int) : 0 ≤ fpI n x ∧ fpI n x ≤ 4653525600 := by
  by_cases h : -(n : Int) ≤ x ∧ x ≤ n
  · obtain ⟨a, b, c⟩ := fp_in hn h1 h
    rw [← c]
    generalize wkI n x * max x (-x) = p at *
    rw [Int.tdiv_eq_ediv_of_nonneg a]
    exact ⟨Int.ediv_nonneg a (by omega), Int.le_trans (Int.ediv_le_self _ a) b⟩
  · unfold fpI; rw [if_neg h]; omega
set_option maxRecDepth 100000 in
set_option maxHeartbeats 1000000 in
theorem fpC (m x : Int) (w : World) (ix : InI64 x) : Calls Try.prog 34 #[.int .i64 m, .int .i64 x] w (QR (TI (fpV m x) (okF m x)) w) := by
  have F := Lib.hid (fun w => fromI m 1 30 w)
  obtain ⟨ix1, ix2⟩ := ix
  by_cases h : 1 ≤ m ∧ m ≤ 30
  · by_cases h2 : x = 0
    · have e1 : okF m x = false := decide_eq_false (fun h' => h'.2 h2)
      have e2 : fpV m x = 0 := by unfold fpV; rw [if_neg (by rw [e1]; decide)]
      rw [e1, e2]
      rw [decide_eq_true h] at F
      clear e1 e2 h
      go_enter Try.func34, Try.ntmps34
      go_wp2_with fail
      refine (F.out _).mono ?_
      rintro e w1 ⟨rfl, rfl⟩
      go_wp2_with fail
      go_ret2
      exact ⟨rfl, rfl⟩
    · have e1 : okF m x = true := decide_eq_true ⟨h, h2⟩
      have e2 : fpV m x = fpI m.toNat x := by unfold fpV; rw [if_pos e1]
      rw [e1, e2]
      rw [decide_eq_true h] at F
      obtain ⟨n, rfl⟩ : ∃ n : Nat, m = n := ⟨m.toNat, by omega⟩
      rw [Int.toNat_natCast]
      have hn : n ≤ 30 := by omega
      have hn1 : 1 ≤ n := by omega
      have C := Lib.hid (fun w => walkC n x w hn)
      clear e1 e2 h
      by_cases h1 : -(n : Int) ≤ x ∧ x ≤ n
      · obtain ⟨p1, p2, p3⟩ := fp_in hn hn1 h1
        obtain ⟨h1a, h1b⟩ := h1
        have fb := fp_bd hn hn1 x
        obtain ⟨a, ha⟩ : ∃ a, a = wkI n x := ⟨_, rfl⟩
        obtain ⟨r, hr⟩ : ∃ r, r = fpI n x := ⟨_, rfl⟩
        rw [← ha] at C p1 p2 p3
        rw [← hr] at p3 fb ⊢
        clear ha hr
        by_cases h0 : 0 ≤ x
        · rw [show max x (-x) = x by omega, Int.mul_comm] at p1 p2 p3
          have PW : IntKind.i64.wrap (x * a) = x * a := IntWalk.i64_in _ (by omega)
          have hle : -x ≤ x := by omega
          have hlt : ¬ x < -x := by omega
          go_enter Try.func34, Try.ntmps34
          go_wp2_with fail
          refine (F.out _).mono ?_
          rintro e w1 ⟨rfl, rfl⟩
          go_wp2_with fail
          refine (C.out _).mono ?_
          rintro e w2 ⟨rfl, rfl⟩
          go_wp2_with fail
          go_ret2
          exact ⟨rfl, rfl⟩
        · rw [show max x (-x) = -x by omega, Int.mul_comm] at p1 p2 p3
          have PW : IntKind.i64.wrap (-x * a) = -x * a := IntWalk.i64_in _ (by omega)
          have hle : ¬ -x ≤ x := by omega
          have hlt : x < -x := by omega
          go_enter Try.func34, Try.ntmps34
          go_wp2_with fail
          refine (F.out _).mono ?_
          rintro e w1 ⟨rfl, rfl⟩
          go_wp2_with fail
          refine (C.out _).mono ?_
          rintro e w2 ⟨rfl, rfl⟩
          go_wp2_with fail
          go_ret2
          exact ⟨rfl, rfl⟩
      · have e3 : wkI n x = 0 := by unfold wkI; rw [if_neg (fun h => h1 ⟨h.1, h.2.1⟩)]
        have e4 : fpI n x = 0 := by unfold fpI; rw [if_neg h1]
        rw [e3] at C
        rw [e4]
        clear e3 e4 h1
        go_enter Try.func34, Try.ntmps34
        go_wp2_with fail
        refine (F.out _).mono ?_
        rintro e w1 ⟨rfl, rfl⟩
        go_wp2_with fail
        all_goals
          refine (C.out _).mono ?_
          rintro e w2 ⟨rfl, rfl⟩
          go_wp2_with fail
          go_ret2
          exact ⟨rfl, rfl⟩
  · have e1 : okF m x = false := decide_eq_false (fun h' => h h'.1)
    have e2 : fpV m x = 0 := by unfold fpV; rw [if_neg (by rw [e1]; decide)]
    rw [e1, e2]
    rw [decide_eq_false h] at F
    clear e1 e2 h
    go_enter Try.func34, Try.ntmps34
    go_wp2_with fail
    refine (F.out _).mono ?_
    rintro e w1 ⟨rfl, rfl⟩
    go_wp2_with fail
    go_ret2
    exact ⟨rfl, rfl⟩
set_option maxRecDepth 100000 in
set_option maxHeartbeats 1000000 in
theorem fpS (m x : Int) (w : World) (ix : InI64 x) : Calls Try.prog 35 #[.int .i64 m, .int .i64 x] w (QR (TI (fpV m x) (okF m x)) w) := by
  have F := Lib.hid (fun w => inS m 1 30 w)
  obtain ⟨ix1, ix2⟩ := ix
  by_cases h : 1 ≤ m ∧ m ≤ 30
  · by_cases h2 : x = 0
    · have e1 : okF m x = false := decide_eq_false (fun h' => h'.2 h2)
      have e2 : fpV m x = 0 := by unfold fpV; rw [if_neg (by rw [e1]; decide)]
      rw [e1, e2]
      rw [decide_eq_true h] at F
      clear e1 e2 h
      go_enter Try.func35, Try.ntmps35
      go_wp2_with fail
      refine (F.out _).mono ?_
      rintro e w1 ⟨rfl, rfl⟩
      go_wp2_with fail
      go_ret2
      exact ⟨rfl, rfl⟩
    · have e1 : okF m x = true := decide_eq_true ⟨h, h2⟩
      have e2 : fpV m x = fpI m.toNat x := by unfold fpV; rw [if_pos e1]
      rw [e1, e2]
      rw [decide_eq_true h] at F
      obtain ⟨n, rfl⟩ : ∃ n : Nat, m = n := ⟨m.toNat, by omega⟩
      rw [Int.toNat_natCast]
      have hn : n ≤ 30 := by omega
      have hn1 : 1 ≤ n := by omega
      have C := Lib.hid (fun w => pathS n x w hn)
      have J := Lib.hid (fun w => inS x (-(n : Int)) n w)
      clear e1 e2 h
      by_cases h1 : -(n : Int) ≤ x ∧ x ≤ n
      · obtain ⟨p1, p2, p3⟩ := fp_in hn hn1 h1
        rw [decide_eq_true h1] at J
        obtain ⟨h1a, h1b⟩ := h1
        have fb := fp_bd hn hn1 x
        obtain ⟨a, ha⟩ : ∃ a, a = wkI n x := ⟨_, rfl⟩
        obtain ⟨r, hr⟩ : ∃ r, r = fpI n x := ⟨_, rfl⟩
        rw [← ha] at C p1 p2 p3
        rw [← hr] at p3 fb ⊢
        clear ha hr
        have X := Lib.hid (fun w => mostS x (-x) w)
        obtain ⟨y, hy⟩ : ∃ y, y = max x (-x) := ⟨_, rfl⟩
        rw [← hy] at X p1 p2 p3
        have PW : IntKind.i64.wrap (a * y) = a * y := IntWalk.i64_in _ (by omega)
        clear hy
        go_enter Try.func35, Try.ntmps35
        go_wp2_with fail
        refine (F.out _).mono ?_
        rintro e w1 ⟨rfl, rfl⟩
        go_wp2_with fail
        refine (J.out _).mono ?_
        rintro e w2 ⟨rfl, rfl⟩
        go_wp2_with fail
        refine (C.out _).mono ?_
        rintro e w3 ⟨rfl, rfl⟩
        go_wp2_with fail
        refine (X.out _).mono ?_
        rintro e w4 ⟨rfl, rfl⟩
        go_wp2_with fail
        go_ret2
        exact ⟨rfl, rfl⟩
      · have e3 : wkI n x = 0 := by unfold wkI; rw [if_neg (fun h => h1 ⟨h.1, h.2.1⟩)]
        have e4 : fpI n x = 0 := by unfold fpI; rw [if_neg h1]
        rw [decide_eq_false h1] at J
        rw [e3] at C
        rw [e4]
        clear e3 e4 h1
        go_enter Try.func35, Try.ntmps35
        go_wp2_with fail
        refine (F.out _).mono ?_
        rintro e w1 ⟨rfl, rfl⟩
        go_wp2_with fail
        refine (J.out _).mono ?_
        rintro e w2 ⟨rfl, rfl⟩
        go_wp2_with fail
        go_ret2
        exact ⟨rfl, rfl⟩
  · have e1 : okF m x = false := decide_eq_false (fun h' => h h'.1)
    have e2 : fpV m x = 0 := by unfold fpV; rw [if_neg (by rw [e1]; decide)]
    rw [e1, e2]
    rw [decide_eq_false h] at F
    clear e1 e2 h
    go_enter Try.func35, Try.ntmps35
    go_wp2_with fail
    refine (F.out _).mono ?_
    rintro e w1 ⟨rfl, rfl⟩
    go_wp2_with fail
    go_ret2
    exact ⟨rfl, rfl⟩
set_option maxRecDepth 100000 in
set_option maxHeartbeats 1000000 in
theorem cntC (p q : Int) (w : World) (ip : InI64 p) (iq : InI64 q) : Calls Try.prog 86 #[.int .i64 p, .int .i64 q] w (QR (.bool (okV p q)) w) := by
  obtain ⟨p1, p2⟩ := ip
  obtain ⟨q1, q2⟩ := iq
  by_cases h1 : 0 ≤ p
  · by_cases h2 : 0 ≤ q
    · by_cases h3 : q ≤ 30 - p
      · rw [show okV p q = true from decide_eq_true ⟨h1, h2, by omega⟩]
        go_enter Try.func86, Try.ntmps86
        go_wp2_with fail
        go_ret
        exact ⟨rfl, rfl⟩
      · rw [show okV p q = false from decide_eq_false (fun h => h3 (by omega))]
        go_enter Try.func86, Try.ntmps86
        go_wp2_with fail
        go_ret
        exact ⟨rfl, rfl⟩
    · rw [show okV p q = false from decide_eq_false (fun h => h2 h.2.1)]
      go_enter Try.func86, Try.ntmps86
      go_wp2_with fail
      go_ret
      exact ⟨rfl, rfl⟩
  · rw [show okV p q = false from decide_eq_false (fun h => h1 h.1)]
    go_enter Try.func86, Try.ntmps86
    go_wp2_with fail
    go_ret
    exact ⟨rfl, rfl⟩
set_option maxRecDepth 100000 in
set_option maxHeartbeats 1000000 in
theorem votesS (p q : Int) (w : World) : Calls Try.prog 87 #[.int .i64 p, .int .i64 q] w (QR (.bool (okV p q)) w) := by
  have F := Lib.hid (fun w => inS p 0 30 w)
  have G := Lib.hid (fun w => inS q 0 30 w)
  by_cases h1 : 0 ≤ p ∧ p ≤ 30
  · rw [decide_eq_true h1] at F
    by_cases h2 : 0 ≤ q ∧ q ≤ 30
    · rw [decide_eq_true h2] at G
      obtain ⟨a1, a2⟩ := h1
      obtain ⟨b1, b2⟩ := h2
      by_cases h3 : p + q ≤ 30
      · rw [show okV p q = true from decide_eq_true ⟨a1, b1, h3⟩]
        go_enter Try.func87, Try.ntmps87
        go_wp2_with fail
        refine (F.out _).mono ?_
        rintro e w1 ⟨rfl, rfl⟩
        go_wp2_with fail
        refine (G.out _).mono ?_
        rintro e w2 ⟨rfl, rfl⟩
        go_wp2_with fail
        go_ret
        exact ⟨rfl, rfl⟩
      · rw [show okV p q = false from decide_eq_false (fun h => h3 h.2.2)]
        go_enter Try.func87, Try.ntmps87
        go_wp2_with fail
        refine (F.out _).mono ?_
        rintro e w1 ⟨rfl, rfl⟩
        go_wp2_with fail
        refine (G.out _).mono ?_
        rintro e w2 ⟨rfl, rfl⟩
        go_wp2_with fail
        go_ret
        exact ⟨by first | rfl | (show Ending.returned (.bool (decide (p + q ≤ 30))) = _; rw [decide_eq_false (by omega)]), rfl⟩
    · rw [decide_eq_false h2] at G
      rw [show okV p q = false from decide_eq_false (fun h => h2 (by omega))]
      clear h1 h2
      go_enter Try.func87, Try.ntmps87
      go_wp2_with fail
      refine (F.out _).mono ?_
      rintro e w1 ⟨rfl, rfl⟩
      go_wp2_with fail
      refine (G.out _).mono ?_
      rintro e w2 ⟨rfl, rfl⟩
      go_wp2_with fail
      go_ret
      exact ⟨rfl, rfl⟩
  · rw [decide_eq_false h1] at F
    rw [show okV p q = false from decide_eq_false (fun h => h1 (by omega))]
    clear h1
    go_enter Try.func87, Try.ntmps87
    go_wp2_with fail
    refine (F.out _).mono ?_
    rintro e w1 ⟨rfl, rfl⟩
    go_wp2_with fail
    go_ret
    exact ⟨rfl, rfl⟩
theorem bal_mod {P Q : Nat} (h : P + Q ≤ 30) (h0 : 0 < P + Q) : 0 ≤ max 0 ((P : Int) - Q) * (chN (P + Q) P : Int) ∧ max 0 ((P : Int) - Q) * (chN (P + Q) P : Int) ≤ 4653525600 ∧ Int.tdiv (max 0 ((P : Int) - Q) * (chN (P + Q) P : Int)) ((P : Int) + Q) = balI P Q := by
  have b := chN_bd (P + Q) (by omega) P (by omega)
  have h2 : 0 ≤ max 0 ((P : Int) - Q) ∧ max 0 ((P : Int) - Q) ≤ 30 := by omega
  have e := bal_eq P (by omega) Q (by omega) (by omega) h0
  have e2 : balI P Q = paI (P + Q - 1) ((P : Int) - 1 - Q) 0 := by unfold balI; rw [if_neg (by omega)]
  rw [e2, e]
  generalize max 0 ((P : Int) - Q) = y at *
  have h4 := Int.mul_nonneg h2.1 (show (0 : Int) ≤ (chN (P + Q) P : Int) by omega)
  have h3 : y * (chN (P + Q) P : Int) ≤ 30 * 155117520 := Int.mul_le_mul h2.2 (by omega) (by omega) (by omega)
  exact ⟨h4, by omega, Int.tdiv_eq_ediv_of_nonneg h4⟩
theorem tie_mod {P Q : Nat} (h : P + Q ≤ 30) : 0 ≤ max 0 ((P : Int) + 1 - Q) * (chN (P + Q) P : Int) ∧ max 0 ((P : Int) + 1 - Q) * (chN (P + Q) P : Int) ≤ 4808643120 ∧ Int.tdiv (max 0 ((P : Int) + 1 - Q) * (chN (P + Q) P : Int)) ((P : Int) + 1) = tieI P Q := by
  have b := chN_bd (P + Q) (by omega) P (by omega)
  have h2 : 0 ≤ max 0 ((P : Int) + 1 - Q) ∧ max 0 ((P : Int) + 1 - Q) ≤ 31 := by omega
  have e := tie_eq P (by omega) Q (by omega) (by omega)
  unfold tieI
  rw [e]
  generalize max 0 ((P : Int) + 1 - Q) = y at *
  have h4 := Int.mul_nonneg h2.1 (show (0 : Int) ≤ (chN (P + Q) P : Int) by omega)
  have h3 : y * (chN (P + Q) P : Int) ≤ 31 * 155117520 := Int.mul_le_mul h2.2 (by omega) (by omega) (by omega)
  exact ⟨h4, by omega, Int.tdiv_eq_ediv_of_nonneg h4⟩
theorem bal_bd {P Q : Nat} (h : P + Q ≤ 30) : -155117520 ≤ balI P Q ∧ balI P Q ≤ 155117520 := by
  unfold balI
  split
  · omega
  · exact paI_bd (by omega) _ _
theorem tie_bd {P Q : Nat} (h : P + Q ≤ 30) : -155117520 ≤ tieI P Q ∧ tieI P Q ≤ 155117520 := paI_bd (by omega) _ _
set_option maxRecDepth 100000 in
set_option maxHeartbeats 1000000 in
theorem baC (p q : Int) (w : World) (ip : InI64 p) (iq : InI64 q) : Calls Try.prog 37 #[.int .i64 p, .int .i64 q] w (QR (TI (baV p q) (okV p q)) w) := by
  have F := Lib.hid (fun w => cntC p q w ip iq)
  cases hk : okV p q
  · have e2 : baV p q = 0 := by unfold baV; rw [if_neg (by rw [hk]; decide)]
    rw [e2]
    rw [hk] at F
    clear e2 hk
    go_enter Try.func37, Try.ntmps37
    go_wp2_with fail
    refine (F.out _).mono ?_
    rintro e w1 ⟨rfl, rfl⟩
    go_wp2_with fail
    go_ret2
    exact ⟨rfl, rfl⟩
  · have e2 : baV p q = balI p.toNat q.toNat := by unfold baV; rw [if_pos hk]
    rw [e2]
    rw [hk] at F
    obtain ⟨P, Q, rfl, rfl, hPQ⟩ := okV_mk hk
    rw [Int.toNat_natCast, Int.toNat_natCast]
    clear e2 hk ip iq
    by_cases h0 : P + Q = 0
    · have e3 : balI P Q = 1 := by unfold balI; rw [if_pos h0]
      rw [e3]
      have z : (P : Int) + Q = 0 := by omega
      clear e3
      go_enter Try.func37, Try.ntmps37
      go_wp2_with fail
      refine (F.out _).mono ?_
      rintro e w1 ⟨rfl, rfl⟩
      go_wp2_with fail
      go_ret2
      exact ⟨rfl, rfl⟩
    · have z : ¬ (P : Int) + Q = 0 := by omega
      have e3 : balI P Q = paI (P + Q - 1) ((P : Int) - 1 - Q) 0 := by unfold balI; rw [if_neg h0]
      rw [e3]
      have C := Lib.hid (fun w => aboveC (P + Q - 1) ((P : Int) - 1 - Q) 0 w (by omega) (by omega))
      rw [show ((P + Q - 1 : Nat) : Int) = (P : Int) + Q - 1 by omega] at C
      obtain ⟨r, hr⟩ : ∃ r, r = paI (P + Q - 1) ((P : Int) - 1 - Q) 0 := ⟨_, rfl⟩
      rw [← hr] at C ⊢
      clear hr e3
      go_enter Try.func37, Try.ntmps37
      go_wp2_with fail
      refine (F.out _).mono ?_
      rintro e w1 ⟨rfl, rfl⟩
      go_wp2_with fail
      refine (C.out _).mono ?_
      rintro e w2 ⟨rfl, rfl⟩
      go_wp2_with fail
      go_ret2
      exact ⟨rfl, rfl⟩
set_option maxRecDepth 100000 in
set_option maxHeartbeats 1000000 in
theorem baS (p q : Int) (w : World) (ip : InI64 p) (iq : InI64 q) : Calls Try.prog 38 #[.int .i64 p, .int .i64 q] w (QR (TI (baV p q) (okV p q)) w) := by
  have F := Lib.hid (fun w => votesS p q w)
  cases hk : okV p q
  · have e2 : baV p q = 0 := by unfold baV; rw [if_neg (by rw [hk]; decide)]
    rw [e2]
    rw [hk] at F
    clear e2 hk
    go_enter Try.func38, Try.ntmps38
    go_wp2_with fail
    refine (F.out _).mono ?_
    rintro e w1 ⟨rfl, rfl⟩
    go_wp2_with fail
    go_ret2
    exact ⟨rfl, rfl⟩
  · have e2 : baV p q = balI p.toNat q.toNat := by unfold baV; rw [if_pos hk]
    rw [e2]
    rw [hk] at F
    obtain ⟨P, Q, rfl, rfl, hPQ⟩ := okV_mk hk
    rw [Int.toNat_natCast, Int.toNat_natCast]
    clear e2 hk ip iq
    by_cases h0 : P + Q = 0
    · have e3 : balI P Q = 1 := by unfold balI; rw [if_pos h0]
      rw [e3]
      have z : (P : Int) + Q = 0 := by omega
      clear e3
      go_enter Try.func38, Try.ntmps38
      go_wp2_with fail
      refine (F.out _).mono ?_
      rintro e w1 ⟨rfl, rfl⟩
      go_wp2_with fail
      go_ret2
      exact ⟨rfl, rfl⟩
    · have z : ¬ (P : Int) + Q = 0 := by omega
      obtain ⟨p1, p2, p3⟩ := bal_mod hPQ (by omega)
      have X := Lib.hid (fun w => mostS 0 ((P : Int) - Q) w)
      have C := Lib.hid (fun w => chooseS (P + Q) P w hPQ (by omega))
      rw [show ((P + Q : Nat) : Int) = (P : Int) + Q by omega] at C
      have rb := bal_bd hPQ
      obtain ⟨r, hr⟩ : ∃ r, r = balI P Q := ⟨_, rfl⟩
      rw [← hr] at p3 rb ⊢
      obtain ⟨y, hy⟩ : ∃ y, y = max 0 ((P : Int) - Q) := ⟨_, rfl⟩
      rw [← hy] at X p1 p2 p3
      obtain ⟨c, hc⟩ : ∃ c : Int, c = (chN (P + Q) P : Int) := ⟨_, rfl⟩
      rw [← hc] at C p1 p2 p3
      have PW : IntKind.i64.wrap (y * c) = y * c := IntWalk.i64_in _ (by omega)
      clear hr hy hc
      go_enter Try.func38, Try.ntmps38
      go_wp2_with fail
      refine (F.out _).mono ?_
      rintro e w1 ⟨rfl, rfl⟩
      go_wp2_with fail
      refine (X.out _).mono ?_
      rintro e w2 ⟨rfl, rfl⟩
      go_wp2_with fail
      refine (C.out _).mono ?_
      rintro e w3 ⟨rfl, rfl⟩
      go_wp2_with fail
      go_ret2
      exact ⟨rfl, rfl⟩
set_option maxRecDepth 100000 in
set_option maxHeartbeats 1000000 in
theorem tiC (p q : Int) (w : World) (ip : InI64 p) (iq : InI64 q) : Calls Try.prog 39 #[.int .i64 p, .int .i64 q] w (QR (TI (tiV p q) (okV p q)) w) := by
  have F := Lib.hid (fun w => cntC p q w ip iq)
  cases hk : okV p q
  · have e2 : tiV p q = 0 := by unfold tiV; rw [if_neg (by rw [hk]; decide)]
    rw [e2]
    rw [hk] at F
    clear e2 hk
    go_enter Try.func39, Try.ntmps39
    go_wp2_with fail
    refine (F.out _).mono ?_
    rintro e w1 ⟨rfl, rfl⟩
    go_wp2_with fail
    go_ret2
    exact ⟨rfl, rfl⟩
  · have e2 : tiV p q = tieI p.toNat q.toNat := by unfold tiV; rw [if_pos hk]
    rw [e2]
    rw [hk] at F
    obtain ⟨P, Q, rfl, rfl, hPQ⟩ := okV_mk hk
    rw [Int.toNat_natCast, Int.toNat_natCast]
    clear e2 hk ip iq
    have C := Lib.hid (fun w => aboveC (P + Q) ((P : Int) - Q) 0 w (by omega) (by omega))
    rw [show ((P + Q : Nat) : Int) = (P : Int) + Q by omega] at C
    obtain ⟨r, hr⟩ : ∃ r, r = tieI P Q := ⟨_, rfl⟩
    change Hid (∀ w, Calls _ _ _ w (QR (.int .i64 (tieI P Q)) w)) at C
    rw [← hr] at C ⊢
    clear hr
    go_enter Try.func39, Try.ntmps39
    go_wp2_with fail
    refine (F.out _).mono ?_
    rintro e w1 ⟨rfl, rfl⟩
    go_wp2_with fail
    refine (C.out _).mono ?_
    rintro e w2 ⟨rfl, rfl⟩
    go_wp2_with fail
    go_ret2
    exact ⟨rfl, rfl⟩
set_option maxRecDepth 100000 in
set_option maxHeartbeats 1000000 in
theorem tiS (p q : Int) (w : World) (ip : InI64 p) (iq : InI64 q) : Calls Try.prog 40 #[.int .i64 p, .int .i64 q] w (QR (TI (tiV p q) (okV p q)) w) := by
  have F := Lib.hid (fun w => votesS p q w)
  cases hk : okV p q
  · have e2 : tiV p q = 0 := by unfold tiV; rw [if_neg (by rw [hk]; decide)]
    rw [e2]
    rw [hk] at F
    clear e2 hk
    go_enter Try.func40, Try.ntmps40
    go_wp2_with fail
    refine (F.out _).mono ?_
    rintro e w1 ⟨rfl, rfl⟩
    go_wp2_with fail
    go_ret2
    exact ⟨rfl, rfl⟩
  · have e2 : tiV p q = tieI p.toNat q.toNat := by unfold tiV; rw [if_pos hk]
    rw [e2]
    rw [hk] at F
    obtain ⟨P, Q, rfl, rfl, hPQ⟩ := okV_mk hk
    rw [Int.toNat_natCast, Int.toNat_natCast]
    clear e2 hk ip iq
    obtain ⟨p1, p2, p3⟩ := tie_mod hPQ
    have X := Lib.hid (fun w => mostS 0 ((P : Int) + 1 - Q) w)
    have C := Lib.hid (fun w => chooseS (P + Q) P w hPQ (by omega))
    rw [show ((P + Q : Nat) : Int) = (P : Int) + Q by omega] at C
    have rb := tie_bd hPQ
    obtain ⟨r, hr⟩ : ∃ r, r = tieI P Q := ⟨_, rfl⟩
    rw [← hr] at p3 rb ⊢
    obtain ⟨y, hy⟩ : ∃ y, y = max 0 ((P : Int) + 1 - Q) := ⟨_, rfl⟩
    rw [← hy] at X p1 p2 p3
    obtain ⟨c, hc⟩ : ∃ c : Int, c = (chN (P + Q) P : Int) := ⟨_, rfl⟩
    rw [← hc] at C p1 p2 p3
    have PW : IntKind.i64.wrap (y * c) = y * c := IntWalk.i64_in _ (by omega)
    clear hr hy hc
    go_enter Try.func40, Try.ntmps40
    go_wp2_with fail
    refine (F.out _).mono ?_
    rintro e w1 ⟨rfl, rfl⟩
    go_wp2_with fail
    refine (X.out _).mono ?_
    rintro e w2 ⟨rfl, rfl⟩
    go_wp2_with fail
    refine (C.out _).mono ?_
    rintro e w3 ⟨rfl, rfl⟩
    go_wp2_with fail
    go_ret2
    exact ⟨rfl, rfl⟩
end Go.Proofs.Ytmidlabgmmejbab
