/- Fractions in the program: the model's comparison, and what two numbers make. -/
import Derived.Test.YtonlibncccljgaaFracK
import Derived.Test.YtonlibncccljgaaFracC
import Derived.Test.YtonlibncccljgaaFracO
import Derived.WalkKit
import Derived.ProofKit
import Derived.Outline
import Derived.Below
import Derived.Lib.Hide
import Derived.WalkSmall
import Derived.WalkSpells
import Derived.WalkLawsBesides
import Derived.IntWalk
namespace Go.Proofs.Ytonlibncccljgaa
open Go.RowKit
set_option linter.unusedVariables false
set_option maxHeartbeats 1000000 in
theorem lessS (n d m e : Int) (w : World) (hn : -1000000000 ≤ n ∧ n ≤ 1000000000) (hd : 1 ≤ d ∧ d ≤ 1000000) (hm : -1000000000 ≤ m ∧ m ≤ 1000000000) (he : 1 ≤ e ∧ e ≤ 1000000) :
    Calls Try.prog 107 #[.agg #[.int .i64 n, .int .i64 d], .agg #[.int .i64 m, .int .i64 e]] w (Gives (.bool (decide (n * e < m * d))) w) := by
  have q1 := mul_bd (x := n) (y := e) 1000000000 1000000 (by omega) (by omega)
  have q2 := mul_bd (x := m) (y := d) 1000000000 1000000 (by omega) (by omega)
  obtain ⟨q1a, q1b⟩ : -1000000000000000 ≤ n * e ∧ n * e ≤ 1000000000000000 := by omega
  obtain ⟨q2a, q2b⟩ : -1000000000000000 ≤ m * d ∧ m * d ≤ 1000000000000000 := by omega
  clear q1 q2 hn hd hm he
  have B := blocks2_below w n d m e
  go_enter Try.func107, Try.ntmps107
  go_wp2_with fail
  go_ret
  exact ⟨rfl, B⟩
set_option maxHeartbeats 1000000 in
theorem cmpM_no1 (n d m e : Int) (w : World) (h : isFr n d = false) :
    Calls Try.prog 49 #[.agg #[.int .i64 n, .int .i64 d], .agg #[.int .i64 m, .int .i64 e]] w (Gives zeroC w) := by
  have C := Lib.hid (fun w => fracS n d w)
  rw [h] at C
  clear h
  have B := blocks2_below w n d m e
  go_enter Try.func49, Try.ntmps49
  go_wp2_with fail
  refine (C.out (Blocks2 w n d m e)).mono ?_
  rintro e w1 ⟨rfl, b1⟩
  obtain ⟨_, _, _, _⟩ := cells2 b1
  have BB := Lib.hid (B.trans (b1.mono B.size))
  clear b1 B
  go_wp2_with fail
  go_ret2
  exact ⟨rfl, BB.out⟩
set_option maxHeartbeats 1000000 in
theorem cmpM_no2 (n d m e : Int) (w : World) (h1 : isFr n d = true) (h : isFr m e = false) :
    Calls Try.prog 49 #[.agg #[.int .i64 n, .int .i64 d], .agg #[.int .i64 m, .int .i64 e]] w (Gives zeroC w) := by
  have C1 := Lib.hid (fun w => fracS n d w)
  have C2 := Lib.hid (fun w => fracS m e w)
  rw [h1] at C1
  rw [h] at C2
  clear h h1
  have B := blocks2_below w n d m e
  go_enter Try.func49, Try.ntmps49
  go_wp2_with fail
  refine (C1.out (Blocks2 w n d m e)).mono ?_
  rintro e w1 ⟨rfl, b1⟩
  have Z := Lib.hid (cells2 b1)
  obtain ⟨_, _, z0, z1⟩ := cells2 b1
  have B1 := Lib.hid b1
  clear b1
  go_wp2_with fail
  refine (C2.out w1).mono ?_
  rintro e w2 ⟨rfl, b2⟩
  have b3 := B1.out.trans (b2.mono B1.out.size)
  clear z0 z1
  obtain ⟨_, _, _, _⟩ := cells2 b3
  have BB := Lib.hid (B.trans (b3.mono B.size))
  clear b2 b3 B
  go_wp2_with fail
  go_ret2
  exact ⟨rfl, BB.out⟩
set_option maxHeartbeats 1000000 in
theorem cmpM_yes (n d m e : Int) (w : World) (h1 : isFr n d = true) (h2 : isFr m e = true) :
    Calls Try.prog 49 #[.agg #[.int .i64 n, .int .i64 d], .agg #[.int .i64 m, .int .i64 e]] w (Gives (.tuple #[.int .i64 (ordI (n * e) (m * d)), .bool true]) w) := by
  have C1 := Lib.hid (fun w => fracS n d w)
  have C2 := Lib.hid (fun w => fracS m e w)
  rw [h1] at C1
  rw [h2] at C2
  obtain ⟨⟨n1, n2, d1, d2⟩, g1⟩ := (isFr_iff n d).1 h1
  obtain ⟨⟨m1, m2, e1, e2⟩, g2⟩ := (isFr_iff m e).1 h2
  have L1 := Lib.hid (fun w => lessS n d m e w (by omega) (by omega) (by omega) (by omega))
  have L2 := Lib.hid (fun w => lessS m e n d w (by omega) (by omega) (by omega) (by omega))
  clear h1 h2 g1 g2
  have B := blocks2_below w n d m e
  have FIN : Hid (∀ (b : Bool) (o : Int) w1, o = ordI (n * e) (m * d) → Below (Blocks2 w n d m e).heap.size (Blocks2 w n d m e) w1 → Gives (.tuple #[.int .i64 (ordI (n * e) (m * d)), .bool true]) w (.returned (.tuple #[.int .i64 o, .bool true])) w1) := Lib.hid (fun b o w1 ho hb => ⟨by rw [ho], B.trans (hb.mono B.size)⟩)
  have O1 : Hid (n * e < m * d → ordI (n * e) (m * d) = -1) := Lib.hid (fun h => by unfold ordI; rw [if_pos h])
  have O2 : Hid (¬ n * e < m * d → m * d < n * e → ordI (n * e) (m * d) = 1) := Lib.hid (fun h h' => by unfold ordI; rw [if_neg h, if_pos h'])
  have O3 : Hid (¬ n * e < m * d → ¬ m * d < n * e → ordI (n * e) (m * d) = 0) := Lib.hid (fun h h' => by unfold ordI; rw [if_neg h, if_neg h'])
  generalize n * e = x at *
  generalize m * d = y at *
  go_enter Try.func49, Try.ntmps49
  go_wp2_with fail
  refine (C1.out (Blocks2 w n d m e)).mono ?_
  rintro e w1 ⟨rfl, b1⟩
  obtain ⟨_, _, z0, z1⟩ := cells2 b1
  have B1 := Lib.hid b1
  clear b1
  go_wp2_with fail
  refine (C2.out w1).mono ?_
  rintro e w2 ⟨rfl, b2⟩
  have b3 := B1.out.trans (b2.mono B1.out.size)
  clear z0 z1
  obtain ⟨a0, a1, z0, z1⟩ := cells2 b3
  have B3 := Lib.hid b3
  clear b2 b3
  go_wp2_with fail
  refine (L1.out w2).mono ?_
  rintro e w3 ⟨rfl, b4⟩
  have b5 := B3.out.trans (b4.mono B3.out.size)
  clear a0 a1 z0 z1
  obtain ⟨a0, a1, z0, z1⟩ := cells2 b5
  have B5 := Lib.hid b5
  clear b4 b5
  by_cases hxy : x < y
  · have E := Lib.hid (O1.out hxy)
    have t1 : decide (x < y) = true := decide_eq_true hxy
    clear O1 O2 O3
    go_wp2_with fail
    go_ret2
    exact FIN.out true _ _ E.out.symm B5.out
  · have t1 : decide (x < y) = false := decide_eq_false hxy
    go_wp2_with fail
    refine (L2.out w3).mono ?_
    rintro e w4 ⟨rfl, b4⟩
    have B6 := Lib.hid (B5.out.trans (b4.mono B5.out.size))
    clear b4
    by_cases hyx : y < x
    · have E := Lib.hid (O2.out (by omega) (by omega))
      have t2 : decide (y < x) = true := decide_eq_true hyx
      clear O1 O2 O3
      go_wp2_with fail
      go_ret2
      exact FIN.out true _ _ E.out.symm B6.out
    · have E := Lib.hid (O3.out (by omega) (by omega))
      have t2 : decide (y < x) = false := decide_eq_false hyx
      clear O1 O2 O3
      go_wp2_with fail
      go_ret2
      exact FIN.out true _ _ E.out.symm B6.out
theorem cmpM (n d m e : Int) (w : World) :
    Calls Try.prog 49 #[.agg #[.int .i64 n, .int .i64 d], .agg #[.int .i64 m, .int .i64 e]] w (Gives (cmpV n d m e) w) := by
  unfold cmpV
  cases h1 : isFr n d
  · rw [if_neg (by simp)]; exact cmpM_no1 n d m e w h1
  · cases h2 : isFr m e
    · rw [if_neg (by simp)]; exact cmpM_no2 n d m e w h1 h2
    · rw [if_pos ⟨rfl, rfl⟩]; exact cmpM_yes n d m e w h1 h2
theorem isFracM (n d : Int) (w : World) :
    Calls Try.prog 55 #[.agg #[.int .i64 n, .int .i64 d]] w (Gives (.bool (isFr n d)) w) := by
  have C := Lib.hid (fun w => fracS n d w)
  generalize isFr n d = b at *
  have B1 := (Below.refl w.heap.size w).alloc (Nat.le_refl _) (.cells #[.int .i64 n, .int .i64 d] 55)
  go_enter Try.func55, Try.ntmps55
  go_wp2_with fail
  refine (C.out _).mono ?_
  rintro e w1 ⟨rfl, b1⟩
  go_wp2_with fail
  go_ret
  exact ⟨rfl, B1.trans (b1.mono B1.size)⟩
set_option maxHeartbeats 1000000 in
theorem fracOfM_no (a b : Int) (w : World) (h : ¬ okArgs a b) :
    Calls Try.prog 52 #[.int .i64 a, .int .i64 b] w (Gives zeroP w) := by
  have FIN : Hid (∀ x y : Value, Gives zeroP w (.returned (.tuple #[.agg #[.int .i64 0, .int .i64 0], .bool false])) (w.alloc (.cells #[x, y] 55))) := Lib.hid (fun x y => ⟨rfl, (Below.refl w.heap.size w).alloc (Nat.le_refl _) _⟩)
  by_cases h0 : b = 0
  · clear h
    go_enter Try.func52, Try.ntmps52
    go_wp2_with fail
    refine bodyPost_ret (v := .tuple #[.agg #[.int .i64 0, .int .i64 0], .bool false]) (by simp [results, Try.results52, go_sem]) rfl ?_
    exact FIN.out _ _
  · have g0 : (b == 0) = false := by simpa using h0
    by_cases h1 : -1000000000 ≤ a ∧ a ≤ 1000000000
    · have h2 : ¬ (-1000000000 ≤ b ∧ b ≤ 1000000000) := by unfold okArgs at h; omega
      have I1 := Lib.hid (fun w => inS_true a (-1000000000) 1000000000 w h1)
      have I2 := Lib.hid (fun w => inS_false b (-1000000000) 1000000000 w h2)
      clear h h1 h2
      go_enter Try.func52, Try.ntmps52
      go_wp2_with fail
      refine (I1.out _).mono ?_
      rintro e w1 ⟨rfl, rfl⟩
      go_wp2_with fail
      refine (I2.out _).mono ?_
      rintro e w1 ⟨rfl, rfl⟩
      go_wp2_with fail
      refine bodyPost_ret (v := .tuple #[.agg #[.int .i64 0, .int .i64 0], .bool false]) (by simp [results, Try.results52, go_sem]) rfl ?_
      exact FIN.out _ _
    · have I1 := Lib.hid (fun w => inS_false a (-1000000000) 1000000000 w h1)
      clear h h1
      go_enter Try.func52, Try.ntmps52
      go_wp2_with fail
      refine (I1.out _).mono ?_
      rintro e w1 ⟨rfl, rfl⟩
      go_wp2_with fail
      refine bodyPost_ret (v := .tuple #[.agg #[.int .i64 0, .int .i64 0], .bool false]) (by simp [results, Try.results52, go_sem]) rfl ?_
      exact FIN.out _ _
set_option maxHeartbeats 1000000 in
theorem fracOfM_yes (a b : Int) (w : World) (h : okArgs a b) :
    Calls Try.prog 52 #[.int .i64 a, .int .i64 b] w (Gives (fracV a b) w) := by
  unfold fracV
  rw [if_pos h]
  obtain ⟨h1, h2, h3, h4, h5⟩ := h
  have g0 : (b == 0) = false := by simpa using h1
  have I1 := Lib.hid (fun w => inS_true a (-1000000000) 1000000000 w (by omega))
  have I2 := Lib.hid (fun w => inS_true b (-1000000000) 1000000000 w (by omega))
  have B1 := (Below.refl w.heap.size w).alloc (Nat.le_refl _) (.cells #[.int .i64 0, .int .i64 0] 55)
  by_cases hp : 0 < b
  · rw [if_pos hp]
    have np : ¬ b < 0 := by omega
    have C : Hid (∀ w, Calls Try.prog 109 #[.int .i64 a, .int .i64 b] w (Gives (.agg #[.int .i64 (cutN a b), .int .i64 (cutD a b)]) w)) := Lib.hid (fun w => cutS a b w (by omega) (by omega))
    have hR : ∀ W, Calls Try.prog 103 #[.agg #[.int .i64 (cutN a b), .int .i64 (cutD a b)]] W (Gives (keptV (cutN a b) (cutD a b)) W) := fun W => keptS_cut W hp
    obtain ⟨p, q, ok, hK⟩ := keptV_form (cutN a b) (cutD a b)
    rw [hK] at hR ⊢
    clear hK
    have R := Lib.hid hR
    clear hR
    generalize cutN a b = N at *
    generalize cutD a b = D at *
    go_enter Try.func52, Try.ntmps52
    go_wp2_with fail
    refine (I1.out _).mono ?_
    rintro e w1 ⟨rfl, rfl⟩
    go_wp2_with fail
    refine (I2.out _).mono ?_
    rintro e w1 ⟨rfl, rfl⟩
    go_wp2_with fail
    refine (C.out _).mono ?_
    rintro e w2 ⟨rfl, b2⟩
    go_wp2_with fail
    refine (R.out _).mono ?_
    rintro e w3 ⟨rfl, b3⟩
    have b1 := b2.trans (b3.mono b2.size)
    have k0 := (b1.block w.heap.size (by simp)).trans (heap_one w (.cells #[.int .i64 0, .int .i64 0] 55))
    obtain ⟨x00, y00⟩ := cell_of_heap (o := 0) k0 rfl
    obtain ⟨x01, y01⟩ := cell_of_heap (o := 1) k0 rfl
    have B3 := Lib.hid (B1.trans (b1.mono B1.size))
    clear B1 b1 k0 b2 b3
    go_wp2_with fail
    refine bodyPost_ret (v := .tuple #[.agg #[.int .i64 p, .int .i64 q], .bool ok]) (by simp [results, Try.results52, go_sem, x00, x01]) rfl ⟨rfl, ?_⟩
    exact (B3.out.setCell (p := ⟨w.heap.size, 0, none⟩) (Nat.le_refl _) _).setCell (p := ⟨w.heap.size, 1, none⟩) (Nat.le_refl _) _
  · rw [if_neg hp]
    have np : b < 0 := by omega
    have C : Hid (∀ w, Calls Try.prog 109 #[.int .i64 (-a), .int .i64 (-b)] w (Gives (.agg #[.int .i64 (cutN (-a) (-b)), .int .i64 (cutD (-a) (-b))]) w)) := Lib.hid (fun w => cutS (-a) (-b) w (by omega) (by omega))
    have hR : ∀ W, Calls Try.prog 103 #[.agg #[.int .i64 (cutN (-a) (-b)), .int .i64 (cutD (-a) (-b))]] W (Gives (keptV (cutN (-a) (-b)) (cutD (-a) (-b))) W) := fun W => keptS_cut W (by omega)
    obtain ⟨p, q, ok, hK⟩ := keptV_form (cutN (-a) (-b)) (cutD (-a) (-b))
    rw [hK] at hR ⊢
    clear hK
    have R := Lib.hid hR
    clear hR
    generalize cutN (-a) (-b) = N at *
    generalize cutD (-a) (-b) = D at *
    go_enter Try.func52, Try.ntmps52
    go_wp2_with fail
    refine (I1.out _).mono ?_
    rintro e w1 ⟨rfl, rfl⟩
    go_wp2_with fail
    refine (I2.out _).mono ?_
    rintro e w1 ⟨rfl, rfl⟩
    go_wp2_with fail
    refine (C.out _).mono ?_
    rintro e w2 ⟨rfl, b2⟩
    go_wp2_with fail
    refine (R.out _).mono ?_
    rintro e w3 ⟨rfl, b3⟩
    have b1 := b2.trans (b3.mono b2.size)
    have k0 := (b1.block w.heap.size (by simp)).trans (heap_one w (.cells #[.int .i64 0, .int .i64 0] 55))
    obtain ⟨x00, y00⟩ := cell_of_heap (o := 0) k0 rfl
    obtain ⟨x01, y01⟩ := cell_of_heap (o := 1) k0 rfl
    have B3 := Lib.hid (B1.trans (b1.mono B1.size))
    clear B1 b1 k0 b2 b3
    go_wp2_with fail
    refine bodyPost_ret (v := .tuple #[.agg #[.int .i64 p, .int .i64 q], .bool ok]) (by simp [results, Try.results52, go_sem, x00, x01]) rfl ⟨rfl, ?_⟩
    exact (B3.out.setCell (p := ⟨w.heap.size, 0, none⟩) (Nat.le_refl _) _).setCell (p := ⟨w.heap.size, 1, none⟩) (Nat.le_refl _) _
theorem fracOfM (a b : Int) (w : World) :
    Calls Try.prog 52 #[.int .i64 a, .int .i64 b] w (Gives (fracV a b) w) := by
  by_cases h : okArgs a b
  · exact fracOfM_yes a b w h
  · have : fracV a b = zeroP := by unfold fracV; rw [if_neg h]
    rw [this]; exact fracOfM_no a b w h
end Go.Proofs.Ytonlibncccljgaa
