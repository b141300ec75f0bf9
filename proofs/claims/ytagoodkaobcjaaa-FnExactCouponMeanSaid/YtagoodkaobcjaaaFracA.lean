/- Fractions in the program: sums and products. -/
import Derived.Test.YtagoodkaobcjaaaFracO
import Derived.WalkKit
import Derived.ProofKit
import Derived.Outline
import Derived.Below
import Derived.Lib.Hide
import Derived.WalkSmall
import Derived.WalkSpells
import Derived.WalkLawsBesides
import Derived.IntWalk
namespace Go.Proofs.Ytagoodkaobcjaaa
open Go.RowKit
set_option linter.unusedVariables false
set_option maxHeartbeats 1000000 in
theorem addI_no1 (n d m e : Int) (w : World) (h : isFr n d = false) :
    Calls Try.prog 62 #[.agg #[.int .i64 n, .int .i64 d], .agg #[.int .i64 m, .int .i64 e]] w (Gives zeroP w) := by
  have C := Lib.hid (fun w => isFracI n d w)
  rw [h] at C
  clear h
  have B := blocks3_below w n d m e
  go_enter Try.func62, Try.ntmps62
  go_wp2_with fail
  refine (C.out (Blocks3 w n d m e)).mono ?_
  rintro e w1 ⟨rfl, b1⟩
  obtain ⟨_, _, _, _, c0, c1, f0, f1⟩ := cells3 b1
  have BB := Lib.hid (B.trans (b1.mono B.size))
  clear b1 B
  go_wp2_with fail
  refine bodyPost_ret (v := .tuple #[.agg #[.int .i64 0, .int .i64 0], .bool false]) (by simp [results, Try.results62, go_sem, c0, c1]) rfl ⟨rfl, ?_⟩
  exact (BB.out.setCell (p := ⟨w.heap.size + 1 + 1, 0, none⟩) (by simp; omega) _).setCell (p := ⟨w.heap.size + 1 + 1, 1, none⟩) (by simp; omega) _
set_option maxHeartbeats 1000000 in
theorem addI_no2 (n d m e : Int) (w : World) (h1 : isFr n d = true) (h : isFr m e = false) :
    Calls Try.prog 62 #[.agg #[.int .i64 n, .int .i64 d], .agg #[.int .i64 m, .int .i64 e]] w (Gives zeroP w) := by
  have C1 := Lib.hid (fun w => isFracI n d w)
  have C2 := Lib.hid (fun w => isFracI m e w)
  rw [h1] at C1
  rw [h] at C2
  clear h h1
  have B := blocks3_below w n d m e
  go_enter Try.func62, Try.ntmps62
  go_wp2_with fail
  refine (C1.out (Blocks3 w n d m e)).mono ?_
  rintro e w1 ⟨rfl, b1⟩
  have Z := Lib.hid (cells3 b1)
  obtain ⟨_, _, z0, z1, _, _, _, _⟩ := cells3 b1
  have B1 := Lib.hid b1
  clear b1
  go_wp2_with fail
  refine (C2.out w1).mono ?_
  rintro e w2 ⟨rfl, b2⟩
  have b3 := B1.out.trans (b2.mono B1.out.size)
  clear z0 z1
  obtain ⟨_, _, _, _, c0, c1, f0, f1⟩ := cells3 b3
  have BB := Lib.hid (B.trans (b3.mono B.size))
  clear b2 b3 B
  go_wp2_with fail
  refine bodyPost_ret (v := .tuple #[.agg #[.int .i64 0, .int .i64 0], .bool false]) (by simp [results, Try.results62, go_sem, c0, c1]) rfl ⟨rfl, ?_⟩
  exact (BB.out.setCell (p := ⟨w.heap.size + 1 + 1, 0, none⟩) (by simp; omega) _).setCell (p := ⟨w.heap.size + 1 + 1, 1, none⟩) (by simp; omega) _
set_option maxHeartbeats 1000000 in
theorem addI_yes (n d m e : Int) (w : World) (h1 : isFr n d = true) (h2 : isFr m e = true) :
    Calls Try.prog 62 #[.agg #[.int .i64 n, .int .i64 d], .agg #[.int .i64 m, .int .i64 e]] w (Gives (keptV (cutN (n * e + m * d) (d * e)) (cutD (n * e + m * d) (d * e))) w) := by
  have C1 := Lib.hid (fun w => isFracI n d w)
  have C2 := Lib.hid (fun w => isFracI m e w)
  rw [h1] at C1
  rw [h2] at C2
  obtain ⟨⟨n1, n2, d1, d2⟩, _⟩ := (isFr_iff n d).1 h1
  obtain ⟨⟨m1, m2, e1, e2⟩, _⟩ := (isFr_iff m e).1 h2
  clear h1 h2
  have q1 := mul_bd (x := n) (y := e) 1000000000 1000000 (by omega) (by omega)
  have q2 := mul_bd (x := m) (y := d) 1000000000 1000000 (by omega) (by omega)
  have q3 := mul_bd (x := d) (y := e) 1000000 1000000 (by omega) (by omega)
  have q4 := Int.mul_pos (show 0 < d by omega) (show 0 < e by omega)
  have q5 := mul_bd (x := n) (y := m) 1000000000 1000000000 (by omega) (by omega)
  have hR := fun W => reduceI_any (n * e + m * d) (d * e) W (by omega) (by omega)
  obtain ⟨p, q, ok, hK⟩ := keptV_form (cutN (n * e + m * d) (d * e)) (cutD (n * e + m * d) (d * e))
  rw [hK] at hR ⊢
  clear hK
  have R := Lib.hid hR
  clear hR
  have B := blocks3_below w n d m e
  obtain ⟨q1a, q1b⟩ : -1000000000000000 ≤ n * e ∧ n * e ≤ 1000000000000000 := by omega
  obtain ⟨q2a, q2b⟩ : -1000000000000000 ≤ m * d ∧ m * d ≤ 1000000000000000 := by omega
  obtain ⟨q3a, q3b⟩ : -1000000000000 ≤ d * e ∧ d * e ≤ 1000000000000 := by omega
  obtain ⟨q5a, q5b⟩ : -1000000000000000000 ≤ n * m ∧ n * m ≤ 1000000000000000000 := by omega
  clear q1 q2 q3 q5
  go_enter Try.func62, Try.ntmps62
  go_wp2_with fail
  refine (C1.out (Blocks3 w n d m e)).mono ?_
  rintro e w1 ⟨rfl, b1⟩
  obtain ⟨_, _, z0, z1, _, _, _, _⟩ := cells3 b1
  have B1 := Lib.hid b1
  clear b1
  go_wp2_with fail
  refine (C2.out w1).mono ?_
  rintro e w2 ⟨rfl, b2⟩
  have b3 := B1.out.trans (b2.mono B1.out.size)
  clear z0 z1
  obtain ⟨a0, a1, z0, z1, _, _, _, _⟩ := cells3 b3
  have B3 := Lib.hid b3
  clear b2 b3
  go_wp2_with fail
  refine (R.out w2).mono ?_
  rintro e w3 ⟨rfl, b4⟩
  have b5 := B3.out.trans (b4.mono B3.out.size)
  clear a0 a1 z0 z1
  obtain ⟨_, _, _, _, c0, c1, f0, f1⟩ := cells3 b5
  have BB := Lib.hid (B.trans (b5.mono B.size))
  clear b4 b5 B
  go_wp2_with fail
  refine bodyPost_ret (v := .tuple #[.agg #[.int .i64 p, .int .i64 q], .bool ok]) (by simp [results, Try.results62, go_sem, c0, c1]) rfl ⟨rfl, ?_⟩
  exact (BB.out.setCell (p := ⟨w.heap.size + 1 + 1, 0, none⟩) (by simp; omega) _).setCell (p := ⟨w.heap.size + 1 + 1, 1, none⟩) (by simp; omega) _
theorem addI (n d m e : Int) (w : World) :
    Calls Try.prog 62 #[.agg #[.int .i64 n, .int .i64 d], .agg #[.int .i64 m, .int .i64 e]] w (Gives (addV n d m e) w) := by
  unfold addV
  cases h1 : isFr n d
  · rw [if_neg (by simp)]; exact addI_no1 n d m e w h1
  · cases h2 : isFr m e
    · rw [if_neg (by simp)]; exact addI_no2 n d m e w h1 h2
    · rw [if_pos ⟨rfl, rfl⟩]; exact addI_yes n d m e w h1 h2
set_option maxHeartbeats 1000000 in
theorem timesI_no1 (n d m e : Int) (w : World) (h : isFr n d = false) :
    Calls Try.prog 50 #[.agg #[.int .i64 n, .int .i64 d], .agg #[.int .i64 m, .int .i64 e]] w (Gives zeroP w) := by
  have C := Lib.hid (fun w => isFracI n d w)
  rw [h] at C
  clear h
  have B := blocks3_below w n d m e
  go_enter Try.func50, Try.ntmps50
  go_wp2_with fail
  refine (C.out (Blocks3 w n d m e)).mono ?_
  rintro e w1 ⟨rfl, b1⟩
  obtain ⟨_, _, _, _, c0, c1, f0, f1⟩ := cells3 b1
  have BB := Lib.hid (B.trans (b1.mono B.size))
  clear b1 B
  go_wp2_with fail
  refine bodyPost_ret (v := .tuple #[.agg #[.int .i64 0, .int .i64 0], .bool false]) (by simp [results, Try.results50, go_sem, c0, c1]) rfl ⟨rfl, ?_⟩
  exact (BB.out.setCell (p := ⟨w.heap.size + 1 + 1, 0, none⟩) (by simp; omega) _).setCell (p := ⟨w.heap.size + 1 + 1, 1, none⟩) (by simp; omega) _
set_option maxHeartbeats 1000000 in
theorem timesI_no2 (n d m e : Int) (w : World) (h1 : isFr n d = true) (h : isFr m e = false) :
    Calls Try.prog 50 #[.agg #[.int .i64 n, .int .i64 d], .agg #[.int .i64 m, .int .i64 e]] w (Gives zeroP w) := by
  have C1 := Lib.hid (fun w => isFracI n d w)
  have C2 := Lib.hid (fun w => isFracI m e w)
  rw [h1] at C1
  rw [h] at C2
  clear h h1
  have B := blocks3_below w n d m e
  go_enter Try.func50, Try.ntmps50
  go_wp2_with fail
  refine (C1.out (Blocks3 w n d m e)).mono ?_
  rintro e w1 ⟨rfl, b1⟩
  have Z := Lib.hid (cells3 b1)
  obtain ⟨_, _, z0, z1, _, _, _, _⟩ := cells3 b1
  have B1 := Lib.hid b1
  clear b1
  go_wp2_with fail
  refine (C2.out w1).mono ?_
  rintro e w2 ⟨rfl, b2⟩
  have b3 := B1.out.trans (b2.mono B1.out.size)
  clear z0 z1
  obtain ⟨_, _, _, _, c0, c1, f0, f1⟩ := cells3 b3
  have BB := Lib.hid (B.trans (b3.mono B.size))
  clear b2 b3 B
  go_wp2_with fail
  refine bodyPost_ret (v := .tuple #[.agg #[.int .i64 0, .int .i64 0], .bool false]) (by simp [results, Try.results50, go_sem, c0, c1]) rfl ⟨rfl, ?_⟩
  exact (BB.out.setCell (p := ⟨w.heap.size + 1 + 1, 0, none⟩) (by simp; omega) _).setCell (p := ⟨w.heap.size + 1 + 1, 1, none⟩) (by simp; omega) _
set_option maxHeartbeats 1000000 in
theorem timesI_yes (n d m e : Int) (w : World) (h1 : isFr n d = true) (h2 : isFr m e = true) :
    Calls Try.prog 50 #[.agg #[.int .i64 n, .int .i64 d], .agg #[.int .i64 m, .int .i64 e]] w (Gives (keptV (cutN (n * m) (d * e)) (cutD (n * m) (d * e))) w) := by
  have C1 := Lib.hid (fun w => isFracI n d w)
  have C2 := Lib.hid (fun w => isFracI m e w)
  rw [h1] at C1
  rw [h2] at C2
  obtain ⟨⟨n1, n2, d1, d2⟩, _⟩ := (isFr_iff n d).1 h1
  obtain ⟨⟨m1, m2, e1, e2⟩, _⟩ := (isFr_iff m e).1 h2
  clear h1 h2
  have q1 := mul_bd (x := n) (y := e) 1000000000 1000000 (by omega) (by omega)
  have q2 := mul_bd (x := m) (y := d) 1000000000 1000000 (by omega) (by omega)
  have q3 := mul_bd (x := d) (y := e) 1000000 1000000 (by omega) (by omega)
  have q4 := Int.mul_pos (show 0 < d by omega) (show 0 < e by omega)
  have q5 := mul_bd (x := n) (y := m) 1000000000 1000000000 (by omega) (by omega)
  have hR := fun W => reduceI_any (n * m) (d * e) W (by omega) (by omega)
  obtain ⟨p, q, ok, hK⟩ := keptV_form (cutN (n * m) (d * e)) (cutD (n * m) (d * e))
  rw [hK] at hR ⊢
  clear hK
  have R := Lib.hid hR
  clear hR
  have B := blocks3_below w n d m e
  obtain ⟨q1a, q1b⟩ : -1000000000000000 ≤ n * e ∧ n * e ≤ 1000000000000000 := by omega
  obtain ⟨q2a, q2b⟩ : -1000000000000000 ≤ m * d ∧ m * d ≤ 1000000000000000 := by omega
  obtain ⟨q3a, q3b⟩ : -1000000000000 ≤ d * e ∧ d * e ≤ 1000000000000 := by omega
  obtain ⟨q5a, q5b⟩ : -1000000000000000000 ≤ n * m ∧ n * m ≤ 1000000000000000000 := by omega
  clear q1 q2 q3 q5
  go_enter Try.func50, Try.ntmps50
  go_wp2_with fail
  refine (C1.out (Blocks3 w n d m e)).mono ?_
  rintro e w1 ⟨rfl, b1⟩
  obtain ⟨_, _, z0, z1, _, _, _, _⟩ := cells3 b1
  have B1 := Lib.hid b1
  clear b1
  go_wp2_with fail
  refine (C2.out w1).mono ?_
  rintro e w2 ⟨rfl, b2⟩
  have b3 := B1.out.trans (b2.mono B1.out.size)
  clear z0 z1
  obtain ⟨a0, a1, z0, z1, _, _, _, _⟩ := cells3 b3
  have B3 := Lib.hid b3
  clear b2 b3
  go_wp2_with fail
  refine (R.out w2).mono ?_
  rintro e w3 ⟨rfl, b4⟩
  have b5 := B3.out.trans (b4.mono B3.out.size)
  clear a0 a1 z0 z1
  obtain ⟨_, _, _, _, c0, c1, f0, f1⟩ := cells3 b5
  have BB := Lib.hid (B.trans (b5.mono B.size))
  clear b4 b5 B
  go_wp2_with fail
  refine bodyPost_ret (v := .tuple #[.agg #[.int .i64 p, .int .i64 q], .bool ok]) (by simp [results, Try.results50, go_sem, c0, c1]) rfl ⟨rfl, ?_⟩
  exact (BB.out.setCell (p := ⟨w.heap.size + 1 + 1, 0, none⟩) (by simp; omega) _).setCell (p := ⟨w.heap.size + 1 + 1, 1, none⟩) (by simp; omega) _
theorem timesI (n d m e : Int) (w : World) :
    Calls Try.prog 50 #[.agg #[.int .i64 n, .int .i64 d], .agg #[.int .i64 m, .int .i64 e]] w (Gives (timesV n d m e) w) := by
  unfold timesV
  cases h1 : isFr n d
  · rw [if_neg (by simp)]; exact timesI_no1 n d m e w h1
  · cases h2 : isFr m e
    · rw [if_neg (by simp)]; exact timesI_no2 n d m e w h1 h2
    · rw [if_pos ⟨rfl, rfl⟩]; exact timesI_yes n d m e w h1 h2
end Go.Proofs.Ytagoodkaobcjaaa
