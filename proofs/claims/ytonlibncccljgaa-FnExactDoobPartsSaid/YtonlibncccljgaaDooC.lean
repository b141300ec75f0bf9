/- FracJ, FracO, FracA, DooP, DooI in one text. -/
import Derived.Test.YtonlibncccljgaaFracB
import Derived.Test.YtonlibncccljgaaDriP
import Derived.Test.YtonlibncccljgaaDriI
import Derived.WalkKit
import Derived.ProofKit
import Derived.Outline
import Derived.Below
import Derived.Lib.Hide
import Derived.WalkSmall
import Derived.WalkSpells
import Derived.WalkLawsBesides
import Derived.IntWalk
namespace Go.Proofs.Ytonlibncccljgaa
open Go.RowKit
set_option linter.unusedVariables false
set_option maxHeartbeats 1000000 in
theorem isFracI (n d : Int) (w : World) :
    Calls Try.prog 53 #[.agg #[.int .i64 n, .int .i64 d]] w fun e w' => e = .returned (.bool (isFr n d)) ∧ Below w.heap.size w w' := by
  have B1 := (Below.refl w.heap.size w).alloc (Nat.le_refl _) (.cells #[.int .i64 n, .int .i64 d] 55)
  cases hin : inB n d
  · have hr : isFr n d = false := by unfold isFr; rw [hin]; rfl
    rw [hr]
    have C := Lib.hid (fun w => inBI n d w)
    rw [hin] at C
    clear hin hr
    go_enter Try.func53, Try.ntmps53
    go_wp2_with fail
    refine (C.out _).mono ?_
    rintro e w1 ⟨rfl, b1⟩
    go_wp2_with fail
    go_ret
    exact ⟨rfl, B1.trans (b1.mono B1.size)⟩
  · have hb : -1000000000 ≤ n ∧ n ≤ 1000000000 ∧ 1 ≤ d ∧ d ≤ 1000000 := by unfold inB at hin; simpa using hin
    have hr : isFr n d = (gI n d == 1) := by unfold isFr; rw [hin]; rfl
    rw [hr]
    have C := Lib.hid (fun w => inBI n d w)
    rw [hin] at C
    have G := Lib.hid (fun w => gcdI n d w (by omega) (by omega))
    obtain ⟨g, hg⟩ : ∃ g, g = gI n d := ⟨_, rfl⟩
    rw [← hg] at G ⊢
    clear hin hr hg hb
    go_enter Try.func53, Try.ntmps53
    go_wp2_with fail
    refine (C.out _).mono ?_
    rintro e w1 ⟨rfl, b1⟩
    have hh : (w.alloc (.cells #[.int .i64 n, .int .i64 d] 55)).heap[w.heap.size]? = some (.cells #[.int .i64 n, .int .i64 d] 55 (0, 0)) := by
      show (w.heap.push _)[w.heap.size]? = _
      simp
    have k0 := (b1.block w.heap.size (by simp)).trans hh
    obtain ⟨x0, _⟩ := cell_of_heap (o := 0) k0 rfl
    obtain ⟨x1, _⟩ := cell_of_heap (o := 1) k0 rfl
    clear hh k0
    have B2 := Lib.hid (B1.trans (b1.mono B1.size))
    clear B1 b1
    go_wp2_with fail
    refine (G.out _).mono ?_
    rintro e w2 ⟨rfl, rfl⟩
    go_wp2_with fail
    go_ret
    exact ⟨rfl, B2.out⟩
end Go.Proofs.Ytonlibncccljgaa
namespace Go.Proofs.Ytonlibncccljgaa
open Go.RowKit
set_option linter.unusedVariables false
/-- What a and b make. -/
def okArgs (a b : Int) : Prop := b ≠ 0 ∧ -1000000000 ≤ a ∧ a ≤ 1000000000 ∧ -1000000000 ≤ b ∧ b ≤ 1000000000
instance (a b : Int) : Decidable (okArgs a b) := by unfold okArgs; infer_instance
def fracV (a b : Int) : Value := if okArgs a b then (if 0 < b then keptV (cutN a b) (cutD a b) else keptV (cutN (-a) (-b)) (cutD (-a) (-b))) else zeroP
def addV (n d m e : Int) : Value := if isFr n d = true ∧ isFr m e = true then keptV (cutN (n * e + m * d) (d * e)) (cutD (n * e + m * d) (d * e)) else zeroP
def timesV (n d m e : Int) : Value := if isFr n d = true ∧ isFr m e = true then keptV (cutN (n * m) (d * e)) (cutD (n * m) (d * e)) else zeroP
def ordI (x y : Int) : Int := if x < y then -1 else if y < x then 1 else 0
def cmpV (n d m e : Int) : Value := if isFr n d = true ∧ isFr m e = true then .tuple #[.int .i64 (ordI (n * e) (m * d)), .bool true] else .tuple #[.int .i64 0, .bool false]
set_option maxHeartbeats 1000000 in
theorem fracOfI_no (a b : Int) (w : World) (h : ¬ okArgs a b) :
    Calls Try.prog 51 #[.int .i64 a, .int .i64 b] w (Gives zeroP w) := by
  have B1 := (Below.refl w.heap.size w).alloc (Nat.le_refl _) (.cells #[.int .i64 0, .int .i64 0] 55)
  have FIN : Hid (∀ x y : Value, Gives zeroP w (.returned (.tuple #[.agg #[.int .i64 0, .int .i64 0], .bool false])) (w.alloc (.cells #[x, y] 55))) := Lib.hid (fun x y => ⟨rfl, (Below.refl w.heap.size w).alloc (Nat.le_refl _) _⟩)
  have hc : b = 0 ∨ a < -1000000000 ∨ 1000000000 < a ∨ b < -1000000000 ∨ 1000000000 < b := by unfold okArgs at h; omega
  clear h
  rcases hc with h | h | h | h | h
  all_goals
    go_enter Try.func51, Try.ntmps51
    go_wp2_with fail
    all_goals
      refine bodyPost_ret (v := .tuple #[.agg #[.int .i64 0, .int .i64 0], .bool false]) (by simp [results, Try.results51, go_sem]) rfl ?_
      exact FIN.out _ _
set_option maxHeartbeats 1000000 in
theorem fracOfI_yes (a b : Int) (w : World) (h : okArgs a b) :
    Calls Try.prog 51 #[.int .i64 a, .int .i64 b] w (Gives (fracV a b) w) := by
  unfold fracV
  rw [if_pos h]
  obtain ⟨h1, h2, h3, h4, h5⟩ := h
  have hR := fun W => reduceI a b W (by omega) (by omega)
  have hform : ∃ p q ok, (if 0 < b then keptV (cutN a b) (cutD a b) else keptV (cutN (-a) (-b)) (cutD (-a) (-b))) = .tuple #[.agg #[.int .i64 p, .int .i64 q], .bool ok] := by
    split <;> exact keptV_form _ _
  obtain ⟨p, q, ok, hK⟩ := hform
  rw [hK] at hR ⊢
  clear hK
  have R := Lib.hid hR
  clear hR
  have g1 : (b == 0) = false := by simpa using h1
  have g2 : decide (a < -1000000000) = false := by simp; omega
  have g3 : decide (1000000000 < a) = false := by simp; omega
  have g4 : decide (b < -1000000000) = false := by simp; omega
  have g5 : decide (1000000000 < b) = false := by simp; omega
  have B1 := (Below.refl w.heap.size w).alloc (Nat.le_refl _) (.cells #[.int .i64 0, .int .i64 0] 55)
  go_enter Try.func51, Try.ntmps51
  go_wp2_with fail
  refine (R.out _).mono ?_
  rintro e w1 ⟨rfl, b1⟩
  have k0 := (b1.block w.heap.size (by simp)).trans (heap_one w (.cells #[.int .i64 0, .int .i64 0] 55))
  obtain ⟨x00, y00⟩ := cell_of_heap (o := 0) k0 rfl
  obtain ⟨x01, y01⟩ := cell_of_heap (o := 1) k0 rfl
  have B3 := Lib.hid (B1.trans (b1.mono B1.size))
  clear B1 b1 k0
  go_wp2_with fail
  refine bodyPost_ret (v := .tuple #[.agg #[.int .i64 p, .int .i64 q], .bool ok]) (by simp [results, Try.results51, go_sem, x00, x01]) rfl ⟨rfl, ?_⟩
  exact (B3.out.setCell (p := ⟨w.heap.size, 0, none⟩) (Nat.le_refl _) _).setCell (p := ⟨w.heap.size, 1, none⟩) (Nat.le_refl _) _
theorem fracOfI (a b : Int) (w : World) :
    Calls Try.prog 51 #[.int .i64 a, .int .i64 b] w (Gives (fracV a b) w) := by
  by_cases h : okArgs a b
  · exact fracOfI_yes a b w h
  · have : fracV a b = zeroP := by unfold fracV; rw [if_neg h]
    rw [this]; exact fracOfI_no a b w h
end Go.Proofs.Ytonlibncccljgaa
namespace Go.Proofs.Ytonlibncccljgaa
open Go.RowKit
set_option linter.unusedVariables false
set_option maxHeartbeats 1000000 in
theorem addI_no1 (n d m e : Int) (w : World) (h : isFr n d = false) :
    Calls Try.prog 43 #[.agg #[.int .i64 n, .int .i64 d], .agg #[.int .i64 m, .int .i64 e]] w (Gives zeroP w) := by
  have C := Lib.hid (fun w => isFracI n d w)
  rw [h] at C
  clear h
  have B := blocks3_below w n d m e
  go_enter Try.func43, Try.ntmps43
  go_wp2_with fail
  refine (C.out (Blocks3 w n d m e)).mono ?_
  rintro e w1 ⟨rfl, b1⟩
  obtain ⟨_, _, _, _, c0, c1, f0, f1⟩ := cells3 b1
  have BB := Lib.hid (B.trans (b1.mono B.size))
  clear b1 B
  go_wp2_with fail
  refine bodyPost_ret (v := .tuple #[.agg #[.int .i64 0, .int .i64 0], .bool false]) (by simp [results, Try.results43, go_sem, c0, c1]) rfl ⟨rfl, ?_⟩
  exact (BB.out.setCell (p := ⟨w.heap.size + 1 + 1, 0, none⟩) (by simp; omega) _).setCell (p := ⟨w.heap.size + 1 + 1, 1, none⟩) (by simp; omega) _
set_option maxHeartbeats 1000000 in
theorem addI_no2 (n d m e : Int) (w : World) (h1 : isFr n d = true) (h : isFr m e = false) :
    Calls Try.prog 43 #[.agg #[.int .i64 n, .int .i64 d], .agg #[.int .i64 m, .int .i64 e]] w (Gives zeroP w) := by
  have C1 := Lib.hid (fun w => isFracI n d w)
  have C2 := Lib.hid (fun w => isFracI m e w)
  rw [h1] at C1
  rw [h] at C2
  clear h h1
  have B := blocks3_below w n d m e
  go_enter Try.func43, Try.ntmps43
  go_wp2_with fail
  refine (C1.out (Blocks3 w n d m e)).mono ?_
  rintro e w1 ⟨rfl, b1⟩
  have Z := Lib.hid (cells3 b1)
  obtain ⟨_, _, z0, z1, _, _, _, _⟩ := cells3 b1
  have B1 := Lib.hid b1
  clear b1
  go_wp2_with fail
  refine (C2.out w1).mono ?_
  rintro e w2 ⟨rfl, b2⟩
  have b3 := B1.out.trans (b2.mono B1.out.size)
  clear z0 z1
  obtain ⟨_, _, _, _, c0, c1, f0, f1⟩ := cells3 b3
  have BB := Lib.hid (B.trans (b3.mono B.size))
  clear b2 b3 B
  go_wp2_with fail
  refine bodyPost_ret (v := .tuple #[.agg #[.int .i64 0, .int .i64 0], .bool false]) (by simp [results, Try.results43, go_sem, c0, c1]) rfl ⟨rfl, ?_⟩
  exact (BB.out.setCell (p := ⟨w.heap.size + 1 + 1, 0, none⟩) (by simp; omega) _).setCell (p := ⟨w.heap.size + 1 + 1, 1, none⟩) (by simp; omega) _
set_option maxHeartbeats 1000000 in
theorem addI_yes (n d m e : Int) (w : World) (h1 : isFr n d = true) (h2 : isFr m e = true) :
    Calls Try.prog 43 #[.agg #[.int .i64 n, .int .i64 d], .agg #[.int .i64 m, .int .i64 e]] w (Gives (keptV (cutN (n * e + m * d) (d * e)) (cutD (n * e + m * d) (d * e))) w) := by
  have C1 := Lib.hid (fun w => isFracI n d w)
  have C2 := Lib.hid (fun w => isFracI m e w)
  rw [h1] at C1
  rw [h2] at C2
  obtain ⟨⟨n1, n2, d1, d2⟩, _⟩ := (isFr_iff n d).1 h1
  obtain ⟨⟨m1, m2, e1, e2⟩, _⟩ := (isFr_iff m e).1 h2
  clear h1 h2
  have q1 := mul_bd (x := n) (y := e) 1000000000 1000000 (by omega) (by omega)
  have q2 := mul_bd (x := m) (y := d) 1000000000 1000000 (by omega) (by omega)
  have q3 := mul_bd (x := d) (y := e) 1000000 1000000 (by omega) (by omega)
  have q4 := Int.mul_pos (show 0 < d by omega) (show 0 < e by omega)
  have q5 := mul_bd (x := n) (y := m) 1000000000 1000000000 (by omega) (by omega)
  have hR := fun W => reduceI_any (n * e + m * d) (d * e) W (by omega) (by omega)
  obtain ⟨p, q, ok, hK⟩ := keptV_form (cutN (n * e + m * d) (d * e)) (cutD (n * e + m * d) (d * e))
  rw [hK] at hR ⊢
  clear hK
  have R := Lib.hid hR
  clear hR
  have B := blocks3_below w n d m e
  obtain ⟨q1a, q1b⟩ : -1000000000000000 ≤ n * e ∧ n * e ≤ 1000000000000000 := by omega
  obtain ⟨q2a, q2b⟩ : -1000000000000000 ≤ m * d ∧ m * d ≤ 1000000000000000 := by omega
  obtain ⟨q3a, q3b⟩ : -1000000000000 ≤ d * e ∧ d * e ≤ 1000000000000 := by omega
  obtain ⟨q5a, q5b⟩ : -1000000000000000000 ≤ n * m ∧ n * m ≤ 1000000000000000000 := by omega
  clear q1 q2 q3 q5
  go_enter Try.func43, Try.ntmps43
  go_wp2_with fail
  refine (C1.out (Blocks3 w n d m e)).mono ?_
  rintro e w1 ⟨rfl, b1⟩
  obtain ⟨_, _, z0, z1, _, _, _, _⟩ := cells3 b1
  have B1 := Lib.hid b1
  clear b1
  go_wp2_with fail
  refine (C2.out w1).mono ?_
  rintro e w2 ⟨rfl, b2⟩
  have b3 := B1.out.trans (b2.mono B1.out.size)
  clear z0 z1
  obtain ⟨a0, a1, z0, z1, _, _, _, _⟩ := cells3 b3
  have B3 := Lib.hid b3
  clear b2 b3
  go_wp2_with fail
  refine (R.out w2).mono ?_
  rintro e w3 ⟨rfl, b4⟩
  have b5 := B3.out.trans (b4.mono B3.out.size)
  clear a0 a1 z0 z1
  obtain ⟨_, _, _, _, c0, c1, f0, f1⟩ := cells3 b5
  have BB := Lib.hid (B.trans (b5.mono B.size))
  clear b4 b5 B
  go_wp2_with fail
  refine bodyPost_ret (v := .tuple #[.agg #[.int .i64 p, .int .i64 q], .bool ok]) (by simp [results, Try.results43, go_sem, c0, c1]) rfl ⟨rfl, ?_⟩
  exact (BB.out.setCell (p := ⟨w.heap.size + 1 + 1, 0, none⟩) (by simp; omega) _).setCell (p := ⟨w.heap.size + 1 + 1, 1, none⟩) (by simp; omega) _
theorem addI (n d m e : Int) (w : World) :
    Calls Try.prog 43 #[.agg #[.int .i64 n, .int .i64 d], .agg #[.int .i64 m, .int .i64 e]] w (Gives (addV n d m e) w) := by
  unfold addV
  cases h1 : isFr n d
  · rw [if_neg (by simp)]; exact addI_no1 n d m e w h1
  · cases h2 : isFr m e
    · rw [if_neg (by simp)]; exact addI_no2 n d m e w h1 h2
    · rw [if_pos ⟨rfl, rfl⟩]; exact addI_yes n d m e w h1 h2
set_option maxHeartbeats 1000000 in
theorem timesI_no1 (n d m e : Int) (w : World) (h : isFr n d = false) :
    Calls Try.prog 45 #[.agg #[.int .i64 n, .int .i64 d], .agg #[.int .i64 m, .int .i64 e]] w (Gives zeroP w) := by
  have C := Lib.hid (fun w => isFracI n d w)
  rw [h] at C
  clear h
  have B := blocks3_below w n d m e
  go_enter Try.func45, Try.ntmps45
  go_wp2_with fail
  refine (C.out (Blocks3 w n d m e)).mono ?_
  rintro e w1 ⟨rfl, b1⟩
  obtain ⟨_, _, _, _, c0, c1, f0, f1⟩ := cells3 b1
  have BB := Lib.hid (B.trans (b1.mono B.size))
  clear b1 B
  go_wp2_with fail
  refine bodyPost_ret (v := .tuple #[.agg #[.int .i64 0, .int .i64 0], .bool false]) (by simp [results, Try.results45, go_sem, c0, c1]) rfl ⟨rfl, ?_⟩
  exact (BB.out.setCell (p := ⟨w.heap.size + 1 + 1, 0, none⟩) (by simp; omega) _).setCell (p := ⟨w.heap.size + 1 + 1, 1, none⟩) (by simp; omega) _
set_option maxHeartbeats 1000000 in
theorem timesI_no2 (n d m e : Int) (w : World) (h1 : isFr n d = true) (h : isFr m e = false) :
    Calls Try.prog 45 #[.agg #[.int .i64 n, .int .i64 d], .agg #[.int .i64 m, .int .i64 e]] w (Gives zeroP w) := by
  have C1 := Lib.hid (fun w => isFracI n d w)
  have C2 := Lib.hid (fun w => isFracI m e w)
  rw [h1] at C1
  rw [h] at C2
  clear h h1
  have B := blocks3_below w n d m e
  go_enter Try.func45, Try.ntmps45
  go_wp2_with fail
  refine (C1.out (Blocks3 w n d m e)).mono ?_
  rintro e w1 ⟨rfl, b1⟩
  have Z := Lib.hid (cells3 b1)
  obtain ⟨_, _, z0, z1, _, _, _, _⟩ := cells3 b1
  have B1 := Lib.hid b1
  clear b1
  go_wp2_with fail
  refine (C2.out w1).mono ?_
  rintro e w2 ⟨rfl, b2⟩
  have b3 := B1.out.trans (b2.mono B1.out.size)
  clear z0 z1
  obtain ⟨_, _, _, _, c0, c1, f0, f1⟩ := cells3 b3
  have BB := Lib.hid (B.trans (b3.mono B.size))
  clear b2 b3 B
  go_wp2_with fail
  refine bodyPost_ret (v := .tuple #[.agg #[.int .i64 0, .int .i64 0], .bool false]) (by simp [results, Try.results45, go_sem, c0, c1]) rfl ⟨rfl, ?_⟩
  exact (BB.out.setCell (p := ⟨w.heap.size + 1 + 1, 0, none⟩) (by simp; omega) _).setCell (p := ⟨w.heap.size + 1 + 1, 1, none⟩) (by simp; omega) _
set_option maxHeartbeats 1000000 in
theorem timesI_yes (n d m e : Int) (w : World) (h1 : isFr n d = true) (h2 : isFr m e = true) :
    Calls Try.prog 45 #[.agg #[.int .i64 n, .int .i64 d], .agg #[.int .i64 m, .int .i64 e]] w (Gives (keptV (cutN (n * m) (d * e)) (cutD (n * m) (d * e))) w) := by
  have C1 := Lib.hid (fun w => isFracI n d w)
  have C2 := Lib.hid (fun w => isFracI m e w)
  rw [h1] at C1
  rw [h2] at C2
  obtain ⟨⟨n1, n2, d1, d2⟩, _⟩ := (isFr_iff n d).1 h1
  obtain ⟨⟨m1, m2, e1, e2⟩, _⟩ := (isFr_iff m e).1 h2
  clear h1 h2
  have q1 := mul_bd (x := n) (y := e) 1000000000 1000000 (by omega) (by omega)
  have q2 := mul_bd (x := m) (y := d) 1000000000 1000000 (by omega) (by omega)
  have q3 := mul_bd (x := d) (y := e) 1000000 1000000 (by omega) (by omega)
  have q4 := Int.mul_pos (show 0 < d by omega) (show 0 < e by omega)
  have q5 := mul_bd (x := n) (y := m) 1000000000 1000000000 (by omega) (by omega)
  have hR := fun W => reduceI_any (n * m) (d * e) W (by omega) (by omega)
  obtain ⟨p, q, ok, hK⟩ := keptV_form (cutN (n * m) (d * e)) (cutD (n * m) (d * e))
  rw [hK] at hR ⊢
  clear hK
  have R := Lib.hid hR
  clear hR
  have B := blocks3_below w n d m e
  obtain ⟨q1a, q1b⟩ : -1000000000000000 ≤ n * e ∧ n * e ≤ 1000000000000000 := by omega
  obtain ⟨q2a, q2b⟩ : -1000000000000000 ≤ m * d ∧ m * d ≤ 1000000000000000 := by omega
  obtain ⟨q3a, q3b⟩ : -1000000000000 ≤ d * e ∧ d * e ≤ 1000000000000 := by omega
  obtain ⟨q5a, q5b⟩ : -1000000000000000000 ≤ n * m ∧ n * m ≤ 1000000000000000000 := by omega
  clear q1 q2 q3 q5
  go_enter Try.func45, Try.ntmps45
  go_wp2_with fail
  refine (C1.out (Blocks3 w n d m e)).mono ?_
  rintro e w1 ⟨rfl, b1⟩
  obtain ⟨_, _, z0, z1, _, _, _, _⟩ := cells3 b1
  have B1 := Lib.hid b1
  clear b1
  go_wp2_with fail
  refine (C2.out w1).mono ?_
  rintro e w2 ⟨rfl, b2⟩
  have b3 := B1.out.trans (b2.mono B1.out.size)
  clear z0 z1
  obtain ⟨a0, a1, z0, z1, _, _, _, _⟩ := cells3 b3
  have B3 := Lib.hid b3
  clear b2 b3
  go_wp2_with fail
  refine (R.out w2).mono ?_
  rintro e w3 ⟨rfl, b4⟩
  have b5 := B3.out.trans (b4.mono B3.out.size)
  clear a0 a1 z0 z1
  obtain ⟨_, _, _, _, c0, c1, f0, f1⟩ := cells3 b5
  have BB := Lib.hid (B.trans (b5.mono B.size))
  clear b4 b5 B
  go_wp2_with fail
  refine bodyPost_ret (v := .tuple #[.agg #[.int .i64 p, .int .i64 q], .bool ok]) (by simp [results, Try.results45, go_sem, c0, c1]) rfl ⟨rfl, ?_⟩
  exact (BB.out.setCell (p := ⟨w.heap.size + 1 + 1, 0, none⟩) (by simp; omega) _).setCell (p := ⟨w.heap.size + 1 + 1, 1, none⟩) (by simp; omega) _
theorem timesI (n d m e : Int) (w : World) :
    Calls Try.prog 45 #[.agg #[.int .i64 n, .int .i64 d], .agg #[.int .i64 m, .int .i64 e]] w (Gives (timesV n d m e) w) := by
  unfold timesV
  cases h1 : isFr n d
  · rw [if_neg (by simp)]; exact timesI_no1 n d m e w h1
  · cases h2 : isFr m e
    · rw [if_neg (by simp)]; exact timesI_no2 n d m e w h1 h2
    · rw [if_pos ⟨rfl, rfl⟩]; exact timesI_yes n d m e w h1 h2
end Go.Proofs.Ytonlibncccljgaa
namespace Go.Proofs.Ytonlibncccljgaa
open Go.RowKit
set_option linter.unusedVariables false
/-- The sum of two pairs. -/
def addA (n d m e : Int) : Int := cutN (n * e + m * d) (d * e)
def addD (n d m e : Int) : Int := cutD (n * e + m * d) (d * e)
/-- The known parts of the first k nodes. -/
def dooL (ps : List Int) (A B : Nat → Int) : Nat → List (Int × Int)
  | 0 => []
  | k + 1 => dooL ps A B k ++ [if k = 0 then (0, 1) else (addA ((dooL ps A B k).getD (ps.getD k 0).toNat (0, 1)).1 ((dooL ps A B k).getD (ps.getD k 0).toNat (0, 1)).2 (A (ps.getD k 0).toNat) (B (ps.getD k 0).toNat), addD ((dooL ps A B k).getD (ps.getD k 0).toNat (0, 1)).1 ((dooL ps A B k).getD (ps.getD k 0).toNat (0, 1)).2 (A (ps.getD k 0).toNat) (B (ps.getD k 0).toNat))]
theorem dooL_len (ps : List Int) (A B : Nat → Int) (k : Nat) : (dooL ps A B k).length = k := by
  induction k with
  | zero => rfl
  | succ k ih => simp [dooL, ih]
theorem dooL_more (ps : List Int) (A B : Nat → Int) {j k m : Nat} (h : j < k) (hm : k ≤ m) : (dooL ps A B m).getD j (0, 1) = (dooL ps A B k).getD j (0, 1) := by
  induction m with
  | zero => omega
  | succ m ih =>
    rcases Nat.lt_or_ge k (m + 1) with h2 | h2
    · rw [dooL, List.getD_eq_getElem?_getD, List.getElem?_append_left (by rw [dooL_len]; omega), ← List.getD_eq_getElem?_getD]; exact ih (by omega)
    · obtain rfl : k = m + 1 := by omega
      rfl
def kno (ps ws zs : List Int) (x : Nat) : Int × Int := (dooL ps (driA ps ws zs) (driB ps ws zs) ps.length).getD x (0, 1)
def knoA (ps ws zs : List Int) (x : Nat) : Int := (kno ps ws zs x).1
def knoB (ps ws zs : List Int) (x : Nat) : Int := (kno ps ws zs x).2
def faiA (ps ws zs : List Int) (x : Nat) : Int := addA (zs.getD x 0) 1 (-knoA ps ws zs x) (knoB ps ws zs x)
def faiB (ps ws zs : List Int) (x : Nat) : Int := addD (zs.getD x 0) 1 (-knoA ps ws zs x) (knoB ps ws zs x)
theorem kno_last (ps ws zs : List Int) {x : Nat} (hx : x < ps.length) : (kno ps ws zs x = if x = 0 then (0, 1) else (addA (knoA ps ws zs (ps.getD x 0).toNat) (knoB ps ws zs (ps.getD x 0).toNat) (driA ps ws zs (ps.getD x 0).toNat) (driB ps ws zs (ps.getD x 0).toNat), addD (knoA ps ws zs (ps.getD x 0).toNat) (knoB ps ws zs (ps.getD x 0).toNat) (driA ps ws zs (ps.getD x 0).toNat) (driB ps ws zs (ps.getD x 0).toNat))) ∨ ¬ (x = 0 ∨ (ps.getD x 0).toNat < x) := by
  by_cases hc : x = 0 ∨ (ps.getD x 0).toNat < x
  · refine .inl ?_
    unfold knoA knoB kno
    rw [dooL_more ps _ _ (j := x) (k := x + 1) (by omega) (by omega), dooL, List.getD_eq_getElem?_getD, List.getElem?_append_right (by rw [dooL_len]; omega), dooL_len, Nat.sub_self]
    by_cases h0 : x = 0
    · rw [if_pos h0, if_pos h0]; rfl
    · rw [if_neg h0, if_neg h0]
      have hp : (ps.getD x 0).toNat < x := by omega
      rw [dooL_more ps _ _ (j := (ps.getD x 0).toNat) (k := x) (m := ps.length) hp (by omega)]
      rfl
  · exact .inr hc
theorem kno_zero {ps ws zs : List Int} (h : 1 ≤ ps.length) : knoA ps ws zs 0 = 0 ∧ knoB ps ws zs 0 = 1 := by
  rcases kno_last ps ws zs (x := 0) (by omega) with h1 | h1
  · unfold knoA knoB; rw [h1]; exact ⟨rfl, rfl⟩
  · exact absurd (.inl rfl) h1
theorem kno_step {ps ws zs : List Int} (hp : ParOk ps) {x : Nat} (h0 : 0 < x) (hx : x < ps.length) :
    knoA ps ws zs x = addA (knoA ps ws zs (ps.getD x 0).toNat) (knoB ps ws zs (ps.getD x 0).toNat) (driA ps ws zs (ps.getD x 0).toNat) (driB ps ws zs (ps.getD x 0).toNat) ∧
    knoB ps ws zs x = addD (knoA ps ws zs (ps.getD x 0).toNat) (knoB ps ws zs (ps.getD x 0).toNat) (driA ps ws zs (ps.getD x 0).toNat) (driB ps ws zs (ps.getD x 0).toNat) := by
  have hl := par_lt hp h0 hx
  rcases kno_last ps ws zs hx with h1 | h1
  · rw [if_neg (by omega)] at h1
    exact ⟨congrArg Prod.fst h1, congrArg Prod.snd h1⟩
  · exact absurd (.inr hl) h1
/-- Both parts of a node are fractions. -/
def dooOk (ps ws zs : List Int) (x : Nat) : Bool := isFr (knoA ps ws zs x) (knoB ps ws zs x) && isFr (faiA ps ws zs x) (faiB ps ws zs x)
def dooB (ps ws zs : List Int) : Bool := procB ps ws zs && (List.range ps.length).all (dooOk ps ws zs)
def dooN (ps ws zs : List Int) : Nat := if dooB ps ws zs = true then ps.length else 0
def dooF (ps ws zs : List Int) : List Int := if dooB ps ws zs = true then prL (faiA ps ws zs) (faiB ps ws zs) ps.length else []
def dooK (ps ws zs : List Int) : List Int := if dooB ps ws zs = true then prL (knoA ps ws zs) (knoB ps ws zs) ps.length else []
theorem dooN_le (ps ws zs : List Int) : dooN ps ws zs ≤ 1048576 := by
  unfold dooN
  split
  · rename_i h
    unfold dooB at h
    rw [Bool.and_eq_true] at h
    have := (procB_iff.1 h.1).good.n24
    omega
  · omega
theorem doo_no {ps ws zs : List Int} (h : dooB ps ws zs = false) : dooN ps ws zs = 0 ∧ dooF ps ws zs = [] ∧ dooK ps ws zs = [] := by
  unfold dooN dooF dooK; rw [h]; exact ⟨rfl, rfl, rfl⟩
theorem doo_yes {ps ws zs : List Int} (h : dooB ps ws zs = true) : dooN ps ws zs = ps.length ∧ dooF ps ws zs = prL (faiA ps ws zs) (faiB ps ws zs) ps.length ∧ dooK ps ws zs = prL (knoA ps ws zs) (knoB ps ws zs) ps.length := by
  unfold dooN dooF dooK; rw [if_pos h, if_pos h, if_pos h]; exact ⟨rfl, rfl, rfl⟩
theorem dooB_noP {ps ws zs : List Int} (h : procB ps ws zs = false) : dooB ps ws zs = false := by unfold dooB; rw [h]; rfl
theorem dooB_bad {ps ws zs : List Int} {x : Nat} (hx : x < ps.length) (h : dooOk ps ws zs x = false) : dooB ps ws zs = false := by
  cases hb : dooB ps ws zs
  · rfl
  · unfold dooB at hb
    rw [Bool.and_eq_true, List.all_eq_true] at hb
    rw [hb.2 x (List.mem_range.2 hx)] at h
    cases h
theorem dooB_all {ps ws zs : List Int} (hp : procB ps ws zs = true) (h : ∀ x, x < ps.length → dooOk ps ws zs x = true) : dooB ps ws zs = true := by
  unfold dooB
  rw [hp, Bool.true_and, List.all_eq_true]
  exact fun x hx => h x (List.mem_range.1 hx)
theorem dri_fr {ps ws zs : List Int} (p : Proc ps ws zs) {x : Nat} (hx : x < ps.length) : isFr (driA ps ws zs x) (driB ps ws zs x) = true := by
  have h1 := driX_bd p hx (Nat.le_refl _)
  have h2 := sums_pos p.good x hx
  have h3 := (sumsT_bd p.good x hx).2
  unfold driA driB
  rw [isFr_cut h2]
  exact small_inB (by omega) (by omega)
theorem add_fr {n d m e : Int} (hd : 0 < d) (he : 0 < e) : isFr (addA n d m e) (addD n d m e) = inB (addA n d m e) (addD n d m e) := isFr_cut (Int.mul_pos hd he)
theorem fr_neg {n d : Int} (h : isFr n d = true) : isFr (-n) d = true := by
  rw [isFr_iff] at h ⊢
  rw [gI_neg]
  omega
theorem fr_one {z : Int} (h : -999 ≤ z ∧ z ≤ 999) : isFr z 1 = true := by
  rw [isFr_iff]
  refine ⟨by omega, ?_⟩
  unfold gI; simp
theorem mul_bdD {x y : Int} (X Y : Nat) (hx : -(X : Int) ≤ x ∧ x ≤ X) (hy : -(Y : Int) ≤ y ∧ y ≤ Y) : -((X : Int) * Y) ≤ x * y ∧ x * y ≤ (X : Int) * Y := by
  have h := Nat.mul_le_mul (show x.natAbs ≤ X by omega) (show y.natAbs ≤ Y by omega)
  rw [← Int.natAbs_mul] at h
  have e : ((X * Y : Nat) : Int) = (X : Int) * Y := Int.natCast_mul X Y
  omega
/-- What is known of the parts, fractions or not. -/
theorem kno_wide {ps ws zs : List Int} (p : Proc ps ws zs) {x : Nat} (hx : x < ps.length) (h : 0 < x → isFr (knoA ps ws zs (ps.getD x 0).toNat) (knoB ps ws zs (ps.getD x 0).toNat) = true) :
    (-30000000000000 ≤ knoA ps ws zs x ∧ knoA ps ws zs x ≤ 30000000000000) ∧ 1 ≤ knoB ps ws zs x ∧ knoB ps ws zs x ≤ 1000000000 := by
  by_cases h0 : x = 0
  · subst h0
    obtain ⟨h1, h2⟩ := kno_zero (ws := ws) (zs := zs) p.good.n1
    omega
  · have hp := ParOk.of p.good
    have hl := par_lt hp (show 0 < x by omega) hx
    obtain ⟨h1, h2⟩ := kno_step (ws := ws) (zs := zs) hp (show 0 < x by omega) hx
    have h3 := ((isFr_iff _ _).1 (h (by omega))).1
    have h4 := driAB_bd p (x := (ps.getD x 0).toNat) (by omega)
    rw [h1, h2]
    unfold addA addD
    obtain ⟨n, hn⟩ : ∃ n, n = knoA ps ws zs (ps.getD x 0).toNat := ⟨_, rfl⟩
    obtain ⟨d, hd⟩ : ∃ n, n = knoB ps ws zs (ps.getD x 0).toNat := ⟨_, rfl⟩
    obtain ⟨m, hm⟩ : ∃ n, n = driA ps ws zs (ps.getD x 0).toNat := ⟨_, rfl⟩
    obtain ⟨e, he⟩ : ∃ n, n = driB ps ws zs (ps.getD x 0).toNat := ⟨_, rfl⟩
    rw [← hn, ← hd] at h3
    rw [← hm, ← he] at h4
    rw [← hn, ← hd, ← hm, ← he]
    have q1 := mul_bdD (x := n) (y := e) 1000000000 480 (by omega) (by omega)
    have q2 := mul_bdD (x := m) (y := d) 23016960 1000000 (by omega) (by omega)
    have q3 := mul_bdD (x := d) (y := e) 1000000 480 (by omega) (by omega)
    have q4 := Int.mul_pos (show 0 < d by omega) (show 0 < e by omega)
    have q5 := abs_cutN (a := n * e + m * d) (b := d * e) 30000000000000 (by omega) (by omega)
    have q6 := cutD_le (a := n * e + m * d) q4
    have q7 := cutD_pos (a := n * e + m * d) q4
    omega
end Go.Proofs.Ytonlibncccljgaa
namespace Go.Proofs.Ytonlibncccljgaa
open Go.RowKit
set_option linter.unusedVariables false
/-- Two rows in new memory of their own, and whether there are any. -/
def NewQQB (n : Nat) (fs gs : List Int) (ok : Bool) (w : World) (e : Ending) (w' : World) : Prop := ∃ v1 v2 mid, e = .returned (.tuple #[v1, v2, .bool ok]) ∧ w.heap.size ≤ mid ∧ mid ≤ w'.heap.size ∧ OwnQ w' w.heap.size mid v1 n fs ∧ OwnQ w' mid w'.heap.size v2 n gs ∧ Below w.heap.size w w'
theorem newQQ_empty {w w1 : World} (hb : Below w.heap.size w w1) : NewQQB 0 [] [] false w (.returned (.tuple #[.slice (some ⟨w1.heap.size, 0, none⟩) 0 0, .slice (some ⟨w1.heap.size + 1, 0, none⟩) 0 0, .bool false])) ((w1.alloc (.cells #[] 55)).alloc (.cells #[] 55)) := by
  have e1 : (w1.alloc (.cells #[] 55)).heap.size = w1.heap.size + 1 := by simp
  have o1 := OwnQ.empty w1 w.heap.size hb.size
  rw [e1] at o1
  have o2 := OwnQ.empty (w1.alloc (.cells #[] 55)) (w1.heap.size + 1) (by simp)
  rw [e1] at o2
  refine ⟨_, _, w1.heap.size + 1, rfl, by have := hb.size; omega, by simp, ?_, o2, (hb.alloc hb.size _).alloc (by have := hb.size; simp; omega) _⟩
  exact o1.below (by rw [← e1]; exact (Below.refl _ _).alloc (Nat.le_refl _) _)
theorem OwnQ.far {w : World} {lo hi n g a b : Nat} {v : Value} {fs : List Int} {u x : Value} (h : OwnQ w lo hi v n fs) (hd : hi ≤ g ∨ g + 1 ≤ lo) : OwnQ ((w.setCell ⟨g, a, none⟩ u).setCell ⟨g, b, none⟩ x) lo hi v n fs :=
  (h.alt (Alt.setC w g a u) hd).alt (Alt.setC _ g b x) hd
theorem set_over {fs : List Int} {i j : Nat} {a b x y : Int} (h : i ≠ j) : ((((fs.set i x).set j y).set i a).set j b) = (fs.set i a).set j b := by
  rw [List.set_comm _ _ h.symm, List.set_set, List.set_set]
theorem keptV_yes {n d : Int} (h : inB n d = true) : keptV n d = .tuple #[.agg #[.int .i64 n, .int .i64 d], .bool true] := by unfold keptV; rw [if_pos h]
theorem keptV_no {n d : Int} (h : inB n d = false) : keptV n d = .tuple #[.agg #[.int .i64 0, .int .i64 0], .bool false] := by unfold keptV; rw [if_neg (by rw [h]; decide)]
theorem near2 {X : World} {g o a b : Nat} {u v : Value} (h1 : o ≠ a) (h2 : o ≠ b) : ((X.setCell ⟨g, a, none⟩ u).setCell ⟨g, b, none⟩ v).cell? ⟨g, o, none⟩ = X.cell? ⟨g, o, none⟩ := by
  rw [World.cell?_setCell_other _ _ _ _ (by intro c; injection c; omega), World.cell?_setCell_other _ _ _ _ (by intro c; injection c; omega)]
/-- What stands at the head of a round. -/
structure DooSt (w : World) (v1 v2 : Value) (n : Nat) (A B kA kB fA fB : Nat → Int) (gd GF GK k k' : Nat) (wx : World) : Prop where
  dr : ∀ j, j < n → wx.cell? ⟨gd, j * 2, none⟩ = some (.int .i64 (A j)) ∧ wx.cell? ⟨gd, j * 2 + 1, none⟩ = some (.int .i64 (B j))
  fr : OwnQ wx GF GK (.slice (some ⟨GF, 0, none⟩) n n) n (halfQ fA fB n k)
  kn : OwnQ wx GK wx.heap.size (.slice (some ⟨GK, 0, none⟩) n n) n (halfQ kA kB n k')
  gds : gd < wx.heap.size
  box : TBox wx w.heap.size v1 v2
  bel : Below w.heap.size w wx
theorem DooSt.next {w a b : World} {v1 v2 : Value} {n : Nat} {A B kA kB fA fB : Nat → Int} {gd GF GK k k' : Nat} (h : DooSt w v1 v2 n A B kA kB fA fB gd GF GK k k' a) (hb : Below a.heap.size a b) : DooSt w v1 v2 n A B kA kB fA fB gd GF GK k k' b :=
  ⟨fun j hj => ⟨(hb.cell (p := ⟨gd, j * 2, none⟩) h.gds).trans (h.dr j hj).1, (hb.cell (p := ⟨gd, j * 2 + 1, none⟩) h.gds).trans (h.dr j hj).2⟩, h.fr.below (hb.mono h.fr.room), (h.kn.below hb).wide hb.size (Nat.le_refl _), Nat.lt_of_lt_of_le h.gds hb.size, h.box.below hb h.box.lt, h.bel.trans (hb.mono h.bel.size)⟩
/-- A pair is stored in the known row. -/
theorem DooSt.setK {w a : World} {v1 v2 : Value} {n : Nat} {A B kA kB fA fB : Nat → Int} {gd GF GK k k' : Nat} (h : DooSt w v1 v2 n A B kA kB fA fB gd GF GK k k' a) (hne : gd < GF ∧ GF < GK ∧ w.heap.size < GF) {x y : Int} (hx : InI64 x) (hy : InI64 y) (i : Nat) {fs : List Int} (hfs : ((halfQ kA kB n k').set (i * 2) x).set (i * 2 + 1) y = fs) :
    OwnQ ((a.setCell ⟨GK, i * 2, none⟩ (.int .i64 x)).setCell ⟨GK, i * 2 + 1, none⟩ (.int .i64 y)) GK a.heap.size (.slice (some ⟨GK, 0, none⟩) n n) n fs ∧
    (∀ j, j < n → ((a.setCell ⟨GK, i * 2, none⟩ (.int .i64 x)).setCell ⟨GK, i * 2 + 1, none⟩ (.int .i64 y)).cell? ⟨gd, j * 2, none⟩ = some (.int .i64 (A j)) ∧ ((a.setCell ⟨GK, i * 2, none⟩ (.int .i64 x)).setCell ⟨GK, i * 2 + 1, none⟩ (.int .i64 y)).cell? ⟨gd, j * 2 + 1, none⟩ = some (.int .i64 (B j))) ∧
    OwnQ ((a.setCell ⟨GK, i * 2, none⟩ (.int .i64 x)).setCell ⟨GK, i * 2 + 1, none⟩ (.int .i64 y)) GF GK (.slice (some ⟨GF, 0, none⟩) n n) n (halfQ fA fB n k) ∧
    TBox ((a.setCell ⟨GK, i * 2, none⟩ (.int .i64 x)).setCell ⟨GK, i * 2 + 1, none⟩ (.int .i64 y)) w.heap.size v1 v2 ∧
    Below w.heap.size w ((a.setCell ⟨GK, i * 2, none⟩ (.int .i64 x)).setCell ⟨GK, i * 2 + 1, none⟩ (.int .i64 y)) := by
  subst hfs
  refine ⟨h.kn.set2 i hx hy, fun j hj => ⟨(far2q (by omega)).trans (h.dr j hj).1, (far2q (by omega)).trans (h.dr j hj).2⟩, h.fr.far (.inl (Nat.le_refl _)), (h.box.set (by omega)).set (by omega), (h.bel.setCell (p := ⟨GK, i * 2, none⟩) (by show w.heap.size ≤ GK; omega) _).setCell (p := ⟨GK, i * 2 + 1, none⟩) (by show w.heap.size ≤ GK; omega) _⟩
theorem DooSt.setK' {w a : World} {v1 v2 : Value} {n : Nat} {A B kA kB fA fB : Nat → Int} {gd GF GK k k' : Nat} (h : DooSt w v1 v2 n A B kA kB fA fB gd GF GK k k' a) (hne : gd < GF ∧ GF < GK ∧ w.heap.size < GF) (hk : k' < n) (hx : InI64 (kA k')) (hy : InI64 (kB k')) :
    DooSt w v1 v2 n A B kA kB fA fB gd GF GK k (k' + 1) ((a.setCell ⟨GK, k' * 2, none⟩ (.int .i64 (kA k'))).setCell ⟨GK, k' * 2 + 1, none⟩ (.int .i64 (kB k'))) := by
  obtain ⟨h1, h2, h3, h4, h5⟩ := h.setK hne hx hy k' (halfQ_set kA kB hk)
  exact ⟨h2, h3, by simpa using h1, by simpa using h.gds, h4, h5⟩
theorem DooSt.setF' {w a : World} {v1 v2 : Value} {n : Nat} {A B kA kB fA fB : Nat → Int} {gd GF GK k k' : Nat} (h : DooSt w v1 v2 n A B kA kB fA fB gd GF GK k k' a) (hne : gd < GF ∧ GF < GK ∧ w.heap.size < GF) (hk : k < n) (hx : InI64 (fA k)) (hy : InI64 (fB k)) :
    DooSt w v1 v2 n A B kA kB fA fB gd GF GK (k + 1) k' ((a.setCell ⟨GF, k * 2, none⟩ (.int .i64 (fA k))).setCell ⟨GF, k * 2 + 1, none⟩ (.int .i64 (fB k))) := by
  refine ⟨fun j hj => ⟨(far2q (by omega)).trans (h.dr j hj).1, (far2q (by omega)).trans (h.dr j hj).2⟩, ?_, ?_, by simpa using h.gds, (h.box.set (by omega)).set (by omega), (h.bel.setCell (p := ⟨GF, k * 2, none⟩) (by show w.heap.size ≤ GF; omega) _).setCell (p := ⟨GF, k * 2 + 1, none⟩) (by show w.heap.size ≤ GF; omega) _⟩
  · rw [← halfQ_set fA fB hk]; exact h.fr.set2 k hx hy
  · have := h.kn.far (g := GF) (a := k * 2) (b := k * 2 + 1) (u := .int .i64 (fA k)) (x := .int .i64 (fB k)) (.inr (by omega))
    simpa using this
theorem DooSt.cellK {w a : World} {v1 v2 : Value} {n : Nat} {A B kA kB fA fB : Nat → Int} {gd GF GK k k' : Nat} (h : DooSt w v1 v2 n A B kA kB fA fB gd GF GK k k' a) {j : Nat} (hj : j < k') (hk : k' ≤ n) : a.cell? ⟨GK, j * 2, none⟩ = some (.int .i64 (kA j)) ∧ a.cell? ⟨GK, j * 2 + 1, none⟩ = some (.int .i64 (kB j)) := by
  have h1 := h.kn.cellGet (j := j * 2) (by omega)
  have h2 := h.kn.cellGet (j := j * 2 + 1) (by omega)
  have e1 : (halfQ kA kB n k').getD (j * 2) 0 = kA j := by unfold halfQ; rw [getD_app_left (by rw [prL_len]; omega)]; exact (prL_at kA kB hj).1
  have e2 : (halfQ kA kB n k').getD (j * 2 + 1) 0 = kB j := by unfold halfQ; rw [getD_app_left (by rw [prL_len]; omega)]; exact (prL_at kA kB hj).2
  rw [e1] at h1; rw [e2] at h2
  exact ⟨h1, h2⟩
set_option maxRecDepth 100000 in
set_option maxHeartbeats 16000000 in
theorem dooI (ps ws zs : List Int) (v u : Value) (w : World) (hn9 : zs.length ≤ 1048576) (h : TreeV w w.heap.size v ps ws) (hu : IntsV w w.heap.size u zs) :
    Calls Try.prog 30 #[v, u] w (NewQQB (dooN ps ws zs) (dooF ps ws zs) (dooK ps ws zs) (dooB ps ws zs) w) := by
  have DI := Lib.hid (fun w' (hb : Below w.heap.size w w') => driftsI ps ws zs v u w' hn9 (h.boxed hb) ((hu.below hb).more hb.size))
  obtain ⟨v1, v2, rfl, ⟨p1, c1, rfl, l1, m1, _, i1⟩, ⟨p2, c2, rfl, l2, m2, _, i2⟩⟩ := h
  have P1 := Lib.hid i1
  clear i1 i2 m1 m2 l1 l2
  obtain ⟨q1, d1, rfl, _, _, _, j1⟩ := hu
  have Q1 := Lib.hid j1
  clear j1
  have B1 := (Below.refl w.heap.size w).alloc (Nat.le_refl _) (.cells #[.slice p1 ps.length c1, .slice p2 ws.length c2] 29)
  obtain ⟨wa, hwa⟩ : ∃ wa, wa = w.alloc (.cells #[.slice p1 ps.length c1, .slice p2 ws.length c2] 29) := ⟨_, rfl⟩
  have T1 : Hid (TBox wa w.heap.size (.slice p1 ps.length c1) (.slice p2 ws.length c2)) := Lib.hid (by rw [hwa]; exact alloc_heap w _)
  rw [← hwa] at B1
  have HBA := Lib.hid B1
  clear B1
  obtain ⟨x0, x1⟩ := T1.out.cells
  cases hp : procB ps ws zs
  · rw [hp, show driLen ps ws zs = 0 by unfold driLen; rw [hp]; rfl] at DI
    have DB := dooB_noP hp
    obtain ⟨e1, e2, e3⟩ := doo_no DB
    have R := Lib.hid (And.intro e1 (And.intro e2 (And.intro e3 DB)))
    clear hp DB e1 e2 e3
    go_enter Try.func30, Try.ntmps30
    go_wp2_with fail
    rw [← hwa]
    clear hwa
    refine (DI.out _ HBA.out).mono ?_
    rintro e w1 ⟨um, rfl, o1, b1⟩
    obtain ⟨pm, cm, rfl, _⟩ := o1.opened
    have HB1 := Lib.hid (HBA.out.trans (b1.mono HBA.out.size))
    clear b1 o1
    go_wp2_with fail
    go_ret3
    rw [R.out.1, R.out.2.1, R.out.2.2.1, R.out.2.2.2]
    exact newQQ_empty HB1.out
  · have PR := Lib.hid (procB_iff.1 hp)
    have hn1 := PR.out.good.n1
    have hn24 := PR.out.good.n24
    have hlz1 : zs.length ≤ ps.length := Nat.le_of_eq PR.out.len
    have hlz2 : ps.length ≤ zs.length := Nat.le_of_eq PR.out.len.symm
    rw [hp, show driLen ps ws zs = ps.length by unfold driLen; rw [if_pos hp], show drisL ps ws zs = prL (driA ps ws zs) (driB ps ws zs) ps.length by unfold drisL; rw [if_pos hp]] at DI
    have hpo := ParOk.of PR.out.good
    have GP := Lib.hid PR.out.good.par
    have ZB := Lib.hid PR.out.bd
    have DF := Lib.hid (fun x (hx : x < ps.length) => dri_fr PR.out hx)
    have DBD := Lib.hid (fun x (hx : x < ps.length) => driAB_bd PR.out hx)
    have K0 := Lib.hid (kno_zero (ws := ws) (zs := zs) hn1)
    have KS := Lib.hid (fun (x : Nat) (h0 : 0 < x) (hx : x < ps.length) => kno_step (ws := ws) (zs := zs) hpo h0 hx)
    have BAD := Lib.hid (fun (x : Nat) (hx : x < ps.length) (h : dooOk ps ws zs x = false) => dooB_bad hx h)
    have NO := Lib.hid (fun (h : dooB ps ws zs = false) => doo_no h)
    have YES := Lib.hid (fun (h : dooB ps ws zs = true) => doo_yes h)
    have ALLK := Lib.hid (fun (h : ∀ x, x < ps.length → dooOk ps ws zs x = true) => dooB_all hp h)
    have OKD : Hid (∀ x, dooOk ps ws zs x = (isFr (knoA ps ws zs x) (knoB ps ws zs x) && isFr (faiA ps ws zs x) (faiB ps ws zs x))) := Lib.hid (fun x => rfl)
    have FD : Hid (∀ x, faiA ps ws zs x = addA (zs.getD x 0) 1 (-knoA ps ws zs x) (knoB ps ws zs x) ∧ faiB ps ws zs x = addD (zs.getD x 0) 1 (-knoA ps ws zs x) (knoB ps ws zs x)) := Lib.hid (fun x => ⟨rfl, rfl⟩)
    clear hp hpo
    obtain ⟨A, hA⟩ : ∃ A, A = driA ps ws zs := ⟨_, rfl⟩
    obtain ⟨B, hB⟩ : ∃ B, B = driB ps ws zs := ⟨_, rfl⟩
    obtain ⟨kA, hkA⟩ : ∃ A, A = knoA ps ws zs := ⟨_, rfl⟩
    obtain ⟨kB, hkB⟩ : ∃ A, A = knoB ps ws zs := ⟨_, rfl⟩
    obtain ⟨fA, hfA⟩ : ∃ A, A = faiA ps ws zs := ⟨_, rfl⟩
    obtain ⟨fB, hfB⟩ : ∃ A, A = faiB ps ws zs := ⟨_, rfl⟩
    rw [← hA] at DI DF KS DBD
    rw [← hB] at DI DF KS DBD
    rw [← hkA] at K0 KS OKD FD YES
    rw [← hkB] at K0 KS OKD FD YES
    rw [← hfA] at OKD FD YES
    rw [← hfB] at OKD FD YES
    clear hA hB hkA hkB hfA hfB
    obtain ⟨i0, hif, hz0, hz1, hz2⟩ := info_parts pairInfo
    have c1' : i0.bytes * ps.length ≤ 281474976710656 := by rw [hz2]; omega
    have c2' : ps.length ≤ maxLen := by unfold maxLen; omega
    rw [show zs.length = ps.length by omega]
    go_enter Try.func30, Try.ntmps30
    go_wp2_with fail
    rw [← hwa]
    clear hwa
    rw [show zs.length = ps.length by omega] at DI
    refine (DI.out _ HBA.out).mono ?_
    rintro e w1 ⟨um, rfl, o1, b1⟩
    obtain ⟨gd, cd, rfl, _, hgd⟩ := o1.shape hn1
    have HB1 := Lib.hid (HBA.out.trans (b1.mono HBA.out.size))
    have T2 := Lib.hid (T1.out.below b1 T1.out.lt)
    have DM : Hid (∀ j, j < ps.length → w1.cell? ⟨gd, j * 2, none⟩ = some (.int .i64 (A j)) ∧ w1.cell? ⟨gd, j * 2 + 1, none⟩ = some (.int .i64 (B j))) := Lib.hid (fun j hj => by
      have h0 := o1.cellGet (j := j * 2) (by omega)
      have h1 := o1.cellGet (j := j * 2 + 1) (by omega)
      rw [(prL_at A B hj).1] at h0
      rw [(prL_at A B hj).2] at h1
      exact ⟨h0, h1⟩)
    have HGD := Lib.hid hgd
    clear b1 o1 x0 x1 T1 HBA DI hgd
    obtain ⟨x0, x1⟩ := T2.out.cells
    go_wp2_with (first
      | (at_make; refine wpList_make_full _ rfl _ _ 26 rfl w1.heap.size 55 i0 (.agg #[.int .i64 0, .int .i64 0]) 2 Try.underlying26 hif hz0 hz1 .i64 .i64 _ _ ps.length rfl rfl rfl rfl c1' c2' (Nat.le_refl _) ?_; intro w2 hown2 hgr2; (have OF := Lib.hid (OwnQ.made hown2)); (have b2 : Below w1.heap.size w1 w2 := (Below.refl _ _).grown hgr2 (Nat.le_refl _) (by simp)); (have B2 := Lib.hid b2); (have S2 := (hown2.lt w1.heap.size rfl).2); (have T3 := T2.out.below b2 T2.out.lt); (obtain ⟨y0, y1⟩ := T3.cells); (have T3' := Lib.hid T3); clear hown2 hgr2 b2 T3)
      | (at_make; refine wpList_make_full _ rfl _ _ 26 rfl w2.heap.size 55 i0 (.agg #[.int .i64 0, .int .i64 0]) 2 Try.underlying26 hif hz0 hz1 .i64 .i64 _ _ ps.length rfl rfl rfl rfl c1' c2' (Nat.le_refl _) ?_; intro w3 hown3 hgr3; (have OK := Lib.hid (OwnQ.made hown3)); (have b3 : Below w2.heap.size w2 w3 := (Below.refl _ _).grown hgr3 (Nat.le_refl _) (by simp)); (have B3 := Lib.hid b3); (have S3 := (hown3.lt w2.heap.size rfl).2); (have T4 := T3'.out.below b3 T3'.out.lt); (obtain ⟨z0, z1⟩ := T4.cells); (have T4' := Lib.hid T4); clear hown3 hgr3 b3 T4))
    have ST0 : Hid (DooSt w (.slice p1 ps.length c1) (.slice p2 ws.length c2) ps.length A B kA kB fA fB gd w1.heap.size w2.heap.size 0 0 w3) := Lib.hid (by
      have e1 := HGD.out
      have b13 : Below w1.heap.size w1 w3 := B2.out.trans (B3.out.mono B2.out.size)
      refine ⟨fun j hj => ⟨(b13.cell (p := ⟨gd, j * 2, none⟩) e1).trans (DM.out j hj).1, (b13.cell (p := ⟨gd, j * 2 + 1, none⟩) e1).trans (DM.out j hj).2⟩, ?_, ?_, by omega, T4'.out, HB1.out.trans (b13.mono HB1.out.size)⟩
      · rw [halfQ_zero]; exact OF.out.below B3.out
      · rw [halfQ_zero]; exact OK.out)
    obtain ⟨GF, hGF⟩ : ∃ G, G = w1.heap.size := ⟨_, rfl⟩
    obtain ⟨GK, hGK⟩ : ∃ G, G = w2.heap.size := ⟨_, rfl⟩
    have NG : Hid (gd < GF ∧ GF < GK ∧ w.heap.size < GF) := Lib.hid (by have := HGD.out; have := T2.out.lt; omega)
    rw [← hGF, ← hGK] at ST0 ⊢
    clear DM HGD OF OK B2 B3 S2 S3 T3' T4' T2 HB1 x0 x1 y0 y1 z0 z1 hGF hGK c1' c2' hif hz0 hz1 hz2
    go_wp2_with fail
    go_loopg [8, 32] ps.length (fun gg o i wr => ∃ k : Nat, k ≤ ps.length ∧ ps.length - k ≤ gg ∧ o = .bool true ∧ i = .int .i64 k ∧ Hid (DooSt w (.slice p1 ps.length c1) (.slice p2 ws.length c2) ps.length A B kA kB fA fB gd GF GK k k wr) ∧ Hid (∀ j, j < k → dooOk ps ws zs j = true))
    case atStart => exact ⟨0, Nat.zero_le _, by omega, rfl, rfl, ST0, Lib.hid (fun j hj => by omega)⟩
    case round =>
      obtain ⟨k, hk, hgg, rfl, rfl, HS, HU⟩ := hrel
      clear ST0
      by_cases hlt : k < ps.length
      · have NX : Hid (dooOk ps ws zs k = true → ∀ j, j < k + 1 → dooOk ps ws zs j = true) := Lib.hid (fun h j hj => by
          rcases Nat.lt_or_ge j k with h' | h'
          · exact HU.out j h'
          · obtain rfl : j = k := by omega
            exact h)
        have NOK : Hid (∀ (w9 : World) (s : Nat), s = w9.heap.size → Below w.heap.size w w9 → dooOk ps ws zs k = false → NewQQB (dooN ps ws zs) (dooF ps ws zs) (dooK ps ws zs) (dooB ps ws zs) w (.returned (.tuple #[.slice (some ⟨s, 0, none⟩) 0 0, .slice (some ⟨s + 1, 0, none⟩) 0 0, .bool false])) ((w9.alloc (.cells #[] 55)).alloc (.cells #[] 55))) := Lib.hid (fun w9 s hs hb h => by
          subst hs
          have DB := BAD.out k hlt h
          obtain ⟨e1, e2, e3⟩ := NO.out DB
          rw [e1, e2, e3, DB]
          exact newQQ_empty hb)
        obtain ⟨bz, oz, rfl, hbz, hcz⟩ := Q1.out.get (i := k) (by omega)
        have CZ : Hid (∀ wx, Below w.heap.size w wx → wx.cell? ⟨bz, oz + k, none⟩ = some (.int .i64 (zs.getD k 0))) := Lib.hid (fun wx hbb => by rw [hbb.cell (p := ⟨bz, oz + k, none⟩) hbz]; exact hcz)
        obtain ⟨b, off, rfl, hb, hc⟩ := P1.out.get hlt
        have CP : Hid (∀ wx, Below w.heap.size w wx → wx.cell? ⟨b, off + k, none⟩ = some (.int .i64 (ps.getD k 0))) := Lib.hid (fun wx hbb => by rw [hbb.cell (p := ⟨b, off + k, none⟩) hb]; exact hc)
        have zb := ZB.out k (by omega)
        have F1 : isFr (zs.getD k 0) 1 = true := fr_one zb
        have ok1 := OKD.out k
        obtain ⟨fd1, fd2⟩ := FD.out k
        have i0' : (0 : Int) ≤ (k : Int) := by omega
        have i1' : (k : Int) < (ps.length : Int) := by omega
        have i2' : (k : Int) < (zs.length : Int) := by omega
        have HPC := Lib.hid (CP.out wr HS.out.bel)
        clear hcz hc CP
        by_cases hk0 : k = 0
        · have ka0 : kA k = 0 ∧ kB k = 1 := by rw [hk0]; exact K0.out
          have KF : isFr (kA k) (kB k) = true := by
            rw [ka0.1, ka0.2, isFr_iff]
            exact ⟨by omega, by unfold gI; rfl⟩
          have hkI : InI64 (kA k) ∧ InI64 (kB k) := by rw [ka0.1, ka0.2]; unfold InI64; omega
          have SK := HS.out.setK' NG.out hlt hkI.1 hkI.2
          have HS9' := Lib.hid SK
          have t0 := HS.out.kn.cellGet (j := k * 2) (by omega)
          have t1 := HS.out.kn.cellGet (j := k * 2 + 1) (by omega)
          have f0 := HS.out.kn.row.frozenAt (k * 2)
          have f1 := HS.out.kn.row.frozenAt (k * 2 + 1)
          rw [ka0.1, ka0.2] at HS9'
          obtain ⟨W2, hW2⟩ : ∃ W2, W2 = (wr.setCell ⟨GK, k * 2, none⟩ (.int .i64 0)).setCell ⟨GK, k * 2 + 1, none⟩ (.int .i64 1) := ⟨_, rfl⟩
          rw [← hW2] at HS9'
          have HS9 := HS9'
          have hkp : ¬ (0 : Int) < (k : Int) := by omega
          have hpc := HPC.out
          clear SK ka0 hkI HS9' HS HU K0 KS hk0
          go_wp2_with fail
          rw [← hW2]
          clear hW2 t0 t1 f0 f1 hpc hkp
          have HC9 := HS9.out.cellK (j := k) (by omega) (by omega)
          have cz9 := CZ.out W2 HS9.out.bel
          have FN : isFr (-kA k) (kB k) = true := fr_neg KF
          obtain ⟨⟨kb1, kb2, kb3, kb4⟩, _⟩ := (isFr_iff _ _).1 KF
          have CF := Lib.hid (fun w' => addI (zs.getD k 0) 1 (-kA k) (kB k) w')
          have AV : addV (zs.getD k 0) 1 (-kA k) (kB k) = keptV (fA k) (fB k) := by
            unfold addV; rw [if_pos ⟨F1, FN⟩, fd1, fd2]; rfl
          rw [AV] at CF
          have IF : isFr (fA k) (fB k) = inB (fA k) (fB k) := by rw [fd1, fd2]; exact add_fr (by omega) (by omega)
          have WN : IntKind.i64.wrap (-kA k) = -kA k := IntWalk.i64_in _ (by omega)
          obtain ⟨ng1, ng2, ng3⟩ := NG.out
          obtain ⟨hc9a, hc9b⟩ := HC9
          clear AV FN F1
          obtain ⟨t, ht⟩ : ∃ t, t = inB (fA k) (fB k) := ⟨_, rfl⟩
          cases t
          · have OKF := Lib.hid (NOK.out)
            have BADK : Hid (dooOk ps ws zs k = false) := Lib.hid (by rw [ok1, KF, IF, ← ht]; rfl)
            rw [keptV_no ht.symm] at CF
            have XI : Hid (InI64 0 ∧ InI64 0) := Lib.hid (by unfold InI64; omega)
            clear IF ht NX KF fd1 fd2 ok1
            obtain ⟨zk, hzk⟩ : ∃ z, z = zs.getD k 0 := ⟨_, rfl⟩
            obtain ⟨ka, hka⟩ : ∃ z, z = kA k := ⟨_, rfl⟩
            obtain ⟨kb, hkb⟩ : ∃ z, z = kB k := ⟨_, rfl⟩
            rw [← hzk] at cz9 CF
            rw [← hka] at hc9a CF WN
            rw [← hkb] at hc9b CF
            have HD : Hid (Below W2.heap.size W2 W2.drew) := Lib.hid (below_drew (Below.refl _ _))
            have HGKs : GK < W2.heap.size := HS9.out.kn.lt GK rfl
            have HBZ : bz < W2.heap.size := Nat.lt_of_lt_of_le hbz HS9.out.bel.size
            have KC : Hid (∀ w', Hid (Below W2.heap.size W2 w') → w'.cell? ⟨bz, oz + k, none⟩ = some (.int .i64 zk) ∧ w'.cell? ⟨GK, k * 2, none⟩ = some (.int .i64 ka) ∧ w'.cell? ⟨GK, k * 2 + 1, none⟩ = some (.int .i64 kb)) := Lib.hid (fun w' hb => ⟨(hb.out.cell (p := ⟨bz, oz + k, none⟩) HBZ).trans cz9, (hb.out.cell (p := ⟨GK, k * 2, none⟩) HGKs).trans hc9a, (hb.out.cell (p := ⟨GK, k * 2 + 1, none⟩) HGKs).trans hc9b⟩)
            have hbw : bz < w.heap.size := hbz
            have nb1 : bz ≠ GF := by omega
            have nb2 : GK ≠ GF := by omega
            clear hzk hka hkb cz9 hc9a hc9b HGKs HBZ hbz
            go_wp2_with fail
            go_region_held3 (fun w' => w'.cell? ⟨bz, oz + k, none⟩ = some (.int .i64 zk) ∧ w'.cell? ⟨GK, k * 2, none⟩ = some (.int .i64 ka) ∧ w'.cell? ⟨GK, k * 2 + 1, none⟩ = some (.int .i64 kb))
              (first | exact KC.out _ HD | exact KC.out _ (by assumption) | exact ⟨(far2q nb1).trans (KC.out _ (by assumption)).1, (far2q nb2).trans (KC.out _ (by assumption)).2.1, (far2q nb2).trans (KC.out _ (by assumption)).2.2⟩ | go_keep)
              (first
                | (go_at_call 43; (with_reducible refine (CF.out _).mono ?_); rintro e w8 ⟨rfl, b8⟩; (have HE8 := hb_nextM (wa := W2) (by first | exact HD | assumption) b8); (have HO8 := Lib.hid (HS9.out.next HE8.out)); (have t0 := HO8.out.fr.cellGet (j := k * 2) (by omega)); (have t1 := HO8.out.fr.cellGet (j := k * 2 + 1) (by omega)); (have f0 := HO8.out.fr.row.frozenAt (k * 2)); (have f1 := HO8.out.fr.row.frozenAt (k * 2 + 1)); clear b8))
            all_goals
              have BN : Below w.heap.size w ((w8.setCell ⟨GF, k * 2, none⟩ (.int .i64 0)).setCell ⟨GF, k * 2 + 1, none⟩ (.int .i64 0)) := (HO8.out.bel.setCell (p := ⟨GF, k * 2, none⟩) (by show w.heap.size ≤ GF; omega) _).setCell (p := ⟨GF, k * 2 + 1, none⟩) (by show w.heap.size ≤ GF; omega) _
              have FIN := Lib.hid (OKF.out _ w8.heap.size (by simp) BN BADK.out)
              clear HE8 HO8 t0 t1 f0 f1 HD KC HS9 BN
              go_wp2_with fail
              go_ret3
              exact FIN.out
          · have OKK : Hid (dooOk ps ws zs k = true) := Lib.hid (by rw [ok1, KF, IF, ← ht]; rfl)
            have N2 := Lib.hid (NX.out OKK.out)
            have XI : Hid (InI64 (fA k) ∧ InI64 (fB k)) := Lib.hid (by have h9 := of_decide_eq_true (show decide _ = true from ht.symm); unfold InI64; omega)
            rw [keptV_yes ht.symm] at CF
            clear IF ht NX NOK KF fd1 fd2 ok1 OKK
            obtain ⟨zk, hzk⟩ : ∃ z, z = zs.getD k 0 := ⟨_, rfl⟩
            obtain ⟨ka, hka⟩ : ∃ z, z = kA k := ⟨_, rfl⟩
            obtain ⟨kb, hkb⟩ : ∃ z, z = kB k := ⟨_, rfl⟩
            rw [← hzk] at cz9 CF
            rw [← hka] at hc9a CF WN
            rw [← hkb] at hc9b CF
            obtain ⟨fa, hfa⟩ : ∃ z, z = fA k := ⟨_, rfl⟩
            obtain ⟨fb, hfb⟩ : ∃ z, z = fB k := ⟨_, rfl⟩
            rw [← hfa] at CF XI
            rw [← hfb] at CF XI
            have HFA := Lib.hid hfa
            have HFB := Lib.hid hfb
            clear hfa hfb
            have HD : Hid (Below W2.heap.size W2 W2.drew) := Lib.hid (below_drew (Below.refl _ _))
            have HGKs : GK < W2.heap.size := HS9.out.kn.lt GK rfl
            have HBZ : bz < W2.heap.size := Nat.lt_of_lt_of_le hbz HS9.out.bel.size
            have KC : Hid (∀ w', Hid (Below W2.heap.size W2 w') → w'.cell? ⟨bz, oz + k, none⟩ = some (.int .i64 zk) ∧ w'.cell? ⟨GK, k * 2, none⟩ = some (.int .i64 ka) ∧ w'.cell? ⟨GK, k * 2 + 1, none⟩ = some (.int .i64 kb)) := Lib.hid (fun w' hb => ⟨(hb.out.cell (p := ⟨bz, oz + k, none⟩) HBZ).trans cz9, (hb.out.cell (p := ⟨GK, k * 2, none⟩) HGKs).trans hc9a, (hb.out.cell (p := ⟨GK, k * 2 + 1, none⟩) HGKs).trans hc9b⟩)
            have hbw : bz < w.heap.size := hbz
            have nb1 : bz ≠ GF := by omega
            have nb2 : GK ≠ GF := by omega
            clear hzk hka hkb cz9 hc9a hc9b HGKs HBZ hbz
            go_wp2_with fail
            go_region_held3 (fun w' => w'.cell? ⟨bz, oz + k, none⟩ = some (.int .i64 zk) ∧ w'.cell? ⟨GK, k * 2, none⟩ = some (.int .i64 ka) ∧ w'.cell? ⟨GK, k * 2 + 1, none⟩ = some (.int .i64 kb))
              (first | exact KC.out _ HD | exact KC.out _ (by assumption) | exact ⟨(far2q nb1).trans (KC.out _ (by assumption)).1, (far2q nb2).trans (KC.out _ (by assumption)).2.1, (far2q nb2).trans (KC.out _ (by assumption)).2.2⟩ | go_keep)
              (first
                | (go_at_call 43; (with_reducible refine (CF.out _).mono ?_); rintro e w8 ⟨rfl, b8⟩; (have HE8 := hb_nextM (wa := W2) (by first | exact HD | assumption) b8); (have HO8 := Lib.hid (HS9.out.next HE8.out)); (have t0 := HO8.out.fr.cellGet (j := k * 2) (by omega)); (have t1 := HO8.out.fr.cellGet (j := k * 2 + 1) (by omega)); (have f0 := HO8.out.fr.row.frozenAt (k * 2)); (have f1 := HO8.out.fr.row.frozenAt (k * 2 + 1)); clear b8))
            all_goals
              have SN : Hid (DooSt w (.slice (some ⟨b, off, none⟩) ps.length c1) (.slice p2 ws.length c2) ps.length A B kA kB fA fB gd GF GK (k + 1) (k + 1) ((w8.setCell ⟨GF, k * 2, none⟩ (.int .i64 fa)).setCell ⟨GF, k * 2 + 1, none⟩ (.int .i64 fb))) := Lib.hid (by
                have h9 := HO8.out.setF' NG.out hlt (by rw [← HFA.out]; exact XI.out.1) (by rw [← HFB.out]; exact XI.out.2)
                rw [← HFA.out, ← HFB.out] at h9
                exact h9)
              clear HE8 HO8 t0 t1 f0 f1 HD KC HS9
              go_wp2_with fail
              go_roundg (ps.length - (k + 1))
              case rel => exact ⟨k + 1, by omega, by omega, rfl, by go_num, SN, N2⟩
              case measure => omega
        · obtain ⟨g1, g2⟩ := GP.out k (by omega) hlt
          obtain ⟨j, hj⟩ : ∃ j : Nat, ps.getD k 0 = (j : Int) := ⟨(ps.getD k 0).toNat, by omega⟩
          have hjk : j < k := by omega
          obtain ⟨ks1, ks2⟩ := KS.out k (by omega) hlt
          rw [hj, Int.toNat_natCast] at ks1 ks2
          have okj := HU.out j hjk
          rw [OKD.out j, Bool.and_eq_true] at okj
          have KJF := okj.1
          have DJF := DF.out j (by omega)
          have DJB := DBD.out j (by omega)
          obtain ⟨⟨jb1, jb2, jb3, jb4⟩, _⟩ := (isFr_iff _ _).1 KJF
          have CK := Lib.hid (fun w' => addI (kA j) (kB j) (A j) (B j) w')
          have AVK : addV (kA j) (kB j) (A j) (B j) = keptV (kA k) (kB k) := by
            unfold addV; rw [if_pos ⟨KJF, DJF⟩, ks1, ks2]; rfl
          rw [AVK] at CK
          have IK : isFr (kA k) (kB k) = inB (kA k) (kB k) := by rw [ks1, ks2]; exact add_fr (by omega) (by omega)
          have hpc := HPC.out
          rw [hj] at hpc
          have hkp : (0 : Int) < (k : Int) := by omega
          have t0 := HS.out.kn.cellGet (j := k * 2) (by omega)
          have t1 := HS.out.kn.cellGet (j := k * 2 + 1) (by omega)
          have f0 := HS.out.kn.row.frozenAt (k * 2)
          have f1 := HS.out.kn.row.frozenAt (k * 2 + 1)
          have SO := HS.out.setK NG.out (x := 0) (y := 1) (by unfold InI64; omega) (by unfold InI64; omega) k rfl
          obtain ⟨W2, hW2⟩ : ∃ W2, W2 = (wr.setCell ⟨GK, k * 2, none⟩ (.int .i64 0)).setCell ⟨GK, k * 2 + 1, none⟩ (.int .i64 1) := ⟨_, rfl⟩
          have hzW : W2.heap.size = wr.heap.size := by rw [hW2]; simp
          have CJ := HS.out.cellK hjk (by omega)
          have cj1 : W2.cell? ⟨GK, j * 2, none⟩ = some (.int .i64 (kA j)) := by rw [hW2, near2 (by omega) (by omega)]; exact CJ.1
          have cj2 : W2.cell? ⟨GK, j * 2 + 1, none⟩ = some (.int .i64 (kB j)) := by rw [hW2, near2 (by omega) (by omega)]; exact CJ.2
          rw [← hW2] at SO
          obtain ⟨so1, so2, so3, so4, so5⟩ := SO
          obtain ⟨cd1, cd2⟩ := so2 j (by omega)
          have GDS : gd < W2.heap.size := by rw [hzW]; exact HS.out.gds
          have SO1 : Hid (OwnQ W2 GK W2.heap.size (.slice (some ⟨GK, 0, none⟩) ps.length ps.length) ps.length (((halfQ kA kB ps.length k).set (k * 2) 0).set (k * 2 + 1) 1)) := Lib.hid (by rw [hzW]; exact so1)
          have SO2 := Lib.hid so2
          have SO3 := Lib.hid so3
          have SO4 := Lib.hid so4
          have SO5 := Lib.hid so5
          have GKS : GK < W2.heap.size := SO1.out.lt GK rfl
          have j0 : (0 : Int) ≤ (j : Int) := by omega
          have j1 : (j : Int) < (ps.length : Int) := by omega
          have HQS := Lib.hid (halfQ_set kA kB hlt)
          clear so1 so2 so3 so4 so5 CJ hzW HS HU K0 KS hj g1 g2 AVK KJF DJF okj
          go_wp2_with fail
          rw [← hW2]
          clear hW2 t0 t1 f0 f1 hpc hkp
          obtain ⟨aj, haj⟩ : ∃ z, z = kA j := ⟨_, rfl⟩
          obtain ⟨bj, hbj⟩ : ∃ z, z = kB j := ⟨_, rfl⟩
          obtain ⟨dj, hdj⟩ : ∃ z, z = A j := ⟨_, rfl⟩
          obtain ⟨ej, hej⟩ : ∃ z, z = B j := ⟨_, rfl⟩
          rw [← haj] at cj1 CK
          rw [← hbj] at cj2 CK
          rw [← hdj] at cd1 CK
          rw [← hej] at cd2 CK
          have HD : Hid (Below W2.heap.size W2 W2.drew) := Lib.hid (below_drew (Below.refl _ _))
          have KC : Hid (∀ w', Hid (Below W2.heap.size W2 w') → w'.cell? ⟨GK, j * 2, none⟩ = some (.int .i64 aj) ∧ w'.cell? ⟨GK, j * 2 + 1, none⟩ = some (.int .i64 bj) ∧ w'.cell? ⟨gd, j * 2, none⟩ = some (.int .i64 dj) ∧ w'.cell? ⟨gd, j * 2 + 1, none⟩ = some (.int .i64 ej)) := Lib.hid (fun w' hb => ⟨(hb.out.cell (p := ⟨GK, j * 2, none⟩) GKS).trans cj1, (hb.out.cell (p := ⟨GK, j * 2 + 1, none⟩) GKS).trans cj2, (hb.out.cell (p := ⟨gd, j * 2, none⟩) GDS).trans cd1, (hb.out.cell (p := ⟨gd, j * 2 + 1, none⟩) GDS).trans cd2⟩)
          obtain ⟨ng1, ng2, ng3⟩ := NG.out
          have nd : gd ≠ GK := by omega
          have ne1 : j * 2 ≠ k * 2 := by omega
          have ne2 : j * 2 ≠ k * 2 + 1 := by omega
          have ne3 : j * 2 + 1 ≠ k * 2 := by omega
          have ne4 : j * 2 + 1 ≠ k * 2 + 1 := by omega
          obtain ⟨t, ht⟩ : ∃ t, t = inB (kA k) (kB k) := ⟨_, rfl⟩
          clear haj hbj hdj hej cj1 cj2 cd1 cd2 DJB jb1 jb2 jb3 jb4 ks1 ks2
          cases t
          · have BADK : Hid (dooOk ps ws zs k = false) := Lib.hid (by rw [ok1, IK, ← ht]; rfl)
            rw [keptV_no ht.symm] at CK
            clear IK ht NX ok1 fd1 fd2 F1
            go_wp2_with fail
            go_region_held3 (fun w' => w'.cell? ⟨GK, j * 2, none⟩ = some (.int .i64 aj) ∧ w'.cell? ⟨GK, j * 2 + 1, none⟩ = some (.int .i64 bj) ∧ w'.cell? ⟨gd, j * 2, none⟩ = some (.int .i64 dj) ∧ w'.cell? ⟨gd, j * 2 + 1, none⟩ = some (.int .i64 ej))
              (first | exact KC.out _ HD | exact KC.out _ (by assumption) | exact ⟨(near2 ne1 ne2).trans (KC.out _ (by assumption)).1, (near2 ne3 ne4).trans (KC.out _ (by assumption)).2.1, (far2q nd).trans (KC.out _ (by assumption)).2.2.1, (far2q nd).trans (KC.out _ (by assumption)).2.2.2⟩ | go_keep)
              (first
                | (go_at_call 43; (with_reducible refine (CK.out _).mono ?_); rintro e w6 ⟨rfl, b6⟩; (have HE6 := hb_nextM (wa := W2) (by first | exact HD | assumption) b6); (have HO6 := Lib.hid ((SO1.out.below HE6.out).wide HE6.out.size (Nat.le_refl _))); (have t0 := HO6.out.cellGet (j := k * 2) (by omega)); (have t1 := HO6.out.cellGet (j := k * 2 + 1) (by omega)); (have f0 := HO6.out.row.frozenAt (k * 2)); (have f1 := HO6.out.row.frozenAt (k * 2 + 1)); clear b6))
            all_goals
              have BN : Below w.heap.size w ((w6.setCell ⟨GK, k * 2, none⟩ (.int .i64 0)).setCell ⟨GK, k * 2 + 1, none⟩ (.int .i64 0)) := ((SO5.out.trans (HE6.out.mono SO5.out.size)).setCell (p := ⟨GK, k * 2, none⟩) (by show w.heap.size ≤ GK; omega) _).setCell (p := ⟨GK, k * 2 + 1, none⟩) (by show w.heap.size ≤ GK; omega) _
              have FIN := Lib.hid (NOK.out _ w6.heap.size (by simp) BN BADK.out)
              clear HE6 HO6 t0 t1 f0 f1 HD KC BN
              go_wp2_with fail
              go_ret3
              exact FIN.out
          · have KF : isFr (kA k) (kB k) = true := by rw [IK, ← ht]
            have XK : Hid (InI64 (kA k) ∧ InI64 (kB k)) := Lib.hid (by have h9 := of_decide_eq_true (show decide _ = true from ht.symm); unfold InI64; omega)
            rw [keptV_yes ht.symm] at CK
            clear IK ht
            obtain ⟨ka, hka⟩ : ∃ z, z = kA k := ⟨_, rfl⟩
            obtain ⟨kb, hkb⟩ : ∃ z, z = kB k := ⟨_, rfl⟩
            rw [← hka, ← hkb] at CK
            rw [← hka] at XK HQS
            rw [← hkb] at XK HQS
            have HKA := Lib.hid hka
            have HKB := Lib.hid hkb
            clear hka hkb
            go_wp2_with fail
            go_region_held3 (fun w' => w'.cell? ⟨GK, j * 2, none⟩ = some (.int .i64 aj) ∧ w'.cell? ⟨GK, j * 2 + 1, none⟩ = some (.int .i64 bj) ∧ w'.cell? ⟨gd, j * 2, none⟩ = some (.int .i64 dj) ∧ w'.cell? ⟨gd, j * 2 + 1, none⟩ = some (.int .i64 ej))
              (first | exact KC.out _ HD | exact KC.out _ (by assumption) | exact ⟨(near2 ne1 ne2).trans (KC.out _ (by assumption)).1, (near2 ne3 ne4).trans (KC.out _ (by assumption)).2.1, (far2q nd).trans (KC.out _ (by assumption)).2.2.1, (far2q nd).trans (KC.out _ (by assumption)).2.2.2⟩ | go_keep)
              (first
                | (go_at_call 43; (with_reducible refine (CK.out _).mono ?_); rintro e w6 ⟨rfl, b6⟩; (have HE6 := hb_nextM (wa := W2) (by first | exact HD | assumption) b6); (have HO6 := Lib.hid ((SO1.out.below HE6.out).wide HE6.out.size (Nat.le_refl _))); (have t0 := HO6.out.cellGet (j := k * 2) (by omega)); (have t1 := HO6.out.cellGet (j := k * 2 + 1) (by omega)); (have f0 := HO6.out.row.frozenAt (k * 2)); (have f1 := HO6.out.row.frozenAt (k * 2 + 1)); clear b6))
            all_goals
              have HS9' : Hid (DooSt w (.slice (some ⟨b, off, none⟩) ps.length c1) (.slice p2 ws.length c2) ps.length A B kA kB fA fB gd GF GK k (k + 1) ((w6.setCell ⟨GK, k * 2, none⟩ (.int .i64 ka)).setCell ⟨GK, k * 2 + 1, none⟩ (.int .i64 kb))) := Lib.hid (by
                have h9 := HO6.out.set2 k XK.out.1 XK.out.2
                rw [set_over (by omega), HQS.out] at h9
                refine ⟨fun i hi => ⟨(far2q nd).trans ((HE6.out.cell (p := ⟨gd, i * 2, none⟩) GDS).trans (SO2.out i hi).1), (far2q nd).trans ((HE6.out.cell (p := ⟨gd, i * 2 + 1, none⟩) GDS).trans (SO2.out i hi).2)⟩, (SO3.out.below (HE6.out.mono SO3.out.room)).far (.inl (Nat.le_refl _)), by simpa using h9, by have := HE6.out.size; simp; omega, ((SO4.out.below HE6.out SO4.out.lt).set (by omega)).set (by omega), ?_⟩
                exact ((SO5.out.trans (HE6.out.mono SO5.out.size)).setCell (p := ⟨GK, k * 2, none⟩) (by show w.heap.size ≤ GK; omega) _).setCell (p := ⟨GK, k * 2 + 1, none⟩) (by show w.heap.size ≤ GK; omega) _)
              obtain ⟨W7, hW7⟩ : ∃ W7, W7 = (w6.setCell ⟨GK, k * 2, none⟩ (.int .i64 ka)).setCell ⟨GK, k * 2 + 1, none⟩ (.int .i64 kb) := ⟨_, rfl⟩
              rw [← hW7] at HS9' ⊢
              have HS9 := HS9'
              clear hW7 HE6 HO6 t0 t1 f0 f1 HD KC HS9' SO1 SO2 SO3 SO4 SO5 ng1 ng2 ng3
              obtain rfl := HKA.out
              obtain rfl := HKB.out
              clear HKA HKB
              go_wp2_with fail
              have HC9 := HS9.out.cellK (j := k) (by omega) (by omega)
              have cz9 := CZ.out W7 HS9.out.bel
              have FN : isFr (-kA k) (kB k) = true := fr_neg KF
              obtain ⟨⟨kb1, kb2, kb3, kb4⟩, _⟩ := (isFr_iff _ _).1 KF
              have CF := Lib.hid (fun w' => addI (zs.getD k 0) 1 (-kA k) (kB k) w')
              have AV : addV (zs.getD k 0) 1 (-kA k) (kB k) = keptV (fA k) (fB k) := by
                unfold addV; rw [if_pos ⟨F1, FN⟩, fd1, fd2]; rfl
              rw [AV] at CF
              have IF : isFr (fA k) (fB k) = inB (fA k) (fB k) := by rw [fd1, fd2]; exact add_fr (by omega) (by omega)
              have WN : IntKind.i64.wrap (-kA k) = -kA k := IntWalk.i64_in _ (by omega)
              obtain ⟨ng1, ng2, ng3⟩ := NG.out
              obtain ⟨hc9a, hc9b⟩ := HC9
              clear AV FN F1
              obtain ⟨t, ht⟩ : ∃ t, t = inB (fA k) (fB k) := ⟨_, rfl⟩
              cases t
              · have OKF := Lib.hid (NOK.out)
                have BADK : Hid (dooOk ps ws zs k = false) := Lib.hid (by rw [ok1, KF, IF, ← ht]; rfl)
                rw [keptV_no ht.symm] at CF
                have XI : Hid (InI64 0 ∧ InI64 0) := Lib.hid (by unfold InI64; omega)
                clear IF ht NX KF fd1 fd2 ok1
                obtain ⟨zk, hzk⟩ : ∃ z, z = zs.getD k 0 := ⟨_, rfl⟩
                obtain ⟨ka, hka⟩ : ∃ z, z = kA k := ⟨_, rfl⟩
                obtain ⟨kb, hkb⟩ : ∃ z, z = kB k := ⟨_, rfl⟩
                rw [← hzk] at cz9 CF
                rw [← hka] at hc9a CF WN
                rw [← hkb] at hc9b CF
                have HD : Hid (Below W7.heap.size W7 W7.drew) := Lib.hid (below_drew (Below.refl _ _))
                have HGKs : GK < W7.heap.size := HS9.out.kn.lt GK rfl
                have HBZ : bz < W7.heap.size := Nat.lt_of_lt_of_le hbz HS9.out.bel.size
                have KC : Hid (∀ w', Hid (Below W7.heap.size W7 w') → w'.cell? ⟨bz, oz + k, none⟩ = some (.int .i64 zk) ∧ w'.cell? ⟨GK, k * 2, none⟩ = some (.int .i64 ka) ∧ w'.cell? ⟨GK, k * 2 + 1, none⟩ = some (.int .i64 kb)) := Lib.hid (fun w' hb => ⟨(hb.out.cell (p := ⟨bz, oz + k, none⟩) HBZ).trans cz9, (hb.out.cell (p := ⟨GK, k * 2, none⟩) HGKs).trans hc9a, (hb.out.cell (p := ⟨GK, k * 2 + 1, none⟩) HGKs).trans hc9b⟩)
                have hbw : bz < w.heap.size := hbz
                have nb1 : bz ≠ GF := by omega
                have nb2 : GK ≠ GF := by omega
                clear hzk hka hkb cz9 hc9a hc9b HGKs HBZ hbz
                go_wp2_with fail
                go_region_held3 (fun w' => w'.cell? ⟨bz, oz + k, none⟩ = some (.int .i64 zk) ∧ w'.cell? ⟨GK, k * 2, none⟩ = some (.int .i64 ka) ∧ w'.cell? ⟨GK, k * 2 + 1, none⟩ = some (.int .i64 kb))
                  (first | exact KC.out _ HD | exact KC.out _ (by assumption) | exact ⟨(far2q nb1).trans (KC.out _ (by assumption)).1, (far2q nb2).trans (KC.out _ (by assumption)).2.1, (far2q nb2).trans (KC.out _ (by assumption)).2.2⟩ | go_keep)
                  (first
                    | (go_at_call 43; (with_reducible refine (CF.out _).mono ?_); rintro e w8 ⟨rfl, b8⟩; (have HE8 := hb_nextM (wa := W7) (by first | exact HD | assumption) b8); (have HO8 := Lib.hid (HS9.out.next HE8.out)); (have t0 := HO8.out.fr.cellGet (j := k * 2) (by omega)); (have t1 := HO8.out.fr.cellGet (j := k * 2 + 1) (by omega)); (have f0 := HO8.out.fr.row.frozenAt (k * 2)); (have f1 := HO8.out.fr.row.frozenAt (k * 2 + 1)); clear b8))
                all_goals
                  have BN : Below w.heap.size w ((w8.setCell ⟨GF, k * 2, none⟩ (.int .i64 0)).setCell ⟨GF, k * 2 + 1, none⟩ (.int .i64 0)) := (HO8.out.bel.setCell (p := ⟨GF, k * 2, none⟩) (by show w.heap.size ≤ GF; omega) _).setCell (p := ⟨GF, k * 2 + 1, none⟩) (by show w.heap.size ≤ GF; omega) _
                  have FIN := Lib.hid (OKF.out _ w8.heap.size (by simp) BN BADK.out)
                  clear HE8 HO8 t0 t1 f0 f1 HD KC HS9 BN
                  go_wp2_with fail
                  go_ret3
                  exact FIN.out
              · have OKK : Hid (dooOk ps ws zs k = true) := Lib.hid (by rw [ok1, KF, IF, ← ht]; rfl)
                have N2 := Lib.hid (NX.out OKK.out)
                have XI : Hid (InI64 (fA k) ∧ InI64 (fB k)) := Lib.hid (by have h9 := of_decide_eq_true (show decide _ = true from ht.symm); unfold InI64; omega)
                rw [keptV_yes ht.symm] at CF
                clear IF ht NX NOK KF fd1 fd2 ok1 OKK
                obtain ⟨zk, hzk⟩ : ∃ z, z = zs.getD k 0 := ⟨_, rfl⟩
                obtain ⟨ka, hka⟩ : ∃ z, z = kA k := ⟨_, rfl⟩
                obtain ⟨kb, hkb⟩ : ∃ z, z = kB k := ⟨_, rfl⟩
                rw [← hzk] at cz9 CF
                rw [← hka] at hc9a CF WN
                rw [← hkb] at hc9b CF
                obtain ⟨fa, hfa⟩ : ∃ z, z = fA k := ⟨_, rfl⟩
                obtain ⟨fb, hfb⟩ : ∃ z, z = fB k := ⟨_, rfl⟩
                rw [← hfa] at CF XI
                rw [← hfb] at CF XI
                have HFA := Lib.hid hfa
                have HFB := Lib.hid hfb
                clear hfa hfb
                have HD : Hid (Below W7.heap.size W7 W7.drew) := Lib.hid (below_drew (Below.refl _ _))
                have HGKs : GK < W7.heap.size := HS9.out.kn.lt GK rfl
                have HBZ : bz < W7.heap.size := Nat.lt_of_lt_of_le hbz HS9.out.bel.size
                have KC : Hid (∀ w', Hid (Below W7.heap.size W7 w') → w'.cell? ⟨bz, oz + k, none⟩ = some (.int .i64 zk) ∧ w'.cell? ⟨GK, k * 2, none⟩ = some (.int .i64 ka) ∧ w'.cell? ⟨GK, k * 2 + 1, none⟩ = some (.int .i64 kb)) := Lib.hid (fun w' hb => ⟨(hb.out.cell (p := ⟨bz, oz + k, none⟩) HBZ).trans cz9, (hb.out.cell (p := ⟨GK, k * 2, none⟩) HGKs).trans hc9a, (hb.out.cell (p := ⟨GK, k * 2 + 1, none⟩) HGKs).trans hc9b⟩)
                have hbw : bz < w.heap.size := hbz
                have nb1 : bz ≠ GF := by omega
                have nb2 : GK ≠ GF := by omega
                clear hzk hka hkb cz9 hc9a hc9b HGKs HBZ hbz
                go_wp2_with fail
                go_region_held3 (fun w' => w'.cell? ⟨bz, oz + k, none⟩ = some (.int .i64 zk) ∧ w'.cell? ⟨GK, k * 2, none⟩ = some (.int .i64 ka) ∧ w'.cell? ⟨GK, k * 2 + 1, none⟩ = some (.int .i64 kb))
                  (first | exact KC.out _ HD | exact KC.out _ (by assumption) | exact ⟨(far2q nb1).trans (KC.out _ (by assumption)).1, (far2q nb2).trans (KC.out _ (by assumption)).2.1, (far2q nb2).trans (KC.out _ (by assumption)).2.2⟩ | go_keep)
                  (first
                    | (go_at_call 43; (with_reducible refine (CF.out _).mono ?_); rintro e w8 ⟨rfl, b8⟩; (have HE8 := hb_nextM (wa := W7) (by first | exact HD | assumption) b8); (have HO8 := Lib.hid (HS9.out.next HE8.out)); (have t0 := HO8.out.fr.cellGet (j := k * 2) (by omega)); (have t1 := HO8.out.fr.cellGet (j := k * 2 + 1) (by omega)); (have f0 := HO8.out.fr.row.frozenAt (k * 2)); (have f1 := HO8.out.fr.row.frozenAt (k * 2 + 1)); clear b8))
                all_goals
                  have SN : Hid (DooSt w (.slice (some ⟨b, off, none⟩) ps.length c1) (.slice p2 ws.length c2) ps.length A B kA kB fA fB gd GF GK (k + 1) (k + 1) ((w8.setCell ⟨GF, k * 2, none⟩ (.int .i64 fa)).setCell ⟨GF, k * 2 + 1, none⟩ (.int .i64 fb))) := Lib.hid (by
                    have h9 := HO8.out.setF' NG.out hlt (by rw [← HFA.out]; exact XI.out.1) (by rw [← HFB.out]; exact XI.out.2)
                    rw [← HFA.out, ← HFB.out] at h9
                    exact h9)
                  clear HE8 HO8 t0 t1 f0 f1 HD KC HS9
                  go_wp2_with fail
                  go_roundg (ps.length - (k + 1))
                  case rel => exact ⟨k + 1, by omega, by omega, rfl, by go_num, SN, N2⟩
                  case measure => omega
      · obtain rfl : k = ps.length := by omega
        have DB := ALLK.out HU.out
        obtain ⟨e1, e2, e3⟩ := YES.out DB
        have FIN : Hid (NewQQB (dooN ps ws zs) (dooF ps ws zs) (dooK ps ws zs) (dooB ps ws zs) w (.returned (.tuple #[.slice (some ⟨GF, 0, none⟩) ps.length ps.length, .slice (some ⟨GK, 0, none⟩) ps.length ps.length, .bool true])) wr) := Lib.hid (by
          rw [e1, e2, e3, DB]
          have h1 := HS.out.fr
          have h2 := HS.out.kn
          rw [halfQ_all _ _ (Nat.le_refl _)] at h1 h2
          have := NG.out
          exact ⟨_, _, GK, rfl, by omega, h1.room, h1.low (by omega), h2, HS.out.bel⟩)
        clear HS HU e1 e2 e3 DB
        go_wp2
        go_ret3
        exact FIN.out
end Go.Proofs.Ytonlibncccljgaa
