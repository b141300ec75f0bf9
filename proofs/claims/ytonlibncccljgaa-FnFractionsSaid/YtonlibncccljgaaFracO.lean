/- Fractions in the program: made, added, multiplied and compared. -/
import Derived.Test.YtonlibncccljgaaFracJ
import Derived.WalkKit
import Derived.ProofKit
import Derived.Outline
import Derived.Below
import Derived.Lib.Hide
import Derived.WalkSmall
import Derived.WalkSpells
import Derived.WalkLawsBesides
namespace Go.Proofs.Ytonlibncccljgaa
open Go.RowKit
set_option linter.unusedVariables false
/-- What a and b make. -/
def okArgs (a b : Int) : Prop := b ≠ 0 ∧ -1000000000 ≤ a ∧ a ≤ 1000000000 ∧ -1000000000 ≤ b ∧ b ≤ 1000000000
instance (a b : Int) : Decidable (okArgs a b) := by unfold okArgs; infer_instance
def fracV (a b : Int) : Value := if okArgs a b then (if 0 < b then keptV (cutN a b) (cutD a b) else keptV (cutN (-a) (-b)) (cutD (-a) (-b))) else zeroP
def addV (n d m e : Int) : Value := if isFr n d = true ∧ isFr m e = true then keptV (cutN (n * e + m * d) (d * e)) (cutD (n * e + m * d) (d * e)) else zeroP
def timesV (n d m e : Int) : Value := if isFr n d = true ∧ isFr m e = true then keptV (cutN (n * m) (d * e)) (cutD (n * m) (d * e)) else zeroP
def ordI (x y : Int) : Int := if x < y then -1 else if y < x then 1 else 0
def cmpV (n d m e : Int) : Value := if isFr n d = true ∧ isFr m e = true then .tuple #[.int .i64 (ordI (n * e) (m * d)), .bool true] else .tuple #[.int .i64 0, .bool false]
set_option maxHeartbeats 1000000 in
theorem fracOfI_no (a b : Int) (w : World) (h : ¬ okArgs a b) :
    Calls Try.prog 51 #[.int .i64 a, .int .i64 b] w (Gives zeroP w) := by
  have B1 := (Below.refl w.heap.size w).alloc (Nat.le_refl _) (.cells #[.int .i64 0, .int .i64 0] 55)
  have FIN : Hid (∀ x y : Value, Gives zeroP w (.returned (.tuple #[.agg #[.int .i64 0, .int .i64 0], .bool false])) (w.alloc (.cells #[x, y] 55))) := Lib.hid (fun x y => ⟨rfl, (Below.refl w.heap.size w).alloc (Nat.le_refl _) _⟩)
  have hc : b = 0 ∨ a < -1000000000 ∨ 1000000000 < a ∨ b < -1000000000 ∨ 1000000000 < b := by unfold okArgs at h; omega
  clear h
  rcases hc with h | h | h | h | h
  all_goals
    go_enter Try.func51, Try.ntmps51
    go_wp2_with fail
    all_goals
      refine bodyPost_ret (v := .tuple #[.agg #[.int .i64 0, .int .i64 0], .bool false]) (by simp [results, Try.results51, go_sem]) rfl ?_
      exact FIN.out _ _
set_option maxHeartbeats 1000000 in
theorem fracOfI_yes (a b : Int) (w : World) (h : okArgs a b) :
    Calls Try.prog 51 #[.int .i64 a, .int .i64 b] w (Gives (fracV a b) w) := by
  unfold fracV
  rw [if_pos h]
  obtain ⟨h1, h2, h3, h4, h5⟩ := h
  have hR := fun W => reduceI a b W (by omega) (by omega)
  have hform : ∃ p q ok, (if 0 < b then keptV (cutN a b) (cutD a b) else keptV (cutN (-a) (-b)) (cutD (-a) (-b))) = .tuple #[.agg #[.int .i64 p, .int .i64 q], .bool ok] := by
    split <;> exact keptV_form _ _
  obtain ⟨p, q, ok, hK⟩ := hform
  rw [hK] at hR ⊢
  clear hK
  have R := Lib.hid hR
  clear hR
  have g1 : (b == 0) = false := by simpa using h1
  have g2 : decide (a < -1000000000) = false := by simp; omega
  have g3 : decide (1000000000 < a) = false := by simp; omega
  have g4 : decide (b < -1000000000) = false := by simp; omega
  have g5 : decide (1000000000 < b) = false := by simp; omega
  have B1 := (Below.refl w.heap.size w).alloc (Nat.le_refl _) (.cells #[.int .i64 0, .int .i64 0] 55)
  go_enter Try.func51, Try.ntmps51
  go_wp2_with fail
  refine (R.out _).mono ?_
  rintro e w1 ⟨rfl, b1⟩
  have k0 := (b1.block w.heap.size (by simp)).trans (heap_one w (.cells #[.int .i64 0, .int .i64 0] 55))
  obtain ⟨x00, y00⟩ := cell_of_heap (o := 0) k0 rfl
  obtain ⟨x01, y01⟩ := cell_of_heap (o := 1) k0 rfl
  have B3 := Lib.hid (B1.trans (b1.mono B1.size))
  clear B1 b1 k0
  go_wp2_with fail
  refine bodyPost_ret (v := .tuple #[.agg #[.int .i64 p, .int .i64 q], .bool ok]) (by simp [results, Try.results51, go_sem, x00, x01]) rfl ⟨rfl, ?_⟩
  exact (B3.out.setCell (p := ⟨w.heap.size, 0, none⟩) (Nat.le_refl _) _).setCell (p := ⟨w.heap.size, 1, none⟩) (Nat.le_refl _) _
theorem fracOfI (a b : Int) (w : World) :
    Calls Try.prog 51 #[.int .i64 a, .int .i64 b] w (Gives (fracV a b) w) := by
  by_cases h : okArgs a b
  · exact fracOfI_yes a b w h
  · have : fracV a b = zeroP := by unfold fracV; rw [if_neg h]
    rw [this]; exact fracOfI_no a b w h
end Go.Proofs.Ytonlibncccljgaa
