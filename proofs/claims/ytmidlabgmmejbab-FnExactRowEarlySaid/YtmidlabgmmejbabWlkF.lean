/- Numbers of walks, in the program and in the model. -/
import Derived.Test.YtmidlabgmmejbabWlkI
namespace Go.Proofs.Ytmidlabgmmejbab
open Go.RowKit
set_option linter.unusedVariables false
/-- A result; nothing has turned. -/
def QR (v : Value) (w : World) (e : Ending) (w' : World) : Prop := e = .returned v ∧ w = w'
theorem QR.gives {v : Value} {w w' : World} {e : Ending} (h : QR v w e w') : Gives v w e w' := by
  obtain ⟨h1, rfl⟩ := h
  exact ⟨h1, Below.refl _ _⟩
set_option maxRecDepth 100000 in
set_option maxHeartbeats 1000000 in
theorem walkC (m : Nat) (x : Int) (w : World) (hm : m ≤ 30) : Calls Try.prog 83 #[.int .i64 m, .int .i64 x] w (QR (.int .i64 (wkI m x)) w) := by
  by_cases h1 : -(m : Int) ≤ x ∧ x ≤ m
  · have F := Lib.hid (fun w => fromI x (-(m : Int)) m w)
    rw [decide_eq_true h1] at F
    obtain ⟨h1a, h1b⟩ := h1
    by_cases h2 : ((m : Int) + x) % 2 = 0
    · obtain ⟨s, hs⟩ : ∃ s : Nat, (m : Int) + x = 2 * s := ⟨(((m : Int) + x) / 2).toNat, by omega⟩
      have R : wkI m x = (chN m s : Nat) := by unfold wkI; rw [if_pos ⟨h1a, h1b, h2⟩, show (((m : Int) + x) / 2).toNat = s by omega]
      have C := Lib.hid (fun w => chooseC m s w hm (by omega))
      have T1 : Int.tmod ((m : Int) + x) 2 = 0 := by rw [Int.tmod_eq_emod_of_nonneg (by omega)]; exact h2
      have T2 : Int.tdiv ((m : Int) + x) 2 = s := by rw [Int.tdiv_eq_ediv_of_nonneg (by omega)]; omega
      have sb : s ≤ 30 := by omega
      rw [R]
      clear R hs h2
      go_enter Try.func83, Try.ntmps83
      go_wp2_with fail
      refine (F.out _).mono ?_
      rintro e w0 ⟨rfl, rfl⟩
      go_wp2_with fail
      refine (C.out _).mono ?_
      rintro e w1 ⟨rfl, rfl⟩
      go_wp2_with fail
      go_ret
      exact ⟨rfl, rfl⟩
    · have R : wkI m x = 0 := by unfold wkI; rw [if_neg (fun h => h2 h.2.2)]
      have T1 : ¬ Int.tmod ((m : Int) + x) 2 = 0 := by rw [Int.tmod_eq_emod_of_nonneg (by omega)]; exact h2
      have T3 : (((m : Int) + x) % 2 != 0) = true := by simpa using h2
      rw [R]
      clear R
      go_enter Try.func83, Try.ntmps83
      go_wp2_with fail
      refine (F.out _).mono ?_
      rintro e w0 ⟨rfl, rfl⟩
      go_wp2_with fail
      go_ret
      exact ⟨rfl, rfl⟩
  · have F := Lib.hid (fun w => fromI x (-(m : Int)) m w)
    rw [decide_eq_false h1] at F
    have R : wkI m x = 0 := by unfold wkI; rw [if_neg (fun h => h1 ⟨h.1, h.2.1⟩)]
    rw [R]
    clear R h1
    go_enter Try.func83, Try.ntmps83
    go_wp2_with fail
    refine (F.out _).mono ?_
    rintro e w0 ⟨rfl, rfl⟩
    go_wp2_with fail
    go_ret
    exact ⟨rfl, rfl⟩
set_option maxRecDepth 100000 in
set_option maxHeartbeats 1000000 in
theorem pathS (m : Nat) (x : Int) (w : World) (hm : m ≤ 30) : Calls Try.prog 82 #[.int .i64 m, .int .i64 x] w (QR (.int .i64 (wkI m x)) w) := by
  by_cases h1 : -(m : Int) ≤ x ∧ x ≤ m
  · have F := Lib.hid (fun w => inS x (-(m : Int)) m w)
    rw [decide_eq_true h1] at F
    obtain ⟨h1a, h1b⟩ := h1
    by_cases h2 : ((m : Int) + x) % 2 = 0
    · obtain ⟨s, hs⟩ : ∃ s : Nat, (m : Int) + x = 2 * s := ⟨(((m : Int) + x) / 2).toNat, by omega⟩
      have R : wkI m x = (chN m s : Nat) := by unfold wkI; rw [if_pos ⟨h1a, h1b, h2⟩, show (((m : Int) + x) / 2).toNat = s by omega]
      have C := Lib.hid (fun w => chooseS m s w hm (by omega))
      have T1 : Int.tmod ((m : Int) + x) 2 = 0 := by rw [Int.tmod_eq_emod_of_nonneg (by omega)]; exact h2
      have T2 : Int.tdiv ((m : Int) + x) 2 = s := by rw [Int.tdiv_eq_ediv_of_nonneg (by omega)]; omega
      have sb : s ≤ 30 := by omega
      rw [R]
      clear R hs h2
      go_enter Try.func82, Try.ntmps82
      go_wp2_with fail
      refine (F.out _).mono ?_
      rintro e w0 ⟨rfl, rfl⟩
      go_wp2_with fail
      refine (C.out _).mono ?_
      rintro e w1 ⟨rfl, rfl⟩
      go_wp2_with fail
      go_ret
      exact ⟨rfl, rfl⟩
    · have R : wkI m x = 0 := by unfold wkI; rw [if_neg (fun h => h2 h.2.2)]
      have T1 : ¬ Int.tmod ((m : Int) + x) 2 = 0 := by rw [Int.tmod_eq_emod_of_nonneg (by omega)]; exact h2
      have T3 : (((m : Int) + x) % 2 != 0) = true := by simpa using h2
      rw [R]
      clear R
      go_enter Try.func82, Try.ntmps82
      go_wp2_with fail
      refine (F.out _).mono ?_
      rintro e w0 ⟨rfl, rfl⟩
      go_wp2_with fail
      go_ret
      exact ⟨rfl, rfl⟩
  · have F := Lib.hid (fun w => inS x (-(m : Int)) m w)
    rw [decide_eq_false h1] at F
    have R : wkI m x = 0 := by unfold wkI; rw [if_neg (fun h => h1 ⟨h.1, h.2.1⟩)]
    rw [R]
    clear R h1
    go_enter Try.func82, Try.ntmps82
    go_wp2_with fail
    refine (F.out _).mono ?_
    rintro e w0 ⟨rfl, rfl⟩
    go_wp2_with fail
    go_ret
    exact ⟨rfl, rfl⟩
set_option maxRecDepth 100000 in
set_option maxHeartbeats 1000000 in
theorem aboveC (m : Nat) (x d : Int) (w : World) (hm : m ≤ 30) (hd : -30 ≤ d ∧ d ≤ 0) : Calls Try.prog 81 #[.int .i64 m, .int .i64 x, .int .i64 d] w (QR (.int .i64 (paI m x d)) w) := by
  have F := Lib.hid (fun w => fromI x d m w)
  by_cases h1 : d ≤ x ∧ x ≤ m
  · rw [decide_eq_true h1] at F
    have R : paI m x d = wkI m x - wkI m (2 * (d - 1) - x) := by unfold paI; rw [if_pos h1]
    rw [R]
    obtain ⟨h1a, h1b⟩ := h1
    obtain ⟨d1, d2⟩ := hd
    have b1 := wkI_bd hm x
    have b2 := wkI_bd hm (2 * (d - 1) - x)
    have C1 := Lib.hid (fun w => walkC m x w hm)
    have C2 := Lib.hid (fun w => walkC m (2 * (d - 1) - x) w hm)
    obtain ⟨p, hp⟩ : ∃ p, p = wkI m x := ⟨_, rfl⟩
    obtain ⟨q, hq⟩ : ∃ q, q = wkI m (2 * (d - 1) - x) := ⟨_, rfl⟩
    rw [← hp] at C1 b1 ⊢
    rw [← hq] at C2 b2 ⊢
    clear hp hq R
    go_enter Try.func81, Try.ntmps81
    go_wp2_with fail
    refine (F.out _).mono ?_
    rintro e w1 ⟨rfl, rfl⟩
    go_wp2_with fail
    refine (C1.out _).mono ?_
    rintro e w1 ⟨rfl, rfl⟩
    go_wp2_with fail
    refine (C2.out _).mono ?_
    rintro e w1 ⟨rfl, rfl⟩
    go_wp2_with fail
    go_ret
    exact ⟨rfl, rfl⟩
  · rw [decide_eq_false h1] at F
    have R : paI m x d = 0 := by unfold paI; rw [if_neg h1]
    rw [R]
    clear R h1
    go_enter Try.func81, Try.ntmps81
    go_wp2_with fail
    refine (F.out _).mono ?_
    rintro e w1 ⟨rfl, rfl⟩
    go_wp2_with fail
    go_ret
    exact ⟨rfl, rfl⟩
end Go.Proofs.Ytmidlabgmmejbab
