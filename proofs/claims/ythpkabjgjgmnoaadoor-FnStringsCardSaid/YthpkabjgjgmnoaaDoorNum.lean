/- The model's decimal numeral: l1Num answers the numeral of the library's own Itoa. -/
import Derived.Test.YthpkabjgjgmnoaaDoorChecked
import Derived.Test.YthpkabjgjgmnoaaDoorDig
import Derived.WalkKit
import Derived.ProofKit
import Derived.Outline
import Derived.Lib.Hide
import Derived.Lib.ItoaNum
import Derived.Lib.ItoaLen
import Derived.Deep.QuietTactic
import Derived.BigQuiet
import Derived.WalkSpells
import Derived.IntWalk
namespace Go.Proofs.YthpkabjgjgmnoaaDoor
open Go.RowKit
theorem digit_piece : ∀ u : Fin 10, (({ data := #[48, 49, 50, 51, 52, 53, 54, 55, 56, 57] } : ByteArray).extract u.val (u.val + 1)) = ⟨#[UInt8.ofNat (48 + u.val)]⟩ := by decide +kernel
theorem numB_small (n : Int) (h0 : 0 ≤ n) (h : n < 10) : ({ data := #[48, 49, 50, 51, 52, 53, 54, 55, 56, 57] } : ByteArray).extract n.toNat (n + 1).toNat = numB n := by
  have e := digit_piece ⟨n.toNat, by omega⟩
  rw [show (n + 1).toNat = n.toNat + 1 by omega]
  refine e.trans ?_
  unfold numB Lib.itoa
  rw [if_neg (by omega), Lib.decDigits_one (by omega)]
theorem numB_big (n : Int) (h : 10 ≤ n) : numB (n / 10) ++ numB (n % 10) = numB n := by
  apply ByteArray.ext
  have e1 : (n / 10).toNat = n.toNat / 10 := by omega
  have e2 : (n % 10).toNat = n.toNat % 10 := by omega
  unfold numB Lib.itoa
  rw [if_neg (by omega), if_neg (by omega), if_neg (by omega), e1, e2]
  conv => rhs; rw [Lib.decDigits, dif_neg (by omega)]
  rw [Lib.decDigits_one (i := n.toNat % 10) (by omega)]
  simp
theorem numB_neg (n : Int) (h : n < 0) : (⟨#[45]⟩ : ByteArray) ++ numB (-n) = numB n := by
  apply ByteArray.ext
  unfold numB Lib.itoa
  rw [if_neg (by omega), if_pos h, show (-n).toNat = n.natAbs by omega]
  simp
theorem numB_size (n : Int) (h0 : -1000000000 ≤ n) (h1 : n ≤ 1000000000) : (numB n).size ≤ 21 := by
  have := Lib.itoa_length_le n (by omega) (by omega)
  show (Lib.itoa n).toArray.size ≤ 21
  simpa using this
theorem add_run (a b : Int) (ha0 : -1000000000 ≤ a) (ha1 : a ≤ 1000000000) (hb0 : -1000000000 ≤ b) (hb1 : b ≤ 1000000000) (w : World) :
    (Op.stringOp .add (numB a) (numB b)).run Tryd.prog w = .ok (.string (numB a ++ numB b)) w :=
  run_string_add w _ _ (by have := numB_size a ha0 ha1; omega) (by have := numB_size b hb0 hb1; omega)
theorem l1Num_pos (k : Nat) : ∀ (n : Int) (w : World), n.toNat ≤ k → 0 ≤ n → n ≤ 1000000000 →
    Calls Tryd.prog 25 #[.int .i64 n] w fun e w' => e = .returned (.string (numB n)) ∧ ∃ m, w' = w.drewN m := by
  induction k with
  | zero =>
    intro n w hk h0 _
    have E := Lib.hid (numB_small n h0 (by omega))
    have h10 : n < 10 := by omega
    clear hk
    go_enter Tryd.func25, Tryd.ntmps25
    go_wp2_with fail
    go_ret
    exact ⟨by rw [← E.out]; rfl, 0, rfl⟩
  | succ k ih =>
    intro n w hk h0 h9
    by_cases h10 : n < 10
    · have E := Lib.hid (numB_small n h0 (by omega))
      clear hk
      go_enter Tryd.func25, Tryd.ntmps25
      go_wp2_with fail
      go_ret
      exact ⟨by rw [← E.out]; rfl, 0, rfl⟩
    · have E := Lib.hid (numB_big n (by omega))
      have E2 := numB_small (n % 10) (by omega) (by omega)
      have add := add_run (n / 10) (n % 10) (by omega) (by omega) (by omega) (by omega)
      have hk2 : (n / 10).toNat ≤ k := by omega
      have hd0 : 0 ≤ n / 10 := by omega
      have hd1 : n / 10 ≤ 1000000000 := by omega
      have hm0 : 0 ≤ n % 10 := by omega
      have hm1 : n % 10 ≤ 9 := by omega
      have t1 : IntKind.i64.wrap (n.tdiv 10) = n / 10 := by rw [Int.tdiv_eq_ediv_of_nonneg h0]; exact IntWalk.i64_in _ (by omega)
      have t2 : n.tmod 10 = n % 10 := Int.tmod_eq_emod_of_nonneg h0
      have t3 : IntKind.i64.wrap (n % 10 + 1) = n % 10 + 1 := IntWalk.i64_in _ (by omega)
      have t4 : 0 ≤ n % 10 + 1 := by omega
      have t5 : n % 10 ≤ n % 10 + 1 := by omega
      have t6 : n % 10 + 1 ≤ 10 := by omega
      clear hk
      go_enter Tryd.func25, Tryd.ntmps25
      go_wp2_with fail
      go_quiet ((go_at_call 25; exact Calls.quiet_of (ih _ _ hk2 hd0 hd1)))
      go_wp2_with fail
      go_ret
      exact ⟨by rw [← E.out]; rfl, _, rfl⟩
theorem l1Num_any (n : Int) (w : World) (h0 : -1000000000 ≤ n) (h9 : n ≤ 1000000000) :
    Calls Tryd.prog 25 #[.int .i64 n] w fun e w' => e = .returned (.string (numB n)) ∧ ∃ m, w' = w.drewN m := by
  by_cases hn : 0 ≤ n
  · exact l1Num_pos n.toNat n w (Nat.le_refl _) hn h9
  · have E := Lib.hid (numB_neg n (by omega))
    have n1 : 0 ≤ -n := by omega
    have n2 : -n ≤ 1000000000 := by omega
    have sz := numB_size (-n) (by omega) n2
    have add : ∀ W : World, (Op.stringOp .add ⟨#[45]⟩ (numB (-n))).run Tryd.prog W = .ok (.string (⟨#[45]⟩ ++ numB (-n))) W := fun W => run_string_add W _ _ (by decide) (by omega)
    have hl : n < 0 := by omega
    clear hn sz
    go_enter Tryd.func25, Tryd.ntmps25
    go_wp2_with (go_at_call 25; refine (l1Num_pos _ _ _ (Nat.le_refl _) n1 n2).mono ?_; rintro e w' ⟨rfl, m, rfl⟩)
    go_ret
    exact ⟨by rw [← E.out]; rfl, _, rfl⟩
end Go.Proofs.YthpkabjgjgmnoaaDoor
