/- The laws' helpers, each telling what it leaves below the heap's end. -/
import Derived.Test.YtagljebfbacdhaaLawT
namespace Go.Proofs.Ytagljebfbacdhaa
open Go.RowKit
set_option linter.unusedVariables false
theorem eqIB (zs : List Int) (v u : Value) (B C : Nat) (w : World) (hp : IntsV w B v zs) (hq : IntsV w C u zs) :
    Calls Try.prog 21 #[v, u] w fun e w' => e = .returned (.bool true) ∧ Below w.heap.size w w' :=
  (eqI zs v u B C w hp hq).mono fun _ _ ⟨he, n, hw⟩ => ⟨he, by rw [hw]; exact below_drewN (Below.refl _ _) n⟩
theorem heldIB (k n : Nat) (v : Value) (B : Nat) (w : World) (hn : n ≤ 1048576) (hk : k ≤ 1000000000) (h : IntsV w B v (marksI k n)) :
    Calls Try.prog 36 #[v, .int .i64 k] w fun e w' => e = .returned (.int .i64 ((k + n : Nat) : Int)) ∧ Below w.heap.size w w' :=
  (heldI k n v B w hn hk h).mono fun _ _ ⟨he, n, hw⟩ => ⟨he, by rw [hw]; exact below_drewN (Below.refl _ _) n⟩
end Go.Proofs.Ytagljebfbacdhaa
