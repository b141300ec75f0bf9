/- What the laws lean on: worlds between calls, rows that are alike and marked. -/
import Derived.Test.YtligidmkhbcpmacPrm
import Derived.OpenShut
import Derived.Lib.SmallJoins
namespace Go.Proofs.Ytligidmkhbcpmac
open Go.RowKit Go.WideShapes Go.ChangeShapes Go.Joins
set_option linter.unusedVariables false
theorem below_next {V a b : World} (h : Below V.heap.size V a) (k : Below a.heap.size a b) : Below V.heap.size V b := h.trans (k.mono h.size)
theorem below_alt {V a b : World} {lo hi : Nat} (h : Below V.heap.size V a) (k : Alt lo hi a b) (hl : V.heap.size ≤ lo) (hs : lo ≤ a.heap.size) : Below V.heap.size V b := h.trans ((k.below hs).mono hl)
theorem undrew {a b : World} (h : Below a.drew.heap.size a.drew b) : Below a.heap.size a b := ⟨h.os, h.tape, h.output, h.size, h.block⟩
theorem eqIB (zs : List Int) (v u : Value) (B C : Nat) (w : World) (hp : IntsV w B v zs) (hq : IntsV w C u zs) :
    Calls Try.prog 19 #[v, u] w fun e w' => e = .returned (.bool true) ∧ Below w.heap.size w w' :=
  (eqI zs v u B C w hp hq).mono fun _ _ ⟨he, n, hw⟩ => ⟨he, by rw [hw]; exact below_drewN (Below.refl _ _) n⟩
theorem heldIB (k n : Nat) (v : Value) (B : Nat) (w : World) (hn : n ≤ 1048576) (hk : k ≤ 1000000000) (h : IntsV w B v (marksI k n)) :
    Calls Try.prog 80 #[v, .int .i64 k] w fun e w' => e = .returned (.int .i64 ((k + n : Nat) : Int)) ∧ Below w.heap.size w w' :=
  (heldI k n v B w hn hk h).mono fun _ _ ⟨he, n, hw⟩ => ⟨he, by rw [hw]; exact below_drewN (Below.refl _ _) n⟩
theorem inI64_of_wf {z : Int} (h : (Lit.int .i64 z).wf = true) : InI64 z := by
  have := bounds_i64 h
  unfold InI64; omega
end Go.Proofs.Ytligidmkhbcpmac
