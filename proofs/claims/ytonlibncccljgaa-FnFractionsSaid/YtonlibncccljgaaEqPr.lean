/- Two like pairs are equal, as the operation has it. -/
import Derived.Test.YtonlibncccljgaaChecked
import Derived.ChangeKeysEq
import Derived.WalkKit
import Derived.ProofKit
import Derived.KernelRfl
namespace Go.Proofs.Ytonlibncccljgaa
open Go.RowKit
set_option linter.unusedVariables false
theorem part_int (xs : Array Value) (k : Nat) (v : Value) (w : World) (h : xs[k]? = some v) : (part 3 xs k).run Try.prog w = .ok v w :=
  run_part_plain w (by kernel_rfl) h
theorem eqInt_same (d : Nat) (a : Int) (w : World) : (Op.equalIn (d + 1) 3 (.int .i64 a) (.int .i64 a)).run Try.prog w = .ok true w := by
  rw [run_equalIn_int (w := w) d 3 .i64 .i64 a a Try.underlying3]; simp
theorem eq_pairD (d : Nat) (p q : Int) (w : World) : (Op.equalIn (d + 1 + 1) 55 (.agg #[.int .i64 p, .int .i64 q]) (.agg #[.int .i64 p, .int .i64 q])).run Try.prog w = .ok true w := by
  obtain ⟨i, hi⟩ := info_of_underlying Try.underlying3
  rw [run_equalIn_array w (d + 1) (e := 3) (n := 2) _ _ Try.underlying55 hi]
  have hc : Try.prog.cellsOf 3 = 1 := by kernel_rfl
  rw [hc, show List.range 2 = [0, 1] from rfl]
  simp only [Op.eqItems, Sem.run_bind, Nat.zero_mul, Nat.one_mul]
  rw [part_int _ 0 (.int .i64 p) w rfl]
  simp only [Result.andThen_ok]
  rw [part_int _ 0 (.int .i64 p) w rfl]
  simp only [Result.andThen_ok]
  rw [eqInt_same d p w]
  simp only [Result.andThen_ok, Bool.not_true, Bool.false_eq_true, if_false, Sem.run_bind]
  rw [part_int _ 1 (.int .i64 q) w rfl]
  simp only [Result.andThen_ok]
  rw [part_int _ 1 (.int .i64 q) w rfl]
  simp only [Result.andThen_ok]
  rw [eqInt_same d q w]
  simp only [Result.andThen_ok, Bool.not_true, Bool.false_eq_true, if_false]
  rfl
theorem eq_pair (p q : Int) (w : World) : (Op.equalIn 10000 55 (.agg #[.int .i64 p, .int .i64 q]) (.agg #[.int .i64 p, .int .i64 q])).run Try.prog w = .ok true w := eq_pairD 9998 p q w
end Go.Proofs.Ytonlibncccljgaa
