/-
  No cell of these rows narrows 'for every input' (looked for: loops, veiled, ifaces, maps, wideKeys, modest, calm, conditions, laid).
  DERIVED. THE GIVEN ROWS OF THIS SEAT. 9 by the template 'for every input the law returns true; each argument reads behind the call as it read before'; 0 by the template 'total and deterministic' (their statements: YtfpckfameebdnabTotals.lean).
  GIVEN WITH THE SEED: the statements are not yours to turn. If you find one false, say at which input.
  Laid BY PROGRAM, IN A SANDBOX (cutbox-rows.mjs): the forced cells as the released guide's own fill.sh prints them over the translation b0e1affba4735e3b… (all of the seat's roots in one cut). By AI agents, Wed Nov 11 2026. No macro, syntax, notation, axiom, sorry.
-/
import Derived.Test.YtfpckfameebdnabChecked
import GoSem.Claim
import GoSem.ClaimJoined
import GoSem.ClaimMapViews
import Derived.JoinedTies
import Derived.KernelRfl
namespace Go.Proofs.Ytfpckfameebdnab
/- THE CELL 'sum', in the pinned program and in every row, IS THE sha256 OF THE DUMP (.gsa) THAT YtfpckfameebdnabProg.lean LOADS. Nothing in Lean hashes anything: it is a label: what it is worth is what the hold of that sum in a sandbox is worth. -/
noncomputable def Try.pinned : Pinned := { name := "ytfpckfameebdnab", sum := "b0e1affba4735e3b416b1be89a080cac5ebe9fa17d80593ac08c56ac875f3af5", checked := Try.checked }
namespace Rows
def none {H : Type} : Left H := { results := [], args := [] }

/-- 'laws.FnExactRuinChance': WHATEVER THE INPUT: true; the input reads as it did. -/
def fnExactRuinChanceSpec : ChangeSpec := { name := "fnExactRuinChance", fn := fun _ => fun
  | [d1, d2, d3, d4] => { results := [.lit (.bool true)], args := [d1, d2, d3, d4] }
  | _ => none }
def fnExactRuinChanceRow : OpenClaim := { program := "ytfpckfameebdnab", sum := "b0e1affba4735e3b416b1be89a080cac5ebe9fa17d80593ac08c56ac875f3af5", func := "loop.example/g01131/laws.FnExactRuinChance", spec := "fnExactRuinChance", apart := false }
def FnExactRuinChanceSaid : Prop := fnExactRuinChanceRow.holds Try.pinned (OpenSpec.ofChange fnExactRuinChanceSpec)

/-- ITS FALSE NEIGHBOUR: 'it returns false'. Refute it at one input. -/
def fnExactRuinChanceWrong : ChangeSpec := { name := "fnExactRuinChance", fn := fun _ => fun
  | [d1, d2, d3, d4] => { results := [.lit (.bool false)], args := [d1, d2, d3, d4] }
  | _ => none }
def FnExactRuinChanceWrongFalsely : Prop := fnExactRuinChanceRow.holds Try.pinned (OpenSpec.ofChange fnExactRuinChanceWrong)

/-- 'laws.FnExactRuinMean': WHATEVER THE INPUT: true; the input reads as it did. -/
def fnExactRuinMeanSpec : ChangeSpec := { name := "fnExactRuinMean", fn := fun _ => fun
  | [d1, d2, d3, d4] => { results := [.lit (.bool true)], args := [d1, d2, d3, d4] }
  | _ => none }
def fnExactRuinMeanRow : OpenClaim := { program := "ytfpckfameebdnab", sum := "b0e1affba4735e3b416b1be89a080cac5ebe9fa17d80593ac08c56ac875f3af5", func := "loop.example/g01131/laws.FnExactRuinMean", spec := "fnExactRuinMean", apart := false }
def FnExactRuinMeanSaid : Prop := fnExactRuinMeanRow.holds Try.pinned (OpenSpec.ofChange fnExactRuinMeanSpec)

/-- ITS FALSE NEIGHBOUR: 'it returns false'. Refute it at one input. -/
def fnExactRuinMeanWrong : ChangeSpec := { name := "fnExactRuinMean", fn := fun _ => fun
  | [d1, d2, d3, d4] => { results := [.lit (.bool false)], args := [d1, d2, d3, d4] }
  | _ => none }
def FnExactRuinMeanWrongFalsely : Prop := fnExactRuinMeanRow.holds Try.pinned (OpenSpec.ofChange fnExactRuinMeanWrong)

/-- 'laws.FnExactRuinSteps': WHATEVER THE INPUT: true; the input reads as it did. -/
def fnExactRuinStepsSpec : ChangeSpec := { name := "fnExactRuinSteps", fn := fun _ => fun
  | [d1, d2, d3, d4, d5] => { results := [.lit (.bool true)], args := [d1, d2, d3, d4, d5] }
  | _ => none }
def fnExactRuinStepsRow : OpenClaim := { program := "ytfpckfameebdnab", sum := "b0e1affba4735e3b416b1be89a080cac5ebe9fa17d80593ac08c56ac875f3af5", func := "loop.example/g01131/laws.FnExactRuinSteps", spec := "fnExactRuinSteps", unfollowed := true, recurses := true, apart := false }
def FnExactRuinStepsSaid : Prop := fnExactRuinStepsRow.holds Try.pinned (OpenSpec.ofChange fnExactRuinStepsSpec)

/-- ITS FALSE NEIGHBOUR: 'it returns false'. Refute it at one input. -/
def fnExactRuinStepsWrong : ChangeSpec := { name := "fnExactRuinSteps", fn := fun _ => fun
  | [d1, d2, d3, d4, d5] => { results := [.lit (.bool false)], args := [d1, d2, d3, d4, d5] }
  | _ => none }
def FnExactRuinStepsWrongFalsely : Prop := fnExactRuinStepsRow.holds Try.pinned (OpenSpec.ofChange fnExactRuinStepsWrong)

/-- 'laws.FnExactPathCount': WHATEVER THE INPUT: true; the input reads as it did. -/
def fnExactPathCountSpec : ChangeSpec := { name := "fnExactPathCount", fn := fun _ => fun
  | [d1, d2] => { results := [.lit (.bool true)], args := [d1, d2] }
  | _ => none }
def fnExactPathCountRow : OpenClaim := { program := "ytfpckfameebdnab", sum := "b0e1affba4735e3b416b1be89a080cac5ebe9fa17d80593ac08c56ac875f3af5", func := "loop.example/g01131/laws.FnExactPathCount", spec := "fnExactPathCount", apart := false }
def FnExactPathCountSaid : Prop := fnExactPathCountRow.holds Try.pinned (OpenSpec.ofChange fnExactPathCountSpec)

/-- ITS FALSE NEIGHBOUR: 'it returns false'. Refute it at one input. -/
def fnExactPathCountWrong : ChangeSpec := { name := "fnExactPathCount", fn := fun _ => fun
  | [d1, d2] => { results := [.lit (.bool false)], args := [d1, d2] }
  | _ => none }
def FnExactPathCountWrongFalsely : Prop := fnExactPathCountRow.holds Try.pinned (OpenSpec.ofChange fnExactPathCountWrong)

/-- 'laws.FnExactPathsAbove': WHATEVER THE INPUT: true; the input reads as it did. -/
def fnExactPathsAboveSpec : ChangeSpec := { name := "fnExactPathsAbove", fn := fun _ => fun
  | [d1, d2, d3] => { results := [.lit (.bool true)], args := [d1, d2, d3] }
  | _ => none }
def fnExactPathsAboveRow : OpenClaim := { program := "ytfpckfameebdnab", sum := "b0e1affba4735e3b416b1be89a080cac5ebe9fa17d80593ac08c56ac875f3af5", func := "loop.example/g01131/laws.FnExactPathsAbove", spec := "fnExactPathsAbove", apart := false }
def FnExactPathsAboveSaid : Prop := fnExactPathsAboveRow.holds Try.pinned (OpenSpec.ofChange fnExactPathsAboveSpec)

/-- ITS FALSE NEIGHBOUR: 'it returns false'. Refute it at one input. -/
def fnExactPathsAboveWrong : ChangeSpec := { name := "fnExactPathsAbove", fn := fun _ => fun
  | [d1, d2, d3] => { results := [.lit (.bool false)], args := [d1, d2, d3] }
  | _ => none }
def FnExactPathsAboveWrongFalsely : Prop := fnExactPathsAboveRow.holds Try.pinned (OpenSpec.ofChange fnExactPathsAboveWrong)

/-- 'laws.FnExactFirstPassages': WHATEVER THE INPUT: true; the input reads as it did. -/
def fnExactFirstPassagesSpec : ChangeSpec := { name := "fnExactFirstPassages", fn := fun _ => fun
  | [d1, d2] => { results := [.lit (.bool true)], args := [d1, d2] }
  | _ => none }
def fnExactFirstPassagesRow : OpenClaim := { program := "ytfpckfameebdnab", sum := "b0e1affba4735e3b416b1be89a080cac5ebe9fa17d80593ac08c56ac875f3af5", func := "loop.example/g01131/laws.FnExactFirstPassages", spec := "fnExactFirstPassages", apart := false }
def FnExactFirstPassagesSaid : Prop := fnExactFirstPassagesRow.holds Try.pinned (OpenSpec.ofChange fnExactFirstPassagesSpec)

/-- ITS FALSE NEIGHBOUR: 'it returns false'. Refute it at one input. -/
def fnExactFirstPassagesWrong : ChangeSpec := { name := "fnExactFirstPassages", fn := fun _ => fun
  | [d1, d2] => { results := [.lit (.bool false)], args := [d1, d2] }
  | _ => none }
def FnExactFirstPassagesWrongFalsely : Prop := fnExactFirstPassagesRow.holds Try.pinned (OpenSpec.ofChange fnExactFirstPassagesWrong)

/-- 'laws.FnExactBallotCount': WHATEVER THE INPUT: true; the input reads as it did. -/
def fnExactBallotCountSpec : ChangeSpec := { name := "fnExactBallotCount", fn := fun _ => fun
  | [d1, d2] => { results := [.lit (.bool true)], args := [d1, d2] }
  | _ => none }
def fnExactBallotCountRow : OpenClaim := { program := "ytfpckfameebdnab", sum := "b0e1affba4735e3b416b1be89a080cac5ebe9fa17d80593ac08c56ac875f3af5", func := "loop.example/g01131/laws.FnExactBallotCount", spec := "fnExactBallotCount", apart := false }
def FnExactBallotCountSaid : Prop := fnExactBallotCountRow.holds Try.pinned (OpenSpec.ofChange fnExactBallotCountSpec)

/-- ITS FALSE NEIGHBOUR: 'it returns false'. Refute it at one input. -/
def fnExactBallotCountWrong : ChangeSpec := { name := "fnExactBallotCount", fn := fun _ => fun
  | [d1, d2] => { results := [.lit (.bool false)], args := [d1, d2] }
  | _ => none }
def FnExactBallotCountWrongFalsely : Prop := fnExactBallotCountRow.holds Try.pinned (OpenSpec.ofChange fnExactBallotCountWrong)

/-- 'laws.FnExactTieCount': WHATEVER THE INPUT: true; the input reads as it did. -/
def fnExactTieCountSpec : ChangeSpec := { name := "fnExactTieCount", fn := fun _ => fun
  | [d1, d2] => { results := [.lit (.bool true)], args := [d1, d2] }
  | _ => none }
def fnExactTieCountRow : OpenClaim := { program := "ytfpckfameebdnab", sum := "b0e1affba4735e3b416b1be89a080cac5ebe9fa17d80593ac08c56ac875f3af5", func := "loop.example/g01131/laws.FnExactTieCount", spec := "fnExactTieCount", apart := false }
def FnExactTieCountSaid : Prop := fnExactTieCountRow.holds Try.pinned (OpenSpec.ofChange fnExactTieCountSpec)

/-- ITS FALSE NEIGHBOUR: 'it returns false'. Refute it at one input. -/
def fnExactTieCountWrong : ChangeSpec := { name := "fnExactTieCount", fn := fun _ => fun
  | [d1, d2] => { results := [.lit (.bool false)], args := [d1, d2] }
  | _ => none }
def FnExactTieCountWrongFalsely : Prop := fnExactTieCountRow.holds Try.pinned (OpenSpec.ofChange fnExactTieCountWrong)

/-- 'laws.FnExactReturnCounts': WHATEVER THE INPUT: true; the input reads as it did. -/
def fnExactReturnCountsSpec : ChangeSpec := { name := "fnExactReturnCounts", fn := fun _ => fun
  | [d] => { results := [.lit (.bool true)], args := [d] }
  | _ => none }
def fnExactReturnCountsRow : OpenClaim := { program := "ytfpckfameebdnab", sum := "b0e1affba4735e3b416b1be89a080cac5ebe9fa17d80593ac08c56ac875f3af5", func := "loop.example/g01131/laws.FnExactReturnCounts", spec := "fnExactReturnCounts", apart := false }
def FnExactReturnCountsSaid : Prop := fnExactReturnCountsRow.holds Try.pinned (OpenSpec.ofChange fnExactReturnCountsSpec)

/-- ITS FALSE NEIGHBOUR: 'it returns false'. Refute it at one input. -/
def fnExactReturnCountsWrong : ChangeSpec := { name := "fnExactReturnCounts", fn := fun _ => fun
  | [d] => { results := [.lit (.bool false)], args := [d] }
  | _ => none }
def FnExactReturnCountsWrongFalsely : Prop := fnExactReturnCountsRow.holds Try.pinned (OpenSpec.ofChange fnExactReturnCountsWrong)

/- THE SECOND FORM. 'bulk': how many values and letters a reading holds, each counted each time it is reached (what is shared counts as often as it is met; a slice's spare places count too). A statement '..UptoSaid' is the law's where the arguments, and the package variables that the reading takes, are together of bulk at most 1048576: NARROWER than '..Said'. Prove '..Said' where nothing that the law and all that it calls make is longer than what came in: it says more and counts as full. Else prove '..UptoSaid'. A law counts once. -/
mutual
def uptoBulk {H : Type} : DataW H → Nat
  | .lit (.string bytes) => bytes.length + 1
  | .lit _ => 1
  | .nil => 1
  | .ptr d => uptoBulk d + 1
  | .slice elems spare => uptoBulkAll elems + uptoBulkAll spare + 1
  | .agg parts => uptoBulkAll parts + 1
  | .iface _ d => uptoBulk d + 1
  | .map entries => uptoBulkEntries entries + 1
  | .held _ => 1
def uptoBulkAll {H : Type} : List (DataW H) → Nat
  | [] => 0
  | d :: r => uptoBulk d + uptoBulkAll r
def uptoBulkEntries {H : Type} : List (Lit × DataW H) → Nat
  | [] => 0
  | x :: r => uptoBulkEntry x + uptoBulkEntries r
def uptoBulkEntry {H : Type} : Lit × DataW H → Nat
  | (.string bytes, d) => bytes.length + uptoBulk d + 1
  | (_, d) => uptoBulk d + 1
 end
def uptoSmall : (H : Type) → List (DataW H) → Bool := fun _ ds => decide (uptoBulkAll ds ≤ 1048576)
def OpenSpec.upto (s : _root_.Go.ChangeSpec) : _root_.Go.OpenSpec := { _root_.Go.OpenSpec.ofChange s with cond := some uptoSmall }

/-- 'laws.FnExactRuinChance', WHERE WHAT IT READS IS OF BULK AT MOST 1048576: true; the input reads as it did. -/
def fnExactRuinChanceUptoRow : OpenClaim := { program := "ytfpckfameebdnab", sum := "b0e1affba4735e3b416b1be89a080cac5ebe9fa17d80593ac08c56ac875f3af5", func := "loop.example/g01131/laws.FnExactRuinChance", spec := "fnExactRuinChance", apart := false, narrowed := true }
def FnExactRuinChanceUptoSaid : Prop := fnExactRuinChanceUptoRow.holds Try.pinned (OpenSpec.upto fnExactRuinChanceSpec)

/-- 'laws.FnExactRuinMean', WHERE WHAT IT READS IS OF BULK AT MOST 1048576: true; the input reads as it did. -/
def fnExactRuinMeanUptoRow : OpenClaim := { program := "ytfpckfameebdnab", sum := "b0e1affba4735e3b416b1be89a080cac5ebe9fa17d80593ac08c56ac875f3af5", func := "loop.example/g01131/laws.FnExactRuinMean", spec := "fnExactRuinMean", apart := false, narrowed := true }
def FnExactRuinMeanUptoSaid : Prop := fnExactRuinMeanUptoRow.holds Try.pinned (OpenSpec.upto fnExactRuinMeanSpec)

/-- 'laws.FnExactRuinSteps', WHERE WHAT IT READS IS OF BULK AT MOST 1048576: true; the input reads as it did. -/
def fnExactRuinStepsUptoRow : OpenClaim := { program := "ytfpckfameebdnab", sum := "b0e1affba4735e3b416b1be89a080cac5ebe9fa17d80593ac08c56ac875f3af5", func := "loop.example/g01131/laws.FnExactRuinSteps", spec := "fnExactRuinSteps", unfollowed := true, recurses := true, apart := false, narrowed := true }
def FnExactRuinStepsUptoSaid : Prop := fnExactRuinStepsUptoRow.holds Try.pinned (OpenSpec.upto fnExactRuinStepsSpec)

/-- 'laws.FnExactPathCount', WHERE WHAT IT READS IS OF BULK AT MOST 1048576: true; the input reads as it did. -/
def fnExactPathCountUptoRow : OpenClaim := { program := "ytfpckfameebdnab", sum := "b0e1affba4735e3b416b1be89a080cac5ebe9fa17d80593ac08c56ac875f3af5", func := "loop.example/g01131/laws.FnExactPathCount", spec := "fnExactPathCount", apart := false, narrowed := true }
def FnExactPathCountUptoSaid : Prop := fnExactPathCountUptoRow.holds Try.pinned (OpenSpec.upto fnExactPathCountSpec)

/-- 'laws.FnExactPathsAbove', WHERE WHAT IT READS IS OF BULK AT MOST 1048576: true; the input reads as it did. -/
def fnExactPathsAboveUptoRow : OpenClaim := { program := "ytfpckfameebdnab", sum := "b0e1affba4735e3b416b1be89a080cac5ebe9fa17d80593ac08c56ac875f3af5", func := "loop.example/g01131/laws.FnExactPathsAbove", spec := "fnExactPathsAbove", apart := false, narrowed := true }
def FnExactPathsAboveUptoSaid : Prop := fnExactPathsAboveUptoRow.holds Try.pinned (OpenSpec.upto fnExactPathsAboveSpec)

/-- 'laws.FnExactFirstPassages', WHERE WHAT IT READS IS OF BULK AT MOST 1048576: true; the input reads as it did. -/
def fnExactFirstPassagesUptoRow : OpenClaim := { program := "ytfpckfameebdnab", sum := "b0e1affba4735e3b416b1be89a080cac5ebe9fa17d80593ac08c56ac875f3af5", func := "loop.example/g01131/laws.FnExactFirstPassages", spec := "fnExactFirstPassages", apart := false, narrowed := true }
def FnExactFirstPassagesUptoSaid : Prop := fnExactFirstPassagesUptoRow.holds Try.pinned (OpenSpec.upto fnExactFirstPassagesSpec)

/-- 'laws.FnExactBallotCount', WHERE WHAT IT READS IS OF BULK AT MOST 1048576: true; the input reads as it did. -/
def fnExactBallotCountUptoRow : OpenClaim := { program := "ytfpckfameebdnab", sum := "b0e1affba4735e3b416b1be89a080cac5ebe9fa17d80593ac08c56ac875f3af5", func := "loop.example/g01131/laws.FnExactBallotCount", spec := "fnExactBallotCount", apart := false, narrowed := true }
def FnExactBallotCountUptoSaid : Prop := fnExactBallotCountUptoRow.holds Try.pinned (OpenSpec.upto fnExactBallotCountSpec)

/-- 'laws.FnExactTieCount', WHERE WHAT IT READS IS OF BULK AT MOST 1048576: true; the input reads as it did. -/
def fnExactTieCountUptoRow : OpenClaim := { program := "ytfpckfameebdnab", sum := "b0e1affba4735e3b416b1be89a080cac5ebe9fa17d80593ac08c56ac875f3af5", func := "loop.example/g01131/laws.FnExactTieCount", spec := "fnExactTieCount", apart := false, narrowed := true }
def FnExactTieCountUptoSaid : Prop := fnExactTieCountUptoRow.holds Try.pinned (OpenSpec.upto fnExactTieCountSpec)

/-- 'laws.FnExactReturnCounts', WHERE WHAT IT READS IS OF BULK AT MOST 1048576: true; the input reads as it did. -/
def fnExactReturnCountsUptoRow : OpenClaim := { program := "ytfpckfameebdnab", sum := "b0e1affba4735e3b416b1be89a080cac5ebe9fa17d80593ac08c56ac875f3af5", func := "loop.example/g01131/laws.FnExactReturnCounts", spec := "fnExactReturnCounts", apart := false, narrowed := true }
def FnExactReturnCountsUptoSaid : Prop := fnExactReturnCountsUptoRow.holds Try.pinned (OpenSpec.upto fnExactReturnCountsSpec)

end Rows
end Go.Proofs.Ytfpckfameebdnab
