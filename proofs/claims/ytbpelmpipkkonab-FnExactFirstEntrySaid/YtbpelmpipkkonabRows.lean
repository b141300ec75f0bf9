/-
  No cell of these rows narrows 'for every input' (looked for: loops, veiled, ifaces, maps, wideKeys, modest, calm, conditions, laid).
  DERIVED. THE GIVEN ROWS OF THIS SEAT. 10 by the template 'for every input the law returns true; each argument reads behind the call as it read before'; 0 by the template 'total and deterministic' (their statements: YtbpelmpipkkonabTotals.lean).
  GIVEN WITH THE SEED: the statements are not yours to turn. If you find one false, say at which input.
  Laid BY PROGRAM, IN A SANDBOX (cutbox-rows.mjs): the forced cells as the released guide's own fill.sh prints them over the translation cc7510191cd9528c… (all of the seat's roots in one cut). By AI agents, Wed Nov 11 2026. No macro, syntax, notation, axiom, sorry.
-/
import Derived.Test.YtbpelmpipkkonabChecked
import GoSem.Claim
import GoSem.ClaimJoined
import GoSem.ClaimMapViews
import Derived.JoinedTies
import Derived.KernelRfl
namespace Go.Proofs.Ytbpelmpipkkonab
/- THE CELL 'sum', in the pinned program and in every row, IS THE sha256 OF THE DUMP (.gsa) THAT YtbpelmpipkkonabProg.lean LOADS. Nothing in Lean hashes anything: it is a label: what it is worth is what the hold of that sum in a sandbox is worth. -/
noncomputable def Try.pinned : Pinned := { name := "ytbpelmpipkkonab", sum := "cc7510191cd9528cb795a437ed3aa89ada8e1baa8a6a32ef2aae8bfc6b1575dd", checked := Try.checked }
namespace Rows
def none {H : Type} : Left H := { results := [], args := [] }

/-- 'laws.FnExactIsStopping': WHATEVER THE INPUT: true; the input reads as it did. -/
def fnExactIsStoppingSpec : ChangeSpec := { name := "fnExactIsStopping", fn := fun _ => fun
  | [d1, d2] => { results := [.lit (.bool true)], args := [d1, d2] }
  | _ => none }
def fnExactIsStoppingRow : OpenClaim := { program := "ytbpelmpipkkonab", sum := "cc7510191cd9528cb795a437ed3aa89ada8e1baa8a6a32ef2aae8bfc6b1575dd", func := "loop.example/g01131/laws.FnExactIsStopping", spec := "fnExactIsStopping", unfollowed := true, recurses := true, apart := false }
def FnExactIsStoppingSaid : Prop := fnExactIsStoppingRow.holds Try.pinned (OpenSpec.ofChange fnExactIsStoppingSpec)

/-- ITS FALSE NEIGHBOUR: 'it returns false'. Refute it at one input. -/
def fnExactIsStoppingWrong : ChangeSpec := { name := "fnExactIsStopping", fn := fun _ => fun
  | [d1, d2] => { results := [.lit (.bool false)], args := [d1, d2] }
  | _ => none }
def FnExactIsStoppingWrongFalsely : Prop := fnExactIsStoppingRow.holds Try.pinned (OpenSpec.ofChange fnExactIsStoppingWrong)

/-- 'laws.FnExactStopAt': WHATEVER THE INPUT: true; the input reads as it did. -/
def fnExactStopAtSpec : ChangeSpec := { name := "fnExactStopAt", fn := fun _ => fun
  | [d1, d2, d3] => { results := [.lit (.bool true)], args := [d1, d2, d3] }
  | _ => none }
def fnExactStopAtRow : OpenClaim := { program := "ytbpelmpipkkonab", sum := "cc7510191cd9528cb795a437ed3aa89ada8e1baa8a6a32ef2aae8bfc6b1575dd", func := "loop.example/g01131/laws.FnExactStopAt", spec := "fnExactStopAt", unfollowed := true, recurses := true, apart := false }
def FnExactStopAtSaid : Prop := fnExactStopAtRow.holds Try.pinned (OpenSpec.ofChange fnExactStopAtSpec)

/-- ITS FALSE NEIGHBOUR: 'it returns false'. Refute it at one input. -/
def fnExactStopAtWrong : ChangeSpec := { name := "fnExactStopAt", fn := fun _ => fun
  | [d1, d2, d3] => { results := [.lit (.bool false)], args := [d1, d2, d3] }
  | _ => none }
def FnExactStopAtWrongFalsely : Prop := fnExactStopAtRow.holds Try.pinned (OpenSpec.ofChange fnExactStopAtWrong)

/-- 'laws.FnExactStoppedProcess': WHATEVER THE INPUT: true; the input reads as it did. -/
def fnExactStoppedProcessSpec : ChangeSpec := { name := "fnExactStoppedProcess", fn := fun _ => fun
  | [d1, d2, d3] => { results := [.lit (.bool true)], args := [d1, d2, d3] }
  | _ => none }
def fnExactStoppedProcessRow : OpenClaim := { program := "ytbpelmpipkkonab", sum := "cc7510191cd9528cb795a437ed3aa89ada8e1baa8a6a32ef2aae8bfc6b1575dd", func := "loop.example/g01131/laws.FnExactStoppedProcess", spec := "fnExactStoppedProcess", unfollowed := true, recurses := true, apart := false }
def FnExactStoppedProcessSaid : Prop := fnExactStoppedProcessRow.holds Try.pinned (OpenSpec.ofChange fnExactStoppedProcessSpec)

/-- ITS FALSE NEIGHBOUR: 'it returns false'. Refute it at one input. -/
def fnExactStoppedProcessWrong : ChangeSpec := { name := "fnExactStoppedProcess", fn := fun _ => fun
  | [d1, d2, d3] => { results := [.lit (.bool false)], args := [d1, d2, d3] }
  | _ => none }
def FnExactStoppedProcessWrongFalsely : Prop := fnExactStoppedProcessRow.holds Try.pinned (OpenSpec.ofChange fnExactStoppedProcessWrong)

/-- 'laws.FnExactStoppedMean': WHATEVER THE INPUT: true; the input reads as it did. -/
def fnExactStoppedMeanSpec : ChangeSpec := { name := "fnExactStoppedMean", fn := fun _ => fun
  | [d1, d2, d3] => { results := [.lit (.bool true)], args := [d1, d2, d3] }
  | _ => none }
def fnExactStoppedMeanRow : OpenClaim := { program := "ytbpelmpipkkonab", sum := "cc7510191cd9528cb795a437ed3aa89ada8e1baa8a6a32ef2aae8bfc6b1575dd", func := "loop.example/g01131/laws.FnExactStoppedMean", spec := "fnExactStoppedMean", unfollowed := true, recurses := true, apart := false }
def FnExactStoppedMeanSaid : Prop := fnExactStoppedMeanRow.holds Try.pinned (OpenSpec.ofChange fnExactStoppedMeanSpec)

/-- ITS FALSE NEIGHBOUR: 'it returns false'. Refute it at one input. -/
def fnExactStoppedMeanWrong : ChangeSpec := { name := "fnExactStoppedMean", fn := fun _ => fun
  | [d1, d2, d3] => { results := [.lit (.bool false)], args := [d1, d2, d3] }
  | _ => none }
def FnExactStoppedMeanWrongFalsely : Prop := fnExactStoppedMeanRow.holds Try.pinned (OpenSpec.ofChange fnExactStoppedMeanWrong)

/-- 'laws.FnExactFirstEntry': WHATEVER THE INPUT: true; the input reads as it did. -/
def fnExactFirstEntrySpec : ChangeSpec := { name := "fnExactFirstEntry", fn := fun _ => fun
  | [d1, d2, d3] => { results := [.lit (.bool true)], args := [d1, d2, d3] }
  | _ => none }
def fnExactFirstEntryRow : OpenClaim := { program := "ytbpelmpipkkonab", sum := "cc7510191cd9528cb795a437ed3aa89ada8e1baa8a6a32ef2aae8bfc6b1575dd", func := "loop.example/g01131/laws.FnExactFirstEntry", spec := "fnExactFirstEntry", unfollowed := true, recurses := true, apart := false }
def FnExactFirstEntrySaid : Prop := fnExactFirstEntryRow.holds Try.pinned (OpenSpec.ofChange fnExactFirstEntrySpec)

/-- ITS FALSE NEIGHBOUR: 'it returns false'. Refute it at one input. -/
def fnExactFirstEntryWrong : ChangeSpec := { name := "fnExactFirstEntry", fn := fun _ => fun
  | [d1, d2, d3] => { results := [.lit (.bool false)], args := [d1, d2, d3] }
  | _ => none }
def FnExactFirstEntryWrongFalsely : Prop := fnExactFirstEntryRow.holds Try.pinned (OpenSpec.ofChange fnExactFirstEntryWrong)

/-- 'laws.FnExactEarlierStop': WHATEVER THE INPUT: true; the input reads as it did. -/
def fnExactEarlierStopSpec : ChangeSpec := { name := "fnExactEarlierStop", fn := fun _ => fun
  | [d1, d2, d3] => { results := [.lit (.bool true)], args := [d1, d2, d3] }
  | _ => none }
def fnExactEarlierStopRow : OpenClaim := { program := "ytbpelmpipkkonab", sum := "cc7510191cd9528cb795a437ed3aa89ada8e1baa8a6a32ef2aae8bfc6b1575dd", func := "loop.example/g01131/laws.FnExactEarlierStop", spec := "fnExactEarlierStop", unfollowed := true, recurses := true, apart := false }
def FnExactEarlierStopSaid : Prop := fnExactEarlierStopRow.holds Try.pinned (OpenSpec.ofChange fnExactEarlierStopSpec)

/-- ITS FALSE NEIGHBOUR: 'it returns false'. Refute it at one input. -/
def fnExactEarlierStopWrong : ChangeSpec := { name := "fnExactEarlierStop", fn := fun _ => fun
  | [d1, d2, d3] => { results := [.lit (.bool false)], args := [d1, d2, d3] }
  | _ => none }
def FnExactEarlierStopWrongFalsely : Prop := fnExactEarlierStopRow.holds Try.pinned (OpenSpec.ofChange fnExactEarlierStopWrong)

/-- 'laws.FnExactLaterStop': WHATEVER THE INPUT: true; the input reads as it did. -/
def fnExactLaterStopSpec : ChangeSpec := { name := "fnExactLaterStop", fn := fun _ => fun
  | [d1, d2, d3] => { results := [.lit (.bool true)], args := [d1, d2, d3] }
  | _ => none }
def fnExactLaterStopRow : OpenClaim := { program := "ytbpelmpipkkonab", sum := "cc7510191cd9528cb795a437ed3aa89ada8e1baa8a6a32ef2aae8bfc6b1575dd", func := "loop.example/g01131/laws.FnExactLaterStop", spec := "fnExactLaterStop", unfollowed := true, recurses := true, apart := false }
def FnExactLaterStopSaid : Prop := fnExactLaterStopRow.holds Try.pinned (OpenSpec.ofChange fnExactLaterStopSpec)

/-- ITS FALSE NEIGHBOUR: 'it returns false'. Refute it at one input. -/
def fnExactLaterStopWrong : ChangeSpec := { name := "fnExactLaterStop", fn := fun _ => fun
  | [d1, d2, d3] => { results := [.lit (.bool false)], args := [d1, d2, d3] }
  | _ => none }
def FnExactLaterStopWrongFalsely : Prop := fnExactLaterStopRow.holds Try.pinned (OpenSpec.ofChange fnExactLaterStopWrong)

/-- 'laws.FnExactCountStops': WHATEVER THE INPUT: true; the input reads as it did. -/
def fnExactCountStopsSpec : ChangeSpec := { name := "fnExactCountStops", fn := fun _ => fun
  | [d] => { results := [.lit (.bool true)], args := [d] }
  | _ => none }
def fnExactCountStopsRow : OpenClaim := { program := "ytbpelmpipkkonab", sum := "cc7510191cd9528cb795a437ed3aa89ada8e1baa8a6a32ef2aae8bfc6b1575dd", func := "loop.example/g01131/laws.FnExactCountStops", spec := "fnExactCountStops", apart := false }
def FnExactCountStopsSaid : Prop := fnExactCountStopsRow.holds Try.pinned (OpenSpec.ofChange fnExactCountStopsSpec)

/-- ITS FALSE NEIGHBOUR: 'it returns false'. Refute it at one input. -/
def fnExactCountStopsWrong : ChangeSpec := { name := "fnExactCountStops", fn := fun _ => fun
  | [d] => { results := [.lit (.bool false)], args := [d] }
  | _ => none }
def FnExactCountStopsWrongFalsely : Prop := fnExactCountStopsRow.holds Try.pinned (OpenSpec.ofChange fnExactCountStopsWrong)

/-- 'laws.FnExactPruneTree': WHATEVER THE INPUT: true; the input reads as it did. -/
def fnExactPruneTreeSpec : ChangeSpec := { name := "fnExactPruneTree", fn := fun _ => fun
  | [d1, d2] => { results := [.lit (.bool true)], args := [d1, d2] }
  | _ => none }
def fnExactPruneTreeRow : OpenClaim := { program := "ytbpelmpipkkonab", sum := "cc7510191cd9528cb795a437ed3aa89ada8e1baa8a6a32ef2aae8bfc6b1575dd", func := "loop.example/g01131/laws.FnExactPruneTree", spec := "fnExactPruneTree", unfollowed := true, recurses := true, apart := false }
def FnExactPruneTreeSaid : Prop := fnExactPruneTreeRow.holds Try.pinned (OpenSpec.ofChange fnExactPruneTreeSpec)

/-- ITS FALSE NEIGHBOUR: 'it returns false'. Refute it at one input. -/
def fnExactPruneTreeWrong : ChangeSpec := { name := "fnExactPruneTree", fn := fun _ => fun
  | [d1, d2] => { results := [.lit (.bool false)], args := [d1, d2] }
  | _ => none }
def FnExactPruneTreeWrongFalsely : Prop := fnExactPruneTreeRow.holds Try.pinned (OpenSpec.ofChange fnExactPruneTreeWrong)

/-- 'laws.FnFractions': WHATEVER THE INPUT: true; the input reads as it did. -/
def fnFractionsSpec : ChangeSpec := { name := "fnFractions", fn := fun _ => fun
  | [d] => { results := [.lit (.bool true)], args := [d] }
  | _ => none }
def fnFractionsRow : OpenClaim := { program := "ytbpelmpipkkonab", sum := "cc7510191cd9528cb795a437ed3aa89ada8e1baa8a6a32ef2aae8bfc6b1575dd", func := "loop.example/g01131/laws.FnFractions", spec := "fnFractions", apart := false }
def FnFractionsSaid : Prop := fnFractionsRow.holds Try.pinned (OpenSpec.ofChange fnFractionsSpec)

/-- ITS FALSE NEIGHBOUR: 'it returns false'. Refute it at one input. -/
def fnFractionsWrong : ChangeSpec := { name := "fnFractions", fn := fun _ => fun
  | [d] => { results := [.lit (.bool false)], args := [d] }
  | _ => none }
def FnFractionsWrongFalsely : Prop := fnFractionsRow.holds Try.pinned (OpenSpec.ofChange fnFractionsWrong)

/- THE SECOND FORM. 'bulk': how many values and letters a reading holds, each counted each time it is reached (what is shared counts as often as it is met; a slice's spare places count too). A statement '..UptoSaid' is the law's where the arguments, and the package variables that the reading takes, are together of bulk at most 1048576: NARROWER than '..Said'. Prove '..Said' where nothing that the law and all that it calls make is longer than what came in: it says more and counts as full. Else prove '..UptoSaid'. A law counts once. -/
mutual
def uptoBulk {H : Type} : DataW H → Nat
  | .lit (.string bytes) => bytes.length + 1
  | .lit _ => 1
  | .nil => 1
  | .ptr d => uptoBulk d + 1
  | .slice elems spare => uptoBulkAll elems + uptoBulkAll spare + 1
  | .agg parts => uptoBulkAll parts + 1
  | .iface _ d => uptoBulk d + 1
  | .map entries => uptoBulkEntries entries + 1
  | .held _ => 1
def uptoBulkAll {H : Type} : List (DataW H) → Nat
  | [] => 0
  | d :: r => uptoBulk d + uptoBulkAll r
def uptoBulkEntries {H : Type} : List (Lit × DataW H) → Nat
  | [] => 0
  | x :: r => uptoBulkEntry x + uptoBulkEntries r
def uptoBulkEntry {H : Type} : Lit × DataW H → Nat
  | (.string bytes, d) => bytes.length + uptoBulk d + 1
  | (_, d) => uptoBulk d + 1
 end
def uptoSmall : (H : Type) → List (DataW H) → Bool := fun _ ds => decide (uptoBulkAll ds ≤ 1048576)
def OpenSpec.upto (s : _root_.Go.ChangeSpec) : _root_.Go.OpenSpec := { _root_.Go.OpenSpec.ofChange s with cond := some uptoSmall }

/-- 'laws.FnExactIsStopping', WHERE WHAT IT READS IS OF BULK AT MOST 1048576: true; the input reads as it did. -/
def fnExactIsStoppingUptoRow : OpenClaim := { program := "ytbpelmpipkkonab", sum := "cc7510191cd9528cb795a437ed3aa89ada8e1baa8a6a32ef2aae8bfc6b1575dd", func := "loop.example/g01131/laws.FnExactIsStopping", spec := "fnExactIsStopping", unfollowed := true, recurses := true, apart := false, narrowed := true }
def FnExactIsStoppingUptoSaid : Prop := fnExactIsStoppingUptoRow.holds Try.pinned (OpenSpec.upto fnExactIsStoppingSpec)

/-- 'laws.FnExactStopAt', WHERE WHAT IT READS IS OF BULK AT MOST 1048576: true; the input reads as it did. -/
def fnExactStopAtUptoRow : OpenClaim := { program := "ytbpelmpipkkonab", sum := "cc7510191cd9528cb795a437ed3aa89ada8e1baa8a6a32ef2aae8bfc6b1575dd", func := "loop.example/g01131/laws.FnExactStopAt", spec := "fnExactStopAt", unfollowed := true, recurses := true, apart := false, narrowed := true }
def FnExactStopAtUptoSaid : Prop := fnExactStopAtUptoRow.holds Try.pinned (OpenSpec.upto fnExactStopAtSpec)

/-- 'laws.FnExactStoppedProcess', WHERE WHAT IT READS IS OF BULK AT MOST 1048576: true; the input reads as it did. -/
def fnExactStoppedProcessUptoRow : OpenClaim := { program := "ytbpelmpipkkonab", sum := "cc7510191cd9528cb795a437ed3aa89ada8e1baa8a6a32ef2aae8bfc6b1575dd", func := "loop.example/g01131/laws.FnExactStoppedProcess", spec := "fnExactStoppedProcess", unfollowed := true, recurses := true, apart := false, narrowed := true }
def FnExactStoppedProcessUptoSaid : Prop := fnExactStoppedProcessUptoRow.holds Try.pinned (OpenSpec.upto fnExactStoppedProcessSpec)

/-- 'laws.FnExactStoppedMean', WHERE WHAT IT READS IS OF BULK AT MOST 1048576: true; the input reads as it did. -/
def fnExactStoppedMeanUptoRow : OpenClaim := { program := "ytbpelmpipkkonab", sum := "cc7510191cd9528cb795a437ed3aa89ada8e1baa8a6a32ef2aae8bfc6b1575dd", func := "loop.example/g01131/laws.FnExactStoppedMean", spec := "fnExactStoppedMean", unfollowed := true, recurses := true, apart := false, narrowed := true }
def FnExactStoppedMeanUptoSaid : Prop := fnExactStoppedMeanUptoRow.holds Try.pinned (OpenSpec.upto fnExactStoppedMeanSpec)

/-- 'laws.FnExactFirstEntry', WHERE WHAT IT READS IS OF BULK AT MOST 1048576: true; the input reads as it did. -/
def fnExactFirstEntryUptoRow : OpenClaim := { program := "ytbpelmpipkkonab", sum := "cc7510191cd9528cb795a437ed3aa89ada8e1baa8a6a32ef2aae8bfc6b1575dd", func := "loop.example/g01131/laws.FnExactFirstEntry", spec := "fnExactFirstEntry", unfollowed := true, recurses := true, apart := false, narrowed := true }
def FnExactFirstEntryUptoSaid : Prop := fnExactFirstEntryUptoRow.holds Try.pinned (OpenSpec.upto fnExactFirstEntrySpec)

/-- 'laws.FnExactEarlierStop', WHERE WHAT IT READS IS OF BULK AT MOST 1048576: true; the input reads as it did. -/
def fnExactEarlierStopUptoRow : OpenClaim := { program := "ytbpelmpipkkonab", sum := "cc7510191cd9528cb795a437ed3aa89ada8e1baa8a6a32ef2aae8bfc6b1575dd", func := "loop.example/g01131/laws.FnExactEarlierStop", spec := "fnExactEarlierStop", unfollowed := true, recurses := true, apart := false, narrowed := true }
def FnExactEarlierStopUptoSaid : Prop := fnExactEarlierStopUptoRow.holds Try.pinned (OpenSpec.upto fnExactEarlierStopSpec)

/-- 'laws.FnExactLaterStop', WHERE WHAT IT READS IS OF BULK AT MOST 1048576: true; the input reads as it did. -/
def fnExactLaterStopUptoRow : OpenClaim := { program := "ytbpelmpipkkonab", sum := "cc7510191cd9528cb795a437ed3aa89ada8e1baa8a6a32ef2aae8bfc6b1575dd", func := "loop.example/g01131/laws.FnExactLaterStop", spec := "fnExactLaterStop", unfollowed := true, recurses := true, apart := false, narrowed := true }
def FnExactLaterStopUptoSaid : Prop := fnExactLaterStopUptoRow.holds Try.pinned (OpenSpec.upto fnExactLaterStopSpec)

/-- 'laws.FnExactCountStops', WHERE WHAT IT READS IS OF BULK AT MOST 1048576: true; the input reads as it did. -/
def fnExactCountStopsUptoRow : OpenClaim := { program := "ytbpelmpipkkonab", sum := "cc7510191cd9528cb795a437ed3aa89ada8e1baa8a6a32ef2aae8bfc6b1575dd", func := "loop.example/g01131/laws.FnExactCountStops", spec := "fnExactCountStops", apart := false, narrowed := true }
def FnExactCountStopsUptoSaid : Prop := fnExactCountStopsUptoRow.holds Try.pinned (OpenSpec.upto fnExactCountStopsSpec)

/-- 'laws.FnExactPruneTree', WHERE WHAT IT READS IS OF BULK AT MOST 1048576: true; the input reads as it did. -/
def fnExactPruneTreeUptoRow : OpenClaim := { program := "ytbpelmpipkkonab", sum := "cc7510191cd9528cb795a437ed3aa89ada8e1baa8a6a32ef2aae8bfc6b1575dd", func := "loop.example/g01131/laws.FnExactPruneTree", spec := "fnExactPruneTree", unfollowed := true, recurses := true, apart := false, narrowed := true }
def FnExactPruneTreeUptoSaid : Prop := fnExactPruneTreeUptoRow.holds Try.pinned (OpenSpec.upto fnExactPruneTreeSpec)

/-- 'laws.FnFractions', WHERE WHAT IT READS IS OF BULK AT MOST 1048576: true; the input reads as it did. -/
def fnFractionsUptoRow : OpenClaim := { program := "ytbpelmpipkkonab", sum := "cc7510191cd9528cb795a437ed3aa89ada8e1baa8a6a32ef2aae8bfc6b1575dd", func := "loop.example/g01131/laws.FnFractions", spec := "fnFractions", apart := false, narrowed := true }
def FnFractionsUptoSaid : Prop := fnFractionsUptoRow.holds Try.pinned (OpenSpec.upto fnFractionsSpec)

end Rows
end Go.Proofs.Ytbpelmpipkkonab
