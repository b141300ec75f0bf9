/-
  No cell of these rows narrows 'for every input' (looked for: loops, veiled, ifaces, maps, wideKeys, modest, calm, conditions, laid).
  DERIVED. THE GIVEN ROWS OF THIS SEAT. 10 by the template 'for every input the law returns true; each argument reads behind the call as it read before'; 0 by the template 'total and deterministic' (their statements: YtonlibncccljgaaTotals.lean).
  GIVEN WITH THE SEED: the statements are not yours to turn. If you find one false, say at which input.
  Laid BY PROGRAM, IN A SANDBOX (cutbox-rows.mjs): the forced cells as the released guide's own fill.sh prints them over the translation 9b3e965e22336136… (all of the seat's roots in one cut). By AI agents, Wed Nov 11 2026. No macro, syntax, notation, axiom, sorry.
-/
import Derived.Test.YtonlibncccljgaaChecked
import GoSem.Claim
import GoSem.ClaimJoined
import GoSem.ClaimMapViews
import Derived.JoinedTies
import Derived.KernelRfl
namespace Go.Proofs.Ytonlibncccljgaa
/- THE CELL 'sum', in the pinned program and in every row, IS THE sha256 OF THE DUMP (.gsa) THAT YtonlibncccljgaaProg.lean LOADS. Nothing in Lean hashes anything: it is a label: what it is worth is what the hold of that sum in a sandbox is worth. -/
noncomputable def Try.pinned : Pinned := { name := "ytonlibncccljgaa", sum := "9b3e965e22336136c5f1d7250904c93dc8c99162d127be9be296b225b8f7f4fe", checked := Try.checked }
namespace Rows
def none {H : Type} : Left H := { results := [], args := [] }

/-- 'laws.FnExactDriftsOf': WHATEVER THE INPUT: true; the input reads as it did. -/
def fnExactDriftsOfSpec : ChangeSpec := { name := "fnExactDriftsOf", fn := fun _ => fun
  | [d1, d2] => { results := [.lit (.bool true)], args := [d1, d2] }
  | _ => none }
def fnExactDriftsOfRow : OpenClaim := { program := "ytonlibncccljgaa", sum := "9b3e965e22336136c5f1d7250904c93dc8c99162d127be9be296b225b8f7f4fe", func := "loop.example/g01131/laws.FnExactDriftsOf", spec := "fnExactDriftsOf", unfollowed := true, recurses := true, apart := false }
def FnExactDriftsOfSaid : Prop := fnExactDriftsOfRow.holds Try.pinned (OpenSpec.ofChange fnExactDriftsOfSpec)

/-- ITS FALSE NEIGHBOUR: 'it returns false'. Refute it at one input. -/
def fnExactDriftsOfWrong : ChangeSpec := { name := "fnExactDriftsOf", fn := fun _ => fun
  | [d1, d2] => { results := [.lit (.bool false)], args := [d1, d2] }
  | _ => none }
def FnExactDriftsOfWrongFalsely : Prop := fnExactDriftsOfRow.holds Try.pinned (OpenSpec.ofChange fnExactDriftsOfWrong)

/-- 'laws.FnExactIsFairProcess': WHATEVER THE INPUT: true; the input reads as it did. -/
def fnExactIsFairProcessSpec : ChangeSpec := { name := "fnExactIsFairProcess", fn := fun _ => fun
  | [d1, d2] => { results := [.lit (.bool true)], args := [d1, d2] }
  | _ => none }
def fnExactIsFairProcessRow : OpenClaim := { program := "ytonlibncccljgaa", sum := "9b3e965e22336136c5f1d7250904c93dc8c99162d127be9be296b225b8f7f4fe", func := "loop.example/g01131/laws.FnExactIsFairProcess", spec := "fnExactIsFairProcess", unfollowed := true, recurses := true, apart := false }
def FnExactIsFairProcessSaid : Prop := fnExactIsFairProcessRow.holds Try.pinned (OpenSpec.ofChange fnExactIsFairProcessSpec)

/-- ITS FALSE NEIGHBOUR: 'it returns false'. Refute it at one input. -/
def fnExactIsFairProcessWrong : ChangeSpec := { name := "fnExactIsFairProcess", fn := fun _ => fun
  | [d1, d2] => { results := [.lit (.bool false)], args := [d1, d2] }
  | _ => none }
def FnExactIsFairProcessWrongFalsely : Prop := fnExactIsFairProcessRow.holds Try.pinned (OpenSpec.ofChange fnExactIsFairProcessWrong)

/-- 'laws.FnExactIsFalling': WHATEVER THE INPUT: true; the input reads as it did. -/
def fnExactIsFallingSpec : ChangeSpec := { name := "fnExactIsFalling", fn := fun _ => fun
  | [d1, d2] => { results := [.lit (.bool true)], args := [d1, d2] }
  | _ => none }
def fnExactIsFallingRow : OpenClaim := { program := "ytonlibncccljgaa", sum := "9b3e965e22336136c5f1d7250904c93dc8c99162d127be9be296b225b8f7f4fe", func := "loop.example/g01131/laws.FnExactIsFalling", spec := "fnExactIsFalling", unfollowed := true, recurses := true, apart := false }
def FnExactIsFallingSaid : Prop := fnExactIsFallingRow.holds Try.pinned (OpenSpec.ofChange fnExactIsFallingSpec)

/-- ITS FALSE NEIGHBOUR: 'it returns false'. Refute it at one input. -/
def fnExactIsFallingWrong : ChangeSpec := { name := "fnExactIsFalling", fn := fun _ => fun
  | [d1, d2] => { results := [.lit (.bool false)], args := [d1, d2] }
  | _ => none }
def FnExactIsFallingWrongFalsely : Prop := fnExactIsFallingRow.holds Try.pinned (OpenSpec.ofChange fnExactIsFallingWrong)

/-- 'laws.FnExactDoobParts': WHATEVER THE INPUT: true; the input reads as it did. -/
def fnExactDoobPartsSpec : ChangeSpec := { name := "fnExactDoobParts", fn := fun _ => fun
  | [d1, d2] => { results := [.lit (.bool true)], args := [d1, d2] }
  | _ => none }
def fnExactDoobPartsRow : OpenClaim := { program := "ytonlibncccljgaa", sum := "9b3e965e22336136c5f1d7250904c93dc8c99162d127be9be296b225b8f7f4fe", func := "loop.example/g01131/laws.FnExactDoobParts", spec := "fnExactDoobParts", unfollowed := true, recurses := true, apart := false }
def FnExactDoobPartsSaid : Prop := fnExactDoobPartsRow.holds Try.pinned (OpenSpec.ofChange fnExactDoobPartsSpec)

/-- ITS FALSE NEIGHBOUR: 'it returns false'. Refute it at one input. -/
def fnExactDoobPartsWrong : ChangeSpec := { name := "fnExactDoobParts", fn := fun _ => fun
  | [d1, d2] => { results := [.lit (.bool false)], args := [d1, d2] }
  | _ => none }
def FnExactDoobPartsWrongFalsely : Prop := fnExactDoobPartsRow.holds Try.pinned (OpenSpec.ofChange fnExactDoobPartsWrong)

/-- 'laws.FnExactCountStops': WHATEVER THE INPUT: true; the input reads as it did. -/
def fnExactCountStopsSpec : ChangeSpec := { name := "fnExactCountStops", fn := fun _ => fun
  | [d] => { results := [.lit (.bool true)], args := [d] }
  | _ => none }
def fnExactCountStopsRow : OpenClaim := { program := "ytonlibncccljgaa", sum := "9b3e965e22336136c5f1d7250904c93dc8c99162d127be9be296b225b8f7f4fe", func := "loop.example/g01131/laws.FnExactCountStops", spec := "fnExactCountStops", apart := false }
def FnExactCountStopsSaid : Prop := fnExactCountStopsRow.holds Try.pinned (OpenSpec.ofChange fnExactCountStopsSpec)

/-- ITS FALSE NEIGHBOUR: 'it returns false'. Refute it at one input. -/
def fnExactCountStopsWrong : ChangeSpec := { name := "fnExactCountStops", fn := fun _ => fun
  | [d] => { results := [.lit (.bool false)], args := [d] }
  | _ => none }
def FnExactCountStopsWrongFalsely : Prop := fnExactCountStopsRow.holds Try.pinned (OpenSpec.ofChange fnExactCountStopsWrong)

/-- 'laws.FnExactPaysAtCut': WHATEVER THE INPUT: true; the input reads as it did. -/
def fnExactPaysAtCutSpec : ChangeSpec := { name := "fnExactPaysAtCut", fn := fun _ => fun
  | [d1, d2, d3] => { results := [.lit (.bool true)], args := [d1, d2, d3] }
  | _ => none }
def fnExactPaysAtCutRow : OpenClaim := { program := "ytonlibncccljgaa", sum := "9b3e965e22336136c5f1d7250904c93dc8c99162d127be9be296b225b8f7f4fe", func := "loop.example/g01131/laws.FnExactPaysAtCut", spec := "fnExactPaysAtCut", unfollowed := true, recurses := true, apart := false }
def FnExactPaysAtCutSaid : Prop := fnExactPaysAtCutRow.holds Try.pinned (OpenSpec.ofChange fnExactPaysAtCutSpec)

/-- ITS FALSE NEIGHBOUR: 'it returns false'. Refute it at one input. -/
def fnExactPaysAtCutWrong : ChangeSpec := { name := "fnExactPaysAtCut", fn := fun _ => fun
  | [d1, d2, d3] => { results := [.lit (.bool false)], args := [d1, d2, d3] }
  | _ => none }
def FnExactPaysAtCutWrongFalsely : Prop := fnExactPaysAtCutRow.holds Try.pinned (OpenSpec.ofChange fnExactPaysAtCutWrong)

/-- 'laws.FnExactKnownAt': WHATEVER THE INPUT: true; the input reads as it did. -/
def fnExactKnownAtSpec : ChangeSpec := { name := "fnExactKnownAt", fn := fun _ => fun
  | [d1, d2] => { results := [.lit (.bool true)], args := [d1, d2] }
  | _ => none }
def fnExactKnownAtRow : OpenClaim := { program := "ytonlibncccljgaa", sum := "9b3e965e22336136c5f1d7250904c93dc8c99162d127be9be296b225b8f7f4fe", func := "loop.example/g01131/laws.FnExactKnownAt", spec := "fnExactKnownAt", unfollowed := true, recurses := true, apart := false }
def FnExactKnownAtSaid : Prop := fnExactKnownAtRow.holds Try.pinned (OpenSpec.ofChange fnExactKnownAtSpec)

/-- ITS FALSE NEIGHBOUR: 'it returns false'. Refute it at one input. -/
def fnExactKnownAtWrong : ChangeSpec := { name := "fnExactKnownAt", fn := fun _ => fun
  | [d1, d2] => { results := [.lit (.bool false)], args := [d1, d2] }
  | _ => none }
def FnExactKnownAtWrongFalsely : Prop := fnExactKnownAtRow.holds Try.pinned (OpenSpec.ofChange fnExactKnownAtWrong)

/-- 'laws.FnExactPruneTree': WHATEVER THE INPUT: true; the input reads as it did. -/
def fnExactPruneTreeSpec : ChangeSpec := { name := "fnExactPruneTree", fn := fun _ => fun
  | [d1, d2] => { results := [.lit (.bool true)], args := [d1, d2] }
  | _ => none }
def fnExactPruneTreeRow : OpenClaim := { program := "ytonlibncccljgaa", sum := "9b3e965e22336136c5f1d7250904c93dc8c99162d127be9be296b225b8f7f4fe", func := "loop.example/g01131/laws.FnExactPruneTree", spec := "fnExactPruneTree", unfollowed := true, recurses := true, apart := false }
def FnExactPruneTreeSaid : Prop := fnExactPruneTreeRow.holds Try.pinned (OpenSpec.ofChange fnExactPruneTreeSpec)

/-- ITS FALSE NEIGHBOUR: 'it returns false'. Refute it at one input. -/
def fnExactPruneTreeWrong : ChangeSpec := { name := "fnExactPruneTree", fn := fun _ => fun
  | [d1, d2] => { results := [.lit (.bool false)], args := [d1, d2] }
  | _ => none }
def FnExactPruneTreeWrongFalsely : Prop := fnExactPruneTreeRow.holds Try.pinned (OpenSpec.ofChange fnExactPruneTreeWrong)

/-- 'laws.FnFractions': WHATEVER THE INPUT: true; the input reads as it did. -/
def fnFractionsSpec : ChangeSpec := { name := "fnFractions", fn := fun _ => fun
  | [d] => { results := [.lit (.bool true)], args := [d] }
  | _ => none }
def fnFractionsRow : OpenClaim := { program := "ytonlibncccljgaa", sum := "9b3e965e22336136c5f1d7250904c93dc8c99162d127be9be296b225b8f7f4fe", func := "loop.example/g01131/laws.FnFractions", spec := "fnFractions", apart := false }
def FnFractionsSaid : Prop := fnFractionsRow.holds Try.pinned (OpenSpec.ofChange fnFractionsSpec)

/-- ITS FALSE NEIGHBOUR: 'it returns false'. Refute it at one input. -/
def fnFractionsWrong : ChangeSpec := { name := "fnFractions", fn := fun _ => fun
  | [d] => { results := [.lit (.bool false)], args := [d] }
  | _ => none }
def FnFractionsWrongFalsely : Prop := fnFractionsRow.holds Try.pinned (OpenSpec.ofChange fnFractionsWrong)

/-- 'laws.FnDrifts': WHATEVER THE INPUT: true; the input reads as it did. -/
def fnDriftsSpec : ChangeSpec := { name := "fnDrifts", fn := fun _ => fun
  | [d] => { results := [.lit (.bool true)], args := [d] }
  | _ => none }
def fnDriftsRow : OpenClaim := { program := "ytonlibncccljgaa", sum := "9b3e965e22336136c5f1d7250904c93dc8c99162d127be9be296b225b8f7f4fe", func := "loop.example/g01131/laws.FnDrifts", spec := "fnDrifts", unfollowed := true, recurses := true, apart := false }
def FnDriftsSaid : Prop := fnDriftsRow.holds Try.pinned (OpenSpec.ofChange fnDriftsSpec)

/-- ITS FALSE NEIGHBOUR: 'it returns false'. Refute it at one input. -/
def fnDriftsWrong : ChangeSpec := { name := "fnDrifts", fn := fun _ => fun
  | [d] => { results := [.lit (.bool false)], args := [d] }
  | _ => none }
def FnDriftsWrongFalsely : Prop := fnDriftsRow.holds Try.pinned (OpenSpec.ofChange fnDriftsWrong)

/- THE SECOND FORM. 'bulk': how many values and letters a reading holds, each counted each time it is reached (what is shared counts as often as it is met; a slice's spare places count too). A statement '..UptoSaid' is the law's where the arguments, and the package variables that the reading takes, are together of bulk at most 1048576: NARROWER than '..Said'. Prove '..Said' where nothing that the law and all that it calls make is longer than what came in: it says more and counts as full. Else prove '..UptoSaid'. A law counts once. -/
mutual
def uptoBulk {H : Type} : DataW H → Nat
  | .lit (.string bytes) => bytes.length + 1
  | .lit _ => 1
  | .nil => 1
  | .ptr d => uptoBulk d + 1
  | .slice elems spare => uptoBulkAll elems + uptoBulkAll spare + 1
  | .agg parts => uptoBulkAll parts + 1
  | .iface _ d => uptoBulk d + 1
  | .map entries => uptoBulkEntries entries + 1
  | .held _ => 1
def uptoBulkAll {H : Type} : List (DataW H) → Nat
  | [] => 0
  | d :: r => uptoBulk d + uptoBulkAll r
def uptoBulkEntries {H : Type} : List (Lit × DataW H) → Nat
  | [] => 0
  | x :: r => uptoBulkEntry x + uptoBulkEntries r
def uptoBulkEntry {H : Type} : Lit × DataW H → Nat
  | (.string bytes, d) => bytes.length + uptoBulk d + 1
  | (_, d) => uptoBulk d + 1
 end
def uptoSmall : (H : Type) → List (DataW H) → Bool := fun _ ds => decide (uptoBulkAll ds ≤ 1048576)
def OpenSpec.upto (s : _root_.Go.ChangeSpec) : _root_.Go.OpenSpec := { _root_.Go.OpenSpec.ofChange s with cond := some uptoSmall }

/-- 'laws.FnExactDriftsOf', WHERE WHAT IT READS IS OF BULK AT MOST 1048576: true; the input reads as it did. -/
def fnExactDriftsOfUptoRow : OpenClaim := { program := "ytonlibncccljgaa", sum := "9b3e965e22336136c5f1d7250904c93dc8c99162d127be9be296b225b8f7f4fe", func := "loop.example/g01131/laws.FnExactDriftsOf", spec := "fnExactDriftsOf", unfollowed := true, recurses := true, apart := false, narrowed := true }
def FnExactDriftsOfUptoSaid : Prop := fnExactDriftsOfUptoRow.holds Try.pinned (OpenSpec.upto fnExactDriftsOfSpec)

/-- 'laws.FnExactIsFairProcess', WHERE WHAT IT READS IS OF BULK AT MOST 1048576: true; the input reads as it did. -/
def fnExactIsFairProcessUptoRow : OpenClaim := { program := "ytonlibncccljgaa", sum := "9b3e965e22336136c5f1d7250904c93dc8c99162d127be9be296b225b8f7f4fe", func := "loop.example/g01131/laws.FnExactIsFairProcess", spec := "fnExactIsFairProcess", unfollowed := true, recurses := true, apart := false, narrowed := true }
def FnExactIsFairProcessUptoSaid : Prop := fnExactIsFairProcessUptoRow.holds Try.pinned (OpenSpec.upto fnExactIsFairProcessSpec)

/-- 'laws.FnExactIsFalling', WHERE WHAT IT READS IS OF BULK AT MOST 1048576: true; the input reads as it did. -/
def fnExactIsFallingUptoRow : OpenClaim := { program := "ytonlibncccljgaa", sum := "9b3e965e22336136c5f1d7250904c93dc8c99162d127be9be296b225b8f7f4fe", func := "loop.example/g01131/laws.FnExactIsFalling", spec := "fnExactIsFalling", unfollowed := true, recurses := true, apart := false, narrowed := true }
def FnExactIsFallingUptoSaid : Prop := fnExactIsFallingUptoRow.holds Try.pinned (OpenSpec.upto fnExactIsFallingSpec)

/-- 'laws.FnExactDoobParts', WHERE WHAT IT READS IS OF BULK AT MOST 1048576: true; the input reads as it did. -/
def fnExactDoobPartsUptoRow : OpenClaim := { program := "ytonlibncccljgaa", sum := "9b3e965e22336136c5f1d7250904c93dc8c99162d127be9be296b225b8f7f4fe", func := "loop.example/g01131/laws.FnExactDoobParts", spec := "fnExactDoobParts", unfollowed := true, recurses := true, apart := false, narrowed := true }
def FnExactDoobPartsUptoSaid : Prop := fnExactDoobPartsUptoRow.holds Try.pinned (OpenSpec.upto fnExactDoobPartsSpec)

/-- 'laws.FnExactCountStops', WHERE WHAT IT READS IS OF BULK AT MOST 1048576: true; the input reads as it did. -/
def fnExactCountStopsUptoRow : OpenClaim := { program := "ytonlibncccljgaa", sum := "9b3e965e22336136c5f1d7250904c93dc8c99162d127be9be296b225b8f7f4fe", func := "loop.example/g01131/laws.FnExactCountStops", spec := "fnExactCountStops", apart := false, narrowed := true }
def FnExactCountStopsUptoSaid : Prop := fnExactCountStopsUptoRow.holds Try.pinned (OpenSpec.upto fnExactCountStopsSpec)

/-- 'laws.FnExactPaysAtCut', WHERE WHAT IT READS IS OF BULK AT MOST 1048576: true; the input reads as it did. -/
def fnExactPaysAtCutUptoRow : OpenClaim := { program := "ytonlibncccljgaa", sum := "9b3e965e22336136c5f1d7250904c93dc8c99162d127be9be296b225b8f7f4fe", func := "loop.example/g01131/laws.FnExactPaysAtCut", spec := "fnExactPaysAtCut", unfollowed := true, recurses := true, apart := false, narrowed := true }
def FnExactPaysAtCutUptoSaid : Prop := fnExactPaysAtCutUptoRow.holds Try.pinned (OpenSpec.upto fnExactPaysAtCutSpec)

/-- 'laws.FnExactKnownAt', WHERE WHAT IT READS IS OF BULK AT MOST 1048576: true; the input reads as it did. -/
def fnExactKnownAtUptoRow : OpenClaim := { program := "ytonlibncccljgaa", sum := "9b3e965e22336136c5f1d7250904c93dc8c99162d127be9be296b225b8f7f4fe", func := "loop.example/g01131/laws.FnExactKnownAt", spec := "fnExactKnownAt", unfollowed := true, recurses := true, apart := false, narrowed := true }
def FnExactKnownAtUptoSaid : Prop := fnExactKnownAtUptoRow.holds Try.pinned (OpenSpec.upto fnExactKnownAtSpec)

/-- 'laws.FnExactPruneTree', WHERE WHAT IT READS IS OF BULK AT MOST 1048576: true; the input reads as it did. -/
def fnExactPruneTreeUptoRow : OpenClaim := { program := "ytonlibncccljgaa", sum := "9b3e965e22336136c5f1d7250904c93dc8c99162d127be9be296b225b8f7f4fe", func := "loop.example/g01131/laws.FnExactPruneTree", spec := "fnExactPruneTree", unfollowed := true, recurses := true, apart := false, narrowed := true }
def FnExactPruneTreeUptoSaid : Prop := fnExactPruneTreeUptoRow.holds Try.pinned (OpenSpec.upto fnExactPruneTreeSpec)

/-- 'laws.FnFractions', WHERE WHAT IT READS IS OF BULK AT MOST 1048576: true; the input reads as it did. -/
def fnFractionsUptoRow : OpenClaim := { program := "ytonlibncccljgaa", sum := "9b3e965e22336136c5f1d7250904c93dc8c99162d127be9be296b225b8f7f4fe", func := "loop.example/g01131/laws.FnFractions", spec := "fnFractions", apart := false, narrowed := true }
def FnFractionsUptoSaid : Prop := fnFractionsUptoRow.holds Try.pinned (OpenSpec.upto fnFractionsSpec)

/-- 'laws.FnDrifts', WHERE WHAT IT READS IS OF BULK AT MOST 1048576: true; the input reads as it did. -/
def fnDriftsUptoRow : OpenClaim := { program := "ytonlibncccljgaa", sum := "9b3e965e22336136c5f1d7250904c93dc8c99162d127be9be296b225b8f7f4fe", func := "loop.example/g01131/laws.FnDrifts", spec := "fnDrifts", unfollowed := true, recurses := true, apart := false, narrowed := true }
def FnDriftsUptoSaid : Prop := fnDriftsUptoRow.holds Try.pinned (OpenSpec.upto fnDriftsSpec)

end Rows
end Go.Proofs.Ytonlibncccljgaa
