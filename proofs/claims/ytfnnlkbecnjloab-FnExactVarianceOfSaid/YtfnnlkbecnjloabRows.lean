/-
  No cell of these rows narrows 'for every input' (looked for: loops, veiled, ifaces, maps, wideKeys, modest, calm, conditions, laid).
  DERIVED. THE GIVEN ROWS OF THIS SEAT. 12 by the template 'for every input the law returns true; each argument reads behind the call as it read before'; 0 by the template 'total and deterministic' (their statements: YtfnnlkbecnjloabTotals.lean).
  GIVEN WITH THE SEED: the statements are not yours to turn. If you find one false, say at which input.
  Laid BY PROGRAM, IN A SANDBOX (cutbox-rows.mjs): the forced cells as the released guide's own fill.sh prints them over the translation 33855a593ae1be82… (all of the seat's roots in one cut). By AI agents, Wed Nov 11 2026. No macro, syntax, notation, axiom, sorry.
-/
import Derived.Test.YtfnnlkbecnjloabChecked
import GoSem.Claim
import GoSem.ClaimJoined
import GoSem.ClaimMapViews
import Derived.JoinedTies
import Derived.KernelRfl
namespace Go.Proofs.Ytfnnlkbecnjloab
/- THE CELL 'sum', in the pinned program and in every row, IS THE sha256 OF THE DUMP (.gsa) THAT YtfnnlkbecnjloabProg.lean LOADS. Nothing in Lean hashes anything: it is a label: what it is worth is what the hold of that sum in a sandbox is worth. -/
noncomputable def Try.pinned : Pinned := { name := "ytfnnlkbecnjloab", sum := "33855a593ae1be82f16a9dd1ff2e3f3f0e9f145ea7f3e4a8a33d9a2f7dca2041", checked := Try.checked }
namespace Rows
def none {H : Type} : Left H := { results := [], args := [] }

/-- 'laws.FnExactChanceOf': WHATEVER THE INPUT: true; the input reads as it did. -/
def fnExactChanceOfSpec : ChangeSpec := { name := "fnExactChanceOf", fn := fun _ => fun
  | [d1, d2] => { results := [.lit (.bool true)], args := [d1, d2] }
  | _ => none }
def fnExactChanceOfRow : OpenClaim := { program := "ytfnnlkbecnjloab", sum := "33855a593ae1be82f16a9dd1ff2e3f3f0e9f145ea7f3e4a8a33d9a2f7dca2041", func := "loop.example/g01131/laws.FnExactChanceOf", spec := "fnExactChanceOf", unfollowed := true, recurses := true, apart := false }
def FnExactChanceOfSaid : Prop := fnExactChanceOfRow.holds Try.pinned (OpenSpec.ofChange fnExactChanceOfSpec)

/-- ITS FALSE NEIGHBOUR: 'it returns false'. Refute it at one input. -/
def fnExactChanceOfWrong : ChangeSpec := { name := "fnExactChanceOf", fn := fun _ => fun
  | [d1, d2] => { results := [.lit (.bool false)], args := [d1, d2] }
  | _ => none }
def FnExactChanceOfWrongFalsely : Prop := fnExactChanceOfRow.holds Try.pinned (OpenSpec.ofChange fnExactChanceOfWrong)

/-- 'laws.FnExactCutAt': WHATEVER THE INPUT: true; the input reads as it did. -/
def fnExactCutAtSpec : ChangeSpec := { name := "fnExactCutAt", fn := fun _ => fun
  | [d1, d2] => { results := [.lit (.bool true)], args := [d1, d2] }
  | _ => none }
def fnExactCutAtRow : OpenClaim := { program := "ytfnnlkbecnjloab", sum := "33855a593ae1be82f16a9dd1ff2e3f3f0e9f145ea7f3e4a8a33d9a2f7dca2041", func := "loop.example/g01131/laws.FnExactCutAt", spec := "fnExactCutAt", unfollowed := true, recurses := true, apart := false }
def FnExactCutAtSaid : Prop := fnExactCutAtRow.holds Try.pinned (OpenSpec.ofChange fnExactCutAtSpec)

/-- ITS FALSE NEIGHBOUR: 'it returns false'. Refute it at one input. -/
def fnExactCutAtWrong : ChangeSpec := { name := "fnExactCutAt", fn := fun _ => fun
  | [d1, d2] => { results := [.lit (.bool false)], args := [d1, d2] }
  | _ => none }
def FnExactCutAtWrongFalsely : Prop := fnExactCutAtRow.holds Try.pinned (OpenSpec.ofChange fnExactCutAtWrong)

/-- 'laws.FnExactMeansOf': WHATEVER THE INPUT: true; the input reads as it did. -/
def fnExactMeansOfSpec : ChangeSpec := { name := "fnExactMeansOf", fn := fun _ => fun
  | [d1, d2] => { results := [.lit (.bool true)], args := [d1, d2] }
  | _ => none }
def fnExactMeansOfRow : OpenClaim := { program := "ytfnnlkbecnjloab", sum := "33855a593ae1be82f16a9dd1ff2e3f3f0e9f145ea7f3e4a8a33d9a2f7dca2041", func := "loop.example/g01131/laws.FnExactMeansOf", spec := "fnExactMeansOf", unfollowed := true, recurses := true, apart := false }
def FnExactMeansOfSaid : Prop := fnExactMeansOfRow.holds Try.pinned (OpenSpec.ofChange fnExactMeansOfSpec)

/-- ITS FALSE NEIGHBOUR: 'it returns false'. Refute it at one input. -/
def fnExactMeansOfWrong : ChangeSpec := { name := "fnExactMeansOf", fn := fun _ => fun
  | [d1, d2] => { results := [.lit (.bool false)], args := [d1, d2] }
  | _ => none }
def FnExactMeansOfWrongFalsely : Prop := fnExactMeansOfRow.holds Try.pinned (OpenSpec.ofChange fnExactMeansOfWrong)

/-- 'laws.FnExactEventChance': WHATEVER THE INPUT: true; the input reads as it did. -/
def fnExactEventChanceSpec : ChangeSpec := { name := "fnExactEventChance", fn := fun _ => fun
  | [d1, d2] => { results := [.lit (.bool true)], args := [d1, d2] }
  | _ => none }
def fnExactEventChanceRow : OpenClaim := { program := "ytfnnlkbecnjloab", sum := "33855a593ae1be82f16a9dd1ff2e3f3f0e9f145ea7f3e4a8a33d9a2f7dca2041", func := "loop.example/g01131/laws.FnExactEventChance", spec := "fnExactEventChance", unfollowed := true, recurses := true, apart := false }
def FnExactEventChanceSaid : Prop := fnExactEventChanceRow.holds Try.pinned (OpenSpec.ofChange fnExactEventChanceSpec)

/-- ITS FALSE NEIGHBOUR: 'it returns false'. Refute it at one input. -/
def fnExactEventChanceWrong : ChangeSpec := { name := "fnExactEventChance", fn := fun _ => fun
  | [d1, d2] => { results := [.lit (.bool false)], args := [d1, d2] }
  | _ => none }
def FnExactEventChanceWrongFalsely : Prop := fnExactEventChanceRow.holds Try.pinned (OpenSpec.ofChange fnExactEventChanceWrong)

/-- 'laws.FnExactChanceGiven': WHATEVER THE INPUT: true; the input reads as it did. -/
def fnExactChanceGivenSpec : ChangeSpec := { name := "fnExactChanceGiven", fn := fun _ => fun
  | [d1, d2, d3] => { results := [.lit (.bool true)], args := [d1, d2, d3] }
  | _ => none }
def fnExactChanceGivenRow : OpenClaim := { program := "ytfnnlkbecnjloab", sum := "33855a593ae1be82f16a9dd1ff2e3f3f0e9f145ea7f3e4a8a33d9a2f7dca2041", func := "loop.example/g01131/laws.FnExactChanceGiven", spec := "fnExactChanceGiven", unfollowed := true, recurses := true, apart := false }
def FnExactChanceGivenSaid : Prop := fnExactChanceGivenRow.holds Try.pinned (OpenSpec.ofChange fnExactChanceGivenSpec)

/-- ITS FALSE NEIGHBOUR: 'it returns false'. Refute it at one input. -/
def fnExactChanceGivenWrong : ChangeSpec := { name := "fnExactChanceGiven", fn := fun _ => fun
  | [d1, d2, d3] => { results := [.lit (.bool false)], args := [d1, d2, d3] }
  | _ => none }
def FnExactChanceGivenWrongFalsely : Prop := fnExactChanceGivenRow.holds Try.pinned (OpenSpec.ofChange fnExactChanceGivenWrong)

/-- 'laws.FnExactOtherEnds': WHATEVER THE INPUT: true; the input reads as it did. -/
def fnExactOtherEndsSpec : ChangeSpec := { name := "fnExactOtherEnds", fn := fun _ => fun
  | [d1, d2] => { results := [.lit (.bool true)], args := [d1, d2] }
  | _ => none }
def fnExactOtherEndsRow : OpenClaim := { program := "ytfnnlkbecnjloab", sum := "33855a593ae1be82f16a9dd1ff2e3f3f0e9f145ea7f3e4a8a33d9a2f7dca2041", func := "loop.example/g01131/laws.FnExactOtherEnds", spec := "fnExactOtherEnds", unfollowed := true, recurses := true, apart := false }
def FnExactOtherEndsSaid : Prop := fnExactOtherEndsRow.holds Try.pinned (OpenSpec.ofChange fnExactOtherEndsSpec)

/-- ITS FALSE NEIGHBOUR: 'it returns false'. Refute it at one input. -/
def fnExactOtherEndsWrong : ChangeSpec := { name := "fnExactOtherEnds", fn := fun _ => fun
  | [d1, d2] => { results := [.lit (.bool false)], args := [d1, d2] }
  | _ => none }
def FnExactOtherEndsWrongFalsely : Prop := fnExactOtherEndsRow.holds Try.pinned (OpenSpec.ofChange fnExactOtherEndsWrong)

/-- 'laws.FnExactAreIndependent': WHATEVER THE INPUT: true; the input reads as it did. -/
def fnExactAreIndependentSpec : ChangeSpec := { name := "fnExactAreIndependent", fn := fun _ => fun
  | [d1, d2, d3] => { results := [.lit (.bool true)], args := [d1, d2, d3] }
  | _ => none }
def fnExactAreIndependentRow : OpenClaim := { program := "ytfnnlkbecnjloab", sum := "33855a593ae1be82f16a9dd1ff2e3f3f0e9f145ea7f3e4a8a33d9a2f7dca2041", func := "loop.example/g01131/laws.FnExactAreIndependent", spec := "fnExactAreIndependent", unfollowed := true, recurses := true, apart := false }
def FnExactAreIndependentSaid : Prop := fnExactAreIndependentRow.holds Try.pinned (OpenSpec.ofChange fnExactAreIndependentSpec)

/-- ITS FALSE NEIGHBOUR: 'it returns false'. Refute it at one input. -/
def fnExactAreIndependentWrong : ChangeSpec := { name := "fnExactAreIndependent", fn := fun _ => fun
  | [d1, d2, d3] => { results := [.lit (.bool false)], args := [d1, d2, d3] }
  | _ => none }
def FnExactAreIndependentWrongFalsely : Prop := fnExactAreIndependentRow.holds Try.pinned (OpenSpec.ofChange fnExactAreIndependentWrong)

/-- 'laws.FnExactIndicatorOf': WHATEVER THE INPUT: true; the input reads as it did. -/
def fnExactIndicatorOfSpec : ChangeSpec := { name := "fnExactIndicatorOf", fn := fun _ => fun
  | [d1, d2] => { results := [.lit (.bool true)], args := [d1, d2] }
  | _ => none }
def fnExactIndicatorOfRow : OpenClaim := { program := "ytfnnlkbecnjloab", sum := "33855a593ae1be82f16a9dd1ff2e3f3f0e9f145ea7f3e4a8a33d9a2f7dca2041", func := "loop.example/g01131/laws.FnExactIndicatorOf", spec := "fnExactIndicatorOf", unfollowed := true, recurses := true, apart := false }
def FnExactIndicatorOfSaid : Prop := fnExactIndicatorOfRow.holds Try.pinned (OpenSpec.ofChange fnExactIndicatorOfSpec)

/-- ITS FALSE NEIGHBOUR: 'it returns false'. Refute it at one input. -/
def fnExactIndicatorOfWrong : ChangeSpec := { name := "fnExactIndicatorOf", fn := fun _ => fun
  | [d1, d2] => { results := [.lit (.bool false)], args := [d1, d2] }
  | _ => none }
def FnExactIndicatorOfWrongFalsely : Prop := fnExactIndicatorOfRow.holds Try.pinned (OpenSpec.ofChange fnExactIndicatorOfWrong)

/-- 'laws.FnExactVarianceOf': WHATEVER THE INPUT: true; the input reads as it did. -/
def fnExactVarianceOfSpec : ChangeSpec := { name := "fnExactVarianceOf", fn := fun _ => fun
  | [d1, d2] => { results := [.lit (.bool true)], args := [d1, d2] }
  | _ => none }
def fnExactVarianceOfRow : OpenClaim := { program := "ytfnnlkbecnjloab", sum := "33855a593ae1be82f16a9dd1ff2e3f3f0e9f145ea7f3e4a8a33d9a2f7dca2041", func := "loop.example/g01131/laws.FnExactVarianceOf", spec := "fnExactVarianceOf", unfollowed := true, recurses := true, apart := false }
def FnExactVarianceOfSaid : Prop := fnExactVarianceOfRow.holds Try.pinned (OpenSpec.ofChange fnExactVarianceOfSpec)

/-- ITS FALSE NEIGHBOUR: 'it returns false'. Refute it at one input. -/
def fnExactVarianceOfWrong : ChangeSpec := { name := "fnExactVarianceOf", fn := fun _ => fun
  | [d1, d2] => { results := [.lit (.bool false)], args := [d1, d2] }
  | _ => none }
def FnExactVarianceOfWrongFalsely : Prop := fnExactVarianceOfRow.holds Try.pinned (OpenSpec.ofChange fnExactVarianceOfWrong)

/-- 'laws.FnExactCovarianceOf': WHATEVER THE INPUT: true; the input reads as it did. -/
def fnExactCovarianceOfSpec : ChangeSpec := { name := "fnExactCovarianceOf", fn := fun _ => fun
  | [d1, d2, d3] => { results := [.lit (.bool true)], args := [d1, d2, d3] }
  | _ => none }
def fnExactCovarianceOfRow : OpenClaim := { program := "ytfnnlkbecnjloab", sum := "33855a593ae1be82f16a9dd1ff2e3f3f0e9f145ea7f3e4a8a33d9a2f7dca2041", func := "loop.example/g01131/laws.FnExactCovarianceOf", spec := "fnExactCovarianceOf", unfollowed := true, recurses := true, apart := false }
def FnExactCovarianceOfSaid : Prop := fnExactCovarianceOfRow.holds Try.pinned (OpenSpec.ofChange fnExactCovarianceOfSpec)

/-- ITS FALSE NEIGHBOUR: 'it returns false'. Refute it at one input. -/
def fnExactCovarianceOfWrong : ChangeSpec := { name := "fnExactCovarianceOf", fn := fun _ => fun
  | [d1, d2, d3] => { results := [.lit (.bool false)], args := [d1, d2, d3] }
  | _ => none }
def FnExactCovarianceOfWrongFalsely : Prop := fnExactCovarianceOfRow.holds Try.pinned (OpenSpec.ofChange fnExactCovarianceOfWrong)

/-- 'laws.FnExactPaysAtCut': WHATEVER THE INPUT: true; the input reads as it did. -/
def fnExactPaysAtCutSpec : ChangeSpec := { name := "fnExactPaysAtCut", fn := fun _ => fun
  | [d1, d2, d3] => { results := [.lit (.bool true)], args := [d1, d2, d3] }
  | _ => none }
def fnExactPaysAtCutRow : OpenClaim := { program := "ytfnnlkbecnjloab", sum := "33855a593ae1be82f16a9dd1ff2e3f3f0e9f145ea7f3e4a8a33d9a2f7dca2041", func := "loop.example/g01131/laws.FnExactPaysAtCut", spec := "fnExactPaysAtCut", unfollowed := true, recurses := true, apart := false }
def FnExactPaysAtCutSaid : Prop := fnExactPaysAtCutRow.holds Try.pinned (OpenSpec.ofChange fnExactPaysAtCutSpec)

/-- ITS FALSE NEIGHBOUR: 'it returns false'. Refute it at one input. -/
def fnExactPaysAtCutWrong : ChangeSpec := { name := "fnExactPaysAtCut", fn := fun _ => fun
  | [d1, d2, d3] => { results := [.lit (.bool false)], args := [d1, d2, d3] }
  | _ => none }
def FnExactPaysAtCutWrongFalsely : Prop := fnExactPaysAtCutRow.holds Try.pinned (OpenSpec.ofChange fnExactPaysAtCutWrong)

/-- 'laws.FnExactKnownAt': WHATEVER THE INPUT: true; the input reads as it did. -/
def fnExactKnownAtSpec : ChangeSpec := { name := "fnExactKnownAt", fn := fun _ => fun
  | [d1, d2] => { results := [.lit (.bool true)], args := [d1, d2] }
  | _ => none }
def fnExactKnownAtRow : OpenClaim := { program := "ytfnnlkbecnjloab", sum := "33855a593ae1be82f16a9dd1ff2e3f3f0e9f145ea7f3e4a8a33d9a2f7dca2041", func := "loop.example/g01131/laws.FnExactKnownAt", spec := "fnExactKnownAt", unfollowed := true, recurses := true, apart := false }
def FnExactKnownAtSaid : Prop := fnExactKnownAtRow.holds Try.pinned (OpenSpec.ofChange fnExactKnownAtSpec)

/-- ITS FALSE NEIGHBOUR: 'it returns false'. Refute it at one input. -/
def fnExactKnownAtWrong : ChangeSpec := { name := "fnExactKnownAt", fn := fun _ => fun
  | [d1, d2] => { results := [.lit (.bool false)], args := [d1, d2] }
  | _ => none }
def FnExactKnownAtWrongFalsely : Prop := fnExactKnownAtRow.holds Try.pinned (OpenSpec.ofChange fnExactKnownAtWrong)

/- THE SECOND FORM. 'bulk': how many values and letters a reading holds, each counted each time it is reached (what is shared counts as often as it is met; a slice's spare places count too). A statement '..UptoSaid' is the law's where the arguments, and the package variables that the reading takes, are together of bulk at most 1048576: NARROWER than '..Said'. Prove '..Said' where nothing that the law and all that it calls make is longer than what came in: it says more and counts as full. Else prove '..UptoSaid'. A law counts once. -/
mutual
def uptoBulk {H : Type} : DataW H → Nat
  | .lit (.string bytes) => bytes.length + 1
  | .lit _ => 1
  | .nil => 1
  | .ptr d => uptoBulk d + 1
  | .slice elems spare => uptoBulkAll elems + uptoBulkAll spare + 1
  | .agg parts => uptoBulkAll parts + 1
  | .iface _ d => uptoBulk d + 1
  | .map entries => uptoBulkEntries entries + 1
  | .held _ => 1
def uptoBulkAll {H : Type} : List (DataW H) → Nat
  | [] => 0
  | d :: r => uptoBulk d + uptoBulkAll r
def uptoBulkEntries {H : Type} : List (Lit × DataW H) → Nat
  | [] => 0
  | x :: r => uptoBulkEntry x + uptoBulkEntries r
def uptoBulkEntry {H : Type} : Lit × DataW H → Nat
  | (.string bytes, d) => bytes.length + uptoBulk d + 1
  | (_, d) => uptoBulk d + 1
 end
def uptoSmall : (H : Type) → List (DataW H) → Bool := fun _ ds => decide (uptoBulkAll ds ≤ 1048576)
def OpenSpec.upto (s : _root_.Go.ChangeSpec) : _root_.Go.OpenSpec := { _root_.Go.OpenSpec.ofChange s with cond := some uptoSmall }

/-- 'laws.FnExactChanceOf', WHERE WHAT IT READS IS OF BULK AT MOST 1048576: true; the input reads as it did. -/
def fnExactChanceOfUptoRow : OpenClaim := { program := "ytfnnlkbecnjloab", sum := "33855a593ae1be82f16a9dd1ff2e3f3f0e9f145ea7f3e4a8a33d9a2f7dca2041", func := "loop.example/g01131/laws.FnExactChanceOf", spec := "fnExactChanceOf", unfollowed := true, recurses := true, apart := false, narrowed := true }
def FnExactChanceOfUptoSaid : Prop := fnExactChanceOfUptoRow.holds Try.pinned (OpenSpec.upto fnExactChanceOfSpec)

/-- 'laws.FnExactCutAt', WHERE WHAT IT READS IS OF BULK AT MOST 1048576: true; the input reads as it did. -/
def fnExactCutAtUptoRow : OpenClaim := { program := "ytfnnlkbecnjloab", sum := "33855a593ae1be82f16a9dd1ff2e3f3f0e9f145ea7f3e4a8a33d9a2f7dca2041", func := "loop.example/g01131/laws.FnExactCutAt", spec := "fnExactCutAt", unfollowed := true, recurses := true, apart := false, narrowed := true }
def FnExactCutAtUptoSaid : Prop := fnExactCutAtUptoRow.holds Try.pinned (OpenSpec.upto fnExactCutAtSpec)

/-- 'laws.FnExactMeansOf', WHERE WHAT IT READS IS OF BULK AT MOST 1048576: true; the input reads as it did. -/
def fnExactMeansOfUptoRow : OpenClaim := { program := "ytfnnlkbecnjloab", sum := "33855a593ae1be82f16a9dd1ff2e3f3f0e9f145ea7f3e4a8a33d9a2f7dca2041", func := "loop.example/g01131/laws.FnExactMeansOf", spec := "fnExactMeansOf", unfollowed := true, recurses := true, apart := false, narrowed := true }
def FnExactMeansOfUptoSaid : Prop := fnExactMeansOfUptoRow.holds Try.pinned (OpenSpec.upto fnExactMeansOfSpec)

/-- 'laws.FnExactEventChance', WHERE WHAT IT READS IS OF BULK AT MOST 1048576: true; the input reads as it did. -/
def fnExactEventChanceUptoRow : OpenClaim := { program := "ytfnnlkbecnjloab", sum := "33855a593ae1be82f16a9dd1ff2e3f3f0e9f145ea7f3e4a8a33d9a2f7dca2041", func := "loop.example/g01131/laws.FnExactEventChance", spec := "fnExactEventChance", unfollowed := true, recurses := true, apart := false, narrowed := true }
def FnExactEventChanceUptoSaid : Prop := fnExactEventChanceUptoRow.holds Try.pinned (OpenSpec.upto fnExactEventChanceSpec)

/-- 'laws.FnExactChanceGiven', WHERE WHAT IT READS IS OF BULK AT MOST 1048576: true; the input reads as it did. -/
def fnExactChanceGivenUptoRow : OpenClaim := { program := "ytfnnlkbecnjloab", sum := "33855a593ae1be82f16a9dd1ff2e3f3f0e9f145ea7f3e4a8a33d9a2f7dca2041", func := "loop.example/g01131/laws.FnExactChanceGiven", spec := "fnExactChanceGiven", unfollowed := true, recurses := true, apart := false, narrowed := true }
def FnExactChanceGivenUptoSaid : Prop := fnExactChanceGivenUptoRow.holds Try.pinned (OpenSpec.upto fnExactChanceGivenSpec)

/-- 'laws.FnExactOtherEnds', WHERE WHAT IT READS IS OF BULK AT MOST 1048576: true; the input reads as it did. -/
def fnExactOtherEndsUptoRow : OpenClaim := { program := "ytfnnlkbecnjloab", sum := "33855a593ae1be82f16a9dd1ff2e3f3f0e9f145ea7f3e4a8a33d9a2f7dca2041", func := "loop.example/g01131/laws.FnExactOtherEnds", spec := "fnExactOtherEnds", unfollowed := true, recurses := true, apart := false, narrowed := true }
def FnExactOtherEndsUptoSaid : Prop := fnExactOtherEndsUptoRow.holds Try.pinned (OpenSpec.upto fnExactOtherEndsSpec)

/-- 'laws.FnExactAreIndependent', WHERE WHAT IT READS IS OF BULK AT MOST 1048576: true; the input reads as it did. -/
def fnExactAreIndependentUptoRow : OpenClaim := { program := "ytfnnlkbecnjloab", sum := "33855a593ae1be82f16a9dd1ff2e3f3f0e9f145ea7f3e4a8a33d9a2f7dca2041", func := "loop.example/g01131/laws.FnExactAreIndependent", spec := "fnExactAreIndependent", unfollowed := true, recurses := true, apart := false, narrowed := true }
def FnExactAreIndependentUptoSaid : Prop := fnExactAreIndependentUptoRow.holds Try.pinned (OpenSpec.upto fnExactAreIndependentSpec)

/-- 'laws.FnExactIndicatorOf', WHERE WHAT IT READS IS OF BULK AT MOST 1048576: true; the input reads as it did. -/
def fnExactIndicatorOfUptoRow : OpenClaim := { program := "ytfnnlkbecnjloab", sum := "33855a593ae1be82f16a9dd1ff2e3f3f0e9f145ea7f3e4a8a33d9a2f7dca2041", func := "loop.example/g01131/laws.FnExactIndicatorOf", spec := "fnExactIndicatorOf", unfollowed := true, recurses := true, apart := false, narrowed := true }
def FnExactIndicatorOfUptoSaid : Prop := fnExactIndicatorOfUptoRow.holds Try.pinned (OpenSpec.upto fnExactIndicatorOfSpec)

/-- 'laws.FnExactVarianceOf', WHERE WHAT IT READS IS OF BULK AT MOST 1048576: true; the input reads as it did. -/
def fnExactVarianceOfUptoRow : OpenClaim := { program := "ytfnnlkbecnjloab", sum := "33855a593ae1be82f16a9dd1ff2e3f3f0e9f145ea7f3e4a8a33d9a2f7dca2041", func := "loop.example/g01131/laws.FnExactVarianceOf", spec := "fnExactVarianceOf", unfollowed := true, recurses := true, apart := false, narrowed := true }
def FnExactVarianceOfUptoSaid : Prop := fnExactVarianceOfUptoRow.holds Try.pinned (OpenSpec.upto fnExactVarianceOfSpec)

/-- 'laws.FnExactCovarianceOf', WHERE WHAT IT READS IS OF BULK AT MOST 1048576: true; the input reads as it did. -/
def fnExactCovarianceOfUptoRow : OpenClaim := { program := "ytfnnlkbecnjloab", sum := "33855a593ae1be82f16a9dd1ff2e3f3f0e9f145ea7f3e4a8a33d9a2f7dca2041", func := "loop.example/g01131/laws.FnExactCovarianceOf", spec := "fnExactCovarianceOf", unfollowed := true, recurses := true, apart := false, narrowed := true }
def FnExactCovarianceOfUptoSaid : Prop := fnExactCovarianceOfUptoRow.holds Try.pinned (OpenSpec.upto fnExactCovarianceOfSpec)

/-- 'laws.FnExactPaysAtCut', WHERE WHAT IT READS IS OF BULK AT MOST 1048576: true; the input reads as it did. -/
def fnExactPaysAtCutUptoRow : OpenClaim := { program := "ytfnnlkbecnjloab", sum := "33855a593ae1be82f16a9dd1ff2e3f3f0e9f145ea7f3e4a8a33d9a2f7dca2041", func := "loop.example/g01131/laws.FnExactPaysAtCut", spec := "fnExactPaysAtCut", unfollowed := true, recurses := true, apart := false, narrowed := true }
def FnExactPaysAtCutUptoSaid : Prop := fnExactPaysAtCutUptoRow.holds Try.pinned (OpenSpec.upto fnExactPaysAtCutSpec)

/-- 'laws.FnExactKnownAt', WHERE WHAT IT READS IS OF BULK AT MOST 1048576: true; the input reads as it did. -/
def fnExactKnownAtUptoRow : OpenClaim := { program := "ytfnnlkbecnjloab", sum := "33855a593ae1be82f16a9dd1ff2e3f3f0e9f145ea7f3e4a8a33d9a2f7dca2041", func := "loop.example/g01131/laws.FnExactKnownAt", spec := "fnExactKnownAt", unfollowed := true, recurses := true, apart := false, narrowed := true }
def FnExactKnownAtUptoSaid : Prop := fnExactKnownAtUptoRow.holds Try.pinned (OpenSpec.upto fnExactKnownAtSpec)

end Rows
end Go.Proofs.Ytfnnlkbecnjloab
