/-
  No cell of these rows narrows 'for every input' (looked for: loops, veiled, ifaces, maps, wideKeys, modest, calm, conditions, laid).
  DERIVED. THE GIVEN ROWS OF THIS SEAT. 9 by the template 'for every input the law returns true; each argument reads behind the call as it read before'; 0 by the template 'total and deterministic' (their statements: YtfpckfameebdnaaTotals.lean).
  GIVEN WITH THE SEED: the statements are not yours to turn. If you find one false, say at which input.
  Laid BY PROGRAM, IN A SANDBOX (cutbox-rows.mjs): the forced cells as the released guide's own fill.sh prints them over the translation 21dbd202fe13ae26… (all of the seat's roots in one cut). By AI agents, Wed Nov 11 2026. No macro, syntax, notation, axiom, sorry.
-/
import Derived.Test.YtfpckfameebdnaaChecked
import GoSem.Claim
import GoSem.ClaimJoined
import GoSem.ClaimMapViews
import Derived.JoinedTies
import Derived.KernelRfl
namespace Go.Proofs.Ytfpckfameebdnaa
/- THE CELL 'sum', in the pinned program and in every row, IS THE sha256 OF THE DUMP (.gsa) THAT YtfpckfameebdnaaProg.lean LOADS. Nothing in Lean hashes anything: it is a label: what it is worth is what the hold of that sum in a sandbox is worth. -/
noncomputable def Try.pinned : Pinned := { name := "ytfpckfameebdnaa", sum := "21dbd202fe13ae26e6c562c40f069d13c0e2ca7ce222d1217d98981ba1412d48", checked := Try.checked }
namespace Rows
def none {H : Type} : Left H := { results := [], args := [] }

/-- 'laws.FnExactLatestRule': WHATEVER THE INPUT: true; the input reads as it did. -/
def fnExactLatestRuleSpec : ChangeSpec := { name := "fnExactLatestRule", fn := fun _ => fun
  | [d1, d2] => { results := [.lit (.bool true)], args := [d1, d2] }
  | _ => none }
def fnExactLatestRuleRow : OpenClaim := { program := "ytfpckfameebdnaa", sum := "21dbd202fe13ae26e6c562c40f069d13c0e2ca7ce222d1217d98981ba1412d48", func := "loop.example/g01131/laws.FnExactLatestRule", spec := "fnExactLatestRule", unfollowed := true, recurses := true, apart := false }
def FnExactLatestRuleSaid : Prop := fnExactLatestRuleRow.holds Try.pinned (OpenSpec.ofChange fnExactLatestRuleSpec)

/-- ITS FALSE NEIGHBOUR: 'it returns false'. Refute it at one input. -/
def fnExactLatestRuleWrong : ChangeSpec := { name := "fnExactLatestRule", fn := fun _ => fun
  | [d1, d2] => { results := [.lit (.bool false)], args := [d1, d2] }
  | _ => none }
def FnExactLatestRuleWrongFalsely : Prop := fnExactLatestRuleRow.holds Try.pinned (OpenSpec.ofChange fnExactLatestRuleWrong)

/-- 'laws.FnExactLookAhead': WHATEVER THE INPUT: true; the input reads as it did. -/
def fnExactLookAheadSpec : ChangeSpec := { name := "fnExactLookAhead", fn := fun _ => fun
  | [d1, d2, d3] => { results := [.lit (.bool true)], args := [d1, d2, d3] }
  | _ => none }
def fnExactLookAheadRow : OpenClaim := { program := "ytfpckfameebdnaa", sum := "21dbd202fe13ae26e6c562c40f069d13c0e2ca7ce222d1217d98981ba1412d48", func := "loop.example/g01131/laws.FnExactLookAhead", spec := "fnExactLookAhead", unfollowed := true, recurses := true, apart := false }
def FnExactLookAheadSaid : Prop := fnExactLookAheadRow.holds Try.pinned (OpenSpec.ofChange fnExactLookAheadSpec)

/-- ITS FALSE NEIGHBOUR: 'it returns false'. Refute it at one input. -/
def fnExactLookAheadWrong : ChangeSpec := { name := "fnExactLookAhead", fn := fun _ => fun
  | [d1, d2, d3] => { results := [.lit (.bool false)], args := [d1, d2, d3] }
  | _ => none }
def FnExactLookAheadWrongFalsely : Prop := fnExactLookAheadRow.holds Try.pinned (OpenSpec.ofChange fnExactLookAheadWrong)

/-- 'laws.FnExactDoCover': WHATEVER THE INPUT: true; the input reads as it did. -/
def fnExactDoCoverSpec : ChangeSpec := { name := "fnExactDoCover", fn := fun _ => fun
  | [d1, d2, d3] => { results := [.lit (.bool true)], args := [d1, d2, d3] }
  | _ => none }
def fnExactDoCoverRow : OpenClaim := { program := "ytfpckfameebdnaa", sum := "21dbd202fe13ae26e6c562c40f069d13c0e2ca7ce222d1217d98981ba1412d48", func := "loop.example/g01131/laws.FnExactDoCover", spec := "fnExactDoCover", unfollowed := true, recurses := true, apart := false }
def FnExactDoCoverSaid : Prop := fnExactDoCoverRow.holds Try.pinned (OpenSpec.ofChange fnExactDoCoverSpec)

/-- ITS FALSE NEIGHBOUR: 'it returns false'. Refute it at one input. -/
def fnExactDoCoverWrong : ChangeSpec := { name := "fnExactDoCover", fn := fun _ => fun
  | [d1, d2, d3] => { results := [.lit (.bool false)], args := [d1, d2, d3] }
  | _ => none }
def FnExactDoCoverWrongFalsely : Prop := fnExactDoCoverRow.holds Try.pinned (OpenSpec.ofChange fnExactDoCoverWrong)

/-- 'laws.FnExactBalanceBound': WHATEVER THE INPUT: true; the input reads as it did. -/
def fnExactBalanceBoundSpec : ChangeSpec := { name := "fnExactBalanceBound", fn := fun _ => fun
  | [d1, d2, d3] => { results := [.lit (.bool true)], args := [d1, d2, d3] }
  | _ => none }
def fnExactBalanceBoundRow : OpenClaim := { program := "ytfpckfameebdnaa", sum := "21dbd202fe13ae26e6c562c40f069d13c0e2ca7ce222d1217d98981ba1412d48", func := "loop.example/g01131/laws.FnExactBalanceBound", spec := "fnExactBalanceBound", unfollowed := true, recurses := true, apart := false }
def FnExactBalanceBoundSaid : Prop := fnExactBalanceBoundRow.holds Try.pinned (OpenSpec.ofChange fnExactBalanceBoundSpec)

/-- ITS FALSE NEIGHBOUR: 'it returns false'. Refute it at one input. -/
def fnExactBalanceBoundWrong : ChangeSpec := { name := "fnExactBalanceBound", fn := fun _ => fun
  | [d1, d2, d3] => { results := [.lit (.bool false)], args := [d1, d2, d3] }
  | _ => none }
def FnExactBalanceBoundWrongFalsely : Prop := fnExactBalanceBoundRow.holds Try.pinned (OpenSpec.ofChange fnExactBalanceBoundWrong)

/-- 'laws.FnExactSeerMean': WHATEVER THE INPUT: true; the input reads as it did. -/
def fnExactSeerMeanSpec : ChangeSpec := { name := "fnExactSeerMean", fn := fun _ => fun
  | [d1, d2] => { results := [.lit (.bool true)], args := [d1, d2] }
  | _ => none }
def fnExactSeerMeanRow : OpenClaim := { program := "ytfpckfameebdnaa", sum := "21dbd202fe13ae26e6c562c40f069d13c0e2ca7ce222d1217d98981ba1412d48", func := "loop.example/g01131/laws.FnExactSeerMean", spec := "fnExactSeerMean", unfollowed := true, recurses := true, apart := false }
def FnExactSeerMeanSaid : Prop := fnExactSeerMeanRow.holds Try.pinned (OpenSpec.ofChange fnExactSeerMeanSpec)

/-- ITS FALSE NEIGHBOUR: 'it returns false'. Refute it at one input. -/
def fnExactSeerMeanWrong : ChangeSpec := { name := "fnExactSeerMean", fn := fun _ => fun
  | [d1, d2] => { results := [.lit (.bool false)], args := [d1, d2] }
  | _ => none }
def FnExactSeerMeanWrongFalsely : Prop := fnExactSeerMeanRow.holds Try.pinned (OpenSpec.ofChange fnExactSeerMeanWrong)

/-- 'laws.FnExactBestLevel': WHATEVER THE INPUT: true; the input reads as it did. -/
def fnExactBestLevelSpec : ChangeSpec := { name := "fnExactBestLevel", fn := fun _ => fun
  | [d1, d2] => { results := [.lit (.bool true)], args := [d1, d2] }
  | _ => none }
def fnExactBestLevelRow : OpenClaim := { program := "ytfpckfameebdnaa", sum := "21dbd202fe13ae26e6c562c40f069d13c0e2ca7ce222d1217d98981ba1412d48", func := "loop.example/g01131/laws.FnExactBestLevel", spec := "fnExactBestLevel", unfollowed := true, recurses := true, apart := false }
def FnExactBestLevelSaid : Prop := fnExactBestLevelRow.holds Try.pinned (OpenSpec.ofChange fnExactBestLevelSpec)

/-- ITS FALSE NEIGHBOUR: 'it returns false'. Refute it at one input. -/
def fnExactBestLevelWrong : ChangeSpec := { name := "fnExactBestLevel", fn := fun _ => fun
  | [d1, d2] => { results := [.lit (.bool false)], args := [d1, d2] }
  | _ => none }
def FnExactBestLevelWrongFalsely : Prop := fnExactBestLevelRow.holds Try.pinned (OpenSpec.ofChange fnExactBestLevelWrong)

/-- 'laws.FnExactPruneTree': WHATEVER THE INPUT: true; the input reads as it did. -/
def fnExactPruneTreeSpec : ChangeSpec := { name := "fnExactPruneTree", fn := fun _ => fun
  | [d1, d2] => { results := [.lit (.bool true)], args := [d1, d2] }
  | _ => none }
def fnExactPruneTreeRow : OpenClaim := { program := "ytfpckfameebdnaa", sum := "21dbd202fe13ae26e6c562c40f069d13c0e2ca7ce222d1217d98981ba1412d48", func := "loop.example/g01131/laws.FnExactPruneTree", spec := "fnExactPruneTree", unfollowed := true, recurses := true, apart := false }
def FnExactPruneTreeSaid : Prop := fnExactPruneTreeRow.holds Try.pinned (OpenSpec.ofChange fnExactPruneTreeSpec)

/-- ITS FALSE NEIGHBOUR: 'it returns false'. Refute it at one input. -/
def fnExactPruneTreeWrong : ChangeSpec := { name := "fnExactPruneTree", fn := fun _ => fun
  | [d1, d2] => { results := [.lit (.bool false)], args := [d1, d2] }
  | _ => none }
def FnExactPruneTreeWrongFalsely : Prop := fnExactPruneTreeRow.holds Try.pinned (OpenSpec.ofChange fnExactPruneTreeWrong)

/-- 'laws.FnDrifts': WHATEVER THE INPUT: true; the input reads as it did. -/
def fnDriftsSpec : ChangeSpec := { name := "fnDrifts", fn := fun _ => fun
  | [d] => { results := [.lit (.bool true)], args := [d] }
  | _ => none }
def fnDriftsRow : OpenClaim := { program := "ytfpckfameebdnaa", sum := "21dbd202fe13ae26e6c562c40f069d13c0e2ca7ce222d1217d98981ba1412d48", func := "loop.example/g01131/laws.FnDrifts", spec := "fnDrifts", unfollowed := true, recurses := true, apart := false }
def FnDriftsSaid : Prop := fnDriftsRow.holds Try.pinned (OpenSpec.ofChange fnDriftsSpec)

/-- ITS FALSE NEIGHBOUR: 'it returns false'. Refute it at one input. -/
def fnDriftsWrong : ChangeSpec := { name := "fnDrifts", fn := fun _ => fun
  | [d] => { results := [.lit (.bool false)], args := [d] }
  | _ => none }
def FnDriftsWrongFalsely : Prop := fnDriftsRow.holds Try.pinned (OpenSpec.ofChange fnDriftsWrong)

/-- 'laws.FnStoppedMeans': WHATEVER THE INPUT: true; the input reads as it did. -/
def fnStoppedMeansSpec : ChangeSpec := { name := "fnStoppedMeans", fn := fun _ => fun
  | [d] => { results := [.lit (.bool true)], args := [d] }
  | _ => none }
def fnStoppedMeansRow : OpenClaim := { program := "ytfpckfameebdnaa", sum := "21dbd202fe13ae26e6c562c40f069d13c0e2ca7ce222d1217d98981ba1412d48", func := "loop.example/g01131/laws.FnStoppedMeans", spec := "fnStoppedMeans", unfollowed := true, recurses := true, apart := false }
def FnStoppedMeansSaid : Prop := fnStoppedMeansRow.holds Try.pinned (OpenSpec.ofChange fnStoppedMeansSpec)

/-- ITS FALSE NEIGHBOUR: 'it returns false'. Refute it at one input. -/
def fnStoppedMeansWrong : ChangeSpec := { name := "fnStoppedMeans", fn := fun _ => fun
  | [d] => { results := [.lit (.bool false)], args := [d] }
  | _ => none }
def FnStoppedMeansWrongFalsely : Prop := fnStoppedMeansRow.holds Try.pinned (OpenSpec.ofChange fnStoppedMeansWrong)

/- THE SECOND FORM. 'bulk': how many values and letters a reading holds, each counted each time it is reached (what is shared counts as often as it is met; a slice's spare places count too). A statement '..UptoSaid' is the law's where the arguments, and the package variables that the reading takes, are together of bulk at most 1048576: NARROWER than '..Said'. Prove '..Said' where nothing that the law and all that it calls make is longer than what came in: it says more and counts as full. Else prove '..UptoSaid'. A law counts once. -/
mutual
def uptoBulk {H : Type} : DataW H → Nat
  | .lit (.string bytes) => bytes.length + 1
  | .lit _ => 1
  | .nil => 1
  | .ptr d => uptoBulk d + 1
  | .slice elems spare => uptoBulkAll elems + uptoBulkAll spare + 1
  | .agg parts => uptoBulkAll parts + 1
  | .iface _ d => uptoBulk d + 1
  | .map entries => uptoBulkEntries entries + 1
  | .held _ => 1
def uptoBulkAll {H : Type} : List (DataW H) → Nat
  | [] => 0
  | d :: r => uptoBulk d + uptoBulkAll r
def uptoBulkEntries {H : Type} : List (Lit × DataW H) → Nat
  | [] => 0
  | x :: r => uptoBulkEntry x + uptoBulkEntries r
def uptoBulkEntry {H : Type} : Lit × DataW H → Nat
  | (.string bytes, d) => bytes.length + uptoBulk d + 1
  | (_, d) => uptoBulk d + 1
 end
def uptoSmall : (H : Type) → List (DataW H) → Bool := fun _ ds => decide (uptoBulkAll ds ≤ 1048576)
def OpenSpec.upto (s : _root_.Go.ChangeSpec) : _root_.Go.OpenSpec := { _root_.Go.OpenSpec.ofChange s with cond := some uptoSmall }

/-- 'laws.FnExactLatestRule', WHERE WHAT IT READS IS OF BULK AT MOST 1048576: true; the input reads as it did. -/
def fnExactLatestRuleUptoRow : OpenClaim := { program := "ytfpckfameebdnaa", sum := "21dbd202fe13ae26e6c562c40f069d13c0e2ca7ce222d1217d98981ba1412d48", func := "loop.example/g01131/laws.FnExactLatestRule", spec := "fnExactLatestRule", unfollowed := true, recurses := true, apart := false, narrowed := true }
def FnExactLatestRuleUptoSaid : Prop := fnExactLatestRuleUptoRow.holds Try.pinned (OpenSpec.upto fnExactLatestRuleSpec)

/-- 'laws.FnExactLookAhead', WHERE WHAT IT READS IS OF BULK AT MOST 1048576: true; the input reads as it did. -/
def fnExactLookAheadUptoRow : OpenClaim := { program := "ytfpckfameebdnaa", sum := "21dbd202fe13ae26e6c562c40f069d13c0e2ca7ce222d1217d98981ba1412d48", func := "loop.example/g01131/laws.FnExactLookAhead", spec := "fnExactLookAhead", unfollowed := true, recurses := true, apart := false, narrowed := true }
def FnExactLookAheadUptoSaid : Prop := fnExactLookAheadUptoRow.holds Try.pinned (OpenSpec.upto fnExactLookAheadSpec)

/-- 'laws.FnExactDoCover', WHERE WHAT IT READS IS OF BULK AT MOST 1048576: true; the input reads as it did. -/
def fnExactDoCoverUptoRow : OpenClaim := { program := "ytfpckfameebdnaa", sum := "21dbd202fe13ae26e6c562c40f069d13c0e2ca7ce222d1217d98981ba1412d48", func := "loop.example/g01131/laws.FnExactDoCover", spec := "fnExactDoCover", unfollowed := true, recurses := true, apart := false, narrowed := true }
def FnExactDoCoverUptoSaid : Prop := fnExactDoCoverUptoRow.holds Try.pinned (OpenSpec.upto fnExactDoCoverSpec)

/-- 'laws.FnExactBalanceBound', WHERE WHAT IT READS IS OF BULK AT MOST 1048576: true; the input reads as it did. -/
def fnExactBalanceBoundUptoRow : OpenClaim := { program := "ytfpckfameebdnaa", sum := "21dbd202fe13ae26e6c562c40f069d13c0e2ca7ce222d1217d98981ba1412d48", func := "loop.example/g01131/laws.FnExactBalanceBound", spec := "fnExactBalanceBound", unfollowed := true, recurses := true, apart := false, narrowed := true }
def FnExactBalanceBoundUptoSaid : Prop := fnExactBalanceBoundUptoRow.holds Try.pinned (OpenSpec.upto fnExactBalanceBoundSpec)

/-- 'laws.FnExactSeerMean', WHERE WHAT IT READS IS OF BULK AT MOST 1048576: true; the input reads as it did. -/
def fnExactSeerMeanUptoRow : OpenClaim := { program := "ytfpckfameebdnaa", sum := "21dbd202fe13ae26e6c562c40f069d13c0e2ca7ce222d1217d98981ba1412d48", func := "loop.example/g01131/laws.FnExactSeerMean", spec := "fnExactSeerMean", unfollowed := true, recurses := true, apart := false, narrowed := true }
def FnExactSeerMeanUptoSaid : Prop := fnExactSeerMeanUptoRow.holds Try.pinned (OpenSpec.upto fnExactSeerMeanSpec)

/-- 'laws.FnExactBestLevel', WHERE WHAT IT READS IS OF BULK AT MOST 1048576: true; the input reads as it did. -/
def fnExactBestLevelUptoRow : OpenClaim := { program := "ytfpckfameebdnaa", sum := "21dbd202fe13ae26e6c562c40f069d13c0e2ca7ce222d1217d98981ba1412d48", func := "loop.example/g01131/laws.FnExactBestLevel", spec := "fnExactBestLevel", unfollowed := true, recurses := true, apart := false, narrowed := true }
def FnExactBestLevelUptoSaid : Prop := fnExactBestLevelUptoRow.holds Try.pinned (OpenSpec.upto fnExactBestLevelSpec)

/-- 'laws.FnExactPruneTree', WHERE WHAT IT READS IS OF BULK AT MOST 1048576: true; the input reads as it did. -/
def fnExactPruneTreeUptoRow : OpenClaim := { program := "ytfpckfameebdnaa", sum := "21dbd202fe13ae26e6c562c40f069d13c0e2ca7ce222d1217d98981ba1412d48", func := "loop.example/g01131/laws.FnExactPruneTree", spec := "fnExactPruneTree", unfollowed := true, recurses := true, apart := false, narrowed := true }
def FnExactPruneTreeUptoSaid : Prop := fnExactPruneTreeUptoRow.holds Try.pinned (OpenSpec.upto fnExactPruneTreeSpec)

/-- 'laws.FnDrifts', WHERE WHAT IT READS IS OF BULK AT MOST 1048576: true; the input reads as it did. -/
def fnDriftsUptoRow : OpenClaim := { program := "ytfpckfameebdnaa", sum := "21dbd202fe13ae26e6c562c40f069d13c0e2ca7ce222d1217d98981ba1412d48", func := "loop.example/g01131/laws.FnDrifts", spec := "fnDrifts", unfollowed := true, recurses := true, apart := false, narrowed := true }
def FnDriftsUptoSaid : Prop := fnDriftsUptoRow.holds Try.pinned (OpenSpec.upto fnDriftsSpec)

/-- 'laws.FnStoppedMeans', WHERE WHAT IT READS IS OF BULK AT MOST 1048576: true; the input reads as it did. -/
def fnStoppedMeansUptoRow : OpenClaim := { program := "ytfpckfameebdnaa", sum := "21dbd202fe13ae26e6c562c40f069d13c0e2ca7ce222d1217d98981ba1412d48", func := "loop.example/g01131/laws.FnStoppedMeans", spec := "fnStoppedMeans", unfollowed := true, recurses := true, apart := false, narrowed := true }
def FnStoppedMeansUptoSaid : Prop := fnStoppedMeansUptoRow.holds Try.pinned (OpenSpec.upto fnStoppedMeansSpec)

end Rows
end Go.Proofs.Ytfpckfameebdnaa
