/-
  No cell of these rows narrows 'for every input' (looked for: loops, veiled, ifaces, maps, wideKeys, modest, calm, conditions, laid).
  DERIVED. THE GIVEN ROWS OF THIS SEAT. 9 by the template 'for every input the law returns true; each argument reads behind the call as it read before'; 0 by the template 'total and deterministic' (their statements: YtligidmkhbcpmacTotals.lean).
  GIVEN WITH THE SEED: the statements are not yours to turn. If you find one false, say at which input.
  Laid BY PROGRAM, IN A SANDBOX (cutbox-rows.mjs): the forced cells as the released guide's own fill.sh prints them over the translation 1c62d37e684f6884… (all of the seat's roots in one cut). By AI agents, Wed Nov 11 2026. No macro, syntax, notation, axiom, sorry.
-/
import Derived.Test.YtligidmkhbcpmacChecked
import GoSem.Claim
import GoSem.ClaimJoined
import GoSem.ClaimMapViews
import Derived.JoinedTies
import Derived.KernelRfl
namespace Go.Proofs.Ytligidmkhbcpmac
/- THE CELL 'sum', in the pinned program and in every row, IS THE sha256 OF THE DUMP (.gsa) THAT YtligidmkhbcpmacProg.lean LOADS. Nothing in Lean hashes anything: it is a label: what it is worth is what the hold of that sum in a sandbox is worth. -/
noncomputable def Try.pinned : Pinned := { name := "ytligidmkhbcpmac", sum := "1c62d37e684f6884a662a0d22c67990d5445736009f00b7440d310dac0809370", checked := Try.checked }
namespace Rows
def none {H : Type} : Left H := { results := [], args := [] }

/-- 'laws.FnExactLargestMean': WHATEVER THE INPUT: true; the input reads as it did. -/
def fnExactLargestMeanSpec : ChangeSpec := { name := "fnExactLargestMean", fn := fun _ => fun
  | [d1, d2] => { results := [.lit (.bool true)], args := [d1, d2] }
  | _ => none }
def fnExactLargestMeanRow : OpenClaim := { program := "ytligidmkhbcpmac", sum := "1c62d37e684f6884a662a0d22c67990d5445736009f00b7440d310dac0809370", func := "loop.example/g01131/laws.FnExactLargestMean", spec := "fnExactLargestMean", unfollowed := true, recurses := true, apart := false }
def FnExactLargestMeanSaid : Prop := fnExactLargestMeanRow.holds Try.pinned (OpenSpec.ofChange fnExactLargestMeanSpec)

/-- ITS FALSE NEIGHBOUR: 'it returns false'. Refute it at one input. -/
def fnExactLargestMeanWrong : ChangeSpec := { name := "fnExactLargestMean", fn := fun _ => fun
  | [d1, d2] => { results := [.lit (.bool false)], args := [d1, d2] }
  | _ => none }
def FnExactLargestMeanWrongFalsely : Prop := fnExactLargestMeanRow.holds Try.pinned (OpenSpec.ofChange fnExactLargestMeanWrong)

/-- 'laws.FnExactLargestChance': WHATEVER THE INPUT: true; the input reads as it did. -/
def fnExactLargestChanceSpec : ChangeSpec := { name := "fnExactLargestChance", fn := fun _ => fun
  | [d1, d2, d3] => { results := [.lit (.bool true)], args := [d1, d2, d3] }
  | _ => none }
def fnExactLargestChanceRow : OpenClaim := { program := "ytligidmkhbcpmac", sum := "1c62d37e684f6884a662a0d22c67990d5445736009f00b7440d310dac0809370", func := "loop.example/g01131/laws.FnExactLargestChance", spec := "fnExactLargestChance", unfollowed := true, recurses := true, apart := false }
def FnExactLargestChanceSaid : Prop := fnExactLargestChanceRow.holds Try.pinned (OpenSpec.ofChange fnExactLargestChanceSpec)

/-- ITS FALSE NEIGHBOUR: 'it returns false'. Refute it at one input. -/
def fnExactLargestChanceWrong : ChangeSpec := { name := "fnExactLargestChance", fn := fun _ => fun
  | [d1, d2, d3] => { results := [.lit (.bool false)], args := [d1, d2, d3] }
  | _ => none }
def FnExactLargestChanceWrongFalsely : Prop := fnExactLargestChanceRow.holds Try.pinned (OpenSpec.ofChange fnExactLargestChanceWrong)

/-- 'laws.FnPlans': WHATEVER THE INPUT: true; the input reads as it did. -/
def fnPlansSpec : ChangeSpec := { name := "fnPlans", fn := fun _ => fun
  | [d] => { results := [.lit (.bool true)], args := [d] }
  | _ => none }
def fnPlansRow : OpenClaim := { program := "ytligidmkhbcpmac", sum := "1c62d37e684f6884a662a0d22c67990d5445736009f00b7440d310dac0809370", func := "loop.example/g01131/laws.FnPlans", spec := "fnPlans", unfollowed := true, recurses := true, apart := false }
def FnPlansSaid : Prop := fnPlansRow.holds Try.pinned (OpenSpec.ofChange fnPlansSpec)

/-- ITS FALSE NEIGHBOUR: 'it returns false'. Refute it at one input. -/
def fnPlansWrong : ChangeSpec := { name := "fnPlans", fn := fun _ => fun
  | [d] => { results := [.lit (.bool false)], args := [d] }
  | _ => none }
def FnPlansWrongFalsely : Prop := fnPlansRow.holds Try.pinned (OpenSpec.ofChange fnPlansWrong)

/-- 'laws.FnOrders': WHATEVER THE INPUT: true; the input reads as it did. -/
def fnOrdersSpec : ChangeSpec := { name := "fnOrders", fn := fun _ => fun
  | [d] => { results := [.lit (.bool true)], args := [d] }
  | _ => none }
def fnOrdersRow : OpenClaim := { program := "ytligidmkhbcpmac", sum := "1c62d37e684f6884a662a0d22c67990d5445736009f00b7440d310dac0809370", func := "loop.example/g01131/laws.FnOrders", spec := "fnOrders", unfollowed := true, recurses := true, apart := false }
def FnOrdersSaid : Prop := fnOrdersRow.holds Try.pinned (OpenSpec.ofChange fnOrdersSpec)

/-- ITS FALSE NEIGHBOUR: 'it returns false'. Refute it at one input. -/
def fnOrdersWrong : ChangeSpec := { name := "fnOrders", fn := fun _ => fun
  | [d] => { results := [.lit (.bool false)], args := [d] }
  | _ => none }
def FnOrdersWrongFalsely : Prop := fnOrdersRow.holds Try.pinned (OpenSpec.ofChange fnOrdersWrong)

/-- 'laws.FnTransport': WHATEVER THE INPUT: true; the input reads as it did. -/
def fnTransportSpec : ChangeSpec := { name := "fnTransport", fn := fun _ => fun
  | [d] => { results := [.lit (.bool true)], args := [d] }
  | _ => none }
def fnTransportRow : OpenClaim := { program := "ytligidmkhbcpmac", sum := "1c62d37e684f6884a662a0d22c67990d5445736009f00b7440d310dac0809370", func := "loop.example/g01131/laws.FnTransport", spec := "fnTransport", unfollowed := true, recurses := true, apart := false }
def FnTransportSaid : Prop := fnTransportRow.holds Try.pinned (OpenSpec.ofChange fnTransportSpec)

/-- ITS FALSE NEIGHBOUR: 'it returns false'. Refute it at one input. -/
def fnTransportWrong : ChangeSpec := { name := "fnTransport", fn := fun _ => fun
  | [d] => { results := [.lit (.bool false)], args := [d] }
  | _ => none }
def FnTransportWrongFalsely : Prop := fnTransportRow.holds Try.pinned (OpenSpec.ofChange fnTransportWrong)

/-- 'laws.FnLargest': WHATEVER THE INPUT: true; the input reads as it did. -/
def fnLargestSpec : ChangeSpec := { name := "fnLargest", fn := fun _ => fun
  | [d] => { results := [.lit (.bool true)], args := [d] }
  | _ => none }
def fnLargestRow : OpenClaim := { program := "ytligidmkhbcpmac", sum := "1c62d37e684f6884a662a0d22c67990d5445736009f00b7440d310dac0809370", func := "loop.example/g01131/laws.FnLargest", spec := "fnLargest", unfollowed := true, recurses := true, apart := false }
def FnLargestSaid : Prop := fnLargestRow.holds Try.pinned (OpenSpec.ofChange fnLargestSpec)

/-- ITS FALSE NEIGHBOUR: 'it returns false'. Refute it at one input. -/
def fnLargestWrong : ChangeSpec := { name := "fnLargest", fn := fun _ => fun
  | [d] => { results := [.lit (.bool false)], args := [d] }
  | _ => none }
def FnLargestWrongFalsely : Prop := fnLargestRow.holds Try.pinned (OpenSpec.ofChange fnLargestWrong)

/-- 'laws.FnExactUrnCounts': WHATEVER THE INPUT: true; the input reads as it did. -/
def fnExactUrnCountsSpec : ChangeSpec := { name := "fnExactUrnCounts", fn := fun _ => fun
  | [d1, d2, d3, d4] => { results := [.lit (.bool true)], args := [d1, d2, d3, d4] }
  | _ => none }
def fnExactUrnCountsRow : OpenClaim := { program := "ytligidmkhbcpmac", sum := "1c62d37e684f6884a662a0d22c67990d5445736009f00b7440d310dac0809370", func := "loop.example/g01131/laws.FnExactUrnCounts", spec := "fnExactUrnCounts", apart := false }
def FnExactUrnCountsSaid : Prop := fnExactUrnCountsRow.holds Try.pinned (OpenSpec.ofChange fnExactUrnCountsSpec)

/-- ITS FALSE NEIGHBOUR: 'it returns false'. Refute it at one input. -/
def fnExactUrnCountsWrong : ChangeSpec := { name := "fnExactUrnCounts", fn := fun _ => fun
  | [d1, d2, d3, d4] => { results := [.lit (.bool false)], args := [d1, d2, d3, d4] }
  | _ => none }
def FnExactUrnCountsWrongFalsely : Prop := fnExactUrnCountsRow.holds Try.pinned (OpenSpec.ofChange fnExactUrnCountsWrong)

/-- 'laws.FnExactFirstFound': WHATEVER THE INPUT: true; the input reads as it did. -/
def fnExactFirstFoundSpec : ChangeSpec := { name := "fnExactFirstFound", fn := fun _ => fun
  | [d1, d2, d3] => { results := [.lit (.bool true)], args := [d1, d2, d3] }
  | _ => none }
def fnExactFirstFoundRow : OpenClaim := { program := "ytligidmkhbcpmac", sum := "1c62d37e684f6884a662a0d22c67990d5445736009f00b7440d310dac0809370", func := "loop.example/g01131/laws.FnExactFirstFound", spec := "fnExactFirstFound", unfollowed := true, recurses := true, apart := false }
def FnExactFirstFoundSaid : Prop := fnExactFirstFoundRow.holds Try.pinned (OpenSpec.ofChange fnExactFirstFoundSpec)

/-- ITS FALSE NEIGHBOUR: 'it returns false'. Refute it at one input. -/
def fnExactFirstFoundWrong : ChangeSpec := { name := "fnExactFirstFound", fn := fun _ => fun
  | [d1, d2, d3] => { results := [.lit (.bool false)], args := [d1, d2, d3] }
  | _ => none }
def FnExactFirstFoundWrongFalsely : Prop := fnExactFirstFoundRow.holds Try.pinned (OpenSpec.ofChange fnExactFirstFoundWrong)

/-- 'laws.FnExactBestLevel': WHATEVER THE INPUT: true; the input reads as it did. -/
def fnExactBestLevelSpec : ChangeSpec := { name := "fnExactBestLevel", fn := fun _ => fun
  | [d1, d2] => { results := [.lit (.bool true)], args := [d1, d2] }
  | _ => none }
def fnExactBestLevelRow : OpenClaim := { program := "ytligidmkhbcpmac", sum := "1c62d37e684f6884a662a0d22c67990d5445736009f00b7440d310dac0809370", func := "loop.example/g01131/laws.FnExactBestLevel", spec := "fnExactBestLevel", unfollowed := true, recurses := true, apart := false }
def FnExactBestLevelSaid : Prop := fnExactBestLevelRow.holds Try.pinned (OpenSpec.ofChange fnExactBestLevelSpec)

/-- ITS FALSE NEIGHBOUR: 'it returns false'. Refute it at one input. -/
def fnExactBestLevelWrong : ChangeSpec := { name := "fnExactBestLevel", fn := fun _ => fun
  | [d1, d2] => { results := [.lit (.bool false)], args := [d1, d2] }
  | _ => none }
def FnExactBestLevelWrongFalsely : Prop := fnExactBestLevelRow.holds Try.pinned (OpenSpec.ofChange fnExactBestLevelWrong)

/- THE SECOND FORM. 'bulk': how many values and letters a reading holds, each counted each time it is reached (what is shared counts as often as it is met; a slice's spare places count too). A statement '..UptoSaid' is the law's where the arguments, and the package variables that the reading takes, are together of bulk at most 1048576: NARROWER than '..Said'. Prove '..Said' where nothing that the law and all that it calls make is longer than what came in: it says more and counts as full. Else prove '..UptoSaid'. A law counts once. -/
mutual
def uptoBulk {H : Type} : DataW H → Nat
  | .lit (.string bytes) => bytes.length + 1
  | .lit _ => 1
  | .nil => 1
  | .ptr d => uptoBulk d + 1
  | .slice elems spare => uptoBulkAll elems + uptoBulkAll spare + 1
  | .agg parts => uptoBulkAll parts + 1
  | .iface _ d => uptoBulk d + 1
  | .map entries => uptoBulkEntries entries + 1
  | .held _ => 1
def uptoBulkAll {H : Type} : List (DataW H) → Nat
  | [] => 0
  | d :: r => uptoBulk d + uptoBulkAll r
def uptoBulkEntries {H : Type} : List (Lit × DataW H) → Nat
  | [] => 0
  | x :: r => uptoBulkEntry x + uptoBulkEntries r
def uptoBulkEntry {H : Type} : Lit × DataW H → Nat
  | (.string bytes, d) => bytes.length + uptoBulk d + 1
  | (_, d) => uptoBulk d + 1
 end
def uptoSmall : (H : Type) → List (DataW H) → Bool := fun _ ds => decide (uptoBulkAll ds ≤ 1048576)
def OpenSpec.upto (s : _root_.Go.ChangeSpec) : _root_.Go.OpenSpec := { _root_.Go.OpenSpec.ofChange s with cond := some uptoSmall }

/-- 'laws.FnExactLargestMean', WHERE WHAT IT READS IS OF BULK AT MOST 1048576: true; the input reads as it did. -/
def fnExactLargestMeanUptoRow : OpenClaim := { program := "ytligidmkhbcpmac", sum := "1c62d37e684f6884a662a0d22c67990d5445736009f00b7440d310dac0809370", func := "loop.example/g01131/laws.FnExactLargestMean", spec := "fnExactLargestMean", unfollowed := true, recurses := true, apart := false, narrowed := true }
def FnExactLargestMeanUptoSaid : Prop := fnExactLargestMeanUptoRow.holds Try.pinned (OpenSpec.upto fnExactLargestMeanSpec)

/-- 'laws.FnExactLargestChance', WHERE WHAT IT READS IS OF BULK AT MOST 1048576: true; the input reads as it did. -/
def fnExactLargestChanceUptoRow : OpenClaim := { program := "ytligidmkhbcpmac", sum := "1c62d37e684f6884a662a0d22c67990d5445736009f00b7440d310dac0809370", func := "loop.example/g01131/laws.FnExactLargestChance", spec := "fnExactLargestChance", unfollowed := true, recurses := true, apart := false, narrowed := true }
def FnExactLargestChanceUptoSaid : Prop := fnExactLargestChanceUptoRow.holds Try.pinned (OpenSpec.upto fnExactLargestChanceSpec)

/-- 'laws.FnPlans', WHERE WHAT IT READS IS OF BULK AT MOST 1048576: true; the input reads as it did. -/
def fnPlansUptoRow : OpenClaim := { program := "ytligidmkhbcpmac", sum := "1c62d37e684f6884a662a0d22c67990d5445736009f00b7440d310dac0809370", func := "loop.example/g01131/laws.FnPlans", spec := "fnPlans", unfollowed := true, recurses := true, apart := false, narrowed := true }
def FnPlansUptoSaid : Prop := fnPlansUptoRow.holds Try.pinned (OpenSpec.upto fnPlansSpec)

/-- 'laws.FnOrders', WHERE WHAT IT READS IS OF BULK AT MOST 1048576: true; the input reads as it did. -/
def fnOrdersUptoRow : OpenClaim := { program := "ytligidmkhbcpmac", sum := "1c62d37e684f6884a662a0d22c67990d5445736009f00b7440d310dac0809370", func := "loop.example/g01131/laws.FnOrders", spec := "fnOrders", unfollowed := true, recurses := true, apart := false, narrowed := true }
def FnOrdersUptoSaid : Prop := fnOrdersUptoRow.holds Try.pinned (OpenSpec.upto fnOrdersSpec)

/-- 'laws.FnTransport', WHERE WHAT IT READS IS OF BULK AT MOST 1048576: true; the input reads as it did. -/
def fnTransportUptoRow : OpenClaim := { program := "ytligidmkhbcpmac", sum := "1c62d37e684f6884a662a0d22c67990d5445736009f00b7440d310dac0809370", func := "loop.example/g01131/laws.FnTransport", spec := "fnTransport", unfollowed := true, recurses := true, apart := false, narrowed := true }
def FnTransportUptoSaid : Prop := fnTransportUptoRow.holds Try.pinned (OpenSpec.upto fnTransportSpec)

/-- 'laws.FnLargest', WHERE WHAT IT READS IS OF BULK AT MOST 1048576: true; the input reads as it did. -/
def fnLargestUptoRow : OpenClaim := { program := "ytligidmkhbcpmac", sum := "1c62d37e684f6884a662a0d22c67990d5445736009f00b7440d310dac0809370", func := "loop.example/g01131/laws.FnLargest", spec := "fnLargest", unfollowed := true, recurses := true, apart := false, narrowed := true }
def FnLargestUptoSaid : Prop := fnLargestUptoRow.holds Try.pinned (OpenSpec.upto fnLargestSpec)

/-- 'laws.FnExactUrnCounts', WHERE WHAT IT READS IS OF BULK AT MOST 1048576: true; the input reads as it did. -/
def fnExactUrnCountsUptoRow : OpenClaim := { program := "ytligidmkhbcpmac", sum := "1c62d37e684f6884a662a0d22c67990d5445736009f00b7440d310dac0809370", func := "loop.example/g01131/laws.FnExactUrnCounts", spec := "fnExactUrnCounts", apart := false, narrowed := true }
def FnExactUrnCountsUptoSaid : Prop := fnExactUrnCountsUptoRow.holds Try.pinned (OpenSpec.upto fnExactUrnCountsSpec)

/-- 'laws.FnExactFirstFound', WHERE WHAT IT READS IS OF BULK AT MOST 1048576: true; the input reads as it did. -/
def fnExactFirstFoundUptoRow : OpenClaim := { program := "ytligidmkhbcpmac", sum := "1c62d37e684f6884a662a0d22c67990d5445736009f00b7440d310dac0809370", func := "loop.example/g01131/laws.FnExactFirstFound", spec := "fnExactFirstFound", unfollowed := true, recurses := true, apart := false, narrowed := true }
def FnExactFirstFoundUptoSaid : Prop := fnExactFirstFoundUptoRow.holds Try.pinned (OpenSpec.upto fnExactFirstFoundSpec)

/-- 'laws.FnExactBestLevel', WHERE WHAT IT READS IS OF BULK AT MOST 1048576: true; the input reads as it did. -/
def fnExactBestLevelUptoRow : OpenClaim := { program := "ytligidmkhbcpmac", sum := "1c62d37e684f6884a662a0d22c67990d5445736009f00b7440d310dac0809370", func := "loop.example/g01131/laws.FnExactBestLevel", spec := "fnExactBestLevel", unfollowed := true, recurses := true, apart := false, narrowed := true }
def FnExactBestLevelUptoSaid : Prop := fnExactBestLevelUptoRow.holds Try.pinned (OpenSpec.upto fnExactBestLevelSpec)

end Rows
end Go.Proofs.Ytligidmkhbcpmac
