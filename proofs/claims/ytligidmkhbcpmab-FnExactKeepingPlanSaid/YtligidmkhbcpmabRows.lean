/-
  No cell of these rows narrows 'for every input' (looked for: loops, veiled, ifaces, maps, wideKeys, modest, calm, conditions, laid).
  DERIVED. THE GIVEN ROWS OF THIS SEAT. 9 by the template 'for every input the law returns true; each argument reads behind the call as it read before'; 0 by the template 'total and deterministic' (their statements: YtligidmkhbcpmabTotals.lean).
  GIVEN WITH THE SEED: the statements are not yours to turn. If you find one false, say at which input.
  Laid BY PROGRAM, IN A SANDBOX (cutbox-rows.mjs): the forced cells as the released guide's own fill.sh prints them over the translation 002c35ea7c11c2dc… (all of the seat's roots in one cut). By AI agents, Wed Nov 11 2026. No macro, syntax, notation, axiom, sorry.
-/
import Derived.Test.YtligidmkhbcpmabChecked
import GoSem.Claim
import GoSem.ClaimJoined
import GoSem.ClaimMapViews
import Derived.JoinedTies
import Derived.KernelRfl
namespace Go.Proofs.Ytligidmkhbcpmab
/- THE CELL 'sum', in the pinned program and in every row, IS THE sha256 OF THE DUMP (.gsa) THAT YtligidmkhbcpmabProg.lean LOADS. Nothing in Lean hashes anything: it is a label: what it is worth is what the hold of that sum in a sandbox is worth. -/
noncomputable def Try.pinned : Pinned := { name := "ytligidmkhbcpmab", sum := "002c35ea7c11c2dc48602a2d4e72848e132c79d4cd03a0d71d9a369d1b8117fd", checked := Try.checked }
namespace Rows
def none {H : Type} : Left H := { results := [], args := [] }

/-- 'laws.FnExactIsPlan': WHATEVER THE INPUT: true; the input reads as it did. -/
def fnExactIsPlanSpec : ChangeSpec := { name := "fnExactIsPlan", fn := fun _ => fun
  | [d1, d2, d3] => { results := [.lit (.bool true)], args := [d1, d2, d3] }
  | _ => none }
def fnExactIsPlanRow : OpenClaim := { program := "ytligidmkhbcpmab", sum := "002c35ea7c11c2dc48602a2d4e72848e132c79d4cd03a0d71d9a369d1b8117fd", func := "loop.example/g01131/laws.FnExactIsPlan", spec := "fnExactIsPlan", unfollowed := true, recurses := true, apart := false }
def FnExactIsPlanSaid : Prop := fnExactIsPlanRow.holds Try.pinned (OpenSpec.ofChange fnExactIsPlanSpec)

/-- ITS FALSE NEIGHBOUR: 'it returns false'. Refute it at one input. -/
def fnExactIsPlanWrong : ChangeSpec := { name := "fnExactIsPlan", fn := fun _ => fun
  | [d1, d2, d3] => { results := [.lit (.bool false)], args := [d1, d2, d3] }
  | _ => none }
def FnExactIsPlanWrongFalsely : Prop := fnExactIsPlanRow.holds Try.pinned (OpenSpec.ofChange fnExactIsPlanWrong)

/-- 'laws.FnExactKeptUnits': WHATEVER THE INPUT: true; the input reads as it did. -/
def fnExactKeptUnitsSpec : ChangeSpec := { name := "fnExactKeptUnits", fn := fun _ => fun
  | [d1, d2, d3] => { results := [.lit (.bool true)], args := [d1, d2, d3] }
  | _ => none }
def fnExactKeptUnitsRow : OpenClaim := { program := "ytligidmkhbcpmab", sum := "002c35ea7c11c2dc48602a2d4e72848e132c79d4cd03a0d71d9a369d1b8117fd", func := "loop.example/g01131/laws.FnExactKeptUnits", spec := "fnExactKeptUnits", unfollowed := true, recurses := true, apart := false }
def FnExactKeptUnitsSaid : Prop := fnExactKeptUnitsRow.holds Try.pinned (OpenSpec.ofChange fnExactKeptUnitsSpec)

/-- ITS FALSE NEIGHBOUR: 'it returns false'. Refute it at one input. -/
def fnExactKeptUnitsWrong : ChangeSpec := { name := "fnExactKeptUnits", fn := fun _ => fun
  | [d1, d2, d3] => { results := [.lit (.bool false)], args := [d1, d2, d3] }
  | _ => none }
def FnExactKeptUnitsWrongFalsely : Prop := fnExactKeptUnitsRow.holds Try.pinned (OpenSpec.ofChange fnExactKeptUnitsWrong)

/-- 'laws.FnExactIsUpward': WHATEVER THE INPUT: true; the input reads as it did. -/
def fnExactIsUpwardSpec : ChangeSpec := { name := "fnExactIsUpward", fn := fun _ => fun
  | [d1, d2, d3] => { results := [.lit (.bool true)], args := [d1, d2, d3] }
  | _ => none }
def fnExactIsUpwardRow : OpenClaim := { program := "ytligidmkhbcpmab", sum := "002c35ea7c11c2dc48602a2d4e72848e132c79d4cd03a0d71d9a369d1b8117fd", func := "loop.example/g01131/laws.FnExactIsUpward", spec := "fnExactIsUpward", unfollowed := true, recurses := true, apart := false }
def FnExactIsUpwardSaid : Prop := fnExactIsUpwardRow.holds Try.pinned (OpenSpec.ofChange fnExactIsUpwardSpec)

/-- ITS FALSE NEIGHBOUR: 'it returns false'. Refute it at one input. -/
def fnExactIsUpwardWrong : ChangeSpec := { name := "fnExactIsUpward", fn := fun _ => fun
  | [d1, d2, d3] => { results := [.lit (.bool false)], args := [d1, d2, d3] }
  | _ => none }
def FnExactIsUpwardWrongFalsely : Prop := fnExactIsUpwardRow.holds Try.pinned (OpenSpec.ofChange fnExactIsUpwardWrong)

/-- 'laws.FnExactIsCentred': WHATEVER THE INPUT: true; the input reads as it did. -/
def fnExactIsCentredSpec : ChangeSpec := { name := "fnExactIsCentred", fn := fun _ => fun
  | [d1, d2, d3] => { results := [.lit (.bool true)], args := [d1, d2, d3] }
  | _ => none }
def fnExactIsCentredRow : OpenClaim := { program := "ytligidmkhbcpmab", sum := "002c35ea7c11c2dc48602a2d4e72848e132c79d4cd03a0d71d9a369d1b8117fd", func := "loop.example/g01131/laws.FnExactIsCentred", spec := "fnExactIsCentred", unfollowed := true, recurses := true, apart := false }
def FnExactIsCentredSaid : Prop := fnExactIsCentredRow.holds Try.pinned (OpenSpec.ofChange fnExactIsCentredSpec)

/-- ITS FALSE NEIGHBOUR: 'it returns false'. Refute it at one input. -/
def fnExactIsCentredWrong : ChangeSpec := { name := "fnExactIsCentred", fn := fun _ => fun
  | [d1, d2, d3] => { results := [.lit (.bool false)], args := [d1, d2, d3] }
  | _ => none }
def FnExactIsCentredWrongFalsely : Prop := fnExactIsCentredRow.holds Try.pinned (OpenSpec.ofChange fnExactIsCentredWrong)

/-- 'laws.FnExactPlanCost': WHATEVER THE INPUT: true; the input reads as it did. -/
def fnExactPlanCostSpec : ChangeSpec := { name := "fnExactPlanCost", fn := fun _ => fun
  | [d1, d2, d3, d4] => { results := [.lit (.bool true)], args := [d1, d2, d3, d4] }
  | _ => none }
def fnExactPlanCostRow : OpenClaim := { program := "ytligidmkhbcpmab", sum := "002c35ea7c11c2dc48602a2d4e72848e132c79d4cd03a0d71d9a369d1b8117fd", func := "loop.example/g01131/laws.FnExactPlanCost", spec := "fnExactPlanCost", unfollowed := true, recurses := true, apart := false }
def FnExactPlanCostSaid : Prop := fnExactPlanCostRow.holds Try.pinned (OpenSpec.ofChange fnExactPlanCostSpec)

/-- ITS FALSE NEIGHBOUR: 'it returns false'. Refute it at one input. -/
def fnExactPlanCostWrong : ChangeSpec := { name := "fnExactPlanCost", fn := fun _ => fun
  | [d1, d2, d3, d4] => { results := [.lit (.bool false)], args := [d1, d2, d3, d4] }
  | _ => none }
def FnExactPlanCostWrongFalsely : Prop := fnExactPlanCostRow.holds Try.pinned (OpenSpec.ofChange fnExactPlanCostWrong)

/-- 'laws.FnExactArePotentials': WHATEVER THE INPUT: true; the input reads as it did. -/
def fnExactArePotentialsSpec : ChangeSpec := { name := "fnExactArePotentials", fn := fun _ => fun
  | [d1, d2, d3, d4, d5] => { results := [.lit (.bool true)], args := [d1, d2, d3, d4, d5] }
  | _ => none }
def fnExactArePotentialsRow : OpenClaim := { program := "ytligidmkhbcpmab", sum := "002c35ea7c11c2dc48602a2d4e72848e132c79d4cd03a0d71d9a369d1b8117fd", func := "loop.example/g01131/laws.FnExactArePotentials", spec := "fnExactArePotentials", unfollowed := true, recurses := true, apart := false }
def FnExactArePotentialsSaid : Prop := fnExactArePotentialsRow.holds Try.pinned (OpenSpec.ofChange fnExactArePotentialsSpec)

/-- ITS FALSE NEIGHBOUR: 'it returns false'. Refute it at one input. -/
def fnExactArePotentialsWrong : ChangeSpec := { name := "fnExactArePotentials", fn := fun _ => fun
  | [d1, d2, d3, d4, d5] => { results := [.lit (.bool false)], args := [d1, d2, d3, d4, d5] }
  | _ => none }
def FnExactArePotentialsWrongFalsely : Prop := fnExactArePotentialsRow.holds Try.pinned (OpenSpec.ofChange fnExactArePotentialsWrong)

/-- 'laws.FnExactKeepingPlan': WHATEVER THE INPUT: true; the input reads as it did. -/
def fnExactKeepingPlanSpec : ChangeSpec := { name := "fnExactKeepingPlan", fn := fun _ => fun
  | [d1, d2] => { results := [.lit (.bool true)], args := [d1, d2] }
  | _ => none }
def fnExactKeepingPlanRow : OpenClaim := { program := "ytligidmkhbcpmab", sum := "002c35ea7c11c2dc48602a2d4e72848e132c79d4cd03a0d71d9a369d1b8117fd", func := "loop.example/g01131/laws.FnExactKeepingPlan", spec := "fnExactKeepingPlan", unfollowed := true, recurses := true, apart := false }
def FnExactKeepingPlanSaid : Prop := fnExactKeepingPlanRow.holds Try.pinned (OpenSpec.ofChange fnExactKeepingPlanSpec)

/-- ITS FALSE NEIGHBOUR: 'it returns false'. Refute it at one input. -/
def fnExactKeepingPlanWrong : ChangeSpec := { name := "fnExactKeepingPlan", fn := fun _ => fun
  | [d1, d2] => { results := [.lit (.bool false)], args := [d1, d2] }
  | _ => none }
def FnExactKeepingPlanWrongFalsely : Prop := fnExactKeepingPlanRow.holds Try.pinned (OpenSpec.ofChange fnExactKeepingPlanWrong)

/-- 'laws.FnExactSortedPlan': WHATEVER THE INPUT: true; the input reads as it did. -/
def fnExactSortedPlanSpec : ChangeSpec := { name := "fnExactSortedPlan", fn := fun _ => fun
  | [d1, d2] => { results := [.lit (.bool true)], args := [d1, d2] }
  | _ => none }
def fnExactSortedPlanRow : OpenClaim := { program := "ytligidmkhbcpmab", sum := "002c35ea7c11c2dc48602a2d4e72848e132c79d4cd03a0d71d9a369d1b8117fd", func := "loop.example/g01131/laws.FnExactSortedPlan", spec := "fnExactSortedPlan", unfollowed := true, recurses := true, apart := false }
def FnExactSortedPlanSaid : Prop := fnExactSortedPlanRow.holds Try.pinned (OpenSpec.ofChange fnExactSortedPlanSpec)

/-- ITS FALSE NEIGHBOUR: 'it returns false'. Refute it at one input. -/
def fnExactSortedPlanWrong : ChangeSpec := { name := "fnExactSortedPlan", fn := fun _ => fun
  | [d1, d2] => { results := [.lit (.bool false)], args := [d1, d2] }
  | _ => none }
def FnExactSortedPlanWrongFalsely : Prop := fnExactSortedPlanRow.holds Try.pinned (OpenSpec.ofChange fnExactSortedPlanWrong)

/-- 'laws.FnExactLeastCost': WHATEVER THE INPUT: true; the input reads as it did. -/
def fnExactLeastCostSpec : ChangeSpec := { name := "fnExactLeastCost", fn := fun _ => fun
  | [d1, d2, d3] => { results := [.lit (.bool true)], args := [d1, d2, d3] }
  | _ => none }
def fnExactLeastCostRow : OpenClaim := { program := "ytligidmkhbcpmab", sum := "002c35ea7c11c2dc48602a2d4e72848e132c79d4cd03a0d71d9a369d1b8117fd", func := "loop.example/g01131/laws.FnExactLeastCost", spec := "fnExactLeastCost", unfollowed := true, recurses := true, apart := false }
def FnExactLeastCostSaid : Prop := fnExactLeastCostRow.holds Try.pinned (OpenSpec.ofChange fnExactLeastCostSpec)

/-- ITS FALSE NEIGHBOUR: 'it returns false'. Refute it at one input. -/
def fnExactLeastCostWrong : ChangeSpec := { name := "fnExactLeastCost", fn := fun _ => fun
  | [d1, d2, d3] => { results := [.lit (.bool false)], args := [d1, d2, d3] }
  | _ => none }
def FnExactLeastCostWrongFalsely : Prop := fnExactLeastCostRow.holds Try.pinned (OpenSpec.ofChange fnExactLeastCostWrong)

/- THE SECOND FORM. 'bulk': how many values and letters a reading holds, each counted each time it is reached (what is shared counts as often as it is met; a slice's spare places count too). A statement '..UptoSaid' is the law's where the arguments, and the package variables that the reading takes, are together of bulk at most 1048576: NARROWER than '..Said'. Prove '..Said' where nothing that the law and all that it calls make is longer than what came in: it says more and counts as full. Else prove '..UptoSaid'. A law counts once. -/
mutual
def uptoBulk {H : Type} : DataW H → Nat
  | .lit (.string bytes) => bytes.length + 1
  | .lit _ => 1
  | .nil => 1
  | .ptr d => uptoBulk d + 1
  | .slice elems spare => uptoBulkAll elems + uptoBulkAll spare + 1
  | .agg parts => uptoBulkAll parts + 1
  | .iface _ d => uptoBulk d + 1
  | .map entries => uptoBulkEntries entries + 1
  | .held _ => 1
def uptoBulkAll {H : Type} : List (DataW H) → Nat
  | [] => 0
  | d :: r => uptoBulk d + uptoBulkAll r
def uptoBulkEntries {H : Type} : List (Lit × DataW H) → Nat
  | [] => 0
  | x :: r => uptoBulkEntry x + uptoBulkEntries r
def uptoBulkEntry {H : Type} : Lit × DataW H → Nat
  | (.string bytes, d) => bytes.length + uptoBulk d + 1
  | (_, d) => uptoBulk d + 1
 end
def uptoSmall : (H : Type) → List (DataW H) → Bool := fun _ ds => decide (uptoBulkAll ds ≤ 1048576)
def OpenSpec.upto (s : _root_.Go.ChangeSpec) : _root_.Go.OpenSpec := { _root_.Go.OpenSpec.ofChange s with cond := some uptoSmall }

/-- 'laws.FnExactIsPlan', WHERE WHAT IT READS IS OF BULK AT MOST 1048576: true; the input reads as it did. -/
def fnExactIsPlanUptoRow : OpenClaim := { program := "ytligidmkhbcpmab", sum := "002c35ea7c11c2dc48602a2d4e72848e132c79d4cd03a0d71d9a369d1b8117fd", func := "loop.example/g01131/laws.FnExactIsPlan", spec := "fnExactIsPlan", unfollowed := true, recurses := true, apart := false, narrowed := true }
def FnExactIsPlanUptoSaid : Prop := fnExactIsPlanUptoRow.holds Try.pinned (OpenSpec.upto fnExactIsPlanSpec)

/-- 'laws.FnExactKeptUnits', WHERE WHAT IT READS IS OF BULK AT MOST 1048576: true; the input reads as it did. -/
def fnExactKeptUnitsUptoRow : OpenClaim := { program := "ytligidmkhbcpmab", sum := "002c35ea7c11c2dc48602a2d4e72848e132c79d4cd03a0d71d9a369d1b8117fd", func := "loop.example/g01131/laws.FnExactKeptUnits", spec := "fnExactKeptUnits", unfollowed := true, recurses := true, apart := false, narrowed := true }
def FnExactKeptUnitsUptoSaid : Prop := fnExactKeptUnitsUptoRow.holds Try.pinned (OpenSpec.upto fnExactKeptUnitsSpec)

/-- 'laws.FnExactIsUpward', WHERE WHAT IT READS IS OF BULK AT MOST 1048576: true; the input reads as it did. -/
def fnExactIsUpwardUptoRow : OpenClaim := { program := "ytligidmkhbcpmab", sum := "002c35ea7c11c2dc48602a2d4e72848e132c79d4cd03a0d71d9a369d1b8117fd", func := "loop.example/g01131/laws.FnExactIsUpward", spec := "fnExactIsUpward", unfollowed := true, recurses := true, apart := false, narrowed := true }
def FnExactIsUpwardUptoSaid : Prop := fnExactIsUpwardUptoRow.holds Try.pinned (OpenSpec.upto fnExactIsUpwardSpec)

/-- 'laws.FnExactIsCentred', WHERE WHAT IT READS IS OF BULK AT MOST 1048576: true; the input reads as it did. -/
def fnExactIsCentredUptoRow : OpenClaim := { program := "ytligidmkhbcpmab", sum := "002c35ea7c11c2dc48602a2d4e72848e132c79d4cd03a0d71d9a369d1b8117fd", func := "loop.example/g01131/laws.FnExactIsCentred", spec := "fnExactIsCentred", unfollowed := true, recurses := true, apart := false, narrowed := true }
def FnExactIsCentredUptoSaid : Prop := fnExactIsCentredUptoRow.holds Try.pinned (OpenSpec.upto fnExactIsCentredSpec)

/-- 'laws.FnExactPlanCost', WHERE WHAT IT READS IS OF BULK AT MOST 1048576: true; the input reads as it did. -/
def fnExactPlanCostUptoRow : OpenClaim := { program := "ytligidmkhbcpmab", sum := "002c35ea7c11c2dc48602a2d4e72848e132c79d4cd03a0d71d9a369d1b8117fd", func := "loop.example/g01131/laws.FnExactPlanCost", spec := "fnExactPlanCost", unfollowed := true, recurses := true, apart := false, narrowed := true }
def FnExactPlanCostUptoSaid : Prop := fnExactPlanCostUptoRow.holds Try.pinned (OpenSpec.upto fnExactPlanCostSpec)

/-- 'laws.FnExactArePotentials', WHERE WHAT IT READS IS OF BULK AT MOST 1048576: true; the input reads as it did. -/
def fnExactArePotentialsUptoRow : OpenClaim := { program := "ytligidmkhbcpmab", sum := "002c35ea7c11c2dc48602a2d4e72848e132c79d4cd03a0d71d9a369d1b8117fd", func := "loop.example/g01131/laws.FnExactArePotentials", spec := "fnExactArePotentials", unfollowed := true, recurses := true, apart := false, narrowed := true }
def FnExactArePotentialsUptoSaid : Prop := fnExactArePotentialsUptoRow.holds Try.pinned (OpenSpec.upto fnExactArePotentialsSpec)

/-- 'laws.FnExactKeepingPlan', WHERE WHAT IT READS IS OF BULK AT MOST 1048576: true; the input reads as it did. -/
def fnExactKeepingPlanUptoRow : OpenClaim := { program := "ytligidmkhbcpmab", sum := "002c35ea7c11c2dc48602a2d4e72848e132c79d4cd03a0d71d9a369d1b8117fd", func := "loop.example/g01131/laws.FnExactKeepingPlan", spec := "fnExactKeepingPlan", unfollowed := true, recurses := true, apart := false, narrowed := true }
def FnExactKeepingPlanUptoSaid : Prop := fnExactKeepingPlanUptoRow.holds Try.pinned (OpenSpec.upto fnExactKeepingPlanSpec)

/-- 'laws.FnExactSortedPlan', WHERE WHAT IT READS IS OF BULK AT MOST 1048576: true; the input reads as it did. -/
def fnExactSortedPlanUptoRow : OpenClaim := { program := "ytligidmkhbcpmab", sum := "002c35ea7c11c2dc48602a2d4e72848e132c79d4cd03a0d71d9a369d1b8117fd", func := "loop.example/g01131/laws.FnExactSortedPlan", spec := "fnExactSortedPlan", unfollowed := true, recurses := true, apart := false, narrowed := true }
def FnExactSortedPlanUptoSaid : Prop := fnExactSortedPlanUptoRow.holds Try.pinned (OpenSpec.upto fnExactSortedPlanSpec)

/-- 'laws.FnExactLeastCost', WHERE WHAT IT READS IS OF BULK AT MOST 1048576: true; the input reads as it did. -/
def fnExactLeastCostUptoRow : OpenClaim := { program := "ytligidmkhbcpmab", sum := "002c35ea7c11c2dc48602a2d4e72848e132c79d4cd03a0d71d9a369d1b8117fd", func := "loop.example/g01131/laws.FnExactLeastCost", spec := "fnExactLeastCost", unfollowed := true, recurses := true, apart := false, narrowed := true }
def FnExactLeastCostUptoSaid : Prop := fnExactLeastCostUptoRow.holds Try.pinned (OpenSpec.upto fnExactLeastCostSpec)

end Rows
end Go.Proofs.Ytligidmkhbcpmab
