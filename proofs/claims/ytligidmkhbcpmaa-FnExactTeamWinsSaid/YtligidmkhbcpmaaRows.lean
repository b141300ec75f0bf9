/-
  No cell of these rows narrows 'for every input' (looked for: loops, veiled, ifaces, maps, wideKeys, modest, calm, conditions, laid).
  DERIVED. THE GIVEN ROWS OF THIS SEAT. 9 by the template 'for every input the law returns true; each argument reads behind the call as it read before'; 0 by the template 'total and deterministic' (their statements: YtligidmkhbcpmaaTotals.lean).
  GIVEN WITH THE SEED: the statements are not yours to turn. If you find one false, say at which input.
  Laid BY PROGRAM, IN A SANDBOX (cutbox-rows.mjs): the forced cells as the released guide's own fill.sh prints them over the translation c37daf84f96c47f0… (all of the seat's roots in one cut). By AI agents, Wed Nov 11 2026. No macro, syntax, notation, axiom, sorry.
-/
import Derived.Test.YtligidmkhbcpmaaChecked
import GoSem.Claim
import GoSem.ClaimJoined
import GoSem.ClaimMapViews
import Derived.JoinedTies
import Derived.KernelRfl
namespace Go.Proofs.Ytligidmkhbcpmaa
/- THE CELL 'sum', in the pinned program and in every row, IS THE sha256 OF THE DUMP (.gsa) THAT YtligidmkhbcpmaaProg.lean LOADS. Nothing in Lean hashes anything: it is a label: what it is worth is what the hold of that sum in a sandbox is worth. -/
noncomputable def Try.pinned : Pinned := { name := "ytligidmkhbcpmaa", sum := "c37daf84f96c47f0642290d514bdb0d09a5034fafb423c053da4501bb5ad09b2", checked := Try.checked }
namespace Rows
def none {H : Type} : Left H := { results := [], args := [] }

/-- 'laws.FnExactIsSpread': WHATEVER THE INPUT: true; the input reads as it did. -/
def fnExactIsSpreadSpec : ChangeSpec := { name := "fnExactIsSpread", fn := fun _ => fun
  | [d] => { results := [.lit (.bool true)], args := [d] }
  | _ => none }
def fnExactIsSpreadRow : OpenClaim := { program := "ytligidmkhbcpmaa", sum := "c37daf84f96c47f0642290d514bdb0d09a5034fafb423c053da4501bb5ad09b2", func := "loop.example/g01131/laws.FnExactIsSpread", spec := "fnExactIsSpread", unfollowed := true, recurses := true, apart := false }
def FnExactIsSpreadSaid : Prop := fnExactIsSpreadRow.holds Try.pinned (OpenSpec.ofChange fnExactIsSpreadSpec)

/-- ITS FALSE NEIGHBOUR: 'it returns false'. Refute it at one input. -/
def fnExactIsSpreadWrong : ChangeSpec := { name := "fnExactIsSpread", fn := fun _ => fun
  | [d] => { results := [.lit (.bool false)], args := [d] }
  | _ => none }
def FnExactIsSpreadWrongFalsely : Prop := fnExactIsSpreadRow.holds Try.pinned (OpenSpec.ofChange fnExactIsSpreadWrong)

/-- 'laws.FnExactAreAlike': WHATEVER THE INPUT: true; the input reads as it did. -/
def fnExactAreAlikeSpec : ChangeSpec := { name := "fnExactAreAlike", fn := fun _ => fun
  | [d1, d2] => { results := [.lit (.bool true)], args := [d1, d2] }
  | _ => none }
def fnExactAreAlikeRow : OpenClaim := { program := "ytligidmkhbcpmaa", sum := "c37daf84f96c47f0642290d514bdb0d09a5034fafb423c053da4501bb5ad09b2", func := "loop.example/g01131/laws.FnExactAreAlike", spec := "fnExactAreAlike", unfollowed := true, recurses := true, apart := false }
def FnExactAreAlikeSaid : Prop := fnExactAreAlikeRow.holds Try.pinned (OpenSpec.ofChange fnExactAreAlikeSpec)

/-- ITS FALSE NEIGHBOUR: 'it returns false'. Refute it at one input. -/
def fnExactAreAlikeWrong : ChangeSpec := { name := "fnExactAreAlike", fn := fun _ => fun
  | [d1, d2] => { results := [.lit (.bool false)], args := [d1, d2] }
  | _ => none }
def FnExactAreAlikeWrongFalsely : Prop := fnExactAreAlikeRow.holds Try.pinned (OpenSpec.ofChange fnExactAreAlikeWrong)

/-- 'laws.FnExactDistanceOf': WHATEVER THE INPUT: true; the input reads as it did. -/
def fnExactDistanceOfSpec : ChangeSpec := { name := "fnExactDistanceOf", fn := fun _ => fun
  | [d1, d2] => { results := [.lit (.bool true)], args := [d1, d2] }
  | _ => none }
def fnExactDistanceOfRow : OpenClaim := { program := "ytligidmkhbcpmaa", sum := "c37daf84f96c47f0642290d514bdb0d09a5034fafb423c053da4501bb5ad09b2", func := "loop.example/g01131/laws.FnExactDistanceOf", spec := "fnExactDistanceOf", unfollowed := true, recurses := true, apart := false }
def FnExactDistanceOfSaid : Prop := fnExactDistanceOfRow.holds Try.pinned (OpenSpec.ofChange fnExactDistanceOfSpec)

/-- ITS FALSE NEIGHBOUR: 'it returns false'. Refute it at one input. -/
def fnExactDistanceOfWrong : ChangeSpec := { name := "fnExactDistanceOf", fn := fun _ => fun
  | [d1, d2] => { results := [.lit (.bool false)], args := [d1, d2] }
  | _ => none }
def FnExactDistanceOfWrongFalsely : Prop := fnExactDistanceOfRow.holds Try.pinned (OpenSpec.ofChange fnExactDistanceOfWrong)

/-- 'laws.FnExactIsAbove': WHATEVER THE INPUT: true; the input reads as it did. -/
def fnExactIsAboveSpec : ChangeSpec := { name := "fnExactIsAbove", fn := fun _ => fun
  | [d1, d2] => { results := [.lit (.bool true)], args := [d1, d2] }
  | _ => none }
def fnExactIsAboveRow : OpenClaim := { program := "ytligidmkhbcpmaa", sum := "c37daf84f96c47f0642290d514bdb0d09a5034fafb423c053da4501bb5ad09b2", func := "loop.example/g01131/laws.FnExactIsAbove", spec := "fnExactIsAbove", unfollowed := true, recurses := true, apart := false }
def FnExactIsAboveSaid : Prop := fnExactIsAboveRow.holds Try.pinned (OpenSpec.ofChange fnExactIsAboveSpec)

/-- ITS FALSE NEIGHBOUR: 'it returns false'. Refute it at one input. -/
def fnExactIsAboveWrong : ChangeSpec := { name := "fnExactIsAbove", fn := fun _ => fun
  | [d1, d2] => { results := [.lit (.bool false)], args := [d1, d2] }
  | _ => none }
def FnExactIsAboveWrongFalsely : Prop := fnExactIsAboveRow.holds Try.pinned (OpenSpec.ofChange fnExactIsAboveWrong)

/-- 'laws.FnExactEarthDistance': WHATEVER THE INPUT: true; the input reads as it did. -/
def fnExactEarthDistanceSpec : ChangeSpec := { name := "fnExactEarthDistance", fn := fun _ => fun
  | [d1, d2] => { results := [.lit (.bool true)], args := [d1, d2] }
  | _ => none }
def fnExactEarthDistanceRow : OpenClaim := { program := "ytligidmkhbcpmaa", sum := "c37daf84f96c47f0642290d514bdb0d09a5034fafb423c053da4501bb5ad09b2", func := "loop.example/g01131/laws.FnExactEarthDistance", spec := "fnExactEarthDistance", unfollowed := true, recurses := true, apart := false }
def FnExactEarthDistanceSaid : Prop := fnExactEarthDistanceRow.holds Try.pinned (OpenSpec.ofChange fnExactEarthDistanceSpec)

/-- ITS FALSE NEIGHBOUR: 'it returns false'. Refute it at one input. -/
def fnExactEarthDistanceWrong : ChangeSpec := { name := "fnExactEarthDistance", fn := fun _ => fun
  | [d1, d2] => { results := [.lit (.bool false)], args := [d1, d2] }
  | _ => none }
def FnExactEarthDistanceWrongFalsely : Prop := fnExactEarthDistanceRow.holds Try.pinned (OpenSpec.ofChange fnExactEarthDistanceWrong)

/-- 'laws.FnExactIsWider': WHATEVER THE INPUT: true; the input reads as it did. -/
def fnExactIsWiderSpec : ChangeSpec := { name := "fnExactIsWider", fn := fun _ => fun
  | [d1, d2] => { results := [.lit (.bool true)], args := [d1, d2] }
  | _ => none }
def fnExactIsWiderRow : OpenClaim := { program := "ytligidmkhbcpmaa", sum := "c37daf84f96c47f0642290d514bdb0d09a5034fafb423c053da4501bb5ad09b2", func := "loop.example/g01131/laws.FnExactIsWider", spec := "fnExactIsWider", unfollowed := true, recurses := true, apart := false }
def FnExactIsWiderSaid : Prop := fnExactIsWiderRow.holds Try.pinned (OpenSpec.ofChange fnExactIsWiderSpec)

/-- ITS FALSE NEIGHBOUR: 'it returns false'. Refute it at one input. -/
def fnExactIsWiderWrong : ChangeSpec := { name := "fnExactIsWider", fn := fun _ => fun
  | [d1, d2] => { results := [.lit (.bool false)], args := [d1, d2] }
  | _ => none }
def FnExactIsWiderWrongFalsely : Prop := fnExactIsWiderRow.holds Try.pinned (OpenSpec.ofChange fnExactIsWiderWrong)

/-- 'laws.FnExactMoveApart': WHATEVER THE INPUT: true; the input reads as it did. -/
def fnExactMoveApartSpec : ChangeSpec := { name := "fnExactMoveApart", fn := fun _ => fun
  | [d1, d2] => { results := [.lit (.bool true)], args := [d1, d2] }
  | _ => none }
def fnExactMoveApartRow : OpenClaim := { program := "ytligidmkhbcpmaa", sum := "c37daf84f96c47f0642290d514bdb0d09a5034fafb423c053da4501bb5ad09b2", func := "loop.example/g01131/laws.FnExactMoveApart", spec := "fnExactMoveApart", unfollowed := true, recurses := true, apart := false }
def FnExactMoveApartSaid : Prop := fnExactMoveApartRow.holds Try.pinned (OpenSpec.ofChange fnExactMoveApartSpec)

/-- ITS FALSE NEIGHBOUR: 'it returns false'. Refute it at one input. -/
def fnExactMoveApartWrong : ChangeSpec := { name := "fnExactMoveApart", fn := fun _ => fun
  | [d1, d2] => { results := [.lit (.bool false)], args := [d1, d2] }
  | _ => none }
def FnExactMoveApartWrongFalsely : Prop := fnExactMoveApartRow.holds Try.pinned (OpenSpec.ofChange fnExactMoveApartWrong)

/-- 'laws.FnExactMixSpreads': WHATEVER THE INPUT: true; the input reads as it did. -/
def fnExactMixSpreadsSpec : ChangeSpec := { name := "fnExactMixSpreads", fn := fun _ => fun
  | [d1, d2] => { results := [.lit (.bool true)], args := [d1, d2] }
  | _ => none }
def fnExactMixSpreadsRow : OpenClaim := { program := "ytligidmkhbcpmaa", sum := "c37daf84f96c47f0642290d514bdb0d09a5034fafb423c053da4501bb5ad09b2", func := "loop.example/g01131/laws.FnExactMixSpreads", spec := "fnExactMixSpreads", unfollowed := true, recurses := true, apart := false }
def FnExactMixSpreadsSaid : Prop := fnExactMixSpreadsRow.holds Try.pinned (OpenSpec.ofChange fnExactMixSpreadsSpec)

/-- ITS FALSE NEIGHBOUR: 'it returns false'. Refute it at one input. -/
def fnExactMixSpreadsWrong : ChangeSpec := { name := "fnExactMixSpreads", fn := fun _ => fun
  | [d1, d2] => { results := [.lit (.bool false)], args := [d1, d2] }
  | _ => none }
def FnExactMixSpreadsWrongFalsely : Prop := fnExactMixSpreadsRow.holds Try.pinned (OpenSpec.ofChange fnExactMixSpreadsWrong)

/-- 'laws.FnExactTeamWins': WHATEVER THE INPUT: true; the input reads as it did. -/
def fnExactTeamWinsSpec : ChangeSpec := { name := "fnExactTeamWins", fn := fun _ => fun
  | [d1, d2, d3] => { results := [.lit (.bool true)], args := [d1, d2, d3] }
  | _ => none }
def fnExactTeamWinsRow : OpenClaim := { program := "ytligidmkhbcpmaa", sum := "c37daf84f96c47f0642290d514bdb0d09a5034fafb423c053da4501bb5ad09b2", func := "loop.example/g01131/laws.FnExactTeamWins", spec := "fnExactTeamWins", unfollowed := true, recurses := true, apart := false }
def FnExactTeamWinsSaid : Prop := fnExactTeamWinsRow.holds Try.pinned (OpenSpec.ofChange fnExactTeamWinsSpec)

/-- ITS FALSE NEIGHBOUR: 'it returns false'. Refute it at one input. -/
def fnExactTeamWinsWrong : ChangeSpec := { name := "fnExactTeamWins", fn := fun _ => fun
  | [d1, d2, d3] => { results := [.lit (.bool false)], args := [d1, d2, d3] }
  | _ => none }
def FnExactTeamWinsWrongFalsely : Prop := fnExactTeamWinsRow.holds Try.pinned (OpenSpec.ofChange fnExactTeamWinsWrong)

/- THE SECOND FORM. 'bulk': how many values and letters a reading holds, each counted each time it is reached (what is shared counts as often as it is met; a slice's spare places count too). A statement '..UptoSaid' is the law's where the arguments, and the package variables that the reading takes, are together of bulk at most 1048576: NARROWER than '..Said'. Prove '..Said' where nothing that the law and all that it calls make is longer than what came in: it says more and counts as full. Else prove '..UptoSaid'. A law counts once. -/
mutual
def uptoBulk {H : Type} : DataW H → Nat
  | .lit (.string bytes) => bytes.length + 1
  | .lit _ => 1
  | .nil => 1
  | .ptr d => uptoBulk d + 1
  | .slice elems spare => uptoBulkAll elems + uptoBulkAll spare + 1
  | .agg parts => uptoBulkAll parts + 1
  | .iface _ d => uptoBulk d + 1
  | .map entries => uptoBulkEntries entries + 1
  | .held _ => 1
def uptoBulkAll {H : Type} : List (DataW H) → Nat
  | [] => 0
  | d :: r => uptoBulk d + uptoBulkAll r
def uptoBulkEntries {H : Type} : List (Lit × DataW H) → Nat
  | [] => 0
  | x :: r => uptoBulkEntry x + uptoBulkEntries r
def uptoBulkEntry {H : Type} : Lit × DataW H → Nat
  | (.string bytes, d) => bytes.length + uptoBulk d + 1
  | (_, d) => uptoBulk d + 1
 end
def uptoSmall : (H : Type) → List (DataW H) → Bool := fun _ ds => decide (uptoBulkAll ds ≤ 1048576)
def OpenSpec.upto (s : _root_.Go.ChangeSpec) : _root_.Go.OpenSpec := { _root_.Go.OpenSpec.ofChange s with cond := some uptoSmall }

/-- 'laws.FnExactIsSpread', WHERE WHAT IT READS IS OF BULK AT MOST 1048576: true; the input reads as it did. -/
def fnExactIsSpreadUptoRow : OpenClaim := { program := "ytligidmkhbcpmaa", sum := "c37daf84f96c47f0642290d514bdb0d09a5034fafb423c053da4501bb5ad09b2", func := "loop.example/g01131/laws.FnExactIsSpread", spec := "fnExactIsSpread", unfollowed := true, recurses := true, apart := false, narrowed := true }
def FnExactIsSpreadUptoSaid : Prop := fnExactIsSpreadUptoRow.holds Try.pinned (OpenSpec.upto fnExactIsSpreadSpec)

/-- 'laws.FnExactAreAlike', WHERE WHAT IT READS IS OF BULK AT MOST 1048576: true; the input reads as it did. -/
def fnExactAreAlikeUptoRow : OpenClaim := { program := "ytligidmkhbcpmaa", sum := "c37daf84f96c47f0642290d514bdb0d09a5034fafb423c053da4501bb5ad09b2", func := "loop.example/g01131/laws.FnExactAreAlike", spec := "fnExactAreAlike", unfollowed := true, recurses := true, apart := false, narrowed := true }
def FnExactAreAlikeUptoSaid : Prop := fnExactAreAlikeUptoRow.holds Try.pinned (OpenSpec.upto fnExactAreAlikeSpec)

/-- 'laws.FnExactDistanceOf', WHERE WHAT IT READS IS OF BULK AT MOST 1048576: true; the input reads as it did. -/
def fnExactDistanceOfUptoRow : OpenClaim := { program := "ytligidmkhbcpmaa", sum := "c37daf84f96c47f0642290d514bdb0d09a5034fafb423c053da4501bb5ad09b2", func := "loop.example/g01131/laws.FnExactDistanceOf", spec := "fnExactDistanceOf", unfollowed := true, recurses := true, apart := false, narrowed := true }
def FnExactDistanceOfUptoSaid : Prop := fnExactDistanceOfUptoRow.holds Try.pinned (OpenSpec.upto fnExactDistanceOfSpec)

/-- 'laws.FnExactIsAbove', WHERE WHAT IT READS IS OF BULK AT MOST 1048576: true; the input reads as it did. -/
def fnExactIsAboveUptoRow : OpenClaim := { program := "ytligidmkhbcpmaa", sum := "c37daf84f96c47f0642290d514bdb0d09a5034fafb423c053da4501bb5ad09b2", func := "loop.example/g01131/laws.FnExactIsAbove", spec := "fnExactIsAbove", unfollowed := true, recurses := true, apart := false, narrowed := true }
def FnExactIsAboveUptoSaid : Prop := fnExactIsAboveUptoRow.holds Try.pinned (OpenSpec.upto fnExactIsAboveSpec)

/-- 'laws.FnExactEarthDistance', WHERE WHAT IT READS IS OF BULK AT MOST 1048576: true; the input reads as it did. -/
def fnExactEarthDistanceUptoRow : OpenClaim := { program := "ytligidmkhbcpmaa", sum := "c37daf84f96c47f0642290d514bdb0d09a5034fafb423c053da4501bb5ad09b2", func := "loop.example/g01131/laws.FnExactEarthDistance", spec := "fnExactEarthDistance", unfollowed := true, recurses := true, apart := false, narrowed := true }
def FnExactEarthDistanceUptoSaid : Prop := fnExactEarthDistanceUptoRow.holds Try.pinned (OpenSpec.upto fnExactEarthDistanceSpec)

/-- 'laws.FnExactIsWider', WHERE WHAT IT READS IS OF BULK AT MOST 1048576: true; the input reads as it did. -/
def fnExactIsWiderUptoRow : OpenClaim := { program := "ytligidmkhbcpmaa", sum := "c37daf84f96c47f0642290d514bdb0d09a5034fafb423c053da4501bb5ad09b2", func := "loop.example/g01131/laws.FnExactIsWider", spec := "fnExactIsWider", unfollowed := true, recurses := true, apart := false, narrowed := true }
def FnExactIsWiderUptoSaid : Prop := fnExactIsWiderUptoRow.holds Try.pinned (OpenSpec.upto fnExactIsWiderSpec)

/-- 'laws.FnExactMoveApart', WHERE WHAT IT READS IS OF BULK AT MOST 1048576: true; the input reads as it did. -/
def fnExactMoveApartUptoRow : OpenClaim := { program := "ytligidmkhbcpmaa", sum := "c37daf84f96c47f0642290d514bdb0d09a5034fafb423c053da4501bb5ad09b2", func := "loop.example/g01131/laws.FnExactMoveApart", spec := "fnExactMoveApart", unfollowed := true, recurses := true, apart := false, narrowed := true }
def FnExactMoveApartUptoSaid : Prop := fnExactMoveApartUptoRow.holds Try.pinned (OpenSpec.upto fnExactMoveApartSpec)

/-- 'laws.FnExactMixSpreads', WHERE WHAT IT READS IS OF BULK AT MOST 1048576: true; the input reads as it did. -/
def fnExactMixSpreadsUptoRow : OpenClaim := { program := "ytligidmkhbcpmaa", sum := "c37daf84f96c47f0642290d514bdb0d09a5034fafb423c053da4501bb5ad09b2", func := "loop.example/g01131/laws.FnExactMixSpreads", spec := "fnExactMixSpreads", unfollowed := true, recurses := true, apart := false, narrowed := true }
def FnExactMixSpreadsUptoSaid : Prop := fnExactMixSpreadsUptoRow.holds Try.pinned (OpenSpec.upto fnExactMixSpreadsSpec)

/-- 'laws.FnExactTeamWins', WHERE WHAT IT READS IS OF BULK AT MOST 1048576: true; the input reads as it did. -/
def fnExactTeamWinsUptoRow : OpenClaim := { program := "ytligidmkhbcpmaa", sum := "c37daf84f96c47f0642290d514bdb0d09a5034fafb423c053da4501bb5ad09b2", func := "loop.example/g01131/laws.FnExactTeamWins", spec := "fnExactTeamWins", unfollowed := true, recurses := true, apart := false, narrowed := true }
def FnExactTeamWinsUptoSaid : Prop := fnExactTeamWinsUptoRow.holds Try.pinned (OpenSpec.upto fnExactTeamWinsSpec)

end Rows
end Go.Proofs.Ytligidmkhbcpmaa
