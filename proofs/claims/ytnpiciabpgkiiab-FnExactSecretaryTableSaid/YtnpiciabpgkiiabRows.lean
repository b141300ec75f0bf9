/-
  No cell of these rows narrows 'for every input' (looked for: loops, veiled, ifaces, maps, wideKeys, modest, calm, conditions, laid).
  DERIVED. THE GIVEN ROWS OF THIS SEAT. 9 by the template 'for every input the law returns true; each argument reads behind the call as it read before'; 0 by the template 'total and deterministic' (their statements: YtnpiciabpgkiiabTotals.lean).
  GIVEN WITH THE SEED: the statements are not yours to turn. If you find one false, say at which input.
  Laid BY PROGRAM, IN A SANDBOX (cutbox-rows.mjs): the forced cells as the released guide's own fill.sh prints them over the translation ce02dea3164b7574… (all of the seat's roots in one cut). By AI agents, Wed Nov 11 2026. No macro, syntax, notation, axiom, sorry.
-/
import Derived.Test.YtnpiciabpgkiiabChecked
import GoSem.Claim
import GoSem.ClaimJoined
import GoSem.ClaimMapViews
import Derived.JoinedTies
import Derived.KernelRfl
namespace Go.Proofs.Ytnpiciabpgkiiab
/- THE CELL 'sum', in the pinned program and in every row, IS THE sha256 OF THE DUMP (.gsa) THAT YtnpiciabpgkiiabProg.lean LOADS. Nothing in Lean hashes anything: it is a label: what it is worth is what the hold of that sum in a sandbox is worth. -/
noncomputable def Try.pinned : Pinned := { name := "ytnpiciabpgkiiab", sum := "ce02dea3164b7574c849110ea7506a3536e3ed55691c9cb8b6961e3417a3c38d", checked := Try.checked }
namespace Rows
def none {H : Type} : Left H := { results := [], args := [] }

/-- 'laws.FnExactGamblerTable': WHATEVER THE INPUT: true; the input reads as it did. -/
def fnExactGamblerTableSpec : ChangeSpec := { name := "fnExactGamblerTable", fn := fun _ => fun
  | [d] => { results := [.lit (.bool true)], args := [d] }
  | _ => none }
def fnExactGamblerTableRow : OpenClaim := { program := "ytnpiciabpgkiiab", sum := "ce02dea3164b7574c849110ea7506a3536e3ed55691c9cb8b6961e3417a3c38d", func := "loop.example/g01131/laws.FnExactGamblerTable", spec := "fnExactGamblerTable", unfollowed := true, recurses := true, plainKeys := false, apart := false }
def FnExactGamblerTableSaid : Prop := fnExactGamblerTableRow.holds Try.pinned (OpenSpec.ofChange fnExactGamblerTableSpec)

/-- ITS FALSE NEIGHBOUR: 'it returns false'. Refute it at one input. -/
def fnExactGamblerTableWrong : ChangeSpec := { name := "fnExactGamblerTable", fn := fun _ => fun
  | [d] => { results := [.lit (.bool false)], args := [d] }
  | _ => none }
def FnExactGamblerTableWrongFalsely : Prop := fnExactGamblerTableRow.holds Try.pinned (OpenSpec.ofChange fnExactGamblerTableWrong)

/-- 'laws.FnExactGamblerMean': WHATEVER THE INPUT: true; the input reads as it did. -/
def fnExactGamblerMeanSpec : ChangeSpec := { name := "fnExactGamblerMean", fn := fun _ => fun
  | [d] => { results := [.lit (.bool true)], args := [d] }
  | _ => none }
def fnExactGamblerMeanRow : OpenClaim := { program := "ytnpiciabpgkiiab", sum := "ce02dea3164b7574c849110ea7506a3536e3ed55691c9cb8b6961e3417a3c38d", func := "loop.example/g01131/laws.FnExactGamblerMean", spec := "fnExactGamblerMean", unfollowed := true, recurses := true, plainKeys := false, apart := false }
def FnExactGamblerMeanSaid : Prop := fnExactGamblerMeanRow.holds Try.pinned (OpenSpec.ofChange fnExactGamblerMeanSpec)

/-- ITS FALSE NEIGHBOUR: 'it returns false'. Refute it at one input. -/
def fnExactGamblerMeanWrong : ChangeSpec := { name := "fnExactGamblerMean", fn := fun _ => fun
  | [d] => { results := [.lit (.bool false)], args := [d] }
  | _ => none }
def FnExactGamblerMeanWrongFalsely : Prop := fnExactGamblerMeanRow.holds Try.pinned (OpenSpec.ofChange fnExactGamblerMeanWrong)

/-- 'laws.FnExactThresholdMean': WHATEVER THE INPUT: true; the input reads as it did. -/
def fnExactThresholdMeanSpec : ChangeSpec := { name := "fnExactThresholdMean", fn := fun _ => fun
  | [d1, d2] => { results := [.lit (.bool true)], args := [d1, d2] }
  | _ => none }
def fnExactThresholdMeanRow : OpenClaim := { program := "ytnpiciabpgkiiab", sum := "ce02dea3164b7574c849110ea7506a3536e3ed55691c9cb8b6961e3417a3c38d", func := "loop.example/g01131/laws.FnExactThresholdMean", spec := "fnExactThresholdMean", unfollowed := true, recurses := true, plainKeys := false, apart := false }
def FnExactThresholdMeanSaid : Prop := fnExactThresholdMeanRow.holds Try.pinned (OpenSpec.ofChange fnExactThresholdMeanSpec)

/-- ITS FALSE NEIGHBOUR: 'it returns false'. Refute it at one input. -/
def fnExactThresholdMeanWrong : ChangeSpec := { name := "fnExactThresholdMean", fn := fun _ => fun
  | [d1, d2] => { results := [.lit (.bool false)], args := [d1, d2] }
  | _ => none }
def FnExactThresholdMeanWrongFalsely : Prop := fnExactThresholdMeanRow.holds Try.pinned (OpenSpec.ofChange fnExactThresholdMeanWrong)

/-- 'laws.FnExactHalfThreshold': WHATEVER THE INPUT: true; the input reads as it did. -/
def fnExactHalfThresholdSpec : ChangeSpec := { name := "fnExactHalfThreshold", fn := fun _ => fun
  | [d] => { results := [.lit (.bool true)], args := [d] }
  | _ => none }
def fnExactHalfThresholdRow : OpenClaim := { program := "ytnpiciabpgkiiab", sum := "ce02dea3164b7574c849110ea7506a3536e3ed55691c9cb8b6961e3417a3c38d", func := "loop.example/g01131/laws.FnExactHalfThreshold", spec := "fnExactHalfThreshold", unfollowed := true, recurses := true, plainKeys := false, apart := false }
def FnExactHalfThresholdSaid : Prop := fnExactHalfThresholdRow.holds Try.pinned (OpenSpec.ofChange fnExactHalfThresholdSpec)

/-- ITS FALSE NEIGHBOUR: 'it returns false'. Refute it at one input. -/
def fnExactHalfThresholdWrong : ChangeSpec := { name := "fnExactHalfThreshold", fn := fun _ => fun
  | [d] => { results := [.lit (.bool false)], args := [d] }
  | _ => none }
def FnExactHalfThresholdWrongFalsely : Prop := fnExactHalfThresholdRow.holds Try.pinned (OpenSpec.ofChange fnExactHalfThresholdWrong)

/-- 'laws.FnExactSecretaryTable': WHATEVER THE INPUT: true; the input reads as it did. -/
def fnExactSecretaryTableSpec : ChangeSpec := { name := "fnExactSecretaryTable", fn := fun _ => fun
  | [d] => { results := [.lit (.bool true)], args := [d] }
  | _ => none }
def fnExactSecretaryTableRow : OpenClaim := { program := "ytnpiciabpgkiiab", sum := "ce02dea3164b7574c849110ea7506a3536e3ed55691c9cb8b6961e3417a3c38d", func := "loop.example/g01131/laws.FnExactSecretaryTable", spec := "fnExactSecretaryTable", unfollowed := true, recurses := true, plainKeys := false, apart := false }
def FnExactSecretaryTableSaid : Prop := fnExactSecretaryTableRow.holds Try.pinned (OpenSpec.ofChange fnExactSecretaryTableSpec)

/-- ITS FALSE NEIGHBOUR: 'it returns false'. Refute it at one input. -/
def fnExactSecretaryTableWrong : ChangeSpec := { name := "fnExactSecretaryTable", fn := fun _ => fun
  | [d] => { results := [.lit (.bool false)], args := [d] }
  | _ => none }
def FnExactSecretaryTableWrongFalsely : Prop := fnExactSecretaryTableRow.holds Try.pinned (OpenSpec.ofChange fnExactSecretaryTableWrong)

/-- 'laws.FnExactRankMean': WHATEVER THE INPUT: true; the input reads as it did. -/
def fnExactRankMeanSpec : ChangeSpec := { name := "fnExactRankMean", fn := fun _ => fun
  | [d] => { results := [.lit (.bool true)], args := [d] }
  | _ => none }
def fnExactRankMeanRow : OpenClaim := { program := "ytnpiciabpgkiiab", sum := "ce02dea3164b7574c849110ea7506a3536e3ed55691c9cb8b6961e3417a3c38d", func := "loop.example/g01131/laws.FnExactRankMean", spec := "fnExactRankMean", unfollowed := true, recurses := true, plainKeys := false, apart := false }
def FnExactRankMeanSaid : Prop := fnExactRankMeanRow.holds Try.pinned (OpenSpec.ofChange fnExactRankMeanSpec)

/-- ITS FALSE NEIGHBOUR: 'it returns false'. Refute it at one input. -/
def fnExactRankMeanWrong : ChangeSpec := { name := "fnExactRankMean", fn := fun _ => fun
  | [d] => { results := [.lit (.bool false)], args := [d] }
  | _ => none }
def FnExactRankMeanWrongFalsely : Prop := fnExactRankMeanRow.holds Try.pinned (OpenSpec.ofChange fnExactRankMeanWrong)

/-- 'laws.FnExactCountWins': WHATEVER THE INPUT: true; the input reads as it did. -/
def fnExactCountWinsSpec : ChangeSpec := { name := "fnExactCountWins", fn := fun _ => fun
  | [d1, d2] => { results := [.lit (.bool true)], args := [d1, d2] }
  | _ => none }
def fnExactCountWinsRow : OpenClaim := { program := "ytnpiciabpgkiiab", sum := "ce02dea3164b7574c849110ea7506a3536e3ed55691c9cb8b6961e3417a3c38d", func := "loop.example/g01131/laws.FnExactCountWins", spec := "fnExactCountWins", recurses := true, plainKeys := false, apart := false }
def FnExactCountWinsSaid : Prop := fnExactCountWinsRow.holds Try.pinned (OpenSpec.ofChange fnExactCountWinsSpec)

/-- ITS FALSE NEIGHBOUR: 'it returns false'. Refute it at one input. -/
def fnExactCountWinsWrong : ChangeSpec := { name := "fnExactCountWins", fn := fun _ => fun
  | [d1, d2] => { results := [.lit (.bool false)], args := [d1, d2] }
  | _ => none }
def FnExactCountWinsWrongFalsely : Prop := fnExactCountWinsRow.holds Try.pinned (OpenSpec.ofChange fnExactCountWinsWrong)

/-- 'laws.FnExactBoxesMean': WHATEVER THE INPUT: true; the input reads as it did. -/
def fnExactBoxesMeanSpec : ChangeSpec := { name := "fnExactBoxesMean", fn := fun _ => fun
  | [d] => { results := [.lit (.bool true)], args := [d] }
  | _ => none }
def fnExactBoxesMeanRow : OpenClaim := { program := "ytnpiciabpgkiiab", sum := "ce02dea3164b7574c849110ea7506a3536e3ed55691c9cb8b6961e3417a3c38d", func := "loop.example/g01131/laws.FnExactBoxesMean", spec := "fnExactBoxesMean", unfollowed := true, recurses := true, plainKeys := false, apart := false }
def FnExactBoxesMeanSaid : Prop := fnExactBoxesMeanRow.holds Try.pinned (OpenSpec.ofChange fnExactBoxesMeanSpec)

/-- ITS FALSE NEIGHBOUR: 'it returns false'. Refute it at one input. -/
def fnExactBoxesMeanWrong : ChangeSpec := { name := "fnExactBoxesMean", fn := fun _ => fun
  | [d] => { results := [.lit (.bool false)], args := [d] }
  | _ => none }
def FnExactBoxesMeanWrongFalsely : Prop := fnExactBoxesMeanRow.holds Try.pinned (OpenSpec.ofChange fnExactBoxesMeanWrong)

/-- 'laws.FnExactBoxesBest': WHATEVER THE INPUT: true; the input reads as it did. -/
def fnExactBoxesBestSpec : ChangeSpec := { name := "fnExactBoxesBest", fn := fun _ => fun
  | [d] => { results := [.lit (.bool true)], args := [d] }
  | _ => none }
def fnExactBoxesBestRow : OpenClaim := { program := "ytnpiciabpgkiiab", sum := "ce02dea3164b7574c849110ea7506a3536e3ed55691c9cb8b6961e3417a3c38d", func := "loop.example/g01131/laws.FnExactBoxesBest", spec := "fnExactBoxesBest", unfollowed := true, recurses := true, plainKeys := false, apart := false }
def FnExactBoxesBestSaid : Prop := fnExactBoxesBestRow.holds Try.pinned (OpenSpec.ofChange fnExactBoxesBestSpec)

/-- ITS FALSE NEIGHBOUR: 'it returns false'. Refute it at one input. -/
def fnExactBoxesBestWrong : ChangeSpec := { name := "fnExactBoxesBest", fn := fun _ => fun
  | [d] => { results := [.lit (.bool false)], args := [d] }
  | _ => none }
def FnExactBoxesBestWrongFalsely : Prop := fnExactBoxesBestRow.holds Try.pinned (OpenSpec.ofChange fnExactBoxesBestWrong)

/- THE SECOND FORM. 'bulk': how many values and letters a reading holds, each counted each time it is reached (what is shared counts as often as it is met; a slice's spare places count too). A statement '..UptoSaid' is the law's where the arguments, and the package variables that the reading takes, are together of bulk at most 1048576: NARROWER than '..Said'. Prove '..Said' where nothing that the law and all that it calls make is longer than what came in: it says more and counts as full. Else prove '..UptoSaid'. A law counts once. -/
mutual
def uptoBulk {H : Type} : DataW H → Nat
  | .lit (.string bytes) => bytes.length + 1
  | .lit _ => 1
  | .nil => 1
  | .ptr d => uptoBulk d + 1
  | .slice elems spare => uptoBulkAll elems + uptoBulkAll spare + 1
  | .agg parts => uptoBulkAll parts + 1
  | .iface _ d => uptoBulk d + 1
  | .map entries => uptoBulkEntries entries + 1
  | .held _ => 1
def uptoBulkAll {H : Type} : List (DataW H) → Nat
  | [] => 0
  | d :: r => uptoBulk d + uptoBulkAll r
def uptoBulkEntries {H : Type} : List (Lit × DataW H) → Nat
  | [] => 0
  | x :: r => uptoBulkEntry x + uptoBulkEntries r
def uptoBulkEntry {H : Type} : Lit × DataW H → Nat
  | (.string bytes, d) => bytes.length + uptoBulk d + 1
  | (_, d) => uptoBulk d + 1
 end
def uptoSmall : (H : Type) → List (DataW H) → Bool := fun _ ds => decide (uptoBulkAll ds ≤ 1048576)
def OpenSpec.upto (s : _root_.Go.ChangeSpec) : _root_.Go.OpenSpec := { _root_.Go.OpenSpec.ofChange s with cond := some uptoSmall }

/-- 'laws.FnExactGamblerTable', WHERE WHAT IT READS IS OF BULK AT MOST 1048576: true; the input reads as it did. -/
def fnExactGamblerTableUptoRow : OpenClaim := { program := "ytnpiciabpgkiiab", sum := "ce02dea3164b7574c849110ea7506a3536e3ed55691c9cb8b6961e3417a3c38d", func := "loop.example/g01131/laws.FnExactGamblerTable", spec := "fnExactGamblerTable", unfollowed := true, recurses := true, plainKeys := false, apart := false, narrowed := true }
def FnExactGamblerTableUptoSaid : Prop := fnExactGamblerTableUptoRow.holds Try.pinned (OpenSpec.upto fnExactGamblerTableSpec)

/-- 'laws.FnExactGamblerMean', WHERE WHAT IT READS IS OF BULK AT MOST 1048576: true; the input reads as it did. -/
def fnExactGamblerMeanUptoRow : OpenClaim := { program := "ytnpiciabpgkiiab", sum := "ce02dea3164b7574c849110ea7506a3536e3ed55691c9cb8b6961e3417a3c38d", func := "loop.example/g01131/laws.FnExactGamblerMean", spec := "fnExactGamblerMean", unfollowed := true, recurses := true, plainKeys := false, apart := false, narrowed := true }
def FnExactGamblerMeanUptoSaid : Prop := fnExactGamblerMeanUptoRow.holds Try.pinned (OpenSpec.upto fnExactGamblerMeanSpec)

/-- 'laws.FnExactThresholdMean', WHERE WHAT IT READS IS OF BULK AT MOST 1048576: true; the input reads as it did. -/
def fnExactThresholdMeanUptoRow : OpenClaim := { program := "ytnpiciabpgkiiab", sum := "ce02dea3164b7574c849110ea7506a3536e3ed55691c9cb8b6961e3417a3c38d", func := "loop.example/g01131/laws.FnExactThresholdMean", spec := "fnExactThresholdMean", unfollowed := true, recurses := true, plainKeys := false, apart := false, narrowed := true }
def FnExactThresholdMeanUptoSaid : Prop := fnExactThresholdMeanUptoRow.holds Try.pinned (OpenSpec.upto fnExactThresholdMeanSpec)

/-- 'laws.FnExactHalfThreshold', WHERE WHAT IT READS IS OF BULK AT MOST 1048576: true; the input reads as it did. -/
def fnExactHalfThresholdUptoRow : OpenClaim := { program := "ytnpiciabpgkiiab", sum := "ce02dea3164b7574c849110ea7506a3536e3ed55691c9cb8b6961e3417a3c38d", func := "loop.example/g01131/laws.FnExactHalfThreshold", spec := "fnExactHalfThreshold", unfollowed := true, recurses := true, plainKeys := false, apart := false, narrowed := true }
def FnExactHalfThresholdUptoSaid : Prop := fnExactHalfThresholdUptoRow.holds Try.pinned (OpenSpec.upto fnExactHalfThresholdSpec)

/-- 'laws.FnExactSecretaryTable', WHERE WHAT IT READS IS OF BULK AT MOST 1048576: true; the input reads as it did. -/
def fnExactSecretaryTableUptoRow : OpenClaim := { program := "ytnpiciabpgkiiab", sum := "ce02dea3164b7574c849110ea7506a3536e3ed55691c9cb8b6961e3417a3c38d", func := "loop.example/g01131/laws.FnExactSecretaryTable", spec := "fnExactSecretaryTable", unfollowed := true, recurses := true, plainKeys := false, apart := false, narrowed := true }
def FnExactSecretaryTableUptoSaid : Prop := fnExactSecretaryTableUptoRow.holds Try.pinned (OpenSpec.upto fnExactSecretaryTableSpec)

/-- 'laws.FnExactRankMean', WHERE WHAT IT READS IS OF BULK AT MOST 1048576: true; the input reads as it did. -/
def fnExactRankMeanUptoRow : OpenClaim := { program := "ytnpiciabpgkiiab", sum := "ce02dea3164b7574c849110ea7506a3536e3ed55691c9cb8b6961e3417a3c38d", func := "loop.example/g01131/laws.FnExactRankMean", spec := "fnExactRankMean", unfollowed := true, recurses := true, plainKeys := false, apart := false, narrowed := true }
def FnExactRankMeanUptoSaid : Prop := fnExactRankMeanUptoRow.holds Try.pinned (OpenSpec.upto fnExactRankMeanSpec)

/-- 'laws.FnExactCountWins', WHERE WHAT IT READS IS OF BULK AT MOST 1048576: true; the input reads as it did. -/
def fnExactCountWinsUptoRow : OpenClaim := { program := "ytnpiciabpgkiiab", sum := "ce02dea3164b7574c849110ea7506a3536e3ed55691c9cb8b6961e3417a3c38d", func := "loop.example/g01131/laws.FnExactCountWins", spec := "fnExactCountWins", recurses := true, plainKeys := false, apart := false, narrowed := true }
def FnExactCountWinsUptoSaid : Prop := fnExactCountWinsUptoRow.holds Try.pinned (OpenSpec.upto fnExactCountWinsSpec)

/-- 'laws.FnExactBoxesMean', WHERE WHAT IT READS IS OF BULK AT MOST 1048576: true; the input reads as it did. -/
def fnExactBoxesMeanUptoRow : OpenClaim := { program := "ytnpiciabpgkiiab", sum := "ce02dea3164b7574c849110ea7506a3536e3ed55691c9cb8b6961e3417a3c38d", func := "loop.example/g01131/laws.FnExactBoxesMean", spec := "fnExactBoxesMean", unfollowed := true, recurses := true, plainKeys := false, apart := false, narrowed := true }
def FnExactBoxesMeanUptoSaid : Prop := fnExactBoxesMeanUptoRow.holds Try.pinned (OpenSpec.upto fnExactBoxesMeanSpec)

/-- 'laws.FnExactBoxesBest', WHERE WHAT IT READS IS OF BULK AT MOST 1048576: true; the input reads as it did. -/
def fnExactBoxesBestUptoRow : OpenClaim := { program := "ytnpiciabpgkiiab", sum := "ce02dea3164b7574c849110ea7506a3536e3ed55691c9cb8b6961e3417a3c38d", func := "loop.example/g01131/laws.FnExactBoxesBest", spec := "fnExactBoxesBest", unfollowed := true, recurses := true, plainKeys := false, apart := false, narrowed := true }
def FnExactBoxesBestUptoSaid : Prop := fnExactBoxesBestUptoRow.holds Try.pinned (OpenSpec.upto fnExactBoxesBestSpec)

end Rows
end Go.Proofs.Ytnpiciabpgkiiab
