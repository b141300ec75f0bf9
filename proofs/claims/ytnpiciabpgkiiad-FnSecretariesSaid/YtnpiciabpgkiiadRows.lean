/-
  No cell of these rows narrows 'for every input' (looked for: loops, veiled, ifaces, maps, wideKeys, modest, calm, conditions, laid).
  DERIVED. THE GIVEN ROWS OF THIS SEAT. 9 by the template 'for every input the law returns true; each argument reads behind the call as it read before'; 0 by the template 'total and deterministic' (their statements: YtnpiciabpgkiiadTotals.lean).
  GIVEN WITH THE SEED: the statements are not yours to turn. If you find one false, say at which input.
  Laid BY PROGRAM, IN A SANDBOX (cutbox-rows.mjs): the forced cells as the released guide's own fill.sh prints them over the translation 53bc8ed918b3e1d6… (all of the seat's roots in one cut). By AI agents, Wed Nov 11 2026. No macro, syntax, notation, axiom, sorry.
-/
import Derived.Test.YtnpiciabpgkiiadChecked
import GoSem.Claim
import GoSem.ClaimJoined
import GoSem.ClaimMapViews
import Derived.JoinedTies
import Derived.KernelRfl
namespace Go.Proofs.Ytnpiciabpgkiiad
/- THE CELL 'sum', in the pinned program and in every row, IS THE sha256 OF THE DUMP (.gsa) THAT YtnpiciabpgkiiadProg.lean LOADS. Nothing in Lean hashes anything: it is a label: what it is worth is what the hold of that sum in a sandbox is worth. -/
noncomputable def Try.pinned : Pinned := { name := "ytnpiciabpgkiiad", sum := "53bc8ed918b3e1d61f3dfa7666db36f17e11fb29d95deb8874b6f9ffd1e6525f", checked := Try.checked }
namespace Rows
def none {H : Type} : Left H := { results := [], args := [] }

/-- 'laws.FnPaths': WHATEVER THE INPUT: true; the input reads as it did. -/
def fnPathsSpec : ChangeSpec := { name := "fnPaths", fn := fun _ => fun
  | [d] => { results := [.lit (.bool true)], args := [d] }
  | _ => none }
def fnPathsRow : OpenClaim := { program := "ytnpiciabpgkiiad", sum := "53bc8ed918b3e1d61f3dfa7666db36f17e11fb29d95deb8874b6f9ffd1e6525f", func := "loop.example/g01131/laws.FnPaths", spec := "fnPaths", plainKeys := false, apart := false }
def FnPathsSaid : Prop := fnPathsRow.holds Try.pinned (OpenSpec.ofChange fnPathsSpec)

/-- ITS FALSE NEIGHBOUR: 'it returns false'. Refute it at one input. -/
def fnPathsWrong : ChangeSpec := { name := "fnPaths", fn := fun _ => fun
  | [d] => { results := [.lit (.bool false)], args := [d] }
  | _ => none }
def FnPathsWrongFalsely : Prop := fnPathsRow.holds Try.pinned (OpenSpec.ofChange fnPathsWrong)

/-- 'laws.FnReturns': WHATEVER THE INPUT: true; the input reads as it did. -/
def fnReturnsSpec : ChangeSpec := { name := "fnReturns", fn := fun _ => fun
  | [d] => { results := [.lit (.bool true)], args := [d] }
  | _ => none }
def fnReturnsRow : OpenClaim := { program := "ytnpiciabpgkiiad", sum := "53bc8ed918b3e1d61f3dfa7666db36f17e11fb29d95deb8874b6f9ffd1e6525f", func := "loop.example/g01131/laws.FnReturns", spec := "fnReturns", plainKeys := false, apart := false }
def FnReturnsSaid : Prop := fnReturnsRow.holds Try.pinned (OpenSpec.ofChange fnReturnsSpec)

/-- ITS FALSE NEIGHBOUR: 'it returns false'. Refute it at one input. -/
def fnReturnsWrong : ChangeSpec := { name := "fnReturns", fn := fun _ => fun
  | [d] => { results := [.lit (.bool false)], args := [d] }
  | _ => none }
def FnReturnsWrongFalsely : Prop := fnReturnsRow.holds Try.pinned (OpenSpec.ofChange fnReturnsWrong)

/-- 'laws.FnRuin': WHATEVER THE INPUT: true; the input reads as it did. -/
def fnRuinSpec : ChangeSpec := { name := "fnRuin", fn := fun _ => fun
  | [d] => { results := [.lit (.bool true)], args := [d] }
  | _ => none }
def fnRuinRow : OpenClaim := { program := "ytnpiciabpgkiiad", sum := "53bc8ed918b3e1d61f3dfa7666db36f17e11fb29d95deb8874b6f9ffd1e6525f", func := "loop.example/g01131/laws.FnRuin", spec := "fnRuin", unfollowed := true, recurses := true, plainKeys := false, apart := false }
def FnRuinSaid : Prop := fnRuinRow.holds Try.pinned (OpenSpec.ofChange fnRuinSpec)

/-- ITS FALSE NEIGHBOUR: 'it returns false'. Refute it at one input. -/
def fnRuinWrong : ChangeSpec := { name := "fnRuin", fn := fun _ => fun
  | [d] => { results := [.lit (.bool false)], args := [d] }
  | _ => none }
def FnRuinWrongFalsely : Prop := fnRuinRow.holds Try.pinned (OpenSpec.ofChange fnRuinWrong)

/-- 'laws.FnSecretaries': WHATEVER THE INPUT: true; the input reads as it did. -/
def fnSecretariesSpec : ChangeSpec := { name := "fnSecretaries", fn := fun _ => fun
  | [d] => { results := [.lit (.bool true)], args := [d] }
  | _ => none }
def fnSecretariesRow : OpenClaim := { program := "ytnpiciabpgkiiad", sum := "53bc8ed918b3e1d61f3dfa7666db36f17e11fb29d95deb8874b6f9ffd1e6525f", func := "loop.example/g01131/laws.FnSecretaries", spec := "fnSecretaries", unfollowed := true, recurses := true, plainKeys := false, apart := false }
def FnSecretariesSaid : Prop := fnSecretariesRow.holds Try.pinned (OpenSpec.ofChange fnSecretariesSpec)

/-- ITS FALSE NEIGHBOUR: 'it returns false'. Refute it at one input. -/
def fnSecretariesWrong : ChangeSpec := { name := "fnSecretaries", fn := fun _ => fun
  | [d] => { results := [.lit (.bool false)], args := [d] }
  | _ => none }
def FnSecretariesWrongFalsely : Prop := fnSecretariesRow.holds Try.pinned (OpenSpec.ofChange fnSecretariesWrong)

/-- 'laws.FnProphets': WHATEVER THE INPUT: true; the input reads as it did. -/
def fnProphetsSpec : ChangeSpec := { name := "fnProphets", fn := fun _ => fun
  | [d] => { results := [.lit (.bool true)], args := [d] }
  | _ => none }
def fnProphetsRow : OpenClaim := { program := "ytnpiciabpgkiiad", sum := "53bc8ed918b3e1d61f3dfa7666db36f17e11fb29d95deb8874b6f9ffd1e6525f", func := "loop.example/g01131/laws.FnProphets", spec := "fnProphets", unfollowed := true, recurses := true, plainKeys := false, apart := false }
def FnProphetsSaid : Prop := fnProphetsRow.holds Try.pinned (OpenSpec.ofChange fnProphetsSpec)

/-- ITS FALSE NEIGHBOUR: 'it returns false'. Refute it at one input. -/
def fnProphetsWrong : ChangeSpec := { name := "fnProphets", fn := fun _ => fun
  | [d] => { results := [.lit (.bool false)], args := [d] }
  | _ => none }
def FnProphetsWrongFalsely : Prop := fnProphetsRow.holds Try.pinned (OpenSpec.ofChange fnProphetsWrong)

/-- 'laws.FnBoxes': WHATEVER THE INPUT: true; the input reads as it did. -/
def fnBoxesSpec : ChangeSpec := { name := "fnBoxes", fn := fun _ => fun
  | [d] => { results := [.lit (.bool true)], args := [d] }
  | _ => none }
def fnBoxesRow : OpenClaim := { program := "ytnpiciabpgkiiad", sum := "53bc8ed918b3e1d61f3dfa7666db36f17e11fb29d95deb8874b6f9ffd1e6525f", func := "loop.example/g01131/laws.FnBoxes", spec := "fnBoxes", unfollowed := true, recurses := true, plainKeys := false, apart := false }
def FnBoxesSaid : Prop := fnBoxesRow.holds Try.pinned (OpenSpec.ofChange fnBoxesSpec)

/-- ITS FALSE NEIGHBOUR: 'it returns false'. Refute it at one input. -/
def fnBoxesWrong : ChangeSpec := { name := "fnBoxes", fn := fun _ => fun
  | [d] => { results := [.lit (.bool false)], args := [d] }
  | _ => none }
def FnBoxesWrongFalsely : Prop := fnBoxesRow.holds Try.pinned (OpenSpec.ofChange fnBoxesWrong)

/-- 'laws.FnExactBestLevel': WHATEVER THE INPUT: true; the input reads as it did. -/
def fnExactBestLevelSpec : ChangeSpec := { name := "fnExactBestLevel", fn := fun _ => fun
  | [d1, d2] => { results := [.lit (.bool true)], args := [d1, d2] }
  | _ => none }
def fnExactBestLevelRow : OpenClaim := { program := "ytnpiciabpgkiiad", sum := "53bc8ed918b3e1d61f3dfa7666db36f17e11fb29d95deb8874b6f9ffd1e6525f", func := "loop.example/g01131/laws.FnExactBestLevel", spec := "fnExactBestLevel", unfollowed := true, recurses := true, plainKeys := false, apart := false }
def FnExactBestLevelSaid : Prop := fnExactBestLevelRow.holds Try.pinned (OpenSpec.ofChange fnExactBestLevelSpec)

/-- ITS FALSE NEIGHBOUR: 'it returns false'. Refute it at one input. -/
def fnExactBestLevelWrong : ChangeSpec := { name := "fnExactBestLevel", fn := fun _ => fun
  | [d1, d2] => { results := [.lit (.bool false)], args := [d1, d2] }
  | _ => none }
def FnExactBestLevelWrongFalsely : Prop := fnExactBestLevelRow.holds Try.pinned (OpenSpec.ofChange fnExactBestLevelWrong)

/-- 'laws.FnExactSeerMean': WHATEVER THE INPUT: true; the input reads as it did. -/
def fnExactSeerMeanSpec : ChangeSpec := { name := "fnExactSeerMean", fn := fun _ => fun
  | [d1, d2] => { results := [.lit (.bool true)], args := [d1, d2] }
  | _ => none }
def fnExactSeerMeanRow : OpenClaim := { program := "ytnpiciabpgkiiad", sum := "53bc8ed918b3e1d61f3dfa7666db36f17e11fb29d95deb8874b6f9ffd1e6525f", func := "loop.example/g01131/laws.FnExactSeerMean", spec := "fnExactSeerMean", unfollowed := true, recurses := true, plainKeys := false, apart := false }
def FnExactSeerMeanSaid : Prop := fnExactSeerMeanRow.holds Try.pinned (OpenSpec.ofChange fnExactSeerMeanSpec)

/-- ITS FALSE NEIGHBOUR: 'it returns false'. Refute it at one input. -/
def fnExactSeerMeanWrong : ChangeSpec := { name := "fnExactSeerMean", fn := fun _ => fun
  | [d1, d2] => { results := [.lit (.bool false)], args := [d1, d2] }
  | _ => none }
def FnExactSeerMeanWrongFalsely : Prop := fnExactSeerMeanRow.holds Try.pinned (OpenSpec.ofChange fnExactSeerMeanWrong)

/-- 'laws.FnExactBalanceBound': WHATEVER THE INPUT: true; the input reads as it did. -/
def fnExactBalanceBoundSpec : ChangeSpec := { name := "fnExactBalanceBound", fn := fun _ => fun
  | [d1, d2, d3] => { results := [.lit (.bool true)], args := [d1, d2, d3] }
  | _ => none }
def fnExactBalanceBoundRow : OpenClaim := { program := "ytnpiciabpgkiiad", sum := "53bc8ed918b3e1d61f3dfa7666db36f17e11fb29d95deb8874b6f9ffd1e6525f", func := "loop.example/g01131/laws.FnExactBalanceBound", spec := "fnExactBalanceBound", unfollowed := true, recurses := true, plainKeys := false, apart := false }
def FnExactBalanceBoundSaid : Prop := fnExactBalanceBoundRow.holds Try.pinned (OpenSpec.ofChange fnExactBalanceBoundSpec)

/-- ITS FALSE NEIGHBOUR: 'it returns false'. Refute it at one input. -/
def fnExactBalanceBoundWrong : ChangeSpec := { name := "fnExactBalanceBound", fn := fun _ => fun
  | [d1, d2, d3] => { results := [.lit (.bool false)], args := [d1, d2, d3] }
  | _ => none }
def FnExactBalanceBoundWrongFalsely : Prop := fnExactBalanceBoundRow.holds Try.pinned (OpenSpec.ofChange fnExactBalanceBoundWrong)

/- THE SECOND FORM. 'bulk': how many values and letters a reading holds, each counted each time it is reached (what is shared counts as often as it is met; a slice's spare places count too). A statement '..UptoSaid' is the law's where the arguments, and the package variables that the reading takes, are together of bulk at most 1048576: NARROWER than '..Said'. Prove '..Said' where nothing that the law and all that it calls make is longer than what came in: it says more and counts as full. Else prove '..UptoSaid'. A law counts once. -/
mutual
def uptoBulk {H : Type} : DataW H → Nat
  | .lit (.string bytes) => bytes.length + 1
  | .lit _ => 1
  | .nil => 1
  | .ptr d => uptoBulk d + 1
  | .slice elems spare => uptoBulkAll elems + uptoBulkAll spare + 1
  | .agg parts => uptoBulkAll parts + 1
  | .iface _ d => uptoBulk d + 1
  | .map entries => uptoBulkEntries entries + 1
  | .held _ => 1
def uptoBulkAll {H : Type} : List (DataW H) → Nat
  | [] => 0
  | d :: r => uptoBulk d + uptoBulkAll r
def uptoBulkEntries {H : Type} : List (Lit × DataW H) → Nat
  | [] => 0
  | x :: r => uptoBulkEntry x + uptoBulkEntries r
def uptoBulkEntry {H : Type} : Lit × DataW H → Nat
  | (.string bytes, d) => bytes.length + uptoBulk d + 1
  | (_, d) => uptoBulk d + 1
 end
def uptoSmall : (H : Type) → List (DataW H) → Bool := fun _ ds => decide (uptoBulkAll ds ≤ 1048576)
def OpenSpec.upto (s : _root_.Go.ChangeSpec) : _root_.Go.OpenSpec := { _root_.Go.OpenSpec.ofChange s with cond := some uptoSmall }

/-- 'laws.FnPaths', WHERE WHAT IT READS IS OF BULK AT MOST 1048576: true; the input reads as it did. -/
def fnPathsUptoRow : OpenClaim := { program := "ytnpiciabpgkiiad", sum := "53bc8ed918b3e1d61f3dfa7666db36f17e11fb29d95deb8874b6f9ffd1e6525f", func := "loop.example/g01131/laws.FnPaths", spec := "fnPaths", plainKeys := false, apart := false, narrowed := true }
def FnPathsUptoSaid : Prop := fnPathsUptoRow.holds Try.pinned (OpenSpec.upto fnPathsSpec)

/-- 'laws.FnReturns', WHERE WHAT IT READS IS OF BULK AT MOST 1048576: true; the input reads as it did. -/
def fnReturnsUptoRow : OpenClaim := { program := "ytnpiciabpgkiiad", sum := "53bc8ed918b3e1d61f3dfa7666db36f17e11fb29d95deb8874b6f9ffd1e6525f", func := "loop.example/g01131/laws.FnReturns", spec := "fnReturns", plainKeys := false, apart := false, narrowed := true }
def FnReturnsUptoSaid : Prop := fnReturnsUptoRow.holds Try.pinned (OpenSpec.upto fnReturnsSpec)

/-- 'laws.FnRuin', WHERE WHAT IT READS IS OF BULK AT MOST 1048576: true; the input reads as it did. -/
def fnRuinUptoRow : OpenClaim := { program := "ytnpiciabpgkiiad", sum := "53bc8ed918b3e1d61f3dfa7666db36f17e11fb29d95deb8874b6f9ffd1e6525f", func := "loop.example/g01131/laws.FnRuin", spec := "fnRuin", unfollowed := true, recurses := true, plainKeys := false, apart := false, narrowed := true }
def FnRuinUptoSaid : Prop := fnRuinUptoRow.holds Try.pinned (OpenSpec.upto fnRuinSpec)

/-- 'laws.FnSecretaries', WHERE WHAT IT READS IS OF BULK AT MOST 1048576: true; the input reads as it did. -/
def fnSecretariesUptoRow : OpenClaim := { program := "ytnpiciabpgkiiad", sum := "53bc8ed918b3e1d61f3dfa7666db36f17e11fb29d95deb8874b6f9ffd1e6525f", func := "loop.example/g01131/laws.FnSecretaries", spec := "fnSecretaries", unfollowed := true, recurses := true, plainKeys := false, apart := false, narrowed := true }
def FnSecretariesUptoSaid : Prop := fnSecretariesUptoRow.holds Try.pinned (OpenSpec.upto fnSecretariesSpec)

/-- 'laws.FnProphets', WHERE WHAT IT READS IS OF BULK AT MOST 1048576: true; the input reads as it did. -/
def fnProphetsUptoRow : OpenClaim := { program := "ytnpiciabpgkiiad", sum := "53bc8ed918b3e1d61f3dfa7666db36f17e11fb29d95deb8874b6f9ffd1e6525f", func := "loop.example/g01131/laws.FnProphets", spec := "fnProphets", unfollowed := true, recurses := true, plainKeys := false, apart := false, narrowed := true }
def FnProphetsUptoSaid : Prop := fnProphetsUptoRow.holds Try.pinned (OpenSpec.upto fnProphetsSpec)

/-- 'laws.FnBoxes', WHERE WHAT IT READS IS OF BULK AT MOST 1048576: true; the input reads as it did. -/
def fnBoxesUptoRow : OpenClaim := { program := "ytnpiciabpgkiiad", sum := "53bc8ed918b3e1d61f3dfa7666db36f17e11fb29d95deb8874b6f9ffd1e6525f", func := "loop.example/g01131/laws.FnBoxes", spec := "fnBoxes", unfollowed := true, recurses := true, plainKeys := false, apart := false, narrowed := true }
def FnBoxesUptoSaid : Prop := fnBoxesUptoRow.holds Try.pinned (OpenSpec.upto fnBoxesSpec)

/-- 'laws.FnExactBestLevel', WHERE WHAT IT READS IS OF BULK AT MOST 1048576: true; the input reads as it did. -/
def fnExactBestLevelUptoRow : OpenClaim := { program := "ytnpiciabpgkiiad", sum := "53bc8ed918b3e1d61f3dfa7666db36f17e11fb29d95deb8874b6f9ffd1e6525f", func := "loop.example/g01131/laws.FnExactBestLevel", spec := "fnExactBestLevel", unfollowed := true, recurses := true, plainKeys := false, apart := false, narrowed := true }
def FnExactBestLevelUptoSaid : Prop := fnExactBestLevelUptoRow.holds Try.pinned (OpenSpec.upto fnExactBestLevelSpec)

/-- 'laws.FnExactSeerMean', WHERE WHAT IT READS IS OF BULK AT MOST 1048576: true; the input reads as it did. -/
def fnExactSeerMeanUptoRow : OpenClaim := { program := "ytnpiciabpgkiiad", sum := "53bc8ed918b3e1d61f3dfa7666db36f17e11fb29d95deb8874b6f9ffd1e6525f", func := "loop.example/g01131/laws.FnExactSeerMean", spec := "fnExactSeerMean", unfollowed := true, recurses := true, plainKeys := false, apart := false, narrowed := true }
def FnExactSeerMeanUptoSaid : Prop := fnExactSeerMeanUptoRow.holds Try.pinned (OpenSpec.upto fnExactSeerMeanSpec)

/-- 'laws.FnExactBalanceBound', WHERE WHAT IT READS IS OF BULK AT MOST 1048576: true; the input reads as it did. -/
def fnExactBalanceBoundUptoRow : OpenClaim := { program := "ytnpiciabpgkiiad", sum := "53bc8ed918b3e1d61f3dfa7666db36f17e11fb29d95deb8874b6f9ffd1e6525f", func := "loop.example/g01131/laws.FnExactBalanceBound", spec := "fnExactBalanceBound", unfollowed := true, recurses := true, plainKeys := false, apart := false, narrowed := true }
def FnExactBalanceBoundUptoSaid : Prop := fnExactBalanceBoundUptoRow.holds Try.pinned (OpenSpec.upto fnExactBalanceBoundSpec)

end Rows
end Go.Proofs.Ytnpiciabpgkiiad
