/-
  No cell of these rows narrows 'for every input' (looked for: loops, veiled, ifaces, maps, wideKeys, modest, calm, conditions, laid).
  DERIVED. THE GIVEN ROWS OF THIS SEAT. 12 by the template 'for every input the law returns true; each argument reads behind the call as it read before'; 0 by the template 'total and deterministic' (their statements: YtadelnffjfiipaaTotals.lean).
  GIVEN WITH THE SEED: the statements are not yours to turn. If you find one false, say at which input.
  Laid BY PROGRAM, IN A SANDBOX (cutbox-rows.mjs): the forced cells as the released guide's own fill.sh prints them over the translation ea74d57fa4bc3d90… (all of the seat's roots in one cut). By AI agents, Wed Nov 11 2026. No macro, syntax, notation, axiom, sorry.
-/
import Derived.Test.YtadelnffjfiipaaChecked
import GoSem.Claim
import GoSem.ClaimJoined
import GoSem.ClaimMapViews
import Derived.JoinedTies
import Derived.KernelRfl
namespace Go.Proofs.Ytadelnffjfiipaa
/- THE CELL 'sum', in the pinned program and in every row, IS THE sha256 OF THE DUMP (.gsa) THAT YtadelnffjfiipaaProg.lean LOADS. Nothing in Lean hashes anything: it is a label: what it is worth is what the hold of that sum in a sandbox is worth. -/
noncomputable def Try.pinned : Pinned := { name := "ytadelnffjfiipaa", sum := "ea74d57fa4bc3d908bc8dcc9ef0320bdb09db78577a2e0d82e236ea93ef6b3c2", checked := Try.checked }
namespace Rows
def none {H : Type} : Left H := { results := [], args := [] }

/-- 'laws.FnExactIsProcess': WHATEVER THE INPUT: true; the input reads as it did. -/
def fnExactIsProcessSpec : ChangeSpec := { name := "fnExactIsProcess", fn := fun _ => fun
  | [d1, d2] => { results := [.lit (.bool true)], args := [d1, d2] }
  | _ => none }
def fnExactIsProcessRow : OpenClaim := { program := "ytadelnffjfiipaa", sum := "ea74d57fa4bc3d908bc8dcc9ef0320bdb09db78577a2e0d82e236ea93ef6b3c2", func := "loop.example/g01131/laws.FnExactIsProcess", spec := "fnExactIsProcess", unfollowed := true, recurses := true, apart := false }
def FnExactIsProcessSaid : Prop := fnExactIsProcessRow.holds Try.pinned (OpenSpec.ofChange fnExactIsProcessSpec)

/-- ITS FALSE NEIGHBOUR: 'it returns false'. Refute it at one input. -/
def fnExactIsProcessWrong : ChangeSpec := { name := "fnExactIsProcess", fn := fun _ => fun
  | [d1, d2] => { results := [.lit (.bool false)], args := [d1, d2] }
  | _ => none }
def FnExactIsProcessWrongFalsely : Prop := fnExactIsProcessRow.holds Try.pinned (OpenSpec.ofChange fnExactIsProcessWrong)

/-- 'laws.FnExactDriftsOf': WHATEVER THE INPUT: true; the input reads as it did. -/
def fnExactDriftsOfSpec : ChangeSpec := { name := "fnExactDriftsOf", fn := fun _ => fun
  | [d1, d2] => { results := [.lit (.bool true)], args := [d1, d2] }
  | _ => none }
def fnExactDriftsOfRow : OpenClaim := { program := "ytadelnffjfiipaa", sum := "ea74d57fa4bc3d908bc8dcc9ef0320bdb09db78577a2e0d82e236ea93ef6b3c2", func := "loop.example/g01131/laws.FnExactDriftsOf", spec := "fnExactDriftsOf", unfollowed := true, recurses := true, apart := false }
def FnExactDriftsOfSaid : Prop := fnExactDriftsOfRow.holds Try.pinned (OpenSpec.ofChange fnExactDriftsOfSpec)

/-- ITS FALSE NEIGHBOUR: 'it returns false'. Refute it at one input. -/
def fnExactDriftsOfWrong : ChangeSpec := { name := "fnExactDriftsOf", fn := fun _ => fun
  | [d1, d2] => { results := [.lit (.bool false)], args := [d1, d2] }
  | _ => none }
def FnExactDriftsOfWrongFalsely : Prop := fnExactDriftsOfRow.holds Try.pinned (OpenSpec.ofChange fnExactDriftsOfWrong)

/-- 'laws.FnExactIsFairProcess': WHATEVER THE INPUT: true; the input reads as it did. -/
def fnExactIsFairProcessSpec : ChangeSpec := { name := "fnExactIsFairProcess", fn := fun _ => fun
  | [d1, d2] => { results := [.lit (.bool true)], args := [d1, d2] }
  | _ => none }
def fnExactIsFairProcessRow : OpenClaim := { program := "ytadelnffjfiipaa", sum := "ea74d57fa4bc3d908bc8dcc9ef0320bdb09db78577a2e0d82e236ea93ef6b3c2", func := "loop.example/g01131/laws.FnExactIsFairProcess", spec := "fnExactIsFairProcess", unfollowed := true, recurses := true, apart := false }
def FnExactIsFairProcessSaid : Prop := fnExactIsFairProcessRow.holds Try.pinned (OpenSpec.ofChange fnExactIsFairProcessSpec)

/-- ITS FALSE NEIGHBOUR: 'it returns false'. Refute it at one input. -/
def fnExactIsFairProcessWrong : ChangeSpec := { name := "fnExactIsFairProcess", fn := fun _ => fun
  | [d1, d2] => { results := [.lit (.bool false)], args := [d1, d2] }
  | _ => none }
def FnExactIsFairProcessWrongFalsely : Prop := fnExactIsFairProcessRow.holds Try.pinned (OpenSpec.ofChange fnExactIsFairProcessWrong)

/-- 'laws.FnExactIsFalling': WHATEVER THE INPUT: true; the input reads as it did. -/
def fnExactIsFallingSpec : ChangeSpec := { name := "fnExactIsFalling", fn := fun _ => fun
  | [d1, d2] => { results := [.lit (.bool true)], args := [d1, d2] }
  | _ => none }
def fnExactIsFallingRow : OpenClaim := { program := "ytadelnffjfiipaa", sum := "ea74d57fa4bc3d908bc8dcc9ef0320bdb09db78577a2e0d82e236ea93ef6b3c2", func := "loop.example/g01131/laws.FnExactIsFalling", spec := "fnExactIsFalling", unfollowed := true, recurses := true, apart := false }
def FnExactIsFallingSaid : Prop := fnExactIsFallingRow.holds Try.pinned (OpenSpec.ofChange fnExactIsFallingSpec)

/-- ITS FALSE NEIGHBOUR: 'it returns false'. Refute it at one input. -/
def fnExactIsFallingWrong : ChangeSpec := { name := "fnExactIsFalling", fn := fun _ => fun
  | [d1, d2] => { results := [.lit (.bool false)], args := [d1, d2] }
  | _ => none }
def FnExactIsFallingWrongFalsely : Prop := fnExactIsFallingRow.holds Try.pinned (OpenSpec.ofChange fnExactIsFallingWrong)

/-- 'laws.FnExactFairProcess': WHATEVER THE INPUT: true; the input reads as it did. -/
def fnExactFairProcessSpec : ChangeSpec := { name := "fnExactFairProcess", fn := fun _ => fun
  | [d1, d2] => { results := [.lit (.bool true)], args := [d1, d2] }
  | _ => none }
def fnExactFairProcessRow : OpenClaim := { program := "ytadelnffjfiipaa", sum := "ea74d57fa4bc3d908bc8dcc9ef0320bdb09db78577a2e0d82e236ea93ef6b3c2", func := "loop.example/g01131/laws.FnExactFairProcess", spec := "fnExactFairProcess", unfollowed := true, recurses := true, apart := false }
def FnExactFairProcessSaid : Prop := fnExactFairProcessRow.holds Try.pinned (OpenSpec.ofChange fnExactFairProcessSpec)

/-- ITS FALSE NEIGHBOUR: 'it returns false'. Refute it at one input. -/
def fnExactFairProcessWrong : ChangeSpec := { name := "fnExactFairProcess", fn := fun _ => fun
  | [d1, d2] => { results := [.lit (.bool false)], args := [d1, d2] }
  | _ => none }
def FnExactFairProcessWrongFalsely : Prop := fnExactFairProcessRow.holds Try.pinned (OpenSpec.ofChange fnExactFairProcessWrong)

/-- 'laws.FnExactDoobParts': WHATEVER THE INPUT: true; the input reads as it did. -/
def fnExactDoobPartsSpec : ChangeSpec := { name := "fnExactDoobParts", fn := fun _ => fun
  | [d1, d2] => { results := [.lit (.bool true)], args := [d1, d2] }
  | _ => none }
def fnExactDoobPartsRow : OpenClaim := { program := "ytadelnffjfiipaa", sum := "ea74d57fa4bc3d908bc8dcc9ef0320bdb09db78577a2e0d82e236ea93ef6b3c2", func := "loop.example/g01131/laws.FnExactDoobParts", spec := "fnExactDoobParts", unfollowed := true, recurses := true, apart := false }
def FnExactDoobPartsSaid : Prop := fnExactDoobPartsRow.holds Try.pinned (OpenSpec.ofChange fnExactDoobPartsSpec)

/-- ITS FALSE NEIGHBOUR: 'it returns false'. Refute it at one input. -/
def fnExactDoobPartsWrong : ChangeSpec := { name := "fnExactDoobParts", fn := fun _ => fun
  | [d1, d2] => { results := [.lit (.bool false)], args := [d1, d2] }
  | _ => none }
def FnExactDoobPartsWrongFalsely : Prop := fnExactDoobPartsRow.holds Try.pinned (OpenSpec.ofChange fnExactDoobPartsWrong)

/-- 'laws.FnExactStakeGains': WHATEVER THE INPUT: true; the input reads as it did. -/
def fnExactStakeGainsSpec : ChangeSpec := { name := "fnExactStakeGains", fn := fun _ => fun
  | [d1, d2, d3] => { results := [.lit (.bool true)], args := [d1, d2, d3] }
  | _ => none }
def fnExactStakeGainsRow : OpenClaim := { program := "ytadelnffjfiipaa", sum := "ea74d57fa4bc3d908bc8dcc9ef0320bdb09db78577a2e0d82e236ea93ef6b3c2", func := "loop.example/g01131/laws.FnExactStakeGains", spec := "fnExactStakeGains", unfollowed := true, recurses := true, apart := false }
def FnExactStakeGainsSaid : Prop := fnExactStakeGainsRow.holds Try.pinned (OpenSpec.ofChange fnExactStakeGainsSpec)

/-- ITS FALSE NEIGHBOUR: 'it returns false'. Refute it at one input. -/
def fnExactStakeGainsWrong : ChangeSpec := { name := "fnExactStakeGains", fn := fun _ => fun
  | [d1, d2, d3] => { results := [.lit (.bool false)], args := [d1, d2, d3] }
  | _ => none }
def FnExactStakeGainsWrongFalsely : Prop := fnExactStakeGainsRow.holds Try.pinned (OpenSpec.ofChange fnExactStakeGainsWrong)

/-- 'laws.FnExactHighestOf': WHATEVER THE INPUT: true; the input reads as it did. -/
def fnExactHighestOfSpec : ChangeSpec := { name := "fnExactHighestOf", fn := fun _ => fun
  | [d1, d2] => { results := [.lit (.bool true)], args := [d1, d2] }
  | _ => none }
def fnExactHighestOfRow : OpenClaim := { program := "ytadelnffjfiipaa", sum := "ea74d57fa4bc3d908bc8dcc9ef0320bdb09db78577a2e0d82e236ea93ef6b3c2", func := "loop.example/g01131/laws.FnExactHighestOf", spec := "fnExactHighestOf", unfollowed := true, recurses := true, apart := false }
def FnExactHighestOfSaid : Prop := fnExactHighestOfRow.holds Try.pinned (OpenSpec.ofChange fnExactHighestOfSpec)

/-- ITS FALSE NEIGHBOUR: 'it returns false'. Refute it at one input. -/
def fnExactHighestOfWrong : ChangeSpec := { name := "fnExactHighestOf", fn := fun _ => fun
  | [d1, d2] => { results := [.lit (.bool false)], args := [d1, d2] }
  | _ => none }
def FnExactHighestOfWrongFalsely : Prop := fnExactHighestOfRow.holds Try.pinned (OpenSpec.ofChange fnExactHighestOfWrong)

/-- 'laws.FnExactCrossings': WHATEVER THE INPUT: true; the input reads as it did. -/
def fnExactCrossingsSpec : ChangeSpec := { name := "fnExactCrossings", fn := fun _ => fun
  | [d1, d2, d3, d4] => { results := [.lit (.bool true)], args := [d1, d2, d3, d4] }
  | _ => none }
def fnExactCrossingsRow : OpenClaim := { program := "ytadelnffjfiipaa", sum := "ea74d57fa4bc3d908bc8dcc9ef0320bdb09db78577a2e0d82e236ea93ef6b3c2", func := "loop.example/g01131/laws.FnExactCrossings", spec := "fnExactCrossings", unfollowed := true, recurses := true, apart := false }
def FnExactCrossingsSaid : Prop := fnExactCrossingsRow.holds Try.pinned (OpenSpec.ofChange fnExactCrossingsSpec)

/-- ITS FALSE NEIGHBOUR: 'it returns false'. Refute it at one input. -/
def fnExactCrossingsWrong : ChangeSpec := { name := "fnExactCrossings", fn := fun _ => fun
  | [d1, d2, d3, d4] => { results := [.lit (.bool false)], args := [d1, d2, d3, d4] }
  | _ => none }
def FnExactCrossingsWrongFalsely : Prop := fnExactCrossingsRow.holds Try.pinned (OpenSpec.ofChange fnExactCrossingsWrong)

/-- 'laws.FnExactMeansOf': WHATEVER THE INPUT: true; the input reads as it did. -/
def fnExactMeansOfSpec : ChangeSpec := { name := "fnExactMeansOf", fn := fun _ => fun
  | [d1, d2] => { results := [.lit (.bool true)], args := [d1, d2] }
  | _ => none }
def fnExactMeansOfRow : OpenClaim := { program := "ytadelnffjfiipaa", sum := "ea74d57fa4bc3d908bc8dcc9ef0320bdb09db78577a2e0d82e236ea93ef6b3c2", func := "loop.example/g01131/laws.FnExactMeansOf", spec := "fnExactMeansOf", unfollowed := true, recurses := true, apart := false }
def FnExactMeansOfSaid : Prop := fnExactMeansOfRow.holds Try.pinned (OpenSpec.ofChange fnExactMeansOfSpec)

/-- ITS FALSE NEIGHBOUR: 'it returns false'. Refute it at one input. -/
def fnExactMeansOfWrong : ChangeSpec := { name := "fnExactMeansOf", fn := fun _ => fun
  | [d1, d2] => { results := [.lit (.bool false)], args := [d1, d2] }
  | _ => none }
def FnExactMeansOfWrongFalsely : Prop := fnExactMeansOfRow.holds Try.pinned (OpenSpec.ofChange fnExactMeansOfWrong)

/-- 'laws.FnExactPaysAtCut': WHATEVER THE INPUT: true; the input reads as it did. -/
def fnExactPaysAtCutSpec : ChangeSpec := { name := "fnExactPaysAtCut", fn := fun _ => fun
  | [d1, d2, d3] => { results := [.lit (.bool true)], args := [d1, d2, d3] }
  | _ => none }
def fnExactPaysAtCutRow : OpenClaim := { program := "ytadelnffjfiipaa", sum := "ea74d57fa4bc3d908bc8dcc9ef0320bdb09db78577a2e0d82e236ea93ef6b3c2", func := "loop.example/g01131/laws.FnExactPaysAtCut", spec := "fnExactPaysAtCut", unfollowed := true, recurses := true, apart := false }
def FnExactPaysAtCutSaid : Prop := fnExactPaysAtCutRow.holds Try.pinned (OpenSpec.ofChange fnExactPaysAtCutSpec)

/-- ITS FALSE NEIGHBOUR: 'it returns false'. Refute it at one input. -/
def fnExactPaysAtCutWrong : ChangeSpec := { name := "fnExactPaysAtCut", fn := fun _ => fun
  | [d1, d2, d3] => { results := [.lit (.bool false)], args := [d1, d2, d3] }
  | _ => none }
def FnExactPaysAtCutWrongFalsely : Prop := fnExactPaysAtCutRow.holds Try.pinned (OpenSpec.ofChange fnExactPaysAtCutWrong)

/-- 'laws.FnExactKnownAt': WHATEVER THE INPUT: true; the input reads as it did. -/
def fnExactKnownAtSpec : ChangeSpec := { name := "fnExactKnownAt", fn := fun _ => fun
  | [d1, d2] => { results := [.lit (.bool true)], args := [d1, d2] }
  | _ => none }
def fnExactKnownAtRow : OpenClaim := { program := "ytadelnffjfiipaa", sum := "ea74d57fa4bc3d908bc8dcc9ef0320bdb09db78577a2e0d82e236ea93ef6b3c2", func := "loop.example/g01131/laws.FnExactKnownAt", spec := "fnExactKnownAt", unfollowed := true, recurses := true, apart := false }
def FnExactKnownAtSaid : Prop := fnExactKnownAtRow.holds Try.pinned (OpenSpec.ofChange fnExactKnownAtSpec)

/-- ITS FALSE NEIGHBOUR: 'it returns false'. Refute it at one input. -/
def fnExactKnownAtWrong : ChangeSpec := { name := "fnExactKnownAt", fn := fun _ => fun
  | [d1, d2] => { results := [.lit (.bool false)], args := [d1, d2] }
  | _ => none }
def FnExactKnownAtWrongFalsely : Prop := fnExactKnownAtRow.holds Try.pinned (OpenSpec.ofChange fnExactKnownAtWrong)

/- THE SECOND FORM. 'bulk': how many values and letters a reading holds, each counted each time it is reached (what is shared counts as often as it is met; a slice's spare places count too). A statement '..UptoSaid' is the law's where the arguments, and the package variables that the reading takes, are together of bulk at most 1048576: NARROWER than '..Said'. Prove '..Said' where nothing that the law and all that it calls make is longer than what came in: it says more and counts as full. Else prove '..UptoSaid'. A law counts once. -/
mutual
def uptoBulk {H : Type} : DataW H → Nat
  | .lit (.string bytes) => bytes.length + 1
  | .lit _ => 1
  | .nil => 1
  | .ptr d => uptoBulk d + 1
  | .slice elems spare => uptoBulkAll elems + uptoBulkAll spare + 1
  | .agg parts => uptoBulkAll parts + 1
  | .iface _ d => uptoBulk d + 1
  | .map entries => uptoBulkEntries entries + 1
  | .held _ => 1
def uptoBulkAll {H : Type} : List (DataW H) → Nat
  | [] => 0
  | d :: r => uptoBulk d + uptoBulkAll r
def uptoBulkEntries {H : Type} : List (Lit × DataW H) → Nat
  | [] => 0
  | x :: r => uptoBulkEntry x + uptoBulkEntries r
def uptoBulkEntry {H : Type} : Lit × DataW H → Nat
  | (.string bytes, d) => bytes.length + uptoBulk d + 1
  | (_, d) => uptoBulk d + 1
 end
def uptoSmall : (H : Type) → List (DataW H) → Bool := fun _ ds => decide (uptoBulkAll ds ≤ 1048576)
def OpenSpec.upto (s : _root_.Go.ChangeSpec) : _root_.Go.OpenSpec := { _root_.Go.OpenSpec.ofChange s with cond := some uptoSmall }

/-- 'laws.FnExactIsProcess', WHERE WHAT IT READS IS OF BULK AT MOST 1048576: true; the input reads as it did. -/
def fnExactIsProcessUptoRow : OpenClaim := { program := "ytadelnffjfiipaa", sum := "ea74d57fa4bc3d908bc8dcc9ef0320bdb09db78577a2e0d82e236ea93ef6b3c2", func := "loop.example/g01131/laws.FnExactIsProcess", spec := "fnExactIsProcess", unfollowed := true, recurses := true, apart := false, narrowed := true }
def FnExactIsProcessUptoSaid : Prop := fnExactIsProcessUptoRow.holds Try.pinned (OpenSpec.upto fnExactIsProcessSpec)

/-- 'laws.FnExactDriftsOf', WHERE WHAT IT READS IS OF BULK AT MOST 1048576: true; the input reads as it did. -/
def fnExactDriftsOfUptoRow : OpenClaim := { program := "ytadelnffjfiipaa", sum := "ea74d57fa4bc3d908bc8dcc9ef0320bdb09db78577a2e0d82e236ea93ef6b3c2", func := "loop.example/g01131/laws.FnExactDriftsOf", spec := "fnExactDriftsOf", unfollowed := true, recurses := true, apart := false, narrowed := true }
def FnExactDriftsOfUptoSaid : Prop := fnExactDriftsOfUptoRow.holds Try.pinned (OpenSpec.upto fnExactDriftsOfSpec)

/-- 'laws.FnExactIsFairProcess', WHERE WHAT IT READS IS OF BULK AT MOST 1048576: true; the input reads as it did. -/
def fnExactIsFairProcessUptoRow : OpenClaim := { program := "ytadelnffjfiipaa", sum := "ea74d57fa4bc3d908bc8dcc9ef0320bdb09db78577a2e0d82e236ea93ef6b3c2", func := "loop.example/g01131/laws.FnExactIsFairProcess", spec := "fnExactIsFairProcess", unfollowed := true, recurses := true, apart := false, narrowed := true }
def FnExactIsFairProcessUptoSaid : Prop := fnExactIsFairProcessUptoRow.holds Try.pinned (OpenSpec.upto fnExactIsFairProcessSpec)

/-- 'laws.FnExactIsFalling', WHERE WHAT IT READS IS OF BULK AT MOST 1048576: true; the input reads as it did. -/
def fnExactIsFallingUptoRow : OpenClaim := { program := "ytadelnffjfiipaa", sum := "ea74d57fa4bc3d908bc8dcc9ef0320bdb09db78577a2e0d82e236ea93ef6b3c2", func := "loop.example/g01131/laws.FnExactIsFalling", spec := "fnExactIsFalling", unfollowed := true, recurses := true, apart := false, narrowed := true }
def FnExactIsFallingUptoSaid : Prop := fnExactIsFallingUptoRow.holds Try.pinned (OpenSpec.upto fnExactIsFallingSpec)

/-- 'laws.FnExactFairProcess', WHERE WHAT IT READS IS OF BULK AT MOST 1048576: true; the input reads as it did. -/
def fnExactFairProcessUptoRow : OpenClaim := { program := "ytadelnffjfiipaa", sum := "ea74d57fa4bc3d908bc8dcc9ef0320bdb09db78577a2e0d82e236ea93ef6b3c2", func := "loop.example/g01131/laws.FnExactFairProcess", spec := "fnExactFairProcess", unfollowed := true, recurses := true, apart := false, narrowed := true }
def FnExactFairProcessUptoSaid : Prop := fnExactFairProcessUptoRow.holds Try.pinned (OpenSpec.upto fnExactFairProcessSpec)

/-- 'laws.FnExactDoobParts', WHERE WHAT IT READS IS OF BULK AT MOST 1048576: true; the input reads as it did. -/
def fnExactDoobPartsUptoRow : OpenClaim := { program := "ytadelnffjfiipaa", sum := "ea74d57fa4bc3d908bc8dcc9ef0320bdb09db78577a2e0d82e236ea93ef6b3c2", func := "loop.example/g01131/laws.FnExactDoobParts", spec := "fnExactDoobParts", unfollowed := true, recurses := true, apart := false, narrowed := true }
def FnExactDoobPartsUptoSaid : Prop := fnExactDoobPartsUptoRow.holds Try.pinned (OpenSpec.upto fnExactDoobPartsSpec)

/-- 'laws.FnExactStakeGains', WHERE WHAT IT READS IS OF BULK AT MOST 1048576: true; the input reads as it did. -/
def fnExactStakeGainsUptoRow : OpenClaim := { program := "ytadelnffjfiipaa", sum := "ea74d57fa4bc3d908bc8dcc9ef0320bdb09db78577a2e0d82e236ea93ef6b3c2", func := "loop.example/g01131/laws.FnExactStakeGains", spec := "fnExactStakeGains", unfollowed := true, recurses := true, apart := false, narrowed := true }
def FnExactStakeGainsUptoSaid : Prop := fnExactStakeGainsUptoRow.holds Try.pinned (OpenSpec.upto fnExactStakeGainsSpec)

/-- 'laws.FnExactHighestOf', WHERE WHAT IT READS IS OF BULK AT MOST 1048576: true; the input reads as it did. -/
def fnExactHighestOfUptoRow : OpenClaim := { program := "ytadelnffjfiipaa", sum := "ea74d57fa4bc3d908bc8dcc9ef0320bdb09db78577a2e0d82e236ea93ef6b3c2", func := "loop.example/g01131/laws.FnExactHighestOf", spec := "fnExactHighestOf", unfollowed := true, recurses := true, apart := false, narrowed := true }
def FnExactHighestOfUptoSaid : Prop := fnExactHighestOfUptoRow.holds Try.pinned (OpenSpec.upto fnExactHighestOfSpec)

/-- 'laws.FnExactCrossings', WHERE WHAT IT READS IS OF BULK AT MOST 1048576: true; the input reads as it did. -/
def fnExactCrossingsUptoRow : OpenClaim := { program := "ytadelnffjfiipaa", sum := "ea74d57fa4bc3d908bc8dcc9ef0320bdb09db78577a2e0d82e236ea93ef6b3c2", func := "loop.example/g01131/laws.FnExactCrossings", spec := "fnExactCrossings", unfollowed := true, recurses := true, apart := false, narrowed := true }
def FnExactCrossingsUptoSaid : Prop := fnExactCrossingsUptoRow.holds Try.pinned (OpenSpec.upto fnExactCrossingsSpec)

/-- 'laws.FnExactMeansOf', WHERE WHAT IT READS IS OF BULK AT MOST 1048576: true; the input reads as it did. -/
def fnExactMeansOfUptoRow : OpenClaim := { program := "ytadelnffjfiipaa", sum := "ea74d57fa4bc3d908bc8dcc9ef0320bdb09db78577a2e0d82e236ea93ef6b3c2", func := "loop.example/g01131/laws.FnExactMeansOf", spec := "fnExactMeansOf", unfollowed := true, recurses := true, apart := false, narrowed := true }
def FnExactMeansOfUptoSaid : Prop := fnExactMeansOfUptoRow.holds Try.pinned (OpenSpec.upto fnExactMeansOfSpec)

/-- 'laws.FnExactPaysAtCut', WHERE WHAT IT READS IS OF BULK AT MOST 1048576: true; the input reads as it did. -/
def fnExactPaysAtCutUptoRow : OpenClaim := { program := "ytadelnffjfiipaa", sum := "ea74d57fa4bc3d908bc8dcc9ef0320bdb09db78577a2e0d82e236ea93ef6b3c2", func := "loop.example/g01131/laws.FnExactPaysAtCut", spec := "fnExactPaysAtCut", unfollowed := true, recurses := true, apart := false, narrowed := true }
def FnExactPaysAtCutUptoSaid : Prop := fnExactPaysAtCutUptoRow.holds Try.pinned (OpenSpec.upto fnExactPaysAtCutSpec)

/-- 'laws.FnExactKnownAt', WHERE WHAT IT READS IS OF BULK AT MOST 1048576: true; the input reads as it did. -/
def fnExactKnownAtUptoRow : OpenClaim := { program := "ytadelnffjfiipaa", sum := "ea74d57fa4bc3d908bc8dcc9ef0320bdb09db78577a2e0d82e236ea93ef6b3c2", func := "loop.example/g01131/laws.FnExactKnownAt", spec := "fnExactKnownAt", unfollowed := true, recurses := true, apart := false, narrowed := true }
def FnExactKnownAtUptoSaid : Prop := fnExactKnownAtUptoRow.holds Try.pinned (OpenSpec.upto fnExactKnownAtSpec)

end Rows
end Go.Proofs.Ytadelnffjfiipaa
