/-
  No cell of these rows narrows 'for every input' (looked for: loops, veiled, ifaces, maps, wideKeys, modest, calm, conditions, laid).
  DERIVED. THE GIVEN ROWS OF THIS SEAT. 9 by the template 'for every input the law returns true; each argument reads behind the call as it read before'; 0 by the template 'total and deterministic' (their statements: YtmidlabgmmejbaaTotals.lean).
  GIVEN WITH THE SEED: the statements are not yours to turn. If you find one false, say at which input.
  Laid BY PROGRAM, IN A SANDBOX (cutbox-rows.mjs): the forced cells as the released guide's own fill.sh prints them over the translation 07c4790c9bede741… (all of the seat's roots in one cut). By AI agents, Wed Nov 11 2026. No macro, syntax, notation, axiom, sorry.
-/
import Derived.Test.YtmidlabgmmejbaaChecked
import GoSem.Claim
import GoSem.ClaimJoined
import GoSem.ClaimMapViews
import Derived.JoinedTies
import Derived.KernelRfl
namespace Go.Proofs.Ytmidlabgmmejbaa
/- THE CELL 'sum', in the pinned program and in every row, IS THE sha256 OF THE DUMP (.gsa) THAT YtmidlabgmmejbaaProg.lean LOADS. Nothing in Lean hashes anything: it is a label: what it is worth is what the hold of that sum in a sandbox is worth. -/
noncomputable def Try.pinned : Pinned := { name := "ytmidlabgmmejbaa", sum := "07c4790c9bede741295c02a3061ffda49f3d4ad6c7d110065e310153fa9a37f1", checked := Try.checked }
namespace Rows
def none {H : Type} : Left H := { results := [], args := [] }

/-- 'laws.FnExactIsArm': WHATEVER THE INPUT: true; the input reads as it did. -/
def fnExactIsArmSpec : ChangeSpec := { name := "fnExactIsArm", fn := fun _ => fun
  | [d] => { results := [.lit (.bool true)], args := [d] }
  | _ => none }
def fnExactIsArmRow : OpenClaim := { program := "ytmidlabgmmejbaa", sum := "07c4790c9bede741295c02a3061ffda49f3d4ad6c7d110065e310153fa9a37f1", func := "loop.example/g01131/laws.FnExactIsArm", spec := "fnExactIsArm", unfollowed := true, recurses := true, plainKeys := false, apart := false }
def FnExactIsArmSaid : Prop := fnExactIsArmRow.holds Try.pinned (OpenSpec.ofChange fnExactIsArmSpec)

/-- ITS FALSE NEIGHBOUR: 'it returns false'. Refute it at one input. -/
def fnExactIsArmWrong : ChangeSpec := { name := "fnExactIsArm", fn := fun _ => fun
  | [d] => { results := [.lit (.bool false)], args := [d] }
  | _ => none }
def FnExactIsArmWrongFalsely : Prop := fnExactIsArmRow.holds Try.pinned (OpenSpec.ofChange fnExactIsArmWrong)

/-- 'laws.FnExactLineArm': WHATEVER THE INPUT: true; the input reads as it did. -/
def fnExactLineArmSpec : ChangeSpec := { name := "fnExactLineArm", fn := fun _ => fun
  | [d] => { results := [.lit (.bool true)], args := [d] }
  | _ => none }
def fnExactLineArmRow : OpenClaim := { program := "ytmidlabgmmejbaa", sum := "07c4790c9bede741295c02a3061ffda49f3d4ad6c7d110065e310153fa9a37f1", func := "loop.example/g01131/laws.FnExactLineArm", spec := "fnExactLineArm", unfollowed := true, recurses := true, plainKeys := false, apart := false }
def FnExactLineArmSaid : Prop := fnExactLineArmRow.holds Try.pinned (OpenSpec.ofChange fnExactLineArmSpec)

/-- ITS FALSE NEIGHBOUR: 'it returns false'. Refute it at one input. -/
def fnExactLineArmWrong : ChangeSpec := { name := "fnExactLineArm", fn := fun _ => fun
  | [d] => { results := [.lit (.bool false)], args := [d] }
  | _ => none }
def FnExactLineArmWrongFalsely : Prop := fnExactLineArmRow.holds Try.pinned (OpenSpec.ofChange fnExactLineArmWrong)

/-- 'laws.FnExactChargesOf': WHATEVER THE INPUT: true; the input reads as it did. -/
def fnExactChargesOfSpec : ChangeSpec := { name := "fnExactChargesOf", fn := fun _ => fun
  | [d1, d2, d3] => { results := [.lit (.bool true)], args := [d1, d2, d3] }
  | _ => none }
def fnExactChargesOfRow : OpenClaim := { program := "ytmidlabgmmejbaa", sum := "07c4790c9bede741295c02a3061ffda49f3d4ad6c7d110065e310153fa9a37f1", func := "loop.example/g01131/laws.FnExactChargesOf", spec := "fnExactChargesOf", unfollowed := true, recurses := true, plainKeys := false, apart := false }
def FnExactChargesOfSaid : Prop := fnExactChargesOfRow.holds Try.pinned (OpenSpec.ofChange fnExactChargesOfSpec)

/-- ITS FALSE NEIGHBOUR: 'it returns false'. Refute it at one input. -/
def fnExactChargesOfWrong : ChangeSpec := { name := "fnExactChargesOf", fn := fun _ => fun
  | [d1, d2, d3] => { results := [.lit (.bool false)], args := [d1, d2, d3] }
  | _ => none }
def FnExactChargesOfWrongFalsely : Prop := fnExactChargesOfRow.holds Try.pinned (OpenSpec.ofChange fnExactChargesOfWrong)

/-- 'laws.FnExactPlayGain': WHATEVER THE INPUT: true; the input reads as it did. -/
def fnExactPlayGainSpec : ChangeSpec := { name := "fnExactPlayGain", fn := fun _ => fun
  | [d1, d2, d3, d4] => { results := [.lit (.bool true)], args := [d1, d2, d3, d4] }
  | _ => none }
def fnExactPlayGainRow : OpenClaim := { program := "ytmidlabgmmejbaa", sum := "07c4790c9bede741295c02a3061ffda49f3d4ad6c7d110065e310153fa9a37f1", func := "loop.example/g01131/laws.FnExactPlayGain", spec := "fnExactPlayGain", unfollowed := true, recurses := true, plainKeys := false, apart := false }
def FnExactPlayGainSaid : Prop := fnExactPlayGainRow.holds Try.pinned (OpenSpec.ofChange fnExactPlayGainSpec)

/-- ITS FALSE NEIGHBOUR: 'it returns false'. Refute it at one input. -/
def fnExactPlayGainWrong : ChangeSpec := { name := "fnExactPlayGain", fn := fun _ => fun
  | [d1, d2, d3, d4] => { results := [.lit (.bool false)], args := [d1, d2, d3, d4] }
  | _ => none }
def FnExactPlayGainWrongFalsely : Prop := fnExactPlayGainRow.holds Try.pinned (OpenSpec.ofChange fnExactPlayGainWrong)

/-- 'laws.FnExactScaleOf': WHATEVER THE INPUT: true; the input reads as it did. -/
def fnExactScaleOfSpec : ChangeSpec := { name := "fnExactScaleOf", fn := fun _ => fun
  | [d1, d2, d3] => { results := [.lit (.bool true)], args := [d1, d2, d3] }
  | _ => none }
def fnExactScaleOfRow : OpenClaim := { program := "ytmidlabgmmejbaa", sum := "07c4790c9bede741295c02a3061ffda49f3d4ad6c7d110065e310153fa9a37f1", func := "loop.example/g01131/laws.FnExactScaleOf", spec := "fnExactScaleOf", unfollowed := true, recurses := true, plainKeys := false, apart := false }
def FnExactScaleOfSaid : Prop := fnExactScaleOfRow.holds Try.pinned (OpenSpec.ofChange fnExactScaleOfSpec)

/-- ITS FALSE NEIGHBOUR: 'it returns false'. Refute it at one input. -/
def fnExactScaleOfWrong : ChangeSpec := { name := "fnExactScaleOf", fn := fun _ => fun
  | [d1, d2, d3] => { results := [.lit (.bool false)], args := [d1, d2, d3] }
  | _ => none }
def FnExactScaleOfWrongFalsely : Prop := fnExactScaleOfRow.holds Try.pinned (OpenSpec.ofChange fnExactScaleOfWrong)

/-- 'laws.FnExactFirstPlay': WHATEVER THE INPUT: true; the input reads as it did. -/
def fnExactFirstPlaySpec : ChangeSpec := { name := "fnExactFirstPlay", fn := fun _ => fun
  | [d1, d2, d3] => { results := [.lit (.bool true)], args := [d1, d2, d3] }
  | _ => none }
def fnExactFirstPlayRow : OpenClaim := { program := "ytmidlabgmmejbaa", sum := "07c4790c9bede741295c02a3061ffda49f3d4ad6c7d110065e310153fa9a37f1", func := "loop.example/g01131/laws.FnExactFirstPlay", spec := "fnExactFirstPlay", unfollowed := true, recurses := true, plainKeys := false, apart := false }
def FnExactFirstPlaySaid : Prop := fnExactFirstPlayRow.holds Try.pinned (OpenSpec.ofChange fnExactFirstPlaySpec)

/-- ITS FALSE NEIGHBOUR: 'it returns false'. Refute it at one input. -/
def fnExactFirstPlayWrong : ChangeSpec := { name := "fnExactFirstPlay", fn := fun _ => fun
  | [d1, d2, d3] => { results := [.lit (.bool false)], args := [d1, d2, d3] }
  | _ => none }
def FnExactFirstPlayWrongFalsely : Prop := fnExactFirstPlayRow.holds Try.pinned (OpenSpec.ofChange fnExactFirstPlayWrong)

/-- 'laws.FnExactIndexOf': WHATEVER THE INPUT: true; the input reads as it did. -/
def fnExactIndexOfSpec : ChangeSpec := { name := "fnExactIndexOf", fn := fun _ => fun
  | [d1, d2, d3] => { results := [.lit (.bool true)], args := [d1, d2, d3] }
  | _ => none }
def fnExactIndexOfRow : OpenClaim := { program := "ytmidlabgmmejbaa", sum := "07c4790c9bede741295c02a3061ffda49f3d4ad6c7d110065e310153fa9a37f1", func := "loop.example/g01131/laws.FnExactIndexOf", spec := "fnExactIndexOf", unfollowed := true, recurses := true, plainKeys := false, apart := false }
def FnExactIndexOfSaid : Prop := fnExactIndexOfRow.holds Try.pinned (OpenSpec.ofChange fnExactIndexOfSpec)

/-- ITS FALSE NEIGHBOUR: 'it returns false'. Refute it at one input. -/
def fnExactIndexOfWrong : ChangeSpec := { name := "fnExactIndexOf", fn := fun _ => fun
  | [d1, d2, d3] => { results := [.lit (.bool false)], args := [d1, d2, d3] }
  | _ => none }
def FnExactIndexOfWrongFalsely : Prop := fnExactIndexOfRow.holds Try.pinned (OpenSpec.ofChange fnExactIndexOfWrong)

/-- 'laws.FnExactBestValue': WHATEVER THE INPUT: true; the input reads as it did. -/
def fnExactBestValueSpec : ChangeSpec := { name := "fnExactBestValue", fn := fun _ => fun
  | [d1, d2, d3] => { results := [.lit (.bool true)], args := [d1, d2, d3] }
  | _ => none }
def fnExactBestValueRow : OpenClaim := { program := "ytmidlabgmmejbaa", sum := "07c4790c9bede741295c02a3061ffda49f3d4ad6c7d110065e310153fa9a37f1", func := "loop.example/g01131/laws.FnExactBestValue", spec := "fnExactBestValue", unfollowed := true, recurses := true, plainKeys := false, apart := false }
def FnExactBestValueSaid : Prop := fnExactBestValueRow.holds Try.pinned (OpenSpec.ofChange fnExactBestValueSpec)

/-- ITS FALSE NEIGHBOUR: 'it returns false'. Refute it at one input. -/
def fnExactBestValueWrong : ChangeSpec := { name := "fnExactBestValue", fn := fun _ => fun
  | [d1, d2, d3] => { results := [.lit (.bool false)], args := [d1, d2, d3] }
  | _ => none }
def FnExactBestValueWrongFalsely : Prop := fnExactBestValueRow.holds Try.pinned (OpenSpec.ofChange fnExactBestValueWrong)

/-- 'laws.FnExactFairFee': WHATEVER THE INPUT: true; the input reads as it did. -/
def fnExactFairFeeSpec : ChangeSpec := { name := "fnExactFairFee", fn := fun _ => fun
  | [d1, d2, d3, d4] => { results := [.lit (.bool true)], args := [d1, d2, d3, d4] }
  | _ => none }
def fnExactFairFeeRow : OpenClaim := { program := "ytmidlabgmmejbaa", sum := "07c4790c9bede741295c02a3061ffda49f3d4ad6c7d110065e310153fa9a37f1", func := "loop.example/g01131/laws.FnExactFairFee", spec := "fnExactFairFee", unfollowed := true, recurses := true, plainKeys := false, apart := false }
def FnExactFairFeeSaid : Prop := fnExactFairFeeRow.holds Try.pinned (OpenSpec.ofChange fnExactFairFeeSpec)

/-- ITS FALSE NEIGHBOUR: 'it returns false'. Refute it at one input. -/
def fnExactFairFeeWrong : ChangeSpec := { name := "fnExactFairFee", fn := fun _ => fun
  | [d1, d2, d3, d4] => { results := [.lit (.bool false)], args := [d1, d2, d3, d4] }
  | _ => none }
def FnExactFairFeeWrongFalsely : Prop := fnExactFairFeeRow.holds Try.pinned (OpenSpec.ofChange fnExactFairFeeWrong)

/- THE SECOND FORM. 'bulk': how many values and letters a reading holds, each counted each time it is reached (what is shared counts as often as it is met; a slice's spare places count too). A statement '..UptoSaid' is the law's where the arguments, and the package variables that the reading takes, are together of bulk at most 1048576: NARROWER than '..Said'. Prove '..Said' where nothing that the law and all that it calls make is longer than what came in: it says more and counts as full. Else prove '..UptoSaid'. A law counts once. -/
mutual
def uptoBulk {H : Type} : DataW H → Nat
  | .lit (.string bytes) => bytes.length + 1
  | .lit _ => 1
  | .nil => 1
  | .ptr d => uptoBulk d + 1
  | .slice elems spare => uptoBulkAll elems + uptoBulkAll spare + 1
  | .agg parts => uptoBulkAll parts + 1
  | .iface _ d => uptoBulk d + 1
  | .map entries => uptoBulkEntries entries + 1
  | .held _ => 1
def uptoBulkAll {H : Type} : List (DataW H) → Nat
  | [] => 0
  | d :: r => uptoBulk d + uptoBulkAll r
def uptoBulkEntries {H : Type} : List (Lit × DataW H) → Nat
  | [] => 0
  | x :: r => uptoBulkEntry x + uptoBulkEntries r
def uptoBulkEntry {H : Type} : Lit × DataW H → Nat
  | (.string bytes, d) => bytes.length + uptoBulk d + 1
  | (_, d) => uptoBulk d + 1
 end
def uptoSmall : (H : Type) → List (DataW H) → Bool := fun _ ds => decide (uptoBulkAll ds ≤ 1048576)
def OpenSpec.upto (s : _root_.Go.ChangeSpec) : _root_.Go.OpenSpec := { _root_.Go.OpenSpec.ofChange s with cond := some uptoSmall }

/-- 'laws.FnExactIsArm', WHERE WHAT IT READS IS OF BULK AT MOST 1048576: true; the input reads as it did. -/
def fnExactIsArmUptoRow : OpenClaim := { program := "ytmidlabgmmejbaa", sum := "07c4790c9bede741295c02a3061ffda49f3d4ad6c7d110065e310153fa9a37f1", func := "loop.example/g01131/laws.FnExactIsArm", spec := "fnExactIsArm", unfollowed := true, recurses := true, plainKeys := false, apart := false, narrowed := true }
def FnExactIsArmUptoSaid : Prop := fnExactIsArmUptoRow.holds Try.pinned (OpenSpec.upto fnExactIsArmSpec)

/-- 'laws.FnExactLineArm', WHERE WHAT IT READS IS OF BULK AT MOST 1048576: true; the input reads as it did. -/
def fnExactLineArmUptoRow : OpenClaim := { program := "ytmidlabgmmejbaa", sum := "07c4790c9bede741295c02a3061ffda49f3d4ad6c7d110065e310153fa9a37f1", func := "loop.example/g01131/laws.FnExactLineArm", spec := "fnExactLineArm", unfollowed := true, recurses := true, plainKeys := false, apart := false, narrowed := true }
def FnExactLineArmUptoSaid : Prop := fnExactLineArmUptoRow.holds Try.pinned (OpenSpec.upto fnExactLineArmSpec)

/-- 'laws.FnExactChargesOf', WHERE WHAT IT READS IS OF BULK AT MOST 1048576: true; the input reads as it did. -/
def fnExactChargesOfUptoRow : OpenClaim := { program := "ytmidlabgmmejbaa", sum := "07c4790c9bede741295c02a3061ffda49f3d4ad6c7d110065e310153fa9a37f1", func := "loop.example/g01131/laws.FnExactChargesOf", spec := "fnExactChargesOf", unfollowed := true, recurses := true, plainKeys := false, apart := false, narrowed := true }
def FnExactChargesOfUptoSaid : Prop := fnExactChargesOfUptoRow.holds Try.pinned (OpenSpec.upto fnExactChargesOfSpec)

/-- 'laws.FnExactPlayGain', WHERE WHAT IT READS IS OF BULK AT MOST 1048576: true; the input reads as it did. -/
def fnExactPlayGainUptoRow : OpenClaim := { program := "ytmidlabgmmejbaa", sum := "07c4790c9bede741295c02a3061ffda49f3d4ad6c7d110065e310153fa9a37f1", func := "loop.example/g01131/laws.FnExactPlayGain", spec := "fnExactPlayGain", unfollowed := true, recurses := true, plainKeys := false, apart := false, narrowed := true }
def FnExactPlayGainUptoSaid : Prop := fnExactPlayGainUptoRow.holds Try.pinned (OpenSpec.upto fnExactPlayGainSpec)

/-- 'laws.FnExactScaleOf', WHERE WHAT IT READS IS OF BULK AT MOST 1048576: true; the input reads as it did. -/
def fnExactScaleOfUptoRow : OpenClaim := { program := "ytmidlabgmmejbaa", sum := "07c4790c9bede741295c02a3061ffda49f3d4ad6c7d110065e310153fa9a37f1", func := "loop.example/g01131/laws.FnExactScaleOf", spec := "fnExactScaleOf", unfollowed := true, recurses := true, plainKeys := false, apart := false, narrowed := true }
def FnExactScaleOfUptoSaid : Prop := fnExactScaleOfUptoRow.holds Try.pinned (OpenSpec.upto fnExactScaleOfSpec)

/-- 'laws.FnExactFirstPlay', WHERE WHAT IT READS IS OF BULK AT MOST 1048576: true; the input reads as it did. -/
def fnExactFirstPlayUptoRow : OpenClaim := { program := "ytmidlabgmmejbaa", sum := "07c4790c9bede741295c02a3061ffda49f3d4ad6c7d110065e310153fa9a37f1", func := "loop.example/g01131/laws.FnExactFirstPlay", spec := "fnExactFirstPlay", unfollowed := true, recurses := true, plainKeys := false, apart := false, narrowed := true }
def FnExactFirstPlayUptoSaid : Prop := fnExactFirstPlayUptoRow.holds Try.pinned (OpenSpec.upto fnExactFirstPlaySpec)

/-- 'laws.FnExactIndexOf', WHERE WHAT IT READS IS OF BULK AT MOST 1048576: true; the input reads as it did. -/
def fnExactIndexOfUptoRow : OpenClaim := { program := "ytmidlabgmmejbaa", sum := "07c4790c9bede741295c02a3061ffda49f3d4ad6c7d110065e310153fa9a37f1", func := "loop.example/g01131/laws.FnExactIndexOf", spec := "fnExactIndexOf", unfollowed := true, recurses := true, plainKeys := false, apart := false, narrowed := true }
def FnExactIndexOfUptoSaid : Prop := fnExactIndexOfUptoRow.holds Try.pinned (OpenSpec.upto fnExactIndexOfSpec)

/-- 'laws.FnExactBestValue', WHERE WHAT IT READS IS OF BULK AT MOST 1048576: true; the input reads as it did. -/
def fnExactBestValueUptoRow : OpenClaim := { program := "ytmidlabgmmejbaa", sum := "07c4790c9bede741295c02a3061ffda49f3d4ad6c7d110065e310153fa9a37f1", func := "loop.example/g01131/laws.FnExactBestValue", spec := "fnExactBestValue", unfollowed := true, recurses := true, plainKeys := false, apart := false, narrowed := true }
def FnExactBestValueUptoSaid : Prop := fnExactBestValueUptoRow.holds Try.pinned (OpenSpec.upto fnExactBestValueSpec)

/-- 'laws.FnExactFairFee', WHERE WHAT IT READS IS OF BULK AT MOST 1048576: true; the input reads as it did. -/
def fnExactFairFeeUptoRow : OpenClaim := { program := "ytmidlabgmmejbaa", sum := "07c4790c9bede741295c02a3061ffda49f3d4ad6c7d110065e310153fa9a37f1", func := "loop.example/g01131/laws.FnExactFairFee", spec := "fnExactFairFee", unfollowed := true, recurses := true, plainKeys := false, apart := false, narrowed := true }
def FnExactFairFeeUptoSaid : Prop := fnExactFairFeeUptoRow.holds Try.pinned (OpenSpec.upto fnExactFairFeeSpec)

end Rows
end Go.Proofs.Ytmidlabgmmejbaa
