/-
  No cell of these rows narrows 'for every input' (looked for: loops, veiled, ifaces, maps, wideKeys, modest, calm, conditions, laid).
  DERIVED. THE GIVEN ROWS OF THIS SEAT. 9 by the template 'for every input the law returns true; each argument reads behind the call as it read before'; 0 by the template 'total and deterministic' (their statements: YtmidlabgmmejbabTotals.lean).
  GIVEN WITH THE SEED: the statements are not yours to turn. If you find one false, say at which input.
  Laid BY PROGRAM, IN A SANDBOX (cutbox-rows.mjs): the forced cells as the released guide's own fill.sh prints them over the translation 89fca8712a52c1a6… (all of the seat's roots in one cut). By AI agents, Wed Nov 11 2026. No macro, syntax, notation, axiom, sorry.
-/
import Derived.Test.YtmidlabgmmejbabChecked
import GoSem.Claim
import GoSem.ClaimJoined
import GoSem.ClaimMapViews
import Derived.JoinedTies
import Derived.KernelRfl
namespace Go.Proofs.Ytmidlabgmmejbab
/- THE CELL 'sum', in the pinned program and in every row, IS THE sha256 OF THE DUMP (.gsa) THAT YtmidlabgmmejbabProg.lean LOADS. Nothing in Lean hashes anything: it is a label: what it is worth is what the hold of that sum in a sandbox is worth. -/
noncomputable def Try.pinned : Pinned := { name := "ytmidlabgmmejbab", sum := "89fca8712a52c1a6e21ec7d7ffd0e8bbdaa8162f2209bdc6bb8b0829be3f034c", checked := Try.checked }
namespace Rows
def none {H : Type} : Left H := { results := [], args := [] }

/-- 'laws.FnExactIndexValue': WHATEVER THE INPUT: true; the input reads as it did. -/
def fnExactIndexValueSpec : ChangeSpec := { name := "fnExactIndexValue", fn := fun _ => fun
  | [d1, d2, d3] => { results := [.lit (.bool true)], args := [d1, d2, d3] }
  | _ => none }
def fnExactIndexValueRow : OpenClaim := { program := "ytmidlabgmmejbab", sum := "89fca8712a52c1a6e21ec7d7ffd0e8bbdaa8162f2209bdc6bb8b0829be3f034c", func := "loop.example/g01131/laws.FnExactIndexValue", spec := "fnExactIndexValue", unfollowed := true, recurses := true, plainKeys := false, apart := false }
def FnExactIndexValueSaid : Prop := fnExactIndexValueRow.holds Try.pinned (OpenSpec.ofChange fnExactIndexValueSpec)

/-- ITS FALSE NEIGHBOUR: 'it returns false'. Refute it at one input. -/
def fnExactIndexValueWrong : ChangeSpec := { name := "fnExactIndexValue", fn := fun _ => fun
  | [d1, d2, d3] => { results := [.lit (.bool false)], args := [d1, d2, d3] }
  | _ => none }
def FnExactIndexValueWrongFalsely : Prop := fnExactIndexValueRow.holds Try.pinned (OpenSpec.ofChange fnExactIndexValueWrong)

/-- 'laws.FnExactFeeValue': WHATEVER THE INPUT: true; the input reads as it did. -/
def fnExactFeeValueSpec : ChangeSpec := { name := "fnExactFeeValue", fn := fun _ => fun
  | [d1, d2, d3] => { results := [.lit (.bool true)], args := [d1, d2, d3] }
  | _ => none }
def fnExactFeeValueRow : OpenClaim := { program := "ytmidlabgmmejbab", sum := "89fca8712a52c1a6e21ec7d7ffd0e8bbdaa8162f2209bdc6bb8b0829be3f034c", func := "loop.example/g01131/laws.FnExactFeeValue", spec := "fnExactFeeValue", unfollowed := true, recurses := true, plainKeys := false, apart := false }
def FnExactFeeValueSaid : Prop := fnExactFeeValueRow.holds Try.pinned (OpenSpec.ofChange fnExactFeeValueSpec)

/-- ITS FALSE NEIGHBOUR: 'it returns false'. Refute it at one input. -/
def fnExactFeeValueWrong : ChangeSpec := { name := "fnExactFeeValue", fn := fun _ => fun
  | [d1, d2, d3] => { results := [.lit (.bool false)], args := [d1, d2, d3] }
  | _ => none }
def FnExactFeeValueWrongFalsely : Prop := fnExactFeeValueRow.holds Try.pinned (OpenSpec.ofChange fnExactFeeValueWrong)

/-- 'laws.FnExactInOrderValue': WHATEVER THE INPUT: true; the input reads as it did. -/
def fnExactInOrderValueSpec : ChangeSpec := { name := "fnExactInOrderValue", fn := fun _ => fun
  | [d1, d2, d3] => { results := [.lit (.bool true)], args := [d1, d2, d3] }
  | _ => none }
def fnExactInOrderValueRow : OpenClaim := { program := "ytmidlabgmmejbab", sum := "89fca8712a52c1a6e21ec7d7ffd0e8bbdaa8162f2209bdc6bb8b0829be3f034c", func := "loop.example/g01131/laws.FnExactInOrderValue", spec := "fnExactInOrderValue", unfollowed := true, recurses := true, plainKeys := false, apart := false }
def FnExactInOrderValueSaid : Prop := fnExactInOrderValueRow.holds Try.pinned (OpenSpec.ofChange fnExactInOrderValueSpec)

/-- ITS FALSE NEIGHBOUR: 'it returns false'. Refute it at one input. -/
def fnExactInOrderValueWrong : ChangeSpec := { name := "fnExactInOrderValue", fn := fun _ => fun
  | [d1, d2, d3] => { results := [.lit (.bool false)], args := [d1, d2, d3] }
  | _ => none }
def FnExactInOrderValueWrongFalsely : Prop := fnExactInOrderValueRow.holds Try.pinned (OpenSpec.ofChange fnExactInOrderValueWrong)

/-- 'laws.FnExactLeaveValue': WHATEVER THE INPUT: true; the input reads as it did. -/
def fnExactLeaveValueSpec : ChangeSpec := { name := "fnExactLeaveValue", fn := fun _ => fun
  | [d1, d2, d3, d4] => { results := [.lit (.bool true)], args := [d1, d2, d3, d4] }
  | _ => none }
def fnExactLeaveValueRow : OpenClaim := { program := "ytmidlabgmmejbab", sum := "89fca8712a52c1a6e21ec7d7ffd0e8bbdaa8162f2209bdc6bb8b0829be3f034c", func := "loop.example/g01131/laws.FnExactLeaveValue", spec := "fnExactLeaveValue", unfollowed := true, recurses := true, plainKeys := false, apart := false }
def FnExactLeaveValueSaid : Prop := fnExactLeaveValueRow.holds Try.pinned (OpenSpec.ofChange fnExactLeaveValueSpec)

/-- ITS FALSE NEIGHBOUR: 'it returns false'. Refute it at one input. -/
def fnExactLeaveValueWrong : ChangeSpec := { name := "fnExactLeaveValue", fn := fun _ => fun
  | [d1, d2, d3, d4] => { results := [.lit (.bool false)], args := [d1, d2, d3, d4] }
  | _ => none }
def FnExactLeaveValueWrongFalsely : Prop := fnExactLeaveValueRow.holds Try.pinned (OpenSpec.ofChange fnExactLeaveValueWrong)

/-- 'laws.FnPaths': WHATEVER THE INPUT: true; the input reads as it did. -/
def fnPathsSpec : ChangeSpec := { name := "fnPaths", fn := fun _ => fun
  | [d] => { results := [.lit (.bool true)], args := [d] }
  | _ => none }
def fnPathsRow : OpenClaim := { program := "ytmidlabgmmejbab", sum := "89fca8712a52c1a6e21ec7d7ffd0e8bbdaa8162f2209bdc6bb8b0829be3f034c", func := "loop.example/g01131/laws.FnPaths", spec := "fnPaths", plainKeys := false, apart := false }
def FnPathsSaid : Prop := fnPathsRow.holds Try.pinned (OpenSpec.ofChange fnPathsSpec)

/-- ITS FALSE NEIGHBOUR: 'it returns false'. Refute it at one input. -/
def fnPathsWrong : ChangeSpec := { name := "fnPaths", fn := fun _ => fun
  | [d] => { results := [.lit (.bool false)], args := [d] }
  | _ => none }
def FnPathsWrongFalsely : Prop := fnPathsRow.holds Try.pinned (OpenSpec.ofChange fnPathsWrong)

/-- 'laws.FnReturns': WHATEVER THE INPUT: true; the input reads as it did. -/
def fnReturnsSpec : ChangeSpec := { name := "fnReturns", fn := fun _ => fun
  | [d] => { results := [.lit (.bool true)], args := [d] }
  | _ => none }
def fnReturnsRow : OpenClaim := { program := "ytmidlabgmmejbab", sum := "89fca8712a52c1a6e21ec7d7ffd0e8bbdaa8162f2209bdc6bb8b0829be3f034c", func := "loop.example/g01131/laws.FnReturns", spec := "fnReturns", plainKeys := false, apart := false }
def FnReturnsSaid : Prop := fnReturnsRow.holds Try.pinned (OpenSpec.ofChange fnReturnsSpec)

/-- ITS FALSE NEIGHBOUR: 'it returns false'. Refute it at one input. -/
def fnReturnsWrong : ChangeSpec := { name := "fnReturns", fn := fun _ => fun
  | [d] => { results := [.lit (.bool false)], args := [d] }
  | _ => none }
def FnReturnsWrongFalsely : Prop := fnReturnsRow.holds Try.pinned (OpenSpec.ofChange fnReturnsWrong)

/-- 'laws.FnExactSeerMean': WHATEVER THE INPUT: true; the input reads as it did. -/
def fnExactSeerMeanSpec : ChangeSpec := { name := "fnExactSeerMean", fn := fun _ => fun
  | [d1, d2] => { results := [.lit (.bool true)], args := [d1, d2] }
  | _ => none }
def fnExactSeerMeanRow : OpenClaim := { program := "ytmidlabgmmejbab", sum := "89fca8712a52c1a6e21ec7d7ffd0e8bbdaa8162f2209bdc6bb8b0829be3f034c", func := "loop.example/g01131/laws.FnExactSeerMean", spec := "fnExactSeerMean", unfollowed := true, recurses := true, plainKeys := false, apart := false }
def FnExactSeerMeanSaid : Prop := fnExactSeerMeanRow.holds Try.pinned (OpenSpec.ofChange fnExactSeerMeanSpec)

/-- ITS FALSE NEIGHBOUR: 'it returns false'. Refute it at one input. -/
def fnExactSeerMeanWrong : ChangeSpec := { name := "fnExactSeerMean", fn := fun _ => fun
  | [d1, d2] => { results := [.lit (.bool false)], args := [d1, d2] }
  | _ => none }
def FnExactSeerMeanWrongFalsely : Prop := fnExactSeerMeanRow.holds Try.pinned (OpenSpec.ofChange fnExactSeerMeanWrong)

/-- 'laws.FnExactBalanceBound': WHATEVER THE INPUT: true; the input reads as it did. -/
def fnExactBalanceBoundSpec : ChangeSpec := { name := "fnExactBalanceBound", fn := fun _ => fun
  | [d1, d2, d3] => { results := [.lit (.bool true)], args := [d1, d2, d3] }
  | _ => none }
def fnExactBalanceBoundRow : OpenClaim := { program := "ytmidlabgmmejbab", sum := "89fca8712a52c1a6e21ec7d7ffd0e8bbdaa8162f2209bdc6bb8b0829be3f034c", func := "loop.example/g01131/laws.FnExactBalanceBound", spec := "fnExactBalanceBound", unfollowed := true, recurses := true, plainKeys := false, apart := false }
def FnExactBalanceBoundSaid : Prop := fnExactBalanceBoundRow.holds Try.pinned (OpenSpec.ofChange fnExactBalanceBoundSpec)

/-- ITS FALSE NEIGHBOUR: 'it returns false'. Refute it at one input. -/
def fnExactBalanceBoundWrong : ChangeSpec := { name := "fnExactBalanceBound", fn := fun _ => fun
  | [d1, d2, d3] => { results := [.lit (.bool false)], args := [d1, d2, d3] }
  | _ => none }
def FnExactBalanceBoundWrongFalsely : Prop := fnExactBalanceBoundRow.holds Try.pinned (OpenSpec.ofChange fnExactBalanceBoundWrong)

/-- 'laws.FnExactRowEarly': WHATEVER THE INPUT: true; the input reads as it did. -/
def fnExactRowEarlySpec : ChangeSpec := { name := "fnExactRowEarly", fn := fun _ => fun
  | [d1, d2, d3, d4] => { results := [.lit (.bool true)], args := [d1, d2, d3, d4] }
  | _ => none }
def fnExactRowEarlyRow : OpenClaim := { program := "ytmidlabgmmejbab", sum := "89fca8712a52c1a6e21ec7d7ffd0e8bbdaa8162f2209bdc6bb8b0829be3f034c", func := "loop.example/g01131/laws.FnExactRowEarly", spec := "fnExactRowEarly", unfollowed := true, recurses := true, plainKeys := false, apart := false }
def FnExactRowEarlySaid : Prop := fnExactRowEarlyRow.holds Try.pinned (OpenSpec.ofChange fnExactRowEarlySpec)

/-- ITS FALSE NEIGHBOUR: 'it returns false'. Refute it at one input. -/
def fnExactRowEarlyWrong : ChangeSpec := { name := "fnExactRowEarly", fn := fun _ => fun
  | [d1, d2, d3, d4] => { results := [.lit (.bool false)], args := [d1, d2, d3, d4] }
  | _ => none }
def FnExactRowEarlyWrongFalsely : Prop := fnExactRowEarlyRow.holds Try.pinned (OpenSpec.ofChange fnExactRowEarlyWrong)

/- THE SECOND FORM. 'bulk': how many values and letters a reading holds, each counted each time it is reached (what is shared counts as often as it is met; a slice's spare places count too). A statement '..UptoSaid' is the law's where the arguments, and the package variables that the reading takes, are together of bulk at most 1048576: NARROWER than '..Said'. Prove '..Said' where nothing that the law and all that it calls make is longer than what came in: it says more and counts as full. Else prove '..UptoSaid'. A law counts once. -/
mutual
def uptoBulk {H : Type} : DataW H → Nat
  | .lit (.string bytes) => bytes.length + 1
  | .lit _ => 1
  | .nil => 1
  | .ptr d => uptoBulk d + 1
  | .slice elems spare => uptoBulkAll elems + uptoBulkAll spare + 1
  | .agg parts => uptoBulkAll parts + 1
  | .iface _ d => uptoBulk d + 1
  | .map entries => uptoBulkEntries entries + 1
  | .held _ => 1
def uptoBulkAll {H : Type} : List (DataW H) → Nat
  | [] => 0
  | d :: r => uptoBulk d + uptoBulkAll r
def uptoBulkEntries {H : Type} : List (Lit × DataW H) → Nat
  | [] => 0
  | x :: r => uptoBulkEntry x + uptoBulkEntries r
def uptoBulkEntry {H : Type} : Lit × DataW H → Nat
  | (.string bytes, d) => bytes.length + uptoBulk d + 1
  | (_, d) => uptoBulk d + 1
 end
def uptoSmall : (H : Type) → List (DataW H) → Bool := fun _ ds => decide (uptoBulkAll ds ≤ 1048576)
def OpenSpec.upto (s : _root_.Go.ChangeSpec) : _root_.Go.OpenSpec := { _root_.Go.OpenSpec.ofChange s with cond := some uptoSmall }

/-- 'laws.FnExactIndexValue', WHERE WHAT IT READS IS OF BULK AT MOST 1048576: true; the input reads as it did. -/
def fnExactIndexValueUptoRow : OpenClaim := { program := "ytmidlabgmmejbab", sum := "89fca8712a52c1a6e21ec7d7ffd0e8bbdaa8162f2209bdc6bb8b0829be3f034c", func := "loop.example/g01131/laws.FnExactIndexValue", spec := "fnExactIndexValue", unfollowed := true, recurses := true, plainKeys := false, apart := false, narrowed := true }
def FnExactIndexValueUptoSaid : Prop := fnExactIndexValueUptoRow.holds Try.pinned (OpenSpec.upto fnExactIndexValueSpec)

/-- 'laws.FnExactFeeValue', WHERE WHAT IT READS IS OF BULK AT MOST 1048576: true; the input reads as it did. -/
def fnExactFeeValueUptoRow : OpenClaim := { program := "ytmidlabgmmejbab", sum := "89fca8712a52c1a6e21ec7d7ffd0e8bbdaa8162f2209bdc6bb8b0829be3f034c", func := "loop.example/g01131/laws.FnExactFeeValue", spec := "fnExactFeeValue", unfollowed := true, recurses := true, plainKeys := false, apart := false, narrowed := true }
def FnExactFeeValueUptoSaid : Prop := fnExactFeeValueUptoRow.holds Try.pinned (OpenSpec.upto fnExactFeeValueSpec)

/-- 'laws.FnExactInOrderValue', WHERE WHAT IT READS IS OF BULK AT MOST 1048576: true; the input reads as it did. -/
def fnExactInOrderValueUptoRow : OpenClaim := { program := "ytmidlabgmmejbab", sum := "89fca8712a52c1a6e21ec7d7ffd0e8bbdaa8162f2209bdc6bb8b0829be3f034c", func := "loop.example/g01131/laws.FnExactInOrderValue", spec := "fnExactInOrderValue", unfollowed := true, recurses := true, plainKeys := false, apart := false, narrowed := true }
def FnExactInOrderValueUptoSaid : Prop := fnExactInOrderValueUptoRow.holds Try.pinned (OpenSpec.upto fnExactInOrderValueSpec)

/-- 'laws.FnExactLeaveValue', WHERE WHAT IT READS IS OF BULK AT MOST 1048576: true; the input reads as it did. -/
def fnExactLeaveValueUptoRow : OpenClaim := { program := "ytmidlabgmmejbab", sum := "89fca8712a52c1a6e21ec7d7ffd0e8bbdaa8162f2209bdc6bb8b0829be3f034c", func := "loop.example/g01131/laws.FnExactLeaveValue", spec := "fnExactLeaveValue", unfollowed := true, recurses := true, plainKeys := false, apart := false, narrowed := true }
def FnExactLeaveValueUptoSaid : Prop := fnExactLeaveValueUptoRow.holds Try.pinned (OpenSpec.upto fnExactLeaveValueSpec)

/-- 'laws.FnPaths', WHERE WHAT IT READS IS OF BULK AT MOST 1048576: true; the input reads as it did. -/
def fnPathsUptoRow : OpenClaim := { program := "ytmidlabgmmejbab", sum := "89fca8712a52c1a6e21ec7d7ffd0e8bbdaa8162f2209bdc6bb8b0829be3f034c", func := "loop.example/g01131/laws.FnPaths", spec := "fnPaths", plainKeys := false, apart := false, narrowed := true }
def FnPathsUptoSaid : Prop := fnPathsUptoRow.holds Try.pinned (OpenSpec.upto fnPathsSpec)

/-- 'laws.FnReturns', WHERE WHAT IT READS IS OF BULK AT MOST 1048576: true; the input reads as it did. -/
def fnReturnsUptoRow : OpenClaim := { program := "ytmidlabgmmejbab", sum := "89fca8712a52c1a6e21ec7d7ffd0e8bbdaa8162f2209bdc6bb8b0829be3f034c", func := "loop.example/g01131/laws.FnReturns", spec := "fnReturns", plainKeys := false, apart := false, narrowed := true }
def FnReturnsUptoSaid : Prop := fnReturnsUptoRow.holds Try.pinned (OpenSpec.upto fnReturnsSpec)

/-- 'laws.FnExactSeerMean', WHERE WHAT IT READS IS OF BULK AT MOST 1048576: true; the input reads as it did. -/
def fnExactSeerMeanUptoRow : OpenClaim := { program := "ytmidlabgmmejbab", sum := "89fca8712a52c1a6e21ec7d7ffd0e8bbdaa8162f2209bdc6bb8b0829be3f034c", func := "loop.example/g01131/laws.FnExactSeerMean", spec := "fnExactSeerMean", unfollowed := true, recurses := true, plainKeys := false, apart := false, narrowed := true }
def FnExactSeerMeanUptoSaid : Prop := fnExactSeerMeanUptoRow.holds Try.pinned (OpenSpec.upto fnExactSeerMeanSpec)

/-- 'laws.FnExactBalanceBound', WHERE WHAT IT READS IS OF BULK AT MOST 1048576: true; the input reads as it did. -/
def fnExactBalanceBoundUptoRow : OpenClaim := { program := "ytmidlabgmmejbab", sum := "89fca8712a52c1a6e21ec7d7ffd0e8bbdaa8162f2209bdc6bb8b0829be3f034c", func := "loop.example/g01131/laws.FnExactBalanceBound", spec := "fnExactBalanceBound", unfollowed := true, recurses := true, plainKeys := false, apart := false, narrowed := true }
def FnExactBalanceBoundUptoSaid : Prop := fnExactBalanceBoundUptoRow.holds Try.pinned (OpenSpec.upto fnExactBalanceBoundSpec)

/-- 'laws.FnExactRowEarly', WHERE WHAT IT READS IS OF BULK AT MOST 1048576: true; the input reads as it did. -/
def fnExactRowEarlyUptoRow : OpenClaim := { program := "ytmidlabgmmejbab", sum := "89fca8712a52c1a6e21ec7d7ffd0e8bbdaa8162f2209bdc6bb8b0829be3f034c", func := "loop.example/g01131/laws.FnExactRowEarly", spec := "fnExactRowEarly", unfollowed := true, recurses := true, plainKeys := false, apart := false, narrowed := true }
def FnExactRowEarlyUptoSaid : Prop := fnExactRowEarlyUptoRow.holds Try.pinned (OpenSpec.upto fnExactRowEarlySpec)

end Rows
end Go.Proofs.Ytmidlabgmmejbab
