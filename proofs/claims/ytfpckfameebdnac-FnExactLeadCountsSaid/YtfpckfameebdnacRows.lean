/-
  No cell of these rows narrows 'for every input' (looked for: loops, veiled, ifaces, maps, wideKeys, modest, calm, conditions, laid).
  DERIVED. THE GIVEN ROWS OF THIS SEAT. 9 by the template 'for every input the law returns true; each argument reads behind the call as it read before'; 0 by the template 'total and deterministic' (their statements: YtfpckfameebdnacTotals.lean).
  GIVEN WITH THE SEED: the statements are not yours to turn. If you find one false, say at which input.
  Laid BY PROGRAM, IN A SANDBOX (cutbox-rows.mjs): the forced cells as the released guide's own fill.sh prints them over the translation 96b80dc5521f39d2… (all of the seat's roots in one cut). By AI agents, Wed Nov 11 2026. No macro, syntax, notation, axiom, sorry.
-/
import Derived.Test.YtfpckfameebdnacChecked
import GoSem.Claim
import GoSem.ClaimJoined
import GoSem.ClaimMapViews
import Derived.JoinedTies
import Derived.KernelRfl
namespace Go.Proofs.Ytfpckfameebdnac
/- THE CELL 'sum', in the pinned program and in every row, IS THE sha256 OF THE DUMP (.gsa) THAT YtfpckfameebdnacProg.lean LOADS. Nothing in Lean hashes anything: it is a label: what it is worth is what the hold of that sum in a sandbox is worth. -/
noncomputable def Try.pinned : Pinned := { name := "ytfpckfameebdnac", sum := "96b80dc5521f39d29aeb3bc98ee51ee1a6edde1f9ec69e38cf6dc76d0a2a0cdc", checked := Try.checked }
namespace Rows
def none {H : Type} : Left H := { results := [], args := [] }

/-- 'laws.FnExactLeadCounts': WHATEVER THE INPUT: true; the input reads as it did. -/
def fnExactLeadCountsSpec : ChangeSpec := { name := "fnExactLeadCounts", fn := fun _ => fun
  | [d] => { results := [.lit (.bool true)], args := [d] }
  | _ => none }
def fnExactLeadCountsRow : OpenClaim := { program := "ytfpckfameebdnac", sum := "96b80dc5521f39d29aeb3bc98ee51ee1a6edde1f9ec69e38cf6dc76d0a2a0cdc", func := "loop.example/g01131/laws.FnExactLeadCounts", spec := "fnExactLeadCounts", apart := false }
def FnExactLeadCountsSaid : Prop := fnExactLeadCountsRow.holds Try.pinned (OpenSpec.ofChange fnExactLeadCountsSpec)

/-- ITS FALSE NEIGHBOUR: 'it returns false'. Refute it at one input. -/
def fnExactLeadCountsWrong : ChangeSpec := { name := "fnExactLeadCounts", fn := fun _ => fun
  | [d] => { results := [.lit (.bool false)], args := [d] }
  | _ => none }
def FnExactLeadCountsWrongFalsely : Prop := fnExactLeadCountsRow.holds Try.pinned (OpenSpec.ofChange fnExactLeadCountsWrong)

/-- 'laws.FnExactTimidTable': WHATEVER THE INPUT: true; the input reads as it did. -/
def fnExactTimidTableSpec : ChangeSpec := { name := "fnExactTimidTable", fn := fun _ => fun
  | [d1, d2, d3, d4] => { results := [.lit (.bool true)], args := [d1, d2, d3, d4] }
  | _ => none }
def fnExactTimidTableRow : OpenClaim := { program := "ytfpckfameebdnac", sum := "96b80dc5521f39d29aeb3bc98ee51ee1a6edde1f9ec69e38cf6dc76d0a2a0cdc", func := "loop.example/g01131/laws.FnExactTimidTable", spec := "fnExactTimidTable", unfollowed := true, recurses := true, apart := false }
def FnExactTimidTableSaid : Prop := fnExactTimidTableRow.holds Try.pinned (OpenSpec.ofChange fnExactTimidTableSpec)

/-- ITS FALSE NEIGHBOUR: 'it returns false'. Refute it at one input. -/
def fnExactTimidTableWrong : ChangeSpec := { name := "fnExactTimidTable", fn := fun _ => fun
  | [d1, d2, d3, d4] => { results := [.lit (.bool false)], args := [d1, d2, d3, d4] }
  | _ => none }
def FnExactTimidTableWrongFalsely : Prop := fnExactTimidTableRow.holds Try.pinned (OpenSpec.ofChange fnExactTimidTableWrong)

/-- 'laws.FnExactBoldTable': WHATEVER THE INPUT: true; the input reads as it did. -/
def fnExactBoldTableSpec : ChangeSpec := { name := "fnExactBoldTable", fn := fun _ => fun
  | [d1, d2, d3, d4] => { results := [.lit (.bool true)], args := [d1, d2, d3, d4] }
  | _ => none }
def fnExactBoldTableRow : OpenClaim := { program := "ytfpckfameebdnac", sum := "96b80dc5521f39d29aeb3bc98ee51ee1a6edde1f9ec69e38cf6dc76d0a2a0cdc", func := "loop.example/g01131/laws.FnExactBoldTable", spec := "fnExactBoldTable", unfollowed := true, recurses := true, apart := false }
def FnExactBoldTableSaid : Prop := fnExactBoldTableRow.holds Try.pinned (OpenSpec.ofChange fnExactBoldTableSpec)

/-- ITS FALSE NEIGHBOUR: 'it returns false'. Refute it at one input. -/
def fnExactBoldTableWrong : ChangeSpec := { name := "fnExactBoldTable", fn := fun _ => fun
  | [d1, d2, d3, d4] => { results := [.lit (.bool false)], args := [d1, d2, d3, d4] }
  | _ => none }
def FnExactBoldTableWrongFalsely : Prop := fnExactBoldTableRow.holds Try.pinned (OpenSpec.ofChange fnExactBoldTableWrong)

/-- 'laws.FnExactBestStakeTable': WHATEVER THE INPUT: true; the input reads as it did. -/
def fnExactBestStakeTableSpec : ChangeSpec := { name := "fnExactBestStakeTable", fn := fun _ => fun
  | [d1, d2, d3, d4] => { results := [.lit (.bool true)], args := [d1, d2, d3, d4] }
  | _ => none }
def fnExactBestStakeTableRow : OpenClaim := { program := "ytfpckfameebdnac", sum := "96b80dc5521f39d29aeb3bc98ee51ee1a6edde1f9ec69e38cf6dc76d0a2a0cdc", func := "loop.example/g01131/laws.FnExactBestStakeTable", spec := "fnExactBestStakeTable", unfollowed := true, recurses := true, apart := false }
def FnExactBestStakeTableSaid : Prop := fnExactBestStakeTableRow.holds Try.pinned (OpenSpec.ofChange fnExactBestStakeTableSpec)

/-- ITS FALSE NEIGHBOUR: 'it returns false'. Refute it at one input. -/
def fnExactBestStakeTableWrong : ChangeSpec := { name := "fnExactBestStakeTable", fn := fun _ => fun
  | [d1, d2, d3, d4] => { results := [.lit (.bool false)], args := [d1, d2, d3, d4] }
  | _ => none }
def FnExactBestStakeTableWrongFalsely : Prop := fnExactBestStakeTableRow.holds Try.pinned (OpenSpec.ofChange fnExactBestStakeTableWrong)

/-- 'laws.FnExactStakeProof': WHATEVER THE INPUT: true; the input reads as it did. -/
def fnExactStakeProofSpec : ChangeSpec := { name := "fnExactStakeProof", fn := fun _ => fun
  | [d1, d2, d3, d4] => { results := [.lit (.bool true)], args := [d1, d2, d3, d4] }
  | _ => none }
def fnExactStakeProofRow : OpenClaim := { program := "ytfpckfameebdnac", sum := "96b80dc5521f39d29aeb3bc98ee51ee1a6edde1f9ec69e38cf6dc76d0a2a0cdc", func := "loop.example/g01131/laws.FnExactStakeProof", spec := "fnExactStakeProof", unfollowed := true, recurses := true, apart := false }
def FnExactStakeProofSaid : Prop := fnExactStakeProofRow.holds Try.pinned (OpenSpec.ofChange fnExactStakeProofSpec)

/-- ITS FALSE NEIGHBOUR: 'it returns false'. Refute it at one input. -/
def fnExactStakeProofWrong : ChangeSpec := { name := "fnExactStakeProof", fn := fun _ => fun
  | [d1, d2, d3, d4] => { results := [.lit (.bool false)], args := [d1, d2, d3, d4] }
  | _ => none }
def FnExactStakeProofWrongFalsely : Prop := fnExactStakeProofRow.holds Try.pinned (OpenSpec.ofChange fnExactStakeProofWrong)

/-- 'laws.FnRuin': WHATEVER THE INPUT: true; the input reads as it did. -/
def fnRuinSpec : ChangeSpec := { name := "fnRuin", fn := fun _ => fun
  | [d] => { results := [.lit (.bool true)], args := [d] }
  | _ => none }
def fnRuinRow : OpenClaim := { program := "ytfpckfameebdnac", sum := "96b80dc5521f39d29aeb3bc98ee51ee1a6edde1f9ec69e38cf6dc76d0a2a0cdc", func := "loop.example/g01131/laws.FnRuin", spec := "fnRuin", unfollowed := true, recurses := true, apart := false }
def FnRuinSaid : Prop := fnRuinRow.holds Try.pinned (OpenSpec.ofChange fnRuinSpec)

/-- ITS FALSE NEIGHBOUR: 'it returns false'. Refute it at one input. -/
def fnRuinWrong : ChangeSpec := { name := "fnRuin", fn := fun _ => fun
  | [d] => { results := [.lit (.bool false)], args := [d] }
  | _ => none }
def FnRuinWrongFalsely : Prop := fnRuinRow.holds Try.pinned (OpenSpec.ofChange fnRuinWrong)

/-- 'laws.FnPaths': WHATEVER THE INPUT: true; the input reads as it did. -/
def fnPathsSpec : ChangeSpec := { name := "fnPaths", fn := fun _ => fun
  | [d] => { results := [.lit (.bool true)], args := [d] }
  | _ => none }
def fnPathsRow : OpenClaim := { program := "ytfpckfameebdnac", sum := "96b80dc5521f39d29aeb3bc98ee51ee1a6edde1f9ec69e38cf6dc76d0a2a0cdc", func := "loop.example/g01131/laws.FnPaths", spec := "fnPaths", apart := false }
def FnPathsSaid : Prop := fnPathsRow.holds Try.pinned (OpenSpec.ofChange fnPathsSpec)

/-- ITS FALSE NEIGHBOUR: 'it returns false'. Refute it at one input. -/
def fnPathsWrong : ChangeSpec := { name := "fnPaths", fn := fun _ => fun
  | [d] => { results := [.lit (.bool false)], args := [d] }
  | _ => none }
def FnPathsWrongFalsely : Prop := fnPathsRow.holds Try.pinned (OpenSpec.ofChange fnPathsWrong)

/-- 'laws.FnReturns': WHATEVER THE INPUT: true; the input reads as it did. -/
def fnReturnsSpec : ChangeSpec := { name := "fnReturns", fn := fun _ => fun
  | [d] => { results := [.lit (.bool true)], args := [d] }
  | _ => none }
def fnReturnsRow : OpenClaim := { program := "ytfpckfameebdnac", sum := "96b80dc5521f39d29aeb3bc98ee51ee1a6edde1f9ec69e38cf6dc76d0a2a0cdc", func := "loop.example/g01131/laws.FnReturns", spec := "fnReturns", apart := false }
def FnReturnsSaid : Prop := fnReturnsRow.holds Try.pinned (OpenSpec.ofChange fnReturnsSpec)

/-- ITS FALSE NEIGHBOUR: 'it returns false'. Refute it at one input. -/
def fnReturnsWrong : ChangeSpec := { name := "fnReturns", fn := fun _ => fun
  | [d] => { results := [.lit (.bool false)], args := [d] }
  | _ => none }
def FnReturnsWrongFalsely : Prop := fnReturnsRow.holds Try.pinned (OpenSpec.ofChange fnReturnsWrong)

/-- 'laws.FnBoldPlay': WHATEVER THE INPUT: true; the input reads as it did. -/
def fnBoldPlaySpec : ChangeSpec := { name := "fnBoldPlay", fn := fun _ => fun
  | [d] => { results := [.lit (.bool true)], args := [d] }
  | _ => none }
def fnBoldPlayRow : OpenClaim := { program := "ytfpckfameebdnac", sum := "96b80dc5521f39d29aeb3bc98ee51ee1a6edde1f9ec69e38cf6dc76d0a2a0cdc", func := "loop.example/g01131/laws.FnBoldPlay", spec := "fnBoldPlay", unfollowed := true, recurses := true, apart := false }
def FnBoldPlaySaid : Prop := fnBoldPlayRow.holds Try.pinned (OpenSpec.ofChange fnBoldPlaySpec)

/-- ITS FALSE NEIGHBOUR: 'it returns false'. Refute it at one input. -/
def fnBoldPlayWrong : ChangeSpec := { name := "fnBoldPlay", fn := fun _ => fun
  | [d] => { results := [.lit (.bool false)], args := [d] }
  | _ => none }
def FnBoldPlayWrongFalsely : Prop := fnBoldPlayRow.holds Try.pinned (OpenSpec.ofChange fnBoldPlayWrong)

/- THE SECOND FORM. 'bulk': how many values and letters a reading holds, each counted each time it is reached (what is shared counts as often as it is met; a slice's spare places count too). A statement '..UptoSaid' is the law's where the arguments, and the package variables that the reading takes, are together of bulk at most 1048576: NARROWER than '..Said'. Prove '..Said' where nothing that the law and all that it calls make is longer than what came in: it says more and counts as full. Else prove '..UptoSaid'. A law counts once. -/
mutual
def uptoBulk {H : Type} : DataW H → Nat
  | .lit (.string bytes) => bytes.length + 1
  | .lit _ => 1
  | .nil => 1
  | .ptr d => uptoBulk d + 1
  | .slice elems spare => uptoBulkAll elems + uptoBulkAll spare + 1
  | .agg parts => uptoBulkAll parts + 1
  | .iface _ d => uptoBulk d + 1
  | .map entries => uptoBulkEntries entries + 1
  | .held _ => 1
def uptoBulkAll {H : Type} : List (DataW H) → Nat
  | [] => 0
  | d :: r => uptoBulk d + uptoBulkAll r
def uptoBulkEntries {H : Type} : List (Lit × DataW H) → Nat
  | [] => 0
  | x :: r => uptoBulkEntry x + uptoBulkEntries r
def uptoBulkEntry {H : Type} : Lit × DataW H → Nat
  | (.string bytes, d) => bytes.length + uptoBulk d + 1
  | (_, d) => uptoBulk d + 1
 end
def uptoSmall : (H : Type) → List (DataW H) → Bool := fun _ ds => decide (uptoBulkAll ds ≤ 1048576)
def OpenSpec.upto (s : _root_.Go.ChangeSpec) : _root_.Go.OpenSpec := { _root_.Go.OpenSpec.ofChange s with cond := some uptoSmall }

/-- 'laws.FnExactLeadCounts', WHERE WHAT IT READS IS OF BULK AT MOST 1048576: true; the input reads as it did. -/
def fnExactLeadCountsUptoRow : OpenClaim := { program := "ytfpckfameebdnac", sum := "96b80dc5521f39d29aeb3bc98ee51ee1a6edde1f9ec69e38cf6dc76d0a2a0cdc", func := "loop.example/g01131/laws.FnExactLeadCounts", spec := "fnExactLeadCounts", apart := false, narrowed := true }
def FnExactLeadCountsUptoSaid : Prop := fnExactLeadCountsUptoRow.holds Try.pinned (OpenSpec.upto fnExactLeadCountsSpec)

/-- 'laws.FnExactTimidTable', WHERE WHAT IT READS IS OF BULK AT MOST 1048576: true; the input reads as it did. -/
def fnExactTimidTableUptoRow : OpenClaim := { program := "ytfpckfameebdnac", sum := "96b80dc5521f39d29aeb3bc98ee51ee1a6edde1f9ec69e38cf6dc76d0a2a0cdc", func := "loop.example/g01131/laws.FnExactTimidTable", spec := "fnExactTimidTable", unfollowed := true, recurses := true, apart := false, narrowed := true }
def FnExactTimidTableUptoSaid : Prop := fnExactTimidTableUptoRow.holds Try.pinned (OpenSpec.upto fnExactTimidTableSpec)

/-- 'laws.FnExactBoldTable', WHERE WHAT IT READS IS OF BULK AT MOST 1048576: true; the input reads as it did. -/
def fnExactBoldTableUptoRow : OpenClaim := { program := "ytfpckfameebdnac", sum := "96b80dc5521f39d29aeb3bc98ee51ee1a6edde1f9ec69e38cf6dc76d0a2a0cdc", func := "loop.example/g01131/laws.FnExactBoldTable", spec := "fnExactBoldTable", unfollowed := true, recurses := true, apart := false, narrowed := true }
def FnExactBoldTableUptoSaid : Prop := fnExactBoldTableUptoRow.holds Try.pinned (OpenSpec.upto fnExactBoldTableSpec)

/-- 'laws.FnExactBestStakeTable', WHERE WHAT IT READS IS OF BULK AT MOST 1048576: true; the input reads as it did. -/
def fnExactBestStakeTableUptoRow : OpenClaim := { program := "ytfpckfameebdnac", sum := "96b80dc5521f39d29aeb3bc98ee51ee1a6edde1f9ec69e38cf6dc76d0a2a0cdc", func := "loop.example/g01131/laws.FnExactBestStakeTable", spec := "fnExactBestStakeTable", unfollowed := true, recurses := true, apart := false, narrowed := true }
def FnExactBestStakeTableUptoSaid : Prop := fnExactBestStakeTableUptoRow.holds Try.pinned (OpenSpec.upto fnExactBestStakeTableSpec)

/-- 'laws.FnExactStakeProof', WHERE WHAT IT READS IS OF BULK AT MOST 1048576: true; the input reads as it did. -/
def fnExactStakeProofUptoRow : OpenClaim := { program := "ytfpckfameebdnac", sum := "96b80dc5521f39d29aeb3bc98ee51ee1a6edde1f9ec69e38cf6dc76d0a2a0cdc", func := "loop.example/g01131/laws.FnExactStakeProof", spec := "fnExactStakeProof", unfollowed := true, recurses := true, apart := false, narrowed := true }
def FnExactStakeProofUptoSaid : Prop := fnExactStakeProofUptoRow.holds Try.pinned (OpenSpec.upto fnExactStakeProofSpec)

/-- 'laws.FnRuin', WHERE WHAT IT READS IS OF BULK AT MOST 1048576: true; the input reads as it did. -/
def fnRuinUptoRow : OpenClaim := { program := "ytfpckfameebdnac", sum := "96b80dc5521f39d29aeb3bc98ee51ee1a6edde1f9ec69e38cf6dc76d0a2a0cdc", func := "loop.example/g01131/laws.FnRuin", spec := "fnRuin", unfollowed := true, recurses := true, apart := false, narrowed := true }
def FnRuinUptoSaid : Prop := fnRuinUptoRow.holds Try.pinned (OpenSpec.upto fnRuinSpec)

/-- 'laws.FnPaths', WHERE WHAT IT READS IS OF BULK AT MOST 1048576: true; the input reads as it did. -/
def fnPathsUptoRow : OpenClaim := { program := "ytfpckfameebdnac", sum := "96b80dc5521f39d29aeb3bc98ee51ee1a6edde1f9ec69e38cf6dc76d0a2a0cdc", func := "loop.example/g01131/laws.FnPaths", spec := "fnPaths", apart := false, narrowed := true }
def FnPathsUptoSaid : Prop := fnPathsUptoRow.holds Try.pinned (OpenSpec.upto fnPathsSpec)

/-- 'laws.FnReturns', WHERE WHAT IT READS IS OF BULK AT MOST 1048576: true; the input reads as it did. -/
def fnReturnsUptoRow : OpenClaim := { program := "ytfpckfameebdnac", sum := "96b80dc5521f39d29aeb3bc98ee51ee1a6edde1f9ec69e38cf6dc76d0a2a0cdc", func := "loop.example/g01131/laws.FnReturns", spec := "fnReturns", apart := false, narrowed := true }
def FnReturnsUptoSaid : Prop := fnReturnsUptoRow.holds Try.pinned (OpenSpec.upto fnReturnsSpec)

/-- 'laws.FnBoldPlay', WHERE WHAT IT READS IS OF BULK AT MOST 1048576: true; the input reads as it did. -/
def fnBoldPlayUptoRow : OpenClaim := { program := "ytfpckfameebdnac", sum := "96b80dc5521f39d29aeb3bc98ee51ee1a6edde1f9ec69e38cf6dc76d0a2a0cdc", func := "loop.example/g01131/laws.FnBoldPlay", spec := "fnBoldPlay", unfollowed := true, recurses := true, apart := false, narrowed := true }
def FnBoldPlayUptoSaid : Prop := fnBoldPlayUptoRow.holds Try.pinned (OpenSpec.upto fnBoldPlaySpec)

end Rows
end Go.Proofs.Ytfpckfameebdnac
