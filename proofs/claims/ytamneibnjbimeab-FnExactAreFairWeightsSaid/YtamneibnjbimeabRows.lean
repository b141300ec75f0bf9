/-
  No cell of these rows narrows 'for every input' (looked for: loops, veiled, ifaces, maps, wideKeys, modest, calm, conditions, laid).
  DERIVED. THE GIVEN ROWS OF THIS SEAT. 9 by the template 'for every input the law returns true; each argument reads behind the call as it read before'; 0 by the template 'total and deterministic' (their statements: YtamneibnjbimeabTotals.lean).
  GIVEN WITH THE SEED: the statements are not yours to turn. If you find one false, say at which input.
  Laid BY PROGRAM, IN A SANDBOX (cutbox-rows.mjs): the forced cells as the released guide's own fill.sh prints them over the translation 90b39517adf8903d… (all of the seat's roots in one cut). By AI agents, Wed Nov 11 2026. No macro, syntax, notation, axiom, sorry.
-/
import Derived.Test.YtamneibnjbimeabChecked
import GoSem.Claim
import GoSem.ClaimJoined
import GoSem.ClaimMapViews
import Derived.JoinedTies
import Derived.KernelRfl
namespace Go.Proofs.Ytamneibnjbimeab
/- THE CELL 'sum', in the pinned program and in every row, IS THE sha256 OF THE DUMP (.gsa) THAT YtamneibnjbimeabProg.lean LOADS. Nothing in Lean hashes anything: it is a label: what it is worth is what the hold of that sum in a sandbox is worth. -/
noncomputable def Try.pinned : Pinned := { name := "ytamneibnjbimeab", sum := "90b39517adf8903d4a55b394d3227ff4d30afc0e06c9cefa4de627d1076629ad", checked := Try.checked }
namespace Rows
def none {H : Type} : Left H := { results := [], args := [] }

/-- 'laws.FnExactPutClaims': WHATEVER THE INPUT: true; the input reads as it did. -/
def fnExactPutClaimsSpec : ChangeSpec := { name := "fnExactPutClaims", fn := fun _ => fun
  | [d1, d2] => { results := [.lit (.bool true)], args := [d1, d2] }
  | _ => none }
def fnExactPutClaimsRow : OpenClaim := { program := "ytamneibnjbimeab", sum := "90b39517adf8903d4a55b394d3227ff4d30afc0e06c9cefa4de627d1076629ad", func := "loop.example/g01131/laws.FnExactPutClaims", spec := "fnExactPutClaims", unfollowed := true, recurses := true, apart := false }
def FnExactPutClaimsSaid : Prop := fnExactPutClaimsRow.holds Try.pinned (OpenSpec.ofChange fnExactPutClaimsSpec)

/-- ITS FALSE NEIGHBOUR: 'it returns false'. Refute it at one input. -/
def fnExactPutClaimsWrong : ChangeSpec := { name := "fnExactPutClaims", fn := fun _ => fun
  | [d1, d2] => { results := [.lit (.bool false)], args := [d1, d2] }
  | _ => none }
def FnExactPutClaimsWrongFalsely : Prop := fnExactPutClaimsRow.holds Try.pinned (OpenSpec.ofChange fnExactPutClaimsWrong)

/-- 'laws.FnExactRowValue': WHATEVER THE INPUT: true; the input reads as it did. -/
def fnExactRowValueSpec : ChangeSpec := { name := "fnExactRowValue", fn := fun _ => fun
  | [d1, d2, d3, d4] => { results := [.lit (.bool true)], args := [d1, d2, d3, d4] }
  | _ => none }
def fnExactRowValueRow : OpenClaim := { program := "ytamneibnjbimeab", sum := "90b39517adf8903d4a55b394d3227ff4d30afc0e06c9cefa4de627d1076629ad", func := "loop.example/g01131/laws.FnExactRowValue", spec := "fnExactRowValue", unfollowed := true, recurses := true, apart := false }
def FnExactRowValueSaid : Prop := fnExactRowValueRow.holds Try.pinned (OpenSpec.ofChange fnExactRowValueSpec)

/-- ITS FALSE NEIGHBOUR: 'it returns false'. Refute it at one input. -/
def fnExactRowValueWrong : ChangeSpec := { name := "fnExactRowValue", fn := fun _ => fun
  | [d1, d2, d3, d4] => { results := [.lit (.bool false)], args := [d1, d2, d3, d4] }
  | _ => none }
def FnExactRowValueWrongFalsely : Prop := fnExactRowValueRow.holds Try.pinned (OpenSpec.ofChange fnExactRowValueWrong)

/-- 'laws.FnExactRowHolding': WHATEVER THE INPUT: true; the input reads as it did. -/
def fnExactRowHoldingSpec : ChangeSpec := { name := "fnExactRowHolding", fn := fun _ => fun
  | [d1, d2, d3, d4] => { results := [.lit (.bool true)], args := [d1, d2, d3, d4] }
  | _ => none }
def fnExactRowHoldingRow : OpenClaim := { program := "ytamneibnjbimeab", sum := "90b39517adf8903d4a55b394d3227ff4d30afc0e06c9cefa4de627d1076629ad", func := "loop.example/g01131/laws.FnExactRowHolding", spec := "fnExactRowHolding", unfollowed := true, recurses := true, apart := false }
def FnExactRowHoldingSaid : Prop := fnExactRowHoldingRow.holds Try.pinned (OpenSpec.ofChange fnExactRowHoldingSpec)

/-- ITS FALSE NEIGHBOUR: 'it returns false'. Refute it at one input. -/
def fnExactRowHoldingWrong : ChangeSpec := { name := "fnExactRowHolding", fn := fun _ => fun
  | [d1, d2, d3, d4] => { results := [.lit (.bool false)], args := [d1, d2, d3, d4] }
  | _ => none }
def FnExactRowHoldingWrongFalsely : Prop := fnExactRowHoldingRow.holds Try.pinned (OpenSpec.ofChange fnExactRowHoldingWrong)

/-- 'laws.FnExactRowEarly': WHATEVER THE INPUT: true; the input reads as it did. -/
def fnExactRowEarlySpec : ChangeSpec := { name := "fnExactRowEarly", fn := fun _ => fun
  | [d1, d2, d3, d4] => { results := [.lit (.bool true)], args := [d1, d2, d3, d4] }
  | _ => none }
def fnExactRowEarlyRow : OpenClaim := { program := "ytamneibnjbimeab", sum := "90b39517adf8903d4a55b394d3227ff4d30afc0e06c9cefa4de627d1076629ad", func := "loop.example/g01131/laws.FnExactRowEarly", spec := "fnExactRowEarly", unfollowed := true, recurses := true, apart := false }
def FnExactRowEarlySaid : Prop := fnExactRowEarlyRow.holds Try.pinned (OpenSpec.ofChange fnExactRowEarlySpec)

/-- ITS FALSE NEIGHBOUR: 'it returns false'. Refute it at one input. -/
def fnExactRowEarlyWrong : ChangeSpec := { name := "fnExactRowEarly", fn := fun _ => fun
  | [d1, d2, d3, d4] => { results := [.lit (.bool false)], args := [d1, d2, d3, d4] }
  | _ => none }
def FnExactRowEarlyWrongFalsely : Prop := fnExactRowEarlyRow.holds Try.pinned (OpenSpec.ofChange fnExactRowEarlyWrong)

/-- 'laws.FnExactRowMarket': WHATEVER THE INPUT: true; the input reads as it did. -/
def fnExactRowMarketSpec : ChangeSpec := { name := "fnExactRowMarket", fn := fun _ => fun
  | [d1, d2, d3, d4] => { results := [.lit (.bool true)], args := [d1, d2, d3, d4] }
  | _ => none }
def fnExactRowMarketRow : OpenClaim := { program := "ytamneibnjbimeab", sum := "90b39517adf8903d4a55b394d3227ff4d30afc0e06c9cefa4de627d1076629ad", func := "loop.example/g01131/laws.FnExactRowMarket", spec := "fnExactRowMarket", unfollowed := true, recurses := true, apart := false }
def FnExactRowMarketSaid : Prop := fnExactRowMarketRow.holds Try.pinned (OpenSpec.ofChange fnExactRowMarketSpec)

/-- ITS FALSE NEIGHBOUR: 'it returns false'. Refute it at one input. -/
def fnExactRowMarketWrong : ChangeSpec := { name := "fnExactRowMarket", fn := fun _ => fun
  | [d1, d2, d3, d4] => { results := [.lit (.bool false)], args := [d1, d2, d3, d4] }
  | _ => none }
def FnExactRowMarketWrongFalsely : Prop := fnExactRowMarketRow.holds Try.pinned (OpenSpec.ofChange fnExactRowMarketWrong)

/-- 'laws.FnExactAreFairWeights': WHATEVER THE INPUT: true; the input reads as it did. -/
def fnExactAreFairWeightsSpec : ChangeSpec := { name := "fnExactAreFairWeights", fn := fun _ => fun
  | [d1, d2] => { results := [.lit (.bool true)], args := [d1, d2] }
  | _ => none }
def fnExactAreFairWeightsRow : OpenClaim := { program := "ytamneibnjbimeab", sum := "90b39517adf8903d4a55b394d3227ff4d30afc0e06c9cefa4de627d1076629ad", func := "loop.example/g01131/laws.FnExactAreFairWeights", spec := "fnExactAreFairWeights", unfollowed := true, recurses := true, apart := false }
def FnExactAreFairWeightsSaid : Prop := fnExactAreFairWeightsRow.holds Try.pinned (OpenSpec.ofChange fnExactAreFairWeightsSpec)

/-- ITS FALSE NEIGHBOUR: 'it returns false'. Refute it at one input. -/
def fnExactAreFairWeightsWrong : ChangeSpec := { name := "fnExactAreFairWeights", fn := fun _ => fun
  | [d1, d2] => { results := [.lit (.bool false)], args := [d1, d2] }
  | _ => none }
def FnExactAreFairWeightsWrongFalsely : Prop := fnExactAreFairWeightsRow.holds Try.pinned (OpenSpec.ofChange fnExactAreFairWeightsWrong)

/-- 'laws.FnExactUpperPrices': WHATEVER THE INPUT: true; the input reads as it did. -/
def fnExactUpperPricesSpec : ChangeSpec := { name := "fnExactUpperPrices", fn := fun _ => fun
  | [d1, d2] => { results := [.lit (.bool true)], args := [d1, d2] }
  | _ => none }
def fnExactUpperPricesRow : OpenClaim := { program := "ytamneibnjbimeab", sum := "90b39517adf8903d4a55b394d3227ff4d30afc0e06c9cefa4de627d1076629ad", func := "loop.example/g01131/laws.FnExactUpperPrices", spec := "fnExactUpperPrices", unfollowed := true, recurses := true, apart := false }
def FnExactUpperPricesSaid : Prop := fnExactUpperPricesRow.holds Try.pinned (OpenSpec.ofChange fnExactUpperPricesSpec)

/-- ITS FALSE NEIGHBOUR: 'it returns false'. Refute it at one input. -/
def fnExactUpperPricesWrong : ChangeSpec := { name := "fnExactUpperPrices", fn := fun _ => fun
  | [d1, d2] => { results := [.lit (.bool false)], args := [d1, d2] }
  | _ => none }
def FnExactUpperPricesWrongFalsely : Prop := fnExactUpperPricesRow.holds Try.pinned (OpenSpec.ofChange fnExactUpperPricesWrong)

/-- 'laws.FnExactLowerPrices': WHATEVER THE INPUT: true; the input reads as it did. -/
def fnExactLowerPricesSpec : ChangeSpec := { name := "fnExactLowerPrices", fn := fun _ => fun
  | [d1, d2] => { results := [.lit (.bool true)], args := [d1, d2] }
  | _ => none }
def fnExactLowerPricesRow : OpenClaim := { program := "ytamneibnjbimeab", sum := "90b39517adf8903d4a55b394d3227ff4d30afc0e06c9cefa4de627d1076629ad", func := "loop.example/g01131/laws.FnExactLowerPrices", spec := "fnExactLowerPrices", unfollowed := true, recurses := true, apart := false }
def FnExactLowerPricesSaid : Prop := fnExactLowerPricesRow.holds Try.pinned (OpenSpec.ofChange fnExactLowerPricesSpec)

/-- ITS FALSE NEIGHBOUR: 'it returns false'. Refute it at one input. -/
def fnExactLowerPricesWrong : ChangeSpec := { name := "fnExactLowerPrices", fn := fun _ => fun
  | [d1, d2] => { results := [.lit (.bool false)], args := [d1, d2] }
  | _ => none }
def FnExactLowerPricesWrongFalsely : Prop := fnExactLowerPricesRow.holds Try.pinned (OpenSpec.ofChange fnExactLowerPricesWrong)

/-- 'laws.FnCalls': WHATEVER THE INPUT: true; the input reads as it did. -/
def fnCallsSpec : ChangeSpec := { name := "fnCalls", fn := fun _ => fun
  | [d] => { results := [.lit (.bool true)], args := [d] }
  | _ => none }
def fnCallsRow : OpenClaim := { program := "ytamneibnjbimeab", sum := "90b39517adf8903d4a55b394d3227ff4d30afc0e06c9cefa4de627d1076629ad", func := "loop.example/g01131/laws.FnCalls", spec := "fnCalls", unfollowed := true, recurses := true, apart := false }
def FnCallsSaid : Prop := fnCallsRow.holds Try.pinned (OpenSpec.ofChange fnCallsSpec)

/-- ITS FALSE NEIGHBOUR: 'it returns false'. Refute it at one input. -/
def fnCallsWrong : ChangeSpec := { name := "fnCalls", fn := fun _ => fun
  | [d] => { results := [.lit (.bool false)], args := [d] }
  | _ => none }
def FnCallsWrongFalsely : Prop := fnCallsRow.holds Try.pinned (OpenSpec.ofChange fnCallsWrong)

/- THE SECOND FORM. 'bulk': how many values and letters a reading holds, each counted each time it is reached (what is shared counts as often as it is met; a slice's spare places count too). A statement '..UptoSaid' is the law's where the arguments, and the package variables that the reading takes, are together of bulk at most 1048576: NARROWER than '..Said'. Prove '..Said' where nothing that the law and all that it calls make is longer than what came in: it says more and counts as full. Else prove '..UptoSaid'. A law counts once. -/
mutual
def uptoBulk {H : Type} : DataW H → Nat
  | .lit (.string bytes) => bytes.length + 1
  | .lit _ => 1
  | .nil => 1
  | .ptr d => uptoBulk d + 1
  | .slice elems spare => uptoBulkAll elems + uptoBulkAll spare + 1
  | .agg parts => uptoBulkAll parts + 1
  | .iface _ d => uptoBulk d + 1
  | .map entries => uptoBulkEntries entries + 1
  | .held _ => 1
def uptoBulkAll {H : Type} : List (DataW H) → Nat
  | [] => 0
  | d :: r => uptoBulk d + uptoBulkAll r
def uptoBulkEntries {H : Type} : List (Lit × DataW H) → Nat
  | [] => 0
  | x :: r => uptoBulkEntry x + uptoBulkEntries r
def uptoBulkEntry {H : Type} : Lit × DataW H → Nat
  | (.string bytes, d) => bytes.length + uptoBulk d + 1
  | (_, d) => uptoBulk d + 1
 end
def uptoSmall : (H : Type) → List (DataW H) → Bool := fun _ ds => decide (uptoBulkAll ds ≤ 1048576)
def OpenSpec.upto (s : _root_.Go.ChangeSpec) : _root_.Go.OpenSpec := { _root_.Go.OpenSpec.ofChange s with cond := some uptoSmall }

/-- 'laws.FnExactPutClaims', WHERE WHAT IT READS IS OF BULK AT MOST 1048576: true; the input reads as it did. -/
def fnExactPutClaimsUptoRow : OpenClaim := { program := "ytamneibnjbimeab", sum := "90b39517adf8903d4a55b394d3227ff4d30afc0e06c9cefa4de627d1076629ad", func := "loop.example/g01131/laws.FnExactPutClaims", spec := "fnExactPutClaims", unfollowed := true, recurses := true, apart := false, narrowed := true }
def FnExactPutClaimsUptoSaid : Prop := fnExactPutClaimsUptoRow.holds Try.pinned (OpenSpec.upto fnExactPutClaimsSpec)

/-- 'laws.FnExactRowValue', WHERE WHAT IT READS IS OF BULK AT MOST 1048576: true; the input reads as it did. -/
def fnExactRowValueUptoRow : OpenClaim := { program := "ytamneibnjbimeab", sum := "90b39517adf8903d4a55b394d3227ff4d30afc0e06c9cefa4de627d1076629ad", func := "loop.example/g01131/laws.FnExactRowValue", spec := "fnExactRowValue", unfollowed := true, recurses := true, apart := false, narrowed := true }
def FnExactRowValueUptoSaid : Prop := fnExactRowValueUptoRow.holds Try.pinned (OpenSpec.upto fnExactRowValueSpec)

/-- 'laws.FnExactRowHolding', WHERE WHAT IT READS IS OF BULK AT MOST 1048576: true; the input reads as it did. -/
def fnExactRowHoldingUptoRow : OpenClaim := { program := "ytamneibnjbimeab", sum := "90b39517adf8903d4a55b394d3227ff4d30afc0e06c9cefa4de627d1076629ad", func := "loop.example/g01131/laws.FnExactRowHolding", spec := "fnExactRowHolding", unfollowed := true, recurses := true, apart := false, narrowed := true }
def FnExactRowHoldingUptoSaid : Prop := fnExactRowHoldingUptoRow.holds Try.pinned (OpenSpec.upto fnExactRowHoldingSpec)

/-- 'laws.FnExactRowEarly', WHERE WHAT IT READS IS OF BULK AT MOST 1048576: true; the input reads as it did. -/
def fnExactRowEarlyUptoRow : OpenClaim := { program := "ytamneibnjbimeab", sum := "90b39517adf8903d4a55b394d3227ff4d30afc0e06c9cefa4de627d1076629ad", func := "loop.example/g01131/laws.FnExactRowEarly", spec := "fnExactRowEarly", unfollowed := true, recurses := true, apart := false, narrowed := true }
def FnExactRowEarlyUptoSaid : Prop := fnExactRowEarlyUptoRow.holds Try.pinned (OpenSpec.upto fnExactRowEarlySpec)

/-- 'laws.FnExactRowMarket', WHERE WHAT IT READS IS OF BULK AT MOST 1048576: true; the input reads as it did. -/
def fnExactRowMarketUptoRow : OpenClaim := { program := "ytamneibnjbimeab", sum := "90b39517adf8903d4a55b394d3227ff4d30afc0e06c9cefa4de627d1076629ad", func := "loop.example/g01131/laws.FnExactRowMarket", spec := "fnExactRowMarket", unfollowed := true, recurses := true, apart := false, narrowed := true }
def FnExactRowMarketUptoSaid : Prop := fnExactRowMarketUptoRow.holds Try.pinned (OpenSpec.upto fnExactRowMarketSpec)

/-- 'laws.FnExactAreFairWeights', WHERE WHAT IT READS IS OF BULK AT MOST 1048576: true; the input reads as it did. -/
def fnExactAreFairWeightsUptoRow : OpenClaim := { program := "ytamneibnjbimeab", sum := "90b39517adf8903d4a55b394d3227ff4d30afc0e06c9cefa4de627d1076629ad", func := "loop.example/g01131/laws.FnExactAreFairWeights", spec := "fnExactAreFairWeights", unfollowed := true, recurses := true, apart := false, narrowed := true }
def FnExactAreFairWeightsUptoSaid : Prop := fnExactAreFairWeightsUptoRow.holds Try.pinned (OpenSpec.upto fnExactAreFairWeightsSpec)

/-- 'laws.FnExactUpperPrices', WHERE WHAT IT READS IS OF BULK AT MOST 1048576: true; the input reads as it did. -/
def fnExactUpperPricesUptoRow : OpenClaim := { program := "ytamneibnjbimeab", sum := "90b39517adf8903d4a55b394d3227ff4d30afc0e06c9cefa4de627d1076629ad", func := "loop.example/g01131/laws.FnExactUpperPrices", spec := "fnExactUpperPrices", unfollowed := true, recurses := true, apart := false, narrowed := true }
def FnExactUpperPricesUptoSaid : Prop := fnExactUpperPricesUptoRow.holds Try.pinned (OpenSpec.upto fnExactUpperPricesSpec)

/-- 'laws.FnExactLowerPrices', WHERE WHAT IT READS IS OF BULK AT MOST 1048576: true; the input reads as it did. -/
def fnExactLowerPricesUptoRow : OpenClaim := { program := "ytamneibnjbimeab", sum := "90b39517adf8903d4a55b394d3227ff4d30afc0e06c9cefa4de627d1076629ad", func := "loop.example/g01131/laws.FnExactLowerPrices", spec := "fnExactLowerPrices", unfollowed := true, recurses := true, apart := false, narrowed := true }
def FnExactLowerPricesUptoSaid : Prop := fnExactLowerPricesUptoRow.holds Try.pinned (OpenSpec.upto fnExactLowerPricesSpec)

/-- 'laws.FnCalls', WHERE WHAT IT READS IS OF BULK AT MOST 1048576: true; the input reads as it did. -/
def fnCallsUptoRow : OpenClaim := { program := "ytamneibnjbimeab", sum := "90b39517adf8903d4a55b394d3227ff4d30afc0e06c9cefa4de627d1076629ad", func := "loop.example/g01131/laws.FnCalls", spec := "fnCalls", unfollowed := true, recurses := true, apart := false, narrowed := true }
def FnCallsUptoSaid : Prop := fnCallsUptoRow.holds Try.pinned (OpenSpec.upto fnCallsSpec)

end Rows
end Go.Proofs.Ytamneibnjbimeab
