/-
  No cell of these rows narrows 'for every input' (looked for: loops, veiled, ifaces, maps, wideKeys, modest, calm, conditions, laid).
  DERIVED. THE GIVEN ROWS OF THIS SEAT. 9 by the template 'for every input the law returns true; each argument reads behind the call as it read before'; 0 by the template 'total and deterministic' (their statements: YtagoodkaobcjaaaTotals.lean).
  GIVEN WITH THE SEED: the statements are not yours to turn. If you find one false, say at which input.
  Laid BY PROGRAM, IN A SANDBOX (cutbox-rows.mjs): the forced cells as the released guide's own fill.sh prints them over the translation b5b2249d7b4317b5… (all of the seat's roots in one cut). By AI agents, Wed Nov 11 2026. No macro, syntax, notation, axiom, sorry.
-/
import Derived.Test.YtagoodkaobcjaaaChecked
import GoSem.Claim
import GoSem.ClaimJoined
import GoSem.ClaimMapViews
import Derived.JoinedTies
import Derived.KernelRfl
namespace Go.Proofs.Ytagoodkaobcjaaa
/- THE CELL 'sum', in the pinned program and in every row, IS THE sha256 OF THE DUMP (.gsa) THAT YtagoodkaobcjaaaProg.lean LOADS. Nothing in Lean hashes anything: it is a label: what it is worth is what the hold of that sum in a sandbox is worth. -/
noncomputable def Try.pinned : Pinned := { name := "ytagoodkaobcjaaa", sum := "b5b2249d7b4317b51bfeb1277eb7136c43e4f496f9d3786cdbb0463b6b7eb88d", checked := Try.checked }
namespace Rows
def none {H : Type} : Left H := { results := [], args := [] }

/-- 'laws.FnExactDerangedCount': WHATEVER THE INPUT: true; the input reads as it did. -/
def fnExactDerangedCountSpec : ChangeSpec := { name := "fnExactDerangedCount", fn := fun _ => fun
  | [d] => { results := [.lit (.bool true)], args := [d] }
  | _ => none }
def fnExactDerangedCountRow : OpenClaim := { program := "ytagoodkaobcjaaa", sum := "b5b2249d7b4317b51bfeb1277eb7136c43e4f496f9d3786cdbb0463b6b7eb88d", func := "loop.example/g01131/laws.FnExactDerangedCount", spec := "fnExactDerangedCount", apart := false }
def FnExactDerangedCountSaid : Prop := fnExactDerangedCountRow.holds Try.pinned (OpenSpec.ofChange fnExactDerangedCountSpec)

/-- ITS FALSE NEIGHBOUR: 'it returns false'. Refute it at one input. -/
def fnExactDerangedCountWrong : ChangeSpec := { name := "fnExactDerangedCount", fn := fun _ => fun
  | [d] => { results := [.lit (.bool false)], args := [d] }
  | _ => none }
def FnExactDerangedCountWrongFalsely : Prop := fnExactDerangedCountRow.holds Try.pinned (OpenSpec.ofChange fnExactDerangedCountWrong)

/-- 'laws.FnExactMatchCounts': WHATEVER THE INPUT: true; the input reads as it did. -/
def fnExactMatchCountsSpec : ChangeSpec := { name := "fnExactMatchCounts", fn := fun _ => fun
  | [d] => { results := [.lit (.bool true)], args := [d] }
  | _ => none }
def fnExactMatchCountsRow : OpenClaim := { program := "ytagoodkaobcjaaa", sum := "b5b2249d7b4317b51bfeb1277eb7136c43e4f496f9d3786cdbb0463b6b7eb88d", func := "loop.example/g01131/laws.FnExactMatchCounts", spec := "fnExactMatchCounts", apart := false }
def FnExactMatchCountsSaid : Prop := fnExactMatchCountsRow.holds Try.pinned (OpenSpec.ofChange fnExactMatchCountsSpec)

/-- ITS FALSE NEIGHBOUR: 'it returns false'. Refute it at one input. -/
def fnExactMatchCountsWrong : ChangeSpec := { name := "fnExactMatchCounts", fn := fun _ => fun
  | [d] => { results := [.lit (.bool false)], args := [d] }
  | _ => none }
def FnExactMatchCountsWrongFalsely : Prop := fnExactMatchCountsRow.holds Try.pinned (OpenSpec.ofChange fnExactMatchCountsWrong)

/-- 'laws.FnExactRecordCounts': WHATEVER THE INPUT: true; the input reads as it did. -/
def fnExactRecordCountsSpec : ChangeSpec := { name := "fnExactRecordCounts", fn := fun _ => fun
  | [d] => { results := [.lit (.bool true)], args := [d] }
  | _ => none }
def fnExactRecordCountsRow : OpenClaim := { program := "ytagoodkaobcjaaa", sum := "b5b2249d7b4317b51bfeb1277eb7136c43e4f496f9d3786cdbb0463b6b7eb88d", func := "loop.example/g01131/laws.FnExactRecordCounts", spec := "fnExactRecordCounts", apart := false }
def FnExactRecordCountsSaid : Prop := fnExactRecordCountsRow.holds Try.pinned (OpenSpec.ofChange fnExactRecordCountsSpec)

/-- ITS FALSE NEIGHBOUR: 'it returns false'. Refute it at one input. -/
def fnExactRecordCountsWrong : ChangeSpec := { name := "fnExactRecordCounts", fn := fun _ => fun
  | [d] => { results := [.lit (.bool false)], args := [d] }
  | _ => none }
def FnExactRecordCountsWrongFalsely : Prop := fnExactRecordCountsRow.holds Try.pinned (OpenSpec.ofChange fnExactRecordCountsWrong)

/-- 'laws.FnExactCouponCounts': WHATEVER THE INPUT: true; the input reads as it did. -/
def fnExactCouponCountsSpec : ChangeSpec := { name := "fnExactCouponCounts", fn := fun _ => fun
  | [d1, d2] => { results := [.lit (.bool true)], args := [d1, d2] }
  | _ => none }
def fnExactCouponCountsRow : OpenClaim := { program := "ytagoodkaobcjaaa", sum := "b5b2249d7b4317b51bfeb1277eb7136c43e4f496f9d3786cdbb0463b6b7eb88d", func := "loop.example/g01131/laws.FnExactCouponCounts", spec := "fnExactCouponCounts", apart := false }
def FnExactCouponCountsSaid : Prop := fnExactCouponCountsRow.holds Try.pinned (OpenSpec.ofChange fnExactCouponCountsSpec)

/-- ITS FALSE NEIGHBOUR: 'it returns false'. Refute it at one input. -/
def fnExactCouponCountsWrong : ChangeSpec := { name := "fnExactCouponCounts", fn := fun _ => fun
  | [d1, d2] => { results := [.lit (.bool false)], args := [d1, d2] }
  | _ => none }
def FnExactCouponCountsWrongFalsely : Prop := fnExactCouponCountsRow.holds Try.pinned (OpenSpec.ofChange fnExactCouponCountsWrong)

/-- 'laws.FnExactRecordMean': WHATEVER THE INPUT: true; the input reads as it did. -/
def fnExactRecordMeanSpec : ChangeSpec := { name := "fnExactRecordMean", fn := fun _ => fun
  | [d] => { results := [.lit (.bool true)], args := [d] }
  | _ => none }
def fnExactRecordMeanRow : OpenClaim := { program := "ytagoodkaobcjaaa", sum := "b5b2249d7b4317b51bfeb1277eb7136c43e4f496f9d3786cdbb0463b6b7eb88d", func := "loop.example/g01131/laws.FnExactRecordMean", spec := "fnExactRecordMean", apart := false }
def FnExactRecordMeanSaid : Prop := fnExactRecordMeanRow.holds Try.pinned (OpenSpec.ofChange fnExactRecordMeanSpec)

/-- ITS FALSE NEIGHBOUR: 'it returns false'. Refute it at one input. -/
def fnExactRecordMeanWrong : ChangeSpec := { name := "fnExactRecordMean", fn := fun _ => fun
  | [d] => { results := [.lit (.bool false)], args := [d] }
  | _ => none }
def FnExactRecordMeanWrongFalsely : Prop := fnExactRecordMeanRow.holds Try.pinned (OpenSpec.ofChange fnExactRecordMeanWrong)

/-- 'laws.FnExactCouponMean': WHATEVER THE INPUT: true; the input reads as it did. -/
def fnExactCouponMeanSpec : ChangeSpec := { name := "fnExactCouponMean", fn := fun _ => fun
  | [d] => { results := [.lit (.bool true)], args := [d] }
  | _ => none }
def fnExactCouponMeanRow : OpenClaim := { program := "ytagoodkaobcjaaa", sum := "b5b2249d7b4317b51bfeb1277eb7136c43e4f496f9d3786cdbb0463b6b7eb88d", func := "loop.example/g01131/laws.FnExactCouponMean", spec := "fnExactCouponMean", apart := false }
def FnExactCouponMeanSaid : Prop := fnExactCouponMeanRow.holds Try.pinned (OpenSpec.ofChange fnExactCouponMeanSpec)

/-- ITS FALSE NEIGHBOUR: 'it returns false'. Refute it at one input. -/
def fnExactCouponMeanWrong : ChangeSpec := { name := "fnExactCouponMean", fn := fun _ => fun
  | [d] => { results := [.lit (.bool false)], args := [d] }
  | _ => none }
def FnExactCouponMeanWrongFalsely : Prop := fnExactCouponMeanRow.holds Try.pinned (OpenSpec.ofChange fnExactCouponMeanWrong)

/-- 'laws.FnExactUrnMean': WHATEVER THE INPUT: true; the input reads as it did. -/
def fnExactUrnMeanSpec : ChangeSpec := { name := "fnExactUrnMean", fn := fun _ => fun
  | [d1, d2, d3, d4] => { results := [.lit (.bool true)], args := [d1, d2, d3, d4] }
  | _ => none }
def fnExactUrnMeanRow : OpenClaim := { program := "ytagoodkaobcjaaa", sum := "b5b2249d7b4317b51bfeb1277eb7136c43e4f496f9d3786cdbb0463b6b7eb88d", func := "loop.example/g01131/laws.FnExactUrnMean", spec := "fnExactUrnMean", apart := false }
def FnExactUrnMeanSaid : Prop := fnExactUrnMeanRow.holds Try.pinned (OpenSpec.ofChange fnExactUrnMeanSpec)

/-- ITS FALSE NEIGHBOUR: 'it returns false'. Refute it at one input. -/
def fnExactUrnMeanWrong : ChangeSpec := { name := "fnExactUrnMean", fn := fun _ => fun
  | [d1, d2, d3, d4] => { results := [.lit (.bool false)], args := [d1, d2, d3, d4] }
  | _ => none }
def FnExactUrnMeanWrongFalsely : Prop := fnExactUrnMeanRow.holds Try.pinned (OpenSpec.ofChange fnExactUrnMeanWrong)

/-- 'laws.FnExactUrnChance': WHATEVER THE INPUT: true; the input reads as it did. -/
def fnExactUrnChanceSpec : ChangeSpec := { name := "fnExactUrnChance", fn := fun _ => fun
  | [d1, d2, d3, d4] => { results := [.lit (.bool true)], args := [d1, d2, d3, d4] }
  | _ => none }
def fnExactUrnChanceRow : OpenClaim := { program := "ytagoodkaobcjaaa", sum := "b5b2249d7b4317b51bfeb1277eb7136c43e4f496f9d3786cdbb0463b6b7eb88d", func := "loop.example/g01131/laws.FnExactUrnChance", spec := "fnExactUrnChance", unfollowed := true, recurses := true, apart := false }
def FnExactUrnChanceSaid : Prop := fnExactUrnChanceRow.holds Try.pinned (OpenSpec.ofChange fnExactUrnChanceSpec)

/-- ITS FALSE NEIGHBOUR: 'it returns false'. Refute it at one input. -/
def fnExactUrnChanceWrong : ChangeSpec := { name := "fnExactUrnChance", fn := fun _ => fun
  | [d1, d2, d3, d4] => { results := [.lit (.bool false)], args := [d1, d2, d3, d4] }
  | _ => none }
def FnExactUrnChanceWrongFalsely : Prop := fnExactUrnChanceRow.holds Try.pinned (OpenSpec.ofChange fnExactUrnChanceWrong)

/-- 'laws.FnExactUrnCounts': WHATEVER THE INPUT: true; the input reads as it did. -/
def fnExactUrnCountsSpec : ChangeSpec := { name := "fnExactUrnCounts", fn := fun _ => fun
  | [d1, d2, d3, d4] => { results := [.lit (.bool true)], args := [d1, d2, d3, d4] }
  | _ => none }
def fnExactUrnCountsRow : OpenClaim := { program := "ytagoodkaobcjaaa", sum := "b5b2249d7b4317b51bfeb1277eb7136c43e4f496f9d3786cdbb0463b6b7eb88d", func := "loop.example/g01131/laws.FnExactUrnCounts", spec := "fnExactUrnCounts", apart := false }
def FnExactUrnCountsSaid : Prop := fnExactUrnCountsRow.holds Try.pinned (OpenSpec.ofChange fnExactUrnCountsSpec)

/-- ITS FALSE NEIGHBOUR: 'it returns false'. Refute it at one input. -/
def fnExactUrnCountsWrong : ChangeSpec := { name := "fnExactUrnCounts", fn := fun _ => fun
  | [d1, d2, d3, d4] => { results := [.lit (.bool false)], args := [d1, d2, d3, d4] }
  | _ => none }
def FnExactUrnCountsWrongFalsely : Prop := fnExactUrnCountsRow.holds Try.pinned (OpenSpec.ofChange fnExactUrnCountsWrong)

/- THE SECOND FORM. 'bulk': how many values and letters a reading holds, each counted each time it is reached (what is shared counts as often as it is met; a slice's spare places count too). A statement '..UptoSaid' is the law's where the arguments, and the package variables that the reading takes, are together of bulk at most 1048576: NARROWER than '..Said'. Prove '..Said' where nothing that the law and all that it calls make is longer than what came in: it says more and counts as full. Else prove '..UptoSaid'. A law counts once. -/
mutual
def uptoBulk {H : Type} : DataW H → Nat
  | .lit (.string bytes) => bytes.length + 1
  | .lit _ => 1
  | .nil => 1
  | .ptr d => uptoBulk d + 1
  | .slice elems spare => uptoBulkAll elems + uptoBulkAll spare + 1
  | .agg parts => uptoBulkAll parts + 1
  | .iface _ d => uptoBulk d + 1
  | .map entries => uptoBulkEntries entries + 1
  | .held _ => 1
def uptoBulkAll {H : Type} : List (DataW H) → Nat
  | [] => 0
  | d :: r => uptoBulk d + uptoBulkAll r
def uptoBulkEntries {H : Type} : List (Lit × DataW H) → Nat
  | [] => 0
  | x :: r => uptoBulkEntry x + uptoBulkEntries r
def uptoBulkEntry {H : Type} : Lit × DataW H → Nat
  | (.string bytes, d) => bytes.length + uptoBulk d + 1
  | (_, d) => uptoBulk d + 1
 end
def uptoSmall : (H : Type) → List (DataW H) → Bool := fun _ ds => decide (uptoBulkAll ds ≤ 1048576)
def OpenSpec.upto (s : _root_.Go.ChangeSpec) : _root_.Go.OpenSpec := { _root_.Go.OpenSpec.ofChange s with cond := some uptoSmall }

/-- 'laws.FnExactDerangedCount', WHERE WHAT IT READS IS OF BULK AT MOST 1048576: true; the input reads as it did. -/
def fnExactDerangedCountUptoRow : OpenClaim := { program := "ytagoodkaobcjaaa", sum := "b5b2249d7b4317b51bfeb1277eb7136c43e4f496f9d3786cdbb0463b6b7eb88d", func := "loop.example/g01131/laws.FnExactDerangedCount", spec := "fnExactDerangedCount", apart := false, narrowed := true }
def FnExactDerangedCountUptoSaid : Prop := fnExactDerangedCountUptoRow.holds Try.pinned (OpenSpec.upto fnExactDerangedCountSpec)

/-- 'laws.FnExactMatchCounts', WHERE WHAT IT READS IS OF BULK AT MOST 1048576: true; the input reads as it did. -/
def fnExactMatchCountsUptoRow : OpenClaim := { program := "ytagoodkaobcjaaa", sum := "b5b2249d7b4317b51bfeb1277eb7136c43e4f496f9d3786cdbb0463b6b7eb88d", func := "loop.example/g01131/laws.FnExactMatchCounts", spec := "fnExactMatchCounts", apart := false, narrowed := true }
def FnExactMatchCountsUptoSaid : Prop := fnExactMatchCountsUptoRow.holds Try.pinned (OpenSpec.upto fnExactMatchCountsSpec)

/-- 'laws.FnExactRecordCounts', WHERE WHAT IT READS IS OF BULK AT MOST 1048576: true; the input reads as it did. -/
def fnExactRecordCountsUptoRow : OpenClaim := { program := "ytagoodkaobcjaaa", sum := "b5b2249d7b4317b51bfeb1277eb7136c43e4f496f9d3786cdbb0463b6b7eb88d", func := "loop.example/g01131/laws.FnExactRecordCounts", spec := "fnExactRecordCounts", apart := false, narrowed := true }
def FnExactRecordCountsUptoSaid : Prop := fnExactRecordCountsUptoRow.holds Try.pinned (OpenSpec.upto fnExactRecordCountsSpec)

/-- 'laws.FnExactCouponCounts', WHERE WHAT IT READS IS OF BULK AT MOST 1048576: true; the input reads as it did. -/
def fnExactCouponCountsUptoRow : OpenClaim := { program := "ytagoodkaobcjaaa", sum := "b5b2249d7b4317b51bfeb1277eb7136c43e4f496f9d3786cdbb0463b6b7eb88d", func := "loop.example/g01131/laws.FnExactCouponCounts", spec := "fnExactCouponCounts", apart := false, narrowed := true }
def FnExactCouponCountsUptoSaid : Prop := fnExactCouponCountsUptoRow.holds Try.pinned (OpenSpec.upto fnExactCouponCountsSpec)

/-- 'laws.FnExactRecordMean', WHERE WHAT IT READS IS OF BULK AT MOST 1048576: true; the input reads as it did. -/
def fnExactRecordMeanUptoRow : OpenClaim := { program := "ytagoodkaobcjaaa", sum := "b5b2249d7b4317b51bfeb1277eb7136c43e4f496f9d3786cdbb0463b6b7eb88d", func := "loop.example/g01131/laws.FnExactRecordMean", spec := "fnExactRecordMean", apart := false, narrowed := true }
def FnExactRecordMeanUptoSaid : Prop := fnExactRecordMeanUptoRow.holds Try.pinned (OpenSpec.upto fnExactRecordMeanSpec)

/-- 'laws.FnExactCouponMean', WHERE WHAT IT READS IS OF BULK AT MOST 1048576: true; the input reads as it did. -/
def fnExactCouponMeanUptoRow : OpenClaim := { program := "ytagoodkaobcjaaa", sum := "b5b2249d7b4317b51bfeb1277eb7136c43e4f496f9d3786cdbb0463b6b7eb88d", func := "loop.example/g01131/laws.FnExactCouponMean", spec := "fnExactCouponMean", apart := false, narrowed := true }
def FnExactCouponMeanUptoSaid : Prop := fnExactCouponMeanUptoRow.holds Try.pinned (OpenSpec.upto fnExactCouponMeanSpec)

/-- 'laws.FnExactUrnMean', WHERE WHAT IT READS IS OF BULK AT MOST 1048576: true; the input reads as it did. -/
def fnExactUrnMeanUptoRow : OpenClaim := { program := "ytagoodkaobcjaaa", sum := "b5b2249d7b4317b51bfeb1277eb7136c43e4f496f9d3786cdbb0463b6b7eb88d", func := "loop.example/g01131/laws.FnExactUrnMean", spec := "fnExactUrnMean", apart := false, narrowed := true }
def FnExactUrnMeanUptoSaid : Prop := fnExactUrnMeanUptoRow.holds Try.pinned (OpenSpec.upto fnExactUrnMeanSpec)

/-- 'laws.FnExactUrnChance', WHERE WHAT IT READS IS OF BULK AT MOST 1048576: true; the input reads as it did. -/
def fnExactUrnChanceUptoRow : OpenClaim := { program := "ytagoodkaobcjaaa", sum := "b5b2249d7b4317b51bfeb1277eb7136c43e4f496f9d3786cdbb0463b6b7eb88d", func := "loop.example/g01131/laws.FnExactUrnChance", spec := "fnExactUrnChance", unfollowed := true, recurses := true, apart := false, narrowed := true }
def FnExactUrnChanceUptoSaid : Prop := fnExactUrnChanceUptoRow.holds Try.pinned (OpenSpec.upto fnExactUrnChanceSpec)

/-- 'laws.FnExactUrnCounts', WHERE WHAT IT READS IS OF BULK AT MOST 1048576: true; the input reads as it did. -/
def fnExactUrnCountsUptoRow : OpenClaim := { program := "ytagoodkaobcjaaa", sum := "b5b2249d7b4317b51bfeb1277eb7136c43e4f496f9d3786cdbb0463b6b7eb88d", func := "loop.example/g01131/laws.FnExactUrnCounts", spec := "fnExactUrnCounts", apart := false, narrowed := true }
def FnExactUrnCountsUptoSaid : Prop := fnExactUrnCountsUptoRow.holds Try.pinned (OpenSpec.upto fnExactUrnCountsSpec)

end Rows
end Go.Proofs.Ytagoodkaobcjaaa
