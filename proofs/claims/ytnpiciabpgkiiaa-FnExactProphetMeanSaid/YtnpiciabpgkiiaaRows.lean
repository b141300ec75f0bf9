/-
  No cell of these rows narrows 'for every input' (looked for: loops, veiled, ifaces, maps, wideKeys, modest, calm, conditions, laid).
  DERIVED. THE GIVEN ROWS OF THIS SEAT. 9 by the template 'for every input the law returns true; each argument reads behind the call as it read before'; 0 by the template 'total and deterministic' (their statements: YtnpiciabpgkiiaaTotals.lean).
  GIVEN WITH THE SEED: the statements are not yours to turn. If you find one false, say at which input.
  Laid BY PROGRAM, IN A SANDBOX (cutbox-rows.mjs): the forced cells as the released guide's own fill.sh prints them over the translation 1297ad158e17c015… (all of the seat's roots in one cut). By AI agents, Wed Nov 11 2026. No macro, syntax, notation, axiom, sorry.
-/
import Derived.Test.YtnpiciabpgkiiaaChecked
import GoSem.Claim
import GoSem.ClaimJoined
import GoSem.ClaimMapViews
import Derived.JoinedTies
import Derived.KernelRfl
namespace Go.Proofs.Ytnpiciabpgkiiaa
/- THE CELL 'sum', in the pinned program and in every row, IS THE sha256 OF THE DUMP (.gsa) THAT YtnpiciabpgkiiaaProg.lean LOADS. Nothing in Lean hashes anything: it is a label: what it is worth is what the hold of that sum in a sandbox is worth. -/
noncomputable def Try.pinned : Pinned := { name := "ytnpiciabpgkiiaa", sum := "1297ad158e17c0152125cedeb2b80d66214c96856fe90881cba29b0b1f02f7b2", checked := Try.checked }
namespace Rows
def none {H : Type} : Left H := { results := [], args := [] }

/-- 'laws.FnExactIsLaw': WHATEVER THE INPUT: true; the input reads as it did. -/
def fnExactIsLawSpec : ChangeSpec := { name := "fnExactIsLaw", fn := fun _ => fun
  | [d] => { results := [.lit (.bool true)], args := [d] }
  | _ => none }
def fnExactIsLawRow : OpenClaim := { program := "ytnpiciabpgkiiaa", sum := "1297ad158e17c0152125cedeb2b80d66214c96856fe90881cba29b0b1f02f7b2", func := "loop.example/g01131/laws.FnExactIsLaw", spec := "fnExactIsLaw", unfollowed := true, recurses := true, apart := false }
def FnExactIsLawSaid : Prop := fnExactIsLawRow.holds Try.pinned (OpenSpec.ofChange fnExactIsLawSpec)

/-- ITS FALSE NEIGHBOUR: 'it returns false'. Refute it at one input. -/
def fnExactIsLawWrong : ChangeSpec := { name := "fnExactIsLaw", fn := fun _ => fun
  | [d] => { results := [.lit (.bool false)], args := [d] }
  | _ => none }
def FnExactIsLawWrongFalsely : Prop := fnExactIsLawRow.holds Try.pinned (OpenSpec.ofChange fnExactIsLawWrong)

/-- 'laws.FnExactLawMean': WHATEVER THE INPUT: true; the input reads as it did. -/
def fnExactLawMeanSpec : ChangeSpec := { name := "fnExactLawMean", fn := fun _ => fun
  | [d] => { results := [.lit (.bool true)], args := [d] }
  | _ => none }
def fnExactLawMeanRow : OpenClaim := { program := "ytnpiciabpgkiiaa", sum := "1297ad158e17c0152125cedeb2b80d66214c96856fe90881cba29b0b1f02f7b2", func := "loop.example/g01131/laws.FnExactLawMean", spec := "fnExactLawMean", unfollowed := true, recurses := true, apart := false }
def FnExactLawMeanSaid : Prop := fnExactLawMeanRow.holds Try.pinned (OpenSpec.ofChange fnExactLawMeanSpec)

/-- ITS FALSE NEIGHBOUR: 'it returns false'. Refute it at one input. -/
def fnExactLawMeanWrong : ChangeSpec := { name := "fnExactLawMean", fn := fun _ => fun
  | [d] => { results := [.lit (.bool false)], args := [d] }
  | _ => none }
def FnExactLawMeanWrongFalsely : Prop := fnExactLawMeanRow.holds Try.pinned (OpenSpec.ofChange fnExactLawMeanWrong)

/-- 'laws.FnExactBestOfLaws': WHATEVER THE INPUT: true; the input reads as it did. -/
def fnExactBestOfLawsSpec : ChangeSpec := { name := "fnExactBestOfLaws", fn := fun _ => fun
  | [d] => { results := [.lit (.bool true)], args := [d] }
  | _ => none }
def fnExactBestOfLawsRow : OpenClaim := { program := "ytnpiciabpgkiiaa", sum := "1297ad158e17c0152125cedeb2b80d66214c96856fe90881cba29b0b1f02f7b2", func := "loop.example/g01131/laws.FnExactBestOfLaws", spec := "fnExactBestOfLaws", unfollowed := true, recurses := true, apart := false }
def FnExactBestOfLawsSaid : Prop := fnExactBestOfLawsRow.holds Try.pinned (OpenSpec.ofChange fnExactBestOfLawsSpec)

/-- ITS FALSE NEIGHBOUR: 'it returns false'. Refute it at one input. -/
def fnExactBestOfLawsWrong : ChangeSpec := { name := "fnExactBestOfLaws", fn := fun _ => fun
  | [d] => { results := [.lit (.bool false)], args := [d] }
  | _ => none }
def FnExactBestOfLawsWrongFalsely : Prop := fnExactBestOfLawsRow.holds Try.pinned (OpenSpec.ofChange fnExactBestOfLawsWrong)

/-- 'laws.FnExactProphetMean': WHATEVER THE INPUT: true; the input reads as it did. -/
def fnExactProphetMeanSpec : ChangeSpec := { name := "fnExactProphetMean", fn := fun _ => fun
  | [d] => { results := [.lit (.bool true)], args := [d] }
  | _ => none }
def fnExactProphetMeanRow : OpenClaim := { program := "ytnpiciabpgkiiaa", sum := "1297ad158e17c0152125cedeb2b80d66214c96856fe90881cba29b0b1f02f7b2", func := "loop.example/g01131/laws.FnExactProphetMean", spec := "fnExactProphetMean", unfollowed := true, recurses := true, apart := false }
def FnExactProphetMeanSaid : Prop := fnExactProphetMeanRow.holds Try.pinned (OpenSpec.ofChange fnExactProphetMeanSpec)

/-- ITS FALSE NEIGHBOUR: 'it returns false'. Refute it at one input. -/
def fnExactProphetMeanWrong : ChangeSpec := { name := "fnExactProphetMean", fn := fun _ => fun
  | [d] => { results := [.lit (.bool false)], args := [d] }
  | _ => none }
def FnExactProphetMeanWrongFalsely : Prop := fnExactProphetMeanRow.holds Try.pinned (OpenSpec.ofChange fnExactProphetMeanWrong)

/-- 'laws.FnExactSecretaryChance': WHATEVER THE INPUT: true; the input reads as it did. -/
def fnExactSecretaryChanceSpec : ChangeSpec := { name := "fnExactSecretaryChance", fn := fun _ => fun
  | [d1, d2] => { results := [.lit (.bool true)], args := [d1, d2] }
  | _ => none }
def fnExactSecretaryChanceRow : OpenClaim := { program := "ytnpiciabpgkiiaa", sum := "1297ad158e17c0152125cedeb2b80d66214c96856fe90881cba29b0b1f02f7b2", func := "loop.example/g01131/laws.FnExactSecretaryChance", spec := "fnExactSecretaryChance", apart := false }
def FnExactSecretaryChanceSaid : Prop := fnExactSecretaryChanceRow.holds Try.pinned (OpenSpec.ofChange fnExactSecretaryChanceSpec)

/-- ITS FALSE NEIGHBOUR: 'it returns false'. Refute it at one input. -/
def fnExactSecretaryChanceWrong : ChangeSpec := { name := "fnExactSecretaryChance", fn := fun _ => fun
  | [d1, d2] => { results := [.lit (.bool false)], args := [d1, d2] }
  | _ => none }
def FnExactSecretaryChanceWrongFalsely : Prop := fnExactSecretaryChanceRow.holds Try.pinned (OpenSpec.ofChange fnExactSecretaryChanceWrong)

/-- 'laws.FnExactSecretaryBest': WHATEVER THE INPUT: true; the input reads as it did. -/
def fnExactSecretaryBestSpec : ChangeSpec := { name := "fnExactSecretaryBest", fn := fun _ => fun
  | [d] => { results := [.lit (.bool true)], args := [d] }
  | _ => none }
def fnExactSecretaryBestRow : OpenClaim := { program := "ytnpiciabpgkiiaa", sum := "1297ad158e17c0152125cedeb2b80d66214c96856fe90881cba29b0b1f02f7b2", func := "loop.example/g01131/laws.FnExactSecretaryBest", spec := "fnExactSecretaryBest", apart := false }
def FnExactSecretaryBestSaid : Prop := fnExactSecretaryBestRow.holds Try.pinned (OpenSpec.ofChange fnExactSecretaryBestSpec)

/-- ITS FALSE NEIGHBOUR: 'it returns false'. Refute it at one input. -/
def fnExactSecretaryBestWrong : ChangeSpec := { name := "fnExactSecretaryBest", fn := fun _ => fun
  | [d] => { results := [.lit (.bool false)], args := [d] }
  | _ => none }
def FnExactSecretaryBestWrongFalsely : Prop := fnExactSecretaryBestRow.holds Try.pinned (OpenSpec.ofChange fnExactSecretaryBestWrong)

/-- 'laws.FnExactIsBox': WHATEVER THE INPUT: true; the input reads as it did. -/
def fnExactIsBoxSpec : ChangeSpec := { name := "fnExactIsBox", fn := fun _ => fun
  | [d] => { results := [.lit (.bool true)], args := [d] }
  | _ => none }
def fnExactIsBoxRow : OpenClaim := { program := "ytnpiciabpgkiiaa", sum := "1297ad158e17c0152125cedeb2b80d66214c96856fe90881cba29b0b1f02f7b2", func := "loop.example/g01131/laws.FnExactIsBox", spec := "fnExactIsBox", unfollowed := true, recurses := true, apart := false }
def FnExactIsBoxSaid : Prop := fnExactIsBoxRow.holds Try.pinned (OpenSpec.ofChange fnExactIsBoxSpec)

/-- ITS FALSE NEIGHBOUR: 'it returns false'. Refute it at one input. -/
def fnExactIsBoxWrong : ChangeSpec := { name := "fnExactIsBox", fn := fun _ => fun
  | [d] => { results := [.lit (.bool false)], args := [d] }
  | _ => none }
def FnExactIsBoxWrongFalsely : Prop := fnExactIsBoxRow.holds Try.pinned (OpenSpec.ofChange fnExactIsBoxWrong)

/-- 'laws.FnExactBoxIndex': WHATEVER THE INPUT: true; the input reads as it did. -/
def fnExactBoxIndexSpec : ChangeSpec := { name := "fnExactBoxIndex", fn := fun _ => fun
  | [d] => { results := [.lit (.bool true)], args := [d] }
  | _ => none }
def fnExactBoxIndexRow : OpenClaim := { program := "ytnpiciabpgkiiaa", sum := "1297ad158e17c0152125cedeb2b80d66214c96856fe90881cba29b0b1f02f7b2", func := "loop.example/g01131/laws.FnExactBoxIndex", spec := "fnExactBoxIndex", unfollowed := true, recurses := true, apart := false }
def FnExactBoxIndexSaid : Prop := fnExactBoxIndexRow.holds Try.pinned (OpenSpec.ofChange fnExactBoxIndexSpec)

/-- ITS FALSE NEIGHBOUR: 'it returns false'. Refute it at one input. -/
def fnExactBoxIndexWrong : ChangeSpec := { name := "fnExactBoxIndex", fn := fun _ => fun
  | [d] => { results := [.lit (.bool false)], args := [d] }
  | _ => none }
def FnExactBoxIndexWrongFalsely : Prop := fnExactBoxIndexRow.holds Try.pinned (OpenSpec.ofChange fnExactBoxIndexWrong)

/-- 'laws.FnExactBoxOrder': WHATEVER THE INPUT: true; the input reads as it did. -/
def fnExactBoxOrderSpec : ChangeSpec := { name := "fnExactBoxOrder", fn := fun _ => fun
  | [d] => { results := [.lit (.bool true)], args := [d] }
  | _ => none }
def fnExactBoxOrderRow : OpenClaim := { program := "ytnpiciabpgkiiaa", sum := "1297ad158e17c0152125cedeb2b80d66214c96856fe90881cba29b0b1f02f7b2", func := "loop.example/g01131/laws.FnExactBoxOrder", spec := "fnExactBoxOrder", unfollowed := true, recurses := true, apart := false }
def FnExactBoxOrderSaid : Prop := fnExactBoxOrderRow.holds Try.pinned (OpenSpec.ofChange fnExactBoxOrderSpec)

/-- ITS FALSE NEIGHBOUR: 'it returns false'. Refute it at one input. -/
def fnExactBoxOrderWrong : ChangeSpec := { name := "fnExactBoxOrder", fn := fun _ => fun
  | [d] => { results := [.lit (.bool false)], args := [d] }
  | _ => none }
def FnExactBoxOrderWrongFalsely : Prop := fnExactBoxOrderRow.holds Try.pinned (OpenSpec.ofChange fnExactBoxOrderWrong)

/- THE SECOND FORM. 'bulk': how many values and letters a reading holds, each counted each time it is reached (what is shared counts as often as it is met; a slice's spare places count too). A statement '..UptoSaid' is the law's where the arguments, and the package variables that the reading takes, are together of bulk at most 1048576: NARROWER than '..Said'. Prove '..Said' where nothing that the law and all that it calls make is longer than what came in: it says more and counts as full. Else prove '..UptoSaid'. A law counts once. -/
mutual
def uptoBulk {H : Type} : DataW H → Nat
  | .lit (.string bytes) => bytes.length + 1
  | .lit _ => 1
  | .nil => 1
  | .ptr d => uptoBulk d + 1
  | .slice elems spare => uptoBulkAll elems + uptoBulkAll spare + 1
  | .agg parts => uptoBulkAll parts + 1
  | .iface _ d => uptoBulk d + 1
  | .map entries => uptoBulkEntries entries + 1
  | .held _ => 1
def uptoBulkAll {H : Type} : List (DataW H) → Nat
  | [] => 0
  | d :: r => uptoBulk d + uptoBulkAll r
def uptoBulkEntries {H : Type} : List (Lit × DataW H) → Nat
  | [] => 0
  | x :: r => uptoBulkEntry x + uptoBulkEntries r
def uptoBulkEntry {H : Type} : Lit × DataW H → Nat
  | (.string bytes, d) => bytes.length + uptoBulk d + 1
  | (_, d) => uptoBulk d + 1
 end
def uptoSmall : (H : Type) → List (DataW H) → Bool := fun _ ds => decide (uptoBulkAll ds ≤ 1048576)
def OpenSpec.upto (s : _root_.Go.ChangeSpec) : _root_.Go.OpenSpec := { _root_.Go.OpenSpec.ofChange s with cond := some uptoSmall }

/-- 'laws.FnExactIsLaw', WHERE WHAT IT READS IS OF BULK AT MOST 1048576: true; the input reads as it did. -/
def fnExactIsLawUptoRow : OpenClaim := { program := "ytnpiciabpgkiiaa", sum := "1297ad158e17c0152125cedeb2b80d66214c96856fe90881cba29b0b1f02f7b2", func := "loop.example/g01131/laws.FnExactIsLaw", spec := "fnExactIsLaw", unfollowed := true, recurses := true, apart := false, narrowed := true }
def FnExactIsLawUptoSaid : Prop := fnExactIsLawUptoRow.holds Try.pinned (OpenSpec.upto fnExactIsLawSpec)

/-- 'laws.FnExactLawMean', WHERE WHAT IT READS IS OF BULK AT MOST 1048576: true; the input reads as it did. -/
def fnExactLawMeanUptoRow : OpenClaim := { program := "ytnpiciabpgkiiaa", sum := "1297ad158e17c0152125cedeb2b80d66214c96856fe90881cba29b0b1f02f7b2", func := "loop.example/g01131/laws.FnExactLawMean", spec := "fnExactLawMean", unfollowed := true, recurses := true, apart := false, narrowed := true }
def FnExactLawMeanUptoSaid : Prop := fnExactLawMeanUptoRow.holds Try.pinned (OpenSpec.upto fnExactLawMeanSpec)

/-- 'laws.FnExactBestOfLaws', WHERE WHAT IT READS IS OF BULK AT MOST 1048576: true; the input reads as it did. -/
def fnExactBestOfLawsUptoRow : OpenClaim := { program := "ytnpiciabpgkiiaa", sum := "1297ad158e17c0152125cedeb2b80d66214c96856fe90881cba29b0b1f02f7b2", func := "loop.example/g01131/laws.FnExactBestOfLaws", spec := "fnExactBestOfLaws", unfollowed := true, recurses := true, apart := false, narrowed := true }
def FnExactBestOfLawsUptoSaid : Prop := fnExactBestOfLawsUptoRow.holds Try.pinned (OpenSpec.upto fnExactBestOfLawsSpec)

/-- 'laws.FnExactProphetMean', WHERE WHAT IT READS IS OF BULK AT MOST 1048576: true; the input reads as it did. -/
def fnExactProphetMeanUptoRow : OpenClaim := { program := "ytnpiciabpgkiiaa", sum := "1297ad158e17c0152125cedeb2b80d66214c96856fe90881cba29b0b1f02f7b2", func := "loop.example/g01131/laws.FnExactProphetMean", spec := "fnExactProphetMean", unfollowed := true, recurses := true, apart := false, narrowed := true }
def FnExactProphetMeanUptoSaid : Prop := fnExactProphetMeanUptoRow.holds Try.pinned (OpenSpec.upto fnExactProphetMeanSpec)

/-- 'laws.FnExactSecretaryChance', WHERE WHAT IT READS IS OF BULK AT MOST 1048576: true; the input reads as it did. -/
def fnExactSecretaryChanceUptoRow : OpenClaim := { program := "ytnpiciabpgkiiaa", sum := "1297ad158e17c0152125cedeb2b80d66214c96856fe90881cba29b0b1f02f7b2", func := "loop.example/g01131/laws.FnExactSecretaryChance", spec := "fnExactSecretaryChance", apart := false, narrowed := true }
def FnExactSecretaryChanceUptoSaid : Prop := fnExactSecretaryChanceUptoRow.holds Try.pinned (OpenSpec.upto fnExactSecretaryChanceSpec)

/-- 'laws.FnExactSecretaryBest', WHERE WHAT IT READS IS OF BULK AT MOST 1048576: true; the input reads as it did. -/
def fnExactSecretaryBestUptoRow : OpenClaim := { program := "ytnpiciabpgkiiaa", sum := "1297ad158e17c0152125cedeb2b80d66214c96856fe90881cba29b0b1f02f7b2", func := "loop.example/g01131/laws.FnExactSecretaryBest", spec := "fnExactSecretaryBest", apart := false, narrowed := true }
def FnExactSecretaryBestUptoSaid : Prop := fnExactSecretaryBestUptoRow.holds Try.pinned (OpenSpec.upto fnExactSecretaryBestSpec)

/-- 'laws.FnExactIsBox', WHERE WHAT IT READS IS OF BULK AT MOST 1048576: true; the input reads as it did. -/
def fnExactIsBoxUptoRow : OpenClaim := { program := "ytnpiciabpgkiiaa", sum := "1297ad158e17c0152125cedeb2b80d66214c96856fe90881cba29b0b1f02f7b2", func := "loop.example/g01131/laws.FnExactIsBox", spec := "fnExactIsBox", unfollowed := true, recurses := true, apart := false, narrowed := true }
def FnExactIsBoxUptoSaid : Prop := fnExactIsBoxUptoRow.holds Try.pinned (OpenSpec.upto fnExactIsBoxSpec)

/-- 'laws.FnExactBoxIndex', WHERE WHAT IT READS IS OF BULK AT MOST 1048576: true; the input reads as it did. -/
def fnExactBoxIndexUptoRow : OpenClaim := { program := "ytnpiciabpgkiiaa", sum := "1297ad158e17c0152125cedeb2b80d66214c96856fe90881cba29b0b1f02f7b2", func := "loop.example/g01131/laws.FnExactBoxIndex", spec := "fnExactBoxIndex", unfollowed := true, recurses := true, apart := false, narrowed := true }
def FnExactBoxIndexUptoSaid : Prop := fnExactBoxIndexUptoRow.holds Try.pinned (OpenSpec.upto fnExactBoxIndexSpec)

/-- 'laws.FnExactBoxOrder', WHERE WHAT IT READS IS OF BULK AT MOST 1048576: true; the input reads as it did. -/
def fnExactBoxOrderUptoRow : OpenClaim := { program := "ytnpiciabpgkiiaa", sum := "1297ad158e17c0152125cedeb2b80d66214c96856fe90881cba29b0b1f02f7b2", func := "loop.example/g01131/laws.FnExactBoxOrder", spec := "fnExactBoxOrder", unfollowed := true, recurses := true, apart := false, narrowed := true }
def FnExactBoxOrderUptoSaid : Prop := fnExactBoxOrderUptoRow.holds Try.pinned (OpenSpec.upto fnExactBoxOrderSpec)

end Rows
end Go.Proofs.Ytnpiciabpgkiiaa
