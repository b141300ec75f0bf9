/-
  No cell of these rows narrows 'for every input' (looked for: loops, veiled, ifaces, maps, wideKeys, modest, calm, conditions, laid).
  DERIVED. THE GIVEN ROWS OF THIS SEAT. 9 by the template 'for every input the law returns true; each argument reads behind the call as it read before'; 0 by the template 'total and deterministic' (their statements: YtagoodkaobcjaabTotals.lean).
  GIVEN WITH THE SEED: the statements are not yours to turn. If you find one false, say at which input.
  Laid BY PROGRAM, IN A SANDBOX (cutbox-rows.mjs): the forced cells as the released guide's own fill.sh prints them over the translation c01fb0d6f78f1217… (all of the seat's roots in one cut). By AI agents, Wed Nov 11 2026. No macro, syntax, notation, axiom, sorry.
-/
import Derived.Test.YtagoodkaobcjaabChecked
import GoSem.Claim
import GoSem.ClaimJoined
import GoSem.ClaimMapViews
import Derived.JoinedTies
import Derived.KernelRfl
namespace Go.Proofs.Ytagoodkaobcjaab
/- THE CELL 'sum', in the pinned program and in every row, IS THE sha256 OF THE DUMP (.gsa) THAT YtagoodkaobcjaabProg.lean LOADS. Nothing in Lean hashes anything: it is a label: what it is worth is what the hold of that sum in a sandbox is worth. -/
noncomputable def Try.pinned : Pinned := { name := "ytagoodkaobcjaab", sum := "c01fb0d6f78f12173579db3730231f49ba490d3ae786da97aae9fd737b9a8656", checked := Try.checked }
namespace Rows
def none {H : Type} : Left H := { results := [], args := [] }

/-- 'laws.FnExactOverlapsOf': WHATEVER THE INPUT: true; the input reads as it did. -/
def fnExactOverlapsOfSpec : ChangeSpec := { name := "fnExactOverlapsOf", fn := fun _ => fun
  | [d1, d2, d3] => { results := [.lit (.bool true)], args := [d1, d2, d3] }
  | _ => none }
def fnExactOverlapsOfRow : OpenClaim := { program := "ytagoodkaobcjaab", sum := "c01fb0d6f78f12173579db3730231f49ba490d3ae786da97aae9fd737b9a8656", func := "loop.example/g01131/laws.FnExactOverlapsOf", spec := "fnExactOverlapsOf", unfollowed := true, recurses := true, apart := false }
def FnExactOverlapsOfSaid : Prop := fnExactOverlapsOfRow.holds Try.pinned (OpenSpec.ofChange fnExactOverlapsOfSpec)

/-- ITS FALSE NEIGHBOUR: 'it returns false'. Refute it at one input. -/
def fnExactOverlapsOfWrong : ChangeSpec := { name := "fnExactOverlapsOf", fn := fun _ => fun
  | [d1, d2, d3] => { results := [.lit (.bool false)], args := [d1, d2, d3] }
  | _ => none }
def FnExactOverlapsOfWrongFalsely : Prop := fnExactOverlapsOfRow.holds Try.pinned (OpenSpec.ofChange fnExactOverlapsOfWrong)

/-- 'laws.FnExactWordWait': WHATEVER THE INPUT: true; the input reads as it did. -/
def fnExactWordWaitSpec : ChangeSpec := { name := "fnExactWordWait", fn := fun _ => fun
  | [d1, d2] => { results := [.lit (.bool true)], args := [d1, d2] }
  | _ => none }
def fnExactWordWaitRow : OpenClaim := { program := "ytagoodkaobcjaab", sum := "c01fb0d6f78f12173579db3730231f49ba490d3ae786da97aae9fd737b9a8656", func := "loop.example/g01131/laws.FnExactWordWait", spec := "fnExactWordWait", unfollowed := true, recurses := true, apart := false }
def FnExactWordWaitSaid : Prop := fnExactWordWaitRow.holds Try.pinned (OpenSpec.ofChange fnExactWordWaitSpec)

/-- ITS FALSE NEIGHBOUR: 'it returns false'. Refute it at one input. -/
def fnExactWordWaitWrong : ChangeSpec := { name := "fnExactWordWait", fn := fun _ => fun
  | [d1, d2] => { results := [.lit (.bool false)], args := [d1, d2] }
  | _ => none }
def FnExactWordWaitWrongFalsely : Prop := fnExactWordWaitRow.holds Try.pinned (OpenSpec.ofChange fnExactWordWaitWrong)

/-- 'laws.FnExactFirstFound': WHATEVER THE INPUT: true; the input reads as it did. -/
def fnExactFirstFoundSpec : ChangeSpec := { name := "fnExactFirstFound", fn := fun _ => fun
  | [d1, d2, d3] => { results := [.lit (.bool true)], args := [d1, d2, d3] }
  | _ => none }
def fnExactFirstFoundRow : OpenClaim := { program := "ytagoodkaobcjaab", sum := "c01fb0d6f78f12173579db3730231f49ba490d3ae786da97aae9fd737b9a8656", func := "loop.example/g01131/laws.FnExactFirstFound", spec := "fnExactFirstFound", unfollowed := true, recurses := true, apart := false }
def FnExactFirstFoundSaid : Prop := fnExactFirstFoundRow.holds Try.pinned (OpenSpec.ofChange fnExactFirstFoundSpec)

/-- ITS FALSE NEIGHBOUR: 'it returns false'. Refute it at one input. -/
def fnExactFirstFoundWrong : ChangeSpec := { name := "fnExactFirstFound", fn := fun _ => fun
  | [d1, d2, d3] => { results := [.lit (.bool false)], args := [d1, d2, d3] }
  | _ => none }
def FnExactFirstFoundWrongFalsely : Prop := fnExactFirstFoundRow.holds Try.pinned (OpenSpec.ofChange fnExactFirstFoundWrong)

/-- 'laws.FnExactTeamWins': WHATEVER THE INPUT: true; the input reads as it did. -/
def fnExactTeamWinsSpec : ChangeSpec := { name := "fnExactTeamWins", fn := fun _ => fun
  | [d1, d2, d3] => { results := [.lit (.bool true)], args := [d1, d2, d3] }
  | _ => none }
def fnExactTeamWinsRow : OpenClaim := { program := "ytagoodkaobcjaab", sum := "c01fb0d6f78f12173579db3730231f49ba490d3ae786da97aae9fd737b9a8656", func := "loop.example/g01131/laws.FnExactTeamWins", spec := "fnExactTeamWins", unfollowed := true, recurses := true, apart := false }
def FnExactTeamWinsSaid : Prop := fnExactTeamWinsRow.holds Try.pinned (OpenSpec.ofChange fnExactTeamWinsSpec)

/-- ITS FALSE NEIGHBOUR: 'it returns false'. Refute it at one input. -/
def fnExactTeamWinsWrong : ChangeSpec := { name := "fnExactTeamWins", fn := fun _ => fun
  | [d1, d2, d3] => { results := [.lit (.bool false)], args := [d1, d2, d3] }
  | _ => none }
def FnExactTeamWinsWrongFalsely : Prop := fnExactTeamWinsRow.holds Try.pinned (OpenSpec.ofChange fnExactTeamWinsWrong)

/-- 'laws.FnExactWordOdds': WHATEVER THE INPUT: true; the input reads as it did. -/
def fnExactWordOddsSpec : ChangeSpec := { name := "fnExactWordOdds", fn := fun _ => fun
  | [d1, d2, d3] => { results := [.lit (.bool true)], args := [d1, d2, d3] }
  | _ => none }
def fnExactWordOddsRow : OpenClaim := { program := "ytagoodkaobcjaab", sum := "c01fb0d6f78f12173579db3730231f49ba490d3ae786da97aae9fd737b9a8656", func := "loop.example/g01131/laws.FnExactWordOdds", spec := "fnExactWordOdds", unfollowed := true, recurses := true, apart := false }
def FnExactWordOddsSaid : Prop := fnExactWordOddsRow.holds Try.pinned (OpenSpec.ofChange fnExactWordOddsSpec)

/-- ITS FALSE NEIGHBOUR: 'it returns false'. Refute it at one input. -/
def fnExactWordOddsWrong : ChangeSpec := { name := "fnExactWordOdds", fn := fun _ => fun
  | [d1, d2, d3] => { results := [.lit (.bool false)], args := [d1, d2, d3] }
  | _ => none }
def FnExactWordOddsWrongFalsely : Prop := fnExactWordOddsRow.holds Try.pinned (OpenSpec.ofChange fnExactWordOddsWrong)

/-- 'laws.FnUrns': WHATEVER THE INPUT: true; the input reads as it did. -/
def fnUrnsSpec : ChangeSpec := { name := "fnUrns", fn := fun _ => fun
  | [d] => { results := [.lit (.bool true)], args := [d] }
  | _ => none }
def fnUrnsRow : OpenClaim := { program := "ytagoodkaobcjaab", sum := "c01fb0d6f78f12173579db3730231f49ba490d3ae786da97aae9fd737b9a8656", func := "loop.example/g01131/laws.FnUrns", spec := "fnUrns", unfollowed := true, recurses := true, apart := false }
def FnUrnsSaid : Prop := fnUrnsRow.holds Try.pinned (OpenSpec.ofChange fnUrnsSpec)

/-- ITS FALSE NEIGHBOUR: 'it returns false'. Refute it at one input. -/
def fnUrnsWrong : ChangeSpec := { name := "fnUrns", fn := fun _ => fun
  | [d] => { results := [.lit (.bool false)], args := [d] }
  | _ => none }
def FnUrnsWrongFalsely : Prop := fnUrnsRow.holds Try.pinned (OpenSpec.ofChange fnUrnsWrong)

/-- 'laws.FnWords': WHATEVER THE INPUT: true; the input reads as it did. -/
def fnWordsSpec : ChangeSpec := { name := "fnWords", fn := fun _ => fun
  | [d] => { results := [.lit (.bool true)], args := [d] }
  | _ => none }
def fnWordsRow : OpenClaim := { program := "ytagoodkaobcjaab", sum := "c01fb0d6f78f12173579db3730231f49ba490d3ae786da97aae9fd737b9a8656", func := "loop.example/g01131/laws.FnWords", spec := "fnWords", unfollowed := true, recurses := true, apart := false }
def FnWordsSaid : Prop := fnWordsRow.holds Try.pinned (OpenSpec.ofChange fnWordsSpec)

/-- ITS FALSE NEIGHBOUR: 'it returns false'. Refute it at one input. -/
def fnWordsWrong : ChangeSpec := { name := "fnWords", fn := fun _ => fun
  | [d] => { results := [.lit (.bool false)], args := [d] }
  | _ => none }
def FnWordsWrongFalsely : Prop := fnWordsRow.holds Try.pinned (OpenSpec.ofChange fnWordsWrong)

/-- 'laws.FnCards': WHATEVER THE INPUT: true; the input reads as it did. -/
def fnCardsSpec : ChangeSpec := { name := "fnCards", fn := fun _ => fun
  | [d] => { results := [.lit (.bool true)], args := [d] }
  | _ => none }
def fnCardsRow : OpenClaim := { program := "ytagoodkaobcjaab", sum := "c01fb0d6f78f12173579db3730231f49ba490d3ae786da97aae9fd737b9a8656", func := "loop.example/g01131/laws.FnCards", spec := "fnCards", apart := false }
def FnCardsSaid : Prop := fnCardsRow.holds Try.pinned (OpenSpec.ofChange fnCardsSpec)

/-- ITS FALSE NEIGHBOUR: 'it returns false'. Refute it at one input. -/
def fnCardsWrong : ChangeSpec := { name := "fnCards", fn := fun _ => fun
  | [d] => { results := [.lit (.bool false)], args := [d] }
  | _ => none }
def FnCardsWrongFalsely : Prop := fnCardsRow.holds Try.pinned (OpenSpec.ofChange fnCardsWrong)

/-- 'laws.FnExactRuinSteps': WHATEVER THE INPUT: true; the input reads as it did. -/
def fnExactRuinStepsSpec : ChangeSpec := { name := "fnExactRuinSteps", fn := fun _ => fun
  | [d1, d2, d3, d4, d5] => { results := [.lit (.bool true)], args := [d1, d2, d3, d4, d5] }
  | _ => none }
def fnExactRuinStepsRow : OpenClaim := { program := "ytagoodkaobcjaab", sum := "c01fb0d6f78f12173579db3730231f49ba490d3ae786da97aae9fd737b9a8656", func := "loop.example/g01131/laws.FnExactRuinSteps", spec := "fnExactRuinSteps", unfollowed := true, recurses := true, apart := false }
def FnExactRuinStepsSaid : Prop := fnExactRuinStepsRow.holds Try.pinned (OpenSpec.ofChange fnExactRuinStepsSpec)

/-- ITS FALSE NEIGHBOUR: 'it returns false'. Refute it at one input. -/
def fnExactRuinStepsWrong : ChangeSpec := { name := "fnExactRuinSteps", fn := fun _ => fun
  | [d1, d2, d3, d4, d5] => { results := [.lit (.bool false)], args := [d1, d2, d3, d4, d5] }
  | _ => none }
def FnExactRuinStepsWrongFalsely : Prop := fnExactRuinStepsRow.holds Try.pinned (OpenSpec.ofChange fnExactRuinStepsWrong)

/- THE SECOND FORM. 'bulk': how many values and letters a reading holds, each counted each time it is reached (what is shared counts as often as it is met; a slice's spare places count too). A statement '..UptoSaid' is the law's where the arguments, and the package variables that the reading takes, are together of bulk at most 1048576: NARROWER than '..Said'. Prove '..Said' where nothing that the law and all that it calls make is longer than what came in: it says more and counts as full. Else prove '..UptoSaid'. A law counts once. -/
mutual
def uptoBulk {H : Type} : DataW H → Nat
  | .lit (.string bytes) => bytes.length + 1
  | .lit _ => 1
  | .nil => 1
  | .ptr d => uptoBulk d + 1
  | .slice elems spare => uptoBulkAll elems + uptoBulkAll spare + 1
  | .agg parts => uptoBulkAll parts + 1
  | .iface _ d => uptoBulk d + 1
  | .map entries => uptoBulkEntries entries + 1
  | .held _ => 1
def uptoBulkAll {H : Type} : List (DataW H) → Nat
  | [] => 0
  | d :: r => uptoBulk d + uptoBulkAll r
def uptoBulkEntries {H : Type} : List (Lit × DataW H) → Nat
  | [] => 0
  | x :: r => uptoBulkEntry x + uptoBulkEntries r
def uptoBulkEntry {H : Type} : Lit × DataW H → Nat
  | (.string bytes, d) => bytes.length + uptoBulk d + 1
  | (_, d) => uptoBulk d + 1
 end
def uptoSmall : (H : Type) → List (DataW H) → Bool := fun _ ds => decide (uptoBulkAll ds ≤ 1048576)
def OpenSpec.upto (s : _root_.Go.ChangeSpec) : _root_.Go.OpenSpec := { _root_.Go.OpenSpec.ofChange s with cond := some uptoSmall }

/-- 'laws.FnExactOverlapsOf', WHERE WHAT IT READS IS OF BULK AT MOST 1048576: true; the input reads as it did. -/
def fnExactOverlapsOfUptoRow : OpenClaim := { program := "ytagoodkaobcjaab", sum := "c01fb0d6f78f12173579db3730231f49ba490d3ae786da97aae9fd737b9a8656", func := "loop.example/g01131/laws.FnExactOverlapsOf", spec := "fnExactOverlapsOf", unfollowed := true, recurses := true, apart := false, narrowed := true }
def FnExactOverlapsOfUptoSaid : Prop := fnExactOverlapsOfUptoRow.holds Try.pinned (OpenSpec.upto fnExactOverlapsOfSpec)

/-- 'laws.FnExactWordWait', WHERE WHAT IT READS IS OF BULK AT MOST 1048576: true; the input reads as it did. -/
def fnExactWordWaitUptoRow : OpenClaim := { program := "ytagoodkaobcjaab", sum := "c01fb0d6f78f12173579db3730231f49ba490d3ae786da97aae9fd737b9a8656", func := "loop.example/g01131/laws.FnExactWordWait", spec := "fnExactWordWait", unfollowed := true, recurses := true, apart := false, narrowed := true }
def FnExactWordWaitUptoSaid : Prop := fnExactWordWaitUptoRow.holds Try.pinned (OpenSpec.upto fnExactWordWaitSpec)

/-- 'laws.FnExactFirstFound', WHERE WHAT IT READS IS OF BULK AT MOST 1048576: true; the input reads as it did. -/
def fnExactFirstFoundUptoRow : OpenClaim := { program := "ytagoodkaobcjaab", sum := "c01fb0d6f78f12173579db3730231f49ba490d3ae786da97aae9fd737b9a8656", func := "loop.example/g01131/laws.FnExactFirstFound", spec := "fnExactFirstFound", unfollowed := true, recurses := true, apart := false, narrowed := true }
def FnExactFirstFoundUptoSaid : Prop := fnExactFirstFoundUptoRow.holds Try.pinned (OpenSpec.upto fnExactFirstFoundSpec)

/-- 'laws.FnExactTeamWins', WHERE WHAT IT READS IS OF BULK AT MOST 1048576: true; the input reads as it did. -/
def fnExactTeamWinsUptoRow : OpenClaim := { program := "ytagoodkaobcjaab", sum := "c01fb0d6f78f12173579db3730231f49ba490d3ae786da97aae9fd737b9a8656", func := "loop.example/g01131/laws.FnExactTeamWins", spec := "fnExactTeamWins", unfollowed := true, recurses := true, apart := false, narrowed := true }
def FnExactTeamWinsUptoSaid : Prop := fnExactTeamWinsUptoRow.holds Try.pinned (OpenSpec.upto fnExactTeamWinsSpec)

/-- 'laws.FnExactWordOdds', WHERE WHAT IT READS IS OF BULK AT MOST 1048576: true; the input reads as it did. -/
def fnExactWordOddsUptoRow : OpenClaim := { program := "ytagoodkaobcjaab", sum := "c01fb0d6f78f12173579db3730231f49ba490d3ae786da97aae9fd737b9a8656", func := "loop.example/g01131/laws.FnExactWordOdds", spec := "fnExactWordOdds", unfollowed := true, recurses := true, apart := false, narrowed := true }
def FnExactWordOddsUptoSaid : Prop := fnExactWordOddsUptoRow.holds Try.pinned (OpenSpec.upto fnExactWordOddsSpec)

/-- 'laws.FnUrns', WHERE WHAT IT READS IS OF BULK AT MOST 1048576: true; the input reads as it did. -/
def fnUrnsUptoRow : OpenClaim := { program := "ytagoodkaobcjaab", sum := "c01fb0d6f78f12173579db3730231f49ba490d3ae786da97aae9fd737b9a8656", func := "loop.example/g01131/laws.FnUrns", spec := "fnUrns", unfollowed := true, recurses := true, apart := false, narrowed := true }
def FnUrnsUptoSaid : Prop := fnUrnsUptoRow.holds Try.pinned (OpenSpec.upto fnUrnsSpec)

/-- 'laws.FnWords', WHERE WHAT IT READS IS OF BULK AT MOST 1048576: true; the input reads as it did. -/
def fnWordsUptoRow : OpenClaim := { program := "ytagoodkaobcjaab", sum := "c01fb0d6f78f12173579db3730231f49ba490d3ae786da97aae9fd737b9a8656", func := "loop.example/g01131/laws.FnWords", spec := "fnWords", unfollowed := true, recurses := true, apart := false, narrowed := true }
def FnWordsUptoSaid : Prop := fnWordsUptoRow.holds Try.pinned (OpenSpec.upto fnWordsSpec)

/-- 'laws.FnCards', WHERE WHAT IT READS IS OF BULK AT MOST 1048576: true; the input reads as it did. -/
def fnCardsUptoRow : OpenClaim := { program := "ytagoodkaobcjaab", sum := "c01fb0d6f78f12173579db3730231f49ba490d3ae786da97aae9fd737b9a8656", func := "loop.example/g01131/laws.FnCards", spec := "fnCards", apart := false, narrowed := true }
def FnCardsUptoSaid : Prop := fnCardsUptoRow.holds Try.pinned (OpenSpec.upto fnCardsSpec)

/-- 'laws.FnExactRuinSteps', WHERE WHAT IT READS IS OF BULK AT MOST 1048576: true; the input reads as it did. -/
def fnExactRuinStepsUptoRow : OpenClaim := { program := "ytagoodkaobcjaab", sum := "c01fb0d6f78f12173579db3730231f49ba490d3ae786da97aae9fd737b9a8656", func := "loop.example/g01131/laws.FnExactRuinSteps", spec := "fnExactRuinSteps", unfollowed := true, recurses := true, apart := false, narrowed := true }
def FnExactRuinStepsUptoSaid : Prop := fnExactRuinStepsUptoRow.holds Try.pinned (OpenSpec.upto fnExactRuinStepsSpec)

end Rows
end Go.Proofs.Ytagoodkaobcjaab
