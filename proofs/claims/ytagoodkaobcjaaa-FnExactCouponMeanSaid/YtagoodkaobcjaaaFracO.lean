/- Fractions in the program: made, added, multiplied and compared. -/
import Derived.Test.YtagoodkaobcjaaaFracJ
import Derived.WalkKit
import Derived.ProofKit
import Derived.Outline
import Derived.Below
import Derived.Lib.Hide
import Derived.WalkSmall
import Derived.WalkSpells
import Derived.WalkLawsBesides
namespace Go.Proofs.Ytagoodkaobcjaaa
open Go.RowKit
set_option linter.unusedVariables false
/-- What a and b make. -/
def okArgs (a b : Int) : Prop := b ≠ 0 ∧ -1000000000 ≤ a ∧ a ≤ 1000000000 ∧ -1000000000 ≤ b ∧ b ≤ 1000000000
instance (a b : Int) : Decidable (okArgs a b) := by unfold okArgs; infer_instance
def fracV (a b : Int) : Value := if okArgs a b then (if 0 < b then keptV (cutN a b) (cutD a b) else keptV (cutN (-a) (-b)) (cutD (-a) (-b))) else zeroP
def addV (n d m e : Int) : Value := if isFr n d = true ∧ isFr m e = true then keptV (cutN (n * e + m * d) (d * e)) (cutD (n * e + m * d) (d * e)) else zeroP
def timesV (n d m e : Int) : Value := if isFr n d = true ∧ isFr m e = true then keptV (cutN (n * m) (d * e)) (cutD (n * m) (d * e)) else zeroP
def ordI (x y : Int) : Int := if x < y then -1 else if y < x then 1 else 0
def cmpV (n d m e : Int) : Value := if isFr n d = true ∧ isFr m e = true then .tuple #[.int .i64 (ordI (n * e) (m * d)), .bool true] else .tuple #[.int .i64 0, .bool false]
end Go.Proofs.Ytagoodkaobcjaaa
