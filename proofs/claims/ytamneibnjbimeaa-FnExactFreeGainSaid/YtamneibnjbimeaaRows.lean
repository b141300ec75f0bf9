/-
  No cell of these rows narrows 'for every input' (looked for: loops, veiled, ifaces, maps, wideKeys, modest, calm, conditions, laid).
  DERIVED. THE GIVEN ROWS OF THIS SEAT. 9 by the template 'for every input the law returns true; each argument reads behind the call as it read before'; 0 by the template 'total and deterministic' (their statements: YtamneibnjbimeaaTotals.lean).
  GIVEN WITH THE SEED: the statements are not yours to turn. If you find one false, say at which input.
  Laid BY PROGRAM, IN A SANDBOX (cutbox-rows.mjs): the forced cells as the released guide's own fill.sh prints them over the translation 59cc4f9b8bf1f0e8… (all of the seat's roots in one cut). By AI agents, Wed Nov 11 2026. No macro, syntax, notation, axiom, sorry.
-/
import Derived.Test.YtamneibnjbimeaaChecked
import GoSem.Claim
import GoSem.ClaimJoined
import GoSem.ClaimMapViews
import Derived.JoinedTies
import Derived.KernelRfl
namespace Go.Proofs.Ytamneibnjbimeaa
/- THE CELL 'sum', in the pinned program and in every row, IS THE sha256 OF THE DUMP (.gsa) THAT YtamneibnjbimeaaProg.lean LOADS. Nothing in Lean hashes anything: it is a label: what it is worth is what the hold of that sum in a sandbox is worth. -/
noncomputable def Try.pinned : Pinned := { name := "ytamneibnjbimeaa", sum := "59cc4f9b8bf1f0e8dc3274ae75bc761eb40ca47fc9c6097778ced038d98d850e", checked := Try.checked }
namespace Rows
def none {H : Type} : Left H := { results := [], args := [] }

/-- 'laws.FnExactIsMarket': WHATEVER THE INPUT: true; the input reads as it did. -/
def fnExactIsMarketSpec : ChangeSpec := { name := "fnExactIsMarket", fn := fun _ => fun
  | [d] => { results := [.lit (.bool true)], args := [d] }
  | _ => none }
def fnExactIsMarketRow : OpenClaim := { program := "ytamneibnjbimeaa", sum := "59cc4f9b8bf1f0e8dc3274ae75bc761eb40ca47fc9c6097778ced038d98d850e", func := "loop.example/g01131/laws.FnExactIsMarket", spec := "fnExactIsMarket", unfollowed := true, recurses := true, apart := false }
def FnExactIsMarketSaid : Prop := fnExactIsMarketRow.holds Try.pinned (OpenSpec.ofChange fnExactIsMarketSpec)

/-- ITS FALSE NEIGHBOUR: 'it returns false'. Refute it at one input. -/
def fnExactIsMarketWrong : ChangeSpec := { name := "fnExactIsMarket", fn := fun _ => fun
  | [d] => { results := [.lit (.bool false)], args := [d] }
  | _ => none }
def FnExactIsMarketWrongFalsely : Prop := fnExactIsMarketRow.holds Try.pinned (OpenSpec.ofChange fnExactIsMarketWrong)

/-- 'laws.FnExactWealthOf': WHATEVER THE INPUT: true; the input reads as it did. -/
def fnExactWealthOfSpec : ChangeSpec := { name := "fnExactWealthOf", fn := fun _ => fun
  | [d1, d2, d3] => { results := [.lit (.bool true)], args := [d1, d2, d3] }
  | _ => none }
def fnExactWealthOfRow : OpenClaim := { program := "ytamneibnjbimeaa", sum := "59cc4f9b8bf1f0e8dc3274ae75bc761eb40ca47fc9c6097778ced038d98d850e", func := "loop.example/g01131/laws.FnExactWealthOf", spec := "fnExactWealthOf", unfollowed := true, recurses := true, apart := false }
def FnExactWealthOfSaid : Prop := fnExactWealthOfRow.holds Try.pinned (OpenSpec.ofChange fnExactWealthOfSpec)

/-- ITS FALSE NEIGHBOUR: 'it returns false'. Refute it at one input. -/
def fnExactWealthOfWrong : ChangeSpec := { name := "fnExactWealthOf", fn := fun _ => fun
  | [d1, d2, d3] => { results := [.lit (.bool false)], args := [d1, d2, d3] }
  | _ => none }
def FnExactWealthOfWrongFalsely : Prop := fnExactWealthOfRow.holds Try.pinned (OpenSpec.ofChange fnExactWealthOfWrong)

/-- 'laws.FnExactDoCoverClaims': WHATEVER THE INPUT: true; the input reads as it did. -/
def fnExactDoCoverClaimsSpec : ChangeSpec := { name := "fnExactDoCoverClaims", fn := fun _ => fun
  | [d1, d2, d3, d4] => { results := [.lit (.bool true)], args := [d1, d2, d3, d4] }
  | _ => none }
def fnExactDoCoverClaimsRow : OpenClaim := { program := "ytamneibnjbimeaa", sum := "59cc4f9b8bf1f0e8dc3274ae75bc761eb40ca47fc9c6097778ced038d98d850e", func := "loop.example/g01131/laws.FnExactDoCoverClaims", spec := "fnExactDoCoverClaims", unfollowed := true, recurses := true, apart := false }
def FnExactDoCoverClaimsSaid : Prop := fnExactDoCoverClaimsRow.holds Try.pinned (OpenSpec.ofChange fnExactDoCoverClaimsSpec)

/-- ITS FALSE NEIGHBOUR: 'it returns false'. Refute it at one input. -/
def fnExactDoCoverClaimsWrong : ChangeSpec := { name := "fnExactDoCoverClaims", fn := fun _ => fun
  | [d1, d2, d3, d4] => { results := [.lit (.bool false)], args := [d1, d2, d3, d4] }
  | _ => none }
def FnExactDoCoverClaimsWrongFalsely : Prop := fnExactDoCoverClaimsRow.holds Try.pinned (OpenSpec.ofChange fnExactDoCoverClaimsWrong)

/-- 'laws.FnExactDoMatchClaims': WHATEVER THE INPUT: true; the input reads as it did. -/
def fnExactDoMatchClaimsSpec : ChangeSpec := { name := "fnExactDoMatchClaims", fn := fun _ => fun
  | [d1, d2, d3, d4] => { results := [.lit (.bool true)], args := [d1, d2, d3, d4] }
  | _ => none }
def fnExactDoMatchClaimsRow : OpenClaim := { program := "ytamneibnjbimeaa", sum := "59cc4f9b8bf1f0e8dc3274ae75bc761eb40ca47fc9c6097778ced038d98d850e", func := "loop.example/g01131/laws.FnExactDoMatchClaims", spec := "fnExactDoMatchClaims", unfollowed := true, recurses := true, apart := false }
def FnExactDoMatchClaimsSaid : Prop := fnExactDoMatchClaimsRow.holds Try.pinned (OpenSpec.ofChange fnExactDoMatchClaimsSpec)

/-- ITS FALSE NEIGHBOUR: 'it returns false'. Refute it at one input. -/
def fnExactDoMatchClaimsWrong : ChangeSpec := { name := "fnExactDoMatchClaims", fn := fun _ => fun
  | [d1, d2, d3, d4] => { results := [.lit (.bool false)], args := [d1, d2, d3, d4] }
  | _ => none }
def FnExactDoMatchClaimsWrongFalsely : Prop := fnExactDoMatchClaimsRow.holds Try.pinned (OpenSpec.ofChange fnExactDoMatchClaimsWrong)

/-- 'laws.FnExactUnevenNode': WHATEVER THE INPUT: true; the input reads as it did. -/
def fnExactUnevenNodeSpec : ChangeSpec := { name := "fnExactUnevenNode", fn := fun _ => fun
  | [d] => { results := [.lit (.bool true)], args := [d] }
  | _ => none }
def fnExactUnevenNodeRow : OpenClaim := { program := "ytamneibnjbimeaa", sum := "59cc4f9b8bf1f0e8dc3274ae75bc761eb40ca47fc9c6097778ced038d98d850e", func := "loop.example/g01131/laws.FnExactUnevenNode", spec := "fnExactUnevenNode", unfollowed := true, recurses := true, apart := false }
def FnExactUnevenNodeSaid : Prop := fnExactUnevenNodeRow.holds Try.pinned (OpenSpec.ofChange fnExactUnevenNodeSpec)

/-- ITS FALSE NEIGHBOUR: 'it returns false'. Refute it at one input. -/
def fnExactUnevenNodeWrong : ChangeSpec := { name := "fnExactUnevenNode", fn := fun _ => fun
  | [d] => { results := [.lit (.bool false)], args := [d] }
  | _ => none }
def FnExactUnevenNodeWrongFalsely : Prop := fnExactUnevenNodeRow.holds Try.pinned (OpenSpec.ofChange fnExactUnevenNodeWrong)

/-- 'laws.FnExactFreeGain': WHATEVER THE INPUT: true; the input reads as it did. -/
def fnExactFreeGainSpec : ChangeSpec := { name := "fnExactFreeGain", fn := fun _ => fun
  | [d] => { results := [.lit (.bool true)], args := [d] }
  | _ => none }
def fnExactFreeGainRow : OpenClaim := { program := "ytamneibnjbimeaa", sum := "59cc4f9b8bf1f0e8dc3274ae75bc761eb40ca47fc9c6097778ced038d98d850e", func := "loop.example/g01131/laws.FnExactFreeGain", spec := "fnExactFreeGain", unfollowed := true, recurses := true, apart := false }
def FnExactFreeGainSaid : Prop := fnExactFreeGainRow.holds Try.pinned (OpenSpec.ofChange fnExactFreeGainSpec)

/-- ITS FALSE NEIGHBOUR: 'it returns false'. Refute it at one input. -/
def fnExactFreeGainWrong : ChangeSpec := { name := "fnExactFreeGain", fn := fun _ => fun
  | [d] => { results := [.lit (.bool false)], args := [d] }
  | _ => none }
def FnExactFreeGainWrongFalsely : Prop := fnExactFreeGainRow.holds Try.pinned (OpenSpec.ofChange fnExactFreeGainWrong)

/-- 'laws.FnExactIsFull': WHATEVER THE INPUT: true; the input reads as it did. -/
def fnExactIsFullSpec : ChangeSpec := { name := "fnExactIsFull", fn := fun _ => fun
  | [d] => { results := [.lit (.bool true)], args := [d] }
  | _ => none }
def fnExactIsFullRow : OpenClaim := { program := "ytamneibnjbimeaa", sum := "59cc4f9b8bf1f0e8dc3274ae75bc761eb40ca47fc9c6097778ced038d98d850e", func := "loop.example/g01131/laws.FnExactIsFull", spec := "fnExactIsFull", unfollowed := true, recurses := true, apart := false }
def FnExactIsFullSaid : Prop := fnExactIsFullRow.holds Try.pinned (OpenSpec.ofChange fnExactIsFullSpec)

/-- ITS FALSE NEIGHBOUR: 'it returns false'. Refute it at one input. -/
def fnExactIsFullWrong : ChangeSpec := { name := "fnExactIsFull", fn := fun _ => fun
  | [d] => { results := [.lit (.bool false)], args := [d] }
  | _ => none }
def FnExactIsFullWrongFalsely : Prop := fnExactIsFullRow.holds Try.pinned (OpenSpec.ofChange fnExactIsFullWrong)

/-- 'laws.FnExactShareClaims': WHATEVER THE INPUT: true; the input reads as it did. -/
def fnExactShareClaimsSpec : ChangeSpec := { name := "fnExactShareClaims", fn := fun _ => fun
  | [d] => { results := [.lit (.bool true)], args := [d] }
  | _ => none }
def fnExactShareClaimsRow : OpenClaim := { program := "ytamneibnjbimeaa", sum := "59cc4f9b8bf1f0e8dc3274ae75bc761eb40ca47fc9c6097778ced038d98d850e", func := "loop.example/g01131/laws.FnExactShareClaims", spec := "fnExactShareClaims", unfollowed := true, recurses := true, apart := false }
def FnExactShareClaimsSaid : Prop := fnExactShareClaimsRow.holds Try.pinned (OpenSpec.ofChange fnExactShareClaimsSpec)

/-- ITS FALSE NEIGHBOUR: 'it returns false'. Refute it at one input. -/
def fnExactShareClaimsWrong : ChangeSpec := { name := "fnExactShareClaims", fn := fun _ => fun
  | [d] => { results := [.lit (.bool false)], args := [d] }
  | _ => none }
def FnExactShareClaimsWrongFalsely : Prop := fnExactShareClaimsRow.holds Try.pinned (OpenSpec.ofChange fnExactShareClaimsWrong)

/-- 'laws.FnExactCallClaims': WHATEVER THE INPUT: true; the input reads as it did. -/
def fnExactCallClaimsSpec : ChangeSpec := { name := "fnExactCallClaims", fn := fun _ => fun
  | [d1, d2] => { results := [.lit (.bool true)], args := [d1, d2] }
  | _ => none }
def fnExactCallClaimsRow : OpenClaim := { program := "ytamneibnjbimeaa", sum := "59cc4f9b8bf1f0e8dc3274ae75bc761eb40ca47fc9c6097778ced038d98d850e", func := "loop.example/g01131/laws.FnExactCallClaims", spec := "fnExactCallClaims", unfollowed := true, recurses := true, apart := false }
def FnExactCallClaimsSaid : Prop := fnExactCallClaimsRow.holds Try.pinned (OpenSpec.ofChange fnExactCallClaimsSpec)

/-- ITS FALSE NEIGHBOUR: 'it returns false'. Refute it at one input. -/
def fnExactCallClaimsWrong : ChangeSpec := { name := "fnExactCallClaims", fn := fun _ => fun
  | [d1, d2] => { results := [.lit (.bool false)], args := [d1, d2] }
  | _ => none }
def FnExactCallClaimsWrongFalsely : Prop := fnExactCallClaimsRow.holds Try.pinned (OpenSpec.ofChange fnExactCallClaimsWrong)

/- THE SECOND FORM. 'bulk': how many values and letters a reading holds, each counted each time it is reached (what is shared counts as often as it is met; a slice's spare places count too). A statement '..UptoSaid' is the law's where the arguments, and the package variables that the reading takes, are together of bulk at most 1048576: NARROWER than '..Said'. Prove '..Said' where nothing that the law and all that it calls make is longer than what came in: it says more and counts as full. Else prove '..UptoSaid'. A law counts once. -/
mutual
def uptoBulk {H : Type} : DataW H → Nat
  | .lit (.string bytes) => bytes.length + 1
  | .lit _ => 1
  | .nil => 1
  | .ptr d => uptoBulk d + 1
  | .slice elems spare => uptoBulkAll elems + uptoBulkAll spare + 1
  | .agg parts => uptoBulkAll parts + 1
  | .iface _ d => uptoBulk d + 1
  | .map entries => uptoBulkEntries entries + 1
  | .held _ => 1
def uptoBulkAll {H : Type} : List (DataW H) → Nat
  | [] => 0
  | d :: r => uptoBulk d + uptoBulkAll r
def uptoBulkEntries {H : Type} : List (Lit × DataW H) → Nat
  | [] => 0
  | x :: r => uptoBulkEntry x + uptoBulkEntries r
def uptoBulkEntry {H : Type} : Lit × DataW H → Nat
  | (.string bytes, d) => bytes.length + uptoBulk d + 1
  | (_, d) => uptoBulk d + 1
 end
def uptoSmall : (H : Type) → List (DataW H) → Bool := fun _ ds => decide (uptoBulkAll ds ≤ 1048576)
def OpenSpec.upto (s : _root_.Go.ChangeSpec) : _root_.Go.OpenSpec := { _root_.Go.OpenSpec.ofChange s with cond := some uptoSmall }

/-- 'laws.FnExactIsMarket', WHERE WHAT IT READS IS OF BULK AT MOST 1048576: true; the input reads as it did. -/
def fnExactIsMarketUptoRow : OpenClaim := { program := "ytamneibnjbimeaa", sum := "59cc4f9b8bf1f0e8dc3274ae75bc761eb40ca47fc9c6097778ced038d98d850e", func := "loop.example/g01131/laws.FnExactIsMarket", spec := "fnExactIsMarket", unfollowed := true, recurses := true, apart := false, narrowed := true }
def FnExactIsMarketUptoSaid : Prop := fnExactIsMarketUptoRow.holds Try.pinned (OpenSpec.upto fnExactIsMarketSpec)

/-- 'laws.FnExactWealthOf', WHERE WHAT IT READS IS OF BULK AT MOST 1048576: true; the input reads as it did. -/
def fnExactWealthOfUptoRow : OpenClaim := { program := "ytamneibnjbimeaa", sum := "59cc4f9b8bf1f0e8dc3274ae75bc761eb40ca47fc9c6097778ced038d98d850e", func := "loop.example/g01131/laws.FnExactWealthOf", spec := "fnExactWealthOf", unfollowed := true, recurses := true, apart := false, narrowed := true }
def FnExactWealthOfUptoSaid : Prop := fnExactWealthOfUptoRow.holds Try.pinned (OpenSpec.upto fnExactWealthOfSpec)

/-- 'laws.FnExactDoCoverClaims', WHERE WHAT IT READS IS OF BULK AT MOST 1048576: true; the input reads as it did. -/
def fnExactDoCoverClaimsUptoRow : OpenClaim := { program := "ytamneibnjbimeaa", sum := "59cc4f9b8bf1f0e8dc3274ae75bc761eb40ca47fc9c6097778ced038d98d850e", func := "loop.example/g01131/laws.FnExactDoCoverClaims", spec := "fnExactDoCoverClaims", unfollowed := true, recurses := true, apart := false, narrowed := true }
def FnExactDoCoverClaimsUptoSaid : Prop := fnExactDoCoverClaimsUptoRow.holds Try.pinned (OpenSpec.upto fnExactDoCoverClaimsSpec)

/-- 'laws.FnExactDoMatchClaims', WHERE WHAT IT READS IS OF BULK AT MOST 1048576: true; the input reads as it did. -/
def fnExactDoMatchClaimsUptoRow : OpenClaim := { program := "ytamneibnjbimeaa", sum := "59cc4f9b8bf1f0e8dc3274ae75bc761eb40ca47fc9c6097778ced038d98d850e", func := "loop.example/g01131/laws.FnExactDoMatchClaims", spec := "fnExactDoMatchClaims", unfollowed := true, recurses := true, apart := false, narrowed := true }
def FnExactDoMatchClaimsUptoSaid : Prop := fnExactDoMatchClaimsUptoRow.holds Try.pinned (OpenSpec.upto fnExactDoMatchClaimsSpec)

/-- 'laws.FnExactUnevenNode', WHERE WHAT IT READS IS OF BULK AT MOST 1048576: true; the input reads as it did. -/
def fnExactUnevenNodeUptoRow : OpenClaim := { program := "ytamneibnjbimeaa", sum := "59cc4f9b8bf1f0e8dc3274ae75bc761eb40ca47fc9c6097778ced038d98d850e", func := "loop.example/g01131/laws.FnExactUnevenNode", spec := "fnExactUnevenNode", unfollowed := true, recurses := true, apart := false, narrowed := true }
def FnExactUnevenNodeUptoSaid : Prop := fnExactUnevenNodeUptoRow.holds Try.pinned (OpenSpec.upto fnExactUnevenNodeSpec)

/-- 'laws.FnExactFreeGain', WHERE WHAT IT READS IS OF BULK AT MOST 1048576: true; the input reads as it did. -/
def fnExactFreeGainUptoRow : OpenClaim := { program := "ytamneibnjbimeaa", sum := "59cc4f9b8bf1f0e8dc3274ae75bc761eb40ca47fc9c6097778ced038d98d850e", func := "loop.example/g01131/laws.FnExactFreeGain", spec := "fnExactFreeGain", unfollowed := true, recurses := true, apart := false, narrowed := true }
def FnExactFreeGainUptoSaid : Prop := fnExactFreeGainUptoRow.holds Try.pinned (OpenSpec.upto fnExactFreeGainSpec)

/-- 'laws.FnExactIsFull', WHERE WHAT IT READS IS OF BULK AT MOST 1048576: true; the input reads as it did. -/
def fnExactIsFullUptoRow : OpenClaim := { program := "ytamneibnjbimeaa", sum := "59cc4f9b8bf1f0e8dc3274ae75bc761eb40ca47fc9c6097778ced038d98d850e", func := "loop.example/g01131/laws.FnExactIsFull", spec := "fnExactIsFull", unfollowed := true, recurses := true, apart := false, narrowed := true }
def FnExactIsFullUptoSaid : Prop := fnExactIsFullUptoRow.holds Try.pinned (OpenSpec.upto fnExactIsFullSpec)

/-- 'laws.FnExactShareClaims', WHERE WHAT IT READS IS OF BULK AT MOST 1048576: true; the input reads as it did. -/
def fnExactShareClaimsUptoRow : OpenClaim := { program := "ytamneibnjbimeaa", sum := "59cc4f9b8bf1f0e8dc3274ae75bc761eb40ca47fc9c6097778ced038d98d850e", func := "loop.example/g01131/laws.FnExactShareClaims", spec := "fnExactShareClaims", unfollowed := true, recurses := true, apart := false, narrowed := true }
def FnExactShareClaimsUptoSaid : Prop := fnExactShareClaimsUptoRow.holds Try.pinned (OpenSpec.upto fnExactShareClaimsSpec)

/-- 'laws.FnExactCallClaims', WHERE WHAT IT READS IS OF BULK AT MOST 1048576: true; the input reads as it did. -/
def fnExactCallClaimsUptoRow : OpenClaim := { program := "ytamneibnjbimeaa", sum := "59cc4f9b8bf1f0e8dc3274ae75bc761eb40ca47fc9c6097778ced038d98d850e", func := "loop.example/g01131/laws.FnExactCallClaims", spec := "fnExactCallClaims", unfollowed := true, recurses := true, apart := false, narrowed := true }
def FnExactCallClaimsUptoSaid : Prop := fnExactCallClaimsUptoRow.holds Try.pinned (OpenSpec.upto fnExactCallClaimsSpec)

end Rows
end Go.Proofs.Ytamneibnjbimeaa
