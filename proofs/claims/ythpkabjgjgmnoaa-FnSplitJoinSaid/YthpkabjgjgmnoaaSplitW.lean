/- The walk of the law FnExactSplitString: the Go text answers true. -/
import Derived.Test.YthpkabjgjgmnoaaSplitImpl
import Derived.Test.YthpkabjgjgmnoaaStrs
import Derived.Test.YthpkabjgjgmnoaaHeld
import Derived.WalkKit
import Derived.ProofKit
import Derived.Outline
import Derived.Lib.Hide
import Derived.WalkSpells
namespace Go.Proofs.Ythpkabjgjgmnoaa.fnExactSplitString
open Go.RowKit
set_option linter.unusedVariables false
/-- What SplitString and its model answer, in one form. -/
noncomputable def psOf (s sep : ByteArray) : List ByteArray := open Classical in if s.size ≤ 4000 ∧ sep.size = 1 then splitAll s (sepC sep) else []
noncomputable def pbOf (s sep : ByteArray) : Bool := open Classical in if s.size ≤ 4000 ∧ sep.size = 1 then true else false
theorem impl_any (s sep : ByteArray) (w : World) (hs : s.size ≤ maxLen) (hp : sep.size ≤ maxLen) : Calls Try.prog 10 #[.string s, .string sep] w (SplitAns (psOf s sep) (pbOf s sep) w) := by
  unfold psOf pbOf
  by_cases h : s.size ≤ 4000 ∧ sep.size = 1
  · rw [if_pos h, if_pos h]; exact implSplit_yes s sep w h.1 h.2
  · rw [if_neg h, if_neg h]; exact implSplit_no s sep w hs hp h
theorem spec_any (s sep : ByteArray) (w : World) (hs : s.size ≤ maxLen) (hp : sep.size ≤ maxLen) : Calls Try.prog 17 #[.string s, .string sep] w (SplitAns (psOf s sep) (pbOf s sep) w) := by
  unfold psOf pbOf
  by_cases h : s.size ≤ 4000 ∧ sep.size = 1
  · rw [if_pos h, if_pos h]; exact specSplit_yes s sep w h.1 h.2
  · rw [if_neg h, if_neg h]; exact specSplit_no s sep w hs hp h
theorem ps_len (s sep : ByteArray) : (psOf s sep).length ≤ 4001 := by
  unfold psOf
  by_cases h : s.size ≤ 4000 ∧ sep.size = 1
  · rw [if_pos h]
    have := splitSt_le s (sepC sep) s.size
    unfold splitAll
    rw [List.length_append]; simp only [List.length_singleton]; omega
  · rw [if_neg h]; simp
theorem below_of_row {w w' : World} {g B : Nat} (h : w.grownBy w' (some g)) (hg : B ≤ g) (hB : B ≤ w.heap.size) : Below B w w' :=
  ⟨h.os, h.tape, h.output, h.size, fun i hi => h.block i (by omega) (fun e => by injection e; omega)⟩
set_option maxRecDepth 100000 in
set_option maxHeartbeats 2000000 in
theorem walk (a0 : ByteArray) (w0 : a0.size ≤ maxLen) (a1 : ByteArray) (w1 : a1.size ≤ maxLen) (W : World) :
    Calls Try.prog 4 #[.string a0, .string a1] W fun e W' => e = .returned (.bool true) ∧ Below W.heap.size W W' := by
  have v0 := w0
  have v1 := w1
  unfold maxLen at v0 v1
  by_cases h20 : 1048576 < a0.size
  · go_enter Try.func4, Try.ntmps4
    go_wp2_with fail
    go_ret
    exact ⟨rfl, Below.refl _ _⟩
  by_cases h21 : 1048576 < a1.size
  · go_enter Try.func4, Try.ntmps4
    go_wp2_with fail
    go_ret
    exact ⟨rfl, Below.refl _ _⟩
  have SP := Lib.hid (spec_any a0 a1 W w0 w1)
  have IM := Lib.hid (fun w => impl_any a0 a1 w w0 w1)
  have PL := ps_len a0 a1
  obtain ⟨ps, hps⟩ : ∃ ps, ps = psOf a0 a1 := ⟨_, rfl⟩
  obtain ⟨pb, hpb⟩ : ∃ pb, pb = pbOf a0 a1 := ⟨_, rfl⟩
  rw [← hps, ← hpb] at SP IM
  rw [← hps] at PL
  clear hps hpb
  have N63 : ps.length ≤ maxLen := by unfold maxLen; omega
  go_enter Try.func4, Try.ntmps4
  go_wp2_with fail
  refine SP.out.mono ?_
  rintro e wa ⟨gA, cA, rfl, oA, bA⟩
  have gAlt : gA < wa.heap.size := (oA.lt gA rfl).2
  have SA := Lib.hid (StrsAt.of_own oA)
  have BA := Lib.hid bA
  have ZA := bA.size
  clear oA bA
  go_wp2_with fail
  refine (IM.out wa).mono ?_
  rintro e wb ⟨gB, cB, rfl, oB, bB⟩
  have gBlo : wa.heap.size ≤ gB := (oB.lt gB rfl).1
  have OB := Lib.hid oB
  have SB := Lib.hid (StrsAt.of_own oB)
  have SA2 := Lib.hid (SA.out.below bB)
  have ZB := bB.size
  have BB := Lib.hid (BA.out.trans (bB.mono ZA))
  have BB2 := Lib.hid bB
  clear oB bB
  go_wp2_with fail
  refine (eqS ps _ _ _ _ _ _ wb N63 SB.out SA2.out).mono ?_
  rintro e wc ⟨rfl, nc, rfl⟩
  go_wp2_with fail
  refine (markS gB ps.length cB wa.heap.size (ps.map .string) (wb.drewN nc) (by omega) OB.out (fun v hv => by obtain ⟨s, _, rfl⟩ := List.mem_map.1 hv; exact ⟨s, rfl⟩)).mono ?_
  rintro e wd ⟨rfl, od, gd⟩
  have bd : Below wa.heap.size (wb.drewN nc) wd := below_of_row gd gBlo ZB
  have ZD : wb.heap.size ≤ wd.heap.size := gd.size
  have gBd : gB < wd.heap.size := (od.lt gB rfl).2
  have SAd := Lib.hid ((SA2.out.drewN nc).below bd)
  have BD := Lib.hid ((below_drewN BB.out nc).trans (bd.mono ZA))
  have HC : Hid (∀ j : Nat, j < ps.length → wd.cell? ⟨gB, j, none⟩ = some (.string (markB (j + 1)))) := Lib.hid (fun j hj => by
    rw [od.cellAt j (by omega), List.getElem?_map, List.getElem?_range hj]; rfl)
  clear od gd bd
  go_wp2_with fail
  refine (heldS gB ps.length cB wd (by omega) gBd HC.out).mono ?_
  rintro e we ⟨rfl, be⟩
  have ZE := be.size
  have SAe := Lib.hid (SAd.out.below (be.mono (by omega)))
  have BE := Lib.hid (BD.out.trans (be.mono (by omega)))
  have BE2 := Lib.hid be
  clear be
  go_wp2_with fail
  refine (IM.out we).mono ?_
  rintro e wf ⟨gC, cC, rfl, oC, bC⟩
  have ZF := bC.size
  have SC := Lib.hid (StrsAt.of_own oC)
  have SAf := Lib.hid (SAe.out.below (bC.mono (by omega)))
  have BF := Lib.hid (BE.out.trans (bC.mono (by omega)))
  have BF2 := Lib.hid (BE2.out.trans (bC.mono (by omega)))
  clear oC bC
  go_wp2_with fail
  refine (eqS ps _ _ _ _ _ _ wf N63 SC.out SAf.out).mono ?_
  rintro e wg ⟨rfl, ng, rfl⟩
  have gBf : gB < (wf.drewN ng).heap.size := by show gB < wf.heap.size; omega
  have HC2 : Hid (∀ j : Nat, j < ps.length → (wf.drewN ng).cell? ⟨gB, j, none⟩ = some (.string (markB (j + 1)))) := Lib.hid (fun j hj => by
    show wf.cell? ⟨gB, j, none⟩ = _
    rw [BF2.out.cell (p := ⟨gB, j, none⟩) gBd]; exact HC.out j hj)
  go_wp2_with fail
  refine (heldS gB ps.length cB (wf.drewN ng) (by omega) gBf HC2.out).mono ?_
  rintro e wh ⟨rfl, bh⟩
  have BH := Lib.hid ((below_drewN BF.out ng).trans (bh.mono (by show W.heap.size ≤ wf.heap.size; omega)))
  clear bh
  go_wp2_with fail
  go_ret
  exact ⟨rfl, BH.out⟩
end Go.Proofs.Ythpkabjgjgmnoaa.fnExactSplitString
