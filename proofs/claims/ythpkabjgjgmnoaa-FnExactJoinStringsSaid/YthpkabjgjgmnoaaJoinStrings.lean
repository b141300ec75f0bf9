/- What is proved: the law FnExactJoinStrings answers true at every list of strings and every separator: JoinStrings answers as its model, and leaves its list as it was.
   Conditions: none beyond the form's own. -/
import Derived.Test.YthpkabjgjgmnoaaRows
import Derived.Test.YthpkabjgjgmnoaaFrame
import Derived.Test.YthpkabjgjgmnoaaJoin
import Derived.WalkKit
import Derived.ProofKit
import Derived.OpenShut
import Derived.ShutString
import Derived.SliceStrings
import Derived.Deep.DeepHandedRow
import Derived.Lib.LaidTab
namespace Go.Proofs.Ythpkabjgjgmnoaa.fnExactJoinStrings
open Go.ChangeShapes Go.WideShapes Go.ChangeAt Go.RowKit
open Go.ChangeMaps (open_string shut_string)
set_option linter.unusedVariables false
theorem own : ownKnob Try.prog.godebug = none := by kernel_rfl
theorem laidOut : laidOutB Try.prog = true := by kernel_rfl
theorem walk (ss : List ByteArray) (p : Option Addr) (cap : Nat) (hn : ss.length ≤ maxLen) (hcap : ss.length ≤ cap) (hz : ∀ s ∈ ss, s.size ≤ maxLen) (a1 : ByteArray) (w1 : a1.size ≤ maxLen) (W : World) (hS : StrsAt W W.heap.size p ss) :
    Calls Try.prog 5 #[.slice p ss.length cap, .string a1] W fun e W' => e = .returned (.bool true) ∧ Below W.heap.size W W' := by
  have w2 := w1
  unfold maxLen at w2
  by_cases h20 : 1048576 < a1.size
  · go_enter Try.func5, Try.ntmps5
    go_wp2_with fail
    go_ret
    exact ⟨rfl, Below.refl _ _⟩
  · have SZ := Lib.hid (szS ss p cap _ W hn hz hS)
    have S := Lib.hid hS
    clear hS hz
    go_enter Try.func5, Try.ntmps5
    go_wp2_with (go_at_call 21; refine SZ.out.mono ?_; rintro e w' ⟨r, rfl, hr, rfl⟩)
    · go_ret
      exact ⟨rfl, Below.refl _ _⟩
    · have hr0 : 0 ≤ r := by assumption
      have HR := hr hr0
      have n20 : ss.length ≤ 1048576 := by omega
      have Z20 : Hid (∀ s ∈ ss, s.size ≤ 1048576) := Lib.hid (fun s hs => by have := size_le_bulk ss s hs; omega)
      have N63 : ss.length ≤ maxLen := by unfold maxLen; omega
      have A63 : a1.size ≤ maxLen := w1
      clear hr HR SZ
      go_wp2_with fail
      refine (toStr ss p cap W n20 S.out).mono ?_
      rintro e wa ⟨rfl, oa, ba⟩
      have SA := Lib.hid (StrsAt.of_own oa)
      have BA := Lib.hid ba
      clear oa ba
      go_wp2_with fail
      refine (specJoin ss a1 _ _ _ wa N63 Z20.out A63 SA.out).mono ?_
      rintro e wb ⟨hj, hd⟩
      obtain rfl := hj.form
      have BB := Lib.hid (BA.out.trans (hd.below W.heap.size))
      clear hj hd
      go_wp2_with fail
      refine (toStr ss p cap wb n20 ((S.out.below BB.out).more BB.out.size)).mono ?_
      rintro e wc ⟨rfl, oc, bc⟩
      have SC := Lib.hid (StrsAt.of_own oc)
      have BC := Lib.hid (BB.out.trans (bc.mono BB.out.size))
      clear oc bc
      go_wp2_with fail
      refine (implJoin ss a1 _ _ wc n20 (Nat.le_refl _) Z20.out SC.out).mono ?_
      rintro e wd ⟨hj, hd⟩
      obtain rfl := hj.form
      have SD := Lib.hid ((SC.out.below hd).more hd.size)
      have BD := Lib.hid (BC.out.trans (hd.mono BC.out.size))
      clear hj hd
      go_wp2_with fail
      refine (toStr ss p cap wd n20 ((S.out.below BD.out).more BD.out.size)).mono ?_
      rintro e we ⟨rfl, oe, be⟩
      have SE := Lib.hid (StrsAt.of_own oe)
      have SD2 := Lib.hid (SD.out.below be)
      have BE := Lib.hid (BD.out.trans (be.mono BD.out.size))
      clear oe be
      go_wp2_with fail
      refine (eqS ss _ _ _ _ _ _ we N63 SD2.out SE.out).mono ?_
      rintro e wf ⟨rfl, n, rfl⟩
      go_wp2_with fail
      go_ret
      exact ⟨rfl, below_drewN BE.out n⟩
theorem cellsStr : Try.prog.cellsOf 9 = 1 := by kernel_rfl
/-- What the walk gives, for every argument and every world: the same for both forms. -/
theorem contract (H : Type) (enc : TypeId × Value → H) (W : World) (base : Nat) (args : Array Value) (ds gs : List (DataW H)) (before : List MemPlace)
    (hval : ∀ (j : Nat) t v, Try.f5.params[j]? = some t → args[j]? = some v → Value.okWide Try.prog W .any base t v)
    (hW : DataW.Whole enc Try.prog Try.f5.params.toList Rows.fnExactJoinStringsSpec.vars false W args.toList ds gs before)
    (hsz : (DataW.weightsEach Try.prog (Try.f5.params.toList ++ (OpenSpec.ofChange Rows.fnExactJoinStringsSpec).bare.plain.varTypes Try.prog) (ds ++ gs)).all (· ≤ reachBytes) = true)
    (hL : laidMetH Try.prog Rows.fnExactJoinStringsRow.laid W) (hsh : W.ShapedOpen Try.prog) :
    Calls Try.prog 5 args W fun e W' => ∃ v, e = .returned v ∧ Rows.fnExactJoinStringsSpec.post enc Try.prog Try.f5 false true false false W args v W' := by
  have hW' := hW
  obtain ⟨p, q, hA0, hV, rfl, hfz, hnd⟩ := hW
  have hA : DataW.TrodAll enc Try.prog W 0 (fun _ => true) true Try.f5.params.toList args.toList ds p := hA0
  rw [Try.params5] at hA hval hsz
  obtain ⟨v0, vs0, d0, ds0, p0, q0, hargs, rfl, rfl, h0, r0⟩ := trodAll_cons hA
  obtain ⟨v1, vs1, d1, ds1, p1, q1, rfl, rfl, rfl, h1, r1⟩ := trodAll_cons r0
  obtain ⟨rfl, rfl, rfl⟩ := trodAll_nil r1
  obtain rfl : args = #[v0, v1] := by cases args; simp_all
  obtain ⟨rfl, rfl⟩ := trodVars_none hV
  obtain ⟨a1, rfl, rfl, rfl, w1⟩ := open_string Try.underlying9 (hval 1 9 v1 rfl rfl) h1
  obtain ⟨p0', len, cap, rfl⟩ := okWide_slice Try.underlying26 (hval 0 26 v0 rfl rfl)
  have done : ∀ ss : List ByteArray, ss.length = len → ss.length ≤ maxLen → ss.length ≤ cap → (∀ s ∈ ss, s.size ≤ maxLen) → StrsAt W W.heap.size p0' ss →
      Calls Try.prog 5 #[.slice p0' len cap, .string a1] W fun e W' => ∃ v, e = .returned v ∧ Rows.fnExactJoinStringsSpec.post enc Try.prog Try.f5 false true false false W #[.slice p0' len cap, .string a1] v W' := by
    intro ss hlen h1 h2 h3 h4
    subst hlen
    refine (walk ss p0' cap h1 h2 h3 a1 w1 W h4).mono fun e W' ⟨he, hb⟩ => ?_
    subst he
    exact ⟨_, rfl, law_post laidOut rfl (by kernel_rfl) (by kernel_rfl) Try.underlying4 rfl rfl rfl hW' hb⟩
  obtain ⟨fuel, hf⟩ := h0
  rcases open_strings Try.underlying26 Try.underlying9 cellsStr hf with ⟨hcs, hx⟩ | ⟨a, len', cap', ss, hcs, _, hl, hm, hzl, hx, hcell, hws⟩
  · simp [Value.cells] at hcs
    obtain ⟨rfl, rfl, rfl⟩ := hcs
    exact done [] rfl (by simp) (by simp) (by simp) (by intro i hi; simp at hi)
  · simp [Value.cells] at hcs
    obtain ⟨rfl, rfl, rfl⟩ := hcs
    simp only [if_true] at hzl
    have hlt : (ss.take len).length = len := by rw [List.length_take]; omega
    exact done (ss.take len) hlt (by omega) (by omega) (fun s hs => hws s (List.mem_of_mem_take hs)) (StrsAt.opened hl hzl hcell)
noncomputable def laidWorld (os : Os) : World := World.holding Try.prog os ⟨#[], #[], []⟩
theorem laid_met (os : Os) : laidMet Try.prog Rows.fnExactJoinStringsRow.laid ((laidWorld os).forCall (fun _ _ => 0) ⟨#[], #[.slice none 0 0, .string ByteArray.empty], []⟩).memory :=
  laidMet_of_run' 8 (by kernel_rfl) (by kernel_rfl)
theorem reads (os : Os) {H : Type} (enc : TypeId × Value → H) : ∃ places, DataW.whole enc Try.prog ((laidWorld os).forCall (fun _ _ => 0) ⟨#[], #[.slice none 0 0, .string ByteArray.empty], []⟩).memory Try.f5.params.toList Rows.fnExactJoinStringsSpec.vars false (#[.slice none 0 0, .string ByteArray.empty] : Array Value).toList 8 = some ([.nil, .lit (.string [])], [], places) :=
  ⟨[], by kernel_rfl⟩
set_option maxRecDepth 100000 in
theorem lifted (os : Os) (started : os.Started) (H : Type) (enc : TypeId × Value → H) (F : Stop.Interp) :
    ReturnsInHanded {} Try.checked os 5 .any ((OpenSpec.ofChange Rows.fnExactJoinStringsSpec).preRow enc Try.prog Try.f5 Rows.fnExactJoinStringsRow.domain false Rows.fnExactJoinStringsRow.laid) (((OpenSpec.ofChange Rows.fnExactJoinStringsSpec).at F).post enc Try.prog Try.f5 false true false false) := by
  obtain ⟨places, hx⟩ := reads os enc
  refine returnsInHanded_of_row (C := Try.checked) (s := OpenSpec.ofChange Rows.fnExactJoinStringsSpec) own started (by kernel_rfl) Try.func5
    (witness_row_at (enc := enc) (C := Try.checked) false (laidWorld os) #[.slice none 0 0, .string ByteArray.empty] rfl (by kernel_rfl) (by kernel_rfl) (by kernel_rfl)
      (OpenSpec.preRow_of_cond 8 hx (by kernel_rfl) (fun k hk => by cases hk) (by kernel_rfl) (laid_met os))) ?_
  intro W base args ds gs before hval hW _ _ hsz hL hsh _
  exact contract H enc W base args ds gs before hval hW hsz hL hsh
theorem said : Rows.FnExactJoinStringsSaid :=
  OpenClaim.holds_of_cond 5 Try.f5 rfl rfl rfl rfl rfl rfl rfl ⟨rfl, rfl, rfl, rfl, rfl⟩ rfl rfl rfl rfl rfl (by kernel_rfl) Try.func5 (by kernel_rfl)
    (of_decide_eq_true (by kernel_rfl)) (by unfold Func.isWrapper; first | (rw [if_pos (by decide +kernel)]; kernel_rfl) | (rw [if_neg (by decide +kernel)]; exact ⟨rfl, rfl⟩))
    (fun os started H enc _ F => by rw [OpenClaim.pre_eq_preRow]; exact lifted os started H enc F)
/-- The statement. -/
theorem proved : Rows.FnExactJoinStringsSaid := said
#print axioms proved
end Go.Proofs.Ythpkabjgjgmnoaa.fnExactJoinStrings
