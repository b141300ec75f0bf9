/- The walk of the law FnSplitJoin: the Go text answers true. -/
import Derived.Test.YthpkabjgjgmnoaaSJ
import Derived.Test.YthpkabjgjgmnoaaSplitW
import Derived.Test.YthpkabjgjgmnoaaJoin
import Derived.Test.YthpkabjgjgmnoaaDrawSJ
import Derived.Test.YthpkabjgjgmnoaaBytes
import Derived.WalkKit
import Derived.ProofKit
import Derived.Outline
import Derived.Lib.Hide
import Derived.WalkSpells
namespace Go.Proofs.Ythpkabjgjgmnoaa
open Go.RowKit
set_option linter.unusedVariables false
theorem lessI (a b : ByteArray) (w : World) (ha : a.size ≤ maxLen) (hb : b.size ≤ maxLen) :
    Calls Try.prog 15 #[.string a, .string b] w fun e w' => e = .returned (.bool (lessB a b)) ∧ w = w' := by
  go_enter Try.func15, Try.ntmps15
  go_wp2
  go_ret
  exact ⟨rfl, rfl⟩
theorem lessS (a b : ByteArray) (w : World) (ha : a.size ≤ maxLen) (hb : b.size ≤ maxLen) :
    Calls Try.prog 16 #[.string a, .string b] w fun e w' => e = .returned (.bool (lessB a b)) ∧ w = w' := by
  go_enter Try.func16, Try.ntmps16
  go_wp2
  go_ret
  exact ⟨rfl, rfl⟩
theorem own_cap {w : World} {base e g n cap : Nat} {xs : List Value} (h : w.ownsRow base e 1 (.slice (some ⟨g, 0, none⟩) n cap) n xs) : n ≤ cap := by
  rcases h.2 with ⟨h1, _⟩ | ⟨g', cap', cur, h1, hb, hg, hc, _⟩
  · cases h1
  · injection h1 with _ _ h3; omega
/-- What the parts of a split are worth. -/
def Parts (s sep : ByteArray) (ps : List ByteArray) (pb : Bool) : Prop :=
  (sep.size = 1 ∧ pb = true ∧ joinB ps sep = s ∧ canJoin ps sep ∧ (∀ x ∈ ps, x.size ≤ 1048576)) ∨ (sep.size ≠ 1 ∧ pb = false ∧ ps.length = 0)
theorem parts_of (s sep : ByteArray) (h : s.size ≤ 4000) : Parts s sep (fnExactSplitString.psOf s sep) (fnExactSplitString.pbOf s sep) := by
  unfold fnExactSplitString.psOf fnExactSplitString.pbOf
  by_cases h1 : sep.size = 1
  · rw [if_pos ⟨h, h1⟩, if_pos ⟨h, h1⟩]
    obtain ⟨a, b⟩ := splitAll_join s sep h1 h
    refine .inl ⟨h1, rfl, a, b, fun x hx => ?_⟩
    have := size_le_bulk _ x hx
    have := b.2.2.2
    omega
  · rw [if_neg (fun h2 => h1 h2.2), if_neg (fun h2 => h1 h2.2)]
    exact .inr ⟨h1, rfl, rfl⟩
theorem joined_yes {ss : List ByteArray} {sep : ByteArray} {e : Ending} (h : Joined ss sep e) (hc : canJoin ss sep) : e = .returned (.tuple #[.string (joinB ss sep), .bool true]) := by
  rcases h with ⟨_, h⟩ | ⟨h, _⟩
  · exact h
  · exact absurd hc h
set_option maxRecDepth 100000 in
set_option maxHeartbeats 4000000 in
theorem walkSJ (n c : Nat) (p : Option Addr) (hn : n ≤ maxLen) (W : World) (hB : BytesAt W W.heap.size p n) :
    Calls Try.prog 3 #[.slice p n c] W fun e W' => e = .returned (.bool true) ∧ Below W.heap.size W W' := by
  by_cases hbig : 65536 < n
  · clear hB
    go_enter Try.func3, Try.ntmps3
    go_wp2_with (go_at_call 8; refine (vBig_yes _ _ _ _ hbig hn).mono ?_; rintro e w' ⟨rfl, rfl⟩)
    go_ret
    exact ⟨rfl, Below.refl _ _⟩
  · have hn2 : n ≤ 65536 := by omega
    have B' := Lib.hid (fun (w : World) (K : Below W.heap.size W w) => Lib.hid ((hB.below K).more K.size))
    have D0 := Lib.hid (drawSplit n c p W hn2 hB)
    clear hB hbig hn
    go_enter Try.func3, Try.ntmps3
    go_wp2_with (go_at_call 8; refine (vBig_no _ _ _ _ hn2).mono ?_; rintro e w' ⟨rfl, rfl⟩)
    refine D0.out.mono ?_
    rintro e w1 ⟨⟨s, sep, hs, hsep, rfl⟩, hb⟩
    have K1 := Lib.hid hb
    have PA := Lib.hid (parts_of s sep (by omega))
    have PL := fnExactSplitString.ps_len s sep
    have SA := Lib.hid (fnExactSplitString.impl_any s sep w1 (by unfold maxLen; omega) (by unfold maxLen; omega))
    obtain ⟨ps, hps⟩ : ∃ ps, ps = fnExactSplitString.psOf s sep := ⟨_, rfl⟩
    obtain ⟨pb, hpb⟩ : ∃ pb, pb = fnExactSplitString.pbOf s sep := ⟨_, rfl⟩
    rw [← hps, ← hpb] at PA SA
    rw [← hps] at PL
    clear hps hpb hb
    go_wp2_with fail
    refine SA.out.mono ?_
    rintro e w2 ⟨g, cp, rfl, own2, hb⟩
    have K2 := Lib.hid (K1.out.trans (hb.mono K1.out.size))
    have S2 := Lib.hid (StrsAt.of_own own2)
    have CP := own_cap own2
    clear own2 hb
    go_wp2_with fail
    refine (drawJoin n c p w2 hn2 (B'.out w2 K2.out).out).mono ?_
    rintro e w3 ⟨q, cap, ss, mark, rfl, hl, hcap, hz, hm, hst, hb⟩
    have Z3 : Hid (∀ x ∈ ss, x.size ≤ 1048576) := Lib.hid (fun x hx => by have := hz x hx; omega)
    have K3 := Lib.hid (K2.out.trans (hb.mono K2.out.size))
    have S3 := Lib.hid ((S2.out.below hb).more hb.size)
    have IJ := Lib.hid (implJoin ss mark q cap w3 (by omega) hcap Z3.out hst)
    have M3 := Lib.hid hst
    clear hb hst hz
    go_wp2_with fail
    refine IJ.out.mono ?_
    rintro e w4 ⟨hj, hb⟩
    obtain rfl := hj.form
    have K4 := Lib.hid (K3.out.trans (hb.mono K3.out.size))
    have S4 := Lib.hid ((S3.out.below hb).more hb.size)
    have SJ := Lib.hid (specJoin ss mark q cap _ w4 (by unfold maxLen; omega) Z3.out (by unfold maxLen; omega) ((M3.out.below hb).more hb.size))
    clear hb hj
    go_wp2_with fail
    refine SJ.out.mono ?_
    rintro e w5 ⟨hj, hd⟩
    obtain rfl := hj.form
    have hb := hd.below w4.heap.size
    have K5 := Lib.hid (K4.out.trans (hb.mono K4.out.size))
    have S5 := Lib.hid ((S4.out.below hb).more hb.size)
    clear hb hj hd
    obtain ⟨J, hJ⟩ : ∃ J, J = jx ss mark := ⟨_, rfl⟩
    obtain ⟨F, hF⟩ : ∃ F, F = jb ss mark := ⟨_, rfl⟩
    rw [← hJ, ← hF]
    clear hJ hF IJ SJ M3 Z3
    go_wp2_with fail
    refine (drawLess n c p w5 hn2 (B'.out w5 K5.out).out).mono ?_
    rintro e w6 ⟨⟨a, b, ha, hb', rfl⟩, hb⟩
    have K6 := Lib.hid (K5.out.trans (hb.mono K5.out.size))
    have S6 := Lib.hid ((S5.out.below hb).more hb.size)
    have am : a.size ≤ maxLen := by unfold maxLen; omega
    have bm : b.size ≤ maxLen := by unfold maxLen; omega
    have LI := Lib.hid (fun w => lessI a b w am bm)
    have LJ := Lib.hid (fun w => lessI b a w bm am)
    have LS := Lib.hid (fun w => lessS a b w am bm)
    have AS := Lib.hid (less_asym a b)
    obtain ⟨L, hL⟩ : ∃ L, L = lessB a b := ⟨_, rfl⟩
    obtain ⟨R, hR⟩ : ∃ R, R = lessB b a := ⟨_, rfl⟩
    rw [← hL] at LI LS AS
    rw [← hR] at LJ AS
    clear hL hR hb
    have AS2 : Hid ((L && R) = false) := by
      refine Lib.hid ?_
      cases hLv : L with
      | false => rfl
      | true => rw [AS.out hLv]; rfl
    clear AS
    rcases PA.out with ⟨h1, rfl, hj, hcj, hz⟩ | ⟨h1, rfl, hl0⟩
    · have Z6 := Lib.hid hz
      have CJ := Lib.hid hcj
      have JN := Lib.hid hj
      have IJ := Lib.hid (implJoin ps sep (some ⟨g, 0, none⟩) cp w6 (by omega) CP hz S6.out)
      clear hz hcj hj PA SA
      cases L with
      | true =>
        have hR : R = false := AS2.out
        subst hR
        go_wp2_with (first
        | (go_at_call 15; refine (LI.out _).mono ?_; rintro e w' ⟨rfl, rfl⟩)
        | (go_at_call 15; refine (LJ.out _).mono ?_; rintro e w' ⟨rfl, rfl⟩)
        | (go_at_call 16; refine (LS.out _).mono ?_; rintro e w' ⟨rfl, rfl⟩))
        refine IJ.out.mono ?_
        rintro e w7 ⟨hj, hb⟩
        obtain rfl := joined_yes hj CJ.out
        have K7 := Lib.hid (K6.out.trans (hb.mono K6.out.size))
        rw [JN.out]
        clear hb hj
        go_wp2_with fail
        go_ret
        exact ⟨rfl, K7.out⟩
      | false =>
        go_wp2_with (first
        | (go_at_call 15; refine (LI.out _).mono ?_; rintro e w' ⟨rfl, rfl⟩)
        | (go_at_call 15; refine (LJ.out _).mono ?_; rintro e w' ⟨rfl, rfl⟩)
        | (go_at_call 16; refine (LS.out _).mono ?_; rintro e w' ⟨rfl, rfl⟩))
        refine IJ.out.mono ?_
        rintro e w7 ⟨hj, hb⟩
        obtain rfl := joined_yes hj CJ.out
        have K7 := Lib.hid (K6.out.trans (hb.mono K6.out.size))
        rw [JN.out]
        clear hb hj
        go_wp2_with fail
        go_ret
        exact ⟨rfl, K7.out⟩
    · have hne : ((sep.size : Int) == 1) = false := by rw [beq_eq_false_iff_ne]; omega
      have hz0 : ((ps.length : Int) == 0) = true := by rw [hl0]; rfl
      clear PA SA hl0
      cases L with
      | true =>
        have hR : R = false := AS2.out
        subst hR
        go_wp2_with (first
        | (go_at_call 15; refine (LI.out _).mono ?_; rintro e w' ⟨rfl, rfl⟩)
        | (go_at_call 15; refine (LJ.out _).mono ?_; rintro e w' ⟨rfl, rfl⟩)
        | (go_at_call 16; refine (LS.out _).mono ?_; rintro e w' ⟨rfl, rfl⟩))
        go_ret
        exact ⟨rfl, K6.out⟩
      | false =>
        go_wp2_with (first
        | (go_at_call 15; refine (LI.out _).mono ?_; rintro e w' ⟨rfl, rfl⟩)
        | (go_at_call 15; refine (LJ.out _).mono ?_; rintro e w' ⟨rfl, rfl⟩)
        | (go_at_call 16; refine (LS.out _).mono ?_; rintro e w' ⟨rfl, rfl⟩))
        go_ret
        exact ⟨rfl, K6.out⟩
end Go.Proofs.Ythpkabjgjgmnoaa
