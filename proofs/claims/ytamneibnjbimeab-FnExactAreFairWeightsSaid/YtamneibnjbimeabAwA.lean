/- BalP, AfwP, WlkI, MktI, WthP, AfwI, MktM, Kid4, Pay4, CutS, BalM, AfwM, MktL in one text. -/
import Derived.Test.YtamneibnjbimeabCapP
import Derived.Test.YtamneibnjbimeabSteP
import Derived.Test.YtamneibnjbimeabMktP
import Derived.Test.YtamneibnjbimeabEndsL
import Derived.Test.YtamneibnjbimeabInS
import Derived.Test.YtamneibnjbimeabWlkP
import Derived.Test.YtamneibnjbimeabMktH
import Derived.Test.YtamneibnjbimeabSteI
import Derived.Test.YtamneibnjbimeabEnds
import Derived.Test.YtamneibnjbimeabGoodS
import Derived.Test.YtamneibnjbimeabRow
import Derived.Test.YtamneibnjbimeabProcI
import Derived.Test.YtamneibnjbimeabSumS
import Derived.Deep.LoopGhost
import Derived.Deep.QuietTactic
import Derived.BigQuiet
import Derived.IntWalk
import Derived.Deep.RegionLaw
import Derived.BigRegion
import Derived.Deep.AppendLies
import Derived.Deep.DeepCutAuto
namespace Go.Proofs.Ytamneibnjbimeab
open Go.RowKit
set_option linter.unusedVariables false
theorem cutN_zero {a b : Int} (h : cutN a b = 0) : a = 0 := by
  unfold cutN at h
  have hd : gI a b ∣ a := by unfold gI; exact Int.gcd_dvd_left ..
  have := Int.ediv_mul_cancel hd
  rw [h, Int.zero_mul] at this
  exact this.symm
def balAt (ps ws zs : List Int) (x : Nat) : Bool := leafB ps x || decide ((ownT (sumsT ps ws) zs ps.length).getD x 0 = kidT ps (ownT (sumsT ps ws) zs ps.length) x)
theorem bal_at {ps ws zs : List Int} (p : Proc ps ws zs) {x : Nat} (hx : x < ps.length) : steP true (driA ps ws zs x) = balAt ps ws zs x := by
  have g := p.good
  unfold balAt
  cases hl : leafB ps x
  · have h1 := dri_model (zs := zs) g hx hl
    have h2 : kidF (fun y => (sumsT ps ws).getD y 0 * zs.getD y 0) (kidsT ps (x : Int)) = kidT ps (ownT (sumsT ps ws) zs ps.length) x := by
      rw [← kid_model, kidsT_eq, kidF_nodes _ _ ps.length ps.length (Nat.le_refl _), kidF_nodes _ _ ps.length ps.length (Nat.le_refl _)]
      refine sumTo_congr _ (fun y hy => ?_)
      rw [List.getD_eq_getElem?_getD, List.getElem?_map, List.getElem?_range hy, List.getD_eq_getElem?_getD, List.getElem?_map, List.getElem?_range hy]
      simp only [Option.map_some, Option.getD_some]
      rw [ownT_at hy]
    rw [h2] at h1
    rw [Bool.false_or, ownT_at hx]
    unfold steP
    rw [if_pos rfl, Bool.eq_iff_iff, beq_iff_eq, decide_eq_true_iff]
    unfold driA
    rw [← h1]
    constructor
    · intro h; have := cutN_zero h; omega
    · intro h
      rw [h, Int.sub_self]
      exact (cut_zero (sums_pos g x hx)).1
  · rw [(dri_leafAB g hx hl).1]; rfl
theorem bal_no {ps ws zs : List Int} (p : Proc ps ws zs) {x : Nat} (hx : x < ps.length) (h : balAt ps ws zs x = false) : steB ps ws zs true = false := steB_no hx (by rw [bal_at p hx]; exact h)
theorem bal_yes {ps ws zs : List Int} (p : Proc ps ws zs) (h : ∀ x, x < ps.length → balAt ps ws zs x = true) : steB ps ws zs true = true := steB_yes (fun x hx => by rw [bal_at p hx]; exact h x hx)
end Go.Proofs.Ytamneibnjbimeab
namespace Go.Proofs.Ytamneibnjbimeab
set_option linter.unusedVariables false
/-- The first k weights, each at its end. -/
def layW (B es qs : List Int) : Nat → List Int
  | 0 => B
  | k + 1 => (layW B es qs k).set (es.getD k 0).toNat (qs.getD k 0)
theorem layW_len (B es qs : List Int) (k : Nat) : (layW B es qs k).length = B.length := by
  induction k with
  | zero => rfl
  | succ k ih => rw [layW, List.length_set, ih]
theorem getD_set9 (L : List Int) (i y : Nat) (z : Int) : (L.set i z).getD y 0 = if i = y ∧ y < L.length then z else L.getD y 0 := by
  rw [List.getD_eq_getElem?_getD, List.getD_eq_getElem?_getD, List.getElem?_set]
  by_cases h : i = y
  · subst h
    by_cases h2 : i < L.length
    · rw [if_pos rfl, if_pos h2, if_pos ⟨rfl, h2⟩]; rfl
    · rw [if_pos rfl, if_neg h2, if_neg (fun c => h2 c.2), List.getElem?_eq_none (by omega)]
  · rw [if_neg h, if_neg (fun c => h c.1)]
theorem layW_agree {A B es qs : List Int} (hl : A.length = B.length) (h0 : ∀ y, y < A.length → (∀ j, j < es.length → (es.getD j 0).toNat ≠ y) → A.getD y 0 = B.getD y 0) :
    ∀ k, k ≤ es.length → ∀ y, y < A.length → (∀ j, k ≤ j → j < es.length → (es.getD j 0).toNat ≠ y) → (layW A es qs k).getD y 0 = (layW B es qs k).getD y 0 := by
  intro k
  induction k with
  | zero => intro _ y hy hn; exact h0 y hy (fun j hj => hn j (by omega) hj)
  | succ k ih =>
    intro hk y hy hn
    rw [layW, layW, getD_set9, getD_set9, layW_len, layW_len, ← hl]
    by_cases he : (es.getD k 0).toNat = y ∧ y < A.length
    · rw [if_pos he, if_pos he]
    · rw [if_neg he, if_neg he]
      refine ih (by omega) y hy (fun j hj hj2 => ?_)
      by_cases hjk : j = k
      · subst hjk; intro c; exact he ⟨c, hy⟩
      · exact hn j (by omega) hj2
theorem nodesW_has {p : Nat → Bool} {y : Nat} (hp : p y = true) (n : Nat) (h : y < n) : (y : Int) ∈ nodesW p n := by
  unfold nodesW
  exact List.mem_map.2 ⟨y, List.mem_filter.2 ⟨List.mem_range.2 h, hp⟩, rfl⟩
theorem ends_hit {ps : List Int} {y : Nat} (hy : y < ps.length) (hl : leafB ps y = true) : ∃ j, j < (endsT ps).length ∧ ((endsT ps).getD j 0).toNat = y := by
  have hm : (y : Int) ∈ endsT ps := nodesW_has hl _ hy
  obtain ⟨j, hj, e⟩ := List.getElem_of_mem hm
  refine ⟨j, hj, ?_⟩
  rw [List.getD_eq_getElem?_getD, List.getElem?_eq_getElem hj, Option.getD_some, e, Int.toNat_natCast]
theorem layW_same {ps ws : List Int} (g : Good ps ws) (qs : List Int) : layW ws (endsT ps) qs (endsT ps).length = layW (List.replicate ps.length 0) (endsT ps) qs (endsT ps).length := by
  have hw := g.nw
  have hl : ws.length = (List.replicate ps.length (0 : Int)).length := by rw [List.length_replicate]; exact hw
  refine List.ext_getElem (by rw [layW_len, layW_len, hl]) (fun y h1 h2 => ?_)
  have hy : y < ws.length := by rw [layW_len] at h1; exact h1
  have := layW_agree (qs := qs) (es := endsT ps) hl (fun y hy hn => by
    have hz : leafB ps y = false := by
      cases c : leafB ps y
      · rfl
      · obtain ⟨j, hj, e⟩ := ends_hit (by omega) c
        exact absurd e (hn j hj)
    have h0 := g.inner y (by omega) hz
    have hr : (List.replicate ps.length (0 : Int)).getD y 0 = 0 := by
      rw [List.getD_eq_getElem?_getD, List.getElem?_replicate]; split <;> rfl
    rw [hr]; exact h0) (endsT ps).length (Nat.le_refl _) y hy (fun j hj hj2 => by omega)
  rw [List.getD_eq_getElem?_getD, List.getD_eq_getElem?_getD, List.getElem?_eq_getElem h1, List.getElem?_eq_getElem h2] at this
  exact this
/-- What AreFairWeights answers. -/
def awT (ps qs : List Int) : List Int := layW (List.replicate ps.length 0) (endsT ps) qs (endsT ps).length
def awB (ps ws cs qs : List Int) : Bool := goodM ps ws cs && decide (qs.length = (endsT ps).length)
def awV (ps ws cs qs : List Int) : Value := if awB ps ws cs qs = true then steV ps (awT ps qs) cs true else .tuple #[.bool false, .bool false]
theorem awV_form (ps ws cs qs : List Int) : ∃ rx ok, awV ps ws cs qs = .tuple #[.bool rx, .bool ok] := by
  unfold awV; split
  · exact steV_form _ _ _ _
  · exact ⟨_, _, rfl⟩
theorem mkt_proc {ps ws cs w2 : List Int} (mk : Mkt ps ws cs) (g : Good ps w2) : Proc ps w2 cs := ⟨g, mk.len, fun i hi => by have := mk.bd i hi; omega⟩
end Go.Proofs.Ytamneibnjbimeab
namespace Go.Proofs.Ytamneibnjbimeab
open Go.RowKit
set_option linter.unusedVariables false
theorem fromI (x a b : Int) (w : World) : Calls Try.prog 97 #[.int .i64 x, .int .i64 a, .int .i64 b] w fun e w' => e = .returned (.bool (decide (a ≤ x ∧ x ≤ b))) ∧ w = w' := by
  by_cases h1 : a ≤ x
  · by_cases h2 : x ≤ b
    · rw [decide_eq_true ⟨h1, h2⟩]
      go_enter Try.func97, Try.ntmps97
      go_wp2
      go_ret
      exact ⟨rfl, rfl⟩
    · rw [decide_eq_false (fun h => h2 h.2)]
      go_enter Try.func97, Try.ntmps97
      go_wp2
      go_ret
      exact ⟨rfl, rfl⟩
  · rw [decide_eq_false (fun h => h1 h.1)]
    go_enter Try.func97, Try.ntmps97
    go_wp2
    go_ret
    exact ⟨rfl, rfl⟩
theorem chN_step (n k : Nat) (h : k ≤ n) : Int.tdiv ((chN n k : Int) * ((n : Int) - k)) ((k : Int) + 1) = (chN n (k + 1) : Nat) := by
  rw [show (n : Int) - k = ((n - k : Nat) : Int) by omega, ← Int.natCast_mul, Int.tdiv_eq_ediv_of_nonneg (by omega)]
  rfl
theorem chS_step (n k i : Nat) (h : k ≤ n) : Int.tdiv ((chS n k i : Int) * ((n : Int) - k + ((i : Int) + 1))) ((i : Int) + 1) = (chS n k (i + 1) : Nat) := by
  rw [show (n : Int) - k + ((i : Int) + 1) = ((n - k + (i + 1) : Nat) : Int) by omega, ← Int.natCast_mul, Int.tdiv_eq_ediv_of_nonneg (by omega)]
  rfl
end Go.Proofs.Ytamneibnjbimeab
namespace Go.Proofs.Ytamneibnjbimeab
open Go.RowKit
set_option linter.unusedVariables false
set_option maxHeartbeats 2000000 in
theorem outPPred (cs : List Int) (w : World) :
    PredZ 96 #[] outP cs w := by
  intro W z hz hb
  have F := Lib.hid (fun w => fromI z 0 20 w)
  have D : Hid (outP z = !decide (0 ≤ z ∧ z ≤ 20)) := Lib.hid rfl
  clear hb hz
  show Calls _ _ #[.int .i64 z] _ _
  generalize decide (0 ≤ z ∧ z ≤ 20) = bb at *
  go_enter Try.func96, Try.ntmps96
  go_wp2_with fail
  refine (F.out _).mono ?_
  rintro e w1 ⟨rfl, rfl⟩
  go_wp2_with fail
  go_ret
  exact ⟨by rw [D.out]; rfl, Below.refl _ _⟩
set_option maxHeartbeats 2000000 in
theorem isMktI (ps ws cs : List Int) (v : Value) (w : World) (hn : cs.length ≤ 1048576) (h : MktV w w.heap.size v ps ws cs) :
    Calls Try.prog 51 #[v] w (Gives (.bool (goodM ps ws cs)) w) := by
  obtain ⟨p1, c1, p2, c2, p3, c3, rfl⟩ := h.shape
  have G := Lib.hid (fun w' (hb : Below w.heap.size w w') => isTreeI ps ws _ w' (h.tree.1.boxed hb))
  have CV := Lib.hid (fun w' (hb : Below w.heap.size w w') => containsI cs _ 96 #[] outP w' (enters_of Try.func96 (by kernel_rfl) rfl) hn ((h.tree.2.below hb).more hb.size) (outPPred cs w'))
  have hmf : ∀ (fn : Fn) (first cap : Array Value) (w : World), (Instr.makeFunc fn first cap).run Try.prog w = .ok (.func fn first cap) w := fun _ _ _ _ => rfl
  have AO := Lib.hid (any_outP cs)
  have D : Hid (goodM ps ws cs = (goodT ps ws && (decide (cs.length = ps.length) && pricesB cs))) := Lib.hid rfl
  clear h
  have B1 := (Below.refl w.heap.size w).alloc (Nat.le_refl _) (.cells #[.slice p1 ps.length c1, .slice p2 ws.length c2, .slice p3 cs.length c3] 32)
  have T1 := Lib.hid (show KBox (w.alloc (.cells #[.slice p1 ps.length c1, .slice p2 ws.length c2, .slice p3 cs.length c3] 32)) w.heap.size (.slice p1 ps.length c1) (.slice p2 ws.length c2) (.slice p3 cs.length c3) from alloc_heap w _)
  obtain ⟨wa, hwa⟩ : ∃ wa, wa = w.alloc (.cells #[.slice p1 ps.length c1, .slice p2 ws.length c2, .slice p3 cs.length c3] 32) := ⟨_, rfl⟩
  rw [← hwa] at B1 T1
  obtain ⟨x0, x1, x2⟩ := T1.out.cells
  have HBA := Lib.hid B1
  clear B1
  cases hg : goodT ps ws
  · rw [hg] at G D
    clear hg
    go_enter Try.func51, Try.ntmps51
    go_wp2_with fail
    rw [← hwa]
    clear hwa
    refine (G.out _ HBA.out).mono ?_
    rintro e w1 ⟨rfl, b1⟩
    have HB1 := Lib.hid (HBA.out.trans (b1.mono HBA.out.size))
    clear b1
    go_wp2_with fail
    go_ret
    exact ⟨ret_b (by rw [D.out]; rfl), HB1.out⟩
  · rw [hg] at G D
    clear hg
    by_cases hl : cs.length = ps.length
    · rw [decide_eq_true hl] at D
      have le1 : cs.length ≤ ps.length := by omega
      have le2 : ps.length ≤ cs.length := by omega
      have t1 : ((cs.length : Int) == (ps.length : Int)) = true := by simpa using (show (cs.length : Int) = (ps.length : Int) by omega)
      clear hl
      generalize pricesB cs = pb at *
      generalize cs.any outP = ob at *
      go_enter Try.func51, Try.ntmps51
      go_wp2_with fail
      rw [← hwa]
      clear hwa
      refine (G.out _ HBA.out).mono ?_
      rintro e w1 ⟨rfl, b1⟩
      have HB1 := Lib.hid (HBA.out.trans (b1.mono HBA.out.size))
      obtain ⟨y0, y1, y2⟩ := (T1.out.below b1 T1.out.lt).cells
      clear b1 x0 x1 x2
      go_wp2_with fail
      refine (CV.out _ HB1.out).mono ?_
      rintro e w2 ⟨rfl, b2⟩
      have HB2 := Lib.hid (HB1.out.trans (b2.mono HB1.out.size))
      clear b2
      go_wp2_with fail
      go_ret
      exact ⟨ret_b (by rw [D.out, AO.out]; simp), HB2.out⟩
    · rw [decide_eq_false hl] at D
      have t1 : ((cs.length : Int) == (ps.length : Int)) = false := by simpa using (show ¬ (cs.length : Int) = (ps.length : Int) by omega)
      clear hl
      go_enter Try.func51, Try.ntmps51
      go_wp2_with fail
      rw [← hwa]
      clear hwa
      refine (G.out _ HBA.out).mono ?_
      rintro e w1 ⟨rfl, b1⟩
      have HB1 := Lib.hid (HBA.out.trans (b1.mono HBA.out.size))
      obtain ⟨y0, y1, y2⟩ := (T1.out.below b1 T1.out.lt).cells
      clear b1 x0 x1 x2
      go_wp2_with fail
      go_ret
      exact ⟨ret_b (by rw [D.out]; rfl), HB1.out⟩
end Go.Proofs.Ytamneibnjbimeab
namespace Go.Proofs.Ytamneibnjbimeab
open Go.RowKit
set_option linter.unusedVariables false
theorem KBox.alloc {w : World} {B : Nat} {v1 v2 v3 : Value} (h : KBox w B v1 v2 v3) (o : Obj) : KBox (w.alloc o) B v1 v2 v3 := by
  have hl := h.lt
  show (w.heap.push o)[B]? = _
  rw [Array.getElem?_push, if_neg (by omega)]; exact h
theorem KBox.grown {w w' : World} {B : Nat} {v1 v2 v3 : Value} {r : Option Nat} {lo : Nat} (h : KBox w B v1 v2 v3) (hg : w.grownBy w' r) (hr : ∀ q, r = some q → lo ≤ q) (hB : B < lo) : KBox w' B v1 v2 v3 :=
  (hg.block B h.lt (fun e => by have := hr B e.symm; omega)).trans h
end Go.Proofs.Ytamneibnjbimeab
namespace Go.Proofs.Ytamneibnjbimeab
open Go.RowKit
set_option linter.unusedVariables false
/-- What stands behind the other tree and its row. -/
structure AfS (w : World) (v1 v2 v3 : Value) (n bo g gb ce m : Nat) (L es : List Int) (wx : World) : Prop where
  box : TBox wx bo v1 (.slice (some ⟨g, 0, none⟩) n n)
  own : OwnV wx g (g + 1) (.slice (some ⟨g, 0, none⟩) n n) L
  ends : OwnV wx gb (gb + 1) (.slice (some ⟨gb, 0, none⟩) m ce) es
  kb : KBox wx w.heap.size v1 v2 v3
  n1 : bo ≠ g
  n2 : gb ≠ g
  n3 : w.heap.size < g
  bel : Below w.heap.size w wx
theorem AfS.next {w wx : World} {v1 v2 v3 : Value} {n bo g gb ce m : Nat} {L es : List Int} (h : AfS w v1 v2 v3 n bo g gb ce m L es wx) (j : Nat) {x : Int} (hx : InI64 x) : AfS w v1 v2 v3 n bo g gb ce m (L.set j x) es (wx.setCell ⟨g, j, none⟩ (.int .i64 x)) :=
  ⟨h.box.set h.n1, h.own.setAt j hx, h.ends.alt (Alt.setC wx g j (.int .i64 x)) (by have := h.n2; omega), h.kb.set (by have := h.n3; omega), h.n1, h.n2, h.n3, h.bel.setCell (p := ⟨g, j, none⟩) (Nat.le_of_lt h.n3) _⟩
set_option maxRecDepth 100000 in
set_option maxHeartbeats 4000000 in
theorem afwI (ps ws cs qs : List Int) (v u : Value) (w : World) (hn : cs.length ≤ 1048576) (hq : qs.length ≤ 1048576) (h : MktV w w.heap.size v ps ws cs) (hu : IntsV w w.heap.size u qs) :
    Calls Try.prog 36 #[v, u] w (Gives (awV ps ws cs qs) w) := by
  obtain ⟨p1, c1, p2, c2, p3, c3, rfl⟩ := h.shape
  have EI := Lib.hid (fun w' (hb : Below w.heap.size w w') => endsI ps ws _ w' (h.tree.1.boxed hb))
  have G := Lib.hid (fun w' (hb : Below w.heap.size w w') => isMktI ps ws cs _ w' hn (h.boxed hb))
  have V3 := Lib.hid h.tree.2
  have V1 := Lib.hid (h.tree.1)
  obtain ⟨qp, qc, rfl, hq1, hq2, hq3, hq4⟩ := hu
  have VQ := Lib.hid hq4
  have ZQ := Lib.hid hq3
  have AW : Hid (awV ps ws cs qs = if awB ps ws cs qs = true then steV ps (awT ps qs) cs true else .tuple #[.bool false, .bool false]) := Lib.hid rfl
  have AB : Hid (awB ps ws cs qs = (goodM ps ws cs && decide (qs.length = (endsT ps).length))) := Lib.hid rfl
  clear h hq1 hq2 hq3 hq4
  have B1 := Lib.hid ((Below.refl w.heap.size w).alloc (Nat.le_refl _) (.cells #[.slice p1 ps.length c1, .slice p2 ws.length c2, .slice p3 cs.length c3] 32))
  have T1 := Lib.hid (show KBox (w.alloc (.cells #[.slice p1 ps.length c1, .slice p2 ws.length c2, .slice p3 cs.length c3] 32)) w.heap.size (.slice p1 ps.length c1) (.slice p2 ws.length c2) (.slice p3 cs.length c3) from alloc_heap w _)
  obtain ⟨wa, hwa⟩ : ∃ wa, wa = w.alloc (.cells #[.slice p1 ps.length c1, .slice p2 ws.length c2, .slice p3 cs.length c3] 32) := ⟨_, rfl⟩
  rw [← hwa] at B1 T1
  obtain ⟨x0, x1, x2⟩ := T1.out.cells
  cases hg : goodM ps ws cs
  · rw [hg] at G AB
    rw [AB.out, Bool.false_and, if_neg (by decide)] at AW
    rw [AW.out]
    clear hg AW AB
    generalize ifGood ps ws (endsT ps) = L at *
    generalize goodT ps ws = okk at *
    go_enter Try.func36, Try.ntmps36
    go_wp2_with fail
    rw [← hwa]
    clear hwa
    refine (EI.out _ B1.out).mono ?_
    rintro e w1 ⟨u1, rfl, o1, b1⟩
    have HB1 := Lib.hid (B1.out.trans (b1.mono B1.out.size))
    have U1 := Lib.hid (T1.out.below b1 T1.out.lt)
    obtain ⟨y0, y1, y2⟩ := U1.out.cells
    clear b1 x0 x1 x2 o1
    go_wp2_with fail
    refine (G.out _ HB1.out).mono ?_
    rintro e w2 ⟨rfl, b2⟩
    have HB2 := Lib.hid (HB1.out.trans (b2.mono HB1.out.size))
    clear b2
    go_wp2_with fail
    go_ret2
    exact ⟨rfl, HB2.out⟩
  · have mk := goodM_iff.1 hg
    have n24 := mk.good.n24
    have n1 := mk.good.n1
    have le1 : cs.length ≤ ps.length := Nat.le_of_eq mk.len
    have le2 : ps.length ≤ cs.length := Nat.le_of_eq mk.len.symm
    have IG : ifGood ps ws (endsT ps) = endsT ps := by unfold ifGood; rw [if_pos ((goodT_iff _ _).2 mk.good)]
    rw [IG] at EI
    rw [(goodT_iff _ _).2 mk.good] at EI
    rw [hg, Bool.true_and] at AB
    rw [hg] at G
    have hep := ends_pos mk.good
    by_cases hl : qs.length = (endsT ps).length
    · rw [AB.out, decide_eq_true hl, if_pos rfl] at AW
      rw [AW.out]
      have t1 : ((qs.length : Int) != ((endsT ps).length : Int)) = false := by simpa using (show (qs.length : Int) = ((endsT ps).length : Int) by omega)
      have EIN := Lib.hid (fun i (hi : i < (endsT ps).length) => ends_in (ps := ps) hi)
      have LS := Lib.hid (fun k => show layW (List.replicate ps.length 0) (endsT ps) qs (k + 1) = (layW (List.replicate ps.length 0) (endsT ps) qs k).set ((endsT ps).getD k 0).toNat (qs.getD k 0) from rfl)
      have LL := Lib.hid (fun k => layW_len (List.replicate ps.length 0) (endsT ps) qs k)
      have L0 := Lib.hid (show layW (List.replicate ps.length 0) (endsT ps) qs 0 = List.replicate ps.length 0 from rfl)
      have LN := Lib.hid (show awT ps qs = layW (List.replicate ps.length 0) (endsT ps) qs (endsT ps).length from rfl)
      have FI := Lib.hid (fun w' v u h hu => isFairI ps (awT ps qs) cs v u w' hn h hu)
      obtain ⟨rx, okk, hK⟩ := steV_form ps (awT ps qs) cs true
      rw [hK] at FI ⊢
      rw [LN.out] at FI
      have RL : Hid (List.replicate cs.length (0 : Int) = List.replicate ps.length 0) := Lib.hid (by rw [mk.len])
      clear hg AW AB IG hK LN
      rw [hl] at t1 ⊢
      obtain ⟨es, hes⟩ : ∃ es, es = endsT ps := ⟨_, rfl⟩
      rw [← hes] at EI EIN LS LL L0 FI hep t1 hl ⊢
      obtain ⟨F, hF⟩ : ∃ F, F = layW (List.replicate ps.length 0) es qs := ⟨_, rfl⟩
      rw [← hF] at LS LL L0 FI
      clear hes hF mk
      obtain ⟨i0, hi, hz0, hz1, hz2⟩ := info_parts intInfo
      have MK : Hid (∃ mk : World → World, ∀ w0, (Instr.makeSlice 22 (.int .i64 (cs.length : Int)) (.int .i64 (cs.length : Int))).run Try.prog w0 = .ok (.slice (some ⟨w0.heap.size, 0, none⟩) cs.length cs.length) (mk w0) ∧ (mk w0).ownsRow 0 3 1 (.slice (some ⟨w0.heap.size, 0, none⟩) cs.length cs.length) cs.length (List.replicate cs.length (.int .i64 0)) ∧ w0.grownBy (mk w0) none) := Lib.hid (by
        have hx : ∀ w0 : World, ∃ w', (Instr.makeSlice 22 (.int .i64 (cs.length : Int)) (.int .i64 (cs.length : Int))).run Try.prog w0 = .ok (.slice (some ⟨w0.heap.size, 0, none⟩) cs.length cs.length) w' ∧ w'.ownsRow 0 3 1 (.slice (some ⟨w0.heap.size, 0, none⟩) cs.length cs.length) cs.length (List.replicate cs.length (.int .i64 0)) ∧ w0.grownBy w' none := fun w0 => by
          obtain ⟨w', h1, h2, h3⟩ := run_make_full (P := Try.prog) w0 0 22 3 i0 (.int .i64 0) 1 Try.underlying22 hi hz0 hz1 .i64 .i64 cs.length (by rw [hz2]; omega) (by unfold maxLen; omega) (Nat.zero_le _)
          rw [show (Value.int .i64 0).cells = #[Value.int .i64 0] from rfl, Nat.mul_one, toList_madeCells_one] at h2
          exact ⟨w', h1, h2, h3⟩
        exact ⟨fun w0 => Classical.choose (hx w0), fun w0 => Classical.choose_spec (hx w0)⟩)
      obtain ⟨mk, hmk⟩ := MK.out
      have RUN := fun w0 => (hmk w0).1
      have MKO := Lib.hid (fun w0 => OwnV.made (lo := 0) (hmk w0).2.1)
      have MKB : Hid (∀ w0 : World, Below w0.heap.size w0 (mk w0)) := Lib.hid (fun w0 => (Below.refl _ _).grown (hmk w0).2.2 (Nat.le_refl _) (by simp))
      clear hmk MK
      go_enter Try.func36, Try.ntmps36
      go_wp2_with fail
      rw [← hwa]
      clear hwa
      refine (EI.out _ B1.out).mono ?_
      rintro e w1 ⟨u1, rfl, o1, b1⟩
      obtain ⟨gb, ce, rfl, hg1, hg2⟩ := o1.shape (by omega)
      have HB1 := Lib.hid (B1.out.trans (b1.mono B1.out.size))
      have U1 := Lib.hid (T1.out.below b1 T1.out.lt)
      have O1 := Lib.hid o1.tight
      obtain ⟨y0, y1, y2⟩ := U1.out.cells
      clear b1 x0 x1 x2 o1
      go_wp2_with fail
      refine (G.out _ HB1.out).mono ?_
      rintro e w2 ⟨rfl, b2⟩
      have HB2 := Lib.hid (HB1.out.trans (b2.mono HB1.out.size))
      have U2 := Lib.hid (U1.out.below b2 U1.out.lt)
      have O2 := Lib.hid (O1.out.below (b2.mono (by omega)))
      have hgz : gb < w2.heap.size := by have := b2.size; omega
      have hgw : w.heap.size < gb := by have := T1.out.lt; omega
      obtain ⟨z0, z1, z2⟩ := U2.out.cells
      clear b2 y0 y1 y2 U1 HB1 T1 B1 G O1 hg1 hg2
      go_upto_region 4 with fail
      go_cut [8] (fun s8 wx => ∃ bo g, s8 = .pointer (some ⟨bo, 0, none⟩) ∧ Hid (AfS w (.slice p1 ps.length c1) (.slice p2 ws.length c2) (.slice p3 cs.length c3) cs.length bo g gb ce es.length (F 0) es wx))
      case first =>
        have HA : Hid ((w2.alloc (.cells #[.slice none 0 0, .slice none 0 0] 30)).drew.heap[w2.heap.size]? = some (.cells [Value.slice none 0 0, Value.slice none 0 0].toArray 30 (0, 0))) := Lib.hid (alloc_heap w2 _)
        have SA : Hid ((w2.alloc (.cells #[.slice none 0 0, .slice none 0 0] 30)).drew.heap.size = w2.heap.size + 1) := Lib.hid (by simp)
        have KA : Hid (KBox (w2.alloc (.cells #[.slice none 0 0, .slice none 0 0] 30)).drew w.heap.size (.slice p1 ps.length c1) (.slice p2 ws.length c2) (.slice p3 cs.length c3)) := Lib.hid (U2.out.alloc _)
        have KM := Lib.hid (KA.out.below (MKB.out (w2.alloc (.cells #[.slice none 0 0, .slice none 0 0] 30)).drew) KA.out.lt)
        have HM : Hid ((mk (w2.alloc (.cells #[.slice none 0 0, .slice none 0 0] 30)).drew).heap[w2.heap.size]? = some (.cells [Value.slice none 0 0, Value.slice none 0 0].toArray 30 (0, 0))) := Lib.hid (((MKB.out (w2.alloc (.cells #[.slice none 0 0, .slice none 0 0] 30)).drew).block w2.heap.size (by rw [SA.out]; omega)).trans HA.out)
        obtain ⟨a0, a1, a2⟩ := KA.out.cells
        obtain ⟨b0, b1, b2⟩ := KM.out.cells
        obtain ⟨m0, f0⟩ := cell_of_heap (o := 0) HM.out rfl
        obtain ⟨m1, f1⟩ := cell_of_heap (o := 1) HM.out rfl
        have hgS : (w2.alloc (.cells #[.slice none 0 0, .slice none 0 0] 30)).drew.heap.size ≤ (mk (w2.alloc (.cells #[.slice none 0 0, .slice none 0 0] 30)).drew).heap.size := (MKB.out (w2.alloc (.cells #[.slice none 0 0, .slice none 0 0] 30)).drew).size
        have FIN : Hid (AfS w (.slice p1 ps.length c1) (.slice p2 ws.length c2) (.slice p3 cs.length c3) cs.length w2.heap.size (w2.heap.size + 1) gb ce es.length (F 0) es (((mk (w2.alloc (.cells #[.slice none 0 0, .slice none 0 0] 30)).drew).setCell ⟨w2.heap.size, 0, none⟩ (.slice p1 ps.length c1)).setCell ⟨w2.heap.size, 1, none⟩ (.slice (some ⟨w2.heap.size + 1, 0, none⟩) cs.length cs.length))) := Lib.hid (by
          have hw2 := U2.out.lt
          have o9 := (MKO.out (w2.alloc (.cells #[.slice none 0 0, .slice none 0 0] 30)).drew).tight
          rw [SA.out] at o9
          rw [L0.out, ← RL.out]
          have B9 := HB2.out.alloc HB2.out.size (.cells #[.slice none 0 0, .slice none 0 0] 30)
          have B10 : Below w.heap.size w (w2.alloc (.cells #[.slice none 0 0, .slice none 0 0] 30)).drew := below_drew B9
          have B11 := B10.trans ((MKB.out (w2.alloc (.cells #[.slice none 0 0, .slice none 0 0] 30)).drew).mono B10.size)
          have B12 : Below w2.heap.size w2 (w2.alloc (.cells #[.slice none 0 0, .slice none 0 0] 30)).drew := below_drew ((Below.refl _ _).alloc (Nat.le_refl _) _)
          have B13 := B12.trans ((MKB.out (w2.alloc (.cells #[.slice none 0 0, .slice none 0 0] 30)).drew).mono B12.size)
          exact ⟨row_set (row_set HM.out), (o9.alt (Alt.setC _ w2.heap.size 0 _) (by omega)).alt (Alt.setC _ w2.heap.size 1 _) (by omega),
            (((O2.out.below (B13.mono (by omega))).alt (Alt.setC _ w2.heap.size 0 _) (by omega)).alt (Alt.setC _ w2.heap.size 1 _) (by omega)),
            (KM.out.set (by omega)).set (by omega), by omega, by omega, by omega, (B11.setCell (p := ⟨w2.heap.size, 0, none⟩) (by show w.heap.size ≤ w2.heap.size; omega) _).setCell (p := ⟨w2.heap.size, 1, none⟩) (by show w.heap.size ≤ w2.heap.size; omega) _⟩)
        have KB2 := Lib.hid (KBox.below (show KBox w2.drew w.heap.size (.slice p1 ps.length c1) (.slice p2 ws.length c2) (.slice p3 cs.length c3) from U2.out) (MKB.out w2.drew) U2.out.lt)
        have KB3 := Lib.hid (KB2.out.alloc (.cells #[.slice none 0 0, .slice none 0 0] 30))
        have HM2 : Hid (((mk w2.drew).alloc (.cells #[.slice none 0 0, .slice none 0 0] 30)).heap[(mk w2.drew).heap.size]? = some (.cells [Value.slice none 0 0, Value.slice none 0 0].toArray 30 (0, 0))) := Lib.hid (alloc_heap (mk w2.drew) _)
        obtain ⟨d0, d1, d2⟩ := KB2.out.cells
        obtain ⟨e0, e1, e2⟩ := KB3.out.cells
        obtain ⟨j0, k0⟩ := cell_of_heap (o := 0) HM2.out rfl
        obtain ⟨j1, k1⟩ := cell_of_heap (o := 1) HM2.out rfl
        have FIN2 : Hid (AfS w (.slice p1 ps.length c1) (.slice p2 ws.length c2) (.slice p3 cs.length c3) cs.length (mk w2.drew).heap.size w2.heap.size gb ce es.length (F 0) es ((((mk w2.drew).alloc (.cells #[.slice none 0 0, .slice none 0 0] 30)).setCell ⟨(mk w2.drew).heap.size, 0, none⟩ (.slice p1 ps.length c1)).setCell ⟨(mk w2.drew).heap.size, 1, none⟩ (.slice (some ⟨w2.heap.size, 0, none⟩) cs.length cs.length))) := Lib.hid (by
          have hw2 := U2.out.lt
          have o9 := (MKO.out w2.drew).tight
          have hlt : w2.heap.size < (mk w2.drew).heap.size := (MKO.out w2.drew).lt w2.drew.heap.size rfl
          rw [L0.out, ← RL.out]
          have B12 : Below w2.heap.size w2 (mk w2.drew) := (below_drew (Below.refl _ _)).trans (MKB.out w2.drew)
          have B13 : Below w2.heap.size w2 ((mk w2.drew).alloc (.cells #[.slice none 0 0, .slice none 0 0] 30)) := B12.alloc B12.size _
          have B14 := HB2.out.trans (B13.mono HB2.out.size)
          exact ⟨row_set (row_set HM2.out), ((o9.below ((Below.refl (mk w2.drew).heap.size _).alloc (Nat.le_refl _) _ |>.mono (show w2.heap.size + 1 ≤ _ by omega))).alt (Alt.setC _ _ 0 _) (by show w2.heap.size + 1 ≤ _ ∨ _; omega)).alt (Alt.setC _ _ 1 _) (by show w2.heap.size + 1 ≤ _ ∨ _; omega),
            ((O2.out.below (B13.mono (by omega))).alt (Alt.setC _ _ 0 _) (by omega)).alt (Alt.setC _ _ 1 _) (by omega),
            (KB3.out.set (by omega)).set (by omega), by omega, by omega, by omega, (B14.setCell (p := ⟨(mk w2.drew).heap.size, 0, none⟩) (by show w.heap.size ≤ (mk w2.drew).heap.size; omega) _).setCell (p := ⟨(mk w2.drew).heap.size, 1, none⟩) (by show w.heap.size ≤ (mk w2.drew).heap.size; omega) _⟩)
        have FIN3 : Hid (AfS w (.slice p1 ps.length c1) (.slice p2 ws.length c2) (.slice p3 cs.length c3) cs.length (mk w2.drew).heap.size w2.heap.size gb ce es.length (F 0) es ((mk w2.drew).alloc (.cells #[.slice p1 ps.length c1, .slice (some ⟨w2.heap.size, 0, none⟩) cs.length cs.length] 30))) := Lib.hid (by
          have hw2 := U2.out.lt
          have o9 := (MKO.out w2.drew).tight
          have hlt : w2.heap.size < (mk w2.drew).heap.size := (MKO.out w2.drew).lt w2.drew.heap.size rfl
          rw [L0.out, ← RL.out]
          have B12 : Below w2.heap.size w2 (mk w2.drew) := (below_drew (Below.refl _ _)).trans (MKB.out w2.drew)
          have B13 : Below w2.heap.size w2 ((mk w2.drew).alloc (.cells #[.slice p1 ps.length c1, .slice (some ⟨w2.heap.size, 0, none⟩) cs.length cs.length] 30)) := B12.alloc B12.size _
          have B14 := HB2.out.trans (B13.mono HB2.out.size)
          exact ⟨alloc_heap (mk w2.drew) _, o9.below ((Below.refl (mk w2.drew).heap.size _).alloc (Nat.le_refl _) _ |>.mono (show w2.heap.size + 1 ≤ _ by omega)),
            O2.out.below (B13.mono (by omega)), KB2.out.alloc _, by omega, by omega, by omega, B14⟩)
        go_region
        all_goals
          go_wp2_with fail
          go_meet
          first
            | exact ⟨_, _, rfl, FIN⟩
            | exact ⟨_, _, rfl, FIN3⟩
            | exact ⟨_, _, rfl, FIN2⟩
            | (trace_state; sorry)
      obtain ⟨bo, g, rfl, hT⟩ := hcut
      obtain ⟨w3, rfl⟩ : ∃ w3 : World, w3 = wc := ⟨_, rfl⟩
      clear z0 z1 z2 U2 HB2 RUN MKO MKB O2 EI hgz hgw
      go_wp2
      go_loopw [37] (fun i wr => ∃ k : Nat, k ≤ es.length ∧ i = .int .i64 k ∧ Hid (AfS w (.slice p1 ps.length c1) (.slice p2 ws.length c2) (.slice p3 cs.length c3) cs.length bo g gb ce es.length (F k) es wr)) (fun i _ => es.length - (intOf i).toNat)
      case atStart => exact ⟨0, Nat.zero_le _, rfl, hT⟩
      case round =>
        obtain ⟨k, hk, rfl, HS⟩ := hrel
        clear hT
        by_cases hlt : k < es.length
        · have hce := HS.out.ends.cellGet hlt
          obtain ⟨xn, hxn, hxl, _⟩ := EIN.out k hlt
          obtain ⟨b, off, rfl, hb, hc⟩ := VQ.out.get (i := k) (by omega)
          have hcw : wr.drew.cell? ⟨b, off + k, none⟩ = some (.int .i64 (qs.getD k 0)) := by
            have := HS.out.bel.cell (p := ⟨b, off + k, none⟩) hb
            exact this.trans hc
          have i0 : (0 : Int) ≤ (k : Int) := by omega
          have i1 : (k : Int) < (es.length : Int) := by omega
          have i2 : (0 : Int) ≤ (xn : Int) := by omega
          have i3 : (xn : Int) < (cs.length : Int) := by omega
          have HZ := Lib.hid (show InI64 (qs.getD k 0) from ZQ.out _ (by rw [List.getD_eq_getElem?_getD, List.getElem?_eq_getElem (by omega : k < qs.length)]; exact List.getElem_mem _))
          have LK := LS.out k
          have FL : (F k).length = ps.length := by rw [LL.out k, List.length_replicate]
          rw [← hxn, Int.toNat_natCast] at LK
          rw [← hxn] at hce
          obtain ⟨z, hz⟩ : ∃ z, z = qs.getD k 0 := ⟨_, rfl⟩
          rw [← hz] at hcw HZ LK
          have NX : Hid (AfS w (.slice p1 ps.length c1) (.slice p2 ws.length c2) (.slice p3 cs.length c3) cs.length bo g gb ce es.length (F (k + 1)) es (wr.drew.setCell ⟨g, xn, none⟩ (.int .i64 z))) := Lib.hid (by
            rw [LK]
            have hd : AfS w (.slice p1 ps.length c1) (.slice p2 ws.length c2) (.slice p3 cs.length c3) cs.length bo g gb ce es.length (F k) es wr.drew := ⟨HS.out.box, HS.out.own.below (below_drew (Below.refl _ _)), HS.out.ends.below (below_drew (Below.refl _ _)), HS.out.kb, HS.out.n1, HS.out.n2, HS.out.n3, below_drew HS.out.bel⟩
            exact hd.next xn HZ.out)
          have s0 : wr.drew.cell? ⟨g, xn, none⟩ = some (.int .i64 ((F k).getD xn 0)) := HS.out.own.cellGet (by rw [FL]; exact hxl)
          have s1 : wr.drew.frozen? ⟨g, xn, none⟩ = false := HS.out.own.frozenGet xn
          have q1 : wr.drew.cell? ⟨bo, 1, none⟩ = some (.slice (some ⟨g, 0, none⟩) cs.length cs.length) := HS.out.box.cells.2
          clear hz hc LK FL hxn
          go_wp2_with fail
          go_region
          all_goals
            go_wp2_with fail
            go_roundw
            case rel => exact ⟨k + 1, by omega, by go_num, NX⟩
            case measure => simp [intOf]; omega
        · obtain rfl : k = es.length := by omega
          have hge : ¬ ((es.length : Int) < (es.length : Int)) := by omega
          obtain ⟨m0, m1⟩ := HS.out.box.cells
          obtain ⟨y0, y1, y2⟩ := HS.out.kb.cells
          have C := Lib.hid (FI.out wr (.agg #[.slice p1 ps.length c1, .slice (some ⟨g, 0, none⟩) cs.length cs.length]) (.slice p3 cs.length c3) (by
            obtain ⟨u1, u2, e, a, _⟩ := (V1.out.below HS.out.bel).more HS.out.bel.size
            injection e with e
            injection e with e
            injection e with e _
            subst e
            exact ⟨_, _, rfl, a, HS.out.own.intsV.more HS.out.own.room⟩) ((V3.out.below HS.out.bel).more HS.out.bel.size))
          have HB := Lib.hid HS.out.bel
          clear HS
          go_wp2_with fail
          refine C.out.mono ?_
          rintro e w5 ⟨rfl, b5⟩
          have HB5 := Lib.hid (HB.out.trans (b5.mono HB.out.size))
          clear b5
          go_wp2_with fail
          go_ret2
          exact ⟨rfl, HB5.out⟩
    · rw [AB.out, decide_eq_false hl, if_neg (by decide)] at AW
      rw [AW.out]
      have t1 : ((qs.length : Int) != ((endsT ps).length : Int)) = true := by simpa using (show ¬ (qs.length : Int) = ((endsT ps).length : Int) by omega)
      clear hg AW AB mk IG hl
      generalize endsT ps = L at *
      go_enter Try.func36, Try.ntmps36
      go_wp2_with fail
      rw [← hwa]
      clear hwa
      refine (EI.out _ B1.out).mono ?_
      rintro e w1 ⟨u1, rfl, o1, b1⟩
      obtain ⟨gb, ce, rfl, hg1, hg2⟩ := o1.shape (by omega)
      have HB1 := Lib.hid (B1.out.trans (b1.mono B1.out.size))
      have U1 := Lib.hid (T1.out.below b1 T1.out.lt)
      obtain ⟨y0, y1, y2⟩ := U1.out.cells
      clear b1 x0 x1 x2 o1
      go_wp2_with fail
      refine (G.out _ HB1.out).mono ?_
      rintro e w2 ⟨rfl, b2⟩
      have HB2 := Lib.hid (HB1.out.trans (b2.mono HB1.out.size))
      clear b2
      go_wp2_with fail
      go_ret2
      exact ⟨rfl, HB2.out⟩
end Go.Proofs.Ytamneibnjbimeab
namespace Go.Proofs.Ytamneibnjbimeab
open Go.RowKit
set_option linter.unusedVariables false
set_option maxHeartbeats 2000000 in
theorem mktS (ps ws cs : List Int) (v : Value) (w : World) (hn : cs.length ≤ 1048576) (h : MktV w w.heap.size v ps ws cs) :
    Calls Try.prog 56 #[v] w (Gives (.bool (goodM ps ws cs)) w) := by
  obtain ⟨p1, c1, p2, c2, p3, c3, rfl⟩ := h.shape
  have G := Lib.hid (fun w' (hb : Below w.heap.size w w') => goodS ps ws _ w' (h.tree.1.boxed hb))
  obtain ⟨q3, d3, e3, _, _, _, i3⟩ := h.tree.2
  injection e3 with e3 e4 e5
  subst e3
  subst e5
  clear e4
  have E1 := Lib.hid i3
  clear i3
  have D : Hid (goodM ps ws cs = (goodT ps ws && (decide (cs.length = ps.length) && pricesB cs))) := Lib.hid rfl
  clear h
  have B1 := (Below.refl w.heap.size w).alloc (Nat.le_refl _) (.cells #[.slice p1 ps.length c1, .slice p2 ws.length c2, .slice p3 cs.length c3] 32)
  have T1 := Lib.hid (show KBox (w.alloc (.cells #[.slice p1 ps.length c1, .slice p2 ws.length c2, .slice p3 cs.length c3] 32)) w.heap.size (.slice p1 ps.length c1) (.slice p2 ws.length c2) (.slice p3 cs.length c3) from alloc_heap w _)
  obtain ⟨wa, hwa⟩ : ∃ wa, wa = w.alloc (.cells #[.slice p1 ps.length c1, .slice p2 ws.length c2, .slice p3 cs.length c3] 32) := ⟨_, rfl⟩
  rw [← hwa] at B1 T1
  obtain ⟨x0, x1, x2⟩ := T1.out.cells
  have HBA := Lib.hid B1
  clear B1
  cases hg : goodT ps ws
  · rw [hg] at G D
    clear hg
    go_enter Try.func56, Try.ntmps56
    go_wp2_with fail
    rw [← hwa]
    clear hwa
    refine (G.out _ HBA.out).mono ?_
    rintro e w1 ⟨rfl, b1⟩
    have HB1 := Lib.hid (HBA.out.trans (b1.mono HBA.out.size))
    clear b1
    go_wp2_with fail
    go_ret
    exact ⟨ret_b (by rw [D.out]; rfl), HB1.out⟩
  · rw [hg] at G D
    clear hg
    by_cases hl : cs.length = ps.length
    · rw [decide_eq_true hl] at D
      have t1 : ((cs.length : Int) != (ps.length : Int)) = false := by simpa using (show (cs.length : Int) = (ps.length : Int) by omega)
      have YES := Lib.hid (prices_yes (cs := cs))
      have NOP := Lib.hid (fun i hi h => prices_no (cs := cs) (i := i) hi h)
      have HN := Lib.hid hl
      clear hl
      go_enter Try.func56, Try.ntmps56
      go_wp2_with fail
      rw [← hwa]
      clear hwa
      refine (G.out _ HBA.out).mono ?_
      rintro e w1 ⟨rfl, b1⟩
      have HB1 := Lib.hid (HBA.out.trans (b1.mono HBA.out.size))
      have HT1 := Lib.hid (T1.out.below b1 T1.out.lt)
      obtain ⟨y0, y1, y2⟩ := HT1.out.cells
      clear b1 x0 x1 x2
      go_wp2_with fail
      go_loopw [3] (fun i wr => ∃ k : Nat, k ≤ cs.length ∧ i = .int .i64 k ∧ Hid (∀ j, j < k → 0 ≤ cs.getD j 0 ∧ cs.getD j 0 ≤ 20) ∧ ∃ n, wr = w1.drewN n) (fun i _ => cs.length - (intOf i).toNat)
      case atStart => exact ⟨0, Nat.zero_le _, rfl, Lib.hid (fun j hj => by omega), 0, rfl⟩
      case round =>
        obtain ⟨k, hk, rfl, HA, n, rfl⟩ := hrel
        by_cases hlt : k < cs.length
        · obtain ⟨b, off, rfl, hb, hc⟩ := E1.out.get hlt
          have hcw : w1.cell? ⟨b, off + k, none⟩ = some (.int .i64 (cs.getD k 0)) := by rw [HB1.out.cell (p := ⟨b, off + k, none⟩) hb]; exact hc
          have i0 : (0 : Int) ≤ (k : Int) := by omega
          have i1 : (k : Int) < (cs.length : Int) := by omega
          have NO := Lib.hid (NOP.out k hlt)
          have NX : Hid (0 ≤ cs.getD k 0 ∧ cs.getD k 0 ≤ 20 → ∀ j, j < k + 1 → 0 ≤ cs.getD j 0 ∧ cs.getD j 0 ≤ 20) := Lib.hid (fun h j hj => by
            rcases Nat.lt_or_ge j k with h' | h'
            · exact HA.out j h'
            · obtain rfl : j = k := by omega
              exact h)
          obtain ⟨z, hz⟩ : ∃ z, z = cs.getD k 0 := ⟨_, rfl⟩
          rw [← hz] at hcw NO NX
          clear hc hz HA
          by_cases hin : 0 ≤ z ∧ z ≤ 20
          · have I := Lib.hid (fun w => inS_true z 0 20 w hin)
            have N2 := Lib.hid (NX.out hin)
            clear NX NO hin
            go_wp2_with fail
            refine (I.out _).mono ?_
            rintro e w1 ⟨rfl, rfl⟩
            go_wp2_with fail
            go_roundw
            case rel => exact ⟨k + 1, by omega, by go_num, N2, _, rfl⟩
            case measure => simp [intOf]; omega
          · have I := Lib.hid (fun w => inS_false z 0 20 w hin)
            have N2 := Lib.hid (NO.out hin)
            clear NX NO hin
            go_wp2_with fail
            refine (I.out _).mono ?_
            rintro e w1 ⟨rfl, rfl⟩
            go_wp2_with fail
            go_ret
            exact ⟨ret_b (by rw [D.out, N2.out]; rfl), below_drewN HB1.out n⟩
        · have R := Lib.hid (YES.out (fun i hi => HA.out i (by omega)))
          clear HA
          go_wp2_with fail
          go_ret
          exact ⟨ret_b (by rw [D.out, R.out]; rfl), below_drewN HB1.out n⟩
    · rw [decide_eq_false hl] at D
      have t1 : ((cs.length : Int) != (ps.length : Int)) = true := by simpa using (show ¬ (cs.length : Int) = (ps.length : Int) by omega)
      clear hl
      go_enter Try.func56, Try.ntmps56
      go_wp2_with fail
      rw [← hwa]
      clear hwa
      refine (G.out _ HBA.out).mono ?_
      rintro e w1 ⟨rfl, b1⟩
      have HB1 := Lib.hid (HBA.out.trans (b1.mono HBA.out.size))
      obtain ⟨y0, y1, y2⟩ := (T1.out.below b1 T1.out.lt).cells
      clear b1 x0 x1 x2
      go_wp2_with fail
      go_ret
      exact ⟨ret_b (by rw [D.out]; rfl), HB1.out⟩
end Go.Proofs.Ytamneibnjbimeab
namespace Go.Proofs.Ytamneibnjbimeab
open Go.RowKit
set_option linter.unusedVariables false
theorem kidsF_goodK {ps ws : List Int} (g : Good ps ws) (x : Nat) : kidsF ps x ps.length = kidsT ps x := by
  rw [kidsT_eq]
  unfold kidsF
  refine nodesW_congr fun y hy => ?_
  rw [Bool.eq_iff_iff, Bool.and_eq_true, decide_eq_true_eq, beq_iff_eq]
  constructor
  · exact fun h => h.2
  · intro h
    have := g.kid_gt hy h
    exact ⟨by omega, h⟩
set_option maxRecDepth 100000 in
set_option maxHeartbeats 4000000 in
theorem kids4S (ps ws L : List Int) (v u : Value) (x : Nat) (w : World) (gd : Good ps ws) (hx : x < ps.length) (hL : L.length = ps.length) (hb : ∀ y, y < ps.length → (L.getD y 0).natAbs ≤ 1000000000) (h : TreeV w w.heap.size v ps ws) (hu : IntsV w w.heap.size u L) :
    Calls Try.prog 109 #[v, u, .int .i64 x] w (Gives (.int .i64 (kidT ps L x)) w) := by
  have hn24 := gd.n24
  have KI := Lib.hid (fun w' (hb : Below w.heap.size w w') => kidsS ps ws v x w' (by omega) (by omega) (h.boxed hb))
  rw [kidsF_goodK gd] at KI
  have KN : Hid (∀ z ∈ kidsT ps (x : Int), ∃ y : Nat, z = (y : Int) ∧ y < ps.length) := Lib.hid (fun z hz => by
    rw [kidsT_eq] at hz
    obtain ⟨y, h1, h2, _⟩ := nodesW_mem hz
    exact ⟨y, h1, h2⟩)
  have KL : (kidsT ps (x : Int)).length ≤ 24 := by rw [kidsT_eq]; exact Nat.le_trans (nodesW_len _ _) hn24
  have KBD : Hid (∀ k, k ≤ (kidsT ps (x : Int)).length → (kidF (fun y => L.getD y 0) ((kidsT ps (x : Int)).take k)).natAbs ≤ 24000000000) := Lib.hid (fun k hk => by
    have h1 := kidF_bd (f := fun y => L.getD y 0) (L := kidsT ps (x : Int)) (B := 1000000000) (fun z hz => by
      obtain ⟨y, rfl, hy⟩ := KN.out z hz
      rw [Int.toNat_natCast]
      exact hb y hy) k hk
    have h2 : k * 1000000000 ≤ 24 * 1000000000 := Nat.mul_le_mul_right _ (by omega)
    omega)
  have KTK := Lib.hid (fun k (hk : k < (kidsT ps (x : Int)).length) => kidF_take (fun y => L.getD y 0) hk)
  have KALL : Hid (∀ k, (kidsT ps (x : Int)).length ≤ k → kidF (fun y => L.getD y 0) ((kidsT ps (x : Int)).take k) = kidT ps L x) := Lib.hid (fun k hk => by rw [kidF_all _ hk, kid_model])
  have KZ : Hid (kidF (fun y => L.getD y 0) ((kidsT ps (x : Int)).take 0) = 0) := Lib.hid rfl
  have FB := Lib.hid hb
  obtain ⟨p1, c1, p2, c2, rfl⟩ := h.shape
  obtain ⟨q, d, rfl, _, _, _, j1⟩ := hu
  have Q1 := Lib.hid j1
  clear h j1 gd hb
  have B1 := (Below.refl w.heap.size w).alloc (Nat.le_refl _) (.cells #[.slice p1 ps.length c1, .slice p2 ws.length c2] 30)
  have T1 := Lib.hid (show TBox (w.alloc (.cells #[.slice p1 ps.length c1, .slice p2 ws.length c2] 30)) w.heap.size (.slice p1 ps.length c1) (.slice p2 ws.length c2) from alloc_heap w _)
  obtain ⟨x0, x1⟩ := T1.out.cells
  obtain ⟨wa, hwa⟩ : ∃ wa, wa = w.alloc (.cells #[.slice p1 ps.length c1, .slice p2 ws.length c2] 30) := ⟨_, rfl⟩
  rw [← hwa] at B1 T1
  have HBA := Lib.hid B1
  clear B1
  obtain ⟨R, hR⟩ : ∃ R, R = kidT ps L x := ⟨_, rfl⟩
  obtain ⟨K, hK⟩ : ∃ K, K = kidsT ps (x : Int) := ⟨_, rfl⟩
  rw [← hR] at KALL ⊢
  rw [← hK] at KI KN KL KBD KTK KALL KZ
  have LN := Lib.hid hL
  clear hR hK hL
  go_enter Try.func109, Try.ntmps109
  go_wp2_with fail
  rw [← hwa]
  clear hwa x0 x1
  refine (KI.out _ HBA.out).mono ?_
  rintro e w3 ⟨uk, rfl, o3, b3⟩
  have HB3 := Lib.hid (HBA.out.trans (b3.mono HBA.out.size))
  obtain ⟨pk, ck, rfl, _, _, _, ik⟩ := o3.intsV
  have IK := Lib.hid ik
  have KNI : Hid (∀ i, i < K.length → ∃ y : Nat, K.getD i 0 = (y : Int) ∧ y < ps.length) := Lib.hid (fun i hi => KN.out _ (by
    rw [List.getD_eq_getElem?_getD, List.getElem?_eq_getElem hi]
    exact List.getElem_mem _))
  obtain ⟨f, hf⟩ : ∃ f : Nat → Int, f = fun y => L.getD y 0 := ⟨_, rfl⟩
  have FD : Hid (∀ y, f y = L.getD y 0) := Lib.hid (fun y => by rw [hf])
  rw [← hf] at KBD KTK KALL KZ
  clear hf b3 o3 ik KN KI HBA T1
  go_wp2
  go_loopg [7, 9] K.length (fun gg m i wr => ∃ k : Nat, k ≤ K.length ∧ K.length - k ≤ gg ∧ i = .int .i64 k ∧ m = .int .i64 (kidF f (K.take k)) ∧ ∃ nn, wr = w3.drewN nn)
  case atStart => exact ⟨0, Nat.zero_le _, by omega, rfl, by rw [KZ.out], 0, rfl⟩
  case round =>
    obtain ⟨k, hk, hgg, rfl, rfl, nn, rfl⟩ := hrel
    have kb := KBD.out k hk
    by_cases hlt : k < K.length
    · obtain ⟨y, hy, hyn⟩ := KNI.out k hlt
      obtain ⟨bk, ok, hqk, hbk, h1⟩ := IK.out.get hlt
      subst hqk
      obtain ⟨bz, oz, hqz, hbz, h3⟩ := Q1.out.get (i := y) (by have := LN.out; omega)
      subst hqz
      have h3' : w3.cell? ⟨bz, oz + y, none⟩ = some (.int .i64 (L.getD y 0)) := by rw [HB3.out.cell (p := ⟨bz, oz + y, none⟩) hbz]; exact h3
      have fb := FB.out y hyn
      have TK := KTK.out k hlt
      rw [hy, Int.toNat_natCast] at TK
      try rw [FD.out] at TK
      rw [hy] at h1
      have kb2 := KBD.out (k + 1) (by omega)
      obtain ⟨m, hm⟩ : ∃ m, m = kidF f (K.take k) := ⟨_, rfl⟩
      obtain ⟨zy, hzy⟩ : ∃ m, m = L.getD y 0 := ⟨_, rfl⟩
      rw [← hm] at kb TK ⊢
      rw [← hzy] at h3' fb TK
      have TK2 := Lib.hid TK
      have i0 : (0 : Int) ≤ (k : Int) := by omega
      have i1 : (k : Int) < (K.length : Int) := by omega
      have i2 : (0 : Int) ≤ (y : Int) := by omega
      have i3 : (y : Int) < (L.length : Int) := by have := LN.out; omega
      have pb : -1000000000 ≤ zy ∧ zy ≤ 1000000000 := by omega
      have mb : -24000000000 ≤ m ∧ m ≤ 24000000000 := by omega
      clear hy hm hzy fb TK kb kb2 h3
      go_wp2_with fail
      go_roundg (K.length - (k + 1))
      case rel => exact ⟨k + 1, by omega, by omega, by go_num, by rw [TK2.out], _, rfl⟩
      case measure => omega
    · have KE := Lib.hid (KALL.out k (by omega))
      go_wp2_with fail
      go_ret
      rw [KE.out]
      exact ⟨rfl, below_drewN HB3.out nn⟩
end Go.Proofs.Ytamneibnjbimeab
namespace Go.Proofs.Ytamneibnjbimeab
open Go.RowKit
set_option linter.unusedVariables false
end Go.Proofs.Ytamneibnjbimeab
namespace Go.Proofs.Ytamneibnjbimeab
open Go.RowKit
set_option linter.unusedVariables false
/-- Whether node x is in the cut at the time d. -/
def cutB (ps ws : List Int) (d : Int) (x : Nat) : Bool := (depthsT ps).getD x 0 == d || (decide ((depthsT ps).getD x 0 < d) && decide (0 < ws.getD x 0))
def cutT (ps ws : List Int) (d : Int) : List Int := nodesW (cutB ps ws d) ps.length
theorem ne_grown {w w3 : World} {r : Option Nat} {g : Nat} (hg : w.grownBy w3 r) (hs : g < w.heap.size) (hne : ∀ q, r = some q → q ≠ g) (o : Nat) : w3.cell? ⟨g, o, none⟩ = w.cell? ⟨g, o, none⟩ :=
  World.cell?_of_block (hg.block g hs (fun e => hne g e.symm rfl))
end Go.Proofs.Ytamneibnjbimeab
namespace Go.Proofs.Ytamneibnjbimeab
open Go.RowKit
set_option linter.unusedVariables false
theorem own_take {su zs : List Int} {n k : Nat} (h : k < n) : (ownT su zs n).take (k + 1) = (ownT su zs n).take k ++ [su.getD k 0 * zs.getD k 0] := by
  have hl : k < (ownT su zs n).length := by rw [ownT_len]; exact h
  rw [List.take_succ_eq_append_getElem hl]
  congr 2
  have := ownT_at (su := su) (zs := zs) h
  rw [List.getD_eq_getElem?_getD, List.getElem?_eq_getElem hl] at this
  exact this
set_option maxRecDepth 100000 in
set_option maxHeartbeats 8000000 in
theorem bal4S (ps ws zs : List Int) (v u : Value) (w : World) (pr : Proc ps ws zs) (h : TreeV w w.heap.size v ps ws) (hu : IntsV w w.heap.size u zs) :
    Calls Try.prog 86 #[v, u] w (Gives (.bool (steB ps ws zs true)) w) := by
  have gd := pr.good
  have SU := Lib.hid (fun w' (hb : Below w.heap.size w w') => sumsS ps ws v w' gd (h.boxed hb))
  have KS := Lib.hid (fun w' u2 (hb : Below w.heap.size w w') (x : Nat) (hx : x < ps.length) (hv : IntsV w' w'.heap.size u2 (ownT (sumsT ps ws) zs ps.length)) => kids4S ps ws (ownT (sumsT ps ws) zs ps.length) v u2 x w' gd hx (ownT_len _ _ _) (fun y hy => by have := own_small pr hy; rw [ownT_at hy]; omega) (h.boxed hb) hv)
  have hn24 := gd.n24
  have hn0 := gd.n1
  have WE := Lib.hid (fun (x : Nat) (hx : x < ps.length) => gd.end_iff hx)
  have WD := Lib.hid (fun (x : Nat) (hx : x < ps.length) => gd.w_bd hx)
  have NW := Lib.hid gd.nw
  have ZL := Lib.hid pr.len
  have SL := Lib.hid (sumsT_len gd.nw)
  have OB := Lib.hid (fun (x : Nat) (hx : x < ps.length) => own_small pr hx)
  have TK := Lib.hid (fun (k : Nat) (hk : k < ps.length) => own_take (su := sumsT ps ws) (zs := zs) hk)
  have AT := Lib.hid (fun (k : Nat) (hk : k < ps.length) => ownT_at (su := sumsT ps ws) (zs := zs) hk)
  have OL := Lib.hid (ownT_len (sumsT ps ws) zs ps.length)
  have NO := Lib.hid (fun (x : Nat) hx h => bal_no pr (x := x) hx h)
  have YES := Lib.hid (fun h => bal_yes pr h)
  have BA := Lib.hid (fun (x : Nat) => show balAt ps ws zs x = (leafB ps x || decide ((ownT (sumsT ps ws) zs ps.length).getD x 0 = kidT ps (ownT (sumsT ps ws) zs ps.length) x)) from rfl)
  obtain ⟨v1, v2, rfl, ⟨p1, c1, rfl, l1, m1, _, i1⟩, ⟨p2, c2, rfl, l2, m2, _, i2⟩⟩ := h
  have W2 := Lib.hid i2
  obtain ⟨q, d, rfl, _, _, _, j1⟩ := hu
  have Q1 := Lib.hid j1
  clear j1 gd pr i1 i2 m1 m2 l1 l2
  obtain ⟨S, hS⟩ : ∃ S, S = sumsT ps ws := ⟨_, rfl⟩
  rw [← hS] at SU KS SL OB TK AT OL BA
  obtain ⟨O, hO⟩ : ∃ O, O = ownT S zs ps.length := ⟨_, rfl⟩
  rw [← hO] at KS TK AT OL BA
  clear hS hO
  obtain ⟨i0, hi, hz0, hz1, hz2⟩ := info_parts intInfo
  have B1 := (Below.refl w.heap.size w).alloc (Nat.le_refl _) (.cells #[.slice p1 ps.length c1, .slice p2 ws.length c2] 30)
  have T1 := Lib.hid (show TBox (w.alloc (.cells #[.slice p1 ps.length c1, .slice p2 ws.length c2] 30)) w.heap.size (.slice p1 ps.length c1) (.slice p2 ws.length c2) from alloc_heap w _)
  obtain ⟨x0, x1⟩ := T1.out.cells
  obtain ⟨wa, hwa⟩ : ∃ wa, wa = w.alloc (.cells #[.slice p1 ps.length c1, .slice p2 ws.length c2] 30) := ⟨_, rfl⟩
  have sz : wa.heap.size = w.heap.size + 1 := by rw [hwa]; simp
  rw [← hwa] at B1 T1
  have HBA := Lib.hid B1
  have SZ := Lib.hid sz
  clear B1 sz
  go_enter Try.func86, Try.ntmps86
  go_wp2_with fail
  rw [← hwa]
  clear hwa x0 x1
  refine (SU.out _ HBA.out).mono ?_
  rintro e w2 ⟨u2, rfl, o2, b2⟩
  obtain ⟨g, cs, rfl, hg1, hg2⟩ := o2.shape (by have := SL.out; omega)
  have HBP := HBA.out.trans (b2.mono HBA.out.size)
  have HTP := T1.out.below b2 T1.out.lt
  have L1 : w.heap.size + 1 ≤ w2.heap.size := HTP.lt
  have HB2 := Lib.hid (HBP.alloc HBP.size (.cells #[] 3))
  have HT2 := Lib.hid (HTP.alloc (.cells #[] 3))
  have HO2 := Lib.hid (OwnV.empty w2 (w.heap.size + 1) L1)
  have DC : Hid (∀ j, j < ps.length → (w2.alloc (.cells #[] 3)).cell? ⟨g, j, none⟩ = some (.int .i64 (S.getD j 0))) := Lib.hid (fun j hj => by
    rw [World.cell?_alloc_lt _ _ _ (by exact hg2)]
    exact o2.cellGet (j := j) (by have := SL.out; omega))
  have HGD := Lib.hid (show g < (w2.alloc (.cells #[] 3)).heap.size from by simp; omega)
  have HGL := Lib.hid hg2
  clear b2 o2 T1 HBA hg1 hg2 HBP HTP L1
  obtain ⟨sn, hsn⟩ : ∃ sn, sn = S.length := ⟨_, rfl⟩
  have le3 : sn ≤ ps.length := by have := SL.out; omega
  have le4 : ps.length ≤ sn := by have := SL.out; omega
  have le1 : zs.length ≤ ps.length := by have := ZL.out; omega
  have le2 : ps.length ≤ zs.length := by have := ZL.out; omega
  rw [← hsn]
  clear hsn
  go_wp2_with fail
  go_loopw [6, 7] (fun o i wr => ∃ k go co : Nat, k ≤ ps.length ∧ i = .int .i64 k ∧ o = .slice (some ⟨go, 0, none⟩) (O.take k).length co ∧ Hid (OwnV wr (w.heap.size + 1) wr.heap.size (.slice (some ⟨go, 0, none⟩) (O.take k).length co) (O.take k)) ∧ Hid (go ≠ g) ∧ Hid (∀ j, j < ps.length → wr.cell? ⟨g, j, none⟩ = some (.int .i64 (S.getD j 0))) ∧ Hid (g < wr.heap.size) ∧ Hid (TBox wr w.heap.size (.slice p1 ps.length c1) (.slice p2 ws.length c2)) ∧ Hid (Below w.heap.size w wr)) (fun _ i _ => ps.length - (intOf i).toNat)
  case atStart => exact ⟨0, _, _, Nat.zero_le _, rfl, rfl, HO2, Lib.hid (by have := HGL.out; omega), DC, HGD, HT2, HB2⟩
  case round =>
    clear HO2 HT2 HB2 DC HGD
    obtain ⟨k, go, co, hk, rfl, rfl, HO, HQ, HD, HG, HT, HB⟩ := hrel
    obtain ⟨x0, x1⟩ := HT.out.cells
    by_cases hlt : k < ps.length
    · obtain ⟨bz, oz, hqz, hbz, hcz⟩ := Q1.out.get (i := k) (by omega)
      subst hqz
      have hz_k : wr.cell? ⟨bz, oz + k, none⟩ = some (.int .i64 (zs.getD k 0)) := by rw [HB.out.cell (p := ⟨bz, oz + k, none⟩) hbz, hcz]
      have hdk := HD.out k hlt
      have ob := OB.out k hlt
      have E := Lib.hid (TK.out k hlt)
      obtain ⟨dk, hdk2⟩ : ∃ t, t = S.getD k 0 := ⟨_, rfl⟩
      obtain ⟨zk, hzk⟩ : ∃ t, t = zs.getD k 0 := ⟨_, rfl⟩
      rw [← hdk2] at hdk ob E
      rw [← hzk] at hz_k ob E
      have lk : (O.take k).length = k := by rw [List.length_take, OL.out]; omega
      obtain ⟨L, hL⟩ : ∃ L, L = O.take k := ⟨_, rfl⟩
      rw [← hL] at HO E lk ⊢
      have IX := Lib.hid (show InI64 (dk * zk) by unfold InI64; omega)
      have i0' : (0 : Int) ≤ (k : Int) := by omega
      have i1' : (k : Int) < (ps.length : Int) := by omega
      have i2' : (k : Int) < (zs.length : Int) := by omega
      have i3' : (k : Int) < (sn : Int) := by omega
      have le5 : L.length ≤ k := by omega
      have le6 : k ≤ L.length := by omega
      have WE : Hid ((IntKind.i64.wrap (dk * zk)) = dk * zk) := Lib.hid (by rw [IntWalk.i64_in _ (by omega)])
      have hown := HO.out.row
      have hsz := HT.out.lt
      have hgl := HG.out
      clear ob lk hcz hdk2 hzk hbz hL
      have HOD := Lib.hid ((HO.out.below (below_drew (Below.refl _ _))).wide (Below.size (below_drew (Below.refl wr.heap.size wr))) (Nat.le_refl _))
      have hsd : w.heap.size < wr.drew.heap.size := hsz
      have HOA : Hid ((wr.alloc (.cells #[.int .i64 (IntKind.i64.wrap (dk * zk))] 3)).drew.ownsRow (w.heap.size + 1) 3 1 (.slice (some ⟨go, 0, none⟩) L.length co) L.length (L.map (.int .i64))) := Lib.hid (HO.out.row.alloc _)
      have HNA : Hid (∀ j u, [Value.int .i64 (IntKind.i64.wrap (dk * zk))][j]? = some u → (wr.alloc (.cells #[.int .i64 (IntKind.i64.wrap (dk * zk))] 3)).drew.cell? ((⟨wr.heap.size, 0, none⟩ : Addr).add j) = some u) := Lib.hid (cell_one_new wr _ 3)
      clear hown
      go_wp2_with fail
      go_region_law (refine step_append_lies _ rfl _ _ 22 rfl (w.heap.size + 1) 3 i0 (.int .i64 0) 1 8 Try.underlying22 hi hz0 hz1 hz2 rfl (by decide) _ L.length (L.map (.int .i64)) rfl HOA.out ⟨wr.heap.size, 0, none⟩ 1 1 [.int .i64 (IntKind.i64.wrap (dk * zk))] rfl rfl HNA.out (fun u hu => by simp at hu; subst hu; rfl) (by omega) (by unfold maxLen; omega) (by omega) (by simp; omega) _ rfl ?_; intro g4 cap4 w4 hown3 hgrow3 hat3 hlt3)
      all_goals
        rw [WE.out] at hown3 hgrow3
        have own3 := Lib.hid (HOD.out.app IX.out hown3)
        have bel3 := Lib.hid ((below_drew (HB.out.alloc HB.out.size _)).grown hgrow3 (by simp; omega) (fun q hq => by have := (HOA.out.lt q hq).1; omega))
        have box3 := Lib.hid (((HT.out.alloc (.cells #[.int .i64 (dk * zk)] 3)).below (below_drew (Below.refl _ _)) (HT.out.alloc (.cells #[.int .i64 (dk * zk)] 3)).lt).grown hgrow3 (fun q hq => (HOA.out.lt q hq).1) (by omega))
        have q3 : Hid (g4 ≠ g) := Lib.hid (by
          rcases hat3 with h | h
          · have h' : (some go : Option Nat) = some g4 := h
            injection h' with h'; have := HQ.out; omega
          · simp at h; omega)
        have d3 : Hid (∀ j, j < ps.length → w4.cell? ⟨g, j, none⟩ = some (.int .i64 (S.getD j 0))) := Lib.hid (fun j hj => by
          rw [ne_grown hgrow3 (by simp; omega) (fun q hq => by have h' : (some go : Option Nat) = some q := hq; injection h' with h'; have := HQ.out; omega)]
          show (wr.alloc _).cell? _ = _
          rw [World.cell?_alloc_lt _ _ _ (by exact hgl)]; exact HD.out j hj)
        have g3 : Hid (g < w4.heap.size) := Lib.hid (by have := hgrow3.size; simp at this; omega)
        clear hown3 hgrow3 hat3 hlt3
        go_wp2_with fail
        go_roundw
        case rel => exact ⟨k + 1, _, _, by omega, by go_num, by rw [E.out]; simp; rfl, Lib.hid (by rw [E.out]; simpa using own3.out), q3, d3, g3, box3, bel3⟩
        case measure => simp [intOf]; omega
    · have hkn : k = ps.length := by omega
      have HOT := HO.out
      rw [List.take_of_length_le (by rw [OL.out]; omega)] at HOT ⊢
      have HO2 := Lib.hid HOT
      obtain ⟨w3, hw3⟩ : ∃ w3, w3 = wr := ⟨_, rfl⟩
      rw [← hw3] at HO2 HT HB ⊢
      have OC := Lib.hid (fun j (hj : j < ps.length) => HO2.out.cellGet (j := j) (by rw [OL.out]; exact hj))
      have GO : Hid (go < w3.heap.size) := Lib.hid (HO2.out.lt go (by simp [Value.ownBlock]))
      have OI := Lib.hid HO2.out.intsV
      have i2' : ¬ (k : Int) < (zs.length : Int) := by omega
      obtain ⟨ol, hol⟩ : ∃ ol, ol = O.length := ⟨_, rfl⟩
      rw [← hol] at OI HO2 ⊢
      have le5 : ol ≤ ps.length := by have := OL.out; omega
      have le6 : ps.length ≤ ol := by have := OL.out; omega
      rw [← hw3] at x0 x1
      clear HOT HO hkn HQ HD HG hw3 hol
      go_wp2_with fail
      go_loopw [8] (fun i wr => ∃ k : Nat, k ≤ ps.length ∧ i = .int .i64 k ∧ Hid (∀ x, x < k → balAt ps ws zs x = true) ∧ Hid (Below w3.heap.size w3 wr)) (fun i _ => ps.length - (intOf i).toNat)
      case atStart => exact ⟨0, Nat.zero_le _, rfl, Lib.hid (fun x hx => by omega), Lib.hid (Below.refl _ _)⟩
      case round =>
        clear x0 x1
        obtain ⟨k, hk, rfl, HA, HBW⟩ := hrel
        have HBX := Lib.hid (HB.out.trans (HBW.out.mono HB.out.size))
        have HTX := Lib.hid (HT.out.below HBW.out HT.out.lt)
        obtain ⟨x0, x1⟩ := HTX.out.cells
        by_cases hlt : k < ps.length
        · obtain ⟨b, off, hq, hb, hc⟩ := W2.out.get (i := k) (by have := NW.out; omega)
          subst hq
          have hcw : wr.cell? ⟨b, off + k, none⟩ = some (.int .i64 (ws.getD k 0)) := by rw [HBX.out.cell (p := ⟨b, off + k, none⟩) hb]; exact hc
          have hco : wr.cell? ⟨go, k, none⟩ = some (.int .i64 (O.getD k 0)) := by rw [HBW.out.cell (p := ⟨go, k, none⟩) GO.out]; exact OC.out k hlt
          have we := WE.out k hlt
          have wd := WD.out k hlt
          have ba := BA.out k
          have NX : Hid (balAt ps ws zs k = true → ∀ x, x < k + 1 → balAt ps ws zs x = true) := Lib.hid (fun h x hx => by
            rcases Nat.lt_or_ge x k with h' | h'
            · exact HA.out x h'
            · obtain rfl : x = k := by omega
              exact h)
          have NK := Lib.hid (NO.out k hlt)
          have i0' : (0 : Int) ≤ (k : Int) := by omega
          have i1' : (k : Int) < (ps.length : Int) := by omega
          have i2' : (k : Int) < (zs.length : Int) := by omega
          have i3' : (k : Int) < (ws.length : Int) := by have := NW.out; omega
          have i4' : (k : Int) < (ol : Int) := by omega
          obtain ⟨wk, hwk⟩ : ∃ wk, wk = ws.getD k 0 := ⟨_, rfl⟩
          rw [← hwk] at hcw we wd
          clear hc hwk hb HA
          by_cases h1 : wk = 0
          · have hl : leafB ps k = false := by
              cases hl : leafB ps k
              · rfl
              · have := we.2 hl; omega
            rw [hl, Bool.false_or] at ba
            have CK : Hid (∀ w', Hid (Below wr.heap.size wr w') → Calls Try.prog 109 #[.agg #[.slice p1 ps.length c1, .slice (some ⟨b, off, none⟩) ws.length c2], .slice (some ⟨go, 0, none⟩) ol co, .int .i64 (k : Int)] w' (Gives (.int .i64 (kidT ps O k)) w')) := Lib.hid (fun w' hb => KS.out w' _ (hb_full HBX hb) k hlt ((OI.out.below (HBW.out.trans (hb.out.mono HBW.out.size))).more (Nat.le_trans HBW.out.size hb.out.size)))
            have hgw : go < wr.heap.size := Nat.lt_of_lt_of_le GO.out HBW.out.size
            have KC : Hid (∀ w', Hid (Below wr.heap.size wr w') → w'.cell? ⟨w.heap.size, 0, none⟩ = some (.slice p1 ps.length c1) ∧ w'.cell? ⟨w.heap.size, 1, none⟩ = some (.slice (some ⟨b, off, none⟩) ws.length c2) ∧ w'.cell? ⟨go, k, none⟩ = some (.int .i64 (O.getD k 0))) := Lib.hid (fun w' hb => ⟨(HTX.out.below hb.out HTX.out.lt).cells.1, (HTX.out.below hb.out HTX.out.lt).cells.2, (hb.out.cell (p := ⟨go, k, none⟩) hgw).trans hco⟩)
            obtain ⟨ok, hok⟩ : ∃ ok, ok = O.getD k 0 := ⟨_, rfl⟩
            obtain ⟨kk, hkk⟩ : ∃ kk, kk = kidT ps O k := ⟨_, rfl⟩
            rw [← hok] at hco ba KC
            rw [← hkk] at CK ba
            have hw0 : (wk == 0) = true := by simp [h1]
            subst h1
            have HD : Hid (Below wr.heap.size wr wr.drew) := Lib.hid (below_drew (Below.refl _ _))
            clear hok hkk we wd hw0
            have hwz : ((0 : Int) == 0) = true := rfl
            go_upto_region 9 with fail
            go_region_with (first
              | (go_at_call 109; (with_reducible refine (CK.out _ HD).mono ?_); rintro e w7 ⟨rfl, b7⟩; (have HB7 := hb_next (wa := wr) HD b7); (obtain ⟨z0, z1, z2⟩ := KC.out w7 HB7); clear b7))
            all_goals
              have HBY := Lib.hid (HBW.out.trans (HB7.out.mono HBW.out.size))
              have HBZ := Lib.hid (HB.out.trans (HBY.out.mono HB.out.size))
              by_cases h2 : ok = kk
              · have R := Lib.hid (NX.out (by rw [ba, decide_eq_true h2]))
                have hne : (ok != kk) = false := by simp [h2]
                clear NX NK ba h2
                go_wp2_with fail
                go_roundw
                case rel => exact ⟨k + 1, by omega, by go_num, R, HBY⟩
                case measure => simp [intOf]; omega
              · have R := Lib.hid (NK.out (by rw [ba, decide_eq_false h2]))
                have hne : (ok != kk) = true := by simpa using h2
                clear NX NK ba h2
                go_wp2_with fail
                go_ret
                exact ⟨ret_b R.out, HBZ.out⟩
          · have hl : leafB ps k = true := we.1 (by omega)
            have R := Lib.hid (NX.out (by rw [ba, hl]; rfl))
            have hw0 : (wk == 0) = false := by simp [h1]
            have HBD := HBW
            clear NX NK ba we
            go_upto_region 9 with fail
            go_quiet (fail)
            go_wp2_with fail
            go_roundw
            case rel => exact ⟨k + 1, by omega, by go_num, R, Lib.hid (by first | exact HBW.out | exact below_drew HBW.out | exact below_drewN HBW.out _)⟩
            case measure => simp [intOf]; omega
        · have R := Lib.hid (YES.out (fun x hx => HA.out x (by omega)))
          have i2' : ¬ (k : Int) < (zs.length : Int) := by omega
          clear HA
          go_wp2_with fail
          go_ret
          exact ⟨ret_b R.out, HBX.out⟩
end Go.Proofs.Ytamneibnjbimeab
namespace Go.Proofs.Ytamneibnjbimeab
open Go.RowKit
set_option linter.unusedVariables false
/-- What stands behind the other tree and its row, of any room. -/
structure AfT (w : World) (v1 v2 v3 : Value) (n cp bo g gb ce m : Nat) (L es : List Int) (wx : World) : Prop where
  box : TBox wx bo v1 (.slice (some ⟨g, 0, none⟩) n cp)
  own : OwnV wx g (g + 1) (.slice (some ⟨g, 0, none⟩) n cp) L
  ends : OwnV wx gb (gb + 1) (.slice (some ⟨gb, 0, none⟩) m ce) es
  kb : KBox wx w.heap.size v1 v2 v3
  n1 : bo ≠ g
  n2 : gb ≠ g
  n3 : w.heap.size < g
  bel : Below w.heap.size w wx
theorem AfT.next {w wx : World} {v1 v2 v3 : Value} {n cp bo g gb ce m : Nat} {L es : List Int} (h : AfT w v1 v2 v3 n cp bo g gb ce m L es wx) (j : Nat) {x : Int} (hx : InI64 x) : AfT w v1 v2 v3 n cp bo g gb ce m (L.set j x) es (wx.setCell ⟨g, j, none⟩ (.int .i64 x)) :=
  ⟨h.box.set h.n1, h.own.setAt j hx, h.ends.alt (Alt.setC wx g j (.int .i64 x)) (by have := h.n2; omega), h.kb.set (by have := h.n3; omega), h.n1, h.n2, h.n3, h.bel.setCell (p := ⟨g, j, none⟩) (Nat.le_of_lt h.n3) _⟩
def AfB (w : World) (v1 v2 v3 : Value) (wx : World) : Prop := KBox wx w.heap.size v1 v2 v3 ∧ Below w.heap.size w wx
def Zr (w : World) (b : Nat) : Prop := w.heap[b]? = some (.cells [Value.slice none 0 0, Value.slice none 0 0].toArray 30 (0, 0))
theorem Zr.below {w w' : World} {b : Nat} (h : Zr w b) (hb : Below w.heap.size w w') : Zr w' b := (hb.block b (Array.getElem?_eq_some_iff.1 h).1).trans h
theorem Zr.new (w : World) : Zr (w.alloc (.cells #[.slice none 0 0, .slice none 0 0] 30)) w.heap.size := alloc_heap w _
theorem Zr.cells {w : World} {b : Nat} (h : Zr w b) : (w.cell? ⟨b, 0, none⟩ = some (.slice none 0 0) ∧ w.frozen? ⟨b, 0, none⟩ = false) ∧ w.cell? ⟨b, 1, none⟩ = some (.slice none 0 0) ∧ w.frozen? ⟨b, 1, none⟩ = false := ⟨cell_of_heap (o := 0) h rfl, cell_of_heap (o := 1) h rfl⟩
theorem AfB.next {w wx wy : World} {v1 v2 v3 : Value} (h : AfB w v1 v2 v3 wx) (hb : Below wx.heap.size wx wy) : AfB w v1 v2 v3 wy := ⟨h.1.below hb h.1.lt, h.2.trans (hb.mono h.2.size)⟩
set_option maxRecDepth 100000 in
set_option maxHeartbeats 4000000 in
theorem afwS (ps ws cs qs : List Int) (v u : Value) (w : World) (hn : cs.length ≤ 1048576) (hq : qs.length ≤ 1048576) (h : MktV w w.heap.size v ps ws cs) (hu : IntsV w w.heap.size u qs) :
    Calls Try.prog 35 #[v, u] w (Gives (awV ps ws cs qs) w) := by
  obtain ⟨p1, c1, p2, c2, p3, c3, rfl⟩ := h.shape
  have G := Lib.hid (fun w' (hb : Below w.heap.size w w') => mktS ps ws cs _ w' hn (h.boxed hb))
  have V3 := Lib.hid h.tree.2
  have V1 := Lib.hid (h.tree.1)
  obtain ⟨qp, qc, rfl, hq1, hq2, hq3, hq4⟩ := hu
  have VQ := Lib.hid hq4
  have ZQ := Lib.hid hq3
  have AW : Hid (awV ps ws cs qs = if awB ps ws cs qs = true then steV ps (awT ps qs) cs true else .tuple #[.bool false, .bool false]) := Lib.hid rfl
  have AB : Hid (awB ps ws cs qs = (goodM ps ws cs && decide (qs.length = (endsT ps).length))) := Lib.hid rfl
  clear h hq1 hq2 hq3 hq4
  have B1 := Lib.hid ((Below.refl w.heap.size w).alloc (Nat.le_refl _) (.cells #[.slice p1 ps.length c1, .slice p2 ws.length c2, .slice p3 cs.length c3] 32))
  have T1 := Lib.hid (show KBox (w.alloc (.cells #[.slice p1 ps.length c1, .slice p2 ws.length c2, .slice p3 cs.length c3] 32)) w.heap.size (.slice p1 ps.length c1) (.slice p2 ws.length c2) (.slice p3 cs.length c3) from alloc_heap w _)
  obtain ⟨wa, hwa⟩ : ∃ wa, wa = w.alloc (.cells #[.slice p1 ps.length c1, .slice p2 ws.length c2, .slice p3 cs.length c3] 32) := ⟨_, rfl⟩
  rw [← hwa] at B1 T1
  obtain ⟨x0, x1, x2⟩ := T1.out.cells
  cases hg : goodM ps ws cs
  · rw [hg] at G AB
    rw [AB.out, Bool.false_and, if_neg (by decide)] at AW
    rw [AW.out]
    clear hg AW AB
    go_enter Try.func35, Try.ntmps35
    go_wp2_with fail
    rw [← hwa]
    clear hwa
    refine (G.out _ B1.out).mono ?_
    rintro e w1 ⟨rfl, b1⟩
    have HB1 := Lib.hid (B1.out.trans (b1.mono B1.out.size))
    clear b1
    go_wp2_with fail
    go_ret2
    exact ⟨rfl, HB1.out⟩
  · have mk := goodM_iff.1 hg
    have n24 := mk.good.n24
    have n1 := mk.good.n1
    have EI := Lib.hid (fun w' (hb : Below w.heap.size w w') => endsS ps ws _ w' (V1.out.boxed hb) n24 (parAll mk.good))
    have le1 : cs.length ≤ ps.length := Nat.le_of_eq mk.len
    have le2 : ps.length ≤ cs.length := Nat.le_of_eq mk.len.symm
    have le3 : ws.length ≤ ps.length := Nat.le_of_eq mk.good.nw
    have le4 : ps.length ≤ ws.length := Nat.le_of_eq mk.good.nw.symm
    rw [hg, Bool.true_and] at AB
    rw [hg] at G
    have hep := ends_pos mk.good
    have hel := ends_le ps
    by_cases hl : qs.length = (endsT ps).length
    · rw [AB.out, decide_eq_true hl, if_pos rfl] at AW
      rw [AW.out]
      have t1 : ((qs.length : Int) != ((endsT ps).length : Int)) = false := by simpa using (show (qs.length : Int) = ((endsT ps).length : Int) by omega)
      have EIN := Lib.hid (fun i (hi : i < (endsT ps).length) => ends_in (ps := ps) hi)
      have LS := Lib.hid (fun k => show layW ws (endsT ps) qs (k + 1) = (layW ws (endsT ps) qs k).set ((endsT ps).getD k 0).toNat (qs.getD k 0) from rfl)
      have LL := Lib.hid (fun k => layW_len ws (endsT ps) qs k)
      have L0 := Lib.hid (show layW ws (endsT ps) qs 0 = ws from rfl)
      have LN := Lib.hid (show layW ws (endsT ps) qs (endsT ps).length = awT ps qs from layW_same mk.good qs)
      have OW := Lib.hid (fun w' (hb : Below w.heap.size w w') => ownS ws (.slice p2 ws.length c2) w' (by omega) (by omega) (by
        obtain ⟨u1, u2, e, _, a⟩ := (V1.out.below hb).more hb.size
        injection e with e
        injection e with e
        injection e with _ e
        injection e with e _
        subst e
        exact a))
      have GD := Lib.hid (fun w' v (h : TreeV w' w'.heap.size v ps (awT ps qs)) => goodS ps (awT ps qs) v w' h)
      have BL := Lib.hid (fun (gd : goodT ps (awT ps qs) = true) w' v u h hu => bal4S ps (awT ps qs) cs v u w' (mkt_proc mk ((goodT_iff _ _).1 gd)) h hu)
      have SN := Lib.hid (fun (gd : goodT ps (awT ps qs) = false) => steV_no (ps := ps) (ws := awT ps qs) (zs := cs) (fair := true) (by unfold procB; rw [gd]; rfl))
      have SY := Lib.hid (fun (gd : goodT ps (awT ps qs) = true) => steV_ok (ps := ps) (ws := awT ps qs) (zs := cs) (fair := true) (procB_iff.2 (mkt_proc mk ((goodT_iff _ _).1 gd))))
      clear hg AW AB
      rw [hl] at t1 ⊢
      obtain ⟨es, hes⟩ : ∃ es, es = endsT ps := ⟨_, rfl⟩
      rw [← hes] at EI EIN LS LL L0 LN hep hel t1 hl ⊢
      obtain ⟨F, hF⟩ : ∃ F, F = layW ws es qs := ⟨_, rfl⟩
      rw [← hF] at LS LL L0 LN
      clear hes hF mk
      go_enter Try.func35, Try.ntmps35
      go_wp2_with fail
      rw [← hwa]
      clear hwa
      refine (G.out _ B1.out).mono ?_
      rintro e w1 ⟨rfl, b1⟩
      have HB1 := Lib.hid (B1.out.trans (b1.mono B1.out.size))
      have U1 := Lib.hid (T1.out.below b1 T1.out.lt)
      obtain ⟨y0, y1, y2⟩ := U1.out.cells
      clear b1 x0 x1 x2
      go_wp2_with fail
      refine (EI.out _ HB1.out).mono ?_
      rintro e w2 ⟨u2, rfl, o2, b2⟩
      obtain ⟨g9, c9, rfl, _, _⟩ := o2.shape (by omega)
      have HB2 := Lib.hid (HB1.out.trans (b2.mono HB1.out.size))
      have U2 := Lib.hid (U1.out.below b2 U1.out.lt)
      obtain ⟨z0, z1, z2⟩ := U2.out.cells
      clear b2 y0 y1 y2 U1 HB1 T1 B1 G o2
      go_upto_region 3 with fail
      go_cut [6, 7] (fun s6 s7 wx => ∃ bo g cp gb ce, s6 = .pointer (some ⟨bo, 0, none⟩) ∧ s7 = .slice (some ⟨gb, 0, none⟩) es.length ce ∧ Hid (AfT w (.slice p1 ps.length c1) (.slice p2 ws.length c2) (.slice p3 cs.length c3) ws.length cp bo g gb ce es.length (F 0) es wx))
      case first =>
        have HE0 := Lib.hid (show AfB w (.slice p1 ps.length c1) (.slice p2 ws.length c2) (.slice p3 cs.length c3) w2 from ⟨U2.out, HB2.out⟩)
        have HD := Lib.hid (HE0.out.next (below_drew (Below.refl w2.heap.size w2)))
        have KC : Hid (∀ w', Hid (AfB w (.slice p1 ps.length c1) (.slice p2 ws.length c2) (.slice p3 cs.length c3) w') → w'.cell? ⟨w.heap.size, 0, none⟩ = some (.slice p1 ps.length c1) ∧ w'.cell? ⟨w.heap.size, 1, none⟩ = some (.slice p2 ws.length c2) ∧ w'.cell? ⟨w.heap.size, 2, none⟩ = some (.slice p3 cs.length c3)) := Lib.hid (fun w' he => he.out.1.cells)
        have KA : Hid (∀ w' o, Hid (AfB w (.slice p1 ps.length c1) (.slice p2 ws.length c2) (.slice p3 cs.length c3) w') → Hid (AfB w (.slice p1 ps.length c1) (.slice p2 ws.length c2) (.slice p3 cs.length c3) (w'.alloc o))) := Lib.hid (fun w' o he => Lib.hid ⟨he.out.1.alloc o, he.out.2.alloc he.out.2.size o⟩)
        have HDA : Hid (AfB w (.slice p1 ps.length c1) (.slice p2 ws.length c2) (.slice p3 cs.length c3) (w2.alloc (.cells #[.slice none 0 0, .slice none 0 0] 30)).drew) := Lib.hid ((KA.out _ _ HE0).out.next (below_drew (Below.refl _ _)))
        have hlt2 : w.heap.size < w2.heap.size := U2.out.lt
        have KS : Hid (∀ (w' : World) (b : Nat) (x y : Value), Hid (AfB w (.slice p1 ps.length c1) (.slice p2 ws.length c2) (.slice p3 cs.length c3) w') → w.heap.size < b → ((w'.setCell ⟨b, 0, none⟩ x).setCell ⟨b, 1, none⟩ y).cell? ⟨w.heap.size, 0, none⟩ = some (.slice p1 ps.length c1) ∧ ((w'.setCell ⟨b, 0, none⟩ x).setCell ⟨b, 1, none⟩ y).cell? ⟨w.heap.size, 1, none⟩ = some (.slice p2 ws.length c2) ∧ ((w'.setCell ⟨b, 0, none⟩ x).setCell ⟨b, 1, none⟩ y).cell? ⟨w.heap.size, 2, none⟩ = some (.slice p3 cs.length c3)) := Lib.hid (fun w' b x y he hb => ((he.out.1.set (g := b) (o := 0) (x := x) (by omega)).set (g := b) (o := 1) (x := y) (by omega)).cells)
        have HZ1 : Hid (Zr (w2.alloc (.cells #[.slice none 0 0, .slice none 0 0] 30)).drew w2.heap.size) := Lib.hid (Zr.new w2)
        have OW2 : Hid (∀ w', Hid (AfB w (.slice p1 ps.length c1) (.slice p2 ws.length c2) (.slice p3 cs.length c3) w') → Calls Try.prog 75 #[.slice p2 ws.length c2] w' (NewInts ws w')) := Lib.hid (fun w' he => OW.out w' he.out.2)
        have EI2 : Hid (∀ w', Hid (AfB w (.slice p1 ps.length c1) (.slice p2 ws.length c2) (.slice p3 cs.length c3) w') → Calls Try.prog 84 #[.agg #[.slice p1 ps.length c1, .slice p2 ws.length c2]] w' (NewInts es w')) := Lib.hid (fun w' he => EI.out w' he.out.2)
        go_region_held3 (fun w' => w'.cell? ⟨w.heap.size, 0, none⟩ = some (.slice p1 ps.length c1) ∧ w'.cell? ⟨w.heap.size, 1, none⟩ = some (.slice p2 ws.length c2) ∧ w'.cell? ⟨w.heap.size, 2, none⟩ = some (.slice p3 cs.length c3))
          (first | exact KC.out _ HD | exact KC.out _ HDA | exact KC.out _ (by assumption) | exact KC.out _ (KA.out _ _ (by assumption)) | exact KS.out _ _ _ _ (by assumption) (by assumption) | go_keep)
          (first
            | (go_at_call 75; (with_reducible refine (OW2.out _ (by first | exact HD | exact HDA | assumption)).mono ?_); rintro e w8 ⟨u8, rfl, o8, b8⟩; (obtain ⟨g8, c8, rfl, hg8, hh8⟩ := o8.shape (by omega)); (have HE8 := Lib.hid (AfB.next (Hid.out (by first | exact HD | exact HDA | assumption)) b8)); (have hlt8 := HE8.out.1.lt); (first | (have HZ8 := Lib.hid (Zr.below HZ1.out b8)) | skip))
            | (go_at_call 84; (with_reducible refine (EI2.out _ (by first | assumption | exact KA.out _ _ (by assumption))).mono ?_); rintro e w10 ⟨u10, rfl, o10, b10⟩; (obtain ⟨g10, c10, rfl, hg10, hh10⟩ := o10.shape (by omega)); (have HE10 := Lib.hid (AfB.next (Hid.out (by first | assumption | exact KA.out _ _ (by assumption))) b10)); (first | (have HZ10 := Lib.hid (Zr.below HZ8.out b10); (obtain ⟨⟨m0, f0⟩, m1, f1⟩ := HZ10.out.cells)) | (have HZ10 := Lib.hid (Zr.below (Zr.new _) b10); (obtain ⟨⟨m0, f0⟩, m1, f1⟩ := HZ10.out.cells)) | skip)))
        all_goals
          have SD : w2.drew.heap.size = w2.heap.size := rfl
          have SA : (w2.alloc (.cells #[.slice none 0 0, .slice none 0 0] 30)).drew.heap.size = w2.heap.size + 1 := by simp
          have S8 : (w8.alloc (.cells #[.slice none 0 0, .slice none 0 0] 30)).heap.size = w8.heap.size + 1 := by simp
          have s10 := HE10.out.1.lt
          have b8s := b8.size
          have b10s := b10.size
          go_wp2_with fail
          go_meet
          refine ⟨_, g8, c8, _, _, rfl, rfl, Lib.hid ?_⟩
          rw [L0.out]
          first
            | exact ⟨row_set (row_set HZ10.out), ((o8.tight.below (b10.mono (by omega))).alt (Alt.setC _ _ 0 _) (by omega)).alt (Alt.setC _ _ 1 _) (by omega), (o10.tight.alt (Alt.setC _ _ 0 _) (by omega)).alt (Alt.setC _ _ 1 _) (by omega), (HE10.out.1.set (by omega)).set (by omega), by omega, by omega, by omega, (HE10.out.2.setCell (p := ⟨_, 0, none⟩) (by dsimp only; omega) _).setCell (p := ⟨_, 1, none⟩) (by dsimp only; omega) _⟩
            | exact ⟨row_set (row_set HZ10.out), ((o8.tight.below (((Below.refl w8.heap.size w8).alloc (Nat.le_refl _) _ |>.trans (b10.mono (by omega))).mono (by omega))).alt (Alt.setC _ _ 0 _) (by omega)).alt (Alt.setC _ _ 1 _) (by omega), (o10.tight.alt (Alt.setC _ _ 0 _) (by omega)).alt (Alt.setC _ _ 1 _) (by omega), (HE10.out.1.set (by omega)).set (by omega), by omega, by omega, by omega, (HE10.out.2.setCell (p := ⟨_, 0, none⟩) (by dsimp only; omega) _).setCell (p := ⟨_, 1, none⟩) (by dsimp only; omega) _⟩
            | exact ⟨alloc_heap w10 _, (o8.tight.below (b10.mono (by omega))).below ((Below.refl w10.heap.size w10).alloc (Nat.le_refl _) _ |>.mono (by omega)), o10.tight.below ((Below.refl w10.heap.size w10).alloc (Nat.le_refl _) _ |>.mono (by omega)), HE10.out.1.alloc _, by omega, by omega, by omega, HE10.out.2.alloc HE10.out.2.size _⟩
            | (trace_state; sorry)
      obtain ⟨bo, g, cp, gb, ce, rfl, rfl, hT⟩ := hcut
      obtain ⟨w3, rfl⟩ : ∃ w3 : World, w3 = wc := ⟨_, rfl⟩
      clear z0 z1 z2 U2 HB2 EI OW
      go_wp2
      go_loopw [8] (fun i wr => ∃ k : Nat, k ≤ es.length ∧ i = .int .i64 k ∧ Hid (AfT w (.slice p1 ps.length c1) (.slice p2 ws.length c2) (.slice p3 cs.length c3) ws.length cp bo g gb ce es.length (F k) es wr)) (fun i _ => es.length - (intOf i).toNat)
      case atStart => exact ⟨0, Nat.zero_le _, rfl, hT⟩
      case round =>
        obtain ⟨k, hk, rfl, HS⟩ := hrel
        clear hT
        by_cases hlt : k < es.length
        · have hce : wr.drew.cell? ⟨gb, k, none⟩ = some (.int .i64 (es.getD k 0)) := HS.out.ends.cellGet hlt
          obtain ⟨xn, hxn, hxl, _⟩ := EIN.out k hlt
          obtain ⟨b, off, rfl, hb, hc⟩ := VQ.out.get (i := k) (by omega)
          have hcw : wr.drew.cell? ⟨b, off + k, none⟩ = some (.int .i64 (qs.getD k 0)) := by
            have := HS.out.bel.cell (p := ⟨b, off + k, none⟩) hb
            exact this.trans hc
          have i0 : (0 : Int) ≤ (k : Int) := by omega
          have i1 : (k : Int) < (es.length : Int) := by omega
          have i2 : (0 : Int) ≤ (xn : Int) := by omega
          have i3 : (xn : Int) < (ws.length : Int) := by omega
          have HZ := Lib.hid (show InI64 (qs.getD k 0) from ZQ.out _ (by rw [List.getD_eq_getElem?_getD, List.getElem?_eq_getElem (by omega : k < qs.length)]; exact List.getElem_mem _))
          have LK := LS.out k
          have FL : (F k).length = ws.length := LL.out k
          rw [← hxn, Int.toNat_natCast] at LK
          rw [← hxn] at hce
          obtain ⟨z, hz⟩ : ∃ z, z = qs.getD k 0 := ⟨_, rfl⟩
          rw [← hz] at hcw HZ LK
          have NX : Hid (AfT w (.slice p1 ps.length c1) (.slice p2 ws.length c2) (.slice p3 cs.length c3) ws.length cp bo g gb ce es.length (F (k + 1)) es (wr.drew.setCell ⟨g, xn, none⟩ (.int .i64 z))) := Lib.hid (by
            rw [LK]
            have hd : AfT w (.slice p1 ps.length c1) (.slice p2 ws.length c2) (.slice p3 cs.length c3) ws.length cp bo g gb ce es.length (F k) es wr.drew := ⟨HS.out.box, HS.out.own.below (below_drew (Below.refl _ _)), HS.out.ends.below (below_drew (Below.refl _ _)), HS.out.kb, HS.out.n1, HS.out.n2, HS.out.n3, below_drew HS.out.bel⟩
            exact hd.next xn HZ.out)
          have s0 : wr.drew.cell? ⟨g, xn, none⟩ = some (.int .i64 ((F k).getD xn 0)) := HS.out.own.cellGet (by rw [FL]; omega)
          have s1 : wr.drew.frozen? ⟨g, xn, none⟩ = false := HS.out.own.frozenGet xn
          have q1 : wr.drew.cell? ⟨bo, 1, none⟩ = some (.slice (some ⟨g, 0, none⟩) ws.length cp) := HS.out.box.cells.2
          clear hz hc LK FL hxn
          go_wp2_with fail
          go_region
          all_goals
            go_wp2_with fail
            go_roundw
            case rel => exact ⟨k + 1, by omega, by go_num, NX⟩
            case measure => simp [intOf]; omega
        · obtain rfl : k = es.length := by omega
          have hge : ¬ ((es.length : Int) < (es.length : Int)) := by omega
          rw [LN.out] at HS
          obtain ⟨m0, m1⟩ := HS.out.box.cells
          have HB := Lib.hid HS.out.bel
          have HT := Lib.hid (show TreeV wr wr.heap.size (.agg #[.slice p1 ps.length c1, .slice (some ⟨g, 0, none⟩) ws.length cp]) ps (awT ps qs) from (by
            obtain ⟨u1, u2, e, a, _⟩ := (V1.out.below HS.out.bel).more HS.out.bel.size
            injection e with e
            injection e with e
            injection e with e _
            subst e
            exact ⟨_, _, rfl, a, HS.out.own.intsV.more HS.out.own.room⟩))
          have C := Lib.hid (GD.out wr _ HT.out)
          have XB := Lib.hid (HS.out.box)
          have XK := Lib.hid (HS.out.kb)
          clear HS
          cases gd : goodT ps (awT ps qs)
          · rw [gd] at C
            have R := Lib.hid (SN.out gd)
            clear gd SN SY BL
            go_wp2_with fail
            refine C.out.mono ?_
            rintro e w5 ⟨rfl, b5⟩
            have HB5 := Lib.hid (HB.out.trans (b5.mono HB.out.size))
            clear b5
            go_wp2_with fail
            go_ret2
            exact ⟨by rw [R.out]; rfl, HB5.out⟩
          · rw [gd] at C
            have R := Lib.hid (SY.out gd)
            have BL2 := Lib.hid (fun w' v u h hu => BL.out gd w' v u h hu)
            generalize steB ps (awT ps qs) cs true = rx at R BL2
            clear gd SN SY BL
            go_wp2_with fail
            refine C.out.mono ?_
            rintro e w5 ⟨rfl, b5⟩
            have HB5 := Lib.hid (HB.out.trans (b5.mono HB.out.size))
            obtain ⟨n0, n1'⟩ := (XB.out.below b5 XB.out.lt).cells
            obtain ⟨y0, y1, y2⟩ := (XK.out.below b5 XK.out.lt).cells
            have C2 := Lib.hid (BL2.out w5 _ (.slice p3 cs.length c3) ((HT.out.below b5).more b5.size) ((V3.out.below HB5.out).more HB5.out.size))
            clear b5 m0 m1
            go_wp2_with fail
            refine C2.out.mono ?_
            rintro e w6 ⟨rfl, b6⟩
            have HB6 := Lib.hid (HB5.out.trans (b6.mono HB5.out.size))
            clear b6
            go_wp2_with fail
            go_ret2
            exact ⟨by rw [R.out]; rfl, HB6.out⟩
    · rw [AB.out, decide_eq_false hl, if_neg (by decide)] at AW
      rw [AW.out]
      have t1 : ((qs.length : Int) != ((endsT ps).length : Int)) = true := by simpa using (show ¬ (qs.length : Int) = ((endsT ps).length : Int) by omega)
      clear hg AW AB mk hl
      generalize endsT ps = L at *
      go_enter Try.func35, Try.ntmps35
      go_wp2_with fail
      rw [← hwa]
      clear hwa
      refine (G.out _ B1.out).mono ?_
      rintro e w1 ⟨rfl, b1⟩
      have HB1 := Lib.hid (B1.out.trans (b1.mono B1.out.size))
      have U1 := Lib.hid (T1.out.below b1 T1.out.lt)
      obtain ⟨y0, y1, y2⟩ := U1.out.cells
      clear b1 x0 x1 x2
      go_wp2_with fail
      refine (EI.out _ HB1.out).mono ?_
      rintro e w2 ⟨u2, rfl, o2, b2⟩
      obtain ⟨gb, ce, rfl, _, _⟩ := o2.shape (by omega)
      have HB2 := Lib.hid (HB1.out.trans (b2.mono HB1.out.size))
      clear b2 o2
      go_wp2_with fail
      go_ret2
      exact ⟨rfl, HB2.out⟩
end Go.Proofs.Ytamneibnjbimeab
namespace Go.Proofs.Ytamneibnjbimeab
open Go.RowKit Go.WideShapes Go.ChangeShapes Go.Joins
set_option linter.unusedVariables false
theorem eqM (ps ws cs : List Int) (v u : Value) (B C : Nat) (w : World) (hp : MktV w B v ps ws cs) (hq : MktV w C u ps ws cs) (hB : B ≤ w.heap.size) (hC : C ≤ w.heap.size) :
    Calls Try.prog 17 #[v, u] w fun e w' => e = .returned (.bool true) ∧ Below w.heap.size w w' := by
  obtain ⟨v1, v2, v3, rfl, h1, h2, h3⟩ := hp
  obtain ⟨u1, u2, u3, rfl, g1, g2, g3⟩ := hq
  have S1 := Lib.hid (fun w' (hb : Below w.heap.size w w') => eqT ps ws (.agg #[v1, v2]) (.agg #[u1, u2]) B C w' (TreeV.below ⟨_, _, rfl, h1, h2⟩ (hb.mono hB)) (TreeV.below ⟨_, _, rfl, g1, g2⟩ (hb.mono hC)) (by have := hb.size; omega) (by have := hb.size; omega))
  have S2 := Lib.hid (fun w' (hb : Below w.heap.size w w') => eqI cs v3 u3 B C w' (h3.below (hb.mono hB)) (g3.below (hb.mono hC)))
  clear h1 h2 h3 g1 g2 g3
  obtain ⟨wa, hwa⟩ : ∃ wa, wa = (w.alloc (.cells #[v1, v2, v3] 32)).alloc (.cells #[u1, u2, u3] 32) := ⟨_, rfl⟩
  obtain ⟨k1, k2⟩ := alloc_two w (.cells #[v1, v2, v3] 32) (.cells #[u1, u2, u3] 32)
  have B3 : Below w.heap.size w wa := by rw [hwa]; exact ((Below.refl w.heap.size w).alloc (Nat.le_refl _) _).alloc (by simp) _
  have T1 := Lib.hid (show KBox wa w.heap.size v1 v2 v3 by rw [hwa]; exact k1)
  have T2 := Lib.hid (show KBox wa (w.heap.size + 1) u1 u2 u3 by rw [hwa]; exact k2)
  clear k1 k2
  obtain ⟨x0, x1, x2⟩ := T1.out.cells
  obtain ⟨y0, y1, y2⟩ := T2.out.cells
  go_enter Try.func17, Try.ntmps17
  go_wp2_with fail
  rw [← hwa]
  clear hwa
  refine (S1.out _ B3).mono ?_
  rintro e w1 ⟨rfl, b1⟩
  have HB := Lib.hid (B3.trans (b1.mono B3.size))
  obtain ⟨z0, z1, z2⟩ := (T1.out.below b1 T1.out.lt).cells
  obtain ⟨t0, t1, t2⟩ := (T2.out.below b1 T2.out.lt).cells
  clear b1 x0 x1 x2 y0 y1 y2
  go_wp2_with fail
  refine (S2.out _ HB.out).mono ?_
  rintro e w2 ⟨rfl, n, rfl⟩
  have HB2 := Lib.hid (below_drewN HB.out n)
  go_wp2_with fail
  go_ret
  exact ⟨rfl, HB2.out⟩
set_option maxHeartbeats 1000000 in
theorem markM (ps ws cs : List Int) (v : Value) (lo hi k : Nat) (w : World) (hp : ps.length ≤ 1048576) (hw : ws.length ≤ 1048576) (hc : cs.length ≤ 1048576) (hk : k ≤ 900000000) (h : OwnMkt w lo hi v ps ws cs) :
    Calls Try.prog 18 #[v, .int .i64 k] w fun e w' => e = .returned (.int .i64 ((k + ps.length + ws.length + cs.length : Nat) : Int)) ∧ OwnMkt w' lo hi v (marksI k ps.length) (marksI (k + ps.length) ws.length) (marksI (k + ps.length + ws.length) cs.length) ∧ Alt lo hi w w' := by
  obtain ⟨p1, c1, p2, c2, p3, c3, rfl⟩ := h.shape
  have hroom : hi ≤ w.heap.size := by obtain ⟨_, _, _, _, _, _, _, _, _, _, _, c⟩ := h; exact c.room
  obtain ⟨m2, hm1, hm2, ht, hz⟩ := h.parts
  have H1 := Lib.hid ht
  have H2 := Lib.hid hz
  clear h ht hz
  have A3 : Alt lo hi w (w.alloc (.cells #[.slice p1 ps.length c1, .slice p2 ws.length c2, .slice p3 cs.length c3] 32)) := Alt.alloc _ _ _ _
  have B3 : Below hi w (w.alloc (.cells #[.slice p1 ps.length c1, .slice p2 ws.length c2, .slice p3 cs.length c3] 32)) := (Below.refl hi w).alloc hroom _
  have T3 : KBox (w.alloc (.cells #[.slice p1 ps.length c1, .slice p2 ws.length c2, .slice p3 cs.length c3] 32)) w.heap.size (.slice p1 ps.length c1) (.slice p2 ws.length c2) (.slice p3 cs.length c3) := alloc_heap _ _
  obtain ⟨wa, hwa⟩ : ∃ wa, wa = w.alloc (.cells #[.slice p1 ps.length c1, .slice p2 ws.length c2, .slice p3 cs.length c3] 32) := ⟨_, rfl⟩
  rw [← hwa] at A3 B3 T3
  have sA : w.heap.size < wa.heap.size := by rw [hwa]; simp
  obtain ⟨x0, x1, x2⟩ := T3.cells
  go_enter Try.func18, Try.ntmps18
  go_wp2_with fail
  rw [← hwa]
  clear hwa
  refine (markT ps ws _ lo m2 k _ hp hw (by omega) (H1.out.below (B3.mono hm2))).mono ?_
  rintro e w1 ⟨rfl, o1, a1⟩
  obtain ⟨y0, y1, y2⟩ := (show KBox w1 w.heap.size _ _ _ from (a1.block w.heap.size (by omega) (.inr (by omega))).trans T3).cells
  have O1 := Lib.hid o1
  have A1 := Lib.hid (A3.trans (a1.wide (Nat.le_refl _) hm2))
  have O2 := Lib.hid ((H2.out.below B3).alt a1 (.inr (Nat.le_refl _)))
  clear o1 a1 x0 x1 x2 T3 A3 B3
  go_wp2_with fail
  refine (markI cs _ m2 hi (k + ps.length + ws.length) _ hc (by omega) O2.out).mono ?_
  rintro e w2 ⟨rfl, o2, a2⟩
  have hl1 : (marksI k ps.length).length = ps.length := by simp [marksI]
  have hl2 : (marksI (k + ps.length) ws.length).length = ws.length := by simp [marksI]
  have hl3 : (marksI (k + ps.length + ws.length) cs.length).length = cs.length := by simp [marksI]
  have FIN := Lib.hid (And.intro (OwnMkt.of (w2 := w2) (O1.out.alt a2 (.inl (Nat.le_refl _))) o2 hm2) (A1.out.trans (a2.wide hm1 (Nat.le_refl _))))
  clear o2 a2
  go_wp2_with fail
  go_ret
  exact ⟨rfl, FIN.out.1, FIN.out.2⟩
theorem KBox.st0 {w : World} {B : Nat} {v1 v2 v3 : Value} (h : KBox w B v1 v2 v3) (x : Value) : KBox (w.setCell ⟨B, 0, none⟩ x) B x v2 v3 := row_set (L := [v1, v2, v3]) (j := 0) h
theorem KBox.st1 {w : World} {B : Nat} {v1 v2 v3 : Value} (h : KBox w B v1 v2 v3) (x : Value) : KBox (w.setCell ⟨B, 1, none⟩ x) B v1 x v3 := row_set (L := [v1, v2, v3]) (j := 1) h
theorem KBox.st2 {w : World} {B : Nat} {v1 v2 v3 : Value} (h : KBox w B v1 v2 v3) (x : Value) : KBox (w.setCell ⟨B, 2, none⟩ x) B v1 v2 x := row_set (L := [v1, v2, v3]) (j := 2) h
theorem KBox.cf {w : World} {B : Nat} {v1 v2 v3 : Value} (h : KBox w B v1 v2 v3) : (w.cell? ⟨B, 0, none⟩ = some v1 ∧ w.frozen? ⟨B, 0, none⟩ = false) ∧ (w.cell? ⟨B, 1, none⟩ = some v2 ∧ w.frozen? ⟨B, 1, none⟩ = false) ∧ (w.cell? ⟨B, 2, none⟩ = some v3 ∧ w.frozen? ⟨B, 2, none⟩ = false) :=
  ⟨cell_of_heap (o := 0) h rfl, cell_of_heap (o := 1) h rfl, cell_of_heap (o := 2) h rfl⟩
set_option maxHeartbeats 2000000 in
theorem toM (ps ws cs : List Int) (v : Value) (w : World) (hp : ps.length ≤ 1048576) (hw : ws.length ≤ 1048576) (hc : cs.length ≤ 1048576) (h : MktV w w.heap.size v ps ws cs) :
    Calls Try.prog 14 #[v] w (NewMkt ps ws cs w) := by
  have S1 := Lib.hid (fun w' (v1 v2 v3 : Value) (hv : v = .agg #[v1, v2, v3]) (hb : Below w.heap.size w w') => toT ps ws (.agg #[v1, v2]) w' hp hw ((show TreeV w w.heap.size (.agg #[v1, v2]) ps ws by (have h2 := h; rw [hv] at h2; exact h2.tree.1)).boxed hb))
  have S2 := Lib.hid (fun w' (v1 v2 v3 : Value) (hv : v = .agg #[v1, v2, v3]) (hb : Below w.heap.size w w') => toI cs v3 w' hc (((show IntsV w w.heap.size v3 cs by (have h2 := h; rw [hv] at h2; exact h2.tree.2)).below hb).more hb.size))
  obtain ⟨p1, c1, p2, c2, p3, c3, rfl⟩ := h.shape
  clear h
  obtain ⟨wa, hwa⟩ : ∃ wa, wa = ((w.alloc (.cells #[.slice p1 ps.length c1, .slice p2 ws.length c2, .slice p3 cs.length c3] 26)).alloc (.cells #[.slice none 0 0, .slice none 0 0, .slice none 0 0] 32)).alloc (.cells #[.slice none 0 0, .slice none 0 0, .slice none 0 0] 32) := ⟨_, rfl⟩
  have B3 : Below w.heap.size w wa := by rw [hwa]; exact (((Below.refl w.heap.size w).alloc (Nat.le_refl _) _).alloc (by simp) _).alloc (by simp; omega) _
  have hsz : wa.heap.size = w.heap.size + 1 + 1 + 1 := by rw [hwa]; simp
  obtain ⟨k0, k1, k2⟩ := heap_three w (.cells #[.slice p1 ps.length c1, .slice p2 ws.length c2, .slice p3 cs.length c3] 26) (.cells #[.slice none 0 0, .slice none 0 0, .slice none 0 0] 32) (.cells #[.slice none 0 0, .slice none 0 0, .slice none 0 0] 32)
  rw [← hwa] at k0 k1 k2
  have T1 := Lib.hid (show KBox wa (w.heap.size + 1) (.slice none 0 0) (.slice none 0 0) (.slice none 0 0) from k1)
  have T2 := Lib.hid (show KBox wa (w.heap.size + 1 + 1) (.slice none 0 0) (.slice none 0 0) (.slice none 0 0) from k2)
  have K0 := Lib.hid (fun w1 (hb : Below wa.heap.size wa w1) => (And.intro (cell_of_heap (o := 0) ((hb.block w.heap.size (by omega)).trans k0) rfl).1 (And.intro (cell_of_heap (o := 1) ((hb.block w.heap.size (by omega)).trans k0) rfl).1 (cell_of_heap (o := 2) ((hb.block w.heap.size (by omega)).trans k0) rfl).1)))
  clear k0 k1 k2
  obtain ⟨x0, x1, x2⟩ := K0.out _ (Below.refl _ _)
  go_enter Try.func14, Try.ntmps14
  go_wp2_with fail
  rw [← hwa]
  clear hwa
  refine (S1.out _ _ _ _ rfl B3).mono ?_
  rintro e w1 ⟨u1, rfl, o1, b1⟩
  obtain ⟨g1, d1, g2, d2, rfl⟩ := o1.shape
  have hz1 := b1.size
  have O1 := Lib.hid o1
  have A1 := Lib.hid b1
  have HT1 := Lib.hid (T1.out.below b1 T1.out.lt)
  have HT2 := Lib.hid (T2.out.below b1 T2.out.lt)
  have HB1 := Lib.hid (B3.trans (b1.mono B3.size))
  obtain ⟨y0, y1, y2⟩ := K0.out _ b1
  obtain ⟨⟨z0, f0⟩, ⟨z1, f1⟩, z2, f2⟩ := HT2.out.cf
  clear o1 b1 x0 x1 x2 T1 T2
  go_wp2_with fail
  obtain ⟨wb, hwb⟩ : ∃ wb, wb = (w1.setCell ⟨w.heap.size + 1 + 1, 0, none⟩ (.slice g1 ps.length d1)).setCell ⟨w.heap.size + 1 + 1, 1, none⟩ (.slice g2 ws.length d2) := ⟨_, rfl⟩
  have hzb : wb.heap.size = w1.heap.size := by rw [hwb]; simp [World.setCell]
  have AB : Alt (w.heap.size + 1 + 1) (w.heap.size + 1 + 1 + 1) w1 wb := by rw [hwb]; exact (Alt.setC w1 (w.heap.size + 1 + 1) 0 _).trans (Alt.setC _ (w.heap.size + 1 + 1) 1 _)
  have HB2 := Lib.hid (HB1.out.trans ((AB.below (by omega)).mono (by omega)))
  have O2 := Lib.hid (O1.out.alt AB (.inr (by omega)))
  have HU2 : Hid (KBox wb (w.heap.size + 1 + 1) (.slice g1 ps.length d1) (.slice g2 ws.length d2) (.slice none 0 0)) := Lib.hid (by rw [hwb]; exact (HT2.out.st0 _).st1 _)
  have HU1 : Hid (KBox wb (w.heap.size + 1) (.slice none 0 0) (.slice none 0 0) (.slice none 0 0)) := Lib.hid (by rw [hwb]; exact (HT1.out.set (by omega)).set (by omega))
  clear z0 f0 z1 f1 z2 f2 HT1 HT2 O1 AB HB1
  try rw [← hwb]
  clear hwb
  refine (S2.out _ _ _ _ rfl HB2.out).mono ?_
  rintro e w2 ⟨u2, rfl, o2, b2⟩
  obtain ⟨g3, d3, rfl, _⟩ := o2.intsV
  have hz2 := b2.size
  have HV1 := Lib.hid (HU1.out.below b2 HU1.out.lt)
  have HV2 := Lib.hid (HU2.out.below b2 HU2.out.lt)
  have HB3 := Lib.hid (HB2.out.trans (b2.mono HB2.out.size))
  have O3 := Lib.hid (O2.out.below (b2.mono (by omega)))
  have O4 := Lib.hid o2
  obtain ⟨⟨z0, f0⟩, ⟨z1, f1⟩, z2, f2⟩ := HV2.out.cf
  obtain ⟨⟨t0, e0⟩, ⟨t1, e1⟩, t2, e2⟩ := HV1.out.cf
  clear o2 b2 y0 y1 y2 HU1 HU2 O2
  go_wp2_with fail
  have FIN : Hid (∀ wf, Alt (w.heap.size + 1) (w.heap.size + 1 + 1 + 1) w2 wf → wf.heap.size = w2.heap.size → NewMkt ps ws cs w (.returned (.agg #[.slice g1 ps.length d1, .slice g2 ws.length d2, .slice g3 cs.length d3])) wf) := Lib.hid (fun wf ha hs =>
    ⟨_, rfl, OwnMkt.of (w2 := wf) (m2 := w1.heap.size) (by
      have h3 := O3.out.alt ha (.inr (by omega))
      obtain ⟨a1, a2, m, ea, h1, h2, a, b⟩ := h3
      exact ⟨a1, a2, m, ea, by omega, h2, a.low (by omega), b⟩) (by
      have h4 := O4.out.alt ha (.inr (by omega))
      rw [hs]; exact h4.low (by omega)) (by omega), HB3.out.trans ((ha.below (by omega)).mono (by omega))⟩)
  clear O3 O4 HB2 HB3 HV1 HV2
  refine bodyPost_ret (v := .agg #[.slice g1 ps.length d1, .slice g2 ws.length d2, .slice g3 cs.length d3]) (by simp [results, Try.results14, go_sem, t0, t1, t2]) rfl (FIN.out _ (((Alt.setC w2 (w.heap.size + 1 + 1) 2 _).wide (by omega) (by omega)).trans (((Alt.setC _ (w.heap.size + 1) 0 _).wide (by omega) (by omega)).trans (((Alt.setC _ (w.heap.size + 1) 1 _).wide (by omega) (by omega)).trans ((Alt.setC _ (w.heap.size + 1) 2 _).wide (by omega) (by omega))))) (by simp [World.setCell]))
section
variable {H : Type} {enc : TypeId × Value → H} {W : World}
set_option maxRecDepth 100000 in
theorem mktCells : Try.prog.cellsOf 26 = 3 := by kernel_rfl
set_option maxRecDepth 100000 in
theorem mktV_arg {base : Nat} {v : Value} {d : DataW H} {p : List MemPlace} (hv : Value.okWide Try.prog W .any base 26 v) (h : DataW.Trod enc Try.prog W 0 (fun _ => true) true 26 v d p) : ∃ ps ws cs, MktV W W.heap.size v ps ws cs := by
  obtain ⟨cl, rfl, hsz⟩ := okWide_struct Try.underlying26 hv
  obtain ⟨c0, c1, c2, rfl⟩ := array3 (hsz.trans mktCells)
  obtain ⟨fuel, hf⟩ := h
  obtain ⟨y0, y1, n, _, _, h0, h1⟩ := trod_struct2 Try.underlying26 hf
  have h0' : DataW.trod enc Try.prog W 0 (fun _ => true) true n 24 [c0, c1] = some y0 := by
    have := h0
    rw [treeCells] at this
    exact this
  have h1' : DataW.trod enc Try.prog W 0 (fun _ => true) true n 22 [c2] = some y1 := by
    have e : Try.prog.cellsOf 22 = 1 := by kernel_rfl
    have := h1
    rw [e] at this
    exact this
  obtain ⟨cs, hc⟩ := intsV_open h1'
  obtain ⟨z0, z1, m, _, _, k0, k1⟩ := trod_struct2 Try.underlying24 h0'
  have e : Try.prog.cellsOf 22 = 1 := by kernel_rfl
  rw [e] at k0 k1
  obtain ⟨ps, hp⟩ := intsV_open (v := c0) k0
  obtain ⟨ws, hw⟩ := intsV_open (v := c1) k1
  exact ⟨ps, ws, cs, c0, c1, c2, rfl, hp, hw, hc⟩
end
end Go.Proofs.Ytamneibnjbimeab
