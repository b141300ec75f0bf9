/- Whether two events are independent, in the program. -/
import Derived.Test.YtfnnlkbecnjloabGivM
import Derived.IntWalk
namespace Go.Proofs.Ytfnnlkbecnjloab
open Go.RowKit
set_option linter.unusedVariables false
/-- What stands between the calls of a function of two events that has no box for its result. -/
def EBt (w : World) (B M n : Nat) (f : Int → Bool) (M' n' : Nat) (f' : Int → Bool) (v1 v2 : Value) (w' : World) : Prop := TBox w' B v1 v2 ∧ (MapB w' M n f ∧ MapB w' M' n' f') ∧ Below w.heap.size w w'
theorem EBt.next {w a b : World} {B M n M' n' : Nat} {f f' : Int → Bool} {v1 v2 : Value} (h : EBt w B M n f M' n' f' v1 v2 a) (hb : Below a.heap.size a b) : EBt w B M n f M' n' f' v1 v2 b :=
  ⟨h.1.below hb h.1.lt, ⟨h.2.1.1.next hb, h.2.1.2.next hb⟩, h.2.2.trans (hb.mono h.2.2.size)⟩
theorem EBt.drew {w a : World} {B M n M' n' : Nat} {f f' : Int → Bool} {v1 v2 : Value} (h : EBt w B M n f M' n' f' v1 v2 a) : EBt w B M n f M' n' f' v1 v2 a.drew := h.next (below_drew (Below.refl _ _))
theorem mul_bd480 {x y : Int} (hx : 0 ≤ x ∧ x ≤ 480) (hy : 0 ≤ y ∧ y ≤ 480) : 0 ≤ x * y ∧ x * y ≤ 230400 :=
  ⟨Int.mul_nonneg hx.1 hy.1, by have := Int.mul_le_mul hx.2 hy.2 hy.1 (by omega); omega⟩
/-- What AreIndependent returns. -/
def areB (ps ws a b : List Int) : Bool := evB ps ws a && evB ps ws b
def areR (ps ws a b : List Int) : Bool := heavyT ps ws (fun x => inL a (x : Int) && inL b (x : Int)) * (sumsT ps ws).getD 0 0 == heavyT ps ws (fun x => inL a (x : Int)) * heavyT ps ws (fun x => inL b (x : Int))
def areV (ps ws a b : List Int) : Value := .tuple #[.bool (areB ps ws a b && areR ps ws a b), .bool (areB ps ws a b)]
theorem areV_form (ps ws a b : List Int) : ∃ x ok, areV ps ws a b = .tuple #[.bool x, .bool ok] := ⟨_, _, rfl⟩
set_option maxRecDepth 100000 in
set_option maxHeartbeats 4000000 in
theorem areI (ps ws a b : List Int) (v ua ub : Value) (w : World) (hla : a.length ≤ 1048576) (hlb : b.length ≤ 1048576) (h : TreeV w w.heap.size v ps ws) (ha : IntsV w w.heap.size ua a) (hb0 : IntsV w w.heap.size ub b) :
    Calls Try.prog 40 #[v, ua, ub] w (Gives (areV ps ws a b) w) := by
  have TV := Lib.hid h
  have AV := Lib.hid ha
  have BV := Lib.hid hb0
  have EA := Lib.hid (fun w' (hb : Below w.heap.size w w') => endSetI ps ws a v ua w' hla (h.boxed hb) ((ha.below hb).more hb.size))
  have EBS := Lib.hid (fun w' (hb : Below w.heap.size w w') => endSetI ps ws b v ub w' hlb (h.boxed hb) ((hb0.below hb).more hb.size))
  obtain ⟨p1, c1, p2, c2, rfl⟩ := h.shape
  obtain ⟨qa, da, rfl, _⟩ := ha
  obtain ⟨qb, db, rfl, _⟩ := hb0
  clear h
  have B1 := (Below.refl w.heap.size w).alloc (Nat.le_refl _) (.cells #[.slice p1 ps.length c1, .slice p2 ws.length c2] 29)
  obtain ⟨wa, hwa⟩ : ∃ wa, wa = w.alloc (.cells #[.slice p1 ps.length c1, .slice p2 ws.length c2] 29) := ⟨_, rfl⟩
  have T1 : Hid (TBox wa w.heap.size (.slice p1 ps.length c1) (.slice p2 ws.length c2)) := Lib.hid (by rw [hwa]; exact alloc_heap w _)
  rw [← hwa] at B1
  have HBA := Lib.hid B1
  clear B1
  obtain ⟨x0, x1⟩ := T1.out.cells
  go_enter Try.func40, Try.ntmps40
  go_wp2_with fail
  rw [← hwa]
  clear hwa
  refine (EA.out _ HBA.out).mono ?_
  rintro e w1 ⟨b1, hA⟩
  have HB1 := Lib.hid (HBA.out.trans (b1.mono HBA.out.size))
  have T2 := Lib.hid (T1.out.below b1 T1.out.lt)
  clear b1 x0 x1 T1
  obtain ⟨x0, x1⟩ := T2.out.cells
  rcases hA with ⟨hevA, Ma, na, rfl, hMa, hmapA⟩ | ⟨hevA, rfl⟩
  · have HMA := Lib.hid hmapA
    have VA := Lib.hid hevA
    clear hMa hmapA hevA
    go_wp2_with fail
    refine (EBS.out _ HB1.out).mono ?_
    rintro e w2 ⟨b2, hB⟩
    have HB2 := Lib.hid (HB1.out.trans (b2.mono HB1.out.size))
    have T3 := Lib.hid (T2.out.below b2 T2.out.lt)
    have HMA2 := Lib.hid (HMA.out.next b2)
    clear b2 x0 x1 T2 HMA
    obtain ⟨x0, x1⟩ := T3.out.cells
    rcases hB with ⟨hevB, Mb, nb, rfl, hMb, hmapB⟩ | ⟨hevB, rfl⟩
    · have HMB := Lib.hid hmapB
      have VB := Lib.hid hevB
      clear hMb hmapB hevB
      have EAV := Lib.hid (evB_iff.1 VA.out)
      have EB := Lib.hid (evB_iff.1 VB.out)
      have HE1 := Lib.hid (show EBt w w.heap.size Ma na (inL a) Mb nb (inL b) (.slice p1 ps.length c1) (.slice p2 ws.length c2) w2 from ⟨T3.out, ⟨HMA2.out, HMB.out⟩, HB2.out⟩)
      have CV : Hid (areV ps ws a b = .tuple #[.bool (heavyT ps ws (fun x => inL a (x : Int) && inL b (x : Int)) * (sumsT ps ws).getD 0 0 == heavyT ps ws (fun x => inL a (x : Int)) * heavyT ps ws (fun x => inL b (x : Int))), .bool true]) := Lib.hid (by unfold areV areB areR; rw [VA.out, VB.out]; rfl)
      have CA : Hid (∀ w', Hid (EBt w w.heap.size Ma na (inL a) Mb nb (inL b) (.slice p1 ps.length c1) (.slice p2 ws.length c2) w') → Calls Try.prog 72 #[.agg #[.slice p1 ps.length c1, .slice p2 ws.length c2], .map (some Ma)] w' (Gives (.int .i64 (heavyT ps ws (fun x => inL a (x : Int)))) w')) := Lib.hid (fun w' he => wtI ps ws _ Ma na (inL a) w' EB.out.good (TV.out.boxed he.out.2.2) he.out.2.1.1)
      have CB : Hid (∀ w', Hid (EBt w w.heap.size Ma na (inL a) Mb nb (inL b) (.slice p1 ps.length c1) (.slice p2 ws.length c2) w') → Calls Try.prog 72 #[.agg #[.slice p1 ps.length c1, .slice p2 ws.length c2], .map (some Mb)] w' (Gives (.int .i64 (heavyT ps ws (fun x => inL b (x : Int)))) w')) := Lib.hid (fun w' he => wtI ps ws _ Mb nb (inL b) w' EB.out.good (TV.out.boxed he.out.2.2) he.out.2.1.2)
      have CC : Hid (∀ w', Hid (EBt w w.heap.size Ma na (inL a) Mb nb (inL b) (.slice p1 ps.length c1) (.slice p2 ws.length c2) w') → Calls Try.prog 75 #[.agg #[.slice p1 ps.length c1, .slice p2 ws.length c2], .map (some Ma), .map (some Mb)] w' (Gives (.int .i64 (heavyT ps ws (fun x => inL a (x : Int) && inL b (x : Int)))) w')) := Lib.hid (fun w' he => wtBothI ps ws _ Ma na Mb nb (inL a) (inL b) w' EB.out.good (TV.out.boxed he.out.2.2) he.out.2.1.1 he.out.2.1.2)
      have CD : Hid (∀ w', Hid (EBt w w.heap.size Ma na (inL a) Mb nb (inL b) (.slice p1 ps.length c1) (.slice p2 ws.length c2) w') → Calls Try.prog 73 #[.agg #[.slice p1 ps.length c1, .slice p2 ws.length c2]] w' (Gives (.int .i64 ((sumsT ps ws).getD 0 0)) w')) := Lib.hid (fun w' he => wtAllI ps ws _ w' EB.out.good (TV.out.boxed he.out.2.2))
      have M1 := Lib.hid (mul_bd480 (heavy_bd EB.out.good (fun x => inL a (x : Int) && inL b (x : Int))) (show 0 ≤ (sumsT ps ws).getD 0 0 ∧ (sumsT ps ws).getD 0 0 ≤ 480 by have := sumsT_root EB.out.good; have := sumsT_bd EB.out.good 0 (by have := EB.out.good.n1; omega); omega))
      have M2 := Lib.hid (mul_bd480 (heavy_bd EB.out.good (fun x => inL a (x : Int))) (heavy_bd EB.out.good (fun x => inL b (x : Int))))
      obtain ⟨hAB, e1⟩ : ∃ z, z = heavyT ps ws (fun x => inL a (x : Int) && inL b (x : Int)) := ⟨_, rfl⟩
      obtain ⟨hA, e2⟩ : ∃ z, z = heavyT ps ws (fun x => inL a (x : Int)) := ⟨_, rfl⟩
      obtain ⟨hB, e3⟩ : ∃ z, z = heavyT ps ws (fun x => inL b (x : Int)) := ⟨_, rfl⟩
      obtain ⟨sa, e4⟩ : ∃ z, z = (sumsT ps ws).getD 0 0 := ⟨_, rfl⟩
      rw [← e1] at CC CV M1
      rw [← e2] at CA CV M2
      rw [← e3] at CB CV M2
      rw [← e4] at CD CV M1
      have KC : Hid (∀ w', Hid (EBt w w.heap.size Ma na (inL a) Mb nb (inL b) (.slice p1 ps.length c1) (.slice p2 ws.length c2) w') → w'.cell? ⟨w.heap.size, 0, none⟩ = some (.slice p1 ps.length c1) ∧ w'.cell? ⟨w.heap.size, 1, none⟩ = some (.slice p2 ws.length c2)) := Lib.hid (fun w' he => he.out.1.cells)
      have HD := Lib.hid HE1.out.drew
      clear x0 x1 T3 e1 e2 e3 e4
      obtain ⟨x0, x1⟩ := KC.out _ HE1
      obtain ⟨r, hr⟩ : ∃ r, (hAB * sa == hA * hB) = r := ⟨_, rfl⟩
      rw [hr] at CV
      have W1 : IntKind.i64.wrap (hAB * sa) = hAB * sa := IntWalk.i64_in _ (by have := M1.out; omega)
      have W2 : IntKind.i64.wrap (hA * hB) = hA * hB := IntWalk.i64_in _ (by have := M2.out; omega)
      go_wp2_with fail
      go_region_held3 (fun w' => w'.cell? ⟨w.heap.size, 0, none⟩ = some (.slice p1 ps.length c1) ∧ w'.cell? ⟨w.heap.size, 1, none⟩ = some (.slice p2 ws.length c2))
        (first | exact KC.out _ HD | exact KC.out _ (by assumption) | go_keep)
        (first
          | (go_at_call 72; (with_reducible refine (CA.out _ (by assumption)).mono ?_); rintro e w8 ⟨rfl, b8⟩; (have HE8 := Lib.hid (EBt.next (Hid.out (by assumption)) b8)); clear b8)
          | (go_at_call 72; (with_reducible refine (CB.out _ (by assumption)).mono ?_); rintro e w8 ⟨rfl, b8⟩; (have HE8 := Lib.hid (EBt.next (Hid.out (by assumption)) b8)); clear b8)
          | (go_at_call 75; (with_reducible refine (CC.out _ (by assumption)).mono ?_); rintro e w8 ⟨rfl, b8⟩; (have HE8 := Lib.hid (EBt.next (Hid.out (by assumption)) b8)); clear b8)
          | (go_at_call 73; (with_reducible refine (CD.out _ (by assumption)).mono ?_); rintro e w8 ⟨rfl, b8⟩; (have HE8 := Lib.hid (EBt.next (Hid.out (by assumption)) b8)); clear b8))
      all_goals
        clear W1 W2
        go_wp2_with fail
        go_ret2
        refine ⟨?_, ?_⟩
        · rw [CV.out]; rfl
        · first | exact (Hid.out (by assumption) : EBt w w.heap.size Ma na (inL a) Mb nb (inL b) (.slice p1 ps.length c1) (.slice p2 ws.length c2) _).2.2
    · have CV : Hid (areV ps ws a b = .tuple #[.bool false, .bool false]) := Lib.hid (by unfold areV areB; rw [hevB, Bool.and_false]; rfl)
      clear hevB x0 x1
      go_wp2_with fail
      go_ret2
      exact ⟨by rw [CV.out]; rfl, HB2.out⟩
  · have CV : Hid (areV ps ws a b = .tuple #[.bool false, .bool false]) := Lib.hid (by unfold areV areB; rw [hevA, Bool.false_and]; rfl)
    clear hevA
    go_wp2_with fail
    refine (EBS.out _ HB1.out).mono ?_
    rintro e w2 ⟨b2, hB⟩
    have HB2 := Lib.hid (HB1.out.trans (b2.mono HB1.out.size))
    clear b2 x0 x1 T2
    rcases hB with ⟨_, Mb, nb, rfl, _, _⟩ | ⟨_, rfl⟩
    · go_wp2_with fail
      go_ret2
      exact ⟨by rw [CV.out]; rfl, HB2.out⟩
    · go_wp2_with fail
      go_ret2
      exact ⟨by rw [CV.out]; rfl, HB2.out⟩
end Go.Proofs.Ytfnnlkbecnjloab
