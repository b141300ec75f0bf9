/- The least node that is not even, in the program. -/
import Derived.Test.YtamneibnjbimeaaSidI
namespace Go.Proofs.Ytamneibnjbimeaa
open Go.RowKit
set_option linter.unusedVariables false
/-- A value of three numbers. -/
def V3 (a b c : Nat) : Value := .agg #[.int .i64 (a : Int), .int .i64 (b : Int), .int .i64 (c : Int)]
def PredS (g : Nat) (A : Nat → Nat → Nat) (q : Nat → Bool) (n : Nat) : Prop :=
  ∀ (W : World) (k : Nat), k < n → Calls Try.prog g #[V3 (A k 0) (A k 1) (A k 2)] W fun e w' => e = .returned (.bool (q k)) ∧ Below W.heap.size W w'
set_option maxHeartbeats 2000000 in
theorem indexS (n gm c : Nat) (A : Nat → Nat → Nat) (g : Nat) (q : Nat → Bool) (w : World) (eg : ∀ args w, (callFunc g args).run Try.prog w = .ok (.enter g args) w)
    (hn : n ≤ 1048576) (hg : gm < w.heap.size) (hc : ∀ j f, j < n → f < 3 → w.cell? ⟨gm, j * 3 + f, none⟩ = some (.int .i64 (A j f : Nat))) (hp : PredS g A q n) :
    Calls Try.prog 58 #[.slice (some ⟨gm, 0, none⟩) n c, .func (.func g) #[] #[]] w (Gives (.int .i64 (fstU q n)) w) := by
  have E1 := Lib.hid hc
  have PP := Lib.hid hp
  have HG := Lib.hid hg
  clear hp hc hg
  have FM := Lib.hid (fun h => fstU_miss (B := q) (n := n) h)
  have FH := Lib.hid (fun k hk h hl => fstU_hit (B := q) (n := n) (k := k) hk h hl)
  obtain ⟨r, hr⟩ : ∃ r, r = fstU q n := ⟨_, rfl⟩
  rw [← hr] at FM FH ⊢
  clear hr
  go_enter Try.func58, Try.ntmps58
  go_wp2
  go_loopw [8] (fun i wr => ∃ k : Nat, k ≤ n ∧ i = .int .i64 k ∧ Hid (∀ j, j < k → q j = false) ∧ Hid (Below w.heap.size w wr)) (fun i _ => n - (intOf i).toNat)
  case atStart => exact ⟨0, Nat.zero_le _, rfl, Lib.hid (fun j hj => by omega), Lib.hid (Below.refl _ _)⟩
  case round =>
    obtain ⟨k, hk, rfl, HA, HB⟩ := hrel
    by_cases hlt : k < n
    · have m0 : wr.cell? ⟨gm, k * 3, none⟩ = some (.int .i64 (A k 0 : Nat)) := by rw [HB.out.cell (p := ⟨gm, k * 3, none⟩) HG.out]; exact E1.out k 0 hlt (by omega)
      have m1 : wr.cell? ⟨gm, k * 3 + 1, none⟩ = some (.int .i64 (A k 1 : Nat)) := by rw [HB.out.cell (p := ⟨gm, k * 3 + 1, none⟩) HG.out]; exact E1.out k 1 hlt (by omega)
      have m2 : wr.cell? ⟨gm, k * 3 + 2, none⟩ = some (.int .i64 (A k 2 : Nat)) := by rw [HB.out.cell (p := ⟨gm, k * 3 + 2, none⟩) HG.out]; exact E1.out k 2 hlt (by omega)
      have C := Lib.hid (fun w => PP.out w k hlt)
      unfold V3 at C
      have i0 : (0 : Int) ≤ (k : Int) := by omega
      have i1 : (k : Int) < (n : Int) := by omega
      have HIT := Lib.hid (fun h => FH.out k hlt h HA.out)
      have NX : Hid (q k = false → ∀ j, j < k + 1 → q j = false) := Lib.hid (fun h j hj => by
        rcases Nat.lt_or_ge j k with h' | h'
        · exact HA.out j h'
        · obtain rfl : j = k := by omega
          exact h)
      obtain ⟨a, ha⟩ : ∃ z, z = A k 0 := ⟨_, rfl⟩
      obtain ⟨b, hb⟩ : ∃ z, z = A k 1 := ⟨_, rfl⟩
      obtain ⟨c', hc'⟩ : ∃ z, z = A k 2 := ⟨_, rfl⟩
      rw [← ha] at m0 C
      rw [← hb] at m1 C
      rw [← hc'] at m2 C
      clear ha hb hc' HA
      obtain ⟨t, ht⟩ : ∃ t, t = q k := ⟨_, rfl⟩
      rw [← ht] at C HIT NX
      clear ht
      cases t
      · have N2 := Lib.hid (NX.out rfl)
        clear HIT NX
        go_wp2_with (go_at_fn g; refine (C.out _).mono ?_; rintro e w1 ⟨rfl, b1⟩)
        have HB1 := Lib.hid (HB.out.trans (b1.mono HB.out.size))
        clear b1
        go_roundw
        case rel => exact ⟨k + 1, by omega, by go_num, N2, HB1⟩
        case measure => simp [intOf]; omega
      · have N2 := Lib.hid (HIT.out rfl)
        clear HIT NX
        go_wp2_with (go_at_fn g; refine (C.out _).mono ?_; rintro e w1 ⟨rfl, b1⟩)
        have HB1 := Lib.hid (HB.out.trans (b1.mono HB.out.size))
        clear b1
        go_ret
        exact ⟨by rw [N2.out]; rfl, HB1.out⟩
    · have R := Lib.hid (FM.out (fun j hj => HA.out j (by omega)))
      clear HA
      go_wp2
      go_ret
      exact ⟨by rw [R.out]; rfl, HB.out⟩
/-- Whether sides are even. -/
def evSB (a c : Nat) : Bool := (decide (0 < a)) == (decide (0 < c))
set_option maxHeartbeats 4000000 in
theorem evenI (a b c : Nat) (w : World) (ha : a ≤ 24) (hb : b ≤ 24) (hc : c ≤ 24) :
    Calls Try.prog 61 #[V3 a b c] w (Gives (.bool (evSB a c)) w) := by
  have B1 := Lib.hid ((Below.refl w.heap.size w).alloc (Nat.le_refl _) (.cells #[.int .i64 (a : Int), .int .i64 (b : Int), .int .i64 (c : Int)] 69))
  have E : Hid (evSB a c = ((decide (0 < a)) == (decide (0 < c)))) := Lib.hid rfl
  unfold V3
  by_cases h1 : a = 0
  · subst h1
    by_cases h2 : c = 0
    · subst h2
      go_enter Try.func61, Try.ntmps61
      go_wp2_with fail
      go_ret
      exact ⟨ret_b (by rw [E.out]; rfl), B1.out⟩
    · have h3 : ((c : Int) == 0) = false := by simpa using h2
      have h4 : 0 < (c : Int) := by omega
      have R : Hid (evSB 0 c = false) := Lib.hid (by rw [E.out, decide_eq_true (show 0 < c by omega)]; rfl)
      go_enter Try.func61, Try.ntmps61
      go_wp2_with fail
      go_ret
      exact ⟨ret_b R.out, B1.out⟩
  · have h3 : ((a : Int) == 0) = false := by simpa using h1
    have h4 : 0 < (a : Int) := by omega
    by_cases h2 : c = 0
    · subst h2
      have R : Hid (evSB a 0 = false) := Lib.hid (by rw [E.out, decide_eq_true (show 0 < a by omega)]; rfl)
      go_enter Try.func61, Try.ntmps61
      go_wp2_with fail
      go_ret
      exact ⟨ret_b R.out, B1.out⟩
    · have h5 : ((c : Int) == 0) = false := by simpa using h2
      have h6 : 0 < (c : Int) := by omega
      have R : Hid (evSB a c = decide (0 < c)) := Lib.hid (by rw [E.out, decide_eq_true (show 0 < a by omega)]; cases decide (0 < c) <;> rfl)
      go_enter Try.func61, Try.ntmps61
      go_wp2_with fail
      go_ret
      exact ⟨ret_b R.out, B1.out⟩
set_option maxHeartbeats 2000000 in
theorem unPred (A : Nat → Nat → Nat) (n : Nat) (hA : ∀ k f, A k f ≤ 24) : PredS 60 A (fun k => !evSB (A k 0) (A k 2)) n := by
  intro W k hk
  have E := Lib.hid (fun w => evenI (A k 0) (A k 1) (A k 2) w (hA k 0) (hA k 1) (hA k 2))
  unfold V3 at E ⊢
  dsimp only
  generalize evSB (A k 0) (A k 2) = t at *
  generalize A k 0 = a at *
  generalize A k 1 = b at *
  generalize A k 2 = c at *
  clear hA
  have B1 := Lib.hid ((Below.refl W.heap.size W).alloc (Nat.le_refl _) (.cells #[.int .i64 (a : Int), .int .i64 (b : Int), .int .i64 (c : Int)] 69))
  go_enter Try.func60, Try.ntmps60
  go_wp2_with fail
  refine (E.out _).mono ?_
  rintro e w1 ⟨rfl, b1⟩
  have HB1 := Lib.hid (B1.out.trans (b1.mono B1.out.size))
  clear b1
  go_wp2_with fail
  go_ret
  exact ⟨rfl, HB1.out⟩
theorem un_ev (ps cs : List Int) (x : Nat) : (!evSB (sdN ps cs x 0 ps.length) (sdN ps cs x 2 ps.length)) = unB ps cs x := by
  unfold evSB unB
  cases decide (0 < sdN ps cs x 0 ps.length) <;> cases decide (0 < sdN ps cs x 2 ps.length) <;> rfl
set_option maxRecDepth 100000 in
set_option maxHeartbeats 4000000 in
theorem unevenI (ps ws cs : List Int) (v : Value) (w : World) (hn : cs.length ≤ 1048576) (h : MktV w w.heap.size v ps ws cs) :
    Calls Try.prog 29 #[v] w (Gives (unV ps ws cs) w) := by
  have G := Lib.hid (fun w' (hb : Below w.heap.size w w') => isMktI ps ws cs v w' hn (h.boxed hb))
  have SC := Lib.hid (fun (mk : Mkt ps ws cs) w' (hb : Below w.heap.size w w') => sidesI ps ws cs v w' mk (h.boxed hb))
  obtain ⟨p1, c1, p2, c2, p3, c3, rfl⟩ := h.shape
  clear h
  have UV : Hid (unV ps ws cs = if (goodM ps ws cs && decide (0 ≤ unI ps cs)) = true then .tuple #[.int .i64 (unI ps cs), .bool true] else .tuple #[.int .i64 0, .bool false]) := Lib.hid rfl
  have B1 := Lib.hid ((Below.refl w.heap.size w).alloc (Nat.le_refl _) (.cells #[.slice p1 ps.length c1, .slice p2 ws.length c2, .slice p3 cs.length c3] 31))
  have T1 := Lib.hid (show KBox (w.alloc (.cells #[.slice p1 ps.length c1, .slice p2 ws.length c2, .slice p3 cs.length c3] 31)) w.heap.size (.slice p1 ps.length c1) (.slice p2 ws.length c2) (.slice p3 cs.length c3) from alloc_heap w _)
  obtain ⟨wa, hwa⟩ : ∃ wa, wa = w.alloc (.cells #[.slice p1 ps.length c1, .slice p2 ws.length c2, .slice p3 cs.length c3] 31) := ⟨_, rfl⟩
  rw [← hwa] at B1 T1
  obtain ⟨x0, x1, x2⟩ := T1.out.cells
  cases hg : goodM ps ws cs
  · rw [hg, Bool.false_and, if_neg (by decide)] at UV
    rw [hg] at G
    rw [UV.out]
    clear hg UV SC
    go_enter Try.func29, Try.ntmps29
    go_wp2_with fail
    rw [← hwa]
    clear hwa
    refine (G.out _ B1.out).mono ?_
    rintro e w1 ⟨rfl, b1⟩
    have HB1 := Lib.hid (B1.out.trans (b1.mono B1.out.size))
    clear b1
    go_wp2_with fail
    go_ret2
    exact ⟨rfl, HB1.out⟩
  · have mk := goodM_iff.1 hg
    have SC2 := Lib.hid (SC.out mk)
    have n24 := mk.good.n24
    have LE := Lib.hid (fun x f => show sdN ps cs x f ps.length ≤ 24 by have := sdN_le ps cs x f ps.length; have := mk.good.n24; omega)
    have AT := Lib.hid (fun (x f : Nat) (hx : x < ps.length) (hf : f < 3) => sdV_at ps cs (n := ps.length) (k := ps.length) hx hf)
    have EQ : Hid (fstU (fun k => !evSB (sdN ps cs k 0 ps.length) (sdN ps cs k 2 ps.length)) ps.length = unI ps cs) := Lib.hid (fstU_congr (fun j _ => un_ev ps cs j))
    have CAS := fstU_cases (unB ps cs) ps.length
    rw [show fstU (unB ps cs) ps.length = unI ps cs from rfl] at CAS
    rw [hg, Bool.true_and] at UV
    rw [hg] at G
    have BD : -1 ≤ unI ps cs ∧ unI ps cs ≤ 24 := by
      rcases CAS with ⟨h, _⟩ | ⟨k, hk, h, _⟩ <;> omega
    obtain ⟨r, hr⟩ : ∃ r, r = unI ps cs := ⟨_, rfl⟩
    rw [← hr] at UV EQ BD
    clear hg SC mk CAS hr
    obtain ⟨bd1, bd2⟩ := BD
    by_cases h0 : 0 ≤ r
    · rw [decide_eq_true h0, if_pos rfl] at UV
      rw [UV.out]
      go_enter Try.func29, Try.ntmps29
      go_wp2_with fail
      rw [← hwa]
      clear hwa
      refine (G.out _ B1.out).mono ?_
      rintro e w1 ⟨rfl, b1⟩
      have HB1 := Lib.hid (B1.out.trans (b1.mono B1.out.size))
      obtain ⟨y0, y1, y2⟩ := (T1.out.below b1 T1.out.lt).cells
      clear b1 x0 x1 x2
      go_wp2_with fail
      refine (SC2.out _ HB1.out).mono ?_
      rintro e w2 ⟨g, rfl, hg1, hg2, b2⟩
      have HB2 := Lib.hid (HB1.out.trans (b2.mono HB1.out.size))
      have IX := Lib.hid (indexS ps.length g ps.length (fun x f => sdN ps cs x f ps.length) 60 _ w2 (enters_of Try.func60 (by kernel_rfl) rfl) (by omega) (Array.getElem?_eq_some_iff.1 hg2).1 (fun j f hj hf => (sd_cell hg2 (AT.out j f hj hf)).1) (unPred _ _ LE.out))
      rw [EQ.out] at IX
      clear hg1 hg2 b2 y0 y1 y2
      go_wp2_with fail
      refine IX.out.mono ?_
      rintro e w3 ⟨rfl, b3⟩
      have HB3 := Lib.hid (HB2.out.trans (b3.mono HB2.out.size))
      clear b3
      go_wp2_with fail
      go_ret2
      refine ⟨?_, HB3.out⟩
      simp; omega
    · rw [decide_eq_false h0, if_neg (by decide)] at UV
      rw [UV.out]
      go_enter Try.func29, Try.ntmps29
      go_wp2_with fail
      rw [← hwa]
      clear hwa
      refine (G.out _ B1.out).mono ?_
      rintro e w1 ⟨rfl, b1⟩
      have HB1 := Lib.hid (B1.out.trans (b1.mono B1.out.size))
      obtain ⟨y0, y1, y2⟩ := (T1.out.below b1 T1.out.lt).cells
      clear b1 x0 x1 x2
      go_wp2_with fail
      refine (SC2.out _ HB1.out).mono ?_
      rintro e w2 ⟨g, rfl, hg1, hg2, b2⟩
      have HB2 := Lib.hid (HB1.out.trans (b2.mono HB1.out.size))
      have IX := Lib.hid (indexS ps.length g ps.length (fun x f => sdN ps cs x f ps.length) 60 _ w2 (enters_of Try.func60 (by kernel_rfl) rfl) (by omega) (Array.getElem?_eq_some_iff.1 hg2).1 (fun j f hj hf => (sd_cell hg2 (AT.out j f hj hf)).1) (unPred _ _ LE.out))
      rw [EQ.out] at IX
      clear hg1 hg2 b2 y0 y1 y2
      go_wp2_with fail
      refine IX.out.mono ?_
      rintro e w3 ⟨rfl, b3⟩
      have HB3 := Lib.hid (HB2.out.trans (b3.mono HB2.out.size))
      clear b3
      go_wp2_with fail
      go_ret2
      refine ⟨?_, HB3.out⟩
      simp; omega
end Go.Proofs.Ytamneibnjbimeaa
