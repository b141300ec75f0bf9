/- Whether a market is full, in the program. -/
import Derived.Test.YtamneibnjbimeaaUnvI
namespace Go.Proofs.Ytamneibnjbimeaa
open Go.RowKit
set_option linter.unusedVariables false
def fullB (a b c : Nat) : Bool := decide ((a = 0 ∧ b = 0 ∧ c = 0) ∨ (a = 0 ∧ b = 1 ∧ c = 0) ∨ (a = 1 ∧ b = 0 ∧ c = 1))
def fuM (a b c : Nat) : Bool := !(decide (1 < a ∨ 1 < c ∨ (0 < b ∧ 1 < a + b + c)))
theorem full_fu {a b c : Nat} (h : evSB a c = true) : fullB a b c = fuM a b c := by
  unfold evSB at h
  rw [beq_iff_eq, Bool.eq_iff_iff, decide_eq_true_iff, decide_eq_true_iff] at h
  unfold fullB fuM
  rw [Bool.eq_iff_iff, decide_eq_true_iff, Bool.not_eq_true', decide_eq_false_iff_not]
  omega
def soundB (ps ws cs : List Int) : Bool := goodM ps ws cs && decide (unI ps cs < 0)
def nfB (ps cs : List Int) (k : Nat) : Bool := !fuM (sdN ps cs k 0 ps.length) (sdN ps cs k 1 ps.length) (sdN ps cs k 2 ps.length)
/-- The least node that is not full, or -1. -/
def fuI (ps cs : List Int) : Int := fstU (nfB ps cs) ps.length
def fullV (ps ws cs : List Int) : Value := if soundB ps ws cs = true then .tuple #[.bool (!decide (0 ≤ fuI ps cs)), .bool true] else .tuple #[.bool false, .bool false]
theorem fullV_form (ps ws cs : List Int) : ∃ k ok, fullV ps ws cs = .tuple #[.bool k, .bool ok] := by
  unfold fullV; split <;> exact ⟨_, _, rfl⟩
theorem sound_even {ps ws cs : List Int} (h : soundB ps ws cs = true) {k : Nat} (hk : k < ps.length) : evSB (sdN ps cs k 0 ps.length) (sdN ps cs k 2 ps.length) = true := by
  unfold soundB at h
  rw [Bool.and_eq_true, decide_eq_true_iff] at h
  have h2 := un_ev ps cs k
  rcases fstU_cases (unB ps cs) ps.length with ⟨_, hh⟩ | ⟨j, _, e, _⟩
  · rw [hh k hk] at h2
    simpa using h2
  · have : unI ps cs = (j : Int) := e
    omega
set_option maxHeartbeats 4000000 in
theorem fullI (a b c : Nat) (w : World) :
    Calls Try.prog 67 #[V3 a b c] w (Gives (.bool (fullB a b c)) w) := by
  have B1 := Lib.hid ((Below.refl w.heap.size w).alloc (Nat.le_refl _) (.cells #[.int .i64 (a : Int), .int .i64 (b : Int), .int .i64 (c : Int)] 69))
  have ca : a = 0 ∨ a = 1 ∨ (((a : Int) == 0) = false ∧ ((a : Int) == 1) = false ∧ 2 ≤ a) := by
    rcases (show a = 0 ∨ a = 1 ∨ 2 ≤ a by omega) with h | h | h
    · exact .inl h
    · exact .inr (.inl h)
    · exact .inr (.inr ⟨by simp; omega, by simp; omega, h⟩)
  have cb : b = 0 ∨ b = 1 ∨ (((b : Int) == 0) = false ∧ ((b : Int) == 1) = false ∧ 2 ≤ b) := by
    rcases (show b = 0 ∨ b = 1 ∨ 2 ≤ b by omega) with h | h | h
    · exact .inl h
    · exact .inr (.inl h)
    · exact .inr (.inr ⟨by simp; omega, by simp; omega, h⟩)
  have cc : c = 0 ∨ c = 1 ∨ (((c : Int) == 0) = false ∧ ((c : Int) == 1) = false ∧ 2 ≤ c) := by
    rcases (show c = 0 ∨ c = 1 ∨ 2 ≤ c by omega) with h | h | h
    · exact .inl h
    · exact .inr (.inl h)
    · exact .inr (.inr ⟨by simp; omega, by simp; omega, h⟩)
  unfold V3
  rcases ca with rfl | rfl | ⟨a0, a1, a2⟩ <;> rcases cb with rfl | rfl | ⟨b0, b1, b2⟩ <;> rcases cc with rfl | rfl | ⟨c0, c1, c2⟩
  all_goals
    go_enter Try.func67, Try.ntmps67
    go_wp2_with fail
    go_ret
    first
      | exact ⟨ret_b (decide_eq_true (by omega)), B1.out⟩
      | exact ⟨ret_b (decide_eq_false (by omega)), B1.out⟩
set_option maxHeartbeats 2000000 in
theorem fuPred (A : Nat → Nat → Nat) (n : Nat) : PredS 66 A (fun k => !fullB (A k 0) (A k 1) (A k 2)) n := by
  intro W k hk
  have E := Lib.hid (fun w => fullI (A k 0) (A k 1) (A k 2) w)
  unfold V3 at E ⊢
  dsimp only
  generalize fullB (A k 0) (A k 1) (A k 2) = t at *
  generalize A k 0 = a at *
  generalize A k 1 = b at *
  generalize A k 2 = c at *
  have B1 := Lib.hid ((Below.refl W.heap.size W).alloc (Nat.le_refl _) (.cells #[.int .i64 (a : Int), .int .i64 (b : Int), .int .i64 (c : Int)] 69))
  go_enter Try.func66, Try.ntmps66
  go_wp2_with fail
  refine (E.out _).mono ?_
  rintro e w1 ⟨rfl, b1⟩
  have HB1 := Lib.hid (B1.out.trans (b1.mono B1.out.size))
  clear b1
  go_wp2_with fail
  go_ret
  exact ⟨rfl, HB1.out⟩
set_option maxHeartbeats 2000000 in
theorem containsS (n gm c : Nat) (A : Nat → Nat → Nat) (g : Nat) (q : Nat → Bool) (w : World) (eg : ∀ args w, (callFunc g args).run Try.prog w = .ok (.enter g args) w)
    (hn : n ≤ 1048576) (hg : gm < w.heap.size) (hc : ∀ j f, j < n → f < 3 → w.cell? ⟨gm, j * 3 + f, none⟩ = some (.int .i64 (A j f : Nat))) (hp : PredS g A q n) :
    Calls Try.prog 65 #[.slice (some ⟨gm, 0, none⟩) n c, .func (.func g) #[] #[]] w (Gives (.bool (decide (0 ≤ fstU q n))) w) := by
  have C := Lib.hid (indexS n gm c A g q w eg hn hg hc hp)
  clear hp hc
  generalize fstU q n = r at *
  go_enter Try.func65, Try.ntmps65
  go_wp2_with fail
  refine C.out.mono ?_
  rintro e w1 ⟨rfl, b1⟩
  have HB := Lib.hid b1
  clear b1
  go_wp2_with fail
  go_ret
  exact ⟨rfl, HB.out⟩
set_option maxHeartbeats 4000000 in
theorem soundI (ps ws cs : List Int) (v : Value) (w : World) (hn : cs.length ≤ 1048576) (h : MktV w w.heap.size v ps ws cs) :
    Calls Try.prog 64 #[v] w (Gives (.bool (soundB ps ws cs)) w) := by
  have G := Lib.hid (fun w' (hb : Below w.heap.size w w') => isMktI ps ws cs v w' hn (h.boxed hb))
  have UC := Lib.hid (fun w' (hb : Below w.heap.size w w') => unevenI ps ws cs v w' hn (h.boxed hb))
  have UV : Hid (unV ps ws cs = if (goodM ps ws cs && decide (0 ≤ unI ps cs)) = true then .tuple #[.int .i64 (unI ps cs), .bool true] else .tuple #[.int .i64 0, .bool false]) := Lib.hid rfl
  have SD : Hid (soundB ps ws cs = (goodM ps ws cs && decide (unI ps cs < 0))) := Lib.hid rfl
  have e1 : decide (unI ps cs < 0) = !decide (0 ≤ unI ps cs) := by rw [Bool.eq_iff_iff]; simp
  rw [e1] at SD
  obtain ⟨p1, c1, p2, c2, p3, c3, rfl⟩ := h.shape
  clear h e1
  have B1 := Lib.hid ((Below.refl w.heap.size w).alloc (Nat.le_refl _) (.cells #[.slice p1 ps.length c1, .slice p2 ws.length c2, .slice p3 cs.length c3] 31))
  have T1 := Lib.hid (show KBox (w.alloc (.cells #[.slice p1 ps.length c1, .slice p2 ws.length c2, .slice p3 cs.length c3] 31)) w.heap.size (.slice p1 ps.length c1) (.slice p2 ws.length c2) (.slice p3 cs.length c3) from alloc_heap w _)
  obtain ⟨wa, hwa⟩ : ∃ wa, wa = w.alloc (.cells #[.slice p1 ps.length c1, .slice p2 ws.length c2, .slice p3 cs.length c3] 31) := ⟨_, rfl⟩
  rw [← hwa] at B1 T1
  obtain ⟨x0, x1, x2⟩ := T1.out.cells
  generalize unI ps cs = r at *
  cases hg : goodM ps ws cs
  all_goals
    rw [hg] at G SD UV
    cases hr : decide (0 ≤ r)
    all_goals
      rw [hr] at SD UV
      first | rw [if_pos (by decide)] at UV | rw [if_neg (by decide)] at UV
      rw [UV.out] at UC
      rw [SD.out]
      clear hg hr SD UV
      go_enter Try.func64, Try.ntmps64
      go_wp2_with fail
      rw [← hwa]
      clear hwa
      refine (UC.out _ B1.out).mono ?_
      rintro e w1 ⟨rfl, b1⟩
      have HB1 := Lib.hid (B1.out.trans (b1.mono B1.out.size))
      obtain ⟨y0, y1, y2⟩ := (T1.out.below b1 T1.out.lt).cells
      clear b1 x0 x1 x2
      go_wp2_with fail
      refine (G.out _ HB1.out).mono ?_
      rintro e w2 ⟨rfl, b2⟩
      have HB2 := Lib.hid (HB1.out.trans (b2.mono HB1.out.size))
      clear b2
      go_wp2_with fail
      go_ret
      exact ⟨rfl, HB2.out⟩
set_option maxRecDepth 100000 in
set_option maxHeartbeats 4000000 in
theorem isFullI (ps ws cs : List Int) (v : Value) (w : World) (hn : cs.length ≤ 1048576) (h : MktV w w.heap.size v ps ws cs) :
    Calls Try.prog 33 #[v] w (Gives (fullV ps ws cs) w) := by
  have SO := Lib.hid (fun w' (hb : Below w.heap.size w w') => soundI ps ws cs v w' hn (h.boxed hb))
  have SC := Lib.hid (fun (mk : Mkt ps ws cs) w' (hb : Below w.heap.size w w') => sidesI ps ws cs v w' mk (h.boxed hb))
  obtain ⟨p1, c1, p2, c2, p3, c3, rfl⟩ := h.shape
  clear h
  have FV : Hid (fullV ps ws cs = if soundB ps ws cs = true then .tuple #[.bool (!decide (0 ≤ fuI ps cs)), .bool true] else .tuple #[.bool false, .bool false]) := Lib.hid rfl
  have B1 := Lib.hid ((Below.refl w.heap.size w).alloc (Nat.le_refl _) (.cells #[.slice p1 ps.length c1, .slice p2 ws.length c2, .slice p3 cs.length c3] 31))
  have T1 := Lib.hid (show KBox (w.alloc (.cells #[.slice p1 ps.length c1, .slice p2 ws.length c2, .slice p3 cs.length c3] 31)) w.heap.size (.slice p1 ps.length c1) (.slice p2 ws.length c2) (.slice p3 cs.length c3) from alloc_heap w _)
  obtain ⟨wa, hwa⟩ : ∃ wa, wa = w.alloc (.cells #[.slice p1 ps.length c1, .slice p2 ws.length c2, .slice p3 cs.length c3] 31) := ⟨_, rfl⟩
  rw [← hwa] at B1 T1
  obtain ⟨x0, x1, x2⟩ := T1.out.cells
  cases hg : soundB ps ws cs
  · rw [hg, if_neg (by decide)] at FV
    rw [hg] at SO
    rw [FV.out]
    clear hg FV SC
    go_enter Try.func33, Try.ntmps33
    go_wp2_with fail
    rw [← hwa]
    clear hwa
    refine (SO.out _ B1.out).mono ?_
    rintro e w1 ⟨rfl, b1⟩
    have HB1 := Lib.hid (B1.out.trans (b1.mono B1.out.size))
    clear b1
    go_wp2_with fail
    go_ret2
    exact ⟨rfl, HB1.out⟩
  · have hg2 := hg
    unfold soundB at hg2
    rw [Bool.and_eq_true] at hg2
    have mk := goodM_iff.1 hg2.1
    have SC2 := Lib.hid (SC.out mk)
    have n24 := mk.good.n24
    have AT := Lib.hid (fun (x f : Nat) (hx : x < ps.length) (hf : f < 3) => sdV_at ps cs (n := ps.length) (k := ps.length) hx hf)
    have EQ : Hid (fstU (fun k => !fullB (sdN ps cs k 0 ps.length) (sdN ps cs k 1 ps.length) (sdN ps cs k 2 ps.length)) ps.length = fuI ps cs) := Lib.hid (fstU_congr (fun j hj => by unfold nfB; rw [full_fu (sound_even hg hj)]))
    rw [hg, if_pos rfl] at FV
    rw [hg] at SO
    generalize fuI ps cs = r at *
    clear hg hg2 SC mk
    rw [FV.out]
    go_enter Try.func33, Try.ntmps33
    go_wp2_with fail
    rw [← hwa]
    clear hwa
    refine (SO.out _ B1.out).mono ?_
    rintro e w1 ⟨rfl, b1⟩
    have HB1 := Lib.hid (B1.out.trans (b1.mono B1.out.size))
    obtain ⟨y0, y1, y2⟩ := (T1.out.below b1 T1.out.lt).cells
    clear b1 x0 x1 x2
    go_wp2_with fail
    refine (SC2.out _ HB1.out).mono ?_
    rintro e w2 ⟨g, rfl, hg1, hg2, b2⟩
    have HB2 := Lib.hid (HB1.out.trans (b2.mono HB1.out.size))
    have IX := Lib.hid (containsS ps.length g ps.length (fun x f => sdN ps cs x f ps.length) 66 _ w2 (enters_of Try.func66 (by kernel_rfl) rfl) (by omega) (Array.getElem?_eq_some_iff.1 hg2).1 (fun j f hj hf => (sd_cell hg2 (AT.out j f hj hf)).1) (fuPred _ _))
    rw [EQ.out] at IX
    clear hg1 hg2 b2 y0 y1 y2
    go_wp2_with fail
    refine IX.out.mono ?_
    rintro e w3 ⟨rfl, b3⟩
    have HB3 := Lib.hid (HB2.out.trans (b3.mono HB2.out.size))
    clear b3
    go_wp2_with fail
    go_ret2
    exact ⟨by simp, HB3.out⟩
end Go.Proofs.Ytamneibnjbimeaa
