/- Lists of a size whose numbers lie within bounds, and processes, in the program. -/
import Derived.Test.YtligidmkhbcpmacLawT
import Derived.Test.YtligidmkhbcpmacDepthP
namespace Go.Proofs.Ytligidmkhbcpmac
open Go.RowKit
set_option linter.unusedVariables false
/-- All numbers of a list lie within bounds. -/
def withinB (m : Int) (zs : List Int) : Bool := zs.all fun z => decide (-m ≤ z ∧ z ≤ m)
theorem getD_mem {zs : List Int} {i : Nat} (hi : i < zs.length) : zs.getD i 0 ∈ zs := by
  rw [List.getD_eq_getElem?_getD, List.getElem?_eq_getElem hi]; exact List.getElem_mem hi
theorem within_at {m : Int} {zs : List Int} (h : withinB m zs = true) {i : Nat} (hi : i < zs.length) : -m ≤ zs.getD i 0 ∧ zs.getD i 0 ≤ m := by
  unfold withinB at h
  rw [List.all_eq_true] at h
  exact of_decide_eq_true (h _ (getD_mem hi))
theorem within_yes {m : Int} {zs : List Int} (h : ∀ i, i < zs.length → -m ≤ zs.getD i 0 ∧ zs.getD i 0 ≤ m) : withinB m zs = true := by
  unfold withinB
  rw [List.all_eq_true]
  intro z hz
  obtain ⟨i, hi, e⟩ := List.getElem_of_mem hz
  have := h i hi
  rw [List.getD_eq_getElem?_getD, List.getElem?_eq_getElem hi] at this
  rw [decide_eq_true_iff, ← e]; exact this
theorem within_no {m : Int} {zs : List Int} {i : Nat} (hi : i < zs.length) (h : ¬ (-m ≤ zs.getD i 0 ∧ zs.getD i 0 ≤ m)) : withinB m zs = false := by
  cases hb : withinB m zs
  · rfl
  · exact absurd (within_at hb hi) h
/-- A process of a valid tree. -/
def procB (ps ws zs : List Int) : Bool := goodT ps ws && (decide (zs.length = ps.length) && withinB 999 zs)
structure Proc (ps ws zs : List Int) : Prop where
  good : Good ps ws
  len : zs.length = ps.length
  bd : ∀ i, i < zs.length → -999 ≤ zs.getD i 0 ∧ zs.getD i 0 ≤ 999
theorem procB_iff {ps ws zs : List Int} : procB ps ws zs = true ↔ Proc ps ws zs := by
  unfold procB
  rw [Bool.and_eq_true, Bool.and_eq_true, decide_eq_true_iff]
  constructor
  · rintro ⟨a, b, c⟩; exact ⟨Good.of a, b, fun i hi => within_at c hi⟩
  · intro p; exact ⟨(goodT_iff _ _).2 p.good, p.len, within_yes p.bd⟩
/-- A number outside of bounds. -/
def outB (m z : Int) : Bool := decide (z < -m) || decide (m < z)
theorem any_out (m : Int) (zs : List Int) : zs.any (outB m) = !withinB m zs := by
  unfold withinB outB
  rw [List.not_all_eq_any_not]
  congr 1
  funext z
  rw [Bool.eq_iff_iff]
  simp
/-- What is asked of a test of numbers that is handed over. -/
def PredZ (g : Nat) (lb : Array Value) (p : Int → Bool) (zs : List Int) (w : World) : Prop :=
  ∀ (W : World) (z : Int), z ∈ zs → Below w.heap.size w W → Calls Try.prog g (#[.int .i64 z] ++ lb) W fun e w' => e = .returned (.bool (p z)) ∧ Below W.heap.size W w'
theorem any_hit {p : Int → Bool} {zs : List Int} {k : Nat} (hk : k < zs.length) (h : p (zs.getD k 0) = true) : zs.any p = true := List.any_eq_true.2 ⟨_, getD_mem hk, h⟩
theorem any_miss {p : Int → Bool} {zs : List Int} (h : ∀ j, j < zs.length → p (zs.getD j 0) = false) : zs.any p = false := by
  rw [List.any_eq_false]
  intro z hz
  obtain ⟨i, hi, e⟩ := List.getElem_of_mem hz
  have := h i hi
  rw [List.getD_eq_getElem?_getD, List.getElem?_eq_getElem hi] at this
  rw [← e]; simpa using this
set_option maxHeartbeats 2000000 in
theorem indexI (zs : List Int) (v : Value) (g : Nat) (lb : Array Value) (p : Int → Bool) (w : World) (eg : ∀ args w, (callFunc g args).run Try.prog w = .ok (.enter g args) w)
    (hn : zs.length ≤ 1048576) (h : IntsV w w.heap.size v zs) (hp : PredZ g lb p zs w) :
    Calls Try.prog 206 #[v, .func (.func g) #[] lb] w fun e w' => ∃ k : Int, e = .returned (.int .i64 k) ∧ -1 ≤ k ∧ k ≤ 1048576 ∧ decide (0 ≤ k) = zs.any p ∧ Below w.heap.size w w' := by
  obtain ⟨q, cq, rfl, lq, mq, zq, iq⟩ := h
  have E1 := Lib.hid iq
  have PP := Lib.hid hp
  clear iq zq mq hp
  go_enter Try.func206, Try.ntmps206
  go_wp2
  go_loopw [8] (fun i wr => ∃ k : Nat, k ≤ zs.length ∧ i = .int .i64 k ∧ Hid (∀ j, j < k → p (zs.getD j 0) = false) ∧ Hid (Below w.heap.size w wr)) (fun i _ => zs.length - (intOf i).toNat)
  case atStart => exact ⟨0, Nat.zero_le _, rfl, Lib.hid (fun j hj => by omega), Lib.hid (Below.refl _ _)⟩
  case round =>
    obtain ⟨k, hk, rfl, HA, HB⟩ := hrel
    by_cases hlt : k < zs.length
    · obtain ⟨b, off, rfl, hb, hc⟩ := E1.out.get hlt
      have hcw : wr.cell? ⟨b, off + k, none⟩ = some (.int .i64 (zs.getD k 0)) := by rw [HB.out.cell (p := ⟨b, off + k, none⟩) hb]; exact hc
      have C := Lib.hid (PP.out wr (zs.getD k 0) (getD_mem hlt) HB.out)
      have i0 : (0 : Int) ≤ (k : Int) := by omega
      have i1 : (k : Int) < (zs.length : Int) := by omega
      have HIT := Lib.hid (any_hit (p := p) hlt)
      have NX : Hid (p (zs.getD k 0) = false → ∀ j, j < k + 1 → p (zs.getD j 0) = false) := Lib.hid (fun h j hj => by
        rcases Nat.lt_or_ge j k with h' | h'
        · exact HA.out j h'
        · obtain rfl : j = k := by omega
          exact h)
      obtain ⟨z, hz⟩ : ∃ z, z = zs.getD k 0 := ⟨_, rfl⟩
      rw [← hz] at hcw C HIT NX
      clear hc hz HA
      obtain ⟨t, ht⟩ : ∃ t, t = p z := ⟨_, rfl⟩
      rw [← ht] at C HIT NX
      clear ht
      cases t
      · have N2 := Lib.hid (NX.out rfl)
        clear HIT NX
        go_wp2_with (go_at_fn g; refine C.out.mono ?_; rintro e w1 ⟨rfl, b1⟩)
        have HB1 := Lib.hid (HB.out.trans (b1.mono HB.out.size))
        clear b1
        go_roundw
        case rel => exact ⟨k + 1, by omega, by go_num, N2, HB1⟩
        case measure => simp [intOf]; omega
      · have N2 := Lib.hid (HIT.out rfl)
        clear HIT NX
        go_wp2_with (go_at_fn g; refine C.out.mono ?_; rintro e w1 ⟨rfl, b1⟩)
        have HB1 := Lib.hid (HB.out.trans (b1.mono HB.out.size))
        clear b1
        go_ret
        exact ⟨_, rfl, by omega, by omega, by rw [N2.out, decide_eq_true_iff]; omega, HB1.out⟩
    · have R := Lib.hid (any_miss (p := p) (zs := zs) (fun j hj => HA.out j (by omega)))
      clear HA
      go_wp2
      go_ret
      exact ⟨_, rfl, by omega, by omega, by rw [R.out]; rfl, HB.out⟩
set_option maxHeartbeats 1000000 in
theorem containsI (zs : List Int) (v : Value) (g : Nat) (lb : Array Value) (p : Int → Bool) (w : World) (eg : ∀ args w, (callFunc g args).run Try.prog w = .ok (.enter g args) w)
    (hn : zs.length ≤ 1048576) (h : IntsV w w.heap.size v zs) (hp : PredZ g lb p zs w) :
    Calls Try.prog 169 #[v, .func (.func g) #[] lb] w (Gives (.bool (zs.any p)) w) := by
  have C := Lib.hid (indexI zs v g lb p w eg hn h hp)
  obtain ⟨q, cq, rfl, _⟩ := h
  clear hp
  go_enter Try.func169, Try.ntmps169
  go_wp2_with fail
  refine C.out.mono ?_
  rintro e w1 ⟨k, rfl, h1, h2, h3, b1⟩
  have HB := Lib.hid b1
  have H3 := Lib.hid h3
  clear b1 h3
  go_wp2_with fail
  go_ret
  exact ⟨ret_b H3.out.symm, HB.out⟩
set_option maxHeartbeats 2000000 in
theorem outPred (m : Int) (zs : List Int) (w W0 : World) (B : Nat) (hm : 0 ≤ m ∧ m ≤ 1000000) (hc : W0.cell? ⟨B, 0, none⟩ = some (.int .i64 m)) (hB : B < W0.heap.size) :
    PredZ 173 #[.pointer (some ⟨B, 0, none⟩)] (outB m) zs W0 := by
  intro W z hz hb
  have x0 : W.cell? ⟨B, 0, none⟩ = some (.int .i64 m) := by rw [hb.cell (p := ⟨B, 0, none⟩) hB]; exact hc
  have D : Hid (outB m z = (decide (z < -m) || decide (m < z))) := Lib.hid rfl
  obtain ⟨m0, m1⟩ := hm
  clear hc hb hz
  show Calls _ _ #[.int .i64 z, .pointer (some ⟨B, 0, none⟩)] _ _
  by_cases h1 : z < -m
  · have R := Lib.hid (show outB m z = true by rw [D.out, decide_eq_true h1]; rfl)
    go_enter Try.func173, Try.ntmps173
    go_wp2
    go_ret
    exact ⟨ret_b R.out, Below.refl _ _⟩
  · have R := Lib.hid (show outB m z = decide (m < z) by rw [D.out, decide_eq_false h1]; rfl)
    go_enter Try.func173, Try.ntmps173
    go_wp2
    go_ret
    exact ⟨ret_b R.out, Below.refl _ _⟩
set_option maxHeartbeats 2000000 in
theorem withinI (zs : List Int) (v : Value) (n m : Int) (w : World) (hm : 0 ≤ m ∧ m ≤ 1000000) (hn : zs.length ≤ 1048576) (h : IntsV w w.heap.size v zs) :
    Calls Try.prog 129 #[v, .int .i64 n, .int .i64 m] w (Gives (.bool (decide ((zs.length : Int) = n) && withinB m zs)) w) := by
  have UV := Lib.hid (fun w' (hb : Below w.heap.size w w') => (h.below hb).more hb.size)
  obtain ⟨q, cq, rfl, _⟩ := h
  have B1 := (Below.refl w.heap.size w).alloc (Nat.le_refl _) (.cells #[.int .i64 m] 3)
  have K1 := alloc_heap w (.cells #[.int .i64 m] 3)
  obtain ⟨x0, _⟩ := cell_of_heap (o := 0) K1 rfl
  clear K1
  have hmf : ∀ (fn : Fn) (first cap : Array Value) (w : World), (Instr.makeFunc fn first cap).run Try.prog w = .ok (.func fn first cap) w := fun _ _ _ _ => rfl
  obtain ⟨wa, hwa⟩ : ∃ wa, wa = w.alloc (.cells #[.int .i64 m] 3) := ⟨_, rfl⟩
  have hs : w.heap.size < wa.heap.size := by rw [hwa]; simp
  rw [← hwa] at B1 x0
  have C := Lib.hid (containsI zs _ 173 #[.pointer (some ⟨w.heap.size, 0, none⟩)] (outB m) wa (enters_of Try.func173 (by kernel_rfl) rfl) hn (UV.out wa B1) (outPred m zs w wa w.heap.size hm x0 hs))
  have HB := Lib.hid B1
  have AO := Lib.hid (any_out m zs)
  by_cases hl : (zs.length : Int) = n
  · subst hl
    have R := Lib.hid (show (decide ((zs.length : Int) = (zs.length : Int)) && withinB m zs) = withinB m zs by rw [decide_eq_true rfl]; rfl)
    clear B1 UV
    generalize withinB m zs = bb at *
    go_enter Try.func129, Try.ntmps129
    go_wp2_with fail
    rw [← hwa]
    clear hwa
    refine C.out.mono ?_
    rintro e w1 ⟨rfl, b1⟩
    rw [AO.out]
    have HB1 := Lib.hid (HB.out.trans (b1.mono HB.out.size))
    clear b1
    go_wp2_with fail
    go_ret
    exact ⟨by rw [R.out]; simp, HB1.out⟩
  · have R := Lib.hid (show (decide ((zs.length : Int) = n) && withinB m zs) = false by rw [decide_eq_false hl]; rfl)
    have hlb : ((zs.length : Int) == n) = false := by simpa using hl
    clear B1 UV hl
    go_enter Try.func129, Try.ntmps129
    go_wp2_with fail
    rw [← hwa]
    clear hwa
    go_ret
    exact ⟨ret_b R.out, HB.out⟩
set_option maxHeartbeats 2000000 in
theorem procI (ps ws zs : List Int) (v u : Value) (w : World) (hn : zs.length ≤ 1048576) (h : TreeV w w.heap.size v ps ws) (hu : IntsV w w.heap.size u zs) :
    Calls Try.prog 192 #[v, u] w (Gives (.bool (procB ps ws zs)) w) := by
  have G := Lib.hid (fun w' (hb : Below w.heap.size w w') => isTreeI ps ws v w' (h.boxed hb))
  have WI := Lib.hid (fun w' (hb : Below w.heap.size w w') => withinI zs u (ps.length : Int) 999 w' (by omega) hn ((hu.below hb).more hb.size))
  obtain ⟨p1, c1, p2, c2, rfl⟩ := h.shape
  obtain ⟨q, cq, rfl, _⟩ := hu
  clear h
  have B1 := (Below.refl w.heap.size w).alloc (Nat.le_refl _) (.cells #[.slice p1 ps.length c1, .slice p2 ws.length c2] 29)
  have T1 := Lib.hid (show TBox (w.alloc (.cells #[.slice p1 ps.length c1, .slice p2 ws.length c2] 29)) w.heap.size (.slice p1 ps.length c1) (.slice p2 ws.length c2) from alloc_heap w _)
  cases hg : goodT ps ws
  · rw [hg] at G
    have N := Lib.hid (show procB ps ws zs = false by unfold procB; rw [hg]; rfl)
    clear hg
    go_enter Try.func192, Try.ntmps192
    go_wp2_with fail
    refine (G.out _ B1).mono ?_
    rintro e w1 ⟨rfl, b1⟩
    have HB1 := Lib.hid (B1.trans (b1.mono B1.size))
    clear b1
    go_wp2_with fail
    go_ret
    exact ⟨ret_b N.out, HB1.out⟩
  · rw [hg] at G
    have N := Lib.hid (show procB ps ws zs = (decide ((zs.length : Int) = (ps.length : Int)) && withinB 999 zs) by
      unfold procB; rw [hg, Bool.true_and]; congr 1; rw [Bool.eq_iff_iff, decide_eq_true_iff, decide_eq_true_iff]; omega)
    clear hg
    generalize (decide ((zs.length : Int) = (ps.length : Int)) && withinB 999 zs) = bb at *
    go_enter Try.func192, Try.ntmps192
    go_wp2_with fail
    refine (G.out _ B1).mono ?_
    rintro e w1 ⟨rfl, b1⟩
    have HB1 := Lib.hid (B1.trans (b1.mono B1.size))
    obtain ⟨x0, x1⟩ := (T1.out.below b1 T1.out.lt).cells
    clear b1
    go_wp2_with fail
    refine (WI.out _ HB1.out).mono ?_
    rintro e w2 ⟨rfl, b2⟩
    have HB2 := Lib.hid (HB1.out.trans (b2.mono HB1.out.size))
    clear b2
    go_wp2_with fail
    go_ret
    exact ⟨ret_b N.out, HB2.out⟩
theorem hb_next {wa a b : World} (h : Hid (Below wa.heap.size wa a)) (k : Below a.heap.size a b) : Hid (Below wa.heap.size wa b) := Lib.hid (h.out.trans (k.mono h.out.size))
theorem hb_full {w wa a : World} (h : Hid (Below w.heap.size w wa)) (k : Hid (Below wa.heap.size wa a)) : Below w.heap.size w a := h.out.trans (k.out.mono h.out.size)
end Go.Proofs.Ytligidmkhbcpmac
