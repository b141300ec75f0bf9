/- What ends weigh together, in the program. -/
import Derived.Test.YtfnnlkbecnjloabEvI
import Derived.Test.YtfnnlkbecnjloabSumsI
namespace Go.Proofs.Ytfnnlkbecnjloab
open Go.RowKit
set_option linter.unusedVariables false
/-- A box of one value. -/
def VBox (w : World) (B : Nat) (v : Value) (t : TypeId) : Prop := w.heap[B]? = some (.cells #[v] t (0, 0))
theorem VBox.below {w w1 : World} {B C : Nat} {v : Value} {t : TypeId} (h : VBox w B v t) (hb : Below C w w1) (hB : B < C) : VBox w1 B v t := (hb.block B hB).trans h
theorem VBox.lt {w : World} {B : Nat} {v : Value} {t : TypeId} (h : VBox w B v t) : B < w.heap.size := by unfold VBox at h; exact (Array.getElem?_eq_some_iff.1 h).1
theorem VBox.cell {w : World} {B : Nat} {v : Value} {t : TypeId} (h : VBox w B v t) : w.cell? ⟨B, 0, none⟩ = some v := (cell_of_heap (o := 0) h rfl).1
theorem VBox.next {w w1 : World} {B : Nat} {v : Value} {t : TypeId} (h : VBox w B v t) (hb : Below w.heap.size w w1) : VBox w1 B v t := h.below hb h.lt
theorem VBox.alloc {w : World} {B : Nat} {v : Value} {t : TypeId} (h : VBox w B v t) (o : Obj) : VBox (w.alloc o) B v t := by
  have hl := h.lt
  show (w.heap.push o)[B]? = _
  rw [Array.getElem?_push, if_neg (by omega)]; exact h
/-- The part of weightWhere. -/
theorem wherePart (ps ws : List Int) (v1 v2 : Value) (g : Nat) (lb : Array Value) (p : Nat → Bool) (w W0 : World) (B C : Nat) (eg : ∀ args w, (callFunc g args).run Try.prog w = .ok (.enter g args) w)
    (gd : Good ps ws) (hbox : TBox W0 B v1 v2) (hc : VBox W0 C (.func (.func g) #[] lb) 64) (h : TreeV w w.heap.size (.agg #[v1, v2]) ps ws) (h0 : Below w.heap.size w W0) (hp : PredI g lb p ps.length w) :
    PartI 108 #[.pointer (some ⟨C, 0, none⟩), .pointer (some ⟨B, 0, none⟩)] ps (maskL ps ws p) W0 := by
  intro W x hx hl hb
  have HT := Lib.hid (hbox.below hb hbox.lt)
  have y0 := (hc.below hb hc.lt).cell
  have hb3 := h0.trans (hb.mono h0.size)
  have PP := Lib.hid (hp W x hx hb3)
  rw [maskL_at hx]
  obtain ⟨_, _, e, _, ⟨p2, c2, e2, _, m2, _, i2⟩⟩ := h
  obtain ⟨_, rfl⟩ : v1 = v1 ∧ v2 = .slice p2 ws.length c2 := by simp at e; exact ⟨rfl, by rw [e.2, e2]⟩
  clear e e2
  obtain ⟨b, off, rfl, hb2, hc2⟩ := IntsAt.get i2 (i := x) (by rw [gd.nw]; exact hx)
  have hcw : W.cell? ⟨b, off + x, none⟩ = some (.int .i64 (ws.getD x 0)) := by rw [hb3.cell (p := ⟨b, off + x, none⟩) hb2, hc2]
  have HC := Lib.hid hcw
  have HBL : Hid (b < W.heap.size) := Lib.hid (Nat.lt_of_lt_of_le hb2 hb3.size)
  have i0 : (0 : Int) ≤ (x : Int) := by omega
  have i1 : (x : Int) < (ws.length : Int) := by rw [gd.nw]; omega
  unfold maxLen at m2
  have E1 : Hid ((if leafB ps x = true ∧ p x = true then ws.getD x 0 else 0) = if p x = true then ws.getD x 0 else 0) := Lib.hid (by simp [hl])
  rw [E1.out]
  generalize ws.getD x 0 = z at *
  clear hc2 i2 hb hb3 h0 gd hbox hl hx hcw hc hp E1 hb2
  show Calls _ _ #[.int .i64 x, .pointer (some ⟨C, 0, none⟩), .pointer (some ⟨B, 0, none⟩)] _ _
  cases hpx : p x
  · rw [hpx] at PP
    clear hpx
    go_enter Try.func108, Try.ntmps108
    go_wp2_with (go_at_fn g; refine PP.out.mono ?_; rintro e w1 ⟨rfl, b1⟩)
    have HB1 := Lib.hid b1
    clear b1
    go_wp2
    go_ret
    exact ⟨rfl, HB1.out⟩
  · rw [hpx] at PP
    clear hpx
    go_enter Try.func108, Try.ntmps108
    go_wp2_with (go_at_fn g; refine PP.out.mono ?_; rintro e w1 ⟨rfl, b1⟩; (have HB1 := Lib.hid b1); (obtain ⟨x0, x1⟩ := (HT.out.below b1 HT.out.lt).cells); (have hcw : w1.cell? ⟨b, off + x, none⟩ = some (.int .i64 z) := (b1.cell (p := ⟨b, off + x, none⟩) HBL.out).trans HC.out); clear b1)
    go_ret
    exact ⟨rfl, HB1.out⟩
set_option maxHeartbeats 2000000 in
theorem whereI (ps ws : List Int) (v : Value) (g : Nat) (lb : Array Value) (p : Nat → Bool) (w : World) (eg : ∀ args w, (callFunc g args).run Try.prog w = .ok (.enter g args) w)
    (gd : Good ps ws) (h : TreeV w w.heap.size v ps ws) (hp : PredI g lb p ps.length w) :
    Calls Try.prog 101 #[v, .func (.func g) #[] lb] w (Gives (.int .i64 (heavyT ps ws p)) w) := by
  obtain ⟨p1, c1, p2, c2, rfl⟩ := h.shape
  have B1 := ((Below.refl w.heap.size w).alloc (Nat.le_refl _) (.cells #[.slice p1 ps.length c1, .slice p2 ws.length c2] 29)).alloc (by simp) (.cells #[.func (.func g) #[] lb] 64)
  have K0 := alloc_two w (.cells #[.slice p1 ps.length c1, .slice p2 ws.length c2] 29) (.cells #[.func (.func g) #[] lb] 64)
  obtain ⟨wa, hwa⟩ : ∃ wa, wa = (w.alloc (.cells #[.slice p1 ps.length c1, .slice p2 ws.length c2] 29)).alloc (.cells #[.func (.func g) #[] lb] 64) := ⟨_, rfl⟩
  rw [← hwa] at B1 K0
  have T1 := Lib.hid (show TBox wa w.heap.size (.slice p1 ps.length c1) (.slice p2 ws.length c2) from K0.1)
  have V1 := Lib.hid (show VBox wa (w.heap.size + 1) (.func (.func g) #[] lb) 64 from K0.2)
  have hmf : ∀ (fn : Fn) (first cap : Array Value) (w : World), (Instr.makeFunc fn first cap).run Try.prog w = .ok (.func fn first cap) w := fun _ _ _ _ => rfl
  have HBA := Lib.hid B1
  have S := Lib.hid (sumUpI ps ws (maskL ps ws p) _ 108 #[.pointer (some ⟨w.heap.size + 1, 0, none⟩), .pointer (some ⟨w.heap.size, 0, none⟩)] wa (enters_of Try.func108 (by kernel_rfl) rfl) gd (h.boxed B1) (maskL_len _ _ _) (fun y hy hl => by rw [maskL_at hy, if_neg (by rw [hl]; simp)]) (by have := maskL_abs gd p; omega) (wherePart ps ws _ _ g lb p w wa w.heap.size (w.heap.size + 1) eg gd T1.out V1.out h B1 hp))
  have HW := Lib.hid (heavy_up gd p)
  have UL : Hid ((upL ps (maskL ps ws p) (ps.length - 1)).length = ps.length) := Lib.hid (by rw [upL_len, maskL_len])
  have hn1 := gd.n1
  obtain ⟨L, hL⟩ : ∃ L, L = upL ps (maskL ps ws p) (ps.length - 1) := ⟨_, rfl⟩
  obtain ⟨H, hH⟩ : ∃ H, H = heavyT ps ws p := ⟨_, rfl⟩
  rw [← hL] at S HW UL
  rw [← hH] at HW ⊢
  clear K0 B1 hL hH gd hp h
  obtain ⟨x0, x1⟩ := T1.out.cells
  go_enter Try.func101, Try.ntmps101
  go_wp2_with fail
  rw [← hwa]
  clear hwa
  refine S.out.mono ?_
  rintro e w2 ⟨u, rfl, o2, b2⟩
  have HB2 := Lib.hid (HBA.out.trans (b2.mono HBA.out.size))
  obtain ⟨gg, cap, rfl, _, _⟩ := o2.shape (by have := UL.out; omega)
  have hc := o2.cellGet (j := 0) (by have := UL.out; omega)
  rw [HW.out] at hc
  have hl0 : (0 : Int) < (L.length : Int) := by have := UL.out; omega
  have hl1 : 0 < L.length := by have := UL.out; omega
  clear o2 b2 x0 x1
  go_wp2
  go_ret
  exact ⟨rfl, HB2.out⟩
/-- The tests of the callers. -/
theorem inPred (W0 : World) (b n C N : Nat) (f : Int → Bool) (hN : N ≤ 1000000) (hm : MapB W0 b n f) (hc : VBox W0 C (.map (some b)) 73) :
    PredI 102 #[.pointer (some ⟨C, 0, none⟩)] (fun x => f (x : Int)) N W0 := by
  intro W x hx hb
  have x0 := (hc.below hb hc.lt).cell
  have M := Lib.hid (hm.below hb hm.lt)
  clear hm hc hb
  show Calls _ _ #[.int .i64 x, .pointer (some ⟨C, 0, none⟩)] _ _
  go_enter Try.func102, Try.ntmps102
  go_wp2_with (at_lookup; refine mapB_get _ rfl _ _ _ rfl Try.underlying73 b n f rfl M.out (x : Int) rfl (inI64_nat (by omega)) ?_)
  go_ret
  exact ⟨rfl, Below.refl _ _⟩
theorem bothPred (W0 : World) (b n C b' n' C' N : Nat) (f f' : Int → Bool) (hN : N ≤ 1000000) (hm : MapB W0 b n f) (hc : VBox W0 C (.map (some b)) 73) (hm' : MapB W0 b' n' f') (hc' : VBox W0 C' (.map (some b')) 73) :
    PredI 104 #[.pointer (some ⟨C, 0, none⟩), .pointer (some ⟨C', 0, none⟩)] (fun x => f (x : Int) && f' (x : Int)) N W0 := by
  intro W x hx hb
  have x0 := (hc.below hb hc.lt).cell
  have x1 := (hc'.below hb hc'.lt).cell
  have M := Lib.hid (hm.below hb hm.lt)
  have M' := Lib.hid (hm'.below hb hm'.lt)
  clear hm hc hb hm' hc'
  dsimp only
  show Calls _ _ #[.int .i64 x, .pointer (some ⟨C, 0, none⟩), .pointer (some ⟨C', 0, none⟩)] _ _
  obtain ⟨q, hq⟩ : ∃ q, q = f (x : Int) := ⟨_, rfl⟩
  rw [← hq]
  have HQ := Lib.hid hq
  clear hq
  cases q
  · go_enter Try.func104, Try.ntmps104
    go_wp2_with (at_lookup; refine mapB_get _ rfl _ _ _ rfl Try.underlying73 b n f rfl M.out (x : Int) rfl (inI64_nat (by omega)) ?_; rw [← HQ.out])
    go_ret
    exact ⟨rfl, Below.refl _ _⟩
  · go_enter Try.func104, Try.ntmps104
    go_wp2_with (at_lookup; first | (refine mapB_get _ rfl _ _ _ rfl Try.underlying73 b n f rfl M.out (x : Int) rfl (inI64_nat (by omega)) ?_; rw [← HQ.out]) | (refine mapB_getW _ rfl _ _ _ rfl Try.underlying73 b' n' f' rfl M'.out (x : Int) rfl (inI64_nat (by omega)) ?_))
    go_ret
    exact ⟨by simp, Below.refl _ _⟩
theorem allPred (W0 : World) (N : Nat) : PredI 103 #[] (fun _ => true) N W0 := by
  intro W x hx hb
  show Calls _ _ #[.int .i64 x] _ _
  go_enter Try.func103, Try.ntmps103
  go_wp2
  go_ret
  exact ⟨rfl, Below.refl _ _⟩
end Go.Proofs.Ytfnnlkbecnjloab
