/- Caps that cover payments: told by lists; bounds of caps in the program. -/
import Derived.Test.YtfpckfameebdnaaLeaI
namespace Go.Proofs.Ytfpckfameebdnaa
open Go.RowKit
set_option linter.unusedVariables false
set_option maxHeartbeats 2000000 in
theorem outPredB (m : Int) (zs : List Int) (w W0 : World) (B : Nat) (hm : 0 ≤ m ∧ m ≤ 1000000000) (hc : W0.cell? ⟨B, 0, none⟩ = some (.int .i64 m)) (hB : B < W0.heap.size) :
    PredZ 155 #[.pointer (some ⟨B, 0, none⟩)] (outB m) zs W0 := by
  intro W z hz hb
  have x0 : W.cell? ⟨B, 0, none⟩ = some (.int .i64 m) := by rw [hb.cell (p := ⟨B, 0, none⟩) hB]; exact hc
  have D : Hid (outB m z = (decide (z < -m) || decide (m < z))) := Lib.hid rfl
  obtain ⟨m0, m1⟩ := hm
  clear hc hb hz
  show Calls _ _ #[.int .i64 z, .pointer (some ⟨B, 0, none⟩)] _ _
  by_cases h1 : z < -m
  · have R := Lib.hid (show outB m z = true by rw [D.out, decide_eq_true h1]; rfl)
    go_enter Try.func155, Try.ntmps155
    go_wp2
    go_ret
    exact ⟨ret_b R.out, Below.refl _ _⟩
  · have R := Lib.hid (show outB m z = decide (m < z) by rw [D.out, decide_eq_false h1]; rfl)
    go_enter Try.func155, Try.ntmps155
    go_wp2
    go_ret
    exact ⟨ret_b R.out, Below.refl _ _⟩
set_option maxHeartbeats 2000000 in
theorem withinIB (zs : List Int) (v : Value) (n m : Int) (w : World) (hm : 0 ≤ m ∧ m ≤ 1000000000) (hn : zs.length ≤ 1048576) (h : IntsV w w.heap.size v zs) :
    Calls Try.prog 90 #[v, .int .i64 n, .int .i64 m] w (Gives (.bool (decide ((zs.length : Int) = n) && withinB m zs)) w) := by
  have UV := Lib.hid (fun w' (hb : Below w.heap.size w w') => (h.below hb).more hb.size)
  obtain ⟨q, cq, rfl, _⟩ := h
  have B1 := (Below.refl w.heap.size w).alloc (Nat.le_refl _) (.cells #[.int .i64 m] 3)
  have K1 := alloc_heap w (.cells #[.int .i64 m] 3)
  obtain ⟨x0, _⟩ := cell_of_heap (o := 0) K1 rfl
  clear K1
  have hmf : ∀ (fn : Fn) (first cap : Array Value) (w : World), (Instr.makeFunc fn first cap).run Try.prog w = .ok (.func fn first cap) w := fun _ _ _ _ => rfl
  obtain ⟨wa, hwa⟩ : ∃ wa, wa = w.alloc (.cells #[.int .i64 m] 3) := ⟨_, rfl⟩
  have hs : w.heap.size < wa.heap.size := by rw [hwa]; simp
  rw [← hwa] at B1 x0
  have C := Lib.hid (containsI zs _ 155 #[.pointer (some ⟨w.heap.size, 0, none⟩)] (outB m) wa (enters_of Try.func155 (by kernel_rfl) rfl) hn (UV.out wa B1) (outPredB m zs w wa w.heap.size hm x0 hs))
  have HB := Lib.hid B1
  have AO := Lib.hid (any_out m zs)
  by_cases hl : (zs.length : Int) = n
  · subst hl
    have R := Lib.hid (show (decide ((zs.length : Int) = (zs.length : Int)) && withinB m zs) = withinB m zs by rw [decide_eq_true rfl]; rfl)
    clear B1 UV
    generalize withinB m zs = bb at *
    go_enter Try.func90, Try.ntmps90
    go_wp2_with fail
    rw [← hwa]
    clear hwa
    refine C.out.mono ?_
    rintro e w1 ⟨rfl, b1⟩
    rw [AO.out]
    have HB1 := Lib.hid (HB.out.trans (b1.mono HB.out.size))
    clear b1
    go_wp2_with fail
    go_ret
    exact ⟨by rw [R.out]; simp, HB1.out⟩
  · have R := Lib.hid (show (decide ((zs.length : Int) = n) && withinB m zs) = false by rw [decide_eq_false hl]; rfl)
    have hlb : ((zs.length : Int) == n) = false := by simpa using hl
    clear B1 UV hl
    go_enter Try.func90, Try.ntmps90
    go_wp2_with fail
    rw [← hwa]
    clear hwa
    go_ret
    exact ⟨ret_b R.out, HB.out⟩
/-- What holds of a node's cap if the caps cover the payments. -/
def dcoX (ps ws zs cs : List Int) (x : Nat) : Bool := decide ((sumsT ps ws).getD x 0 * zs.getD x 0 ≤ cs.getD x 0) && (leafB ps x || decide (kidT ps cs x ≤ cs.getD x 0))
def dcoA (ps ws zs cs : List Int) : Bool := (List.range ps.length).all (dcoX ps ws zs cs)
def dcoB (ps ws zs cs : List Int) : Bool := procB ps ws zs && ((decide ((cs.length : Int) = (zs.length : Int)) && withinB 1000000000 cs) && dcoA ps ws zs cs)
theorem dco_no {ps ws zs cs : List Int} {x : Nat} (hx : x < ps.length) (h : dcoX ps ws zs cs x = false) : dcoB ps ws zs cs = false := by
  have : dcoA ps ws zs cs = false := by
    unfold dcoA
    rw [List.all_eq_false]
    exact ⟨x, List.mem_range.2 hx, by rw [h]; decide⟩
  unfold dcoB
  rw [this]; simp
theorem dco_yes {ps ws zs cs : List Int} (h1 : procB ps ws zs = true) (h2 : (decide ((cs.length : Int) = (zs.length : Int)) && withinB 1000000000 cs) = true) (h : ∀ x, x < ps.length → dcoX ps ws zs cs x = true) : dcoB ps ws zs cs = true := by
  have : dcoA ps ws zs cs = true := by
    unfold dcoA
    rw [List.all_eq_true]
    exact fun x hx => h x (List.mem_range.1 hx)
  unfold dcoB
  rw [this, h1, h2]; rfl
end Go.Proofs.Ytfpckfameebdnaa
