/- The numbers at the ends, in the program. -/
import Derived.Test.YtamneibnjbimeaaLawT
import Derived.Test.YtamneibnjbimeaaDepthI
import Derived.Test.YtamneibnjbimeaaProcI
import Derived.Test.YtamneibnjbimeaaEndsL
namespace Go.Proofs.Ytamneibnjbimeaa
open Go.RowKit
set_option linter.unusedVariables false
/-- What is asked of a function of ends. -/
def EndI (g : Nat) (lb : Array Value) (es : List Int) (f : Int → Int) (w : World) : Prop :=
  ∀ (W : World) (z : Int), z ∈ es → Below w.heap.size w W → Calls Try.prog g (#[.int .i64 z] ++ lb) W fun e w' => e = .returned (.int .i64 (f z)) ∧ Below W.heap.size W w'
/-- The row while it is turned. -/
def halfE (es : List Int) (f : Int → Int) (k : Nat) : List Int := (es.take k).map f ++ es.drop k
theorem halfE_zero (es : List Int) (f : Int → Int) : halfE es f 0 = es := by simp [halfE]
theorem halfE_all (es : List Int) (f : Int → Int) {k : Nat} (h : es.length ≤ k) : halfE es f k = es.map f := by
  unfold halfE
  rw [List.take_of_length_le h, List.drop_eq_nil_of_le h, List.append_nil]
theorem halfE_len (es : List Int) (f : Int → Int) (k : Nat) : (halfE es f k).length = es.length := by
  unfold halfE
  rw [List.length_append, List.length_map, List.length_take, List.length_drop]; omega
theorem halfE_at {es : List Int} (f : Int → Int) {k : Nat} (h : k < es.length) : (halfE es f k).getD k 0 = es.getD k 0 := by
  unfold halfE
  have hl : ((es.take k).map f).length = k := by simp; omega
  rw [List.getD_eq_getElem?_getD, List.getElem?_append_right (by omega), hl, List.getElem?_drop, List.getD_eq_getElem?_getD, Nat.sub_self, Nat.add_zero]
theorem halfE_set {es : List Int} (f : Int → Int) {k : Nat} (h : k < es.length) : (halfE es f k).set k (f (es.getD k 0)) = halfE es f (k + 1) := by
  unfold halfE
  have hl : ((es.take k).map f).length = k := by simp; omega
  rw [List.set_append_right _ _ (by omega), hl, Nat.sub_self, List.take_succ_eq_append_getElem h, List.map_append, List.append_assoc]
  congr 1
  rw [List.drop_eq_getElem_cons h, List.getD_eq_getElem?_getD, List.getElem?_eq_getElem h]
  rfl
set_option maxRecDepth 100000 in
set_option maxHeartbeats 4000000 in
theorem atEndsI (ps ws : List Int) (f : Int → Int) (v : Value) (g : Nat) (lb : Array Value) (w : World) (eg : ∀ args w, (callFunc g args).run Try.prog w = .ok (.enter g args) w)
    (gd : Good ps ws) (h : TreeV w w.heap.size v ps ws) (hI : ∀ z, z ∈ endsT ps → InI64 (f z)) (hp : EndI g lb (endsT ps) f w) :
    Calls Try.prog 84 #[v, .func (.func g) #[] lb] w (NewInts ((endsT ps).map f) w) := by
  have EN := Lib.hid (fun w' (hb : Below w.heap.size w w') => endsI ps ws v w' (h.boxed hb))
  have hg : goodT ps ws = true := (goodT_iff _ _).2 gd
  rw [hg, show ifGood ps ws (endsT ps) = endsT ps by unfold ifGood; rw [hg]; rfl] at EN
  have hel : (endsT ps).length ≤ 1048576 := by have := ends_len ps ws; rwa [show ifGood ps ws (endsT ps) = endsT ps by unfold ifGood; rw [hg]; rfl] at this
  have EP := ends_pos gd
  obtain ⟨p1, c1, p2, c2, rfl⟩ := h.shape
  have PP := Lib.hid hp
  have II := Lib.hid hI
  have MEM := Lib.hid (fun (k : Nat) (hk : k < (endsT ps).length) => getD_mem hk)
  have HS := Lib.hid (fun k (hk : k < (endsT ps).length) => halfE_set f hk)
  have HA := Lib.hid (fun k (hk : k < (endsT ps).length) => halfE_at f hk)
  have HL := Lib.hid (halfE_len (endsT ps) f)
  have H0 := Lib.hid (halfE_zero (endsT ps) f)
  have HE := Lib.hid (fun k (hk : (endsT ps).length ≤ k) => halfE_all (endsT ps) f hk)
  clear h hp hI hg gd
  obtain ⟨E, hE⟩ : ∃ E, E = endsT ps := ⟨_, rfl⟩
  rw [← hE] at EN hel PP II MEM HS HA HL H0 HE EP ⊢
  clear hE
  have B1 := Lib.hid ((Below.refl w.heap.size w).alloc (Nat.le_refl _) (.cells #[.slice p1 ps.length c1, .slice p2 ws.length c2] 29))
  have T1 := Lib.hid (show TBox (w.alloc (.cells #[.slice p1 ps.length c1, .slice p2 ws.length c2] 29)) w.heap.size (.slice p1 ps.length c1) (.slice p2 ws.length c2) from alloc_heap w _)
  obtain ⟨wa, hwa⟩ : ∃ wa, wa = w.alloc (.cells #[.slice p1 ps.length c1, .slice p2 ws.length c2] 29) := ⟨_, rfl⟩
  rw [← hwa] at B1 T1
  obtain ⟨x0, x1⟩ := T1.out.cells
  go_enter Try.func84, Try.ntmps84
  go_wp2_with fail
  rw [← hwa]
  clear hwa
  refine (EN.out _ B1.out).mono ?_
  rintro e w1 ⟨u, rfl, o1, b1⟩
  obtain ⟨gb, ce, rfl, hg1, hg2⟩ := o1.shape EP
  have HB1 := Lib.hid (B1.out.trans (b1.mono B1.out.size))
  have O1 := Lib.hid (o1.low B1.out.size)
  have hgw : w.heap.size ≤ gb := Nat.le_trans B1.out.size hg1
  clear o1 b1 x0 x1 T1 B1 EN hg1 hg2
  go_wp2
  go_loopw [16] (fun i wr => ∃ k : Nat, k ≤ E.length ∧ i = .int .i64 k ∧ Hid (OwnV wr w.heap.size wr.heap.size (.slice (some ⟨gb, 0, none⟩) E.length ce) (halfE E f k)) ∧ Hid (Below w.heap.size w wr)) (fun i _ => E.length - (intOf i).toNat)
  case atStart => exact ⟨0, Nat.zero_le _, rfl, Lib.hid (by rw [H0.out]; exact O1.out), HB1⟩
  case round =>
    obtain ⟨k, hk, rfl, HO, HB⟩ := hrel
    clear O1 HB1
    by_cases hlt : k < E.length
    · have hce : wr.cell? ⟨gb, k, none⟩ = some (.int .i64 (E.getD k 0)) := by rw [HO.out.cellGet (by rw [HL.out]; exact hlt), HA.out k hlt]
      have C := Lib.hid (PP.out wr (E.getD k 0) (MEM.out k hlt) HB.out)
      have IN := Lib.hid (II.out _ (MEM.out k hlt))
      have SE := Lib.hid (HS.out k hlt)
      have i0 : (0 : Int) ≤ (k : Int) := by omega
      have i1 : (k : Int) < (E.length : Int) := by omega
      obtain ⟨z, hz⟩ : ∃ z, z = E.getD k 0 := ⟨_, rfl⟩
      rw [← hz] at hce C IN SE
      clear hz
      obtain ⟨y, hy⟩ : ∃ y, y = f z := ⟨_, rfl⟩
      rw [← hy] at C IN SE
      clear hy
      go_wp2_with (go_at_fn g; refine C.out.mono ?_; rintro e w2 ⟨rfl, b2⟩; (have HB2 := Lib.hid (HB.out.trans (b2.mono HB.out.size))); (have HO2 := Lib.hid ((HO.out.below b2).wide b2.size (Nat.le_refl _))); clear b2; (have hcx := HO2.out.cellGet (j := k) (by rw [HL.out]; exact hlt)); (have hfx := HO2.out.frozenGet k))
      have O3 := Lib.hid (HO2.out.setAt k (x := y) IN.out)
      rw [SE.out] at O3
      have B3 := Lib.hid (HB2.out.setCell (p := ⟨gb, k, none⟩) hgw (.int .i64 y))
      go_roundw
      case rel => exact ⟨k + 1, by omega, by go_num, Lib.hid (by have := O3.out; simpa [World.setCell] using this), B3⟩
      case measure => simp [intOf]; omega
    · rw [HE.out k (by omega)] at HO
      have FIN : Hid (NewInts (E.map f) w (.returned (.slice (some ⟨gb, 0, none⟩) E.length ce)) wr) := Lib.hid ⟨_, rfl, HO.out, HB.out⟩
      go_wp2
      go_ret
      exact FIN.out
end Go.Proofs.Ytamneibnjbimeaa
