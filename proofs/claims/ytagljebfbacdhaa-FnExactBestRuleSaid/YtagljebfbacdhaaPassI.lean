/- What is passed down a tree, in the program. -/
import Derived.Test.YtagljebfbacdhaaLawT
import Derived.Test.YtagljebfbacdhaaPassP
import Derived.Test.YtagljebfbacdhaaDepthI
import Derived.Test.YtagljebfbacdhaaWayS
namespace Go.Proofs.Ytagljebfbacdhaa
open Go.RowKit
set_option linter.unusedVariables false
/-- What is asked of a step that is handed over: at each node it makes the node's number of what the node has from above. -/
def PassI (g : Nat) (lb : Array Value) (ps : List Int) (a0 : Int) (T : List Int) (w : World) : Prop :=
  ∀ (W : World) (x : Nat), x < ps.length → Below w.heap.size w W → Calls Try.prog g (#[.int .i64 (abv ps a0 T x), .int .i64 x] ++ lb) W fun e w' => e = .returned (.int .i64 (T.getD x 0)) ∧ Below W.heap.size W w'
theorem take_next {T : List Int} {k : Nat} (h : k < T.length) : T.take (k + 1) = T.take k ++ [T.getD k 0] := by
  rw [List.take_succ_eq_append_getElem h, List.getD_eq_getElem?_getD, List.getElem?_eq_getElem h]; rfl
theorem getD_take {T : List Int} {j k : Nat} (h : j < k) : (T.take k).getD j 0 = T.getD j 0 := by
  rw [List.getD_eq_getElem?_getD, List.getD_eq_getElem?_getD, List.getElem?_take, if_pos h]
set_option maxRecDepth 100000 in
set_option maxHeartbeats 4000000 in
theorem passI (ps ws T : List Int) (a0 : Int) (v : Value) (g : Nat) (lb : Array Value) (w : World) (eg : ∀ args w, (callFunc g args).run Try.prog w = .ok (.enter g args) w)
    (gd : Good ps ws) (h : TreeV w w.heap.size v ps ws) (hT : T.length = ps.length) (hI : ∀ i, i < T.length → InI64 (T.getD i 0)) (hp : PassI g lb ps a0 T w) :
    Calls Try.prog 106 #[v, .int .i64 a0, .func (.func g) #[] lb] w (NewInts T w) := by
  obtain ⟨v1, v2, rfl, ⟨p1, c1, rfl, l1, m1, _, i1⟩, ⟨p2, c2, rfl, l2, m2, _, i2⟩⟩ := h
  have P1 := Lib.hid i1
  clear i1 i2 m1 m2
  have PP := Lib.hid hp
  clear hp
  have hn := gd.n24
  have hn1 := gd.n1
  have GP := Lib.hid gd.par
  have HT := Lib.hid hT
  have II := Lib.hid hI
  clear gd hT hI
  obtain ⟨i0, hi, hz0, hz1, hz2⟩ := info_parts intInfo
  have B1 := (Below.refl w.heap.size w).alloc (Nat.le_refl _) (.cells #[.slice p1 ps.length c1, .slice p2 ws.length c2] 28)
  have T1 := Lib.hid (show TBox (w.alloc (.cells #[.slice p1 ps.length c1, .slice p2 ws.length c2] 28)) w.heap.size (.slice p1 ps.length c1) (.slice p2 ws.length c2) from alloc_heap w _)
  have sz : (w.alloc (.cells #[.slice p1 ps.length c1, .slice p2 ws.length c2] 28)).heap.size = w.heap.size + 1 := by simp
  obtain ⟨wa, hwa⟩ : ∃ wa, wa = w.alloc (.cells #[.slice p1 ps.length c1, .slice p2 ws.length c2] 28) := ⟨_, rfl⟩
  rw [← hwa] at B1 T1 sz
  have HBA := Lib.hid B1
  clear B1
  have C0 := Lib.hid (PP.out wa 0 (by omega) HBA.out)
  rw [show abv ps a0 T 0 = a0 from if_pos rfl] at C0
  obtain ⟨z0, hz⟩ : ∃ z, z = T.getD 0 0 := ⟨_, rfl⟩
  have Z0 := Lib.hid hz
  have ZI := Lib.hid (show InI64 z0 by rw [hz]; exact II.out 0 (by have := HT.out; omega))
  rw [← hz] at C0
  clear hz
  go_enter Try.func106, Try.ntmps106
  go_wp2_with (rw [← hwa]; clear hwa; go_at_fn g; refine C0.out.mono ?_; rintro e w1 ⟨rfl, b1⟩; (have s1 := b1.size); (have HB1 := Lib.hid ((HBA.out.trans (b1.mono HBA.out.size)).alloc (Nat.le_trans HBA.out.size s1) (.cells #[.int .i64 z0] 3))); (have HT1 := Lib.hid ((T1.out.below b1 T1.out.lt).alloc (.cells #[.int .i64 z0] 3))); (have O1 := Lib.hid (OwnV.single w1 (w.heap.size + 1) z0 (by omega) ZI.out)); clear b1)
  have TL := HT.out
  have ONE : Hid (T.take 1 = [z0]) := Lib.hid (by rw [take_next (by omega), Z0.out]; rfl)
  clear C0 HBA T1 Z0
  go_loopw [7, 8] (fun o i wr => ∃ k : Nat, 1 ≤ k ∧ k ≤ ps.length ∧ i = .int .i64 k ∧ Hid (OwnV wr (w.heap.size + 1) wr.heap.size o (T.take k)) ∧ Hid (TBox wr w.heap.size (.slice p1 ps.length c1) (.slice p2 ws.length c2)) ∧ Hid (Below w.heap.size w wr)) (fun _ i _ => ps.length - (intOf i).toNat)
  case atStart => exact ⟨1, Nat.le_refl _, hn1, rfl, Lib.hid (by rw [ONE.out]; exact O1.out), HT1, HB1⟩
  case round =>
    obtain ⟨k, hk1, hk, rfl, HO, HTW, HB⟩ := hrel
    obtain ⟨x0, x1⟩ := HTW.out.cells
    clear HT1 HB1 O1
    by_cases hlt : k < ps.length
    · obtain ⟨b, off, rfl, hb, hc⟩ := P1.out.get hlt
      obtain ⟨g1, g2⟩ := GP.out k (by omega) hlt
      obtain ⟨j, hj⟩ : ∃ j : Nat, ps.getD k 0 = (j : Int) := ⟨(ps.getD k 0).toNat, by omega⟩
      have hjk : j < k := by omega
      have hcw : wr.cell? ⟨b, off + k, none⟩ = some (.int .i64 j) := by rw [HB.out.cell (p := ⟨b, off + k, none⟩) hb, hc, hj]
      have LT : (T.take k).length = k := by rw [List.length_take]; omega
      obtain ⟨gb, cap, rfl, hg1, hg2⟩ := HO.out.shape (by omega)
      have hdj : wr.cell? ⟨gb, j, none⟩ = some (.int .i64 (T.getD j 0)) := by
        rw [HO.out.cellGet (by omega), getD_take hjk]
      have C := Lib.hid (PP.out wr k hlt HB.out)
      have AB : abv ps a0 T k = T.getD j 0 := by unfold abv; rw [if_neg (by omega), hj, Int.toNat_natCast]
      rw [AB] at C
      have SE := Lib.hid (take_next (T := T) (k := k) (by omega))
      have NI := Lib.hid (II.out k (by omega))
      obtain ⟨L, hL⟩ : ∃ L, L = T.take k := ⟨_, rfl⟩
      rw [← hL] at HO LT SE ⊢
      obtain ⟨tj, htj⟩ : ∃ t, t = T.getD j 0 := ⟨_, rfl⟩
      rw [← htj] at hdj C
      obtain ⟨tk, htk⟩ : ∃ t, t = T.getD k 0 := ⟨_, rfl⟩
      rw [← htk] at C SE NI
      have j0 : (0 : Int) ≤ (j : Int) := by omega
      have j1 : (j : Int) < (L.length : Int) := by omega
      have hsz := HTW.out.lt
      have le1 : L.length ≤ k := by omega
      have le2 : k ≤ L.length := by omega
      clear hc hL htj htk hj AB g1 g2 LT
      go_wp2_with (first
        | (go_at_fn g; refine C.out.mono ?_; rintro e w1 ⟨rfl, b1⟩; have HB1 := Lib.hid (HB.out.trans (b1.mono HB.out.size)); have HO2 := Lib.hid ((HO.out.below b1).wide b1.size (Nat.le_refl _)); have HT2 := Lib.hid (HTW.out.below b1 HTW.out.lt); have sz1 := b1.size; clear b1)
        | (at_builtin; refine wpList_append_own _ rfl _ _ 22 rfl (w.heap.size + 1) 3 i0 (.int .i64 0) 1 8 Try.underlying22 hi hz0 hz1 hz2 rfl (by decide) _ L.length (L.map (.int .i64)) rfl (HO2.out.row.alloc _) ⟨w1.heap.size, 0, none⟩ 1 1 [.int .i64 tk] rfl rfl (cell_one_new _ _ _) (fun x hx => by simp at hx; subst hx; rfl) (by unfold maxLen; omega) (by omega) (by simp; omega) ?_; intro v' w3 hown3 hgrow3 hnil3))
      have own3 := Lib.hid (HO2.out.app NI.out hown3)
      have bel3 := Lib.hid ((HB1.out.alloc HB1.out.size _).grown hgrow3 (by simp; omega) (fun q hq => by have := (HO2.out.row.lt q hq).1; omega))
      have box3 := Lib.hid ((HT2.out.alloc _).grown hgrow3 (fun q hq => (HO2.out.row.lt q hq).1) (by omega))
      clear hown3 hgrow3 hnil3
      go_roundw
      case rel => exact ⟨k + 1, by omega, by omega, by go_num, Lib.hid (by rw [SE.out]; exact own3.out), box3, bel3⟩
      case measure => simp [intOf]; omega
    · obtain rfl : k = ps.length := by omega
      rw [List.take_of_length_le (by omega)] at HO
      have FIN : Hid (∀ o, OwnV wr (w.heap.size + 1) wr.heap.size o T → NewInts T w (.returned o) wr) := Lib.hid (fun o h => ⟨o, rfl, h.low (by omega), HB.out⟩)
      go_wp2
      go_ret
      exact FIN.out _ HO.out
end Go.Proofs.Ytagljebfbacdhaa
