/- What is passed down a tree, in the program: elements of two cells (crossings). -/
import Derived.Test.YtbpelmpipkkonaaOwnP
import Derived.Test.YtbpelmpipkkonaaLawT
import Derived.Test.YtbpelmpipkkonaaPassP
namespace Go.Proofs.Ytbpelmpipkkonaa
open Go.RowKit
set_option linter.unusedVariables false
def AGG (p : Value × Value) : Value := .agg #[p.1, p.2]
/-- What is asked of a step: it makes the node's element of what the node has from above. -/
def PassC (g : Nat) (lb : Array Value) (ps : List Int) (a0 : Value × Value) (f : Nat → Value × Value) (w : World) : Prop :=
  ∀ (W : World) (x : Nat), x < ps.length → Below w.heap.size w W → Calls Try.prog g (#[AGG (if x = 0 then a0 else f (ps.getD x 0).toNat), .int .i64 x] ++ lb) W fun e w' => e = .returned (AGG (f x)) ∧ Below W.heap.size W w'
theorem crossInfo : (Try.prog.info? 77).map (fun i => (i.zero, i.size, i.bytes)) = some (some (.agg #[.int .i64 0, .bool false]), 2, 16) := by kernel_rfl
set_option maxRecDepth 100000 in
set_option maxHeartbeats 4000000 in
theorem passC (ps ws : List Int) (a0 : Value × Value) (f : Nat → Value × Value) (v : Value) (g : Nat) (lb : Array Value) (w : World) (eg : ∀ args w, (callFunc g args).run Try.prog w = .ok (.enter g args) w)
    (gd : Good ps ws) (h : TreeV w w.heap.size v ps ws) (hf : ∀ x, ∃ t b, f x = (.int .i64 t, .bool b)) (h0 : ∃ t b, a0 = (.int .i64 t, .bool b)) (hp : PassC g lb ps a0 f w) :
    Calls Try.prog 77 #[v, AGG a0, .func (.func g) #[] lb] w (NewP 77 (rowP f ps.length) w) := by
  obtain ⟨v1, v2, rfl, ⟨p1, c1, rfl, l1, m1, _, i1⟩, ⟨p2, c2, rfl, l2, m2, _, i2⟩⟩ := h
  have P1 := Lib.hid i1
  clear i1 i2 m1 m2
  have PP := Lib.hid hp
  have FF := Lib.hid hf
  clear hp hf
  obtain ⟨ta, ba, rfl⟩ := h0
  have hn := gd.n24
  have hn1 := gd.n1
  have GP := Lib.hid gd.par
  clear gd
  obtain ⟨i0, hi, hz0, hz1, hz2⟩ := info_parts crossInfo
  have B1 := ((Below.refl w.heap.size w).alloc (Nat.le_refl _) (.cells #[.slice p1 ps.length c1, .slice p2 ws.length c2] 28)).alloc (by simp) (.cells #[.int .i64 ta, .bool ba] 77)
  have K0 := alloc_two w (.cells #[.slice p1 ps.length c1, .slice p2 ws.length c2] 28) (.cells #[.int .i64 ta, .bool ba] 77)
  have y0 := (cell_of_heap (o := 0) K0.2 rfl).1
  have y1 := (cell_of_heap (o := 1) K0.2 rfl).1
  obtain ⟨wa, hwa⟩ : ∃ wa, wa = (w.alloc (.cells #[.slice p1 ps.length c1, .slice p2 ws.length c2] 28)).alloc (.cells #[.int .i64 ta, .bool ba] 77) := ⟨_, rfl⟩
  have sz : wa.heap.size = w.heap.size + 2 := by rw [hwa]; simp
  rw [← hwa] at B1 K0
  have T1 := Lib.hid (show TBox wa w.heap.size (.slice p1 ps.length c1) (.slice p2 ws.length c2) from K0.1)
  have HBA := Lib.hid B1
  clear B1 K0
  have C0 := Lib.hid (PP.out wa 0 (by omega) HBA.out)
  rw [if_pos rfl] at C0
  obtain ⟨t0, b0, hf0⟩ := FF.out 0
  have F0 := Lib.hid hf0
  rw [hf0] at C0
  clear hf0
  dsimp only [AGG] at C0 ⊢
  go_enter Try.func77, Try.ntmps77
  go_wp2_with (rw [← hwa]; clear hwa; go_at_fn g; refine C0.out.mono ?_; rintro e w1 ⟨rfl, b1⟩; (have s1 := b1.size); (have HB1 := Lib.hid ((HBA.out.trans (b1.mono HBA.out.size)).alloc (Nat.le_trans HBA.out.size s1) (.cells #[.int .i64 t0, .bool b0] 77))); (have HT1 := Lib.hid ((T1.out.below b1 T1.out.lt).alloc (.cells #[.int .i64 t0, .bool b0] 77))); (have O1 := Lib.hid (OwnP.single 77 w1 (w.heap.size + 1) (.int .i64 t0, .bool b0) (by omega))); clear b1)
  clear C0 HBA T1
  go_loopw [7, 8] (fun o i wr => ∃ k : Nat, 1 ≤ k ∧ k ≤ ps.length ∧ i = .int .i64 k ∧ Hid (OwnP 77 wr (w.heap.size + 1) wr.heap.size o (rowP f k)) ∧ Hid (TBox wr w.heap.size (.slice p1 ps.length c1) (.slice p2 ws.length c2)) ∧ Hid (Below w.heap.size w wr)) (fun _ i _ => ps.length - (intOf i).toNat)
  case atStart => exact ⟨1, Nat.le_refl _, hn1, rfl, Lib.hid (by rw [show rowP f 1 = [(.int .i64 t0, .bool b0)] by rw [rowP_succ, F0.out]; rfl]; exact O1.out), HT1, HB1⟩
  case round =>
    obtain ⟨k, hk1, hk, rfl, HO, HTW, HB⟩ := hrel
    obtain ⟨x0, x1⟩ := HTW.out.cells
    clear HT1 HB1 O1
    by_cases hlt : k < ps.length
    · obtain ⟨b, off, rfl, hb, hc⟩ := P1.out.get hlt
      obtain ⟨g1, g2⟩ := GP.out k (by omega) hlt
      obtain ⟨j, hj⟩ : ∃ j : Nat, ps.getD k 0 = (j : Int) := ⟨(ps.getD k 0).toNat, by omega⟩
      have hjk : j < k := by omega
      have hcw : wr.cell? ⟨b, off + k, none⟩ = some (.int .i64 j) := by rw [HB.out.cell (p := ⟨b, off + k, none⟩) hb, hc, hj]
      have LT : (rowP f k).length = k := rowP_len f k
      obtain ⟨gb, cap, rfl, hg1, hg2⟩ := HO.out.shape (by omega)
      obtain ⟨hdj0, hdj1⟩ := HO.out.cellGet (rowP_at f hjk)
      have C := Lib.hid (PP.out wr k hlt HB.out)
      rw [if_neg (by omega), hj, Int.toNat_natCast] at C
      have SE := Lib.hid (rowP_succ f k)
      obtain ⟨tj, bj, hfj⟩ := FF.out j
      obtain ⟨tk, bk, hfk⟩ := FF.out k
      rw [hfj] at hdj0 hdj1 C
      rw [hfk] at C SE
      dsimp only at hdj0 hdj1
      dsimp only [AGG] at C
      obtain ⟨L, hL⟩ : ∃ L, L = rowP f k := ⟨_, rfl⟩
      rw [← hL] at HO LT SE ⊢
      have j0 : (0 : Int) ≤ (j : Int) := by omega
      have j1 : (j : Int) < (L.length : Int) := by omega
      have le1 : L.length ≤ k := by omega
      have le2 : k ≤ L.length := by omega
      have hsz := HTW.out.lt
      clear hc hL hfj hfk hj g1 g2 LT
      go_wp2_with (first
        | (go_at_fn g; refine C.out.mono ?_; rintro e w1 ⟨rfl, b1⟩; have HB1 := Lib.hid (HB.out.trans (b1.mono HB.out.size)); have HO2 := Lib.hid ((HO.out.below b1).wide b1.size (Nat.le_refl _)); have HT2 := Lib.hid (HTW.out.below b1 HTW.out.lt); have sz1 := b1.size; clear b1)
        | (at_builtin; refine wpList_append_own _ rfl _ _ 74 rfl (w.heap.size + 1) 77 i0 (.agg #[.int .i64 0, .bool false]) 2 16 Try.underlying74 hi hz0 hz1 hz2 rfl (by decide) _ L.length (flat2 L) rfl (HO2.out.row.alloc _) ⟨w1.heap.size, 0, none⟩ 1 1 [.int .i64 tk, .bool bk] rfl rfl (cell_two_new _ _ _ _) (fun x hx => by simp at hx; rcases hx with rfl | rfl <;> rfl) (by unfold maxLen; omega) (by omega) (by simp; omega) ?_; intro v' w3 hown3 hgrow3 hnil3))
      have own3 := Lib.hid (OwnP.app (p := (.int .i64 tk, .bool bk)) HO2.out hown3)
      have bel3 := Lib.hid ((HB1.out.alloc HB1.out.size _).grown hgrow3 (by simp; omega) (fun q hq => by have := (HO2.out.row.lt q hq).1; omega))
      have box3 := Lib.hid ((HT2.out.alloc _).grown hgrow3 (fun q hq => (HO2.out.row.lt q hq).1) (by omega))
      clear hown3 hgrow3 hnil3
      go_roundw
      case rel => exact ⟨k + 1, by omega, by omega, by go_num, Lib.hid (by rw [SE.out]; exact own3.out), box3, bel3⟩
      case measure => simp [intOf]; omega
    · obtain rfl : k = ps.length := by omega
      have FIN : Hid (∀ o, OwnP 77 wr (w.heap.size + 1) wr.heap.size o (rowP f ps.length) → NewP 77 (rowP f ps.length) w (.returned o) wr) := Lib.hid (fun o h => ⟨o, rfl, h.low (by omega), HB.out⟩)
      go_wp2
      go_ret
      exact FIN.out _ HO.out
end Go.Proofs.Ytbpelmpipkkonaa
