/- RowValue and RowHolding in the program. -/
import Derived.Test.YtamneibnjbimeabRwI
import Derived.Test.YtamneibnjbimeabHeldMore
import Derived.Test.YtamneibnjbimeabPBox

namespace Go.Proofs.Ytamneibnjbimeab
open Go.RowKit
set_option linter.unusedVariables false
theorem res3_cells {w w3 : World} (b : Below (w.alloc (.cells #[.int .i64 0, .int .i64 0, .int .i64 0] 82)).heap.size (w.alloc (.cells #[.int .i64 0, .int .i64 0, .int .i64 0] 82)) w3) : (w3.cell? ⟨w.heap.size, 0, none⟩ = some (.int .i64 0) ∧ w3.frozen? ⟨w.heap.size, 0, none⟩ = false) ∧ (w3.cell? ⟨w.heap.size, 1, none⟩ = some (.int .i64 0) ∧ w3.frozen? ⟨w.heap.size, 1, none⟩ = false) ∧ (w3.cell? ⟨w.heap.size, 2, none⟩ = some (.int .i64 0) ∧ w3.frozen? ⟨w.heap.size, 2, none⟩ = false) := by
  have k0 := (b.block w.heap.size (by simp)).trans (alloc_heap w (.cells #[.int .i64 0, .int .i64 0, .int .i64 0] 82))
  exact ⟨cell_of_heap (o := 0) k0 rfl, cell_of_heap (o := 1) k0 rfl, cell_of_heap (o := 2) k0 rfl⟩
theorem res3_fin {w w3 : World} {x y z : Value} (b : Below (w.alloc (.cells #[.int .i64 0, .int .i64 0, .int .i64 0] 82)).heap.size (w.alloc (.cells #[.int .i64 0, .int .i64 0, .int .i64 0] 82)) w3) : Below w.heap.size w (((w3.setCell ⟨w.heap.size, 0, none⟩ x).setCell ⟨w.heap.size, 1, none⟩ y).setCell ⟨w.heap.size, 2, none⟩ z) :=
  (((((Below.refl w.heap.size w).alloc (Nat.le_refl _) _).trans (b.mono (by simp))).setCell (p := ⟨w.heap.size, 0, none⟩) (Nat.le_refl _) _).setCell (p := ⟨w.heap.size, 1, none⟩) (Nat.le_refl _) _).setCell (p := ⟨w.heap.size, 2, none⟩) (Nat.le_refl _) _
def valV (n u d : Int) (L : List Int) : Value := if valsOk n u d L = true then .tuple #[.agg #[.int .i64 n, .int .i64 u, .int .i64 d], .bool true] else .tuple #[.agg #[.int .i64 0, .int .i64 0, .int .i64 0], .bool false]
set_option maxRecDepth 100000 in
set_option maxHeartbeats 4000000 in
theorem valC (n u d : Int) (L : List Int) (v : Value) (w : World) (hn : L.length ≤ 1048576) (h : IntsV w w.heap.size v L) : Calls Try.prog 71 #[.int .i64 n, .int .i64 u, .int .i64 d, v] w (Gives (valV n u d L) w) := by
  have R := Lib.hid (fun w => rowC n u d w)
  have WI := Lib.hid (fun w' (hb : Below w.heap.size w w') => withinI L v (n + 1) 999 w' (by omega) hn ((h.below hb).more hb.size))
  have VV : Hid (valV n u d L = if valsOk n u d L = true then .tuple #[.agg #[.int .i64 n, .int .i64 u, .int .i64 d], .bool true] else .tuple #[.agg #[.int .i64 0, .int .i64 0, .int .i64 0], .bool false]) := Lib.hid rfl
  have VO : Hid (valsOk n u d L = (rowOk n u d && (decide ((L.length : Int) = n + 1) && withinB 999 L))) := Lib.hid rfl
  obtain ⟨q, c, rfl, _⟩ := h
  have A1 := Lib.hid ((Below.refl w.heap.size w).alloc (Nat.le_refl _) (.cells #[.int .i64 0, .int .i64 0, .int .i64 0] 82))
  cases hr : rowOk n u d
  · rw [hr, Bool.false_and] at VO
    rw [VO.out, if_neg (by decide)] at VV
    rw [VV.out]
    rw [show rowV n u d = .tuple #[.agg #[.int .i64 0, .int .i64 0, .int .i64 0], .bool false] from if_neg (by rw [hr]; decide)] at R
    clear hr VO VV WI
    go_enter Try.func71, Try.ntmps71
    go_wp2_with fail
    refine (R.out _).mono ?_
    rintro e w1 ⟨rfl, b1⟩
    have B2 := Lib.hid (b1.alloc b1.size (.cells #[.int .i64 0, .int .i64 0, .int .i64 0] 82))
    obtain ⟨⟨x0, y0⟩, ⟨x1, y1⟩, x2, y2⟩ := res3_cells B2.out
    clear b1
    go_wp2_with fail
    refine bodyPost_ret (v := .tuple #[.agg #[.int .i64 0, .int .i64 0, .int .i64 0], .bool false]) (by simp [results, Try.results71, go_sem, x0, x1, x2]) rfl ⟨rfl, ?_⟩
    exact res3_fin B2.out
  · have hr2 := hr
    unfold rowOk at hr2
    rw [decide_eq_true_iff] at hr2
    obtain ⟨⟨n0, n1⟩, ⟨u0, u1⟩, d0, d1⟩ := hr2
    rw [hr, Bool.true_and] at VO
    rw [show rowV n u d = .tuple #[.agg #[.int .i64 n, .int .i64 u, .int .i64 d], .bool true] from if_pos hr] at R
    rw [← VO.out] at WI
    cases hk : valsOk n u d L
    · rw [hk] at WI VV
      rw [if_neg (by decide)] at VV
      rw [VV.out]
      clear hr hk VO VV
      go_enter Try.func71, Try.ntmps71
      go_wp2_with fail
      refine (R.out _).mono ?_
      rintro e w1 ⟨rfl, b1⟩
      have B2 := Lib.hid (b1.alloc b1.size (.cells #[.int .i64 n, .int .i64 u, .int .i64 d] 82))
      have H2 := Lib.hid (A1.out.trans (B2.out.mono A1.out.size))
      clear b1
      go_wp2_with fail
      refine (WI.out _ H2.out).mono ?_
      rintro e w2 ⟨rfl, b2⟩
      have B3 := Lib.hid (B2.out.trans (b2.mono B2.out.size))
      obtain ⟨⟨x0, y0⟩, ⟨x1, y1⟩, x2, y2⟩ := res3_cells B3.out
      clear b2
      go_wp2_with fail
      refine bodyPost_ret (v := .tuple #[.agg #[.int .i64 0, .int .i64 0, .int .i64 0], .bool false]) (by simp [results, Try.results71, go_sem, x0, x1, x2]) rfl ⟨rfl, ?_⟩
      exact res3_fin B3.out
    · rw [hk] at WI VV
      rw [if_pos rfl] at VV
      rw [VV.out]
      clear hr hk VO VV
      go_enter Try.func71, Try.ntmps71
      go_wp2_with fail
      refine (R.out _).mono ?_
      rintro e w1 ⟨rfl, b1⟩
      have B2 := Lib.hid (b1.alloc b1.size (.cells #[.int .i64 n, .int .i64 u, .int .i64 d] 82))
      have H2 := Lib.hid (A1.out.trans (B2.out.mono A1.out.size))
      have k0 := alloc_heap w1 (.cells #[.int .i64 n, .int .i64 u, .int .i64 d] 82)
      clear b1
      go_wp2_with fail
      refine (WI.out _ H2.out).mono ?_
      rintro e w2 ⟨rfl, b2⟩
      have B3 := Lib.hid (B2.out.trans (b2.mono B2.out.size))
      obtain ⟨⟨x0, y0⟩, ⟨x1, y1⟩, x2, y2⟩ := res3_cells B3.out
      have k1 := (b2.block w1.heap.size (by simp)).trans k0
      obtain ⟨z0, _⟩ := cell_of_heap (o := 0) k1 rfl
      obtain ⟨z1, _⟩ := cell_of_heap (o := 1) k1 rfl
      obtain ⟨z2, _⟩ := cell_of_heap (o := 2) k1 rfl
      clear b2 k0 k1
      go_wp2_with fail
      refine bodyPost_ret (v := .tuple #[.agg #[.int .i64 n, .int .i64 u, .int .i64 d], .bool true]) (by simp [results, Try.results71, go_sem, x0, x1, x2]) rfl ⟨rfl, ?_⟩
      exact res3_fin B3.out
/-- What RowValue returns. -/
def rvV (n u d : Int) (L : List Int) : Value := if valsOk n u d L = true then keptV (cutN (rvT u d n.toNat L) (((u.toNat + d.toNat) ^ n.toNat : Nat) : Int)) (cutD (rvT u d n.toNat L) (((u.toNat + d.toNat) ^ n.toNat : Nat) : Int)) else zeroP
theorem rvV_form (n u d : Int) (L : List Int) : ∃ p q ok, rvV n u d L = .tuple #[.agg #[.int .i64 p, .int .i64 q], .bool ok] := by
  unfold rvV zeroP; split
  · exact keptV_form _ _
  · exact ⟨_, _, _, rfl⟩
set_option maxRecDepth 100000 in
set_option maxHeartbeats 4000000 in
theorem rowValC (n u d : Int) (L : List Int) (v : Value) (w : World) (hn : L.length ≤ 1048576) (h : IntsV w w.heap.size v L) : Calls Try.prog 23 #[.int .i64 n, .int .i64 u, .int .i64 d, v] w (Gives (rvV n u d L) w) := by
  have VC := Lib.hid (fun w' (hb : Below w.heap.size w w') => valC n u d L v w' hn ((h.below hb).more hb.size))
  have VV : Hid (valV n u d L = if valsOk n u d L = true then .tuple #[.agg #[.int .i64 n, .int .i64 u, .int .i64 d], .bool true] else .tuple #[.agg #[.int .i64 0, .int .i64 0, .int .i64 0], .bool false]) := Lib.hid rfl
  have RV : Hid (rvV n u d L = if valsOk n u d L = true then keptV (cutN (rvT u d n.toNat L) (((u.toNat + d.toNat) ^ n.toNat : Nat) : Int)) (cutD (rvT u d n.toNat L) (((u.toNat + d.toNat) ^ n.toNat : Nat) : Int)) else zeroP) := Lib.hid rfl
  have HV := Lib.hid h
  obtain ⟨q, c, rfl, _⟩ := h
  have A1 := Lib.hid ((Below.refl w.heap.size w).alloc (Nat.le_refl _) (.cells #[.int .i64 0, .int .i64 0] 39))
  cases hk : valsOk n u d L
  · rw [hk, if_neg (by decide)] at VV RV
    rw [VV.out] at VC
    rw [RV.out]
    unfold zeroP
    clear hk VV RV
    go_enter Try.func23, Try.ntmps23
    go_wp2_with fail
    refine (VC.out _ A1.out).mono ?_
    rintro e w1 ⟨rfl, b1⟩
    have B2 := Lib.hid (b1.alloc b1.size (.cells #[.int .i64 0, .int .i64 0, .int .i64 0] 82))
    obtain ⟨⟨x0, y0⟩, x1, y1⟩ := res_cells B2.out
    clear b1
    go_wp2_with fail
    refine bodyPost_ret (v := .tuple #[.agg #[.int .i64 0, .int .i64 0], .bool false]) (by simp [results, Try.results23, go_sem, x0, x1]) rfl ⟨rfl, ?_⟩
    exact res_fin B2.out
  · have hk2 := hk
    unfold valsOk at hk2
    rw [Bool.and_eq_true, Bool.and_eq_true, decide_eq_true_iff] at hk2
    obtain ⟨hr, hl, hw⟩ := hk2
    obtain ⟨N, U, D, rfl, rfl, rfl, hN, hU, hD⟩ := row_mk hr
    rw [hk, if_pos rfl] at VV RV
    rw [VV.out] at VC
    rw [RV.out]
    simp only [Int.toNat_natCast]
    have TC := Lib.hid (fun w' (hb : Below w.heap.size w w') => vtC N U D hU hD N L _ w' hN (by omega) hw ((HV.out.below hb).more hb.size))
    have BC := Lib.hid (fun w => btC N U D N w hU hD hN)
    have sm := rv_small (u := (U : Int)) (d := (D : Int)) (by omega) (by omega) (show L.length = N + 1 by omega) hN hw
    have pb := pow18 (b := U + D) (k := N) (by omega) hN
    have pp := pow_pos1 (b := U + D) N (by omega)
    have RD := Lib.hid (fun w => reduceI_pos (rvT U D N L) (((U + D) ^ N : Nat) : Int) w (by omega) (by omega))
    obtain ⟨p, q', okk, hK⟩ := keptV_form (cutN (rvT U D N L) (((U + D) ^ N : Nat) : Int)) (cutD (rvT U D N L) (((U + D) ^ N : Nat) : Int))
    rw [hK] at RD ⊢
    generalize rvT U D N L = X at *
    generalize (U + D) ^ N = Y at *
    unfold rwR at TC BC
    clear hk VV RV hr hl hw hU hD hN sm pb pp hK
    go_enter Try.func23, Try.ntmps23
    go_wp2_with fail
    refine (VC.out _ A1.out).mono ?_
    rintro e w1 ⟨rfl, b1⟩
    have hR1 : w.heap.size < w1.heap.size := by have := b1.size; simp at this; omega
    obtain ⟨wb, hwb⟩ : ∃ wb, wb = w1.alloc (.cells #[.int .i64 (N : Int), .int .i64 (U : Int), .int .i64 (D : Int)] 82) := ⟨_, rfl⟩
    have B2 := Lib.hid (show Below (w.alloc (.cells #[.int .i64 0, .int .i64 0] 39)).heap.size (w.alloc (.cells #[.int .i64 0, .int .i64 0] 39)) wb by rw [hwb]; exact b1.alloc b1.size _)
    have T1 := Lib.hid (show RwB wb w1.heap.size N U D by rw [hwb]; exact alloc_heap w1 _)
    clear b1
    go_upto_region 4 with fail
    rw [← hwb]
    clear hwb
    have KC : Hid (∀ w', Hid (Below wb.heap.size wb w') → (w'.cell? ⟨w1.heap.size, 0, none⟩ = some (.int .i64 (N : Int)) ∧ w'.cell? ⟨w1.heap.size, 1, none⟩ = some (.int .i64 (U : Int)) ∧ w'.cell? ⟨w1.heap.size, 2, none⟩ = some (.int .i64 (D : Int))) ∧ Below w.heap.size w w' ∧ (w'.cell? ⟨w.heap.size, 0, none⟩ = some (.int .i64 0) ∧ w'.frozen? ⟨w.heap.size, 0, none⟩ = false) ∧ (w'.cell? ⟨w.heap.size, 1, none⟩ = some (.int .i64 0) ∧ w'.frozen? ⟨w.heap.size, 1, none⟩ = false)) := Lib.hid (fun w' hb => by
      have B3 := B2.out.trans (hb.out.mono B2.out.size)
      obtain ⟨r0, r1⟩ := res_cells B3
      exact ⟨(T1.out.next hb.out).cells, A1.out.trans (B3.mono A1.out.size), r0, r1⟩)
    have HD : Hid (Below wb.heap.size wb wb.drew) := Lib.hid (below_drew (Below.refl _ _))
    refine wp_region_held_drew (S := fun w' => w'.cell? ⟨w1.heap.size, 0, none⟩ = some (.int .i64 (N : Int)) ∧ w'.cell? ⟨w1.heap.size, 1, none⟩ = some (.int .i64 (U : Int)) ∧ w'.cell? ⟨w1.heap.size, 2, none⟩ = some (.int .i64 (D : Int))) (by kernel_rfl) (KC.out _ HD).1 (fun hHeld => ?_)
    refine wpAnyH_take (i := 0) (oi := { dst := some 23, op := Op.load 82 (Operand.tmp 10), type := 82, pos := "l6_hedging.go:360", after := #[], guard := none }) (v := ?_) rfl (by kernel_rfl) (by kernel_rfl) (by kernel_rfl) (fun _ _ _ h => h) (Or.inl ⟨by rfl, ?_⟩) (by assumption) ?_
    rotate_left 1
    · intro wq hSw; (try dsimp only at hSw); first | (go_simp; done) | (go_simp; with_reducible rfl)
    (try simp only [Act.put, List.setIfInBounds_toArray, List.set_cons_zero, List.set_cons_succ])
    refine wpAnyH_take (i := 1) (oi := { dst := some 24, op := Op.move (Operand.tmp 3), type := 22, pos := "l6_hedging.go:360", after := #[], guard := none }) (v := ?_) rfl (by kernel_rfl) (by kernel_rfl) (by kernel_rfl) (fun _ _ _ h => h) (Or.inl ⟨by rfl, ?_⟩) (by assumption) ?_
    rotate_left 1
    · intro wq hSw; (try dsimp only at hSw); first | (go_simp; done) | (go_simp; with_reducible rfl)
    (try simp only [Act.put, List.setIfInBounds_toArray, List.set_cons_zero, List.set_cons_succ])
    refine wpAnyH_take (i := 3) (oi := { dst := some 26, op := Op.load 82 (Operand.tmp 10), type := 82, pos := "l6_hedging.go:360", after := #[], guard := none }) (v := ?_) rfl (by kernel_rfl) (by kernel_rfl) (by kernel_rfl) (fun _ _ _ h => h) (Or.inl ⟨by rfl, ?_⟩) (by assumption) ?_
    rotate_left 1
    · intro wq hSw; (try dsimp only at hSw); first | (go_simp; done) | (go_simp; with_reducible rfl)
    (try simp only [Act.put, List.setIfInBounds_toArray, List.set_cons_zero, List.set_cons_succ])
    refine wpAnyH_take (i := 4) (oi := { dst := some 27, op := Op.move (Operand.tmp 0), type := 3, pos := "l6_hedging.go:360", after := #[], guard := none }) (v := ?_) rfl (by kernel_rfl) (by kernel_rfl) (by kernel_rfl) (fun _ _ _ h => h) (Or.inl ⟨by rfl, ?_⟩) (by assumption) ?_
    rotate_left 1
    · intro wq hSw; (try dsimp only at hSw); first | (go_simp; done) | (go_simp; with_reducible rfl)
    (try simp only [Act.put, List.setIfInBounds_toArray, List.set_cons_zero, List.set_cons_succ])
    refine wpAnyH_ready (rs := [2]) (by kernel_rfl) (by simp) ?_
    refine AllReadyH.cons (o := { dst := some 25, op := Op.call { callee := Callee.value (Operand.func 73), args := #[Operand.tmp 23, Operand.tmp 24], argTypes := #[82, 22] }, type := 3, pos := "l6_hedging.go:360", after := #[{ on := 0, ground := Ground.data }, { on := 1, ground := Ground.data }], guard := none }) rfl (fun KQ hKQ => ?_) AllReadyH.nil
    go_simp
    refine (TC.out _ (KC.out _ HD).2.1).mono ?_
    rintro e w4 ⟨rfl, b4⟩
    have HE4 : Hid (Below wb.heap.size wb w4) := Lib.hid (HD.out.trans (b4.mono HD.out.size))
    clear b4
    go_wp2_with fail
    refine hKQ.out _ _ ((KC.out _ HE4).1) (fun hHeld => ?_)
    (try simp only [Act.put, List.setIfInBounds_toArray, List.set_cons_zero, List.set_cons_succ])
    refine wpAnyH_ready (rs := [5]) (by kernel_rfl) (by simp) ?_
    refine AllReadyH.cons (o := { dst := some 28, op := Op.call { callee := Callee.value (Operand.func 74), args := #[Operand.tmp 26, Operand.tmp 27], argTypes := #[82, 3] }, type := 3, pos := "l6_hedging.go:360", after := #[{ on := 3, ground := Ground.data }, { on := 4, ground := Ground.data }, { on := 2, ground := Ground.chain }], guard := none }) rfl (fun KQ hKQ => ?_) AllReadyH.nil
    go_simp
    refine (BC.out _).mono ?_
    rintro e w5 ⟨rfl, b5⟩
    have HE5 : Hid (Below wb.heap.size wb w5) := Lib.hid (HE4.out.trans (b5.mono HE4.out.size))
    clear b5
    go_wp2_with fail
    refine hKQ.out _ _ ((KC.out _ HE5).1) (fun hHeld => ?_)
    (try simp only [Act.put, List.setIfInBounds_toArray, List.set_cons_zero, List.set_cons_succ])
    refine wpAnyH_ready (rs := [6]) (by kernel_rfl) (by simp) ?_
    refine AllReadyH.cons (o := { dst := some 29, op := Op.call { callee := Callee.value (Operand.func 72), args := #[Operand.tmp 25, Operand.tmp 28], argTypes := #[3, 3] }, type := 40, pos := "l6_hedging.go:360", after := #[{ on := 2, ground := Ground.data }, { on := 5, ground := Ground.data }, { on := 5, ground := Ground.chain }], guard := none }) rfl (fun KQ hKQ => ?_) AllReadyH.nil
    go_simp
    refine (RD.out _).mono ?_
    rintro e w6 ⟨rfl, b6⟩
    have HE6 : Hid (Below wb.heap.size wb w6) := Lib.hid (HE5.out.trans (b6.mono HE5.out.size))
    clear b6
    go_wp2_with fail
    refine hKQ.out _ _ ((KC.out _ HE6).1) (fun hHeld => ?_)
    (try simp only [Act.put, List.setIfInBounds_toArray, List.set_cons_zero, List.set_cons_succ])
    refine wpAnyH_take (i := 7) (oi := { dst := some 30, op := Op.extract (Operand.tmp 29) 0, type := 39, pos := "l6_hedging.go:360", after := #[{ on := 6, ground := Ground.data }], guard := none }) (v := ?_) rfl (by kernel_rfl) (by kernel_rfl) (by kernel_rfl) (fun _ _ _ h => h) (Or.inl ⟨by rfl, ?_⟩) (by assumption) ?_
    rotate_left 1
    · intro wq hSw; (try dsimp only at hSw); first | (go_simp; done) | (go_simp; with_reducible rfl)
    (try simp only [Act.put, List.setIfInBounds_toArray, List.set_cons_zero, List.set_cons_succ])
    refine wpAnyH_take (i := 8) (oi := { dst := some 31, op := Op.extract (Operand.tmp 29) 1, type := 4, pos := "l6_hedging.go:360", after := #[{ on := 6, ground := Ground.data }], guard := none }) (v := ?_) rfl (by kernel_rfl) (by kernel_rfl) (by kernel_rfl) (fun _ _ _ h => h) (Or.inl ⟨by rfl, ?_⟩) (by assumption) ?_
    rotate_left 1
    · intro wq hSw; (try dsimp only at hSw); first | (go_simp; done) | (go_simp; with_reducible rfl)
    (try simp only [Act.put, List.setIfInBounds_toArray, List.set_cons_zero, List.set_cons_succ])
    obtain ⟨_, hbf, ⟨r0, r1⟩, r2, r3⟩ := KC.out _ HE6
    have hgR : w1.heap.size ≠ w.heap.size := by omega
    refine wpAnyH_ready (rs := [9]) (by kernel_rfl) (by simp) ?_
    refine AllReadyH.cons (o := { dst := none, op := Op.store 39 (Operand.tmp 8) (Operand.tmp 30), type := 0, pos := "l6_hedging.go:360", after := #[{ on := 7, ground := Ground.data }, { on := 6, ground := Ground.chain }, { on := 0, ground := Ground.phase }, { on := 1, ground := Ground.phase }, { on := 2, ground := Ground.phase }, { on := 3, ground := Ground.phase }, { on := 4, ground := Ground.phase }, { on := 5, ground := Ground.phase }, { on := 6, ground := Ground.phase }, { on := 7, ground := Ground.phase }, { on := 8, ground := Ground.phase }], guard := none }) rfl (fun K hK => ?_) AllReadyH.nil
    go_simp
    refine hK.out _ _ ⟨(far2 hgR).trans (KC.out _ HE6).1.1, (far2 hgR).trans (KC.out _ HE6).1.2.1, (far2 hgR).trans (KC.out _ HE6).1.2.2⟩ (fun hHeld => ?_)
    (try simp only [Act.put, List.setIfInBounds_toArray, List.set_cons_zero, List.set_cons_succ])
    refine wpAnyH_take (i := 10) (oi := { dst := some 9, op := Op.assign (Operand.tmp 31), type := 4, pos := "l6_hedging.go:360", after := #[{ on := 8, ground := Ground.data }, { on := 9, ground := Ground.chain }, { on := 0, ground := Ground.phase }, { on := 1, ground := Ground.phase }, { on := 2, ground := Ground.phase }, { on := 3, ground := Ground.phase }, { on := 4, ground := Ground.phase }, { on := 5, ground := Ground.phase }, { on := 6, ground := Ground.phase }, { on := 7, ground := Ground.phase }, { on := 8, ground := Ground.phase }, { on := 9, ground := Ground.phase }], guard := none }) (v := ?_) rfl (by kernel_rfl) (by kernel_rfl) (by kernel_rfl) (fun _ _ _ h => h) (Or.inl ⟨by rfl, ?_⟩) (by assumption) ?_
    rotate_left 1
    · intro wq hSw; (try dsimp only at hSw); first | (go_simp; done) | (go_simp; with_reducible rfl)
    (try simp only [Act.put, List.setIfInBounds_toArray, List.set_cons_zero, List.set_cons_succ])
    refine wpAnyH_done (by kernel_rfl) ?_ _
    have HBF := Lib.hid hbf
    go_wp2_with fail
    refine bodyPost_ret (v := .tuple #[.agg #[.int .i64 p, .int .i64 q'], .bool okk]) (by simp [results, Try.results23, go_sem, *]) rfl ⟨rfl, ?_⟩
    exact (HBF.out.setCell (p := ⟨w.heap.size, 0, none⟩) (Nat.le_refl _) _).setCell (p := ⟨w.heap.size, 1, none⟩) (Nat.le_refl _) _
/-- What RowHolding returns. -/
def rhX (u d : Int) (k : Nat) (L : List Int) : Int := rvT u d (k - 1) (L.drop 1) - rvT u d (k - 1) (L.take k)
def holdOk (n u d : Int) (L : List Int) : Bool := valsOk n u d L && decide (n ≠ 0)
def rhV (n u d : Int) (L : List Int) : Value := if holdOk n u d L = true then keptV (cutN (rhX u d n.toNat L) (((u.toNat + d.toNat) ^ n.toNat : Nat) : Int)) (cutD (rhX u d n.toNat L) (((u.toNat + d.toNat) ^ n.toNat : Nat) : Int)) else zeroP
theorem rhV_form (n u d : Int) (L : List Int) : ∃ p q ok, rhV n u d L = .tuple #[.agg #[.int .i64 p, .int .i64 q], .bool ok] := by
  unfold rhV zeroP; split
  · exact keptV_form _ _
  · exact ⟨_, _, _, rfl⟩
set_option maxRecDepth 100000 in
set_option maxHeartbeats 4000000 in
theorem rowHoldC (n u d : Int) (L : List Int) (v : Value) (w : World) (hn : L.length ≤ 1048576) (h : IntsV w w.heap.size v L) : Calls Try.prog 26 #[.int .i64 n, .int .i64 u, .int .i64 d, v] w (Gives (rhV n u d L) w) := by
  have VC := Lib.hid (fun w' (hb : Below w.heap.size w w') => valC n u d L v w' hn ((h.below hb).more hb.size))
  have VV : Hid (valV n u d L = if valsOk n u d L = true then .tuple #[.agg #[.int .i64 n, .int .i64 u, .int .i64 d], .bool true] else .tuple #[.agg #[.int .i64 0, .int .i64 0, .int .i64 0], .bool false]) := Lib.hid rfl
  have HO : Hid (holdOk n u d L = (valsOk n u d L && decide (n ≠ 0))) := Lib.hid rfl
  have RV : Hid (rhV n u d L = if holdOk n u d L = true then keptV (cutN (rhX u d n.toNat L) (((u.toNat + d.toNat) ^ n.toNat : Nat) : Int)) (cutD (rhX u d n.toNat L) (((u.toNat + d.toNat) ^ n.toNat : Nat) : Int)) else zeroP) := Lib.hid rfl
  have A1 := Lib.hid ((Below.refl w.heap.size w).alloc (Nat.le_refl _) (.cells #[.int .i64 0, .int .i64 0] 39))
  cases hk : valsOk n u d L
  · obtain ⟨q, c, rfl, _⟩ := h
    rw [hk, Bool.false_and] at HO
    rw [hk, if_neg (by decide)] at VV
    rw [HO.out, if_neg (by decide)] at RV
    rw [VV.out] at VC
    rw [RV.out]
    unfold zeroP
    clear hk VV RV HO
    go_enter Try.func26, Try.ntmps26
    go_wp2_with fail
    refine (VC.out _ A1.out).mono ?_
    rintro e w1 ⟨rfl, b1⟩
    have B2 := Lib.hid (b1.alloc b1.size (.cells #[.int .i64 0, .int .i64 0, .int .i64 0] 82))
    obtain ⟨⟨x0, y0⟩, x1, y1⟩ := res_cells B2.out
    clear b1
    go_wp2_with fail
    refine bodyPost_ret (v := .tuple #[.agg #[.int .i64 0, .int .i64 0], .bool false]) (by simp [results, Try.results26, go_sem, x0, x1]) rfl ⟨rfl, ?_⟩
    exact res_fin B2.out
  · have hk2 := hk
    unfold valsOk at hk2
    rw [Bool.and_eq_true, Bool.and_eq_true, decide_eq_true_iff] at hk2
    obtain ⟨hr, hl, hw⟩ := hk2
    obtain ⟨N, U, D, rfl, rfl, rfl, hN, hU, hD⟩ := row_mk hr
    rw [hk, Bool.true_and] at HO
    rw [hk, if_pos rfl] at VV
    rw [VV.out] at VC
    by_cases h0 : N = 0
    · subst h0
      obtain ⟨q, c, rfl, _⟩ := h
      rw [HO.out, if_neg (by decide)] at RV
      rw [RV.out]
      unfold zeroP
      clear hk VV RV HO hr hl hw
      rw [show ((0 : Nat) : Int) = 0 from rfl] at VC ⊢
      go_enter Try.func26, Try.ntmps26
      go_wp2_with fail
      refine (VC.out _ A1.out).mono ?_
      rintro e w1 ⟨rfl, b1⟩
      have B2 := Lib.hid (b1.alloc b1.size (.cells #[.int .i64 0, .int .i64 (U : Int), .int .i64 (D : Int)] 82))
      obtain ⟨⟨x0, y0⟩, x1, y1⟩ := res_cells B2.out
      clear b1
      go_wp2_with fail
      refine bodyPost_ret (v := .tuple #[.agg #[.int .i64 0, .int .i64 0], .bool false]) (by simp [results, Try.results26, go_sem, x0, x1]) rfl ⟨rfl, ?_⟩
      exact res_fin B2.out
    · obtain ⟨k, hNk⟩ : ∃ k, N = k + 1 := ⟨N - 1, by omega⟩
      have hd0 : decide ((N : Int) ≠ 0) = true := decide_eq_true (by omega)
      rw [HO.out, hd0, if_pos rfl] at RV
      rw [RV.out]
      simp only [Int.toNat_natCast]
      unfold rhX
      rw [show N - 1 = k by omega]
      have hlL : L.length = N + 1 := by omega
      obtain ⟨p, c, rfl, h1, h2, h3, h4⟩ := h
      have hI : IntsV w w.heap.size (.slice p L.length c) L := ⟨p, c, rfl, h1, h2, h3, h4⟩
      obtain ⟨b, off, rfl, hb, hc⟩ := IntsAt.get h4 (i := 0) (by omega)
      have hT := hI.tail (by omega)
      have hH := hI.head (k := N) (by omega)
      have C1 := Lib.hid (fun w' (hb : Below w.heap.size w w') => vtC N U D hU hD k (L.drop 1) _ w' (by omega) (by rw [List.length_drop]; omega) (within_drop hw) ((hT.below hb).more hb.size))
      have C2 := Lib.hid (fun w' (hb : Below w.heap.size w w') => vtC N U D hU hD k (L.take N) _ w' (by omega) (by rw [List.length_take]; omega) (within_take _ hw) ((hH.below hb).more hb.size))
      have BC := Lib.hid (fun w => btC N U D N w hU hD hN)
      have s1 := rv_small (u := (U : Int)) (d := (D : Int)) (k := k) (L := L.drop 1) (by omega) (by omega) (by rw [List.length_drop]; omega) (by omega) (within_drop hw)
      have s2 := rv_small (u := (U : Int)) (d := (D : Int)) (k := k) (L := L.take N) (by omega) (by omega) (by rw [List.length_take]; omega) (by omega) (within_take _ hw)
      have pb := pow18 (b := U + D) (k := N) (by omega) hN
      have pp := pow_pos1 (b := U + D) N (by omega)
      have RD := Lib.hid (fun w => reduceI_pos (rvT U D k (L.drop 1) - rvT U D k (L.take N)) (((U + D) ^ N : Nat) : Int) w (by omega) (by omega))
      obtain ⟨p, q', okk, hK⟩ := keptV_form (cutN (rvT U D k (L.drop 1) - rvT U D k (L.take N)) (((U + D) ^ N : Nat) : Int)) (cutD (rvT U D k (L.drop 1) - rvT U D k (L.take N)) (((U + D) ^ N : Nat) : Int))
      rw [hK] at RD ⊢
      rw [hlL] at C1 VC h1 ⊢
      rw [show N + 1 - 1 = N from rfl] at C1
      generalize rvT U D k (L.drop 1) = X1 at *
      generalize rvT U D k (L.take N) = X2 at *
      generalize (U + D) ^ N = Y at *
      unfold rwR at C1 C2 BC
      have q1 : -104871024 ≤ X1 ∧ X1 ≤ 104871024 := by omega
      have q2 : -104871024 ≤ X2 ∧ X2 ≤ 104871024 := by omega
      have k1 : (1 : Int) ≤ (N : Int) + 1 := by omega
      have k3 : (N : Int) ≤ (c : Int) := by omega
      have k4 : (N : Int) + 1 ≤ (c : Int) := by omega
      have k5 : (0 : Int) ≤ (N : Int) := by omega
      have k6 : ¬ c = 1 := by omega
      have t1 : ((N : Int) == 0) = false := by simp; omega
      clear hk VV RV HO hr hl hw hU hD pb pp hK s1 s2 hd0 hlL h2 h3 h4 hI hT hH hc hb h0 hNk
      go_enter Try.func26, Try.ntmps26
      go_wp2_with fail
      refine (VC.out _ A1.out).mono ?_
      rintro e w1 ⟨rfl, b1⟩
      have hR1 : w.heap.size < w1.heap.size := by have := b1.size; simp at this; omega
      obtain ⟨wb, hwb⟩ : ∃ wb, wb = w1.alloc (.cells #[.int .i64 (N : Int), .int .i64 (U : Int), .int .i64 (D : Int)] 82) := ⟨_, rfl⟩
      have B2 := Lib.hid (show Below (w.alloc (.cells #[.int .i64 0, .int .i64 0] 39)).heap.size (w.alloc (.cells #[.int .i64 0, .int .i64 0] 39)) wb by rw [hwb]; exact b1.alloc b1.size _)
      have T1 := Lib.hid (show RwB wb w1.heap.size N U D by rw [hwb]; exact alloc_heap w1 _)
      clear b1
      go_upto_region 4 with fail
      rw [← hwb]
      clear hwb
      have KC : Hid (∀ w', Hid (Below wb.heap.size wb w') → (w'.cell? ⟨w1.heap.size, 0, none⟩ = some (.int .i64 (N : Int)) ∧ w'.cell? ⟨w1.heap.size, 1, none⟩ = some (.int .i64 (U : Int)) ∧ w'.cell? ⟨w1.heap.size, 2, none⟩ = some (.int .i64 (D : Int))) ∧ Below w.heap.size w w' ∧ (w'.cell? ⟨w.heap.size, 0, none⟩ = some (.int .i64 0) ∧ w'.frozen? ⟨w.heap.size, 0, none⟩ = false) ∧ (w'.cell? ⟨w.heap.size, 1, none⟩ = some (.int .i64 0) ∧ w'.frozen? ⟨w.heap.size, 1, none⟩ = false)) := Lib.hid (fun w' hb => by
        have B3 := B2.out.trans (hb.out.mono B2.out.size)
        obtain ⟨r0, r1⟩ := res_cells B3
        exact ⟨(T1.out.next hb.out).cells, A1.out.trans (B3.mono A1.out.size), r0, r1⟩)
      have HD : Hid (Below wb.heap.size wb wb.drew) := Lib.hid (below_drew (Below.refl _ _))
      refine wp_region_held_drew (S := fun w' => w'.cell? ⟨w1.heap.size, 0, none⟩ = some (.int .i64 (N : Int)) ∧ w'.cell? ⟨w1.heap.size, 1, none⟩ = some (.int .i64 (U : Int)) ∧ w'.cell? ⟨w1.heap.size, 2, none⟩ = some (.int .i64 (D : Int))) (by kernel_rfl) (KC.out _ HD).1 (fun hHeld => ?_)
      refine wpAnyH_take (i := 0) (oi := { dst := some 27, op := Op.load 82 (Operand.tmp 10), type := 82, pos := "l6_hedging.go:371", after := #[], guard := none }) (v := ?_) rfl (by kernel_rfl) (by kernel_rfl) (by kernel_rfl) (fun _ _ _ h => h) (Or.inl ⟨by rfl, ?_⟩) (by assumption) ?_
      rotate_left 1
      · intro wq hSw; (try dsimp only at hSw); first | (go_simp; done) | (go_simp; with_reducible rfl)
      (try simp only [Act.put, List.setIfInBounds_toArray, List.set_cons_zero, List.set_cons_succ])
      refine wpAnyH_take (i := 1) (oi := { dst := some 28, op := Op.move (Operand.tmp 3), type := 22, pos := "l6_hedging.go:371", after := #[], guard := none }) (v := ?_) rfl (by kernel_rfl) (by kernel_rfl) (by kernel_rfl) (fun _ _ _ h => h) (Or.inl ⟨by rfl, ?_⟩) (by assumption) ?_
      rotate_left 1
      · intro wq hSw; (try dsimp only at hSw); first | (go_simp; done) | (go_simp; with_reducible rfl)
      (try simp only [Act.put, List.setIfInBounds_toArray, List.set_cons_zero, List.set_cons_succ])
      refine wpAnyH_take (i := 2) (oi := { dst := some 29, op := Op.slice 22 (Operand.tmp 28) (some (Operand.const (Value.int IntKind.i64 1))) none none, type := 22, pos := "l6_hedging.go:371", after := #[{ on := 1, ground := Ground.data }], guard := none }) (v := ?_) rfl (by kernel_rfl) (by kernel_rfl) (by kernel_rfl) (fun _ _ _ h => h) (Or.inl ⟨by rfl, ?_⟩) (by assumption) ?_
      rotate_left 1
      · intro wq hSw; (try dsimp only at hSw); first | (go_simp; done) | (go_simp; with_reducible rfl)
      (try simp only [Act.put, List.setIfInBounds_toArray, List.set_cons_zero, List.set_cons_succ])
      refine wpAnyH_take (i := 4) (oi := { dst := some 31, op := Op.load 82 (Operand.tmp 10), type := 82, pos := "l6_hedging.go:371", after := #[], guard := none }) (v := ?_) rfl (by kernel_rfl) (by kernel_rfl) (by kernel_rfl) (fun _ _ _ h => h) (Or.inl ⟨by rfl, ?_⟩) (by assumption) ?_
      rotate_left 1
      · intro wq hSw; (try dsimp only at hSw); first | (go_simp; done) | (go_simp; with_reducible rfl)
      (try simp only [Act.put, List.setIfInBounds_toArray, List.set_cons_zero, List.set_cons_succ])
      refine wpAnyH_take (i := 5) (oi := { dst := some 32, op := Op.move (Operand.tmp 3), type := 22, pos := "l6_hedging.go:371", after := #[], guard := none }) (v := ?_) rfl (by kernel_rfl) (by kernel_rfl) (by kernel_rfl) (fun _ _ _ h => h) (Or.inl ⟨by rfl, ?_⟩) (by assumption) ?_
      rotate_left 1
      · intro wq hSw; (try dsimp only at hSw); first | (go_simp; done) | (go_simp; with_reducible rfl)
      (try simp only [Act.put, List.setIfInBounds_toArray, List.set_cons_zero, List.set_cons_succ])
      refine wpAnyH_take (i := 6) (oi := { dst := some 33, op := Op.move (Operand.tmp 0), type := 3, pos := "l6_hedging.go:371", after := #[], guard := none }) (v := ?_) rfl (by kernel_rfl) (by kernel_rfl) (by kernel_rfl) (fun _ _ _ h => h) (Or.inl ⟨by rfl, ?_⟩) (by assumption) ?_
      rotate_left 1
      · intro wq hSw; (try dsimp only at hSw); first | (go_simp; done) | (go_simp; with_reducible rfl)
      (try simp only [Act.put, List.setIfInBounds_toArray, List.set_cons_zero, List.set_cons_succ])
      refine wpAnyH_take (i := 7) (oi := { dst := some 34, op := Op.slice 22 (Operand.tmp 32) none (some (Operand.tmp 33)) none, type := 22, pos := "l6_hedging.go:371", after := #[{ on := 5, ground := Ground.data }, { on := 6, ground := Ground.data }], guard := none }) (v := ?_) rfl (by kernel_rfl) (by kernel_rfl) (by kernel_rfl) (fun _ _ _ h => h) (Or.inl ⟨by rfl, ?_⟩) (by assumption) ?_
      rotate_left 1
      · intro wq hSw; (try dsimp only at hSw); first | (go_simp; done) | (go_simp; with_reducible rfl)
      (try simp only [Act.put, List.setIfInBounds_toArray, List.set_cons_zero, List.set_cons_succ])
      refine wpAnyH_take (i := 10) (oi := { dst := some 37, op := Op.load 82 (Operand.tmp 10), type := 82, pos := "l6_hedging.go:371", after := #[], guard := none }) (v := ?_) rfl (by kernel_rfl) (by kernel_rfl) (by kernel_rfl) (fun _ _ _ h => h) (Or.inl ⟨by rfl, ?_⟩) (by assumption) ?_
      rotate_left 1
      · intro wq hSw; (try dsimp only at hSw); first | (go_simp; done) | (go_simp; with_reducible rfl)
      (try simp only [Act.put, List.setIfInBounds_toArray, List.set_cons_zero, List.set_cons_succ])
      refine wpAnyH_take (i := 11) (oi := { dst := some 38, op := Op.move (Operand.tmp 0), type := 3, pos := "l6_hedging.go:371", after := #[], guard := none }) (v := ?_) rfl (by kernel_rfl) (by kernel_rfl) (by kernel_rfl) (fun _ _ _ h => h) (Or.inl ⟨by rfl, ?_⟩) (by assumption) ?_
      rotate_left 1
      · intro wq hSw; (try dsimp only at hSw); first | (go_simp; done) | (go_simp; with_reducible rfl)
      (try simp only [Act.put, List.setIfInBounds_toArray, List.set_cons_zero, List.set_cons_succ])
      refine wpAnyH_ready (rs := [3]) (by kernel_rfl) (by simp) ?_
      refine AllReadyH.cons (o := { dst := some 30, op := Op.call { callee := Callee.value (Operand.func 73), args := #[Operand.tmp 27, Operand.tmp 29], argTypes := #[82, 22] }, type := 3, pos := "l6_hedging.go:371", after := #[{ on := 0, ground := Ground.data }, { on := 2, ground := Ground.data }], guard := none }) rfl (fun KQ hKQ => ?_) AllReadyH.nil
      go_simp
      refine (C1.out _ (KC.out _ HD).2.1).mono ?_
      rintro e w4 ⟨rfl, b4⟩
      have HE4 : Hid (Below wb.heap.size wb w4) := Lib.hid (HD.out.trans (b4.mono HD.out.size))
      clear b4
      go_wp2_with fail
      refine hKQ.out _ _ ((KC.out _ HE4).1) (fun hHeld => ?_)
      (try simp only [Act.put, List.setIfInBounds_toArray, List.set_cons_zero, List.set_cons_succ])
      refine wpAnyH_ready (rs := [8]) (by kernel_rfl) (by simp) ?_
      refine AllReadyH.cons (o := { dst := some 35, op := Op.call { callee := Callee.value (Operand.func 73), args := #[Operand.tmp 31, Operand.tmp 34], argTypes := #[82, 22] }, type := 3, pos := "l6_hedging.go:371", after := #[{ on := 4, ground := Ground.data }, { on := 7, ground := Ground.data }, { on := 3, ground := Ground.chain }], guard := none }) rfl (fun KQ hKQ => ?_) AllReadyH.nil
      go_simp
      refine (C2.out _ (KC.out _ HE4).2.1).mono ?_
      rintro e w5 ⟨rfl, b5⟩
      have HE5 : Hid (Below wb.heap.size wb w5) := Lib.hid (HE4.out.trans (b5.mono HE4.out.size))
      clear b5
      go_wp2_with fail
      refine hKQ.out _ _ ((KC.out _ HE5).1) (fun hHeld => ?_)
      (try simp only [Act.put, List.setIfInBounds_toArray, List.set_cons_zero, List.set_cons_succ])
      refine wpAnyH_take (i := 9) (oi := { dst := some 36, op := Op.binOp BinOp.sub 3 (Operand.tmp 30) (Operand.tmp 35) 3, type := 3, pos := "l6_hedging.go:371", after := #[{ on := 3, ground := Ground.data }, { on := 8, ground := Ground.data }], guard := none }) (v := .int .i64 (X1 - X2)) rfl (by kernel_rfl) (by kernel_rfl) (by kernel_rfl) (fun _ _ _ h => h) (Or.inl ⟨by rfl, ?_⟩) (by assumption) ?_
      · intro wq hSw; (try dsimp only at hSw); go_simp; first | done | rfl | (rw [IntWalk.i64_in _ (by omega)])
      (try simp only [Act.put, List.setIfInBounds_toArray, List.set_cons_zero, List.set_cons_succ])
      refine wpAnyH_ready (rs := [12]) (by kernel_rfl) (by simp) ?_
      refine AllReadyH.cons (o := { dst := some 39, op := Op.call { callee := Callee.value (Operand.func 74), args := #[Operand.tmp 37, Operand.tmp 38], argTypes := #[82, 3] }, type := 3, pos := "l6_hedging.go:371", after := #[{ on := 10, ground := Ground.data }, { on := 11, ground := Ground.data }, { on := 8, ground := Ground.chain }], guard := none }) rfl (fun KQ hKQ => ?_) AllReadyH.nil
      go_simp
      refine (BC.out _).mono ?_
      rintro e w6 ⟨rfl, b6⟩
      have HE6 : Hid (Below wb.heap.size wb w6) := Lib.hid (HE5.out.trans (b6.mono HE5.out.size))
      clear b6
      go_wp2_with fail
      refine hKQ.out _ _ ((KC.out _ HE6).1) (fun hHeld => ?_)
      (try simp only [Act.put, List.setIfInBounds_toArray, List.set_cons_zero, List.set_cons_succ])
      refine wpAnyH_ready (rs := [13]) (by kernel_rfl) (by simp) ?_
      refine AllReadyH.cons (o := { dst := some 40, op := Op.call { callee := Callee.value (Operand.func 72), args := #[Operand.tmp 36, Operand.tmp 39], argTypes := #[3, 3] }, type := 40, pos := "l6_hedging.go:371", after := #[{ on := 9, ground := Ground.data }, { on := 12, ground := Ground.data }, { on := 12, ground := Ground.chain }], guard := none }) rfl (fun KQ hKQ => ?_) AllReadyH.nil
      go_simp
      refine (RD.out _).mono ?_
      rintro e w7 ⟨rfl, b7⟩
      have HE7 : Hid (Below wb.heap.size wb w7) := Lib.hid (HE6.out.trans (b7.mono HE6.out.size))
      clear b7
      go_wp2_with fail
      refine hKQ.out _ _ ((KC.out _ HE7).1) (fun hHeld => ?_)
      (try simp only [Act.put, List.setIfInBounds_toArray, List.set_cons_zero, List.set_cons_succ])
      refine wpAnyH_take (i := 14) (oi := { dst := some 41, op := Op.extract (Operand.tmp 40) 0, type := 39, pos := "l6_hedging.go:371", after := #[{ on := 13, ground := Ground.data }], guard := none }) (v := ?_) rfl (by kernel_rfl) (by kernel_rfl) (by kernel_rfl) (fun _ _ _ h => h) (Or.inl ⟨by rfl, ?_⟩) (by assumption) ?_
      rotate_left 1
      · intro wq hSw; (try dsimp only at hSw); first | (go_simp; done) | (go_simp; with_reducible rfl)
      (try simp only [Act.put, List.setIfInBounds_toArray, List.set_cons_zero, List.set_cons_succ])
      refine wpAnyH_take (i := 15) (oi := { dst := some 42, op := Op.extract (Operand.tmp 40) 1, type := 4, pos := "l6_hedging.go:371", after := #[{ on := 13, ground := Ground.data }], guard := none }) (v := ?_) rfl (by kernel_rfl) (by kernel_rfl) (by kernel_rfl) (fun _ _ _ h => h) (Or.inl ⟨by rfl, ?_⟩) (by assumption) ?_
      rotate_left 1
      · intro wq hSw; (try dsimp only at hSw); first | (go_simp; done) | (go_simp; with_reducible rfl)
      (try simp only [Act.put, List.setIfInBounds_toArray, List.set_cons_zero, List.set_cons_succ])
      obtain ⟨_, hbf, ⟨r0, r1⟩, r2, r3⟩ := KC.out _ HE7
      have hgR : w1.heap.size ≠ w.heap.size := by omega
      refine wpAnyH_ready (rs := [16]) (by kernel_rfl) (by simp) ?_
      refine AllReadyH.cons (o := { dst := none, op := Op.store 39 (Operand.tmp 8) (Operand.tmp 41), type := 0, pos := "l6_hedging.go:371", after := #[{ on := 14, ground := Ground.data }, { on := 13, ground := Ground.chain }, { on := 0, ground := Ground.phase }, { on := 1, ground := Ground.phase }, { on := 2, ground := Ground.phase }, { on := 3, ground := Ground.phase }, { on := 4, ground := Ground.phase }, { on := 5, ground := Ground.phase }, { on := 6, ground := Ground.phase }, { on := 7, ground := Ground.phase }, { on := 8, ground := Ground.phase }, { on := 9, ground := Ground.phase }, { on := 10, ground := Ground.phase }, { on := 11, ground := Ground.phase }, { on := 12, ground := Ground.phase }, { on := 13, ground := Ground.phase }, { on := 14, ground := Ground.phase }, { on := 15, ground := Ground.phase }], guard := none }) rfl (fun K hK => ?_) AllReadyH.nil
      go_simp
      refine hK.out _ _ ⟨(far2 hgR).trans (KC.out _ HE7).1.1, (far2 hgR).trans (KC.out _ HE7).1.2.1, (far2 hgR).trans (KC.out _ HE7).1.2.2⟩ (fun hHeld => ?_)
      (try simp only [Act.put, List.setIfInBounds_toArray, List.set_cons_zero, List.set_cons_succ])
      refine wpAnyH_take (i := 17) (oi := { dst := some 9, op := Op.assign (Operand.tmp 42), type := 4, pos := "l6_hedging.go:371", after := #[{ on := 15, ground := Ground.data }, { on := 16, ground := Ground.chain }, { on := 0, ground := Ground.phase }, { on := 1, ground := Ground.phase }, { on := 2, ground := Ground.phase }, { on := 3, ground := Ground.phase }, { on := 4, ground := Ground.phase }, { on := 5, ground := Ground.phase }, { on := 6, ground := Ground.phase }, { on := 7, ground := Ground.phase }, { on := 8, ground := Ground.phase }, { on := 9, ground := Ground.phase }, { on := 10, ground := Ground.phase }, { on := 11, ground := Ground.phase }, { on := 12, ground := Ground.phase }, { on := 13, ground := Ground.phase }, { on := 14, ground := Ground.phase }, { on := 15, ground := Ground.phase }, { on := 16, ground := Ground.phase }], guard := none }) (v := ?_) rfl (by kernel_rfl) (by kernel_rfl) (by kernel_rfl) (fun _ _ _ h => h) (Or.inl ⟨by rfl, ?_⟩) (by assumption) ?_
      rotate_left 1
      · intro wq hSw; (try dsimp only at hSw); first | (go_simp; done) | (go_simp; with_reducible rfl)
      (try simp only [Act.put, List.setIfInBounds_toArray, List.set_cons_zero, List.set_cons_succ])
      refine wpAnyH_done (by kernel_rfl) ?_ _
      have HBF := Lib.hid hbf
      go_wp2_with fail
      refine bodyPost_ret (v := .tuple #[.agg #[.int .i64 p, .int .i64 q'], .bool okk]) (by simp [results, Try.results26, go_sem, *]) rfl ⟨rfl, ?_⟩
      exact (HBF.out.setCell (p := ⟨w.heap.size, 0, none⟩) (Nat.le_refl _) _).setCell (p := ⟨w.heap.size, 1, none⟩) (Nat.le_refl _) _
end Go.Proofs.Ytamneibnjbimeab
