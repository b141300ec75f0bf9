/- RowHolding in the model. -/
import Derived.Test.YtamneibnjbimeabRwM
namespace Go.Proofs.Ytamneibnjbimeab
open Go.RowKit
set_option linter.unusedVariables false
set_option maxRecDepth 100000 in
set_option maxHeartbeats 4000000 in
theorem rowHoldS (n u d : Int) (L : List Int) (v : Value) (w : World) (hn : L.length ≤ 1048576) (h : IntsV w w.heap.size v L) : Calls Try.prog 25 #[.int .i64 n, .int .i64 u, .int .i64 d, v] w (Gives (rhV n u d L) w) := by
  have RC := Lib.hid (fun w => rowS n u d w)
  have VC := Lib.hid (fun w' (hb : Below w.heap.size w w') => valsS L (n + 1) v w' hn ((h.below hb).more hb.size))
  have VO : Hid (valsOk n u d L = (rowOk n u d && (decide ((L.length : Int) = n + 1) && withinB 999 L))) := Lib.hid rfl
  have HO : Hid (holdOk n u d L = (valsOk n u d L && decide (n ≠ 0))) := Lib.hid rfl
  have RV : Hid (rhV n u d L = if holdOk n u d L = true then keptV (cutN (rhX u d n.toNat L) (((u.toNat + d.toNat) ^ n.toNat : Nat) : Int)) (cutD (rhX u d n.toNat L) (((u.toNat + d.toNat) ^ n.toNat : Nat) : Int)) else zeroP) := Lib.hid rfl
  have A1 := Lib.hid ((Below.refl w.heap.size w).alloc (Nat.le_refl _) (.cells #[.int .i64 0, .int .i64 0] 39))
  have A2 := Lib.hid (Below.refl (w.alloc (.cells #[.int .i64 0, .int .i64 0] 39)).heap.size (w.alloc (.cells #[.int .i64 0, .int .i64 0] 39)))
  cases hr : rowOk n u d
  · obtain ⟨q, c, rfl, _⟩ := h
    rw [hr, Bool.false_and] at VO
    rw [VO.out, Bool.false_and] at HO
    rw [HO.out, if_neg (by decide)] at RV
    rw [hr] at RC
    rw [RV.out]
    unfold zeroP
    clear hr VO HO RV VC
    go_enter Try.func25, Try.ntmps25
    go_wp2_with fail
    refine (RC.out _).mono ?_
    rintro e w1 ⟨rfl, rfl⟩
    obtain ⟨⟨x0, y0⟩, x1, y1⟩ := res_cells A2.out
    go_wp2_with fail
    refine bodyPost_ret (v := .tuple #[.agg #[.int .i64 0, .int .i64 0], .bool false]) (by simp [results, Try.results25, go_sem, x0, x1]) rfl ⟨rfl, ?_⟩
    first | exact res_fin A2.out | exact A1.out
  · obtain ⟨N, U, D, rfl, rfl, rfl, hN, hU, hD⟩ := row_mk hr
    rw [hr, Bool.true_and] at VO
    rw [hr] at RC
    by_cases h0 : N = 0
    · subst h0
      obtain ⟨q, c, rfl, _⟩ := h
      have h00 : decide (((0 : Nat) : Int) ≠ 0) = false := by decide
      rw [h00, Bool.and_false] at HO
      rw [HO.out, if_neg (by decide)] at RV
      rw [RV.out]
      unfold zeroP
      clear hr VO HO RV VC h00
      rw [show ((0 : Nat) : Int) = 0 from rfl] at RC ⊢
      go_enter Try.func25, Try.ntmps25
      go_wp2_with fail
      refine (RC.out _).mono ?_
      rintro e w1 ⟨rfl, rfl⟩
      obtain ⟨⟨x0, y0⟩, x1, y1⟩ := res_cells A2.out
      go_wp2_with fail
      refine bodyPost_ret (v := .tuple #[.agg #[.int .i64 0, .int .i64 0], .bool false]) (by simp [results, Try.results25, go_sem, x0, x1]) rfl ⟨rfl, ?_⟩
      first | exact res_fin A2.out | exact A1.out
    · have hd0 : decide ((N : Int) ≠ 0) = true := decide_eq_true (by omega)
      rw [hd0, Bool.and_true] at HO
      rw [← VO.out] at VC
      have t1 : ((N : Int) == 0) = false := by simp; omega
      cases hk : valsOk N U D L
      · obtain ⟨q, c, rfl, _⟩ := h
        rw [hk] at VC HO
        rw [HO.out, if_neg (by decide)] at RV
        rw [RV.out]
        unfold zeroP
        clear hr hk VO HO RV hd0
        go_enter Try.func25, Try.ntmps25
        go_wp2_with fail
        refine (RC.out _).mono ?_
        rintro e w1 ⟨rfl, rfl⟩
        go_wp2_with fail
        refine (VC.out _ A1.out).mono ?_
        rintro e w2 ⟨rfl, b2⟩
        have B3 := Lib.hid (A2.out.trans (b2.mono A2.out.size))
        obtain ⟨⟨x0, y0⟩, x1, y1⟩ := res_cells B3.out
        clear b2
        go_wp2_with fail
        refine bodyPost_ret (v := .tuple #[.agg #[.int .i64 0, .int .i64 0], .bool false]) (by simp [results, Try.results25, go_sem, x0, x1]) rfl ⟨rfl, ?_⟩
        exact res_fin B3.out
      · have hk2 := hk
        unfold valsOk at hk2
        rw [Bool.and_eq_true, Bool.and_eq_true, decide_eq_true_iff] at hk2
        obtain ⟨_, hl, hw⟩ := hk2
        rw [hk] at VC HO
        rw [HO.out, if_pos rfl] at RV
        rw [RV.out]
        obtain ⟨k, hNk⟩ : ∃ k, N = k + 1 := ⟨N - 1, by omega⟩
        simp only [Int.toNat_natCast]
        unfold rhX
        rw [show N - 1 = k by omega]
        have hlL : L.length = N + 1 := by omega
        obtain ⟨p, c, rfl, h1, h2, h3, h4⟩ := h
        have hI : IntsV w w.heap.size (.slice p L.length c) L := ⟨p, c, rfl, h1, h2, h3, h4⟩
        obtain ⟨b, off, rfl, hb, hc⟩ := IntsAt.get h4 (i := 0) (by omega)
        have hT := hI.tail (by omega)
        have hH := hI.head (k := N) (by omega)
        have C1 := Lib.hid (fun w' (hb : Below w.heap.size w w') => vtS U D hU hD k (L.drop 1) _ w' (by omega) (by rw [List.length_drop]; omega) (within_drop hw) ((hT.below hb).more hb.size))
        have C2 := Lib.hid (fun w' (hb : Below w.heap.size w w') => vtS U D hU hD k (L.take N) _ w' (by omega) (by rw [List.length_take]; omega) (within_take _ hw) ((hH.below hb).more hb.size))
        have PC := Lib.hid (fun w => pow6S (U + D) N w (by omega) hN)
        rw [Int.natCast_add] at PC
        have s1 := rv_small (u := (U : Int)) (d := (D : Int)) (k := k) (L := L.drop 1) (by omega) (by omega) (by rw [List.length_drop]; omega) (by omega) (within_drop hw)
        have s2 := rv_small (u := (U : Int)) (d := (D : Int)) (k := k) (L := L.take N) (by omega) (by omega) (by rw [List.length_take]; omega) (by omega) (within_take _ hw)
        have pb := pow18 (b := U + D) (k := N) (by omega) hN
        have pp := pow_pos1 (b := U + D) N (by omega)
        have CC := Lib.hid (fun w => cutS (rvT U D k (L.drop 1) - rvT U D k (L.take N)) (((U + D) ^ N : Nat) : Int) w (by omega) (by omega))
        have KK := Lib.hid (fun w => keptS_cut (a := rvT U D k (L.drop 1) - rvT U D k (L.take N)) (b := (((U + D) ^ N : Nat) : Int)) w (by omega))
        obtain ⟨p, q', okk, hK⟩ := keptV_form (cutN (rvT U D k (L.drop 1) - rvT U D k (L.take N)) (((U + D) ^ N : Nat) : Int)) (cutD (rvT U D k (L.drop 1) - rvT U D k (L.take N)) (((U + D) ^ N : Nat) : Int))
        rw [hK] at KK ⊢
        rw [hlL] at C1 VC h1 ⊢
        rw [show N + 1 - 1 = N from rfl] at C1
        generalize cutN (rvT U D k (L.drop 1) - rvT U D k (L.take N)) (((U + D) ^ N : Nat) : Int) = P at *
        generalize cutD (rvT U D k (L.drop 1) - rvT U D k (L.take N)) (((U + D) ^ N : Nat) : Int) = Q at *
        generalize rvT U D k (L.drop 1) = X1 at *
        generalize rvT U D k (L.take N) = X2 at *
        generalize (U + D) ^ N = Y at *
        have q1 : -104871024 ≤ X1 ∧ X1 ≤ 104871024 := by omega
        have q2 : -104871024 ≤ X2 ∧ X2 ≤ 104871024 := by omega
        obtain ⟨hU1, hU2⟩ := hU
        obtain ⟨hD1, hD2⟩ := hD
        have k1 : (1 : Int) ≤ (N : Int) + 1 := by omega
        have k3 : (N : Int) ≤ (c : Int) := by omega
        have k4 : (N : Int) + 1 ≤ (c : Int) := by omega
        have k5 : (0 : Int) ≤ (N : Int) := by omega
        have k6 : ¬ c = 1 := by omega
        clear hk VO RV HO hr hl hw pb pp hK s1 s2 hd0 hlL h2 h3 h4 hI hT hH hc hb h0 hNk
        go_enter Try.func25, Try.ntmps25
        go_wp2_with fail
        refine (RC.out _).mono ?_
        rintro e w1 ⟨rfl, rfl⟩
        go_wp2_with fail
        refine (VC.out _ A1.out).mono ?_
        rintro e wb ⟨rfl, b2⟩
        have B2 := Lib.hid (A2.out.trans (b2.mono A2.out.size))
        clear b2
        go_upto_region 3 with fail
        have KC : Hid (∀ w', Hid (Below wb.heap.size wb w') → True ∧ Below w.heap.size w w' ∧ (w'.cell? ⟨w.heap.size, 0, none⟩ = some (.int .i64 0) ∧ w'.frozen? ⟨w.heap.size, 0, none⟩ = false) ∧ (w'.cell? ⟨w.heap.size, 1, none⟩ = some (.int .i64 0) ∧ w'.frozen? ⟨w.heap.size, 1, none⟩ = false)) := Lib.hid (fun w' hb => by
          have B3 := B2.out.trans (hb.out.mono B2.out.size)
          obtain ⟨r0, r1⟩ := res_cells B3
          exact ⟨trivial, A1.out.trans (B3.mono A1.out.size), r0, r1⟩)
        have HD : Hid (Below wb.heap.size wb wb.drew) := Lib.hid (below_drew (Below.refl _ _))
        refine wp_region_held_drew (S := fun w' => True) (by kernel_rfl) trivial (fun hHeld => ?_)
        refine wpAnyH_take (i := 0) (oi := { dst := some 27, op := Op.move (Operand.tmp 1), type := 3, pos := "l6_hedging.go:326", after := #[], guard := none }) (v := ?_) rfl (by kernel_rfl) (by kernel_rfl) (by kernel_rfl) (fun _ _ _ h => h) (Or.inl ⟨by rfl, ?_⟩) (by assumption) ?_
        rotate_left 1
        · intro wq hSw; (try dsimp only at hSw); first | (go_simp; done) | (go_simp; with_reducible rfl)
        (try simp only [Act.put, List.setIfInBounds_toArray, List.set_cons_zero, List.set_cons_succ])
        refine wpAnyH_take (i := 1) (oi := { dst := some 28, op := Op.move (Operand.tmp 2), type := 3, pos := "l6_hedging.go:326", after := #[], guard := none }) (v := ?_) rfl (by kernel_rfl) (by kernel_rfl) (by kernel_rfl) (fun _ _ _ h => h) (Or.inl ⟨by rfl, ?_⟩) (by assumption) ?_
        rotate_left 1
        · intro wq hSw; (try dsimp only at hSw); first | (go_simp; done) | (go_simp; with_reducible rfl)
        (try simp only [Act.put, List.setIfInBounds_toArray, List.set_cons_zero, List.set_cons_succ])
        refine wpAnyH_take (i := 2) (oi := { dst := some 29, op := Op.move (Operand.tmp 3), type := 22, pos := "l6_hedging.go:326", after := #[], guard := none }) (v := ?_) rfl (by kernel_rfl) (by kernel_rfl) (by kernel_rfl) (fun _ _ _ h => h) (Or.inl ⟨by rfl, ?_⟩) (by assumption) ?_
        rotate_left 1
        · intro wq hSw; (try dsimp only at hSw); first | (go_simp; done) | (go_simp; with_reducible rfl)
        (try simp only [Act.put, List.setIfInBounds_toArray, List.set_cons_zero, List.set_cons_succ])
        refine wpAnyH_take (i := 3) (oi := { dst := some 30, op := Op.slice 22 (Operand.tmp 29) (some (Operand.const (Value.int IntKind.i64 1))) none none, type := 22, pos := "l6_hedging.go:326", after := #[{ on := 2, ground := Ground.data }], guard := none }) (v := ?_) rfl (by kernel_rfl) (by kernel_rfl) (by kernel_rfl) (fun _ _ _ h => h) (Or.inl ⟨by rfl, ?_⟩) (by assumption) ?_
        rotate_left 1
        · intro wq hSw; (try dsimp only at hSw); first | (go_simp; done) | (go_simp; with_reducible rfl)
        (try simp only [Act.put, List.setIfInBounds_toArray, List.set_cons_zero, List.set_cons_succ])
        refine wpAnyH_take (i := 5) (oi := { dst := some 32, op := Op.move (Operand.tmp 1), type := 3, pos := "l6_hedging.go:326", after := #[], guard := none }) (v := ?_) rfl (by kernel_rfl) (by kernel_rfl) (by kernel_rfl) (fun _ _ _ h => h) (Or.inl ⟨by rfl, ?_⟩) (by assumption) ?_
        rotate_left 1
        · intro wq hSw; (try dsimp only at hSw); first | (go_simp; done) | (go_simp; with_reducible rfl)
        (try simp only [Act.put, List.setIfInBounds_toArray, List.set_cons_zero, List.set_cons_succ])
        refine wpAnyH_take (i := 6) (oi := { dst := some 33, op := Op.move (Operand.tmp 2), type := 3, pos := "l6_hedging.go:326", after := #[], guard := none }) (v := ?_) rfl (by kernel_rfl) (by kernel_rfl) (by kernel_rfl) (fun _ _ _ h => h) (Or.inl ⟨by rfl, ?_⟩) (by assumption) ?_
        rotate_left 1
        · intro wq hSw; (try dsimp only at hSw); first | (go_simp; done) | (go_simp; with_reducible rfl)
        (try simp only [Act.put, List.setIfInBounds_toArray, List.set_cons_zero, List.set_cons_succ])
        refine wpAnyH_take (i := 7) (oi := { dst := some 34, op := Op.move (Operand.tmp 3), type := 22, pos := "l6_hedging.go:326", after := #[], guard := none }) (v := ?_) rfl (by kernel_rfl) (by kernel_rfl) (by kernel_rfl) (fun _ _ _ h => h) (Or.inl ⟨by rfl, ?_⟩) (by assumption) ?_
        rotate_left 1
        · intro wq hSw; (try dsimp only at hSw); first | (go_simp; done) | (go_simp; with_reducible rfl)
        (try simp only [Act.put, List.setIfInBounds_toArray, List.set_cons_zero, List.set_cons_succ])
        refine wpAnyH_take (i := 8) (oi := { dst := some 35, op := Op.move (Operand.tmp 0), type := 3, pos := "l6_hedging.go:326", after := #[], guard := none }) (v := ?_) rfl (by kernel_rfl) (by kernel_rfl) (by kernel_rfl) (fun _ _ _ h => h) (Or.inl ⟨by rfl, ?_⟩) (by assumption) ?_
        rotate_left 1
        · intro wq hSw; (try dsimp only at hSw); first | (go_simp; done) | (go_simp; with_reducible rfl)
        (try simp only [Act.put, List.setIfInBounds_toArray, List.set_cons_zero, List.set_cons_succ])
        refine wpAnyH_take (i := 9) (oi := { dst := some 36, op := Op.slice 22 (Operand.tmp 34) none (some (Operand.tmp 35)) none, type := 22, pos := "l6_hedging.go:326", after := #[{ on := 7, ground := Ground.data }, { on := 8, ground := Ground.data }], guard := none }) (v := ?_) rfl (by kernel_rfl) (by kernel_rfl) (by kernel_rfl) (fun _ _ _ h => h) (Or.inl ⟨by rfl, ?_⟩) (by assumption) ?_
        rotate_left 1
        · intro wq hSw; (try dsimp only at hSw); first | (go_simp; done) | (go_simp; with_reducible rfl)
        (try simp only [Act.put, List.setIfInBounds_toArray, List.set_cons_zero, List.set_cons_succ])
        refine wpAnyH_take (i := 12) (oi := { dst := some 39, op := Op.move (Operand.tmp 1), type := 3, pos := "l6_hedging.go:326", after := #[], guard := none }) (v := ?_) rfl (by kernel_rfl) (by kernel_rfl) (by kernel_rfl) (fun _ _ _ h => h) (Or.inl ⟨by rfl, ?_⟩) (by assumption) ?_
        rotate_left 1
        · intro wq hSw; (try dsimp only at hSw); first | (go_simp; done) | (go_simp; with_reducible rfl)
        (try simp only [Act.put, List.setIfInBounds_toArray, List.set_cons_zero, List.set_cons_succ])
        refine wpAnyH_take (i := 13) (oi := { dst := some 40, op := Op.move (Operand.tmp 2), type := 3, pos := "l6_hedging.go:326", after := #[], guard := none }) (v := ?_) rfl (by kernel_rfl) (by kernel_rfl) (by kernel_rfl) (fun _ _ _ h => h) (Or.inl ⟨by rfl, ?_⟩) (by assumption) ?_
        rotate_left 1
        · intro wq hSw; (try dsimp only at hSw); first | (go_simp; done) | (go_simp; with_reducible rfl)
        (try simp only [Act.put, List.setIfInBounds_toArray, List.set_cons_zero, List.set_cons_succ])
        refine wpAnyH_take (i := 14) (oi := { dst := some 41, op := Op.binOp BinOp.add 3 (Operand.tmp 39) (Operand.tmp 40) 3, type := 3, pos := "l6_hedging.go:326", after := #[{ on := 12, ground := Ground.data }, { on := 13, ground := Ground.data }], guard := none }) (v := .int .i64 ((U : Int) + (D : Int))) rfl (by kernel_rfl) (by kernel_rfl) (by kernel_rfl) (fun _ _ _ h => h) (Or.inl ⟨by rfl, ?_⟩) (by assumption) ?_
        · intro wq hSw; (try dsimp only at hSw); go_simp; first | done | rfl | (rw [IntWalk.i64_in _ (by omega)])
        (try simp only [Act.put, List.setIfInBounds_toArray, List.set_cons_zero, List.set_cons_succ])
        refine wpAnyH_take (i := 15) (oi := { dst := some 42, op := Op.move (Operand.tmp 0), type := 3, pos := "l6_hedging.go:326", after := #[], guard := none }) (v := ?_) rfl (by kernel_rfl) (by kernel_rfl) (by kernel_rfl) (fun _ _ _ h => h) (Or.inl ⟨by rfl, ?_⟩) (by assumption) ?_
        rotate_left 1
        · intro wq hSw; (try dsimp only at hSw); first | (go_simp; done) | (go_simp; with_reducible rfl)
        (try simp only [Act.put, List.setIfInBounds_toArray, List.set_cons_zero, List.set_cons_succ])
        refine wpAnyH_ready (rs := [4]) (by kernel_rfl) (by simp) ?_
        refine AllReadyH.cons (o := { dst := some 31, op := Op.call { callee := Callee.value (Operand.func 69), args := #[Operand.tmp 27, Operand.tmp 28, Operand.tmp 30], argTypes := #[3, 3, 22] }, type := 3, pos := "l6_hedging.go:326", after := #[{ on := 0, ground := Ground.data }, { on := 1, ground := Ground.data }, { on := 3, ground := Ground.data }], guard := none }) rfl (fun KQ hKQ => ?_) AllReadyH.nil
        go_simp
        refine (C1.out _ (KC.out _ HD).2.1).mono ?_
        rintro e w4 ⟨rfl, b4⟩
        have HE4 : Hid (Below wb.heap.size wb w4) := Lib.hid (HD.out.trans (b4.mono HD.out.size))
        clear b4
        go_wp2_with fail
        refine hKQ.out _ _ (trivial) (fun hHeld => ?_)
        (try simp only [Act.put, List.setIfInBounds_toArray, List.set_cons_zero, List.set_cons_succ])
        refine wpAnyH_ready (rs := [10]) (by kernel_rfl) (by simp) ?_
        refine AllReadyH.cons (o := { dst := some 37, op := Op.call { callee := Callee.value (Operand.func 69), args := #[Operand.tmp 32, Operand.tmp 33, Operand.tmp 36], argTypes := #[3, 3, 22] }, type := 3, pos := "l6_hedging.go:326", after := #[{ on := 5, ground := Ground.data }, { on := 6, ground := Ground.data }, { on := 9, ground := Ground.data }, { on := 4, ground := Ground.chain }], guard := none }) rfl (fun KQ hKQ => ?_) AllReadyH.nil
        go_simp
        refine (C2.out _ (KC.out _ HE4).2.1).mono ?_
        rintro e w5 ⟨rfl, b5⟩
        have HE5 : Hid (Below wb.heap.size wb w5) := Lib.hid (HE4.out.trans (b5.mono HE4.out.size))
        clear b5
        go_wp2_with fail
        refine hKQ.out _ _ (trivial) (fun hHeld => ?_)
        (try simp only [Act.put, List.setIfInBounds_toArray, List.set_cons_zero, List.set_cons_succ])
        refine wpAnyH_take (i := 11) (oi := { dst := some 38, op := Op.binOp BinOp.sub 3 (Operand.tmp 31) (Operand.tmp 37) 3, type := 3, pos := "l6_hedging.go:326", after := #[{ on := 4, ground := Ground.data }, { on := 10, ground := Ground.data }], guard := none }) (v := .int .i64 (X1 - X2)) rfl (by kernel_rfl) (by kernel_rfl) (by kernel_rfl) (fun _ _ _ h => h) (Or.inl ⟨by rfl, ?_⟩) (by assumption) ?_
        · intro wq hSw; (try dsimp only at hSw); go_simp; first | done | rfl | (rw [IntWalk.i64_in _ (by omega)])
        (try simp only [Act.put, List.setIfInBounds_toArray, List.set_cons_zero, List.set_cons_succ])
        refine wpAnyH_ready (rs := [16]) (by kernel_rfl) (by simp) ?_
        refine AllReadyH.cons (o := { dst := some 43, op := Op.call { callee := Callee.value (Operand.func 70), args := #[Operand.tmp 41, Operand.tmp 42], argTypes := #[3, 3] }, type := 3, pos := "l6_hedging.go:326", after := #[{ on := 14, ground := Ground.data }, { on := 15, ground := Ground.data }, { on := 10, ground := Ground.chain }], guard := none }) rfl (fun KQ hKQ => ?_) AllReadyH.nil
        go_simp
        refine (PC.out _).mono ?_
        rintro e w7 ⟨rfl, rfl⟩
        skip
        go_wp2_with fail
        refine hKQ.out _ _ (trivial) (fun hHeld => ?_)
        (try simp only [Act.put, List.setIfInBounds_toArray, List.set_cons_zero, List.set_cons_succ])
        refine wpAnyH_ready (rs := [17]) (by kernel_rfl) (by simp) ?_
        refine AllReadyH.cons (o := { dst := some 44, op := Op.call { callee := Callee.value (Operand.func 68), args := #[Operand.tmp 38, Operand.tmp 43], argTypes := #[3, 3] }, type := 39, pos := "l6_hedging.go:326", after := #[{ on := 11, ground := Ground.data }, { on := 16, ground := Ground.data }, { on := 16, ground := Ground.chain }], guard := none }) rfl (fun KQ hKQ => ?_) AllReadyH.nil
        go_simp
        refine (CC.out _).mono ?_
        rintro e w6 ⟨rfl, b6⟩
        have HE6 : Hid (Below wb.heap.size wb w6) := Lib.hid (HE5.out.trans (b6.mono HE5.out.size))
        clear b6
        go_wp2_with fail
        refine hKQ.out _ _ (trivial) (fun hHeld => ?_)
        (try simp only [Act.put, List.setIfInBounds_toArray, List.set_cons_zero, List.set_cons_succ])
        refine wpAnyH_ready (rs := [18]) (by kernel_rfl) (by simp) ?_
        refine AllReadyH.cons (o := { dst := some 45, op := Op.call { callee := Callee.value (Operand.func 67), args := #[Operand.tmp 44], argTypes := #[39] }, type := 40, pos := "l6_hedging.go:326", after := #[{ on := 17, ground := Ground.data }, { on := 17, ground := Ground.chain }], guard := none }) rfl (fun KQ hKQ => ?_) AllReadyH.nil
        go_simp
        refine (KK.out _).mono ?_
        rintro e w7 ⟨rfl, b7⟩
        have HE7 : Hid (Below wb.heap.size wb w7) := Lib.hid (HE6.out.trans (b7.mono HE6.out.size))
        clear b7
        go_wp2_with fail
        refine hKQ.out _ _ (trivial) (fun hHeld => ?_)
        (try simp only [Act.put, List.setIfInBounds_toArray, List.set_cons_zero, List.set_cons_succ])
        refine wpAnyH_take (i := 19) (oi := { dst := some 46, op := Op.extract (Operand.tmp 45) 0, type := 39, pos := "l6_hedging.go:326", after := #[{ on := 18, ground := Ground.data }], guard := none }) (v := ?_) rfl (by kernel_rfl) (by kernel_rfl) (by kernel_rfl) (fun _ _ _ h => h) (Or.inl ⟨by rfl, ?_⟩) (by assumption) ?_
        rotate_left 1
        · intro wq hSw; (try dsimp only at hSw); first | (go_simp; done) | (go_simp; with_reducible rfl)
        (try simp only [Act.put, List.setIfInBounds_toArray, List.set_cons_zero, List.set_cons_succ])
        refine wpAnyH_take (i := 20) (oi := { dst := some 47, op := Op.extract (Operand.tmp 45) 1, type := 4, pos := "l6_hedging.go:326", after := #[{ on := 18, ground := Ground.data }], guard := none }) (v := ?_) rfl (by kernel_rfl) (by kernel_rfl) (by kernel_rfl) (fun _ _ _ h => h) (Or.inl ⟨by rfl, ?_⟩) (by assumption) ?_
        rotate_left 1
        · intro wq hSw; (try dsimp only at hSw); first | (go_simp; done) | (go_simp; with_reducible rfl)
        (try simp only [Act.put, List.setIfInBounds_toArray, List.set_cons_zero, List.set_cons_succ])
        obtain ⟨_, hbf, ⟨r0, r1⟩, r2, r3⟩ := KC.out _ HE7
        refine wpAnyH_ready (rs := [21]) (by kernel_rfl) (by simp) ?_
        refine AllReadyH.cons (o := { dst := none, op := Op.store 39 (Operand.tmp 8) (Operand.tmp 46), type := 0, pos := "l6_hedging.go:326", after := #[{ on := 19, ground := Ground.data }, { on := 18, ground := Ground.chain }, { on := 0, ground := Ground.phase }, { on := 1, ground := Ground.phase }, { on := 2, ground := Ground.phase }, { on := 3, ground := Ground.phase }, { on := 4, ground := Ground.phase }, { on := 5, ground := Ground.phase }, { on := 6, ground := Ground.phase }, { on := 7, ground := Ground.phase }, { on := 8, ground := Ground.phase }, { on := 9, ground := Ground.phase }, { on := 10, ground := Ground.phase }, { on := 11, ground := Ground.phase }, { on := 12, ground := Ground.phase }, { on := 13, ground := Ground.phase }, { on := 14, ground := Ground.phase }, { on := 15, ground := Ground.phase }, { on := 16, ground := Ground.phase }, { on := 17, ground := Ground.phase }, { on := 18, ground := Ground.phase }, { on := 19, ground := Ground.phase }, { on := 20, ground := Ground.phase }], guard := none }) rfl (fun K hK => ?_) AllReadyH.nil
        go_simp
        refine hK.out _ _ trivial (fun hHeld => ?_)
        (try simp only [Act.put, List.setIfInBounds_toArray, List.set_cons_zero, List.set_cons_succ])
        refine wpAnyH_take (i := 22) (oi := { dst := some 9, op := Op.assign (Operand.tmp 47), type := 4, pos := "l6_hedging.go:326", after := #[{ on := 20, ground := Ground.data }, { on := 21, ground := Ground.chain }, { on := 0, ground := Ground.phase }, { on := 1, ground := Ground.phase }, { on := 2, ground := Ground.phase }, { on := 3, ground := Ground.phase }, { on := 4, ground := Ground.phase }, { on := 5, ground := Ground.phase }, { on := 6, ground := Ground.phase }, { on := 7, ground := Ground.phase }, { on := 8, ground := Ground.phase }, { on := 9, ground := Ground.phase }, { on := 10, ground := Ground.phase }, { on := 11, ground := Ground.phase }, { on := 12, ground := Ground.phase }, { on := 13, ground := Ground.phase }, { on := 14, ground := Ground.phase }, { on := 15, ground := Ground.phase }, { on := 16, ground := Ground.phase }, { on := 17, ground := Ground.phase }, { on := 18, ground := Ground.phase }, { on := 19, ground := Ground.phase }, { on := 20, ground := Ground.phase }, { on := 21, ground := Ground.phase }], guard := none }) (v := ?_) rfl (by kernel_rfl) (by kernel_rfl) (by kernel_rfl) (fun _ _ _ h => h) (Or.inl ⟨by rfl, ?_⟩) (by assumption) ?_
        rotate_left 1
        · intro wq hSw; (try dsimp only at hSw); first | (go_simp; done) | (go_simp; with_reducible rfl)
        (try simp only [Act.put, List.setIfInBounds_toArray, List.set_cons_zero, List.set_cons_succ])
        refine wpAnyH_done (by kernel_rfl) ?_ _
        have HBF := Lib.hid hbf
        go_wp2_with fail
        refine bodyPost_ret (v := .tuple #[.agg #[.int .i64 p, .int .i64 q'], .bool okk]) (by simp [results, Try.results25, go_sem, *]) rfl ⟨rfl, ?_⟩
        exact (HBF.out.setCell (p := ⟨w.heap.size, 0, none⟩) (Nat.le_refl _) _).setCell (p := ⟨w.heap.size, 1, none⟩) (Nat.le_refl _) _
end Go.Proofs.Ytamneibnjbimeab
