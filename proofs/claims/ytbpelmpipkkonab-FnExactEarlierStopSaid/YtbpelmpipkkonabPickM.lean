/- The stoppings chosen of two, in the model; EarlierStop and LaterStop. -/
import Derived.Test.YtbpelmpipkkonabPickI
import Derived.Test.YtbpelmpipkkonabPutS
import Derived.Test.YtbpelmpipkkonabStopM
import Derived.Test.YtbpelmpipkkonabHeldMore
import Derived.Deep.LoopGhost
import Derived.Deep.RegionHeld3
namespace Go.Proofs.Ytbpelmpipkkonab
open Go.RowKit
set_option linter.unusedVariables false
theorem moreP (a b : Int) (w : World) : Calls Try.prog 112 #[.int .i64 a, .int .i64 b] w fun e w' => e = .returned (.int .i64 (oneOf true a b)) ∧ w = w' := by
  have D : Hid (oneOf true a b = if b < a then a else b) := Lib.hid rfl
  by_cases h : b < a
  · have R : Hid (oneOf true a b = a) := Lib.hid (by rw [D.out, if_pos h])
    rw [R.out]
    clear R D
    go_enter Try.func112, Try.ntmps112
    go_wp2
    go_ret
    exact ⟨rfl, rfl⟩
  · have R : Hid (oneOf true a b = b) := Lib.hid (by rw [D.out, if_neg h])
    rw [R.out]
    clear R D
    go_enter Try.func112, Try.ntmps112
    go_wp2
    go_ret
    exact ⟨rfl, rfl⟩
theorem lessP (a b : Int) (w : World) : Calls Try.prog 113 #[.int .i64 a, .int .i64 b] w fun e w' => e = .returned (.int .i64 (oneOf false a b)) ∧ w = w' := by
  have D : Hid (oneOf false a b = if a < b then a else b) := Lib.hid rfl
  by_cases h : a < b
  · have R : Hid (oneOf false a b = a) := Lib.hid (by rw [D.out, if_pos h])
    rw [R.out]
    clear R D
    go_enter Try.func113, Try.ntmps113
    go_wp2
    go_ret
    exact ⟨rfl, rfl⟩
  · have R : Hid (oneOf false a b = b) := Lib.hid (by rw [D.out, if_neg h])
    rw [R.out]
    clear R D
    go_enter Try.func113, Try.ntmps113
    go_wp2
    go_ret
    exact ⟨rfl, rfl⟩
set_option maxRecDepth 100000 in
set_option maxHeartbeats 8000000 in
theorem pickSp (ps ws a b : List Int) (lt : Bool) (v u1 u2 : Value) (w : World) (sa : Stop ps ws a) (sb : Stop ps ws b) (hn1 : a.length ≤ 1048576) (hn2 : b.length ≤ 1048576)
    (h : TreeV w w.heap.size v ps ws) (hu : IntsV w w.heap.size u1 a) (hv : IntsV w w.heap.size u2 b) :
    Calls Try.prog 81 #[v, u1, u2, .bool lt] w (NewInts (pickT ps a b lt) w) := by
  have gd := sa.good
  have EN := Lib.hid (fun w' (hb : Below w.heap.size w w') => endsS ps ws v w' (h.boxed hb) gd.n24 (parAll gd))
  have OA := Lib.hid (fun (x : Nat) (hx : x < ps.length) w' (hb : Below w.heap.size w w') => onS ps ws a v u1 x w' gd hx hn1 (h.boxed hb) ((hu.below hb).more hb.size))
  have OB := Lib.hid (fun (x : Nat) (hx : x < ps.length) w' (hb : Below w.heap.size w w') => onS ps ws b v u2 x w' gd hx hn2 (h.boxed hb) ((hv.below hb).more hb.size))
  have WA := Lib.hid (fun x (hx : x < ps.length) (hl : leafB ps x = true) => (sa.end_ hx hl).1)
  have WB := Lib.hid (fun x (hx : x < ps.length) (hl : leafB ps x = true) => (sb.end_ hx hl).1)
  have PA := Lib.hid (fun k (hk : k < (endsT ps).length) => pickC_at ps a b lt hk)
  have PI := Lib.hid (fun k (hk : k < (endsT ps).length) => pickC_in sa sb lt hk)
  have PL := pickC_len ps a b lt
  have EP := ends_pos gd
  have hn24 := gd.n24
  have hel := Nat.le_trans (ends_le ps) hn24
  have EI := Lib.hid (fun i (hi : i < (endsT ps).length) => ends_in hi)
  have PT := Lib.hid (fun (k x : Nat) (hk : k < (pickC ps a b lt).length) (hx : (pickC ps a b lt).getD k 0 = (x : Int)) (h : x < ps.length) => put_take hk hx h)
  have Z0 : Hid (nodesW (fun y => inL ((pickC ps a b lt).take 0) (y : Int)) ps.length = []) := Lib.hid (by
    rw [List.take_zero]
    unfold nodesW
    rw [List.map_eq_nil_iff, List.filter_eq_nil_iff]
    intro y _
    rw [inL_nil]; simp)
  have ALL : Hid (∀ k, (pickC ps a b lt).length ≤ k → nodesW (fun y => inL ((pickC ps a b lt).take k) (y : Int)) ps.length = pickT ps a b lt) := Lib.hid (fun k hk => by rw [List.take_of_length_le hk]; rfl)
  have NL := Lib.hid (fun k => nodesW_len (fun y => inL ((pickC ps a b lt).take k) (y : Int)) ps.length)
  obtain ⟨p1, c1, p2, c2, rfl⟩ := h.shape
  obtain ⟨q1, d1, rfl, _⟩ := hu
  obtain ⟨q2, d2, rfl, _⟩ := hv
  clear h gd sa sb
  have B1 := ((Below.refl w.heap.size w).alloc (Nat.le_refl _) (.cells #[.slice p1 ps.length c1, .slice p2 ws.length c2] 28)).alloc (by simp) (.cells #[] 3)
  have T1 := Lib.hid (TBox.alloc (show TBox (w.alloc (.cells #[.slice p1 ps.length c1, .slice p2 ws.length c2] 28)) w.heap.size (.slice p1 ps.length c1) (.slice p2 ws.length c2) from alloc_heap w _) (.cells #[] 3))
  have O1 := Lib.hid (OwnV.empty (w.alloc (.cells #[.slice p1 ps.length c1, .slice p2 ws.length c2] 28)) w.heap.size (by simp))
  rw [show (w.alloc (.cells #[.slice p1 ps.length c1, .slice p2 ws.length c2] 28)).heap.size = w.heap.size + 1 by simp] at O1
  obtain ⟨x0, x1⟩ := T1.out.cells
  obtain ⟨wa, hwa⟩ : ∃ wa, wa = (w.alloc (.cells #[.slice p1 ps.length c1, .slice p2 ws.length c2] 28)).alloc (.cells #[] 3) := ⟨_, rfl⟩
  rw [← hwa] at B1 T1 O1
  have HBA := Lib.hid B1
  clear B1
  obtain ⟨E, hE⟩ : ∃ E, E = endsT ps := ⟨_, rfl⟩
  rw [← hE] at EN PA PI PL EP hel EI
  clear hE
  obtain ⟨C, hC⟩ : ∃ C, C = pickC ps a b lt := ⟨_, rfl⟩
  rw [← hC] at PA PI PL PT Z0 ALL NL
  clear hC
  go_enter Try.func81, Try.ntmps81
  go_wp2_with fail
  rw [← hwa]
  clear hwa
  refine (EN.out _ HBA.out).mono ?_
  rintro e w2 ⟨ue, rfl, o2, b2⟩
  obtain ⟨g, ce, rfl, hg1, hg2⟩ := o2.shape EP
  have HB2 := Lib.hid (HBA.out.trans (b2.mono HBA.out.size))
  have HT2 := Lib.hid (T1.out.below b2 T1.out.lt)
  have HO2 := Lib.hid ((O1.out.below b2).wide b2.size (Nat.le_refl _))
  have DC := Lib.hid (fun j (hj : j < E.length) => o2.cellGet (j := j) hj)
  have HG := Lib.hid hg2
  have PLE1 : C.length ≤ E.length := by omega
  have PLE2 : E.length ≤ C.length := by omega
  clear b2 o2 x0 x1 hg1 hg2 T1 O1 HBA EN PL
  go_wp2
  go_loopg [9, 11] E.length (fun gg o i wr => ∃ k : Nat, k ≤ E.length ∧ E.length - k ≤ gg ∧ i = .int .i64 k ∧ (∃ go co, o = .slice (some ⟨go, 0, none⟩) (nodesW (fun y => inL (C.take k) (y : Int)) ps.length).length co) ∧ Hid (OwnV wr w.heap.size wr.heap.size o (nodesW (fun y => inL (C.take k) (y : Int)) ps.length)) ∧ Hid (Below w2.heap.size w2 wr))
  case atStart => exact ⟨0, Nat.zero_le _, by omega, rfl, ⟨_, _, by rw [Z0.out]; rfl⟩, Lib.hid (by rw [Z0.out]; exact HO2.out), Lib.hid (Below.refl _ _)⟩
  case round =>
    obtain ⟨k, hk, hgg, rfl, ⟨go, co, rfl⟩, HO, HB⟩ := hrel
    have HBW := Lib.hid (HB2.out.trans (HB.out.mono HB2.out.size))
    have HT := Lib.hid (HT2.out.below HB.out HT2.out.lt)
    have hce0 := fun (hk' : k < E.length) => (HB.out.cell (p := ⟨g, k, none⟩) HG.out).trans (DC.out k hk')
    by_cases hlt : k < E.length
    · obtain ⟨x, hx, hxl, hxf⟩ := EI.out k hlt
      have hce := hce0 hlt
      rw [← hx] at hce
      have pa := PA.out k hlt
      rw [← hx, Int.toNat_natCast] at pa
      obtain ⟨y, hy, hyl⟩ := PI.out k hlt
      have PUT := Lib.hid (PT.out k y (by omega) hy hyl)
      rw [hy] at pa
      have CA : Hid (∀ w', Hid (Below wr.heap.size wr w') → Calls Try.prog 62 #[.agg #[.slice p1 ps.length c1, .slice p2 ws.length c2], .slice q1 a.length d1, .int .i64 x] w' (NewInts [(nodT ps a).getD x 0] w')) := Lib.hid (fun w' hb => by rw [← WA.out x hxl hxf]; exact OA.out x hxl w' (hb_full HBW hb))
      have CB : Hid (∀ w', Hid (Below wr.heap.size wr w') → Calls Try.prog 62 #[.agg #[.slice p1 ps.length c1, .slice p2 ws.length c2], .slice q2 b.length d2, .int .i64 x] w' (NewInts [(nodT ps b).getD x 0] w')) := Lib.hid (fun w' hb => by rw [← WB.out x hxl hxf]; exact OB.out x hxl w' (hb_full HBW hb))
      have hgw : g < wr.heap.size := Nat.lt_of_lt_of_le HG.out HB.out.size
      have KC : Hid (∀ w', Hid (Below wr.heap.size wr w') → w'.cell? ⟨w.heap.size, 0, none⟩ = some (.slice p1 ps.length c1) ∧ w'.cell? ⟨w.heap.size, 1, none⟩ = some (.slice p2 ws.length c2) ∧ w'.cell? ⟨g, k, none⟩ = some (.int .i64 (x : Int))) := Lib.hid (fun w' hb => ⟨(HT.out.below hb.out HT.out.lt).cells.1, (HT.out.below hb.out HT.out.lt).cells.2, (hb.out.cell (p := ⟨g, k, none⟩) hgw).trans hce⟩)
      have HD : Hid (Below wr.heap.size wr wr.drew) := Lib.hid (below_drew (Below.refl _ _))
      obtain ⟨na, hna⟩ : ∃ na, na = (nodT ps a).getD x 0 := ⟨_, rfl⟩
      obtain ⟨nb, hnb⟩ : ∃ nb, nb = (nodT ps b).getD x 0 := ⟨_, rfl⟩
      rw [← hna] at CA pa
      rw [← hnb] at CB pa
      have PAH := Lib.hid pa
      have LLE : (nodesW (fun y => inL (C.take k) (y : Int)) ps.length).length ≤ 24 := Nat.le_trans (NL.out k) hn24
      obtain ⟨x0, x1, xe⟩ := KC.out _ HD
      have x0' := HT.out.cells.1
      have x1' := HT.out.cells.2
      have i0 : (0 : Int) ≤ (k : Int) := by omega
      have i1 : (k : Int) < (E.length : Int) := by omega
      clear hx hce0 pa hna hnb
      go_wp2_with fail
      refine wp_region_held_drew (S := fun w' => w'.cell? ⟨w.heap.size, 0, none⟩ = some (.slice p1 ps.length c1) ∧ w'.cell? ⟨w.heap.size, 1, none⟩ = some (.slice p2 ws.length c2) ∧ w'.cell? ⟨g, k, none⟩ = some (.int .i64 (x : Int))) (by kernel_rfl) (KC.out _ HD) (fun hHeld => ?_)
      refine wpAnyH_take (i := 0) (oi := { dst := some 23, op := Op.load 28 (Operand.tmp 4), type := 28, pos := "l3_martingales.go:212", after := #[], guard := none }) (v := ?_) rfl (by kernel_rfl) (by kernel_rfl) (by kernel_rfl) (fun _ _ _ h => h) (Or.inl ⟨by rfl, ?_⟩) (by assumption) ?_
      rotate_left 1
      · intro wq hSw; (try dsimp only at hSw); first | (go_simp; done) | (go_simp; with_reducible rfl)
      (try simp only [Act.put, List.setIfInBounds_toArray, List.set_cons_zero, List.set_cons_succ])
      refine wpAnyH_take (i := 1) (oi := { dst := some 24, op := Op.move (Operand.tmp 1), type := 22, pos := "l3_martingales.go:212", after := #[], guard := none }) (v := ?_) rfl (by kernel_rfl) (by kernel_rfl) (by kernel_rfl) (fun _ _ _ h => h) (Or.inl ⟨by rfl, ?_⟩) (by assumption) ?_
      rotate_left 1
      · intro wq hSw; (try dsimp only at hSw); first | (go_simp; done) | (go_simp; with_reducible rfl)
      (try simp only [Act.put, List.setIfInBounds_toArray, List.set_cons_zero, List.set_cons_succ])
      refine wpAnyH_take (i := 2) (oi := { dst := some 25, op := Op.move (Operand.tmp 10), type := 22, pos := "l3_martingales.go:212", after := #[], guard := none }) (v := ?_) rfl (by kernel_rfl) (by kernel_rfl) (by kernel_rfl) (fun _ _ _ h => h) (Or.inl ⟨by rfl, ?_⟩) (by assumption) ?_
      rotate_left 1
      · intro wq hSw; (try dsimp only at hSw); first | (go_simp; done) | (go_simp; with_reducible rfl)
      (try simp only [Act.put, List.setIfInBounds_toArray, List.set_cons_zero, List.set_cons_succ])
      refine wpAnyH_take (i := 3) (oi := { dst := some 26, op := Op.move (Operand.tmp 11), type := 3, pos := "l3_martingales.go:212", after := #[], guard := none }) (v := ?_) rfl (by kernel_rfl) (by kernel_rfl) (by kernel_rfl) (fun _ _ _ h => h) (Or.inl ⟨by rfl, ?_⟩) (by assumption) ?_
      rotate_left 1
      · intro wq hSw; (try dsimp only at hSw); first | (go_simp; done) | (go_simp; with_reducible rfl)
      (try simp only [Act.put, List.setIfInBounds_toArray, List.set_cons_zero, List.set_cons_succ])
      refine wpAnyH_take (i := 4) (oi := { dst := some 27, op := Op.indexAddr 22 (Operand.tmp 25) (Operand.tmp 26), type := 0, pos := "l3_martingales.go:212", after := #[{ on := 2, ground := Ground.data }, { on := 3, ground := Ground.data }], guard := none }) (v := ?_) rfl (by kernel_rfl) (by kernel_rfl) (by kernel_rfl) (fun _ _ _ h => h) (Or.inl ⟨by rfl, ?_⟩) (by assumption) ?_
      rotate_left 1
      · intro wq hSw; (try dsimp only at hSw); first | (go_simp; done) | (go_simp; with_reducible rfl)
      (try simp only [Act.put, List.setIfInBounds_toArray, List.set_cons_zero, List.set_cons_succ])
      refine wpAnyH_take (i := 5) (oi := { dst := some 28, op := Op.load 3 (Operand.tmp 27), type := 3, pos := "l3_martingales.go:212", after := #[{ on := 4, ground := Ground.data }], guard := none }) (v := ?_) rfl (by kernel_rfl) (by kernel_rfl) (by kernel_rfl) (fun _ _ _ h => h) (Or.inl ⟨by rfl, ?_⟩) (by assumption) ?_
      rotate_left 1
      · intro wq hSw; (try dsimp only at hSw); first | (go_simp; done) | (go_simp; with_reducible rfl)
      (try simp only [Act.put, List.setIfInBounds_toArray, List.set_cons_zero, List.set_cons_succ])
      refine wpAnyH_take (i := 9) (oi := { dst := some 32, op := Op.load 28 (Operand.tmp 4), type := 28, pos := "l3_martingales.go:212", after := #[], guard := none }) (v := ?_) rfl (by kernel_rfl) (by kernel_rfl) (by kernel_rfl) (fun _ _ _ h => h) (Or.inl ⟨by rfl, ?_⟩) (by assumption) ?_
      rotate_left 1
      · intro wq hSw; (try dsimp only at hSw); first | (go_simp; done) | (go_simp; with_reducible rfl)
      (try simp only [Act.put, List.setIfInBounds_toArray, List.set_cons_zero, List.set_cons_succ])
      refine wpAnyH_take (i := 10) (oi := { dst := some 33, op := Op.move (Operand.tmp 2), type := 22, pos := "l3_martingales.go:212", after := #[], guard := none }) (v := ?_) rfl (by kernel_rfl) (by kernel_rfl) (by kernel_rfl) (fun _ _ _ h => h) (Or.inl ⟨by rfl, ?_⟩) (by assumption) ?_
      rotate_left 1
      · intro wq hSw; (try dsimp only at hSw); first | (go_simp; done) | (go_simp; with_reducible rfl)
      (try simp only [Act.put, List.setIfInBounds_toArray, List.set_cons_zero, List.set_cons_succ])
      refine wpAnyH_take (i := 11) (oi := { dst := some 34, op := Op.move (Operand.tmp 10), type := 22, pos := "l3_martingales.go:212", after := #[], guard := none }) (v := ?_) rfl (by kernel_rfl) (by kernel_rfl) (by kernel_rfl) (fun _ _ _ h => h) (Or.inl ⟨by rfl, ?_⟩) (by assumption) ?_
      rotate_left 1
      · intro wq hSw; (try dsimp only at hSw); first | (go_simp; done) | (go_simp; with_reducible rfl)
      (try simp only [Act.put, List.setIfInBounds_toArray, List.set_cons_zero, List.set_cons_succ])
      refine wpAnyH_take (i := 12) (oi := { dst := some 35, op := Op.move (Operand.tmp 11), type := 3, pos := "l3_martingales.go:212", after := #[], guard := none }) (v := ?_) rfl (by kernel_rfl) (by kernel_rfl) (by kernel_rfl) (fun _ _ _ h => h) (Or.inl ⟨by rfl, ?_⟩) (by assumption) ?_
      rotate_left 1
      · intro wq hSw; (try dsimp only at hSw); first | (go_simp; done) | (go_simp; with_reducible rfl)
      (try simp only [Act.put, List.setIfInBounds_toArray, List.set_cons_zero, List.set_cons_succ])
      refine wpAnyH_take (i := 13) (oi := { dst := some 36, op := Op.indexAddr 22 (Operand.tmp 34) (Operand.tmp 35), type := 0, pos := "l3_martingales.go:212", after := #[{ on := 11, ground := Ground.data }, { on := 12, ground := Ground.data }], guard := none }) (v := ?_) rfl (by kernel_rfl) (by kernel_rfl) (by kernel_rfl) (fun _ _ _ h => h) (Or.inl ⟨by rfl, ?_⟩) (by assumption) ?_
      rotate_left 1
      · intro wq hSw; (try dsimp only at hSw); first | (go_simp; done) | (go_simp; with_reducible rfl)
      (try simp only [Act.put, List.setIfInBounds_toArray, List.set_cons_zero, List.set_cons_succ])
      refine wpAnyH_take (i := 14) (oi := { dst := some 37, op := Op.load 3 (Operand.tmp 36), type := 3, pos := "l3_martingales.go:212", after := #[{ on := 13, ground := Ground.data }], guard := none }) (v := ?_) rfl (by kernel_rfl) (by kernel_rfl) (by kernel_rfl) (fun _ _ _ h => h) (Or.inl ⟨by rfl, ?_⟩) (by assumption) ?_
      rotate_left 1
      · intro wq hSw; (try dsimp only at hSw); first | (go_simp; done) | (go_simp; with_reducible rfl)
      (try simp only [Act.put, List.setIfInBounds_toArray, List.set_cons_zero, List.set_cons_succ])
      refine wpAnyH_ready (rs := [6]) (by kernel_rfl) (by simp) ?_
      refine AllReadyH.cons (o := { dst := some 29, op := Op.call { callee := Callee.value (Operand.func 62), args := #[Operand.tmp 23, Operand.tmp 24, Operand.tmp 28], argTypes := #[28, 22, 3] }, type := 22, pos := "l3_martingales.go:212", after := #[{ on := 0, ground := Ground.data }, { on := 1, ground := Ground.data }, { on := 5, ground := Ground.data }], guard := none }) rfl (fun K hK => ?_) AllReadyH.nil
      go_simp
      refine (CA.out _ HD).mono ?_
      rintro e w8 ⟨u8, rfl, o8, b8⟩
      obtain ⟨g8, c8, rfl, _, hg8⟩ := o8.shape (by simp)
      have hc8 := o8.cellGet (j := 0) (by simp)
      simp only [List.getD_cons_zero] at hc8
      have HE8 := hb_next (wa := wr) HD b8
      clear b8 o8
      go_wp2_with fail
      refine hK.out _ _ (KC.out _ HE8) (fun hHeld => ?_)
      (try simp only [Act.put, List.setIfInBounds_toArray, List.set_cons_zero, List.set_cons_succ])
      refine held_more (S' := fun w' => w'.cell? ⟨w.heap.size, 0, none⟩ = some (.slice p1 ps.length c1) ∧ w'.cell? ⟨w.heap.size, 1, none⟩ = some (.slice p2 ws.length c2) ∧ w'.cell? ⟨g, k, none⟩ = some (.int .i64 (x : Int)) ∧ w'.cell? ⟨g8, 0, none⟩ = some (.int .i64 na)) (fun w' h => ⟨h.1, h.2.1, h.2.2.1⟩) _ _ _ _ ?_
      have hHeld2 : (fun w' : World => w'.cell? ⟨w.heap.size, 0, none⟩ = some (.slice p1 ps.length c1) ∧ w'.cell? ⟨w.heap.size, 1, none⟩ = some (.slice p2 ws.length c2) ∧ w'.cell? ⟨g, k, none⟩ = some (.int .i64 (x : Int)) ∧ w'.cell? ⟨g8, 0, none⟩ = some (.int .i64 na)) w8 := ⟨(KC.out _ HE8).1, (KC.out _ HE8).2.1, (KC.out _ HE8).2.2, hc8⟩
      refine wpAnyH_take (i := 7) (oi := { dst := some 30, op := Op.indexAddr 22 (Operand.tmp 29) (Operand.const (Value.int IntKind.i64 0)), type := 0, pos := "l3_martingales.go:212", after := #[{ on := 6, ground := Ground.data }], guard := none }) (v := ?_) rfl (by kernel_rfl) (by kernel_rfl) (by kernel_rfl) (fun _ _ _ h => h) (Or.inl ⟨by rfl, ?_⟩) (by assumption) ?_
      rotate_left 1
      · intro wq hSw; (try dsimp only at hSw); first | (go_simp; done) | (go_simp; with_reducible rfl)
      (try simp only [Act.put, List.setIfInBounds_toArray, List.set_cons_zero, List.set_cons_succ])
      refine wpAnyH_take (i := 8) (oi := { dst := some 31, op := Op.load 3 (Operand.tmp 30), type := 3, pos := "l3_martingales.go:212", after := #[{ on := 7, ground := Ground.data }], guard := none }) (v := ?_) rfl (by kernel_rfl) (by kernel_rfl) (by kernel_rfl) (fun _ _ _ h => h) (Or.inl ⟨by rfl, ?_⟩) (by assumption) ?_
      rotate_left 1
      · intro wq hSw; (try dsimp only at hSw); first | (go_simp; done) | (go_simp; with_reducible rfl)
      (try simp only [Act.put, List.setIfInBounds_toArray, List.set_cons_zero, List.set_cons_succ])
      refine wpAnyH_ready (rs := [15]) (by kernel_rfl) (by simp) ?_
      refine AllReadyH.cons (o := { dst := some 38, op := Op.call { callee := Callee.value (Operand.func 62), args := #[Operand.tmp 32, Operand.tmp 33, Operand.tmp 37], argTypes := #[28, 22, 3] }, type := 22, pos := "l3_martingales.go:212", after := #[{ on := 9, ground := Ground.data }, { on := 10, ground := Ground.data }, { on := 14, ground := Ground.data }, { on := 6, ground := Ground.chain }], guard := none }) rfl (fun K hK => ?_) AllReadyH.nil
      go_simp
      refine (CB.out _ HE8).mono ?_
      rintro e w9 ⟨u9, rfl, o9, b9⟩
      obtain ⟨g9, c9, rfl, _, hg9⟩ := o9.shape (by simp)
      have hc9 := o9.cellGet (j := 0) (by simp)
      simp only [List.getD_cons_zero] at hc9
      have hc8' := (b9.cell (p := ⟨g8, 0, none⟩) hg8).trans hc8
      have HE9 := hb_next (wa := wr) HE8 b9
      clear b9 o9
      go_wp2_with fail
      refine hK.out _ _ (⟨(KC.out _ HE9).1, (KC.out _ HE9).2.1, (KC.out _ HE9).2.2, hc8'⟩) (fun hHeld => ?_)
      (try simp only [Act.put, List.setIfInBounds_toArray, List.set_cons_zero, List.set_cons_succ])
      refine held_more (S' := fun w' => w'.cell? ⟨w.heap.size, 0, none⟩ = some (.slice p1 ps.length c1) ∧ w'.cell? ⟨w.heap.size, 1, none⟩ = some (.slice p2 ws.length c2) ∧ w'.cell? ⟨g, k, none⟩ = some (.int .i64 (x : Int)) ∧ w'.cell? ⟨g8, 0, none⟩ = some (.int .i64 na) ∧ w'.cell? ⟨g9, 0, none⟩ = some (.int .i64 nb)) (fun w' h => ⟨h.1, h.2.1, h.2.2.1, h.2.2.2.1⟩) _ _ _ _ ?_
      have hHeld3 : (fun w' : World => w'.cell? ⟨w.heap.size, 0, none⟩ = some (.slice p1 ps.length c1) ∧ w'.cell? ⟨w.heap.size, 1, none⟩ = some (.slice p2 ws.length c2) ∧ w'.cell? ⟨g, k, none⟩ = some (.int .i64 (x : Int)) ∧ w'.cell? ⟨g8, 0, none⟩ = some (.int .i64 na) ∧ w'.cell? ⟨g9, 0, none⟩ = some (.int .i64 nb)) w9 := ⟨(KC.out _ HE9).1, (KC.out _ HE9).2.1, (KC.out _ HE9).2.2, hc8', hc9⟩
      refine wpAnyH_take (i := 16) (oi := { dst := some 39, op := Op.indexAddr 22 (Operand.tmp 38) (Operand.const (Value.int IntKind.i64 0)), type := 0, pos := "l3_martingales.go:212", after := #[{ on := 15, ground := Ground.data }, { on := 18, ground := Ground.gcOnly Departure.lateStores }], guard := none }) (v := ?_) rfl (by kernel_rfl) (by kernel_rfl) (by kernel_rfl) (fun _ _ _ h => h) (Or.inl ⟨by rfl, ?_⟩) (by assumption) ?_
      rotate_left 1
      · intro wq hSw; (try dsimp only at hSw); first | (go_simp; done) | (go_simp; with_reducible rfl)
      (try simp only [Act.put, List.setIfInBounds_toArray, List.set_cons_zero, List.set_cons_succ])
      refine wpAnyH_take (i := 17) (oi := { dst := some 40, op := Op.load 3 (Operand.tmp 39), type := 3, pos := "l3_martingales.go:212", after := #[{ on := 16, ground := Ground.data }, { on := 18, ground := Ground.gcOnly Departure.lateStores }], guard := none }) (v := ?_) rfl (by kernel_rfl) (by kernel_rfl) (by kernel_rfl) (fun _ _ _ h => h) (Or.inl ⟨by rfl, ?_⟩) (by assumption) ?_
      rotate_left 1
      · intro wq hSw; (try dsimp only at hSw); first | (go_simp; done) | (go_simp; with_reducible rfl)
      (try simp only [Act.put, List.setIfInBounds_toArray, List.set_cons_zero, List.set_cons_succ])
      refine wpAnyH_take (i := 18) (oi := { dst := some 12, op := Op.assign (Operand.tmp 31), type := 3, pos := "l3_martingales.go:212", after := #[{ on := 8, ground := Ground.data }, { on := 15, ground := Ground.chain }, { on := 0, ground := Ground.phase }, { on := 1, ground := Ground.phase }, { on := 2, ground := Ground.phase }, { on := 3, ground := Ground.phase }, { on := 4, ground := Ground.phase }, { on := 5, ground := Ground.phase }, { on := 6, ground := Ground.phase }, { on := 7, ground := Ground.phase }, { on := 8, ground := Ground.phase }, { on := 9, ground := Ground.textOnly Departure.lateStores }, { on := 10, ground := Ground.textOnly Departure.lateStores }, { on := 11, ground := Ground.textOnly Departure.lateStores }, { on := 12, ground := Ground.textOnly Departure.lateStores }, { on := 13, ground := Ground.textOnly Departure.lateStores }, { on := 14, ground := Ground.textOnly Departure.lateStores }, { on := 15, ground := Ground.textOnly Departure.lateStoresUnsure }, { on := 16, ground := Ground.textOnly Departure.lateStores }, { on := 17, ground := Ground.textOnly Departure.lateStores }], guard := none }) (v := ?_) rfl (by kernel_rfl) (by kernel_rfl) (by kernel_rfl) (fun _ _ _ h => h) (Or.inl ⟨by rfl, ?_⟩) (by assumption) ?_
      rotate_left 1
      · intro wq hSw; (try dsimp only at hSw); first | (go_simp; done) | (go_simp; with_reducible rfl)
      (try simp only [Act.put, List.setIfInBounds_toArray, List.set_cons_zero, List.set_cons_succ])
      refine wpAnyH_take (i := 19) (oi := { dst := some 13, op := Op.assign (Operand.tmp 40), type := 3, pos := "l3_martingales.go:212", after := #[{ on := 17, ground := Ground.data }, { on := 18, ground := Ground.chain }, { on := 0, ground := Ground.phase }, { on := 1, ground := Ground.phase }, { on := 2, ground := Ground.phase }, { on := 3, ground := Ground.phase }, { on := 4, ground := Ground.phase }, { on := 5, ground := Ground.phase }, { on := 6, ground := Ground.phase }, { on := 7, ground := Ground.phase }, { on := 8, ground := Ground.phase }, { on := 9, ground := Ground.phase }, { on := 10, ground := Ground.phase }, { on := 11, ground := Ground.phase }, { on := 12, ground := Ground.phase }, { on := 13, ground := Ground.phase }, { on := 14, ground := Ground.phase }, { on := 15, ground := Ground.phase }, { on := 16, ground := Ground.phase }, { on := 17, ground := Ground.phase }, { on := 18, ground := Ground.phase }], guard := none }) (v := ?_) rfl (by kernel_rfl) (by kernel_rfl) (by kernel_rfl) (fun _ _ _ h => h) (Or.inl ⟨by rfl, ?_⟩) (by assumption) ?_
      rotate_left 1
      · intro wq hSw; (try dsimp only at hSw); first | (go_simp; done) | (go_simp; with_reducible rfl)
      (try simp only [Act.put, List.setIfInBounds_toArray, List.set_cons_zero, List.set_cons_succ])
      refine wpAnyH_done (by kernel_rfl) ?_ _
      clear hHeld hHeld2 hHeld3 KC CA CB HD x0 x1 xe hc8 hc8' hc9
      have HBX := Lib.hid (hb_full HBW HE9)
      have HB9 := Lib.hid (HB.out.trans (HE9.out.mono HB.out.size))
      have HO9 := Lib.hid ((HO.out.below HE9.out).wide HE9.out.size (Nat.le_refl _))
      have IY : InI64 (y : Int) := inI64_nat (by omega)
      obtain ⟨LL, hLL⟩ : ∃ LL, LL = nodesW (fun y => inL (C.take k) (y : Int)) ps.length := ⟨_, rfl⟩
      rw [← hLL] at HO9 PUT LLE
      have NLH : Hid ((putL LL (y : Int)).length ≤ 24) := Lib.hid (by rw [PUT.out]; exact Nat.le_trans (NL.out _) hn24)
      have HLL := Lib.hid hLL
      rw [← hLL]
      have PS := Lib.hid (fun w' (hw : w9 = w') => putS LL (y : Int) go 0 co w' (by omega) IY (hw ▸ HO9.out.intsV))
      clear hLL HO HB HBW
      cases lt
      · have M := Lib.hid (fun w => lessP na nb w)
        rw [← PAH.out] at M
        go_wp2_with fail
        refine (M.out _).mono ?_
        rintro e w10 ⟨rfl, rfl⟩
        go_wp2_with fail
        refine (PS.out _ rfl).mono ?_
        rintro e w11 ⟨b11, hres⟩
        have HB11 := Lib.hid (HB9.out.trans (b11.mono HB9.out.size))
        rcases hres with ⟨rfl, hsame⟩ | ⟨g11, c11, rfl, o11⟩
        · have O11 := Lib.hid ((HO9.out.below b11).wide b11.size (Nat.le_refl _))
          have EQ : Hid (LL = nodesW (fun y => inL (C.take (k + 1)) (y : Int)) ps.length) := Lib.hid (by rw [← hsame]; exact PUT.out)
          clear b11 hsame
          go_wp2_with fail
          go_roundg (E.length - (k + 1))
          case rel => exact ⟨k + 1, by omega, by omega, by go_num, ⟨_, _, by rw [← EQ.out]⟩, Lib.hid (by rw [← EQ.out]; exact O11.out), HB11⟩
          case measure => omega
        · have O11 := Lib.hid (o11.low (Nat.le_trans HB2.out.size HB9.out.size))
          clear b11 o11
          go_wp2_with fail
          go_roundg (E.length - (k + 1))
          case rel => exact ⟨k + 1, by omega, by omega, by go_num, ⟨_, _, by rw [PUT.out]⟩, Lib.hid (by rw [← PUT.out]; exact O11.out), HB11⟩
          case measure => omega
      · have M := Lib.hid (fun w => moreP na nb w)
        rw [← PAH.out] at M
        go_wp2_with fail
        refine (M.out _).mono ?_
        rintro e w10 ⟨rfl, rfl⟩
        go_wp2_with fail
        refine (PS.out _ rfl).mono ?_
        rintro e w11 ⟨b11, hres⟩
        have HB11 := Lib.hid (HB9.out.trans (b11.mono HB9.out.size))
        rcases hres with ⟨rfl, hsame⟩ | ⟨g11, c11, rfl, o11⟩
        · have O11 := Lib.hid ((HO9.out.below b11).wide b11.size (Nat.le_refl _))
          have EQ : Hid (LL = nodesW (fun y => inL (C.take (k + 1)) (y : Int)) ps.length) := Lib.hid (by rw [← hsame]; exact PUT.out)
          clear b11 hsame
          go_wp2_with fail
          go_roundg (E.length - (k + 1))
          case rel => exact ⟨k + 1, by omega, by omega, by go_num, ⟨_, _, by rw [← EQ.out]⟩, Lib.hid (by rw [← EQ.out]; exact O11.out), HB11⟩
          case measure => omega
        · have O11 := Lib.hid (o11.low (Nat.le_trans HB2.out.size HB9.out.size))
          clear b11 o11
          go_wp2_with fail
          go_roundg (E.length - (k + 1))
          case rel => exact ⟨k + 1, by omega, by omega, by go_num, ⟨_, _, by rw [PUT.out]⟩, Lib.hid (by rw [← PUT.out]; exact O11.out), HB11⟩
          case measure => omega
    · have FIN : Hid (NewInts (pickT ps a b lt) w (.returned (.slice (some ⟨go, 0, none⟩) (nodesW (fun y => inL (C.take k) (y : Int)) ps.length).length co)) wr) := Lib.hid ⟨_, rfl, by have h := HO.out; rwa [ALL.out k (by omega)] at h ⊢, HBW.out⟩
      go_wp2
      go_ret
      exact FIN.out
end Go.Proofs.Ytbpelmpipkkonab
