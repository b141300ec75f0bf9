/- Whether two events are independent, in the model. -/
import Derived.Test.YtfnnlkbecnjloabAreI
import Derived.Deep.RegionHeld3
namespace Go.Proofs.Ytfnnlkbecnjloab
open Go.RowKit
set_option linter.unusedVariables false
/-- What stands between the calls in the model where the result has no box. -/
def MBt (w : World) (B : Nat) (v1 v2 : Value) (w' : World) : Prop := TBox w' B v1 v2 ∧ Below w.heap.size w w'
theorem MBt.next {w a b : World} {B : Nat} {v1 v2 : Value} (h : MBt w B v1 v2 a) (hb : Below a.heap.size a b) : MBt w B v1 v2 b := ⟨h.1.below hb h.1.lt, h.2.trans (hb.mono h.2.size)⟩
theorem MBt.drew {w a : World} {B : Nat} {v1 v2 : Value} (h : MBt w B v1 v2 a) : MBt w B v1 v2 a.drew := h.next (below_drew (Below.refl _ _))
/-- What is asked of each world may grow on the way. -/
theorem held_more {P : Program} {md : Region.Mode} {ops : Array Oper} {Q : Exit → Act → World → Prop} {S S' : World → Prop} (hs : ∀ w, S' w → S w) : ∀ (fuel : Nat) (listed : Array Bool) (a : Act) (w : World), wpAnyH P md ops Q S' fuel listed a w → wpAnyH P md ops Q S fuel listed a w
  | 0, _, _, _, h => h
  | fuel + 1, _, _, _, h => ⟨h.1, fun i hi => wpOp_mono (fun a' w' h' => ⟨hs _ h'.1, held_more hs fuel _ a' w' h'.2⟩) (h.2 i hi)⟩
set_option maxRecDepth 100000 in
set_option maxHeartbeats 40000000 in
theorem areM (ps ws a b : List Int) (v ua ub : Value) (w : World) (hla : a.length ≤ 1048576) (hlb : b.length ≤ 1048576) (h : TreeV w w.heap.size v ps ws) (ha : IntsV w w.heap.size ua a) (hb0 : IntsV w w.heap.size ub b) :
    Calls Try.prog 39 #[v, ua, ub] w (Gives (areV ps ws a b) w) := by
  have TV := Lib.hid h
  have AV := Lib.hid ha
  have BV := Lib.hid hb0
  have EA := Lib.hid (fun w' (hb : Below w.heap.size w w') => eventS ps ws a v ua w' hla (h.boxed hb) ((ha.below hb).more hb.size))
  have EBS := Lib.hid (fun w' (hb : Below w.heap.size w w') => eventS ps ws b v ub w' hlb (h.boxed hb) ((hb0.below hb).more hb.size))
  obtain ⟨p1, c1, p2, c2, rfl⟩ := h.shape
  obtain ⟨qa, da, rfl, _⟩ := ha
  obtain ⟨qb, db, rfl, _⟩ := hb0
  clear h
  have B1 := (Below.refl w.heap.size w).alloc (Nat.le_refl _) (.cells #[.slice p1 ps.length c1, .slice p2 ws.length c2] 29)
  obtain ⟨wa, hwa⟩ : ∃ wa, wa = w.alloc (.cells #[.slice p1 ps.length c1, .slice p2 ws.length c2] 29) := ⟨_, rfl⟩
  have T1 : Hid (TBox wa w.heap.size (.slice p1 ps.length c1) (.slice p2 ws.length c2)) := Lib.hid (by rw [hwa]; exact alloc_heap w _)
  rw [← hwa] at B1
  have HBA := Lib.hid B1
  clear B1
  obtain ⟨x0, x1⟩ := T1.out.cells
  obtain ⟨ea, hea⟩ : ∃ ea, ea = evB ps ws a := ⟨_, rfl⟩
  obtain ⟨eb, heb⟩ : ∃ eb, eb = evB ps ws b := ⟨_, rfl⟩
  rw [← hea] at EA
  rw [← heb] at EBS
  have VA := Lib.hid hea
  have VB := Lib.hid heb
  clear hea heb
  cases ea
  · have CV : Hid (areV ps ws a b = .tuple #[.bool false, .bool false]) := Lib.hid (by unfold areV areB; rw [← VA.out, Bool.false_and]; rfl)
    go_enter Try.func39, Try.ntmps39
    go_wp2_with fail
    rw [← hwa]
    clear hwa
    refine (EA.out _ HBA.out).mono ?_
    rintro e w1 ⟨rfl, b1⟩
    have HB1 := Lib.hid (HBA.out.trans (b1.mono HBA.out.size))
    clear b1 x0 x1
    go_wp2_with fail
    go_ret2
    exact ⟨by rw [CV.out]; rfl, HB1.out⟩
  · cases eb
    · have CV : Hid (areV ps ws a b = .tuple #[.bool false, .bool false]) := Lib.hid (by unfold areV areB; rw [← VB.out, Bool.and_false]; rfl)
      go_enter Try.func39, Try.ntmps39
      go_wp2_with fail
      rw [← hwa]
      clear hwa
      refine (EA.out _ HBA.out).mono ?_
      rintro e w1 ⟨rfl, b1⟩
      have HB1 := Lib.hid (HBA.out.trans (b1.mono HBA.out.size))
      have T2 := Lib.hid (T1.out.below b1 T1.out.lt)
      clear b1 x0 x1
      obtain ⟨x0, x1⟩ := T2.out.cells
      go_wp2_with fail
      refine (EBS.out _ HB1.out).mono ?_
      rintro e w2 ⟨rfl, b2⟩
      have HB2 := Lib.hid (HB1.out.trans (b2.mono HB1.out.size))
      clear b2 x0 x1
      go_wp2_with fail
      go_ret2
      exact ⟨by rw [CV.out]; rfl, HB2.out⟩
    · have EAV := Lib.hid (evB_iff.1 VA.out.symm)
      have EB := Lib.hid (evB_iff.1 VB.out.symm)
      have CV : Hid (areV ps ws a b = .tuple #[.bool (heavyT ps ws (fun x => inL a (x : Int) && inL b (x : Int)) * (sumsT ps ws).getD 0 0 == heavyT ps ws (fun x => inL a (x : Int)) * heavyT ps ws (fun x => inL b (x : Int))), .bool true]) := Lib.hid (by unfold areV areB areR; rw [← VA.out, ← VB.out]; rfl)
      have CA : Hid (∀ w', Hid (MBt w w.heap.size (.slice p1 ps.length c1) (.slice p2 ws.length c2) w') → Calls Try.prog 70 #[.agg #[.slice p1 ps.length c1, .slice p2 ws.length c2], .slice qa a.length da] w' (Gives (.int .i64 (heavyT ps ws (fun x => inL a (x : Int)))) w')) := Lib.hid (fun w' he => by
        rw [← EAV.out.heavy]
        exact heavyS ps ws a _ _ w' hla EB.out.good.ws_bd EAV.out.in_ws (TV.out.boxed he.out.2) ((AV.out.below he.out.2).more he.out.2.size))
      have CB : Hid (∀ w', Hid (MBt w w.heap.size (.slice p1 ps.length c1) (.slice p2 ws.length c2) w') → Calls Try.prog 70 #[.agg #[.slice p1 ps.length c1, .slice p2 ws.length c2], .slice qb b.length db] w' (Gives (.int .i64 (heavyT ps ws (fun x => inL b (x : Int)))) w')) := Lib.hid (fun w' he => by
        rw [← EB.out.heavy]
        exact heavyS ps ws b _ _ w' hlb EB.out.good.ws_bd EB.out.in_ws (TV.out.boxed he.out.2) ((BV.out.below he.out.2).more he.out.2.size))
      have CO : Hid (∀ w', Hid (MBt w w.heap.size (.slice p1 ps.length c1) (.slice p2 ws.length c2) w') → Calls Try.prog 74 #[.slice qa a.length da, .slice qb b.length db] w' (NewInts (bothL a b) w')) := Lib.hid (fun w' he => bothS a b _ _ w' hla hlb ((AV.out.below he.out.2).more he.out.2.size) ((BV.out.below he.out.2).more he.out.2.size))
      have CC : Hid (∀ w' u, Hid (MBt w w.heap.size (.slice p1 ps.length c1) (.slice p2 ws.length c2) w') → Hid (IntsV w' w'.heap.size u (bothL a b)) → Calls Try.prog 70 #[.agg #[.slice p1 ps.length c1, .slice p2 ws.length c2], u] w' (Gives (.int .i64 (heavyT ps ws (fun x => inL a (x : Int) && inL b (x : Int)))) w')) := Lib.hid (fun w' u he hu => by
        rw [← both_heavy EAV.out]
        exact heavyS ps ws _ _ _ w' (Nat.le_trans (List.length_filter_le _ _) hla) EB.out.good.ws_bd (both_in EAV.out) (TV.out.boxed he.out.2) hu.out)
      have CD : Hid (∀ w', Hid (MBt w w.heap.size (.slice p1 ps.length c1) (.slice p2 ws.length c2) w') → Calls Try.prog 53 #[.agg #[.slice p1 ps.length c1, .slice p2 ws.length c2]] w' (NewRoot ((sumsT ps ws).getD 0 0) w')) := Lib.hid (fun w' he => rootS ps ws _ w' EB.out.good (TV.out.boxed he.out.2))
      have M1 := Lib.hid (mul_bd480 (heavy_bd EB.out.good (fun x => inL a (x : Int) && inL b (x : Int))) (show 0 ≤ (sumsT ps ws).getD 0 0 ∧ (sumsT ps ws).getD 0 0 ≤ 480 by have := sumsT_root EB.out.good; have := sumsT_bd EB.out.good 0 (by have := EB.out.good.n1; omega); omega))
      have M2 := Lib.hid (mul_bd480 (heavy_bd EB.out.good (fun x => inL a (x : Int))) (heavy_bd EB.out.good (fun x => inL b (x : Int))))
      obtain ⟨hAB, e1⟩ : ∃ z, z = heavyT ps ws (fun x => inL a (x : Int) && inL b (x : Int)) := ⟨_, rfl⟩
      obtain ⟨hA, e2⟩ : ∃ z, z = heavyT ps ws (fun x => inL a (x : Int)) := ⟨_, rfl⟩
      obtain ⟨hB, e3⟩ : ∃ z, z = heavyT ps ws (fun x => inL b (x : Int)) := ⟨_, rfl⟩
      obtain ⟨sa, e4⟩ : ∃ z, z = (sumsT ps ws).getD 0 0 := ⟨_, rfl⟩
      rw [← e1] at CC CV M1
      rw [← e2] at CA CV M2
      rw [← e3] at CB CV M2
      rw [← e4] at CD CV M1
      have KC : Hid (∀ w', Hid (MBt w w.heap.size (.slice p1 ps.length c1) (.slice p2 ws.length c2) w') → w'.cell? ⟨w.heap.size, 0, none⟩ = some (.slice p1 ps.length c1) ∧ w'.cell? ⟨w.heap.size, 1, none⟩ = some (.slice p2 ws.length c2)) := Lib.hid (fun w' he => he.out.1.cells)
      clear e1 e2 e3 e4
      obtain ⟨r, hr⟩ : ∃ r, (hAB * sa == hA * hB) = r := ⟨_, rfl⟩
      rw [hr] at CV
      have W1 : IntKind.i64.wrap (hAB * sa) = hAB * sa := IntWalk.i64_in _ (by have := M1.out; omega)
      have W2 : IntKind.i64.wrap (hA * hB) = hA * hB := IntWalk.i64_in _ (by have := M2.out; omega)
      go_enter Try.func39, Try.ntmps39
      go_wp2_with fail
      rw [← hwa]
      clear hwa
      refine (EA.out _ HBA.out).mono ?_
      rintro e w1 ⟨rfl, b1⟩
      have HB1 := Lib.hid (HBA.out.trans (b1.mono HBA.out.size))
      have T2 := Lib.hid (T1.out.below b1 T1.out.lt)
      clear b1 x0 x1 T1
      obtain ⟨x0, x1⟩ := T2.out.cells
      go_wp2_with fail
      refine (EBS.out _ HB1.out).mono ?_
      rintro e w2 ⟨rfl, b2⟩
      have HE1 := Lib.hid (show MBt w w.heap.size (.slice p1 ps.length c1) (.slice p2 ws.length c2) w2 from ⟨T2.out.below b2 T2.out.lt, HB1.out.trans (b2.mono HB1.out.size)⟩)
      have HD := Lib.hid HE1.out.drew
      clear b2 x0 x1 T2 EA EBS
      obtain ⟨x0, x1⟩ := KC.out _ HE1
      go_wp2_with fail
      refine wp_region_held_drew (S := fun w' => w'.cell? ⟨w.heap.size, 0, none⟩ = some (.slice p1 ps.length c1) ∧ w'.cell? ⟨w.heap.size, 1, none⟩ = some (.slice p2 ws.length c2)) (by kernel_rfl) (KC.out _ HD) (fun hHeld => ?_)
      refine wpAnyH_take (i := 0) (oi := { dst := some 18, op := Op.load 29 (Operand.tmp 3), type := 29, pos := "l2_trees.go:335", after := #[], guard := none }) (v := ?_) rfl (by kernel_rfl) (by kernel_rfl) (by kernel_rfl) (fun _ _ _ h => h) (Or.inl ⟨by rfl, ?_⟩) (by assumption) ?_
      rotate_left 1
      · intro wq hSw; (try dsimp only at hSw); first | (go_simp; done) | (go_simp; with_reducible rfl)
      (try simp only [Act.put, List.setIfInBounds_toArray, List.set_cons_zero, List.set_cons_succ])
      refine wpAnyH_take (i := 1) (oi := { dst := some 19, op := Op.move (Operand.tmp 1), type := 22, pos := "l2_trees.go:335", after := #[], guard := none }) (v := ?_) rfl (by kernel_rfl) (by kernel_rfl) (by kernel_rfl) (fun _ _ _ h => h) (Or.inl ⟨by rfl, ?_⟩) (by assumption) ?_
      rotate_left 1
      · intro wq hSw; (try dsimp only at hSw); first | (go_simp; done) | (go_simp; with_reducible rfl)
      (try simp only [Act.put, List.setIfInBounds_toArray, List.set_cons_zero, List.set_cons_succ])
      refine wpAnyH_take (i := 2) (oi := { dst := some 20, op := Op.move (Operand.tmp 2), type := 22, pos := "l2_trees.go:335", after := #[], guard := none }) (v := ?_) rfl (by kernel_rfl) (by kernel_rfl) (by kernel_rfl) (fun _ _ _ h => h) (Or.inl ⟨by rfl, ?_⟩) (by assumption) ?_
      rotate_left 1
      · intro wq hSw; (try dsimp only at hSw); first | (go_simp; done) | (go_simp; with_reducible rfl)
      (try simp only [Act.put, List.setIfInBounds_toArray, List.set_cons_zero, List.set_cons_succ])
      refine wpAnyH_take (i := 5) (oi := { dst := some 23, op := Op.load 29 (Operand.tmp 3), type := 29, pos := "l2_trees.go:335", after := #[], guard := none }) (v := ?_) rfl (by kernel_rfl) (by kernel_rfl) (by kernel_rfl) (fun _ _ _ h => h) (Or.inl ⟨by rfl, ?_⟩) (by assumption) ?_
      rotate_left 1
      · intro wq hSw; (try dsimp only at hSw); first | (go_simp; done) | (go_simp; with_reducible rfl)
      (try simp only [Act.put, List.setIfInBounds_toArray, List.set_cons_zero, List.set_cons_succ])
      refine wpAnyH_take (i := 10) (oi := { dst := some 28, op := Op.load 29 (Operand.tmp 3), type := 29, pos := "l2_trees.go:335", after := #[], guard := none }) (v := ?_) rfl (by kernel_rfl) (by kernel_rfl) (by kernel_rfl) (fun _ _ _ h => h) (Or.inl ⟨by rfl, ?_⟩) (by assumption) ?_
      rotate_left 1
      · intro wq hSw; (try dsimp only at hSw); first | (go_simp; done) | (go_simp; with_reducible rfl)
      (try simp only [Act.put, List.setIfInBounds_toArray, List.set_cons_zero, List.set_cons_succ])
      refine wpAnyH_take (i := 11) (oi := { dst := some 29, op := Op.move (Operand.tmp 1), type := 22, pos := "l2_trees.go:335", after := #[], guard := none }) (v := ?_) rfl (by kernel_rfl) (by kernel_rfl) (by kernel_rfl) (fun _ _ _ h => h) (Or.inl ⟨by rfl, ?_⟩) (by assumption) ?_
      rotate_left 1
      · intro wq hSw; (try dsimp only at hSw); first | (go_simp; done) | (go_simp; with_reducible rfl)
      (try simp only [Act.put, List.setIfInBounds_toArray, List.set_cons_zero, List.set_cons_succ])
      refine wpAnyH_take (i := 13) (oi := { dst := some 31, op := Op.load 29 (Operand.tmp 3), type := 29, pos := "l2_trees.go:335", after := #[], guard := none }) (v := ?_) rfl (by kernel_rfl) (by kernel_rfl) (by kernel_rfl) (fun _ _ _ h => h) (Or.inl ⟨by rfl, ?_⟩) (by assumption) ?_
      rotate_left 1
      · intro wq hSw; (try dsimp only at hSw); first | (go_simp; done) | (go_simp; with_reducible rfl)
      (try simp only [Act.put, List.setIfInBounds_toArray, List.set_cons_zero, List.set_cons_succ])
      refine wpAnyH_take (i := 14) (oi := { dst := some 32, op := Op.move (Operand.tmp 2), type := 22, pos := "l2_trees.go:335", after := #[], guard := none }) (v := ?_) rfl (by kernel_rfl) (by kernel_rfl) (by kernel_rfl) (fun _ _ _ h => h) (Or.inl ⟨by rfl, ?_⟩) (by assumption) ?_
      rotate_left 1
      · intro wq hSw; (try dsimp only at hSw); first | (go_simp; done) | (go_simp; with_reducible rfl)
      (try simp only [Act.put, List.setIfInBounds_toArray, List.set_cons_zero, List.set_cons_succ])
      have HE10 := HD
      refine wpAnyH_ready (rs := [3]) (by kernel_rfl) (by simp) ?_
      refine AllReadyH.cons (o := { dst := some 21, op := Op.call { callee := Callee.value (Operand.func 74), args := #[Operand.tmp 19, Operand.tmp 20], argTypes := #[22, 22] }, type := 22, pos := "l2_trees.go:335", after := #[{ on := 1, ground := Ground.data }, { on := 2, ground := Ground.data }], guard := none }) rfl (fun K hK => ?_) AllReadyH.nil
      go_simp
      refine (CO.out _ HE10).mono ?_
      rintro e w11 ⟨u8, rfl, o8, b11⟩
      have HE11 := Lib.hid (MBt.next (Hid.out HE10) b11)
      have IV := Lib.hid (o8.intsV)
      clear o8 b11
      go_wp2_with fail
      refine hK.out _ _ (KC.out _ HE11) (fun hHeld => ?_)
      (try simp only [Act.put, List.setIfInBounds_toArray, List.set_cons_zero, List.set_cons_succ])
      refine wpAnyH_ready (rs := [4]) (by kernel_rfl) (by simp) ?_
      refine AllReadyH.cons (o := { dst := some 22, op := Op.call { callee := Callee.value (Operand.func 70), args := #[Operand.tmp 18, Operand.tmp 21], argTypes := #[29, 22] }, type := 3, pos := "l2_trees.go:335", after := #[{ on := 0, ground := Ground.data }, { on := 3, ground := Ground.data }, { on := 3, ground := Ground.chain }], guard := none }) rfl (fun K hK => ?_) AllReadyH.nil
      go_simp
      refine (CC.out _ _ HE11 IV).mono ?_
      rintro e w12 ⟨rfl, b12⟩
      have HE12 := Lib.hid (MBt.next (Hid.out HE11) b12)
      clear b12
      go_wp2_with fail
      refine hK.out _ _ (KC.out _ HE12) (fun hHeld => ?_)
      (try simp only [Act.put, List.setIfInBounds_toArray, List.set_cons_zero, List.set_cons_succ])
      refine wpAnyH_ready (rs := [6]) (by kernel_rfl) (by simp) ?_
      refine AllReadyH.cons (o := { dst := some 24, op := Op.call { callee := Callee.value (Operand.func 53), args := #[Operand.tmp 23], argTypes := #[29] }, type := 22, pos := "l2_trees.go:335", after := #[{ on := 5, ground := Ground.data }, { on := 4, ground := Ground.chain }], guard := none }) rfl (fun K hK => ?_) AllReadyH.nil
      go_simp
      refine (CD.out _ HE12).mono ?_
      rintro e w13 ⟨g, n, c, rfl, hn0, hg, y0, b13⟩
      have HE13 := Lib.hid (MBt.next (Hid.out HE12) b13)
      have hn1 : (0 : Int) < (n : Int) := by clear W1 W2; omega
      clear b13
      go_wp2_with fail
      refine hK.out _ _ (KC.out _ HE13) (fun hHeld => ?_)
      (try simp only [Act.put, List.setIfInBounds_toArray, List.set_cons_zero, List.set_cons_succ])
      refine held_more (S' := fun w' => w'.cell? ⟨w.heap.size, 0, none⟩ = some (.slice p1 ps.length c1) ∧ w'.cell? ⟨w.heap.size, 1, none⟩ = some (.slice p2 ws.length c2) ∧ w'.cell? ⟨g, 0, none⟩ = some (.int .i64 sa)) (fun w' h => ⟨h.1, h.2.1⟩) _ _ _ _ ?_
      have hHeld2 : (fun w' : World => w'.cell? ⟨w.heap.size, 0, none⟩ = some (.slice p1 ps.length c1) ∧ w'.cell? ⟨w.heap.size, 1, none⟩ = some (.slice p2 ws.length c2) ∧ w'.cell? ⟨g, 0, none⟩ = some (.int .i64 sa)) w13 := ⟨(KC.out _ HE13).1, (KC.out _ HE13).2, y0⟩
      refine wpAnyH_take (i := 7) (oi := { dst := some 25, op := Op.indexAddr 22 (Operand.tmp 24) (Operand.const (Value.int IntKind.i64 0)), type := 0, pos := "l2_trees.go:335", after := #[{ on := 6, ground := Ground.data }], guard := none }) (v := ?_) rfl (by kernel_rfl) (by kernel_rfl) (by kernel_rfl) (fun _ _ _ h => h) (Or.inl ⟨by rfl, ?_⟩) (by assumption) ?_
      rotate_left 1
      · intro wq hSw; (try dsimp only at hSw); first | (go_simp; done) | (go_simp; with_reducible rfl)
      (try simp only [Act.put, List.setIfInBounds_toArray, List.set_cons_zero, List.set_cons_succ])
      refine wpAnyH_take (i := 8) (oi := { dst := some 26, op := Op.load 3 (Operand.tmp 25), type := 3, pos := "l2_trees.go:335", after := #[{ on := 7, ground := Ground.data }], guard := none }) (v := ?_) rfl (by kernel_rfl) (by kernel_rfl) (by kernel_rfl) (fun _ _ _ h => h) (Or.inl ⟨by rfl, ?_⟩) (by assumption) ?_
      rotate_left 1
      · intro wq hSw; (try dsimp only at hSw); first | (go_simp; done) | (go_simp; with_reducible rfl)
      (try simp only [Act.put, List.setIfInBounds_toArray, List.set_cons_zero, List.set_cons_succ])
      refine wpAnyH_take (i := 9) (oi := { dst := some 27, op := Op.binOp BinOp.mul 3 (Operand.tmp 22) (Operand.tmp 26) 3, type := 3, pos := "l2_trees.go:335", after := #[{ on := 4, ground := Ground.data }, { on := 8, ground := Ground.data }], guard := none }) (v := ?_) rfl (by kernel_rfl) (by kernel_rfl) (by kernel_rfl) (fun _ _ _ h => h) (Or.inl ⟨by rfl, ?_⟩) (by assumption) ?_
      rotate_left 1
      · intro wq hSw; (try dsimp only at hSw); first | (go_simp; done) | (go_simp; with_reducible rfl)
      (try simp only [Act.put, List.setIfInBounds_toArray, List.set_cons_zero, List.set_cons_succ])
      refine wpAnyH_ready (rs := [12]) (by kernel_rfl) (by simp) ?_
      refine AllReadyH.cons (o := { dst := some 30, op := Op.call { callee := Callee.value (Operand.func 70), args := #[Operand.tmp 28, Operand.tmp 29], argTypes := #[29, 22] }, type := 3, pos := "l2_trees.go:335", after := #[{ on := 10, ground := Ground.data }, { on := 11, ground := Ground.data }, { on := 6, ground := Ground.chain }], guard := none }) rfl (fun K hK => ?_) AllReadyH.nil
      go_simp
      refine (CA.out _ HE13).mono ?_
      rintro e w14 ⟨rfl, b14⟩
      have HE14 := Lib.hid (MBt.next (Hid.out HE13) b14)
      have y14 := (b14.cell (p := ⟨g, 0, none⟩) hg).trans y0
      have hg := Nat.lt_of_lt_of_le hg b14.size
      clear b14
      go_wp2_with fail
      refine hK.out _ _ (⟨(KC.out _ HE14).1, (KC.out _ HE14).2, y14⟩) (fun hHeld => ?_)
      (try simp only [Act.put, List.setIfInBounds_toArray, List.set_cons_zero, List.set_cons_succ])
      refine wpAnyH_ready (rs := [15]) (by kernel_rfl) (by simp) ?_
      refine AllReadyH.cons (o := { dst := some 33, op := Op.call { callee := Callee.value (Operand.func 70), args := #[Operand.tmp 31, Operand.tmp 32], argTypes := #[29, 22] }, type := 3, pos := "l2_trees.go:335", after := #[{ on := 13, ground := Ground.data }, { on := 14, ground := Ground.data }, { on := 12, ground := Ground.chain }], guard := none }) rfl (fun K hK => ?_) AllReadyH.nil
      go_simp
      refine (CB.out _ HE14).mono ?_
      rintro e w15 ⟨rfl, b15⟩
      have HE15 := Lib.hid (MBt.next (Hid.out HE14) b15)
      have y15 := (b15.cell (p := ⟨g, 0, none⟩) hg).trans y14
      have hg := Nat.lt_of_lt_of_le hg b15.size
      clear b15
      go_wp2_with fail
      refine hK.out _ _ (⟨(KC.out _ HE15).1, (KC.out _ HE15).2, y15⟩) (fun hHeld => ?_)
      (try simp only [Act.put, List.setIfInBounds_toArray, List.set_cons_zero, List.set_cons_succ])
      refine wpAnyH_take (i := 16) (oi := { dst := some 34, op := Op.binOp BinOp.mul 3 (Operand.tmp 30) (Operand.tmp 33) 3, type := 3, pos := "l2_trees.go:335", after := #[{ on := 12, ground := Ground.data }, { on := 15, ground := Ground.data }], guard := none }) (v := ?_) rfl (by kernel_rfl) (by kernel_rfl) (by kernel_rfl) (fun _ _ _ h => h) (Or.inl ⟨by rfl, ?_⟩) (by assumption) ?_
      rotate_left 1
      · intro wq hSw; (try dsimp only at hSw); first | (go_simp; done) | (go_simp; with_reducible rfl)
      (try simp only [Act.put, List.setIfInBounds_toArray, List.set_cons_zero, List.set_cons_succ])
      refine wpAnyH_take (i := 17) (oi := { dst := some 35, op := Op.binOp BinOp.eql 3 (Operand.tmp 27) (Operand.tmp 34) 3, type := 4, pos := "l2_trees.go:335", after := #[{ on := 9, ground := Ground.data }, { on := 16, ground := Ground.data }], guard := none }) (v := ?_) rfl (by kernel_rfl) (by kernel_rfl) (by kernel_rfl) (fun _ _ _ h => h) (Or.inl ⟨by rfl, ?_⟩) (by assumption) ?_
      rotate_left 1
      · intro wq hSw; (try dsimp only at hSw); first | (go_simp; done) | (go_simp; with_reducible rfl)
      (try simp only [Act.put, List.setIfInBounds_toArray, List.set_cons_zero, List.set_cons_succ])
      refine wpAnyH_take (i := 18) (oi := { dst := some 6, op := Op.assign (Operand.tmp 35), type := 4, pos := "l2_trees.go:335", after := #[{ on := 17, ground := Ground.data }, { on := 15, ground := Ground.chain }, { on := 0, ground := Ground.phase }, { on := 1, ground := Ground.phase }, { on := 2, ground := Ground.phase }, { on := 3, ground := Ground.phase }, { on := 4, ground := Ground.phase }, { on := 5, ground := Ground.phase }, { on := 6, ground := Ground.phase }, { on := 7, ground := Ground.phase }, { on := 8, ground := Ground.phase }, { on := 9, ground := Ground.phase }, { on := 10, ground := Ground.phase }, { on := 11, ground := Ground.phase }, { on := 12, ground := Ground.phase }, { on := 13, ground := Ground.phase }, { on := 14, ground := Ground.phase }, { on := 15, ground := Ground.phase }, { on := 16, ground := Ground.phase }, { on := 17, ground := Ground.phase }], guard := none }) (v := ?_) rfl (by kernel_rfl) (by kernel_rfl) (by kernel_rfl) (fun _ _ _ h => h) (Or.inl ⟨by rfl, ?_⟩) (by assumption) ?_
      rotate_left 1
      · intro wq hSw; (try dsimp only at hSw); first | (go_simp; done) | (go_simp; with_reducible rfl)
      (try simp only [Act.put, List.setIfInBounds_toArray, List.set_cons_zero, List.set_cons_succ])
      refine wpAnyH_take (i := 19) (oi := { dst := some 7, op := Op.assign (Operand.const (Value.bool true)), type := 4, pos := "l2_trees.go:335", after := #[{ on := 18, ground := Ground.chain }, { on := 0, ground := Ground.phase }, { on := 1, ground := Ground.phase }, { on := 2, ground := Ground.phase }, { on := 3, ground := Ground.phase }, { on := 4, ground := Ground.phase }, { on := 5, ground := Ground.phase }, { on := 6, ground := Ground.phase }, { on := 7, ground := Ground.phase }, { on := 8, ground := Ground.phase }, { on := 9, ground := Ground.phase }, { on := 10, ground := Ground.phase }, { on := 11, ground := Ground.phase }, { on := 12, ground := Ground.phase }, { on := 13, ground := Ground.phase }, { on := 14, ground := Ground.phase }, { on := 15, ground := Ground.phase }, { on := 16, ground := Ground.phase }, { on := 17, ground := Ground.phase }, { on := 18, ground := Ground.phase }], guard := none }) (v := ?_) rfl (by kernel_rfl) (by kernel_rfl) (by kernel_rfl) (fun _ _ _ h => h) (Or.inl ⟨by rfl, ?_⟩) (by assumption) ?_
      rotate_left 1
      · intro wq hSw; (try dsimp only at hSw); first | (go_simp; done) | (go_simp; with_reducible rfl)
      (try simp only [Act.put, List.setIfInBounds_toArray, List.set_cons_zero, List.set_cons_succ])
      refine wpAnyH_done (by kernel_rfl) ?_ _
      clear W1 W2
      go_wp2_with fail
      go_ret2
      exact ⟨by rw [CV.out]; rfl, HE15.out.2⟩
end Go.Proofs.Ytfnnlkbecnjloab
