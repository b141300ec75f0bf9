/- CovarianceOf, in the model. -/
import Derived.Test.YtfnnlkbecnjloabTotS
import Derived.Test.YtfnnlkbecnjloabAreM
import Derived.Deep.AppendLies
import Derived.Deep.RegionHeld3
namespace Go.Proofs.Ytfnnlkbecnjloab
open Go.RowKit
set_option linter.unusedVariables false
/-- The root of sums that go up, in a block of its own. -/
def RootG (s : Int) (w : World) (e : Ending) (w' : World) : Prop := ∃ g n c, e = .returned (.slice (some ⟨g, 0, none⟩) n c) ∧ 0 < n ∧ g < w'.heap.size ∧ w'.cell? ⟨g, 0, none⟩ = some (.int .i64 s) ∧ w.heap.size ≤ g ∧ Below w.heap.size w w'
theorem totR (ps ws vs : List Int) (B : Nat) (hB : B ≤ 998001) (v u : Value) (w : World) (gd : Good ps ws) (hvl : vs.length = (endsT ps).length) (hvb : ∀ i, (vs.getD i 0).natAbs ≤ B) (h : TreeV w w.heap.size v ps ws) (hu : IntsV w w.heap.size u vs) :
    Calls Try.prog 81 #[v, u] w (RootG (totT ps ws vs) w) := by
  have h1 := gd.n1
  refine (totS ps ws vs B hB v u w gd hvl hvb h hu).mono fun e w' ⟨u', he, o, b⟩ => ?_
  have hl : (upL ps (valsT ps ws vs) (ps.length - 1)).length = ps.length := by rw [upL_len, valsT_len]
  obtain ⟨g', cap, hu', h6, h5⟩ := o.shape (by omega)
  rw [hu'] at o he
  exact ⟨g', _, _, he, by omega, h5, o.cellGet (by omega), h6, b⟩
theorem prodL_take {a b : List Int} {k : Nat} (h : k < a.length) : prodL (a.take (k + 1)) b = prodL (a.take k) b ++ [a.getD k 0 * b.getD k 0] := by
  unfold prodL
  rw [List.length_take, List.length_take, Nat.min_eq_left (by omega), Nat.min_eq_left (by omega), List.range_succ, List.map_append]
  congr 1
  · exact List.map_congr_left fun i hi => by
      have := List.mem_range.1 hi
      simp only [List.getD_eq_getElem?_getD]
      rw [List.getElem?_take_of_lt (by omega), List.getElem?_take_of_lt (by omega)]
  · simp only [List.map_cons, List.map_nil, List.getD_eq_getElem?_getD]
    rw [List.getElem?_take_of_lt (by omega)]
set_option maxRecDepth 100000 in
set_option maxHeartbeats 40000000 in
theorem covM (ps ws a b : List Int) (v ua ub : Value) (w : World) (hla : a.length ≤ 1048576) (hlb : b.length ≤ 1048576) (h : TreeV w w.heap.size v ps ws) (ha : IntsV w w.heap.size ua a) (hb0 : IntsV w w.heap.size ub b) :
    Calls Try.prog 45 #[v, ua, ub] w (Gives (covV ps ws a b) w) := by
  have TV := Lib.hid h
  have AV := Lib.hid ha
  have BV := Lib.hid hb0
  have EA := Lib.hid (fun w' (hb : Below w.heap.size w w') => paysS ps ws a v ua w' hla (h.boxed hb) ((ha.below hb).more hb.size))
  have EBS := Lib.hid (fun w' (hb : Below w.heap.size w w') => paysS ps ws b v ub w' hlb (h.boxed hb) ((hb0.below hb).more hb.size))
  have AI : Hid (∃ p c, ua = .slice p a.length c ∧ IntsAt w w.heap.size p a) := Lib.hid (by obtain ⟨p, c, e, _, _, _, i⟩ := ha; exact ⟨p, c, e, i⟩)
  have BI : Hid (∃ p c, ub = .slice p b.length c ∧ IntsAt w w.heap.size p b) := Lib.hid (by obtain ⟨p, c, e, _, _, _, i⟩ := hb0; exact ⟨p, c, e, i⟩)
  obtain ⟨p1, c1, p2, c2, rfl⟩ := h.shape
  obtain ⟨qa, da, rfl, _⟩ := ha
  obtain ⟨qb, db, rfl, _⟩ := hb0
  clear h
  have B1 := ((Below.refl w.heap.size w).alloc (Nat.le_refl _) (.cells #[.slice p1 ps.length c1, .slice p2 ws.length c2] 29)).alloc (by simp) (.cells #[.int .i64 0, .int .i64 0] 26)
  have K0 := alloc_two w (.cells #[.slice p1 ps.length c1, .slice p2 ws.length c2] 29) (.cells #[.int .i64 0, .int .i64 0] 26)
  obtain ⟨wa, hwa⟩ : ∃ wa, wa = (w.alloc (.cells #[.slice p1 ps.length c1, .slice p2 ws.length c2] 29)).alloc (.cells #[.int .i64 0, .int .i64 0] 26) := ⟨_, rfl⟩
  rw [← hwa] at B1 K0
  have T1 := Lib.hid (show TBox wa w.heap.size (.slice p1 ps.length c1) (.slice p2 ws.length c2) from K0.1)
  have R1 := Lib.hid (show PBox wa (w.heap.size + 1) 0 0 from K0.2)
  have HBA := Lib.hid B1
  clear K0 B1
  obtain ⟨x0, x1⟩ := T1.out.cells
  obtain ⟨ea, hea⟩ : ∃ ea, ea = payB ps ws a := ⟨_, rfl⟩
  obtain ⟨eb, heb⟩ : ∃ eb, eb = payB ps ws b := ⟨_, rfl⟩
  rw [← hea] at EA
  rw [← heb] at EBS
  have VA := Lib.hid hea
  have VB := Lib.hid heb
  clear hea heb
  cases ea
  · have CV : Hid (covV ps ws a b = zeroP) := Lib.hid (by unfold covV covB; rw [← VA.out]; simp)
    go_enter Try.func45, Try.ntmps45
    go_wp2_with fail
    rw [← hwa]
    clear hwa
    refine (EA.out _ HBA.out).mono ?_
    rintro e w1 ⟨rfl, b1⟩
    have HB1 := Lib.hid (HBA.out.trans (b1.mono HBA.out.size))
    obtain ⟨c0, c1, f0, f1⟩ := (R1.out.below b1 R1.out.lt).cells
    clear b1 x0 x1
    go_wp2_with fail
    refine bodyPost_ret (v := .tuple #[.agg #[.int .i64 0, .int .i64 0], .bool false]) (by simp [results, Try.results45, go_sem, c0, c1]) rfl ⟨by rw [CV.out]; rfl, ?_⟩
    exact (HB1.out.setCell (p := ⟨w.heap.size + 1, 0, none⟩) (by simp) _).setCell (p := ⟨w.heap.size + 1, 1, none⟩) (by simp) _
  · cases eb
    · have CV : Hid (covV ps ws a b = zeroP) := Lib.hid (by unfold covV covB; rw [← VB.out]; simp)
      go_enter Try.func45, Try.ntmps45
      go_wp2_with fail
      rw [← hwa]
      clear hwa
      refine (EA.out _ HBA.out).mono ?_
      rintro e w1 ⟨rfl, b1⟩
      have HB1 := Lib.hid (HBA.out.trans (b1.mono HBA.out.size))
      have T2 := Lib.hid (T1.out.below b1 T1.out.lt)
      have R2 := Lib.hid (R1.out.below b1 R1.out.lt)
      clear b1 x0 x1
      obtain ⟨x0, x1⟩ := T2.out.cells
      go_wp2_with fail
      refine (EBS.out _ HB1.out).mono ?_
      rintro e w2 ⟨rfl, b2⟩
      have HB2 := Lib.hid (HB1.out.trans (b2.mono HB1.out.size))
      obtain ⟨c0, c1, f0, f1⟩ := (R2.out.below b2 R2.out.lt).cells
      clear b2 x0 x1
      go_wp2_with fail
      refine bodyPost_ret (v := .tuple #[.agg #[.int .i64 0, .int .i64 0], .bool false]) (by simp [results, Try.results45, go_sem, c0, c1]) rfl ⟨by rw [CV.out]; rfl, ?_⟩
      exact (HB2.out.setCell (p := ⟨w.heap.size + 1, 0, none⟩) (by simp) _).setCell (p := ⟨w.heap.size + 1, 1, none⟩) (by simp) _
    · have PA := Lib.hid (payB_iff.1 VA.out.symm)
      have PBB := Lib.hid (payB_iff.1 VB.out.symm)
      have CV : Hid (covV ps ws a b = keptV (cutN (covN ps ws a b) (covD ps ws)) (cutD (covN ps ws a b) (covD ps ws))) := Lib.hid (by unfold covV covB; rw [if_pos (by rw [← VA.out, ← VB.out]; rfl)])
      have KC : Hid (∀ w', Hid (MSt w w.heap.size (w.heap.size + 1) (.slice p1 ps.length c1) (.slice p2 ws.length c2) w') → w'.cell? ⟨w.heap.size, 0, none⟩ = some (.slice p1 ps.length c1) ∧ w'.cell? ⟨w.heap.size, 1, none⟩ = some (.slice p2 ws.length c2)) := Lib.hid (fun w' he => he.out.1.cells)
      have CD : Hid (∀ w', Hid (MSt w w.heap.size (w.heap.size + 1) (.slice p1 ps.length c1) (.slice p2 ws.length c2) w') → Calls Try.prog 53 #[.agg #[.slice p1 ps.length c1, .slice p2 ws.length c2]] w' (NewRoot ((sumsT ps ws).getD 0 0) w')) := Lib.hid (fun w' he => rootS ps ws _ w' PA.out.good (TV.out.boxed he.out.2.1))
      go_enter Try.func45, Try.ntmps45
      go_wp2_with fail
      rw [← hwa]
      clear hwa
      refine (EA.out _ HBA.out).mono ?_
      rintro e w1 ⟨rfl, b1⟩
      have HB1 := Lib.hid (HBA.out.trans (b1.mono HBA.out.size))
      have T2 := Lib.hid (T1.out.below b1 T1.out.lt)
      have R2 := Lib.hid (R1.out.below b1 R1.out.lt)
      clear b1 x0 x1 T1 R1
      obtain ⟨x0, x1⟩ := T2.out.cells
      go_wp2_with fail
      refine (EBS.out _ HB1.out).mono ?_
      rintro e w2 ⟨rfl, b2⟩
      have HE2 := Lib.hid (show MSt w w.heap.size (w.heap.size + 1) (.slice p1 ps.length c1) (.slice p2 ws.length c2) w2 from ⟨T2.out.below b2 T2.out.lt, HB1.out.trans (b2.mono HB1.out.size), R2.out.below b2 R2.out.lt⟩)
      have HD := Lib.hid HE2.out.drew
      clear b2 x0 x1 T2 R2 EA EBS HB1
      obtain ⟨x0, x1⟩ := KC.out _ HE2
      obtain ⟨sa, e4⟩ : ∃ z, z = (sumsT ps ws).getD 0 0 := ⟨_, rfl⟩
      have E4 := Lib.hid e4
      rw [← e4] at CD
      clear e4
      go_upto_region 3 with fail
      go_cut [8, 9] (fun o s wx => ∃ g, o = .slice (some ⟨g, 0, none⟩) 0 0 ∧ s = .int .i64 sa ∧ Hid (OwnV wx (w.heap.size + 2) wx.heap.size (.slice (some ⟨g, 0, none⟩) 0 0) []) ∧ Hid (MSt w w.heap.size (w.heap.size + 1) (.slice p1 ps.length c1) (.slice p2 ws.length c2) wx))
      case first =>
        have SZ2 : w.heap.size + 2 ≤ w2.drew.heap.size := HE2.out.2.2.lt
        have HA := Lib.hid (HD.out.next ((Below.refl w2.drew.heap.size w2.drew).alloc (Nat.le_refl _) (.cells #[] 3)))
        have OA := Lib.hid (OwnV.empty w2.drew (w.heap.size + 2) SZ2)
        refine wp_region_held_drew (S := fun w' => w'.cell? ⟨w.heap.size, 0, none⟩ = some (.slice p1 ps.length c1) ∧ w'.cell? ⟨w.heap.size, 1, none⟩ = some (.slice p2 ws.length c2)) (by kernel_rfl) (KC.out _ HD) (fun hHeld => ?_)
        refine wpAnyH_take (i := 1) (oi := { dst := some 23, op := Op.load 29 (Operand.tmp 3), type := 29, pos := "l2_trees.go:358", after := #[], guard := none }) (v := ?_) rfl (by kernel_rfl) (by kernel_rfl) (by kernel_rfl) (fun _ _ _ h => h) (Or.inl ⟨by rfl, ?_⟩) (by assumption) ?_
        rotate_left 1
        · intro wq hSw; (try dsimp only at hSw); first | (go_simp; done) | (go_simp; with_reducible rfl)
        (try simp only [Act.put, List.setIfInBounds_toArray, List.set_cons_zero, List.set_cons_succ])
        refine wpAnyH_ready (rs := [0, 2]) (by kernel_rfl) (by simp) ?_
        refine AllReadyH.cons (o := { dst := some 22, op := Op.buildSlice 22 0 #[], type := 22, pos := "l2_trees.go:358", after := #[], guard := none }) rfl (fun K hK => ?_) (AllReadyH.cons (o := { dst := some 24, op := Op.call { callee := Callee.value (Operand.func 53), args := #[Operand.tmp 23], argTypes := #[29] }, type := 22, pos := "l2_trees.go:358", after := #[{ on := 1, ground := Ground.data }], guard := none }) rfl (fun K hK => ?_) AllReadyH.nil)
        · go_simp
          refine hK.out _ _ (KC.out _ HA) (fun hHeld => ?_)
          (try simp only [Act.put, List.setIfInBounds_toArray, List.set_cons_zero, List.set_cons_succ])
          refine wpAnyH_ready (rs := [2]) (by kernel_rfl) (by simp) ?_
          refine AllReadyH.cons (o := { dst := some 24, op := Op.call { callee := Callee.value (Operand.func 53), args := #[Operand.tmp 23], argTypes := #[29] }, type := 22, pos := "l2_trees.go:358", after := #[{ on := 1, ground := Ground.data }], guard := none }) rfl (fun K hK => ?_) AllReadyH.nil
          go_simp
          refine (CD.out _ HA).mono ?_
          rintro e w8 ⟨g, n, c, rfl, hn0, hg, y0, bw8⟩
          have HEw8 := Lib.hid (MSt.next (Hid.out HA) bw8)
          have hn1 : (0 : Int) < (n : Int) := by omega
          go_wp2_with fail
          refine hK.out _ _ (KC.out _ HEw8) (fun hHeld => ?_)
          (try simp only [Act.put, List.setIfInBounds_toArray, List.set_cons_zero, List.set_cons_succ])
          refine held_more (S' := fun w' => w'.cell? ⟨w.heap.size, 0, none⟩ = some (.slice p1 ps.length c1) ∧ w'.cell? ⟨w.heap.size, 1, none⟩ = some (.slice p2 ws.length c2) ∧ w'.cell? ⟨g, 0, none⟩ = some (.int .i64 sa)) (fun w' h => ⟨h.1, h.2.1⟩) _ _ _ _ ?_
          have hHeld2 : (fun w' : World => w'.cell? ⟨w.heap.size, 0, none⟩ = some (.slice p1 ps.length c1) ∧ w'.cell? ⟨w.heap.size, 1, none⟩ = some (.slice p2 ws.length c2) ∧ w'.cell? ⟨g, 0, none⟩ = some (.int .i64 sa)) w8 := ⟨(KC.out _ HEw8).1, (KC.out _ HEw8).2, y0⟩
          refine wpAnyH_take (i := 3) (oi := { dst := some 25, op := Op.indexAddr 22 (Operand.tmp 24) (Operand.const (Value.int IntKind.i64 0)), type := 0, pos := "l2_trees.go:358", after := #[{ on := 2, ground := Ground.data }, { on := 5, ground := Ground.gcOnly Departure.lateStores }], guard := none }) (v := ?_) rfl (by kernel_rfl) (by kernel_rfl) (by kernel_rfl) (fun _ _ _ h => h) (Or.inl ⟨by rfl, ?_⟩) (by assumption) ?_
          rotate_left 1
          · intro wq hSw; (try dsimp only at hSw); first | (go_simp; done) | (go_simp; with_reducible rfl)
          (try simp only [Act.put, List.setIfInBounds_toArray, List.set_cons_zero, List.set_cons_succ])
          refine wpAnyH_take (i := 4) (oi := { dst := some 26, op := Op.load 3 (Operand.tmp 25), type := 3, pos := "l2_trees.go:358", after := #[{ on := 3, ground := Ground.data }, { on := 5, ground := Ground.gcOnly Departure.lateStores }], guard := none }) (v := ?_) rfl (by kernel_rfl) (by kernel_rfl) (by kernel_rfl) (fun _ _ _ h => h) (Or.inl ⟨by rfl, ?_⟩) (by assumption) ?_
          rotate_left 1
          · intro wq hSw; (try dsimp only at hSw); first | (go_simp; done) | (go_simp; with_reducible rfl)
          (try simp only [Act.put, List.setIfInBounds_toArray, List.set_cons_zero, List.set_cons_succ])
          refine wpAnyH_take (i := 5) (oi := { dst := some 8, op := Op.assign (Operand.tmp 22), type := 22, pos := "l2_trees.go:358", after := #[{ on := 0, ground := Ground.data }, { on := 2, ground := Ground.chain }, { on := 0, ground := Ground.phase }, { on := 1, ground := Ground.textOnly Departure.lateStores }, { on := 2, ground := Ground.textOnly Departure.lateStoresUnsure }, { on := 3, ground := Ground.textOnly Departure.lateStores }, { on := 4, ground := Ground.textOnly Departure.lateStores }], guard := none }) (v := ?_) rfl (by kernel_rfl) (by kernel_rfl) (by kernel_rfl) (fun _ _ _ h => h) (Or.inl ⟨by rfl, ?_⟩) (by assumption) ?_
          rotate_left 1
          · intro wq hSw; (try dsimp only at hSw); first | (go_simp; done) | (go_simp; with_reducible rfl)
          (try simp only [Act.put, List.setIfInBounds_toArray, List.set_cons_zero, List.set_cons_succ])
          refine wpAnyH_take (i := 6) (oi := { dst := some 9, op := Op.assign (Operand.tmp 26), type := 3, pos := "l2_trees.go:358", after := #[{ on := 4, ground := Ground.data }, { on := 5, ground := Ground.chain }, { on := 0, ground := Ground.phase }, { on := 1, ground := Ground.phase }, { on := 2, ground := Ground.phase }, { on := 3, ground := Ground.phase }, { on := 4, ground := Ground.phase }, { on := 5, ground := Ground.phase }], guard := none }) (v := ?_) rfl (by kernel_rfl) (by kernel_rfl) (by kernel_rfl) (fun _ _ _ h => h) (Or.inl ⟨by rfl, ?_⟩) (by assumption) ?_
          rotate_left 1
          · intro wq hSw; (try dsimp only at hSw); first | (go_simp; done) | (go_simp; with_reducible rfl)
          (try simp only [Act.put, List.setIfInBounds_toArray, List.set_cons_zero, List.set_cons_succ])
          refine wpAnyH_done (by kernel_rfl) ?_ _
          go_wp2_with fail
          go_meet
          exact ⟨_, rfl, rfl, Lib.hid ((OA.out.below bw8).wide bw8.size (Nat.le_refl _)), HEw8⟩
        · go_simp
          refine (CD.out _ HD).mono ?_
          rintro e w8 ⟨g, n, c, rfl, hn0, hg, y0, bw8⟩
          have HEw8 := Lib.hid (MSt.next (Hid.out HD) bw8)
          have hn1 : (0 : Int) < (n : Int) := by omega
          go_wp2_with fail
          refine hK.out _ _ (KC.out _ HEw8) (fun hHeld => ?_)
          (try simp only [Act.put, List.setIfInBounds_toArray, List.set_cons_zero, List.set_cons_succ])
          refine held_more (S' := fun w' => w'.cell? ⟨w.heap.size, 0, none⟩ = some (.slice p1 ps.length c1) ∧ w'.cell? ⟨w.heap.size, 1, none⟩ = some (.slice p2 ws.length c2) ∧ w'.cell? ⟨g, 0, none⟩ = some (.int .i64 sa)) (fun w' h => ⟨h.1, h.2.1⟩) _ _ _ _ ?_
          have hHeld2 : (fun w' : World => w'.cell? ⟨w.heap.size, 0, none⟩ = some (.slice p1 ps.length c1) ∧ w'.cell? ⟨w.heap.size, 1, none⟩ = some (.slice p2 ws.length c2) ∧ w'.cell? ⟨g, 0, none⟩ = some (.int .i64 sa)) w8 := ⟨(KC.out _ HEw8).1, (KC.out _ HEw8).2, y0⟩
          refine wpAnyH_take (i := 3) (oi := { dst := some 25, op := Op.indexAddr 22 (Operand.tmp 24) (Operand.const (Value.int IntKind.i64 0)), type := 0, pos := "l2_trees.go:358", after := #[{ on := 2, ground := Ground.data }, { on := 5, ground := Ground.gcOnly Departure.lateStores }], guard := none }) (v := ?_) rfl (by kernel_rfl) (by kernel_rfl) (by kernel_rfl) (fun _ _ _ h => h) (Or.inl ⟨by rfl, ?_⟩) (by assumption) ?_
          rotate_left 1
          · intro wq hSw; (try dsimp only at hSw); first | (go_simp; done) | (go_simp; with_reducible rfl)
          (try simp only [Act.put, List.setIfInBounds_toArray, List.set_cons_zero, List.set_cons_succ])
          refine wpAnyH_take (i := 4) (oi := { dst := some 26, op := Op.load 3 (Operand.tmp 25), type := 3, pos := "l2_trees.go:358", after := #[{ on := 3, ground := Ground.data }, { on := 5, ground := Ground.gcOnly Departure.lateStores }], guard := none }) (v := ?_) rfl (by kernel_rfl) (by kernel_rfl) (by kernel_rfl) (fun _ _ _ h => h) (Or.inl ⟨by rfl, ?_⟩) (by assumption) ?_
          rotate_left 1
          · intro wq hSw; (try dsimp only at hSw); first | (go_simp; done) | (go_simp; with_reducible rfl)
          (try simp only [Act.put, List.setIfInBounds_toArray, List.set_cons_zero, List.set_cons_succ])
          have SZ8 : w.heap.size + 2 ≤ w8.heap.size := HEw8.out.2.2.lt
          have HB8 := Lib.hid (HEw8.out.next ((Below.refl w8.heap.size w8).alloc (Nat.le_refl _) (.cells #[] 3)))
          have y1 : (w8.alloc (.cells #[] 3)).cell? ⟨g, 0, none⟩ = some (.int .i64 sa) := by rw [World.cell?_alloc_lt _ _ _ (by exact hg)]; exact y0
          refine wpAnyH_ready (rs := [0]) (by kernel_rfl) (by simp) ?_
          refine AllReadyH.cons (o := { dst := some 22, op := Op.buildSlice 22 0 #[], type := 22, pos := "l2_trees.go:358", after := #[], guard := none }) rfl (fun K hK => ?_) AllReadyH.nil
          go_simp
          refine hK.out _ _ (⟨(KC.out _ HB8).1, (KC.out _ HB8).2, y1⟩) (fun hHeld => ?_)
          (try simp only [Act.put, List.setIfInBounds_toArray, List.set_cons_zero, List.set_cons_succ])
          refine wpAnyH_take (i := 5) (oi := { dst := some 8, op := Op.assign (Operand.tmp 22), type := 22, pos := "l2_trees.go:358", after := #[{ on := 0, ground := Ground.data }, { on := 2, ground := Ground.chain }, { on := 0, ground := Ground.phase }, { on := 1, ground := Ground.textOnly Departure.lateStores }, { on := 2, ground := Ground.textOnly Departure.lateStoresUnsure }, { on := 3, ground := Ground.textOnly Departure.lateStores }, { on := 4, ground := Ground.textOnly Departure.lateStores }], guard := none }) (v := ?_) rfl (by kernel_rfl) (by kernel_rfl) (by kernel_rfl) (fun _ _ _ h => h) (Or.inl ⟨by rfl, ?_⟩) (by assumption) ?_
          rotate_left 1
          · intro wq hSw; (try dsimp only at hSw); first | (go_simp; done) | (go_simp; with_reducible rfl)
          (try simp only [Act.put, List.setIfInBounds_toArray, List.set_cons_zero, List.set_cons_succ])
          refine wpAnyH_take (i := 6) (oi := { dst := some 9, op := Op.assign (Operand.tmp 26), type := 3, pos := "l2_trees.go:358", after := #[{ on := 4, ground := Ground.data }, { on := 5, ground := Ground.chain }, { on := 0, ground := Ground.phase }, { on := 1, ground := Ground.phase }, { on := 2, ground := Ground.phase }, { on := 3, ground := Ground.phase }, { on := 4, ground := Ground.phase }, { on := 5, ground := Ground.phase }], guard := none }) (v := ?_) rfl (by kernel_rfl) (by kernel_rfl) (by kernel_rfl) (fun _ _ _ h => h) (Or.inl ⟨by rfl, ?_⟩) (by assumption) ?_
          rotate_left 1
          · intro wq hSw; (try dsimp only at hSw); first | (go_simp; done) | (go_simp; with_reducible rfl)
          (try simp only [Act.put, List.setIfInBounds_toArray, List.set_cons_zero, List.set_cons_succ])
          refine wpAnyH_done (by kernel_rfl) ?_ _
          go_wp2_with fail
          go_meet
          exact ⟨_, rfl, rfl, Lib.hid (OwnV.empty w8 (w.heap.size + 2) SZ8), HB8⟩
      obtain ⟨g, rfl, rfl, hO, hM⟩ := hcut
      obtain ⟨w3, rfl⟩ : ∃ w3 : World, w3 = wc := ⟨_, rfl⟩
      have P0 : Hid (prodL (a.take 0) b = []) := Lib.hid (by simp [prodL])
      have O0 := Lib.hid (show OwnV w3 (w.heap.size + 2) w3.heap.size (.slice (some ⟨g, 0, none⟩) 0 0) (prodL (a.take 0) b) by rw [P0.out]; exact hO.out)
      have M0 := hM
      obtain ⟨pa', ca', ea', ia⟩ := AI.out
      injection ea' with ea1 ea2 ea3
      clear ea2 ea3
      rw [← ea1] at ia
      have IA := Lib.hid ia
      obtain ⟨pb', cb', eb', ib⟩ := BI.out
      injection eb' with eb1 eb2 eb3
      clear eb2 eb3
      rw [← eb1] at ib
      have IB := Lib.hid ib
      have LAB := Lib.hid (PA.out.len.trans PBB.out.len.symm)
      obtain ⟨i0, hi, hz0, hz1, hz2⟩ := info_parts intInfo
      clear hO x0 x1 ia ib ea1 eb1 AI BI hM HD HE2
      go_wp2_with fail
      go_loopw [8, 10] (fun o i wr => ∃ k : Nat, k ≤ a.length ∧ i = .int .i64 k ∧ Hid (OwnV wr (w.heap.size + 2) wr.heap.size o (prodL (a.take k) b)) ∧ Hid (MSt w w.heap.size (w.heap.size + 1) (.slice p1 ps.length c1) (.slice p2 ws.length c2) wr)) (fun _ i _ => a.length - (intOf i).toNat)
      case atStart => exact ⟨0, Nat.zero_le _, rfl, O0, M0⟩
      case round =>
        obtain ⟨k, hk, rfl, HO, HM⟩ := hrel
        clear O0 M0
        by_cases hlt : k < a.length
        · have hltb : k < b.length := by have := LAB.out; omega
          obtain ⟨ba, oa, rfl, hba, hca⟩ := IA.out.get hlt
          obtain ⟨bb, ob, rfl, hbb, hcb⟩ := IB.out.get hltb
          have hxa : wr.cell? ⟨ba, oa + k, none⟩ = some (.int .i64 (a.getD k 0)) := by rw [HM.out.2.1.cell (p := ⟨ba, oa + k, none⟩) hba]; exact hca
          have hxb : wr.cell? ⟨bb, ob + k, none⟩ = some (.int .i64 (b.getD k 0)) := by rw [HM.out.2.1.cell (p := ⟨bb, ob + k, none⟩) hbb]; exact hcb
          have PR := natAbs_mul_le (PA.out.abs k) (PBB.out.abs k)
          have PT := Lib.hid (prodL_take (b := b) hlt)
          have LL : (prodL (a.take k) b).length ≤ 1048576 := by rw [prodL_len, List.length_take]; omega
          have HM1 := Lib.hid HM.out.drew
          have hsz : w.heap.size + 2 ≤ wr.drew.heap.size := HM1.out.2.2.lt
          obtain ⟨x, hx⟩ : ∃ x, x = a.getD k 0 := ⟨_, rfl⟩
          obtain ⟨y, hy⟩ : ∃ y, y = b.getD k 0 := ⟨_, rfl⟩
          obtain ⟨L, hL⟩ : ∃ L, L = prodL (a.take k) b := ⟨_, rfl⟩
          rw [← hx] at hxa PR PT
          rw [← hy] at hxb PR PT
          rw [← hL] at HO LL PT
          have XI : Hid (InI64 (x * y)) := Lib.hid (by unfold InI64; omega)
          have WR : IntKind.i64.wrap (x * y) = x * y := IntWalk.i64_in _ (by omega)
          have i0' : (0 : Int) ≤ (k : Int) := by clear WR; omega
          have i1 : (k : Int) < (a.length : Int) := by clear WR; omega
          have i2 : (k : Int) < (b.length : Int) := by clear WR; omega
          clear hx hy hL hca hcb HM PR
          go_wp2_with fail
          have hsz2 : w.heap.size + 2 ≤ wr.heap.size := hsz
          have hba' : ba < wr.drew.heap.size := Nat.lt_of_lt_of_le hba (Nat.le_trans (by clear WR; omega) hsz)
          have hbb' : bb < wr.drew.heap.size := Nat.lt_of_lt_of_le hbb (Nat.le_trans (by clear WR; omega) hsz)
          have za : (wr.drew.alloc (.cells #[.int .i64 (x * y)] 3)).cell? ⟨ba, oa + k, none⟩ = some (.int .i64 x) := by rw [World.cell?_alloc_lt _ _ _ (by exact hba')]; exact hxa
          have zb : (wr.drew.alloc (.cells #[.int .i64 (x * y)] 3)).cell? ⟨bb, ob + k, none⟩ = some (.int .i64 y) := by rw [World.cell?_alloc_lt _ _ _ (by exact hbb')]; exact hxb
          have HOA := Lib.hid ((HO.out.below (below_drew (Below.refl wr.heap.size wr))).row.alloc (.cells #[.int .i64 (x * y)] 3))
          have HOD := Lib.hid (HO.out.below (below_drew (Below.refl wr.heap.size wr)))
          have HNA := Lib.hid (cell_one_new wr.drew (.int .i64 (x * y)) 3)
          refine wp_region_held_drew (S := fun w' => w'.cell? ⟨ba, oa + k, none⟩ = some (.int .i64 x) ∧ w'.cell? ⟨bb, ob + k, none⟩ = some (.int .i64 y)) (by kernel_rfl) ⟨hxa, hxb⟩ (fun hHeld => ?_)
          refine wpAnyH_take (i := 0) (oi := { dst := some 33, op := Op.move (Operand.tmp 8), type := 22, pos := "l2_trees.go:360", after := #[], guard := none }) (v := ?_) rfl (by kernel_rfl) (by kernel_rfl) (by kernel_rfl) (fun _ _ _ h => h) (Or.inl ⟨by rfl, ?_⟩) (by assumption) ?_
          rotate_left 1
          · intro wq hSw; (try dsimp only at hSw); first | (go_simp; done) | (go_simp; with_reducible rfl)
          (try simp only [Act.put, List.setIfInBounds_toArray, List.set_cons_zero, List.set_cons_succ])
          refine wpAnyH_take (i := 1) (oi := { dst := some 34, op := Op.move (Operand.tmp 1), type := 22, pos := "l2_trees.go:360", after := #[], guard := none }) (v := ?_) rfl (by kernel_rfl) (by kernel_rfl) (by kernel_rfl) (fun _ _ _ h => h) (Or.inl ⟨by rfl, ?_⟩) (by assumption) ?_
          rotate_left 1
          · intro wq hSw; (try dsimp only at hSw); first | (go_simp; done) | (go_simp; with_reducible rfl)
          (try simp only [Act.put, List.setIfInBounds_toArray, List.set_cons_zero, List.set_cons_succ])
          refine wpAnyH_take (i := 2) (oi := { dst := some 35, op := Op.move (Operand.tmp 10), type := 3, pos := "l2_trees.go:360", after := #[], guard := none }) (v := ?_) rfl (by kernel_rfl) (by kernel_rfl) (by kernel_rfl) (fun _ _ _ h => h) (Or.inl ⟨by rfl, ?_⟩) (by assumption) ?_
          rotate_left 1
          · intro wq hSw; (try dsimp only at hSw); first | (go_simp; done) | (go_simp; with_reducible rfl)
          (try simp only [Act.put, List.setIfInBounds_toArray, List.set_cons_zero, List.set_cons_succ])
          refine wpAnyH_take (i := 3) (oi := { dst := some 36, op := Op.indexAddr 22 (Operand.tmp 34) (Operand.tmp 35), type := 0, pos := "l2_trees.go:360", after := #[{ on := 1, ground := Ground.data }, { on := 2, ground := Ground.data }], guard := none }) (v := ?_) rfl (by kernel_rfl) (by kernel_rfl) (by kernel_rfl) (fun _ _ _ h => h) (Or.inl ⟨by rfl, ?_⟩) (by assumption) ?_
          rotate_left 1
          · intro wq hSw; (try dsimp only at hSw); first | (go_simp; done) | (go_simp; with_reducible rfl)
          (try simp only [Act.put, List.setIfInBounds_toArray, List.set_cons_zero, List.set_cons_succ])
          refine wpAnyH_take (i := 4) (oi := { dst := some 37, op := Op.load 3 (Operand.tmp 36), type := 3, pos := "l2_trees.go:360", after := #[{ on := 3, ground := Ground.data }], guard := none }) (v := ?_) rfl (by kernel_rfl) (by kernel_rfl) (by kernel_rfl) (fun _ _ _ h => h) (Or.inl ⟨by rfl, ?_⟩) (by assumption) ?_
          rotate_left 1
          · intro wq hSw; (try dsimp only at hSw); first | (go_simp; done) | (go_simp; with_reducible rfl)
          (try simp only [Act.put, List.setIfInBounds_toArray, List.set_cons_zero, List.set_cons_succ])
          refine wpAnyH_take (i := 5) (oi := { dst := some 38, op := Op.move (Operand.tmp 2), type := 22, pos := "l2_trees.go:360", after := #[], guard := none }) (v := ?_) rfl (by kernel_rfl) (by kernel_rfl) (by kernel_rfl) (fun _ _ _ h => h) (Or.inl ⟨by rfl, ?_⟩) (by assumption) ?_
          rotate_left 1
          · intro wq hSw; (try dsimp only at hSw); first | (go_simp; done) | (go_simp; with_reducible rfl)
          (try simp only [Act.put, List.setIfInBounds_toArray, List.set_cons_zero, List.set_cons_succ])
          refine wpAnyH_take (i := 6) (oi := { dst := some 39, op := Op.move (Operand.tmp 10), type := 3, pos := "l2_trees.go:360", after := #[], guard := none }) (v := ?_) rfl (by kernel_rfl) (by kernel_rfl) (by kernel_rfl) (fun _ _ _ h => h) (Or.inl ⟨by rfl, ?_⟩) (by assumption) ?_
          rotate_left 1
          · intro wq hSw; (try dsimp only at hSw); first | (go_simp; done) | (go_simp; with_reducible rfl)
          (try simp only [Act.put, List.setIfInBounds_toArray, List.set_cons_zero, List.set_cons_succ])
          refine wpAnyH_take (i := 7) (oi := { dst := some 40, op := Op.indexAddr 22 (Operand.tmp 38) (Operand.tmp 39), type := 0, pos := "l2_trees.go:360", after := #[{ on := 5, ground := Ground.data }, { on := 6, ground := Ground.data }], guard := none }) (v := ?_) rfl (by kernel_rfl) (by kernel_rfl) (by kernel_rfl) (fun _ _ _ h => h) (Or.inl ⟨by rfl, ?_⟩) (by assumption) ?_
          rotate_left 1
          · intro wq hSw; (try dsimp only at hSw); first | (go_simp; done) | (go_simp; with_reducible rfl)
          (try simp only [Act.put, List.setIfInBounds_toArray, List.set_cons_zero, List.set_cons_succ])
          refine wpAnyH_take (i := 8) (oi := { dst := some 41, op := Op.load 3 (Operand.tmp 40), type := 3, pos := "l2_trees.go:360", after := #[{ on := 7, ground := Ground.data }], guard := none }) (v := ?_) rfl (by kernel_rfl) (by kernel_rfl) (by kernel_rfl) (fun _ _ _ h => h) (Or.inl ⟨by rfl, ?_⟩) (by assumption) ?_
          rotate_left 1
          · intro wq hSw; (try dsimp only at hSw); first | (go_simp; done) | (go_simp; with_reducible rfl)
          (try simp only [Act.put, List.setIfInBounds_toArray, List.set_cons_zero, List.set_cons_succ])
          refine wpAnyH_take (i := 9) (oi := { dst := some 42, op := Op.binOp BinOp.mul 3 (Operand.tmp 37) (Operand.tmp 41) 3, type := 3, pos := "l2_trees.go:360", after := #[{ on := 4, ground := Ground.data }, { on := 8, ground := Ground.data }], guard := none }) (v := ?_) rfl (by kernel_rfl) (by kernel_rfl) (by kernel_rfl) (fun _ _ _ h => h) (Or.inl ⟨by rfl, ?_⟩) (by assumption) ?_
          rotate_left 1
          · intro wq hSw; (try dsimp only at hSw); first | (go_simp; done) | (go_simp; with_reducible rfl)
          (try simp only [Act.put, List.setIfInBounds_toArray, List.set_cons_zero, List.set_cons_succ])
          refine wpAnyH_ready (rs := [10]) (by kernel_rfl) (by simp) ?_
          refine AllReadyH.cons (o := { dst := some 43, op := Op.buildSlice 22 1 #[(0, Operand.tmp 42)], type := 22, pos := "l2_trees.go:360", after := #[{ on := 9, ground := Ground.data }], guard := none }) rfl (fun K hK => ?_) AllReadyH.nil
          go_simp
          refine hK.out _ _ ⟨za, zb⟩ (fun hHeld => ?_)
          (try simp only [Act.put, List.setIfInBounds_toArray, List.set_cons_zero, List.set_cons_succ])
          clear WR
          refine wpAnyH_ready (rs := [11]) (by kernel_rfl) (by simp) ?_
          refine AllReadyH.cons (o := { dst := some 44, op := Op.call { callee := Callee.builtin Builtin.append, args := #[Operand.tmp 33, Operand.tmp 43], argTypes := #[22, 22] }, type := 22, pos := "l2_trees.go:360", after := #[{ on := 0, ground := Ground.data }, { on := 10, ground := Ground.data }], guard := none }) rfl (fun K hK => ?_) AllReadyH.nil
          refine step_append_lies _ rfl _ _ 22 rfl (w.heap.size + 2) 3 i0 (.int .i64 0) 1 8 Try.underlying22 hi hz0 hz1 hz2 rfl (by decide) _ L.length (L.map (.int .i64)) rfl HOA.out ⟨wr.drew.heap.size, 0, none⟩ 1 1 [.int .i64 (x * y)] rfl rfl HNA.out (fun u hu => by simp at hu; subst hu; rfl) (by omega) (by unfold maxLen; omega) (by omega) (by simp; omega) _ rfl ?_
          intro g4 cap4 w4 hown3 hgrow3 hat3 hlt3
          have own4 := Lib.hid (HOD.out.app XI.out hown3)
          have hne : ∀ i, i < w.heap.size + 2 → w4.heap[i]? = wr.drew.heap[i]? := fun i h => by
            rw [hgrow3.block i (by simp; omega) (fun e => by have := (HOA.out.lt i e.symm).1; omega)]
            show (wr.drew.heap.push _)[i]? = _
            rw [Array.getElem?_push, if_neg (by omega)]
          have m4 : Hid (MSt w w.heap.size (w.heap.size + 1) (.slice p1 ps.length c1) (.slice p2 ws.length c2) w4) := Lib.hid ⟨(hne _ (by omega)).trans HM1.out.1, (HM1.out.2.1.alloc HM1.out.2.1.size _).grown hgrow3 (by have := HM1.out.2.1.size; simp; omega) (fun q hq => by have := (HOA.out.lt q hq).1; omega), (hne _ (by omega)).trans HM1.out.2.2⟩
          have ya : w4.cell? ⟨ba, oa + k, none⟩ = some (.int .i64 x) := by rw [m4.out.2.1.cell (p := ⟨ba, oa + k, none⟩) hba]; exact (HM1.out.2.1.cell (p := ⟨ba, oa + k, none⟩) hba).symm.trans hxa
          have yb : w4.cell? ⟨bb, ob + k, none⟩ = some (.int .i64 y) := by rw [m4.out.2.1.cell (p := ⟨bb, ob + k, none⟩) hbb]; exact (HM1.out.2.1.cell (p := ⟨bb, ob + k, none⟩) hbb).symm.trans hxb
          refine hK.out _ _ ⟨ya, yb⟩ (fun hHeld => ?_)
          (try simp only [Act.put, List.setIfInBounds_toArray, List.set_cons_zero, List.set_cons_succ])
          clear hown3 hgrow3 hat3 hlt3 hne
          refine wpAnyH_take (i := 12) (oi := { dst := some 8, op := Op.assign (Operand.tmp 44), type := 22, pos := "l2_trees.go:360", after := #[{ on := 11, ground := Ground.data }, { on := 11, ground := Ground.chain }, { on := 0, ground := Ground.phase }, { on := 1, ground := Ground.phase }, { on := 2, ground := Ground.phase }, { on := 3, ground := Ground.phase }, { on := 4, ground := Ground.phase }, { on := 5, ground := Ground.phase }, { on := 6, ground := Ground.phase }, { on := 7, ground := Ground.phase }, { on := 8, ground := Ground.phase }, { on := 9, ground := Ground.phase }, { on := 10, ground := Ground.phase }, { on := 11, ground := Ground.phase }], guard := none }) (v := ?_) rfl (by kernel_rfl) (by kernel_rfl) (by kernel_rfl) (fun _ _ _ h => h) (Or.inl ⟨by rfl, ?_⟩) (by assumption) ?_
          rotate_left 1
          · intro wq hSw; (try dsimp only at hSw); first | (go_simp; done) | (go_simp; with_reducible rfl)
          (try simp only [Act.put, List.setIfInBounds_toArray, List.set_cons_zero, List.set_cons_succ])
          refine wpAnyH_done (by kernel_rfl) ?_ _
          go_wp2_with fail
          go_roundw
          case rel => exact ⟨k + 1, by omega, by go_num, Lib.hid (by rw [PT.out]; exact own4.out), m4⟩
          case measure => simp [intOf]; omega
        · have PE : Hid (prodL (a.take k) b = prodL a b) := Lib.hid (by rw [List.take_of_length_le (by omega)])
          rw [PE.out] at HO
          have HE0 := HM
          obtain ⟨go, co, hsh, hgo1, hgo2⟩ := HO.out.shape (by rw [prodL_len]; have h1 := PA.out.len; have h2 := ends_pos PA.out.good; omega)
          subst hsh
          have PL := Lib.hid (prodL_len a b)
          have HOI := Lib.hid HO.out.intsV
          have CV2 := CV
          have S1 : Hid (∀ w', Below wr.heap.size wr w' → Hid (MSt w w.heap.size (w.heap.size + 1) (.slice p1 ps.length c1) (.slice p2 ws.length c2) w') → Calls Try.prog 81 #[.agg #[.slice p1 ps.length c1, .slice p2 ws.length c2], .slice (some ⟨go, 0, none⟩) (prodL a b).length co] w' (RootG (totT ps ws (prodL a b)) w')) := Lib.hid (fun w' hb he => totR ps ws (prodL a b) 998001 (by omega) _ _ w' PA.out.good (by rw [PL.out]; exact PA.out.len) (prod_abs PA.out PBB.out) (TV.out.boxed he.out.2.1) ((HOI.out.below hb).more hb.size))
          have S2 : Hid (∀ w', Hid (MSt w w.heap.size (w.heap.size + 1) (.slice p1 ps.length c1) (.slice p2 ws.length c2) w') → Calls Try.prog 81 #[.agg #[.slice p1 ps.length c1, .slice p2 ws.length c2], .slice qa a.length da] w' (RootG (totT ps ws a) w')) := Lib.hid (fun w' he => totR ps ws a 999 (by omega) _ _ w' PA.out.good PA.out.len PA.out.abs (TV.out.boxed he.out.2.1) ((AV.out.below he.out.2.1).more he.out.2.1.size))
          have S3 : Hid (∀ w', Hid (MSt w w.heap.size (w.heap.size + 1) (.slice p1 ps.length c1) (.slice p2 ws.length c2) w') → Calls Try.prog 81 #[.agg #[.slice p1 ps.length c1, .slice p2 ws.length c2], .slice qb b.length db] w' (RootG (totT ps ws b) w')) := Lib.hid (fun w' he => totR ps ws b 999 (by omega) _ _ w' PA.out.good PBB.out.len PBB.out.abs (TV.out.boxed he.out.2.1) ((BV.out.below he.out.2.1).more he.out.2.1.size))
          have BP := totT_bd (vs := prodL a b) PA.out.good 998001 (prod_abs PA.out PBB.out)
          have BX := totT_bd (vs := a) PA.out.good 999 PA.out.abs
          have BY := totT_bd (vs := b) PA.out.good 999 PBB.out.abs
          have BS : 0 < sa ∧ sa ≤ 480 := by rw [E4.out]; have := sumsT_root PA.out.good; have := sumsT_bd PA.out.good 0 (by have := PA.out.good.n1; omega); omega
          have QN : Hid (covN ps ws a b = totT ps ws (prodL a b) * (sumsT ps ws).getD 0 0 - totT ps ws a * totT ps ws b) := Lib.hid rfl
          have QD : Hid (covD ps ws = (sumsT ps ws).getD 0 0 * (sumsT ps ws).getD 0 0) := Lib.hid rfl
          rw [QN.out, QD.out, ← E4.out] at CV2
          clear QN QD
          obtain ⟨tp, e1⟩ : ∃ z, z = totT ps ws (prodL a b) := ⟨_, rfl⟩
          obtain ⟨ta, e2⟩ : ∃ z, z = totT ps ws a := ⟨_, rfl⟩
          obtain ⟨tb, e3⟩ : ∃ z, z = totT ps ws b := ⟨_, rfl⟩
          rw [← e1] at S1 CV2 BP
          rw [← e2] at S2 CV2 BX
          rw [← e3] at S3 CV2 BY
          clear e1 e2 e3
          have D1 := abs_mul_bd (x := tp) (y := sa) (p := 480 * 998001) (q := 480) (by omega) (by omega)
          have D2 := abs_mul_bd (x := ta) (y := tb) (p := 480 * 999) (q := 480 * 999) (by omega) (by omega)
          have D3 := abs_mul_bd (x := sa) (y := sa) (p := 480) (q := 480) (by omega) (by omega)
          have D4 : 0 < sa * sa := Int.mul_pos BS.1 BS.1
          have RC := Lib.hid (fun w' => cutS (tp * sa - ta * tb) (sa * sa) w' (by omega) (by omega))
          have RK := Lib.hid (fun w' => keptS_cut (a := tp * sa - ta * tb) (b := sa * sa) w' D4)
          obtain ⟨pn, pd, ok, hK8⟩ := keptV_form (cutN (tp * sa - ta * tb) (sa * sa)) (cutD (tp * sa - ta * tb) (sa * sa))
          rw [hK8] at RK CV2
          obtain ⟨qn, hqn⟩ : ∃ z, z = cutN (tp * sa - ta * tb) (sa * sa) := ⟨_, rfl⟩
          obtain ⟨qd, hqd⟩ : ∃ z, z = cutD (tp * sa - ta * tb) (sa * sa) := ⟨_, rfl⟩
          rw [← hqn, ← hqd] at RC RK
          have HD := Lib.hid HE0.out.drew
          have HDB : Below wr.heap.size wr wr.drew := below_drew (Below.refl _ _)
          have V1 : IntKind.i64.wrap (tp * sa) = tp * sa := IntWalk.i64_in _ (by omega)
          have V2 : IntKind.i64.wrap (ta * tb) = ta * tb := IntWalk.i64_in _ (by omega)
          have V3 : IntKind.i64.wrap (sa * sa) = sa * sa := IntWalk.i64_in _ (by omega)
          have V4 : IntKind.i64.wrap (tp * sa - ta * tb) = tp * sa - ta * tb := IntWalk.i64_in _ (by omega)
          clear hK8 hqn hqd D1 D2 D3 D4 BP BX BY BS CV HO
          obtain ⟨x0, x1⟩ := KC.out _ HE0
          go_upto_region 8 with fail
          refine wp_region_held_drew (S := fun w' => w'.cell? ⟨w.heap.size, 0, none⟩ = some (.slice p1 ps.length c1) ∧ w'.cell? ⟨w.heap.size, 1, none⟩ = some (.slice p2 ws.length c2)) (by kernel_rfl) (KC.out _ HD) (fun hHeld => ?_)
          refine wpAnyH_take (i := 0) (oi := { dst := some 45, op := Op.load 29 (Operand.tmp 3), type := 29, pos := "l2_trees.go:362", after := #[], guard := none }) (v := ?_) rfl (by kernel_rfl) (by kernel_rfl) (by kernel_rfl) (fun _ _ _ h => h) (Or.inl ⟨by rfl, ?_⟩) (by assumption) ?_
          rotate_left 1
          · intro wq hSw; (try dsimp only at hSw); first | (go_simp; done) | (go_simp; with_reducible rfl)
          (try simp only [Act.put, List.setIfInBounds_toArray, List.set_cons_zero, List.set_cons_succ])
          refine wpAnyH_take (i := 1) (oi := { dst := some 46, op := Op.move (Operand.tmp 8), type := 22, pos := "l2_trees.go:362", after := #[], guard := none }) (v := ?_) rfl (by kernel_rfl) (by kernel_rfl) (by kernel_rfl) (fun _ _ _ h => h) (Or.inl ⟨by rfl, ?_⟩) (by assumption) ?_
          rotate_left 1
          · intro wq hSw; (try dsimp only at hSw); first | (go_simp; done) | (go_simp; with_reducible rfl)
          (try simp only [Act.put, List.setIfInBounds_toArray, List.set_cons_zero, List.set_cons_succ])
          refine wpAnyH_take (i := 5) (oi := { dst := some 50, op := Op.move (Operand.tmp 9), type := 3, pos := "l2_trees.go:362", after := #[], guard := none }) (v := ?_) rfl (by kernel_rfl) (by kernel_rfl) (by kernel_rfl) (fun _ _ _ h => h) (Or.inl ⟨by rfl, ?_⟩) (by assumption) ?_
          rotate_left 1
          · intro wq hSw; (try dsimp only at hSw); first | (go_simp; done) | (go_simp; with_reducible rfl)
          (try simp only [Act.put, List.setIfInBounds_toArray, List.set_cons_zero, List.set_cons_succ])
          refine wpAnyH_take (i := 7) (oi := { dst := some 52, op := Op.load 29 (Operand.tmp 3), type := 29, pos := "l2_trees.go:362", after := #[], guard := none }) (v := ?_) rfl (by kernel_rfl) (by kernel_rfl) (by kernel_rfl) (fun _ _ _ h => h) (Or.inl ⟨by rfl, ?_⟩) (by assumption) ?_
          rotate_left 1
          · intro wq hSw; (try dsimp only at hSw); first | (go_simp; done) | (go_simp; with_reducible rfl)
          (try simp only [Act.put, List.setIfInBounds_toArray, List.set_cons_zero, List.set_cons_succ])
          refine wpAnyH_take (i := 8) (oi := { dst := some 53, op := Op.move (Operand.tmp 1), type := 22, pos := "l2_trees.go:362", after := #[], guard := none }) (v := ?_) rfl (by kernel_rfl) (by kernel_rfl) (by kernel_rfl) (fun _ _ _ h => h) (Or.inl ⟨by rfl, ?_⟩) (by assumption) ?_
          rotate_left 1
          · intro wq hSw; (try dsimp only at hSw); first | (go_simp; done) | (go_simp; with_reducible rfl)
          (try simp only [Act.put, List.setIfInBounds_toArray, List.set_cons_zero, List.set_cons_succ])
          refine wpAnyH_take (i := 12) (oi := { dst := some 57, op := Op.load 29 (Operand.tmp 3), type := 29, pos := "l2_trees.go:362", after := #[], guard := none }) (v := ?_) rfl (by kernel_rfl) (by kernel_rfl) (by kernel_rfl) (fun _ _ _ h => h) (Or.inl ⟨by rfl, ?_⟩) (by assumption) ?_
          rotate_left 1
          · intro wq hSw; (try dsimp only at hSw); first | (go_simp; done) | (go_simp; with_reducible rfl)
          (try simp only [Act.put, List.setIfInBounds_toArray, List.set_cons_zero, List.set_cons_succ])
          refine wpAnyH_take (i := 13) (oi := { dst := some 58, op := Op.move (Operand.tmp 2), type := 22, pos := "l2_trees.go:362", after := #[], guard := none }) (v := ?_) rfl (by kernel_rfl) (by kernel_rfl) (by kernel_rfl) (fun _ _ _ h => h) (Or.inl ⟨by rfl, ?_⟩) (by assumption) ?_
          rotate_left 1
          · intro wq hSw; (try dsimp only at hSw); first | (go_simp; done) | (go_simp; with_reducible rfl)
          (try simp only [Act.put, List.setIfInBounds_toArray, List.set_cons_zero, List.set_cons_succ])
          refine wpAnyH_take (i := 19) (oi := { dst := some 64, op := Op.move (Operand.tmp 9), type := 3, pos := "l2_trees.go:362", after := #[], guard := none }) (v := ?_) rfl (by kernel_rfl) (by kernel_rfl) (by kernel_rfl) (fun _ _ _ h => h) (Or.inl ⟨by rfl, ?_⟩) (by assumption) ?_
          rotate_left 1
          · intro wq hSw; (try dsimp only at hSw); first | (go_simp; done) | (go_simp; with_reducible rfl)
          (try simp only [Act.put, List.setIfInBounds_toArray, List.set_cons_zero, List.set_cons_succ])
          refine wpAnyH_take (i := 20) (oi := { dst := some 65, op := Op.move (Operand.tmp 9), type := 3, pos := "l2_trees.go:362", after := #[], guard := none }) (v := ?_) rfl (by kernel_rfl) (by kernel_rfl) (by kernel_rfl) (fun _ _ _ h => h) (Or.inl ⟨by rfl, ?_⟩) (by assumption) ?_
          rotate_left 1
          · intro wq hSw; (try dsimp only at hSw); first | (go_simp; done) | (go_simp; with_reducible rfl)
          (try simp only [Act.put, List.setIfInBounds_toArray, List.set_cons_zero, List.set_cons_succ])
          refine wpAnyH_take (i := 21) (oi := { dst := some 66, op := Op.binOp BinOp.mul 3 (Operand.tmp 64) (Operand.tmp 65) 3, type := 3, pos := "l2_trees.go:362", after := #[{ on := 19, ground := Ground.data }, { on := 20, ground := Ground.data }], guard := none }) (v := ?_) rfl (by kernel_rfl) (by kernel_rfl) (by kernel_rfl) (fun _ _ _ h => h) (Or.inl ⟨by rfl, ?_⟩) (by assumption) ?_
          rotate_left 1
          · intro wq hSw; (try dsimp only at hSw); first | (go_simp; done) | (go_simp; with_reducible rfl)
          (try simp only [Act.put, List.setIfInBounds_toArray, List.set_cons_zero, List.set_cons_succ])
          refine wpAnyH_ready (rs := [2]) (by kernel_rfl) (by simp) ?_
          refine AllReadyH.cons (o := { dst := some 47, op := Op.call { callee := Callee.value (Operand.func 81), args := #[Operand.tmp 45, Operand.tmp 46], argTypes := #[29, 22] }, type := 22, pos := "l2_trees.go:362", after := #[{ on := 0, ground := Ground.data }, { on := 1, ground := Ground.data }], guard := none }) rfl (fun K hK => ?_) AllReadyH.nil
          go_simp
          refine (S1.out _ HDB HD).mono ?_
          rintro e w11 ⟨g11, n11, k11, rfl, hn11, hg11, y11, hlo11, b11⟩
          have HE11 := Lib.hid (MSt.next (Hid.out HD) b11)
          have hn11' : (0 : Int) < (n11 : Int) := by clear V1 V2 V3 V4; omega
          have hr11 : g11 ≠ w.heap.size + 1 := by clear V1 V2 V3 V4; have := (Hid.out HD).2.2.lt; omega
          have y11_11 := y11
          go_wp2_with fail
          refine hK.out _ _ (KC.out _ HE11) (fun hHeld => ?_)
          (try simp only [Act.put, List.setIfInBounds_toArray, List.set_cons_zero, List.set_cons_succ])
          refine held_more (S' := fun w' => w'.cell? ⟨w.heap.size, 0, none⟩ = some (.slice p1 ps.length c1) ∧ w'.cell? ⟨w.heap.size, 1, none⟩ = some (.slice p2 ws.length c2) ∧ w'.cell? ⟨g11, 0, none⟩ = some (.int .i64 tp)) (fun w' h => ⟨h.1, h.2.1⟩) _ _ _ _ ?_
          have hHeld11 : (fun w' : World => w'.cell? ⟨w.heap.size, 0, none⟩ = some (.slice p1 ps.length c1) ∧ w'.cell? ⟨w.heap.size, 1, none⟩ = some (.slice p2 ws.length c2) ∧ w'.cell? ⟨g11, 0, none⟩ = some (.int .i64 tp)) w11 := ⟨(KC.out _ HE11).1, (KC.out _ HE11).2, y11_11⟩
          refine wpAnyH_take (i := 3) (oi := { dst := some 48, op := Op.indexAddr 22 (Operand.tmp 47) (Operand.const (Value.int IntKind.i64 0)), type := 0, pos := "l2_trees.go:362", after := #[{ on := 2, ground := Ground.data }], guard := none }) (v := ?_) rfl (by kernel_rfl) (by kernel_rfl) (by kernel_rfl) (fun _ _ _ h => h) (Or.inl ⟨by rfl, ?_⟩) (by assumption) ?_
          rotate_left 1
          · intro wq hSw; (try dsimp only at hSw); first | (go_simp; done) | (go_simp; with_reducible rfl)
          (try simp only [Act.put, List.setIfInBounds_toArray, List.set_cons_zero, List.set_cons_succ])
          refine wpAnyH_take (i := 4) (oi := { dst := some 49, op := Op.load 3 (Operand.tmp 48), type := 3, pos := "l2_trees.go:362", after := #[{ on := 3, ground := Ground.data }], guard := none }) (v := ?_) rfl (by kernel_rfl) (by kernel_rfl) (by kernel_rfl) (fun _ _ _ h => h) (Or.inl ⟨by rfl, ?_⟩) (by assumption) ?_
          rotate_left 1
          · intro wq hSw; (try dsimp only at hSw); first | (go_simp; done) | (go_simp; with_reducible rfl)
          (try simp only [Act.put, List.setIfInBounds_toArray, List.set_cons_zero, List.set_cons_succ])
          refine wpAnyH_take (i := 6) (oi := { dst := some 51, op := Op.binOp BinOp.mul 3 (Operand.tmp 49) (Operand.tmp 50) 3, type := 3, pos := "l2_trees.go:362", after := #[{ on := 4, ground := Ground.data }, { on := 5, ground := Ground.data }], guard := none }) (v := ?_) rfl (by kernel_rfl) (by kernel_rfl) (by kernel_rfl) (fun _ _ _ h => h) (Or.inl ⟨by rfl, ?_⟩) (by assumption) ?_
          rotate_left 1
          · intro wq hSw; (try dsimp only at hSw); first | (go_simp; done) | (go_simp; with_reducible rfl)
          (try simp only [Act.put, List.setIfInBounds_toArray, List.set_cons_zero, List.set_cons_succ])
          refine wpAnyH_ready (rs := [9]) (by kernel_rfl) (by simp) ?_
          refine AllReadyH.cons (o := { dst := some 54, op := Op.call { callee := Callee.value (Operand.func 81), args := #[Operand.tmp 52, Operand.tmp 53], argTypes := #[29, 22] }, type := 22, pos := "l2_trees.go:362", after := #[{ on := 7, ground := Ground.data }, { on := 8, ground := Ground.data }, { on := 2, ground := Ground.chain }], guard := none }) rfl (fun K hK => ?_) AllReadyH.nil
          go_simp
          refine (S2.out _ HE11).mono ?_
          rintro e w12 ⟨g12, n12, k12, rfl, hn12, hg12, y12, hlo12, b12⟩
          have HE12 := Lib.hid (MSt.next (Hid.out HE11) b12)
          have y11_12 := (b12.cell (p := ⟨g11, 0, none⟩) hg11).trans y11_11
          have hg11 := Nat.lt_of_lt_of_le hg11 b12.size
          have hn12' : (0 : Int) < (n12 : Int) := by clear V1 V2 V3 V4; omega
          have hr12 : g12 ≠ w.heap.size + 1 := by clear V1 V2 V3 V4; have := (Hid.out HE11).2.2.lt; omega
          have y12_12 := y12
          go_wp2_with fail
          refine hK.out _ _ (⟨(KC.out _ HE12).1, (KC.out _ HE12).2, y11_12⟩) (fun hHeld => ?_)
          (try simp only [Act.put, List.setIfInBounds_toArray, List.set_cons_zero, List.set_cons_succ])
          refine held_more (S' := fun w' => w'.cell? ⟨w.heap.size, 0, none⟩ = some (.slice p1 ps.length c1) ∧ w'.cell? ⟨w.heap.size, 1, none⟩ = some (.slice p2 ws.length c2) ∧ w'.cell? ⟨g11, 0, none⟩ = some (.int .i64 tp) ∧ w'.cell? ⟨g12, 0, none⟩ = some (.int .i64 ta)) (fun w' h => ⟨h.1, h.2.1, h.2.2.1⟩) _ _ _ _ ?_
          have hHeld12 : (fun w' : World => w'.cell? ⟨w.heap.size, 0, none⟩ = some (.slice p1 ps.length c1) ∧ w'.cell? ⟨w.heap.size, 1, none⟩ = some (.slice p2 ws.length c2) ∧ w'.cell? ⟨g11, 0, none⟩ = some (.int .i64 tp) ∧ w'.cell? ⟨g12, 0, none⟩ = some (.int .i64 ta)) w12 := ⟨(KC.out _ HE12).1, (KC.out _ HE12).2, y11_12, y12_12⟩
          refine wpAnyH_take (i := 10) (oi := { dst := some 55, op := Op.indexAddr 22 (Operand.tmp 54) (Operand.const (Value.int IntKind.i64 0)), type := 0, pos := "l2_trees.go:362", after := #[{ on := 9, ground := Ground.data }], guard := none }) (v := ?_) rfl (by kernel_rfl) (by kernel_rfl) (by kernel_rfl) (fun _ _ _ h => h) (Or.inl ⟨by rfl, ?_⟩) (by assumption) ?_
          rotate_left 1
          · intro wq hSw; (try dsimp only at hSw); first | (go_simp; done) | (go_simp; with_reducible rfl)
          (try simp only [Act.put, List.setIfInBounds_toArray, List.set_cons_zero, List.set_cons_succ])
          refine wpAnyH_take (i := 11) (oi := { dst := some 56, op := Op.load 3 (Operand.tmp 55), type := 3, pos := "l2_trees.go:362", after := #[{ on := 10, ground := Ground.data }], guard := none }) (v := ?_) rfl (by kernel_rfl) (by kernel_rfl) (by kernel_rfl) (fun _ _ _ h => h) (Or.inl ⟨by rfl, ?_⟩) (by assumption) ?_
          rotate_left 1
          · intro wq hSw; (try dsimp only at hSw); first | (go_simp; done) | (go_simp; with_reducible rfl)
          (try simp only [Act.put, List.setIfInBounds_toArray, List.set_cons_zero, List.set_cons_succ])
          refine wpAnyH_ready (rs := [14]) (by kernel_rfl) (by simp) ?_
          refine AllReadyH.cons (o := { dst := some 59, op := Op.call { callee := Callee.value (Operand.func 81), args := #[Operand.tmp 57, Operand.tmp 58], argTypes := #[29, 22] }, type := 22, pos := "l2_trees.go:362", after := #[{ on := 12, ground := Ground.data }, { on := 13, ground := Ground.data }, { on := 9, ground := Ground.chain }], guard := none }) rfl (fun K hK => ?_) AllReadyH.nil
          go_simp
          refine (S3.out _ HE12).mono ?_
          rintro e w13 ⟨g13, n13, k13, rfl, hn13, hg13, y13, hlo13, b13⟩
          have HE13 := Lib.hid (MSt.next (Hid.out HE12) b13)
          have y11_13 := (b13.cell (p := ⟨g11, 0, none⟩) hg11).trans y11_12
          have hg11 := Nat.lt_of_lt_of_le hg11 b13.size
          have y12_13 := (b13.cell (p := ⟨g12, 0, none⟩) hg12).trans y12_12
          have hg12 := Nat.lt_of_lt_of_le hg12 b13.size
          have hn13' : (0 : Int) < (n13 : Int) := by clear V1 V2 V3 V4; omega
          have hr13 : g13 ≠ w.heap.size + 1 := by clear V1 V2 V3 V4; have := (Hid.out HE12).2.2.lt; omega
          have y13_13 := y13
          go_wp2_with fail
          refine hK.out _ _ (⟨(KC.out _ HE13).1, (KC.out _ HE13).2, y11_13, y12_13⟩) (fun hHeld => ?_)
          (try simp only [Act.put, List.setIfInBounds_toArray, List.set_cons_zero, List.set_cons_succ])
          refine held_more (S' := fun w' => w'.cell? ⟨w.heap.size, 0, none⟩ = some (.slice p1 ps.length c1) ∧ w'.cell? ⟨w.heap.size, 1, none⟩ = some (.slice p2 ws.length c2) ∧ w'.cell? ⟨g11, 0, none⟩ = some (.int .i64 tp) ∧ w'.cell? ⟨g12, 0, none⟩ = some (.int .i64 ta) ∧ w'.cell? ⟨g13, 0, none⟩ = some (.int .i64 tb)) (fun w' h => ⟨h.1, h.2.1, h.2.2.1, h.2.2.2.1⟩) _ _ _ _ ?_
          have hHeld13 : (fun w' : World => w'.cell? ⟨w.heap.size, 0, none⟩ = some (.slice p1 ps.length c1) ∧ w'.cell? ⟨w.heap.size, 1, none⟩ = some (.slice p2 ws.length c2) ∧ w'.cell? ⟨g11, 0, none⟩ = some (.int .i64 tp) ∧ w'.cell? ⟨g12, 0, none⟩ = some (.int .i64 ta) ∧ w'.cell? ⟨g13, 0, none⟩ = some (.int .i64 tb)) w13 := ⟨(KC.out _ HE13).1, (KC.out _ HE13).2, y11_13, y12_13, y13_13⟩
          refine wpAnyH_take (i := 15) (oi := { dst := some 60, op := Op.indexAddr 22 (Operand.tmp 59) (Operand.const (Value.int IntKind.i64 0)), type := 0, pos := "l2_trees.go:362", after := #[{ on := 14, ground := Ground.data }], guard := none }) (v := ?_) rfl (by kernel_rfl) (by kernel_rfl) (by kernel_rfl) (fun _ _ _ h => h) (Or.inl ⟨by rfl, ?_⟩) (by assumption) ?_
          rotate_left 1
          · intro wq hSw; (try dsimp only at hSw); first | (go_simp; done) | (go_simp; with_reducible rfl)
          (try simp only [Act.put, List.setIfInBounds_toArray, List.set_cons_zero, List.set_cons_succ])
          refine wpAnyH_take (i := 16) (oi := { dst := some 61, op := Op.load 3 (Operand.tmp 60), type := 3, pos := "l2_trees.go:362", after := #[{ on := 15, ground := Ground.data }], guard := none }) (v := ?_) rfl (by kernel_rfl) (by kernel_rfl) (by kernel_rfl) (fun _ _ _ h => h) (Or.inl ⟨by rfl, ?_⟩) (by assumption) ?_
          rotate_left 1
          · intro wq hSw; (try dsimp only at hSw); first | (go_simp; done) | (go_simp; with_reducible rfl)
          (try simp only [Act.put, List.setIfInBounds_toArray, List.set_cons_zero, List.set_cons_succ])
          refine wpAnyH_take (i := 17) (oi := { dst := some 62, op := Op.binOp BinOp.mul 3 (Operand.tmp 56) (Operand.tmp 61) 3, type := 3, pos := "l2_trees.go:362", after := #[{ on := 11, ground := Ground.data }, { on := 16, ground := Ground.data }], guard := none }) (v := ?_) rfl (by kernel_rfl) (by kernel_rfl) (by kernel_rfl) (fun _ _ _ h => h) (Or.inl ⟨by rfl, ?_⟩) (by assumption) ?_
          rotate_left 1
          · intro wq hSw; (try dsimp only at hSw); first | (go_simp; done) | (go_simp; with_reducible rfl)
          (try simp only [Act.put, List.setIfInBounds_toArray, List.set_cons_zero, List.set_cons_succ])
          refine wpAnyH_take (i := 18) (oi := { dst := some 63, op := Op.binOp BinOp.sub 3 (Operand.tmp 51) (Operand.tmp 62) 3, type := 3, pos := "l2_trees.go:362", after := #[{ on := 6, ground := Ground.data }, { on := 17, ground := Ground.data }], guard := none }) (v := ?_) rfl (by kernel_rfl) (by kernel_rfl) (by kernel_rfl) (fun _ _ _ h => h) (Or.inl ⟨by rfl, ?_⟩) (by assumption) ?_
          rotate_left 1
          · intro wq hSw; (try dsimp only at hSw); first | (go_simp; done) | (go_simp; with_reducible rfl)
          (try simp only [Act.put, List.setIfInBounds_toArray, List.set_cons_zero, List.set_cons_succ])
          refine wpAnyH_ready (rs := [22]) (by kernel_rfl) (by simp) ?_
          refine AllReadyH.cons (o := { dst := some 67, op := Op.call { callee := Callee.value (Operand.func 54), args := #[Operand.tmp 63, Operand.tmp 66], argTypes := #[3, 3] }, type := 26, pos := "l2_trees.go:362", after := #[{ on := 18, ground := Ground.data }, { on := 21, ground := Ground.data }, { on := 14, ground := Ground.chain }], guard := none }) rfl (fun K hK => ?_) AllReadyH.nil
          go_simp
          refine (RC.out _).mono ?_
          rintro e w14 ⟨rfl, b14⟩
          have HE14 := Lib.hid (MSt.next (Hid.out HE13) b14)
          have y11_14 := (b14.cell (p := ⟨g11, 0, none⟩) hg11).trans y11_13
          have hg11 := Nat.lt_of_lt_of_le hg11 b14.size
          have y12_14 := (b14.cell (p := ⟨g12, 0, none⟩) hg12).trans y12_13
          have hg12 := Nat.lt_of_lt_of_le hg12 b14.size
          have y13_14 := (b14.cell (p := ⟨g13, 0, none⟩) hg13).trans y13_13
          have hg13 := Nat.lt_of_lt_of_le hg13 b14.size
          go_wp2_with fail
          refine hK.out _ _ ⟨(KC.out _ HE14).1, (KC.out _ HE14).2, y11_14, y12_14, y13_14⟩ (fun hHeld => ?_)
          (try simp only [Act.put, List.setIfInBounds_toArray, List.set_cons_zero, List.set_cons_succ])
          refine wpAnyH_ready (rs := [23]) (by kernel_rfl) (by simp) ?_
          refine AllReadyH.cons (o := { dst := some 68, op := Op.call { callee := Callee.value (Operand.func 80), args := #[Operand.tmp 67], argTypes := #[26] }, type := 27, pos := "l2_trees.go:362", after := #[{ on := 22, ground := Ground.data }, { on := 22, ground := Ground.chain }], guard := none }) rfl (fun K hK => ?_) AllReadyH.nil
          go_simp
          refine (RK.out _).mono ?_
          rintro e w15 ⟨rfl, b15⟩
          have HE15 := Lib.hid (MSt.next (Hid.out HE14) b15)
          have y11_15 := (b15.cell (p := ⟨g11, 0, none⟩) hg11).trans y11_14
          have hg11 := Nat.lt_of_lt_of_le hg11 b15.size
          have y12_15 := (b15.cell (p := ⟨g12, 0, none⟩) hg12).trans y12_14
          have hg12 := Nat.lt_of_lt_of_le hg12 b15.size
          have y13_15 := (b15.cell (p := ⟨g13, 0, none⟩) hg13).trans y13_14
          have hg13 := Nat.lt_of_lt_of_le hg13 b15.size
          go_wp2_with fail
          refine hK.out _ _ ⟨(KC.out _ HE15).1, (KC.out _ HE15).2, y11_15, y12_15, y13_15⟩ (fun hHeld => ?_)
          (try simp only [Act.put, List.setIfInBounds_toArray, List.set_cons_zero, List.set_cons_succ])
          refine wpAnyH_take (i := 24) (oi := { dst := some 69, op := Op.extract (Operand.tmp 68) 0, type := 26, pos := "l2_trees.go:362", after := #[{ on := 23, ground := Ground.data }], guard := none }) (v := ?_) rfl (by kernel_rfl) (by kernel_rfl) (by kernel_rfl) (fun _ _ _ h => h) (Or.inl ⟨by rfl, ?_⟩) (by assumption) ?_
          rotate_left 1
          · intro wq hSw; (try dsimp only at hSw); first | (go_simp; done) | (go_simp; with_reducible rfl)
          (try simp only [Act.put, List.setIfInBounds_toArray, List.set_cons_zero, List.set_cons_succ])
          refine wpAnyH_take (i := 25) (oi := { dst := some 70, op := Op.extract (Operand.tmp 68) 1, type := 4, pos := "l2_trees.go:362", after := #[{ on := 23, ground := Ground.data }], guard := none }) (v := ?_) rfl (by kernel_rfl) (by kernel_rfl) (by kernel_rfl) (fun _ _ _ h => h) (Or.inl ⟨by rfl, ?_⟩) (by assumption) ?_
          rotate_left 1
          · intro wq hSw; (try dsimp only at hSw); first | (go_simp; done) | (go_simp; with_reducible rfl)
          (try simp only [Act.put, List.setIfInBounds_toArray, List.set_cons_zero, List.set_cons_succ])
          clear V1 V2 V3 V4
          obtain ⟨c0, c1, f0, f1⟩ := HE15.out.2.2.cells
          have hgR : w.heap.size ≠ w.heap.size + 1 := by omega
          refine wpAnyH_ready (rs := [26]) (by kernel_rfl) (by simp) ?_
          refine AllReadyH.cons (o := { dst := none, op := Op.store 26 (Operand.tmp 6) (Operand.tmp 69), type := 0, pos := "l2_trees.go:362", after := #[{ on := 24, ground := Ground.data }, { on := 23, ground := Ground.chain }, { on := 0, ground := Ground.phase }, { on := 1, ground := Ground.phase }, { on := 2, ground := Ground.phase }, { on := 3, ground := Ground.phase }, { on := 4, ground := Ground.phase }, { on := 5, ground := Ground.phase }, { on := 6, ground := Ground.phase }, { on := 7, ground := Ground.phase }, { on := 8, ground := Ground.phase }, { on := 9, ground := Ground.phase }, { on := 10, ground := Ground.phase }, { on := 11, ground := Ground.phase }, { on := 12, ground := Ground.phase }, { on := 13, ground := Ground.phase }, { on := 14, ground := Ground.phase }, { on := 15, ground := Ground.phase }, { on := 16, ground := Ground.phase }, { on := 17, ground := Ground.phase }, { on := 18, ground := Ground.phase }, { on := 19, ground := Ground.phase }, { on := 20, ground := Ground.phase }, { on := 21, ground := Ground.phase }, { on := 22, ground := Ground.phase }, { on := 23, ground := Ground.phase }, { on := 24, ground := Ground.phase }, { on := 25, ground := Ground.phase }], guard := none }) rfl (fun K hK => ?_) AllReadyH.nil
          go_simp
          refine hK.out _ _ ⟨(far2 hgR).trans (KC.out _ HE15).1, (far2 hgR).trans (KC.out _ HE15).2, (far2 hr11).trans y11_15, (far2 hr12).trans y12_15, (far2 hr13).trans y13_15⟩ (fun hHeld => ?_)
          (try simp only [Act.put, List.setIfInBounds_toArray, List.set_cons_zero, List.set_cons_succ])
          refine wpAnyH_take (i := 27) (oi := { dst := some 7, op := Op.assign (Operand.tmp 70), type := 4, pos := "l2_trees.go:362", after := #[{ on := 25, ground := Ground.data }, { on := 26, ground := Ground.chain }, { on := 0, ground := Ground.phase }, { on := 1, ground := Ground.phase }, { on := 2, ground := Ground.phase }, { on := 3, ground := Ground.phase }, { on := 4, ground := Ground.phase }, { on := 5, ground := Ground.phase }, { on := 6, ground := Ground.phase }, { on := 7, ground := Ground.phase }, { on := 8, ground := Ground.phase }, { on := 9, ground := Ground.phase }, { on := 10, ground := Ground.phase }, { on := 11, ground := Ground.phase }, { on := 12, ground := Ground.phase }, { on := 13, ground := Ground.phase }, { on := 14, ground := Ground.phase }, { on := 15, ground := Ground.phase }, { on := 16, ground := Ground.phase }, { on := 17, ground := Ground.phase }, { on := 18, ground := Ground.phase }, { on := 19, ground := Ground.phase }, { on := 20, ground := Ground.phase }, { on := 21, ground := Ground.phase }, { on := 22, ground := Ground.phase }, { on := 23, ground := Ground.phase }, { on := 24, ground := Ground.phase }, { on := 25, ground := Ground.phase }, { on := 26, ground := Ground.phase }], guard := none }) (v := ?_) rfl (by kernel_rfl) (by kernel_rfl) (by kernel_rfl) (fun _ _ _ h => h) (Or.inl ⟨by rfl, ?_⟩) (by assumption) ?_
          rotate_left 1
          · intro wq hSw; (try dsimp only at hSw); first | (go_simp; done) | (go_simp; with_reducible rfl)
          (try simp only [Act.put, List.setIfInBounds_toArray, List.set_cons_zero, List.set_cons_succ])
          refine wpAnyH_done (by kernel_rfl) ?_ _
          go_wp2_with fail
          refine bodyPost_ret (v := .tuple #[.agg #[.int .i64 pn, .int .i64 pd], .bool ok]) (by simp [results, Try.results45, go_sem, *]) rfl ⟨by rw [CV2.out], ?_⟩
          exact (HE15.out.2.1.setCell (p := ⟨w.heap.size + 1, 0, none⟩) (by simp) _).setCell (p := ⟨w.heap.size + 1, 1, none⟩) (by simp) _
end Go.Proofs.Ytfnnlkbecnjloab
