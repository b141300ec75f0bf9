/- MixSpreads in the model: what it answers. -/
import Derived.Test.YtligidmkhbcpmaaSprM
import Derived.Test.YtligidmkhbcpmaaMovP
import Derived.Test.YtligidmkhbcpmaaFill
import Derived.Test.YtligidmkhbcpmaaHeldMore
import Derived.Deep.AppendLies
import Derived.Deep.Slices
namespace Go.Proofs.Ytligidmkhbcpmaa
open Go.RowKit
open Go.Deep
set_option linter.unusedVariables false
set_option maxRecDepth 100000 in
set_option maxHeartbeats 8000000 in
theorem mixS (ps qs : List Int) (v u : Value) (w : World) (hp : ps.length ≤ 1048576) (hq : qs.length ≤ 1048576) (hv : IntsV w w.heap.size v ps) (hu : IntsV w w.heap.size u qs) :
    Calls Try.prog 30 #[v, u] w (NewIntsB (mixL ps qs) (mixB ps qs) w) := by
  have AL := Lib.hid (fun w' (hb : Below w.heap.size w w') => aliS ps qs v u w.heap.size w.heap.size w' hp hq hb.size hb.size (hv.below hb) (hu.below hb))
  have B0' := (Below.refl w.heap.size w).alloc (Nat.le_refl _) (.cells #[] 3)
  have O0' := OwnV.empty w w.heap.size (Nat.le_refl _)
  obtain ⟨wa, hwa⟩ : ∃ wa, wa = w.alloc (.cells #[] 3) := ⟨_, rfl⟩
  rw [← hwa] at B0' O0'
  have B0 := Lib.hid B0'
  have O0 := Lib.hid O0'
  clear B0' O0'
  cases ha : aliB ps qs
  · have R := Lib.hid (show mixB ps qs = false by unfold mixB; rw [ha, Bool.false_and])
    rw [show mixL ps qs = [] from if_neg (by rw [R.out]; decide), R.out]
    rw [ha] at AL
    obtain ⟨q1, c1, rfl, _⟩ := hv
    obtain ⟨q2, c2, rfl, _⟩ := hu
    clear ha
    go_enter Try.func30, Try.ntmps30
    go_wp2_with fail
    rw [← hwa]
    clear hwa
    refine (AL.out _ B0.out).mono ?_
    rintro e w1 ⟨rfl, b1⟩
    have B1 := bl_upS B0 b1
    have O1 := Lib.hid (O0.out.below b1)
    clear b1
    go_wp2_with fail
    go_ret2
    exact ⟨_, rfl, O1.out.wide O1.out.room (Nat.le_refl _), B1.out⟩
  · have A := aliB_iff.1 ha
    have IS := Lib.hid (fun w' x B (h : IntsV w' B x (mxT ps qs)) => sprS (mxT ps qs) x B w' (by rw [mxT_len]; exact hp) h)
    have MB := Lib.hid (show mixB ps qs = sprB (mxT ps qs) by unfold mixB; rw [ha, Bool.true_and])
    have ML := Lib.hid (show mixL ps qs = if sprB (mxT ps qs) = true then mxT ps qs else [] by unfold mixL; rw [MB.out])
    have PA := Lib.hid A.p
    have QA := Lib.hid A.q
    have l1 : ps.length ≤ qs.length := by have := A.len; omega
    have n8 := A.p.n8
    have FE := Lib.hid (show mxT ps qs = preL (fun i => ps.getD i 0 + qs.getD i 0) ps.length from rfl)
    have PS := Lib.hid (fun k => pre_succ (fun i => ps.getD i 0 + qs.getD i 0) k)
    have PL := Lib.hid (fun k => pre_len (fun i => ps.getD i 0 + qs.getD i 0) k)
    rw [ha] at AL
    obtain ⟨q1, c1, rfl, _, _, _, iq⟩ := hv
    obtain ⟨q2, c2, rfl, _, _, _, ir⟩ := hu
    have E1 := Lib.hid iq
    have E2 := Lib.hid ir
    obtain ⟨i0, hi, hz0, hz1, hz2⟩ := info_parts intInfo
    clear ha A iq ir
    go_enter Try.func30, Try.ntmps30
    go_wp2_with fail
    rw [← hwa]
    clear hwa
    refine (AL.out _ B0.out).mono ?_
    rintro e w1 ⟨rfl, b1⟩
    have B1 := bl_upS B0 b1
    have O1 := Lib.hid (O0.out.below b1)
    clear b1
    go_wp2_with fail
    have O2 := Lib.hid (show OwnV w1 w.heap.size w1.heap.size (.slice (some ⟨w.heap.size, 0, none⟩) 0 0) (preL (fun i => ps.getD i 0 + qs.getD i 0) 0) from O1.out.wide O1.out.room (Nat.le_refl _))
    clear O1 O0 B0
    go_loopg [6, 7] ps.length (fun gg o i wr => ∃ k : Nat, k ≤ ps.length ∧ ps.length - k ≤ gg ∧ i = .int .i64 k ∧ Hid (OwnV wr w.heap.size wr.heap.size o (preL (fun i => ps.getD i 0 + qs.getD i 0) k)) ∧ Hid (Below w.heap.size w wr))
    case atStart => exact ⟨0, Nat.zero_le _, by omega, rfl, O2, B1⟩
    case round =>
      clear O2 B1
      obtain ⟨k, hk, hgg, rfl, HO, HB⟩ := hrel
      by_cases hlt : k < ps.length
      · obtain ⟨b, off, rfl, hb, hc⟩ := E1.out.get hlt
        obtain ⟨b2, off2, rfl, hb2, hc2⟩ := E2.out.get (i := k) (by omega)
        have hcw : wr.cell? ⟨b, off + k, none⟩ = some (.int .i64 (ps.getD k 0)) := by rw [HB.out.cell (p := ⟨b, off + k, none⟩) hb]; exact hc
        have hcw2 : wr.cell? ⟨b2, off2 + k, none⟩ = some (.int .i64 (qs.getD k 0)) := by rw [HB.out.cell (p := ⟨b2, off2 + k, none⟩) hb2]; exact hc2
        have i0' : (0 : Int) ≤ (k : Int) := by omega
        have i1' : (k : Int) < (ps.length : Int) := by omega
        have i2' : (k : Int) < (qs.length : Int) := by omega
        have xb := PA.out.bd k hlt
        have yb := QA.out.bd k (by omega)
        have SE := Lib.hid (PS.out k)
        have szB := HB.out.size
        have lenL := PL.out k
        obtain ⟨x, hx⟩ : ∃ z, z = ps.getD k 0 := ⟨_, rfl⟩
        rw [← hx] at hcw xb SE
        obtain ⟨y, hy⟩ : ∃ z, z = qs.getD k 0 := ⟨_, rfl⟩
        rw [← hy] at hcw2 yb SE
        have NI : Hid (InI64 (x + y)) := Lib.hid (by unfold InI64; omega)
        have W1 : IntKind.i64.wrap (x + y) = x + y := IntWalk.i64_in _ (by omega)
        obtain ⟨L, hL⟩ : ∃ L, L = preL (fun i => ps.getD i 0 + qs.getD i 0) k := ⟨_, rfl⟩
        rw [← hL] at HO SE lenL
        have lenL1 : L.length ≤ 8 := by omega
        obtain ⟨p0, c0, eo, lo0, _, _, _⟩ := HO.out.intsV
        subst eo
        clear hc hc2 hx hy hL PA QA PS PL lenL
        have HD0 : Below wr.heap.size wr wr.drew := below_drew (Below.refl _ _)
        have HZ : wr.drew.heap.size = wr.heap.size := rfl
        have HOD := Lib.hid ((HO.out.below HD0).wide HD0.size (Nat.le_refl _))
        have HBD := Lib.hid (below_drew HB.out)
        have HOA := Lib.hid (HOD.out.row.alloc (.cells #[.int .i64 (x + y)] 3))
        have HNA := Lib.hid (cell_one_new wr.drew (.int .i64 (x + y)) 3)
        have KK : Hid (∀ w9, Below wr.heap.size wr w9 → w9.cell? ⟨b, off + k, none⟩ = some (.int .i64 x) ∧ w9.cell? ⟨b2, off2 + k, none⟩ = some (.int .i64 y)) := Lib.hid (fun w9 h9 => ⟨(h9.cell (p := ⟨b, off + k, none⟩) (by show b < wr.heap.size; omega)).trans hcw, (h9.cell (p := ⟨b2, off2 + k, none⟩) (by show b2 < wr.heap.size; omega)).trans hcw2⟩)
        go_wp2_with fail
        refine wp_region_held_drew (S := fun w' => w'.cell? ⟨b, off + k, none⟩ = some (.int .i64 x) ∧ w'.cell? ⟨b2, off2 + k, none⟩ = some (.int .i64 y)) (by kernel_rfl) (KK.out _ HD0) (fun hHeld => ?_)
        refine wpAnyH_take (i := 0) (oi := { dst := some 20, op := Op.move (Operand.tmp 6), type := 22, pos := "l10_coupling.go:370", after := #[], guard := none }) (v := ?_) rfl (by kernel_rfl) (by kernel_rfl) (by kernel_rfl) (fun _ _ _ h => h) (Or.inl ⟨by rfl, ?_⟩) (by assumption) ?_
        rotate_left 1
        · intro wq hSw; (try dsimp only at hSw); first | (go_simp; done) | (go_simp; with_reducible rfl)
        (try simp only [Act.put, List.setIfInBounds_toArray, List.set_cons_zero, List.set_cons_succ])
        refine wpAnyH_take (i := 1) (oi := { dst := some 21, op := Op.move (Operand.tmp 0), type := 22, pos := "l10_coupling.go:370", after := #[], guard := none }) (v := ?_) rfl (by kernel_rfl) (by kernel_rfl) (by kernel_rfl) (fun _ _ _ h => h) (Or.inl ⟨by rfl, ?_⟩) (by assumption) ?_
        rotate_left 1
        · intro wq hSw; (try dsimp only at hSw); first | (go_simp; done) | (go_simp; with_reducible rfl)
        (try simp only [Act.put, List.setIfInBounds_toArray, List.set_cons_zero, List.set_cons_succ])
        refine wpAnyH_take (i := 2) (oi := { dst := some 22, op := Op.move (Operand.tmp 7), type := 3, pos := "l10_coupling.go:370", after := #[], guard := none }) (v := ?_) rfl (by kernel_rfl) (by kernel_rfl) (by kernel_rfl) (fun _ _ _ h => h) (Or.inl ⟨by rfl, ?_⟩) (by assumption) ?_
        rotate_left 1
        · intro wq hSw; (try dsimp only at hSw); first | (go_simp; done) | (go_simp; with_reducible rfl)
        (try simp only [Act.put, List.setIfInBounds_toArray, List.set_cons_zero, List.set_cons_succ])
        refine wpAnyH_take (i := 3) (oi := { dst := some 23, op := Op.indexAddr 22 (Operand.tmp 21) (Operand.tmp 22), type := 0, pos := "l10_coupling.go:370", after := #[{ on := 1, ground := Ground.data }, { on := 2, ground := Ground.data }], guard := none }) (v := ?_) rfl (by kernel_rfl) (by kernel_rfl) (by kernel_rfl) (fun _ _ _ h => h) (Or.inl ⟨by rfl, ?_⟩) (by assumption) ?_
        rotate_left 1
        · intro wq hSw; (try dsimp only at hSw); first | (go_simp; done) | (go_simp; with_reducible rfl)
        (try simp only [Act.put, List.setIfInBounds_toArray, List.set_cons_zero, List.set_cons_succ])
        refine wpAnyH_take (i := 4) (oi := { dst := some 24, op := Op.load 3 (Operand.tmp 23), type := 3, pos := "l10_coupling.go:370", after := #[{ on := 3, ground := Ground.data }], guard := none }) (v := ?_) rfl (by kernel_rfl) (by kernel_rfl) (by kernel_rfl) (fun _ _ _ h => h) (Or.inl ⟨by rfl, ?_⟩) (by assumption) ?_
        rotate_left 1
        · intro wq hSw; (try dsimp only at hSw); first | (go_simp; done) | (go_simp; with_reducible rfl)
        (try simp only [Act.put, List.setIfInBounds_toArray, List.set_cons_zero, List.set_cons_succ])
        refine wpAnyH_take (i := 5) (oi := { dst := some 25, op := Op.move (Operand.tmp 1), type := 22, pos := "l10_coupling.go:370", after := #[], guard := none }) (v := ?_) rfl (by kernel_rfl) (by kernel_rfl) (by kernel_rfl) (fun _ _ _ h => h) (Or.inl ⟨by rfl, ?_⟩) (by assumption) ?_
        rotate_left 1
        · intro wq hSw; (try dsimp only at hSw); first | (go_simp; done) | (go_simp; with_reducible rfl)
        (try simp only [Act.put, List.setIfInBounds_toArray, List.set_cons_zero, List.set_cons_succ])
        refine wpAnyH_take (i := 6) (oi := { dst := some 26, op := Op.move (Operand.tmp 7), type := 3, pos := "l10_coupling.go:370", after := #[], guard := none }) (v := ?_) rfl (by kernel_rfl) (by kernel_rfl) (by kernel_rfl) (fun _ _ _ h => h) (Or.inl ⟨by rfl, ?_⟩) (by assumption) ?_
        rotate_left 1
        · intro wq hSw; (try dsimp only at hSw); first | (go_simp; done) | (go_simp; with_reducible rfl)
        (try simp only [Act.put, List.setIfInBounds_toArray, List.set_cons_zero, List.set_cons_succ])
        refine wpAnyH_take (i := 7) (oi := { dst := some 27, op := Op.indexAddr 22 (Operand.tmp 25) (Operand.tmp 26), type := 0, pos := "l10_coupling.go:370", after := #[{ on := 5, ground := Ground.data }, { on := 6, ground := Ground.data }], guard := none }) (v := ?_) rfl (by kernel_rfl) (by kernel_rfl) (by kernel_rfl) (fun _ _ _ h => h) (Or.inl ⟨by rfl, ?_⟩) (by assumption) ?_
        rotate_left 1
        · intro wq hSw; (try dsimp only at hSw); first | (go_simp; done) | (go_simp; with_reducible rfl)
        (try simp only [Act.put, List.setIfInBounds_toArray, List.set_cons_zero, List.set_cons_succ])
        refine wpAnyH_take (i := 8) (oi := { dst := some 28, op := Op.load 3 (Operand.tmp 27), type := 3, pos := "l10_coupling.go:370", after := #[{ on := 7, ground := Ground.data }], guard := none }) (v := ?_) rfl (by kernel_rfl) (by kernel_rfl) (by kernel_rfl) (fun _ _ _ h => h) (Or.inl ⟨by rfl, ?_⟩) (by assumption) ?_
        rotate_left 1
        · intro wq hSw; (try dsimp only at hSw); first | (go_simp; done) | (go_simp; with_reducible rfl)
        (try simp only [Act.put, List.setIfInBounds_toArray, List.set_cons_zero, List.set_cons_succ])
        refine wpAnyH_take (i := 9) (oi := { dst := some 29, op := Op.binOp BinOp.add 3 (Operand.tmp 24) (Operand.tmp 28) 3, type := 3, pos := "l10_coupling.go:370", after := #[{ on := 4, ground := Ground.data }, { on := 8, ground := Ground.data }], guard := none }) (v := .int .i64 (x + y)) rfl (by kernel_rfl) (by kernel_rfl) (by kernel_rfl) (fun _ _ _ h => h) (Or.inl ⟨by rfl, ?_⟩) (by assumption) ?_
        · intro wq hSw; (try dsimp only at hSw); go_simp; first | done | rfl | (rw [IntWalk.i64_in _ (by omega)])
        (try simp only [Act.put, List.setIfInBounds_toArray, List.set_cons_zero, List.set_cons_succ])
        refine wpAnyH_ready (rs := [10]) (by kernel_rfl) (by simp) ?_
        refine AllReadyH.cons (o := { dst := some 30, op := Op.buildSlice 22 1 #[(0, Operand.tmp 29)], type := 22, pos := "l10_coupling.go:370", after := #[{ on := 9, ground := Ground.data }], guard := none }) rfl (fun KQ hKQ => ?_) AllReadyH.nil
        go_simp
        refine hKQ.out _ _ (KK.out _ (HD0.alloc (Nat.le_refl _) _)) (fun hHeld => ?_)
        (try simp only [Act.put, List.setIfInBounds_toArray, List.set_cons_zero, List.set_cons_succ])
        refine wpAnyH_ready (rs := [11]) (by kernel_rfl) (by simp) ?_
        refine AllReadyH.cons (o := { dst := some 31, op := Op.call { callee := Callee.builtin Builtin.append, args := #[Operand.tmp 20, Operand.tmp 30], argTypes := #[22, 22] }, type := 22, pos := "l10_coupling.go:370", after := #[{ on := 0, ground := Ground.data }, { on := 10, ground := Ground.data }], guard := none }) rfl (fun KQ hKQ => ?_) AllReadyH.nil
        refine step_append_lies _ rfl _ _ 22 rfl w.heap.size 3 i0 (.int .i64 0) 1 8 Try.underlying22 hi hz0 hz1 hz2 rfl (by decide) _ L.length (L.map (.int .i64)) rfl HOA.out ⟨wr.drew.heap.size, 0, none⟩ 1 1 [.int .i64 (x + y)] rfl rfl HNA.out (fun u hu => by simp at hu; subst hu; rfl) (by omega) (by unfold maxLen; omega) (by omega) (by simp; omega) _ rfl ?_
        intro g4 cap4 w4 hown3 hgrow3 hat3 hlt3
        have own3 := Lib.hid (HOD.out.app NI.out hown3)
        have bel3 := Lib.hid ((HBD.out.alloc HBD.out.size _).grown hgrow3 (by simp; omega) (fun q hq => by have := (HOA.out.lt q hq).1; omega))
        have far : Hid (∀ b o v, b < wr.heap.size → (∀ q, _ = some q → q ≠ b) → wr.cell? ⟨b, o, none⟩ = some v → w4.cell? ⟨b, o, none⟩ = some v) := Lib.hid (fun b o v hb hne hv => by
          rw [hgrow3.cell_far ⟨b, o, none⟩ (by simp; omega) (fun e => hne b e.symm rfl)]
          show (wr.drew.alloc _).cell? _ = _
          rw [World.cell?_alloc_lt _ _ _ (by show b < wr.drew.heap.size; omega)]
          exact hv)
        
        obtain ⟨e0, e1⟩ := KK.out _ (Below.refl wr.heap.size wr)
        clear hown3
        refine hKQ.out _ _ ⟨far.out _ _ _ (by show b < wr.heap.size; omega) (fun q hq => by have := (HOA.out.lt q hq).1; omega) e0, far.out _ _ _ (by show b2 < wr.heap.size; omega) (fun q hq => by have := (HOA.out.lt q hq).1; omega) e1⟩ (fun hHeld => ?_)
        (try simp only [Act.put, List.setIfInBounds_toArray, List.set_cons_zero, List.set_cons_succ])
        refine wpAnyH_take (i := 12) (oi := { dst := some 6, op := Op.assign (Operand.tmp 31), type := 22, pos := "l10_coupling.go:370", after := #[{ on := 11, ground := Ground.data }, { on := 11, ground := Ground.chain }, { on := 0, ground := Ground.phase }, { on := 1, ground := Ground.phase }, { on := 2, ground := Ground.phase }, { on := 3, ground := Ground.phase }, { on := 4, ground := Ground.phase }, { on := 5, ground := Ground.phase }, { on := 6, ground := Ground.phase }, { on := 7, ground := Ground.phase }, { on := 8, ground := Ground.phase }, { on := 9, ground := Ground.phase }, { on := 10, ground := Ground.phase }, { on := 11, ground := Ground.phase }], guard := none }) (v := ?_) rfl (by kernel_rfl) (by kernel_rfl) (by kernel_rfl) (fun _ _ _ h => h) (Or.inl ⟨by rfl, ?_⟩) (by assumption) ?_
        rotate_left 1
        · intro wq hSw; (try dsimp only at hSw); first | (go_simp; done) | (go_simp; with_reducible rfl)
        (try simp only [Act.put, List.setIfInBounds_toArray, List.set_cons_zero, List.set_cons_succ])
        refine wpAnyH_done (by kernel_rfl) ?_ _
        go_wp2_with fail
        go_roundg (ps.length - (k + 1))
        case rel => exact ⟨k + 1, by omega, by omega, by go_num, Lib.hid (by rw [SE.out]; exact own3.out), bel3⟩
        case measure => omega
      · have hkz : k = ps.length := by omega
        have OT : Hid (OwnV wr w.heap.size wr.heap.size u6 (mxT ps qs)) := Lib.hid (by have h := HO.out; rw [hkz] at h; rw [FE.out]; exact h)
        have I2 := Lib.hid (IS.out wr _ _ OT.out.intsV)
        clear hkz HO IS FE PS PL
        obtain ⟨p0, c0, eo, _⟩ := OT.out.intsV
        subst eo
        cases hs : sprB (mxT ps qs)
        · rw [hs] at I2 ML MB
          have E1 := Lib.hid (show mixL ps qs = [] from ML.out)
          clear hs ML
          go_wp2_with fail
          refine I2.out.mono ?_
          rintro e w4 ⟨rfl, b4⟩
          have B4 := bl_upS HB b4
          clear b4
          go_wp2_with fail
          go_ret2
          rw [E1.out, MB.out]
          exact newInts_empty B4.out
        · rw [hs] at I2 ML MB
          have E1 := Lib.hid (show mixL ps qs = mxT ps qs from ML.out)
          clear hs ML
          go_wp2_with fail
          refine I2.out.mono ?_
          rintro e w4 ⟨rfl, b4⟩
          have B4 := bl_upS HB b4
          have O4 := Lib.hid (OT.out.below b4)
          clear b4 OT
          go_wp2_with fail
          go_ret2
          rw [E1.out, MB.out]
          exact ⟨_, rfl, O4.out.wide O4.out.room (Nat.le_refl _), B4.out⟩
end Go.Proofs.Ytligidmkhbcpmaa
