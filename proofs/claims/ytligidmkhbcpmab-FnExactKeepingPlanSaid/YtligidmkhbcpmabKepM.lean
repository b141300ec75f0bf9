/- KeepingPlan in the model: what it answers. -/
import Derived.Test.YtligidmkhbcpmabSrtM
import Derived.Test.YtligidmkhbcpmabKepP
import Derived.Test.YtligidmkhbcpmabHeldMore
import Derived.Deep.AppendLies
import Derived.Deep.RegionWith
namespace Go.Proofs.Ytligidmkhbcpmab
open Go.RowKit
open Go.Deep
set_option linter.unusedVariables false
theorem OwnV.same {w w' : World} {g n cap : Nat} {zs : List Int} (h : OwnV w g (g + 1) (.slice (some ⟨g, 0, none⟩) n cap) zs) (e : w'.heap[g]? = w.heap[g]?) (hs : w.heap.size ≤ w'.heap.size) : OwnV w' g (g + 1) (.slice (some ⟨g, 0, none⟩) n cap) zs := by
  refine ⟨⟨h.row.1, ?_⟩, h.lt, Nat.le_trans h.room hs, h.in64⟩
  rcases h.row.2 with h0 | ⟨g', cap', cur, e1, a, hg, rest⟩
  · exact .inl h0
  · refine .inr ⟨g', cap', cur, e1, a, ?_, rest⟩
    injection e1 with e2 _ _
    injection e2 with e2
    injection e2 with e2 _ _
    rw [← e2] at hg ⊢
    exact e.trans hg
set_option maxRecDepth 100000 in
set_option maxHeartbeats 8000000 in
theorem kepS (ps qs : List Int) (v u : Value) (w : World) (hp : ps.length ≤ 1048576) (hq : qs.length ≤ 1048576) (hv : IntsV w w.heap.size v ps) (hu : IntsV w w.heap.size u qs) :
    Calls Try.prog 29 #[v, u] w (NewOldB (rwN ps qs) (keT ps qs) (aliB ps qs) w) := by
  have AL := Lib.hid (aliS ps qs v u w.heap.size w.heap.size w hp hq (Nat.le_refl _) (Nat.le_refl _) hv hu)
  cases ha : aliB ps qs
  · rw [show rwN ps qs = 0 from if_neg (by rw [ha]; decide)]
    rw [ha] at AL
    obtain ⟨q1, c1, rfl, _⟩ := hv
    obtain ⟨q2, c2, rfl, _⟩ := hu
    clear ha
    go_enter Try.func29, Try.ntmps29
    go_wp2_with fail
    refine AL.out.mono ?_
    rintro e w1 ⟨rfl, b1⟩
    have B1 := Lib.hid b1
    clear b1
    go_wp2_with fail
    go_ret2
    exact oldG_none B1.out
  · rw [show rwN ps qs = ps.length from if_pos ha]
    rw [ha] at AL
    have A := aliB_iff.1 ha
    have EM := Lib.hid (fun w' => emptyS ps.length w' A.p.n1 A.p.n8)
    have FI := Lib.hid (fun w' lo hi go co gs x y T hx hy => fillS ps.length (dgS (stS ps qs) ps.length) (dg_ok (st_ok A) ps.length) A.p.n1 A.p.n8 w' lo hi go co gs x y T hx hy)
    have n8 := A.p.n8
    have PA := Lib.hid A.p
    have QA := Lib.hid A.q
    have KS := Lib.hid (fun s (hs : s < ps.length) => kp_step A hs)
    have KA := Lib.hid (fun s (hs : s < ps.length) => kp_at A hs)
    have KH := Lib.hid (kp_h A)
    have KL := Lib.hid (kp_l A)
    have KE := Lib.hid (show keT ps qs = (alT ps.length (dgS (stS ps qs) ps.length) ps.length).f from rfl)
    have K0 := Lib.hid (show (dgS (stS ps qs) 0).f = fun _ => List.replicate ps.length 0 from rfl)
    have PH := Lib.hid (fun k => pre_succ (lfF ps qs) k)
    have PL := Lib.hid (fun k => pre_succ (lkF ps qs) k)
    have LH := Lib.hid (fun k => pre_len (lfF ps qs) k)
    have LL := Lib.hid (fun k => pre_len (lkF ps qs) k)
    have FH := Lib.hid (fun k => show lfF ps qs k = ps.getD k 0 - min (ps.getD k 0) (qs.getD k 0) from rfl)
    have FL := Lib.hid (fun k => show lkF ps qs k = qs.getD k 0 - min (ps.getD k 0) (qs.getD k 0) from rfl)
    have hl := A.len.symm
    obtain ⟨q1, c1, rfl, _, _, _, iq⟩ := hv
    obtain ⟨q2, c2, rfl, _, _, _, ir⟩ := hu
    have E1 := Lib.hid iq
    have E2 := Lib.hid ir
    have HLQ := Lib.hid hl
    rw [hl] at AL ⊢
    obtain ⟨i0, hi, hz0, hz1, hz2⟩ := info_parts intInfo
    clear ha A iq ir hl
    go_enter Try.func29, Try.ntmps29
    go_wp2_with fail
    refine AL.out.mono ?_
    rintro e w1 ⟨rfl, b1⟩
    have B1 := Lib.hid b1
    clear b1
    go_wp2_with fail
    refine (EM.out _).mono ?_
    rintro e w2 ⟨go, co, gs, rfl, hco, T2', b2⟩
    have B2 := bl_upS B1 b2
    obtain ⟨hiP, hhi⟩ : ∃ h, h = w2.heap.size := ⟨_, rfl⟩
    have T2 := T2'
    have HP := Lib.hid T2'.room
    have w12 := B1.out.size
    have w23 := b2.size
    have HLO : Hid (w.heap.size ≤ w1.heap.size) := Lib.hid w12
    have HCO := Lib.hid hco
    rw [← K0.out] at T2
    have O1' := OwnV.empty w2 w2.heap.size (Nat.le_refl _)
    have BA := (Below.refl w2.heap.size w2).alloc (Nat.le_refl _) (.cells #[] 3)
    have sA : (w2.alloc (.cells #[] 3)).heap.size = w2.heap.size + 1 := by simp
    have O2' := OwnV.empty (w2.alloc (.cells #[] 3)) (w2.heap.size + 1) (by rw [sA]; exact Nat.le_refl _)
    have BB := (Below.refl (w2.alloc (.cells #[] 3)).heap.size (w2.alloc (.cells #[] 3))).alloc (Nat.le_refl _) (.cells #[] 3)
    obtain ⟨w3, hw3⟩ : ∃ w3, w3 = (w2.alloc (.cells #[] 3)).alloc (.cells #[] 3) := ⟨_, rfl⟩
    have s3 : w3.heap.size = w2.heap.size + 1 + 1 := by rw [hw3]; simp
    have B23 : Below w2.heap.size w2 w3 := by rw [hw3]; exact BA.alloc (by rw [sA]; omega) _
    have OL := Lib.hid (show OwnV w3 w2.heap.size (w2.heap.size + 1) (.slice (some ⟨w2.heap.size, 0, none⟩) 0 0) (preL (lfF ps qs) 0) from by rw [hw3]; exact (O1'.below BB).tight)
    have OK := Lib.hid (show OwnV w3 (w2.heap.size + 1) (w2.heap.size + 1 + 1) (.slice (some ⟨w2.heap.size + 1, 0, none⟩) 0 0) (preL (lkF ps qs) 0) from by rw [hw3]; rw [sA] at O2'; exact O2'.tight)
    have T3 := Lib.hid (T2.below B23)
    have B3 := bl_upS B2 (B23.mono (Nat.le_refl _))
    clear T2 T2' b2 O1' BA O2' BB B23
    go_wp2_with fail
    rw [← hw3]
    clear hw3
    rw [← hhi] at T3 OL OK s3 w23 HP ⊢
    clear sA hhi
    go_loopg [7, 8, 9] ps.length (fun gg a b i wr => ∃ (k g1 d1 g2 d2 : Nat), k ≤ ps.length ∧ ps.length - k ≤ gg ∧ i = .int .i64 k ∧ a = .slice (some ⟨g1, 0, none⟩) k d1 ∧ b = .slice (some ⟨g2, 0, none⟩) k d2 ∧ Hid (OwnV wr g1 (g1 + 1) (.slice (some ⟨g1, 0, none⟩) k d1) (preL (lfF ps qs) k)) ∧ Hid (OwnV wr g2 (g2 + 1) (.slice (some ⟨g2, 0, none⟩) k d2) (preL (lkF ps qs) k)) ∧ Hid (g1 ≠ g2 ∧ hiP ≤ g1 ∧ hiP ≤ g2) ∧ Hid (TabI wr w1.heap.size hiP go gs ps.length (dgS (stS ps qs) k).f) ∧ Hid (Below w.heap.size w wr))
    case atStart => exact ⟨0, _, 0, _, 0, Nat.zero_le _, by omega, rfl, rfl, rfl, OL, OK, Lib.hid (by omega), T3, B3⟩
    case round =>
      clear OL OK T3 B3 B2 B1
      obtain ⟨k, g1, d1, g2, d2, hk, hgg, rfl, rfl, rfl, HA, HC, HG, HT, HB⟩ := hrel
      by_cases hlt : k < ps.length
      · obtain ⟨b, off, rfl, hb, hc⟩ := E1.out.get hlt
        obtain ⟨b2, off2, rfl, hb2, hc2⟩ := E2.out.get (i := k) (by rw [HLQ.out]; exact hlt)
        have hcw : wr.cell? ⟨b, off + k, none⟩ = some (.int .i64 (ps.getD k 0)) := by rw [HB.out.cell (p := ⟨b, off + k, none⟩) hb]; exact hc
        have hcw2 : wr.cell? ⟨b2, off2 + k, none⟩ = some (.int .i64 (qs.getD k 0)) := by rw [HB.out.cell (p := ⟨b2, off2 + k, none⟩) hb2]; exact hc2
        have i0' : (0 : Int) ≤ (k : Int) := by omega
        have i1' : (k : Int) < (ps.length : Int) := by omega
        have xb := PA.out.bd k hlt
        have yb := QA.out.bd k (by rw [HLQ.out]; exact hlt)
        have LS := Lib.hid (fun w => leastY (ps.getD k 0) (qs.getD k 0) w)
        have y3 := HT.out.out k hlt
        have y4 := HT.out.cell k k hlt hlt
        have f4 := HT.out.thaw k k hlt hlt
        have ka := KA.out k hlt
        have ks := KS.out k hlt
        have fh := FH.out k
        have fl := FL.out k
        have ph := PH.out k
        have pl := PL.out k
        have lh := LH.out k
        have ll := LL.out k
        rw [fh] at ph
        rw [fl] at pl
        obtain ⟨x, hx⟩ : ∃ z, z = ps.getD k 0 := ⟨_, rfl⟩
        rw [← hx] at hcw xb LS ka ks ph pl
        obtain ⟨y, hy⟩ : ∃ z, z = qs.getD k 0 := ⟨_, rfl⟩
        rw [← hy] at hcw2 yb LS ka ks ph pl
        obtain ⟨m, hm⟩ : ∃ z, z = min x y := ⟨_, rfl⟩
        have mb : 0 ≤ m ∧ m ≤ x ∧ m ≤ y := by omega
        rw [← hm] at LS ka ks ph pl
        have KAH := Lib.hid ka
        have KSH := Lib.hid ks
        have PHH := Lib.hid ph
        have PLH := Lib.hid pl
        clear hc hc2 hx hy hm ka ks fh fl ph pl
        obtain ⟨Q1, hQ1⟩ : ∃ z, z = preL (lfF ps qs) k := ⟨_, rfl⟩
        rw [← hQ1] at HA PHH lh
        obtain ⟨Q2, hQ2⟩ : ∃ z, z = preL (lkF ps qs) k := ⟨_, rfl⟩
        rw [← hQ2] at HC PLH ll
        clear hQ1 hQ2
        have HD0 : Below wr.heap.size wr wr.drew := below_drew (Below.refl _ _)
        have sB := HB.out.size
        have rT := HT.out.room
        have rk := HT.out.rows k hlt
        have KK : Hid (∀ w9, Below wr.heap.size wr w9 → w9.cell? ⟨go, k, none⟩ = some (.slice (some ⟨gs k, 0, none⟩) ps.length ps.length) ∧ w9.cell? ⟨b, off + k, none⟩ = some (.int .i64 x) ∧ w9.cell? ⟨b2, off2 + k, none⟩ = some (.int .i64 y)) := Lib.hid (fun w9 h9 => ⟨(h9.cell (p := ⟨go, k, none⟩) (by show go < wr.heap.size; omega)).trans y3, (h9.cell (p := ⟨b, off + k, none⟩) (by show b < wr.heap.size; omega)).trans hcw, (h9.cell (p := ⟨b2, off2 + k, none⟩) (by show b2 < wr.heap.size; omega)).trans hcw2⟩)
        have y4d : wr.drew.cell? ⟨gs k, k, none⟩ = some (.int .i64 (((dgS (stS ps qs) k).f k).getD k 0)) := y4
        have f4d : wr.drew.frozen? ⟨gs k, k, none⟩ = false := f4
        obtain ⟨old, ho⟩ : ∃ z, z = ((dgS (stS ps qs) k).f k).getD k 0 := ⟨_, rfl⟩
        rw [← ho] at y4d y4
        clear ho
        have n1 : gs k ≠ go := rk.2.2
        have n2 : gs k ≠ b := by have := HLO.out; omega
        have n3 : gs k ≠ b2 := by have := HLO.out; omega
        go_wp2_with fail
        refine wp_region_held_drew (S := fun w' => w'.cell? ⟨go, k, none⟩ = some (.slice (some ⟨gs k, 0, none⟩) ps.length ps.length) ∧ w'.cell? ⟨b, off + k, none⟩ = some (.int .i64 x) ∧ w'.cell? ⟨b2, off2 + k, none⟩ = some (.int .i64 y)) (by kernel_rfl) (KK.out _ HD0) (fun hHeld => ?_)
        refine wpAnyH_take (i := 0) (oi := { dst := some 28, op := Op.move (Operand.tmp 6), type := 23, pos := "l10_coupling.go:129", after := #[], guard := none }) (v := ?_) rfl (by kernel_rfl) (by kernel_rfl) (by kernel_rfl) (fun _ _ _ h => h) (Or.inl ⟨by rfl, ?_⟩) (by assumption) ?_
        rotate_left 1
        · intro wq hSw; (try dsimp only at hSw); first | (go_simp; done) | (go_simp; with_reducible rfl)
        (try simp only [Act.put, List.setIfInBounds_toArray, List.set_cons_zero, List.set_cons_succ])
        refine wpAnyH_take (i := 1) (oi := { dst := some 29, op := Op.move (Operand.tmp 9), type := 3, pos := "l10_coupling.go:129", after := #[], guard := none }) (v := ?_) rfl (by kernel_rfl) (by kernel_rfl) (by kernel_rfl) (fun _ _ _ h => h) (Or.inl ⟨by rfl, ?_⟩) (by assumption) ?_
        rotate_left 1
        · intro wq hSw; (try dsimp only at hSw); first | (go_simp; done) | (go_simp; with_reducible rfl)
        (try simp only [Act.put, List.setIfInBounds_toArray, List.set_cons_zero, List.set_cons_succ])
        refine wpAnyH_take (i := 2) (oi := { dst := some 30, op := Op.indexAddr 23 (Operand.tmp 28) (Operand.tmp 29), type := 0, pos := "l10_coupling.go:129", after := #[{ on := 0, ground := Ground.data }, { on := 1, ground := Ground.data }], guard := none }) (v := ?_) rfl (by kernel_rfl) (by kernel_rfl) (by kernel_rfl) (fun _ _ _ h => h) (Or.inl ⟨by rfl, ?_⟩) (by assumption) ?_
        rotate_left 1
        · intro wq hSw; (try dsimp only at hSw); first | (go_simp; done) | (go_simp; with_reducible rfl)
        (try simp only [Act.put, List.setIfInBounds_toArray, List.set_cons_zero, List.set_cons_succ])
        refine wpAnyH_take (i := 3) (oi := { dst := some 31, op := Op.load 22 (Operand.tmp 30), type := 22, pos := "l10_coupling.go:129", after := #[{ on := 2, ground := Ground.data }], guard := none }) (v := ?_) rfl (by kernel_rfl) (by kernel_rfl) (by kernel_rfl) (fun _ _ _ h => h) (Or.inl ⟨by rfl, ?_⟩) (by assumption) ?_
        rotate_left 1
        · intro wq hSw; (try dsimp only at hSw); first | (go_simp; done) | (go_simp; with_reducible rfl)
        (try simp only [Act.put, List.setIfInBounds_toArray, List.set_cons_zero, List.set_cons_succ])
        refine wpAnyH_take (i := 4) (oi := { dst := some 32, op := Op.move (Operand.tmp 9), type := 3, pos := "l10_coupling.go:129", after := #[], guard := none }) (v := ?_) rfl (by kernel_rfl) (by kernel_rfl) (by kernel_rfl) (fun _ _ _ h => h) (Or.inl ⟨by rfl, ?_⟩) (by assumption) ?_
        rotate_left 1
        · intro wq hSw; (try dsimp only at hSw); first | (go_simp; done) | (go_simp; with_reducible rfl)
        (try simp only [Act.put, List.setIfInBounds_toArray, List.set_cons_zero, List.set_cons_succ])
        refine wpAnyH_take (i := 5) (oi := { dst := some 33, op := Op.move (Operand.tmp 0), type := 22, pos := "l10_coupling.go:129", after := #[], guard := none }) (v := ?_) rfl (by kernel_rfl) (by kernel_rfl) (by kernel_rfl) (fun _ _ _ h => h) (Or.inl ⟨by rfl, ?_⟩) (by assumption) ?_
        rotate_left 1
        · intro wq hSw; (try dsimp only at hSw); first | (go_simp; done) | (go_simp; with_reducible rfl)
        (try simp only [Act.put, List.setIfInBounds_toArray, List.set_cons_zero, List.set_cons_succ])
        refine wpAnyH_take (i := 6) (oi := { dst := some 34, op := Op.move (Operand.tmp 9), type := 3, pos := "l10_coupling.go:129", after := #[], guard := none }) (v := ?_) rfl (by kernel_rfl) (by kernel_rfl) (by kernel_rfl) (fun _ _ _ h => h) (Or.inl ⟨by rfl, ?_⟩) (by assumption) ?_
        rotate_left 1
        · intro wq hSw; (try dsimp only at hSw); first | (go_simp; done) | (go_simp; with_reducible rfl)
        (try simp only [Act.put, List.setIfInBounds_toArray, List.set_cons_zero, List.set_cons_succ])
        refine wpAnyH_take (i := 7) (oi := { dst := some 35, op := Op.indexAddr 22 (Operand.tmp 33) (Operand.tmp 34), type := 0, pos := "l10_coupling.go:129", after := #[{ on := 5, ground := Ground.data }, { on := 6, ground := Ground.data }], guard := none }) (v := ?_) rfl (by kernel_rfl) (by kernel_rfl) (by kernel_rfl) (fun _ _ _ h => h) (Or.inl ⟨by rfl, ?_⟩) (by assumption) ?_
        rotate_left 1
        · intro wq hSw; (try dsimp only at hSw); first | (go_simp; done) | (go_simp; with_reducible rfl)
        (try simp only [Act.put, List.setIfInBounds_toArray, List.set_cons_zero, List.set_cons_succ])
        refine wpAnyH_take (i := 8) (oi := { dst := some 36, op := Op.load 3 (Operand.tmp 35), type := 3, pos := "l10_coupling.go:129", after := #[{ on := 7, ground := Ground.data }], guard := none }) (v := ?_) rfl (by kernel_rfl) (by kernel_rfl) (by kernel_rfl) (fun _ _ _ h => h) (Or.inl ⟨by rfl, ?_⟩) (by assumption) ?_
        rotate_left 1
        · intro wq hSw; (try dsimp only at hSw); first | (go_simp; done) | (go_simp; with_reducible rfl)
        (try simp only [Act.put, List.setIfInBounds_toArray, List.set_cons_zero, List.set_cons_succ])
        refine wpAnyH_take (i := 9) (oi := { dst := some 37, op := Op.move (Operand.tmp 1), type := 22, pos := "l10_coupling.go:129", after := #[], guard := none }) (v := ?_) rfl (by kernel_rfl) (by kernel_rfl) (by kernel_rfl) (fun _ _ _ h => h) (Or.inl ⟨by rfl, ?_⟩) (by assumption) ?_
        rotate_left 1
        · intro wq hSw; (try dsimp only at hSw); first | (go_simp; done) | (go_simp; with_reducible rfl)
        (try simp only [Act.put, List.setIfInBounds_toArray, List.set_cons_zero, List.set_cons_succ])
        refine wpAnyH_take (i := 10) (oi := { dst := some 38, op := Op.move (Operand.tmp 9), type := 3, pos := "l10_coupling.go:129", after := #[], guard := none }) (v := ?_) rfl (by kernel_rfl) (by kernel_rfl) (by kernel_rfl) (fun _ _ _ h => h) (Or.inl ⟨by rfl, ?_⟩) (by assumption) ?_
        rotate_left 1
        · intro wq hSw; (try dsimp only at hSw); first | (go_simp; done) | (go_simp; with_reducible rfl)
        (try simp only [Act.put, List.setIfInBounds_toArray, List.set_cons_zero, List.set_cons_succ])
        refine wpAnyH_take (i := 11) (oi := { dst := some 39, op := Op.indexAddr 22 (Operand.tmp 37) (Operand.tmp 38), type := 0, pos := "l10_coupling.go:129", after := #[{ on := 9, ground := Ground.data }, { on := 10, ground := Ground.data }], guard := none }) (v := ?_) rfl (by kernel_rfl) (by kernel_rfl) (by kernel_rfl) (fun _ _ _ h => h) (Or.inl ⟨by rfl, ?_⟩) (by assumption) ?_
        rotate_left 1
        · intro wq hSw; (try dsimp only at hSw); first | (go_simp; done) | (go_simp; with_reducible rfl)
        (try simp only [Act.put, List.setIfInBounds_toArray, List.set_cons_zero, List.set_cons_succ])
        refine wpAnyH_take (i := 12) (oi := { dst := some 40, op := Op.load 3 (Operand.tmp 39), type := 3, pos := "l10_coupling.go:129", after := #[{ on := 11, ground := Ground.data }], guard := none }) (v := ?_) rfl (by kernel_rfl) (by kernel_rfl) (by kernel_rfl) (fun _ _ _ h => h) (Or.inl ⟨by rfl, ?_⟩) (by assumption) ?_
        rotate_left 1
        · intro wq hSw; (try dsimp only at hSw); first | (go_simp; done) | (go_simp; with_reducible rfl)
        (try simp only [Act.put, List.setIfInBounds_toArray, List.set_cons_zero, List.set_cons_succ])
        refine wpAnyH_ready (rs := [13]) (by kernel_rfl) (by simp) ?_
        refine AllReadyH.cons (o := { dst := some 41, op := Op.call { callee := Callee.value (Operand.func 54), args := #[Operand.tmp 36, Operand.tmp 40], argTypes := #[3, 3] }, type := 3, pos := "l10_coupling.go:129", after := #[{ on := 8, ground := Ground.data }, { on := 12, ground := Ground.data }], guard := none }) rfl (fun KQ hKQ => ?_) AllReadyH.nil
        go_simp
        refine (LS.out _).mono ?_
        rintro e w8 ⟨rfl, rfl⟩
        go_wp2_with fail
        refine hKQ.out _ _ (KK.out _ HD0) (fun hHeld => ?_)
        (try simp only [Act.put, List.setIfInBounds_toArray, List.set_cons_zero, List.set_cons_succ])
        refine wpAnyH_take (i := 14) (oi := { dst := some 42, op := Op.indexAddr 22 (Operand.tmp 31) (Operand.tmp 32), type := 0, pos := "l10_coupling.go:129", after := #[{ on := 3, ground := Ground.data }, { on := 4, ground := Ground.data }, { on := 0, ground := Ground.phase }, { on := 1, ground := Ground.phase }, { on := 2, ground := Ground.phase }, { on := 3, ground := Ground.phase }, { on := 4, ground := Ground.phase }, { on := 5, ground := Ground.phase }, { on := 6, ground := Ground.phase }, { on := 7, ground := Ground.phase }, { on := 8, ground := Ground.phase }, { on := 9, ground := Ground.phase }, { on := 10, ground := Ground.phase }, { on := 11, ground := Ground.phase }, { on := 12, ground := Ground.phase }, { on := 13, ground := Ground.phase }], guard := none }) (v := ?_) rfl (by kernel_rfl) (by kernel_rfl) (by kernel_rfl) (fun _ _ _ h => h) (Or.inl ⟨by rfl, ?_⟩) (by assumption) ?_
        rotate_left 1
        · intro wq hSw; (try dsimp only at hSw); first | (go_simp; done) | (go_simp; with_reducible rfl)
        (try simp only [Act.put, List.setIfInBounds_toArray, List.set_cons_zero, List.set_cons_succ])
        refine wpAnyH_ready (rs := [15]) (by kernel_rfl) (by simp) ?_
        refine AllReadyH.cons (o := { dst := none, op := Op.store 3 (Operand.tmp 42) (Operand.tmp 41), type := 0, pos := "l10_coupling.go:129", after := #[{ on := 14, ground := Ground.data }, { on := 13, ground := Ground.data }, { on := 13, ground := Ground.chain }, { on := 0, ground := Ground.phase }, { on := 1, ground := Ground.phase }, { on := 2, ground := Ground.phase }, { on := 3, ground := Ground.phase }, { on := 4, ground := Ground.phase }, { on := 5, ground := Ground.phase }, { on := 6, ground := Ground.phase }, { on := 7, ground := Ground.phase }, { on := 8, ground := Ground.phase }, { on := 9, ground := Ground.phase }, { on := 10, ground := Ground.phase }, { on := 11, ground := Ground.phase }, { on := 12, ground := Ground.phase }, { on := 13, ground := Ground.phase }], guard := none }) rfl (fun KQ hKQ => ?_) AllReadyH.nil
        go_simp
        have k9 := KK.out _ HD0
        refine hKQ.out _ _ ⟨(World.cell?_setCell_other _ _ _ _ (by intro e9; injection e9 with e8; first | exact n1 e8 | exact n1 e8.symm)).trans k9.1, (World.cell?_setCell_other _ _ _ _ (by intro e9; injection e9 with e8; first | exact n2 e8 | exact n2 e8.symm)).trans k9.2.1, (World.cell?_setCell_other _ _ _ _ (by intro e9; injection e9 with e8; first | exact n3 e8 | exact n3 e8.symm)).trans k9.2.2⟩ (fun hHeld => ?_)
        (try simp only [Act.put, List.setIfInBounds_toArray, List.set_cons_zero, List.set_cons_succ])
        refine wpAnyH_done (by kernel_rfl) ?_ _
        have HTd := HT.out.below (HD0.mono rT.2.2)
        have A5 := HTd.setAlt hlt k (.int .i64 m)
        have T5 := Lib.hid (show TabI _ w1.heap.size hiP go gs ps.length (dgS (stS ps qs) (k + 1)).f from by
          have h := HTd.set hlt hlt (x := m) (by unfold InI64; omega)
          rw [← KSH.out] at h; exact h)
        have HA5 := Lib.hid ((HA.out.below (HD0.mono HA.out.room)).alt A5 (by have := HG.out; omega))
        have HC5 := Lib.hid ((HC.out.below (HD0.mono HC.out.room)).alt A5 (by have := HG.out; omega))
        have HB5 := Lib.hid ((below_drew HB.out).setCell (p := ⟨gs k, k, none⟩) (by have := HLO.out; show w.heap.size ≤ gs k; omega) (.int .i64 m))
        have y5 : (wr.drew.setCell ⟨gs k, k, none⟩ (.int .i64 m)).cell? ⟨gs k, k, none⟩ = some (.int .i64 m) := World.cell?_setCell_same _ _ _ y4d
        have G5 := hHeld
        obtain ⟨w5, hw5g⟩ : ∃ w5, w5 = (wr.setCell ⟨gs k, k, none⟩ (.int .i64 m)).drew := ⟨_, rfl⟩
        have hw5 : w5 = wr.drew.setCell ⟨gs k, k, none⟩ (.int .i64 m) := hw5g
        rw [← hw5g]
        rw [← hw5] at T5 HA5 HC5 HB5 y5
        have c5 := T5.out.out k hlt
        have cw5 : w5.cell? ⟨b, off + k, none⟩ = some (.int .i64 x) := by rw [hw5]; exact hHeld.2.1
        have cw5' : w5.cell? ⟨b2, off2 + k, none⟩ = some (.int .i64 y) := by rw [hw5]; exact hHeld.2.2
        clear G5 hw5 hw5g A5 HTd HA HC HT HB y3 y4 f4 y4d f4d hcw hcw2 KK HD0 LS
        have HGN := HG
        have rg := HA5.out.room
        have szB := HB5.out.size
        have wg : w.heap.size ≤ g1 := by have := HG.out; have := HP.out; have := HLO.out; omega
        have HO := Lib.hid (HA5.out.wide (show g1 + 1 ≤ w5.heap.size from HA5.out.room) (Nat.le_refl _))
        have NI : Hid (InI64 (x - m)) := Lib.hid (by unfold InI64; omega)
        have WX : IntKind.i64.wrap (x - m) = x - m := IntWalk.i64_in _ (by omega)
        have HD0 : Below w5.heap.size w5 w5.drew := below_drew (Below.refl _ _)
        have HZ : w5.drew.heap.size = w5.heap.size := rfl
        have HOD := Lib.hid ((HO.out.below HD0).wide HD0.size (Nat.le_refl _))
        have HBD := Lib.hid (below_drew HB5.out)
        have HOA := Lib.hid (HOD.out.row.alloc (.cells #[.int .i64 (x - m)] 3))
        have HNA := Lib.hid (cell_one_new w5.drew (.int .i64 (x - m)) 3)
        have KK : Hid (∀ w9, Below w5.heap.size w5 w9 → w9.cell? ⟨b, off + k, none⟩ = some (.int .i64 x) ∧ w9.cell? ⟨go, k, none⟩ = some (.slice (some ⟨gs k, 0, none⟩) ps.length ps.length) ∧ w9.cell? ⟨gs k, k, none⟩ = some (.int .i64 m)) := Lib.hid (fun w9 h9 => ⟨(h9.cell (p := ⟨b, off + k, none⟩) (by show b < w5.heap.size; have := HB5.out.size; omega)).trans cw5, (h9.cell (p := ⟨go, k, none⟩) (by show go < w5.heap.size; have := T5.out.room; omega)).trans c5, (h9.cell (p := ⟨gs k, k, none⟩) (by show gs k < w5.heap.size; have := T5.out.room; have := T5.out.rows k hlt; omega)).trans y5⟩)
        go_wp2_with fail
        refine wp_region_held_drew (S := fun w' => w'.cell? ⟨b, off + k, none⟩ = some (.int .i64 x) ∧ w'.cell? ⟨go, k, none⟩ = some (.slice (some ⟨gs k, 0, none⟩) ps.length ps.length) ∧ w'.cell? ⟨gs k, k, none⟩ = some (.int .i64 m)) (by kernel_rfl) (KK.out _ HD0) (fun hHeld => ?_)
        refine wpAnyH_take (i := 0) (oi := { dst := some 43, op := Op.move (Operand.tmp 7), type := 22, pos := "l10_coupling.go:130", after := #[], guard := none }) (v := ?_) rfl (by kernel_rfl) (by kernel_rfl) (by kernel_rfl) (fun _ _ _ h => h) (Or.inl ⟨by rfl, ?_⟩) (by assumption) ?_
        rotate_left 1
        · intro wq hSw; (try dsimp only at hSw); first | (go_simp; done) | (go_simp; with_reducible rfl)
        (try simp only [Act.put, List.setIfInBounds_toArray, List.set_cons_zero, List.set_cons_succ])
        refine wpAnyH_take (i := 1) (oi := { dst := some 44, op := Op.move (Operand.tmp 0), type := 22, pos := "l10_coupling.go:130", after := #[], guard := none }) (v := ?_) rfl (by kernel_rfl) (by kernel_rfl) (by kernel_rfl) (fun _ _ _ h => h) (Or.inl ⟨by rfl, ?_⟩) (by assumption) ?_
        rotate_left 1
        · intro wq hSw; (try dsimp only at hSw); first | (go_simp; done) | (go_simp; with_reducible rfl)
        (try simp only [Act.put, List.setIfInBounds_toArray, List.set_cons_zero, List.set_cons_succ])
        refine wpAnyH_take (i := 2) (oi := { dst := some 45, op := Op.move (Operand.tmp 9), type := 3, pos := "l10_coupling.go:130", after := #[], guard := none }) (v := ?_) rfl (by kernel_rfl) (by kernel_rfl) (by kernel_rfl) (fun _ _ _ h => h) (Or.inl ⟨by rfl, ?_⟩) (by assumption) ?_
        rotate_left 1
        · intro wq hSw; (try dsimp only at hSw); first | (go_simp; done) | (go_simp; with_reducible rfl)
        (try simp only [Act.put, List.setIfInBounds_toArray, List.set_cons_zero, List.set_cons_succ])
        refine wpAnyH_take (i := 3) (oi := { dst := some 46, op := Op.indexAddr 22 (Operand.tmp 44) (Operand.tmp 45), type := 0, pos := "l10_coupling.go:130", after := #[{ on := 1, ground := Ground.data }, { on := 2, ground := Ground.data }], guard := none }) (v := ?_) rfl (by kernel_rfl) (by kernel_rfl) (by kernel_rfl) (fun _ _ _ h => h) (Or.inl ⟨by rfl, ?_⟩) (by assumption) ?_
        rotate_left 1
        · intro wq hSw; (try dsimp only at hSw); first | (go_simp; done) | (go_simp; with_reducible rfl)
        (try simp only [Act.put, List.setIfInBounds_toArray, List.set_cons_zero, List.set_cons_succ])
        refine wpAnyH_take (i := 4) (oi := { dst := some 47, op := Op.load 3 (Operand.tmp 46), type := 3, pos := "l10_coupling.go:130", after := #[{ on := 3, ground := Ground.data }], guard := none }) (v := ?_) rfl (by kernel_rfl) (by kernel_rfl) (by kernel_rfl) (fun _ _ _ h => h) (Or.inl ⟨by rfl, ?_⟩) (by assumption) ?_
        rotate_left 1
        · intro wq hSw; (try dsimp only at hSw); first | (go_simp; done) | (go_simp; with_reducible rfl)
        (try simp only [Act.put, List.setIfInBounds_toArray, List.set_cons_zero, List.set_cons_succ])
        refine wpAnyH_take (i := 5) (oi := { dst := some 48, op := Op.move (Operand.tmp 6), type := 23, pos := "l10_coupling.go:130", after := #[], guard := none }) (v := ?_) rfl (by kernel_rfl) (by kernel_rfl) (by kernel_rfl) (fun _ _ _ h => h) (Or.inl ⟨by rfl, ?_⟩) (by assumption) ?_
        rotate_left 1
        · intro wq hSw; (try dsimp only at hSw); first | (go_simp; done) | (go_simp; with_reducible rfl)
        (try simp only [Act.put, List.setIfInBounds_toArray, List.set_cons_zero, List.set_cons_succ])
        refine wpAnyH_take (i := 6) (oi := { dst := some 49, op := Op.move (Operand.tmp 9), type := 3, pos := "l10_coupling.go:130", after := #[], guard := none }) (v := ?_) rfl (by kernel_rfl) (by kernel_rfl) (by kernel_rfl) (fun _ _ _ h => h) (Or.inl ⟨by rfl, ?_⟩) (by assumption) ?_
        rotate_left 1
        · intro wq hSw; (try dsimp only at hSw); first | (go_simp; done) | (go_simp; with_reducible rfl)
        (try simp only [Act.put, List.setIfInBounds_toArray, List.set_cons_zero, List.set_cons_succ])
        refine wpAnyH_take (i := 7) (oi := { dst := some 50, op := Op.indexAddr 23 (Operand.tmp 48) (Operand.tmp 49), type := 0, pos := "l10_coupling.go:130", after := #[{ on := 5, ground := Ground.data }, { on := 6, ground := Ground.data }], guard := none }) (v := ?_) rfl (by kernel_rfl) (by kernel_rfl) (by kernel_rfl) (fun _ _ _ h => h) (Or.inl ⟨by rfl, ?_⟩) (by assumption) ?_
        rotate_left 1
        · intro wq hSw; (try dsimp only at hSw); first | (go_simp; done) | (go_simp; with_reducible rfl)
        (try simp only [Act.put, List.setIfInBounds_toArray, List.set_cons_zero, List.set_cons_succ])
        refine wpAnyH_take (i := 8) (oi := { dst := some 51, op := Op.load 22 (Operand.tmp 50), type := 22, pos := "l10_coupling.go:130", after := #[{ on := 7, ground := Ground.data }], guard := none }) (v := ?_) rfl (by kernel_rfl) (by kernel_rfl) (by kernel_rfl) (fun _ _ _ h => h) (Or.inl ⟨by rfl, ?_⟩) (by assumption) ?_
        rotate_left 1
        · intro wq hSw; (try dsimp only at hSw); first | (go_simp; done) | (go_simp; with_reducible rfl)
        (try simp only [Act.put, List.setIfInBounds_toArray, List.set_cons_zero, List.set_cons_succ])
        refine wpAnyH_take (i := 9) (oi := { dst := some 52, op := Op.move (Operand.tmp 9), type := 3, pos := "l10_coupling.go:130", after := #[], guard := none }) (v := ?_) rfl (by kernel_rfl) (by kernel_rfl) (by kernel_rfl) (fun _ _ _ h => h) (Or.inl ⟨by rfl, ?_⟩) (by assumption) ?_
        rotate_left 1
        · intro wq hSw; (try dsimp only at hSw); first | (go_simp; done) | (go_simp; with_reducible rfl)
        (try simp only [Act.put, List.setIfInBounds_toArray, List.set_cons_zero, List.set_cons_succ])
        refine wpAnyH_take (i := 10) (oi := { dst := some 53, op := Op.indexAddr 22 (Operand.tmp 51) (Operand.tmp 52), type := 0, pos := "l10_coupling.go:130", after := #[{ on := 8, ground := Ground.data }, { on := 9, ground := Ground.data }], guard := none }) (v := ?_) rfl (by kernel_rfl) (by kernel_rfl) (by kernel_rfl) (fun _ _ _ h => h) (Or.inl ⟨by rfl, ?_⟩) (by assumption) ?_
        rotate_left 1
        · intro wq hSw; (try dsimp only at hSw); first | (go_simp; done) | (go_simp; with_reducible rfl)
        (try simp only [Act.put, List.setIfInBounds_toArray, List.set_cons_zero, List.set_cons_succ])
        refine wpAnyH_take (i := 11) (oi := { dst := some 54, op := Op.load 3 (Operand.tmp 53), type := 3, pos := "l10_coupling.go:130", after := #[{ on := 10, ground := Ground.data }], guard := none }) (v := ?_) rfl (by kernel_rfl) (by kernel_rfl) (by kernel_rfl) (fun _ _ _ h => h) (Or.inl ⟨by rfl, ?_⟩) (by assumption) ?_
        rotate_left 1
        · intro wq hSw; (try dsimp only at hSw); first | (go_simp; done) | (go_simp; with_reducible rfl)
        (try simp only [Act.put, List.setIfInBounds_toArray, List.set_cons_zero, List.set_cons_succ])
        refine wpAnyH_take (i := 12) (oi := { dst := some 55, op := Op.binOp BinOp.sub 3 (Operand.tmp 47) (Operand.tmp 54) 3, type := 3, pos := "l10_coupling.go:130", after := #[{ on := 4, ground := Ground.data }, { on := 11, ground := Ground.data }], guard := none }) (v := .int .i64 (x - m)) rfl (by kernel_rfl) (by kernel_rfl) (by kernel_rfl) (fun _ _ _ h => h) (Or.inl ⟨by rfl, ?_⟩) (by assumption) ?_
        · intro wq hSw; (try dsimp only at hSw); go_simp; first | done | rfl | (rw [IntWalk.i64_in _ (by omega)])
        (try simp only [Act.put, List.setIfInBounds_toArray, List.set_cons_zero, List.set_cons_succ])
        refine wpAnyH_ready (rs := [13]) (by kernel_rfl) (by simp) ?_
        refine AllReadyH.cons (o := { dst := some 56, op := Op.buildSlice 22 1 #[(0, Operand.tmp 55)], type := 22, pos := "l10_coupling.go:130", after := #[{ on := 12, ground := Ground.data }], guard := none }) rfl (fun KQ hKQ => ?_) AllReadyH.nil
        go_simp
        refine hKQ.out _ _ (KK.out _ (HD0.alloc (Nat.le_refl _) _)) (fun hHeld => ?_)
        (try simp only [Act.put, List.setIfInBounds_toArray, List.set_cons_zero, List.set_cons_succ])
        refine wpAnyH_ready (rs := [14]) (by kernel_rfl) (by simp) ?_
        refine AllReadyH.cons (o := { dst := some 57, op := Op.call { callee := Callee.builtin Builtin.append, args := #[Operand.tmp 43, Operand.tmp 56], argTypes := #[22, 22] }, type := 22, pos := "l10_coupling.go:130", after := #[{ on := 0, ground := Ground.data }, { on := 13, ground := Ground.data }], guard := none }) rfl (fun KQ hKQ => ?_) AllReadyH.nil
        refine step_append_lies _ rfl _ _ 22 rfl g1 3 i0 (.int .i64 0) 1 8 Try.underlying22 hi hz0 hz1 hz2 rfl (by decide) _ Q1.length (Q1.map (.int .i64)) rfl HOA.out ⟨w5.drew.heap.size, 0, none⟩ 1 1 [.int .i64 (x - m)] rfl rfl HNA.out (fun u hu => by simp at hu; subst hu; rfl) (by omega) (by unfold maxLen; omega) (by omega) (by simp; omega) _ rfl ?_
        intro g4 cap4 w4 hown3 hgrow3 hat3 hlt3
        have own3 := Lib.hid (HOD.out.app NI.out hown3)
        have bel3 := Lib.hid ((HBD.out.alloc HBD.out.size _).grown hgrow3 (by simp; omega) (fun q hq => by have := (HOA.out.lt q hq).1; omega))
        have far : Hid (∀ b o v, b < w5.heap.size → (∀ q, _ = some q → q ≠ b) → w5.cell? ⟨b, o, none⟩ = some v → w4.cell? ⟨b, o, none⟩ = some v) := Lib.hid (fun b o v hb hne hv => by
          rw [hgrow3.cell_far ⟨b, o, none⟩ (by simp; omega) (fun e => hne b e.symm rfl)]
          show (w5.drew.alloc _).cell? _ = _
          rw [World.cell?_alloc_lt _ _ _ (by show b < w5.drew.heap.size; omega)]
          exact hv)
        
        obtain ⟨e0, e1, e2⟩ := KK.out _ (Below.refl w5.heap.size w5)
        clear hown3
        refine hKQ.out _ _ ⟨far.out _ _ _ (by show b < w5.heap.size; have := HB5.out.size; omega) (fun q hq => by have := (HOA.out.lt q hq).1; have := HGN.out; have := HLO.out; omega) e0, far.out _ _ _ (by show go < w5.heap.size; have := T5.out.room; omega) (fun q hq => by have := (HOA.out.lt q hq).1; have := HGN.out; have := HP.out; omega) e1, far.out _ _ _ (by show gs k < w5.heap.size; have := T5.out.room; have := T5.out.rows k hlt; omega) (fun q hq => by have := (HOA.out.lt q hq).1; have := HGN.out; have := T5.out.rows k hlt; omega) e2⟩ (fun hHeld => ?_)
        (try simp only [Act.put, List.setIfInBounds_toArray, List.set_cons_zero, List.set_cons_succ])
        refine wpAnyH_take (i := 15) (oi := { dst := some 7, op := Op.assign (Operand.tmp 57), type := 22, pos := "l10_coupling.go:130", after := #[{ on := 14, ground := Ground.data }, { on := 14, ground := Ground.chain }, { on := 0, ground := Ground.phase }, { on := 1, ground := Ground.phase }, { on := 2, ground := Ground.phase }, { on := 3, ground := Ground.phase }, { on := 4, ground := Ground.phase }, { on := 5, ground := Ground.phase }, { on := 6, ground := Ground.phase }, { on := 7, ground := Ground.phase }, { on := 8, ground := Ground.phase }, { on := 9, ground := Ground.phase }, { on := 10, ground := Ground.phase }, { on := 11, ground := Ground.phase }, { on := 12, ground := Ground.phase }, { on := 13, ground := Ground.phase }, { on := 14, ground := Ground.phase }], guard := none }) (v := ?_) rfl (by kernel_rfl) (by kernel_rfl) (by kernel_rfl) (fun _ _ _ h => h) (Or.inl ⟨by rfl, ?_⟩) (by assumption) ?_
        rotate_left 1
        · intro wq hSw; (try dsimp only at hSw); first | (go_simp; done) | (go_simp; with_reducible rfl)
        (try simp only [Act.put, List.setIfInBounds_toArray, List.set_cons_zero, List.set_cons_succ])
        refine wpAnyH_done (by kernel_rfl) ?_ _
        go_wp2_with fail
        have sz6 := hgrow3.size
        simp at sz6
        have blk : ∀ q, q < w5.heap.size → q ≠ g1 → w4.heap[q]? = w5.heap[q]? := fun q hq hne => by
          rw [hgrow3.block q (by simp; omega) (by intro e9; exact hne (by injection e9 with e9; try exact e9.symm))]
          exact ((Below.refl w5.heap.size w5).alloc (Nat.le_refl _) _).block q hq
        have hg4 : g4 = g1 ∨ g4 = w5.heap.size + 1 := by
          rcases hat3 with h9 | h9
          · left; injection h9 with h9; try exact h9.symm
          · right; simpa using h9
        have ro := HC5.out.room
        have rt := T5.out.room
        have KQ1 := own3.out.tight
        rw [lh] at KQ1
        rw [← PHH.out] at KQ1
        have HO6 := Lib.hid KQ1
        have HG6 := Lib.hid (show g4 ≠ g2 ∧ hiP ≤ g4 ∧ hiP ≤ g2 by have := HG.out; omega)
        have HX6 := Lib.hid (HC5.out.same (blk g2 (by omega) (by have := HG.out; omega)) (by omega))
        have T6 := Lib.hid (T5.out.keep (by omega) (fun q h1 h2 => blk q (by omega) (by have := HG.out; omega)))
        have HB6 := bel3
        have c6 := T6.out.out k hlt
        have y6 := T6.out.cell k k hlt hlt
        rw [KAH.out] at y6
        have cw6 : w4.cell? ⟨b2, off2 + k, none⟩ = some (.int .i64 y) := by
          rw [World.cell?_of_block (a := ⟨b2, off2 + k, none⟩) (blk b2 (by have := HB5.out.size; omega) (by have := HG.out; have := HP.out; have := HLO.out; omega))]; exact cw5'
        clear hgrow3 hat3 hlt3 own3 bel3 far blk hg4 ro rt KQ1 sz6 HA5 HC5 T5 HB5 y5 c5 cw5 cw5' rg szB wg KK HD0 HZ HOD HBD HOA HNA HO NI WX HGN
        obtain ⟨w6, rfl⟩ : ∃ x : World, x = w4 := ⟨_, rfl⟩
        obtain ⟨g3, rfl⟩ : ∃ x : Nat, x = g4 := ⟨_, rfl⟩
        obtain ⟨d3, rfl⟩ : ∃ x : Nat, x = cap4 := ⟨_, rfl⟩
        have HG6s := Lib.hid (show g2 ≠ g3 ∧ hiP ≤ g2 ∧ hiP ≤ g3 by have := HG6.out; omega)
        have HGN := HG6s
        have rg := HX6.out.room
        have szB := HB6.out.size
        have wg : w.heap.size ≤ g2 := by have := HG.out; have := HP.out; have := HLO.out; omega
        have HO := Lib.hid (HX6.out.wide (show g2 + 1 ≤ w6.heap.size from HX6.out.room) (Nat.le_refl _))
        have NI : Hid (InI64 (y - m)) := Lib.hid (by unfold InI64; omega)
        have WX : IntKind.i64.wrap (y - m) = y - m := IntWalk.i64_in _ (by omega)
        have HD0 : Below w6.heap.size w6 w6.drew := below_drew (Below.refl _ _)
        have HZ : w6.drew.heap.size = w6.heap.size := rfl
        have HOD := Lib.hid ((HO.out.below HD0).wide HD0.size (Nat.le_refl _))
        have HBD := Lib.hid (below_drew HB6.out)
        have HOA := Lib.hid (HOD.out.row.alloc (.cells #[.int .i64 (y - m)] 3))
        have HNA := Lib.hid (cell_one_new w6.drew (.int .i64 (y - m)) 3)
        have KK : Hid (∀ w9, Below w6.heap.size w6 w9 → w9.cell? ⟨b2, off2 + k, none⟩ = some (.int .i64 y) ∧ w9.cell? ⟨go, k, none⟩ = some (.slice (some ⟨gs k, 0, none⟩) ps.length ps.length) ∧ w9.cell? ⟨gs k, k, none⟩ = some (.int .i64 m)) := Lib.hid (fun w9 h9 => ⟨(h9.cell (p := ⟨b2, off2 + k, none⟩) (by show b2 < w6.heap.size; have := HB6.out.size; omega)).trans cw6, (h9.cell (p := ⟨go, k, none⟩) (by show go < w6.heap.size; have := T6.out.room; omega)).trans c6, (h9.cell (p := ⟨gs k, k, none⟩) (by show gs k < w6.heap.size; have := T6.out.room; have := T6.out.rows k hlt; omega)).trans y6⟩)
        go_wp2_with fail
        refine wp_region_held_drew (S := fun w' => w'.cell? ⟨b2, off2 + k, none⟩ = some (.int .i64 y) ∧ w'.cell? ⟨go, k, none⟩ = some (.slice (some ⟨gs k, 0, none⟩) ps.length ps.length) ∧ w'.cell? ⟨gs k, k, none⟩ = some (.int .i64 m)) (by kernel_rfl) (KK.out _ HD0) (fun hHeld => ?_)
        refine wpAnyH_take (i := 0) (oi := { dst := some 58, op := Op.move (Operand.tmp 8), type := 22, pos := "l10_coupling.go:131", after := #[], guard := none }) (v := ?_) rfl (by kernel_rfl) (by kernel_rfl) (by kernel_rfl) (fun _ _ _ h => h) (Or.inl ⟨by rfl, ?_⟩) (by assumption) ?_
        rotate_left 1
        · intro wq hSw; (try dsimp only at hSw); first | (go_simp; done) | (go_simp; with_reducible rfl)
        (try simp only [Act.put, List.setIfInBounds_toArray, List.set_cons_zero, List.set_cons_succ])
        refine wpAnyH_take (i := 1) (oi := { dst := some 59, op := Op.move (Operand.tmp 1), type := 22, pos := "l10_coupling.go:131", after := #[], guard := none }) (v := ?_) rfl (by kernel_rfl) (by kernel_rfl) (by kernel_rfl) (fun _ _ _ h => h) (Or.inl ⟨by rfl, ?_⟩) (by assumption) ?_
        rotate_left 1
        · intro wq hSw; (try dsimp only at hSw); first | (go_simp; done) | (go_simp; with_reducible rfl)
        (try simp only [Act.put, List.setIfInBounds_toArray, List.set_cons_zero, List.set_cons_succ])
        refine wpAnyH_take (i := 2) (oi := { dst := some 60, op := Op.move (Operand.tmp 9), type := 3, pos := "l10_coupling.go:131", after := #[], guard := none }) (v := ?_) rfl (by kernel_rfl) (by kernel_rfl) (by kernel_rfl) (fun _ _ _ h => h) (Or.inl ⟨by rfl, ?_⟩) (by assumption) ?_
        rotate_left 1
        · intro wq hSw; (try dsimp only at hSw); first | (go_simp; done) | (go_simp; with_reducible rfl)
        (try simp only [Act.put, List.setIfInBounds_toArray, List.set_cons_zero, List.set_cons_succ])
        refine wpAnyH_take (i := 3) (oi := { dst := some 61, op := Op.indexAddr 22 (Operand.tmp 59) (Operand.tmp 60), type := 0, pos := "l10_coupling.go:131", after := #[{ on := 1, ground := Ground.data }, { on := 2, ground := Ground.data }], guard := none }) (v := ?_) rfl (by kernel_rfl) (by kernel_rfl) (by kernel_rfl) (fun _ _ _ h => h) (Or.inl ⟨by rfl, ?_⟩) (by assumption) ?_
        rotate_left 1
        · intro wq hSw; (try dsimp only at hSw); first | (go_simp; done) | (go_simp; with_reducible rfl)
        (try simp only [Act.put, List.setIfInBounds_toArray, List.set_cons_zero, List.set_cons_succ])
        refine wpAnyH_take (i := 4) (oi := { dst := some 62, op := Op.load 3 (Operand.tmp 61), type := 3, pos := "l10_coupling.go:131", after := #[{ on := 3, ground := Ground.data }], guard := none }) (v := ?_) rfl (by kernel_rfl) (by kernel_rfl) (by kernel_rfl) (fun _ _ _ h => h) (Or.inl ⟨by rfl, ?_⟩) (by assumption) ?_
        rotate_left 1
        · intro wq hSw; (try dsimp only at hSw); first | (go_simp; done) | (go_simp; with_reducible rfl)
        (try simp only [Act.put, List.setIfInBounds_toArray, List.set_cons_zero, List.set_cons_succ])
        refine wpAnyH_take (i := 5) (oi := { dst := some 63, op := Op.move (Operand.tmp 6), type := 23, pos := "l10_coupling.go:131", after := #[], guard := none }) (v := ?_) rfl (by kernel_rfl) (by kernel_rfl) (by kernel_rfl) (fun _ _ _ h => h) (Or.inl ⟨by rfl, ?_⟩) (by assumption) ?_
        rotate_left 1
        · intro wq hSw; (try dsimp only at hSw); first | (go_simp; done) | (go_simp; with_reducible rfl)
        (try simp only [Act.put, List.setIfInBounds_toArray, List.set_cons_zero, List.set_cons_succ])
        refine wpAnyH_take (i := 6) (oi := { dst := some 64, op := Op.move (Operand.tmp 9), type := 3, pos := "l10_coupling.go:131", after := #[], guard := none }) (v := ?_) rfl (by kernel_rfl) (by kernel_rfl) (by kernel_rfl) (fun _ _ _ h => h) (Or.inl ⟨by rfl, ?_⟩) (by assumption) ?_
        rotate_left 1
        · intro wq hSw; (try dsimp only at hSw); first | (go_simp; done) | (go_simp; with_reducible rfl)
        (try simp only [Act.put, List.setIfInBounds_toArray, List.set_cons_zero, List.set_cons_succ])
        refine wpAnyH_take (i := 7) (oi := { dst := some 65, op := Op.indexAddr 23 (Operand.tmp 63) (Operand.tmp 64), type := 0, pos := "l10_coupling.go:131", after := #[{ on := 5, ground := Ground.data }, { on := 6, ground := Ground.data }], guard := none }) (v := ?_) rfl (by kernel_rfl) (by kernel_rfl) (by kernel_rfl) (fun _ _ _ h => h) (Or.inl ⟨by rfl, ?_⟩) (by assumption) ?_
        rotate_left 1
        · intro wq hSw; (try dsimp only at hSw); first | (go_simp; done) | (go_simp; with_reducible rfl)
        (try simp only [Act.put, List.setIfInBounds_toArray, List.set_cons_zero, List.set_cons_succ])
        refine wpAnyH_take (i := 8) (oi := { dst := some 66, op := Op.load 22 (Operand.tmp 65), type := 22, pos := "l10_coupling.go:131", after := #[{ on := 7, ground := Ground.data }], guard := none }) (v := ?_) rfl (by kernel_rfl) (by kernel_rfl) (by kernel_rfl) (fun _ _ _ h => h) (Or.inl ⟨by rfl, ?_⟩) (by assumption) ?_
        rotate_left 1
        · intro wq hSw; (try dsimp only at hSw); first | (go_simp; done) | (go_simp; with_reducible rfl)
        (try simp only [Act.put, List.setIfInBounds_toArray, List.set_cons_zero, List.set_cons_succ])
        refine wpAnyH_take (i := 9) (oi := { dst := some 67, op := Op.move (Operand.tmp 9), type := 3, pos := "l10_coupling.go:131", after := #[], guard := none }) (v := ?_) rfl (by kernel_rfl) (by kernel_rfl) (by kernel_rfl) (fun _ _ _ h => h) (Or.inl ⟨by rfl, ?_⟩) (by assumption) ?_
        rotate_left 1
        · intro wq hSw; (try dsimp only at hSw); first | (go_simp; done) | (go_simp; with_reducible rfl)
        (try simp only [Act.put, List.setIfInBounds_toArray, List.set_cons_zero, List.set_cons_succ])
        refine wpAnyH_take (i := 10) (oi := { dst := some 68, op := Op.indexAddr 22 (Operand.tmp 66) (Operand.tmp 67), type := 0, pos := "l10_coupling.go:131", after := #[{ on := 8, ground := Ground.data }, { on := 9, ground := Ground.data }], guard := none }) (v := ?_) rfl (by kernel_rfl) (by kernel_rfl) (by kernel_rfl) (fun _ _ _ h => h) (Or.inl ⟨by rfl, ?_⟩) (by assumption) ?_
        rotate_left 1
        · intro wq hSw; (try dsimp only at hSw); first | (go_simp; done) | (go_simp; with_reducible rfl)
        (try simp only [Act.put, List.setIfInBounds_toArray, List.set_cons_zero, List.set_cons_succ])
        refine wpAnyH_take (i := 11) (oi := { dst := some 69, op := Op.load 3 (Operand.tmp 68), type := 3, pos := "l10_coupling.go:131", after := #[{ on := 10, ground := Ground.data }], guard := none }) (v := ?_) rfl (by kernel_rfl) (by kernel_rfl) (by kernel_rfl) (fun _ _ _ h => h) (Or.inl ⟨by rfl, ?_⟩) (by assumption) ?_
        rotate_left 1
        · intro wq hSw; (try dsimp only at hSw); first | (go_simp; done) | (go_simp; with_reducible rfl)
        (try simp only [Act.put, List.setIfInBounds_toArray, List.set_cons_zero, List.set_cons_succ])
        refine wpAnyH_take (i := 12) (oi := { dst := some 70, op := Op.binOp BinOp.sub 3 (Operand.tmp 62) (Operand.tmp 69) 3, type := 3, pos := "l10_coupling.go:131", after := #[{ on := 4, ground := Ground.data }, { on := 11, ground := Ground.data }], guard := none }) (v := .int .i64 (y - m)) rfl (by kernel_rfl) (by kernel_rfl) (by kernel_rfl) (fun _ _ _ h => h) (Or.inl ⟨by rfl, ?_⟩) (by assumption) ?_
        · intro wq hSw; (try dsimp only at hSw); go_simp; first | done | rfl | (rw [IntWalk.i64_in _ (by omega)])
        (try simp only [Act.put, List.setIfInBounds_toArray, List.set_cons_zero, List.set_cons_succ])
        refine wpAnyH_ready (rs := [13]) (by kernel_rfl) (by simp) ?_
        refine AllReadyH.cons (o := { dst := some 71, op := Op.buildSlice 22 1 #[(0, Operand.tmp 70)], type := 22, pos := "l10_coupling.go:131", after := #[{ on := 12, ground := Ground.data }], guard := none }) rfl (fun KQ hKQ => ?_) AllReadyH.nil
        go_simp
        refine hKQ.out _ _ (KK.out _ (HD0.alloc (Nat.le_refl _) _)) (fun hHeld => ?_)
        (try simp only [Act.put, List.setIfInBounds_toArray, List.set_cons_zero, List.set_cons_succ])
        refine wpAnyH_ready (rs := [14]) (by kernel_rfl) (by simp) ?_
        refine AllReadyH.cons (o := { dst := some 72, op := Op.call { callee := Callee.builtin Builtin.append, args := #[Operand.tmp 58, Operand.tmp 71], argTypes := #[22, 22] }, type := 22, pos := "l10_coupling.go:131", after := #[{ on := 0, ground := Ground.data }, { on := 13, ground := Ground.data }], guard := none }) rfl (fun KQ hKQ => ?_) AllReadyH.nil
        refine step_append_lies _ rfl _ _ 22 rfl g2 3 i0 (.int .i64 0) 1 8 Try.underlying22 hi hz0 hz1 hz2 rfl (by decide) _ Q2.length (Q2.map (.int .i64)) rfl HOA.out ⟨w6.drew.heap.size, 0, none⟩ 1 1 [.int .i64 (y - m)] rfl rfl HNA.out (fun u hu => by simp at hu; subst hu; rfl) (by omega) (by unfold maxLen; omega) (by omega) (by simp; omega) _ rfl ?_
        intro g4 cap4 w4 hown3 hgrow3 hat3 hlt3
        have own3 := Lib.hid (HOD.out.app NI.out hown3)
        have bel3 := Lib.hid ((HBD.out.alloc HBD.out.size _).grown hgrow3 (by simp; omega) (fun q hq => by have := (HOA.out.lt q hq).1; omega))
        have far : Hid (∀ b o v, b < w6.heap.size → (∀ q, _ = some q → q ≠ b) → w6.cell? ⟨b, o, none⟩ = some v → w4.cell? ⟨b, o, none⟩ = some v) := Lib.hid (fun b o v hb hne hv => by
          rw [hgrow3.cell_far ⟨b, o, none⟩ (by simp; omega) (fun e => hne b e.symm rfl)]
          show (w6.drew.alloc _).cell? _ = _
          rw [World.cell?_alloc_lt _ _ _ (by show b < w6.drew.heap.size; omega)]
          exact hv)
        
        obtain ⟨e0, e1, e2⟩ := KK.out _ (Below.refl w6.heap.size w6)
        clear hown3
        refine hKQ.out _ _ ⟨far.out _ _ _ (by show b2 < w6.heap.size; have := HB6.out.size; omega) (fun q hq => by have := (HOA.out.lt q hq).1; have := HGN.out; have := HLO.out; omega) e0, far.out _ _ _ (by show go < w6.heap.size; have := T6.out.room; omega) (fun q hq => by have := (HOA.out.lt q hq).1; have := HGN.out; have := HP.out; omega) e1, far.out _ _ _ (by show gs k < w6.heap.size; have := T6.out.room; have := T6.out.rows k hlt; omega) (fun q hq => by have := (HOA.out.lt q hq).1; have := HGN.out; have := T6.out.rows k hlt; omega) e2⟩ (fun hHeld => ?_)
        (try simp only [Act.put, List.setIfInBounds_toArray, List.set_cons_zero, List.set_cons_succ])
        refine wpAnyH_take (i := 15) (oi := { dst := some 8, op := Op.assign (Operand.tmp 72), type := 22, pos := "l10_coupling.go:131", after := #[{ on := 14, ground := Ground.data }, { on := 14, ground := Ground.chain }, { on := 0, ground := Ground.phase }, { on := 1, ground := Ground.phase }, { on := 2, ground := Ground.phase }, { on := 3, ground := Ground.phase }, { on := 4, ground := Ground.phase }, { on := 5, ground := Ground.phase }, { on := 6, ground := Ground.phase }, { on := 7, ground := Ground.phase }, { on := 8, ground := Ground.phase }, { on := 9, ground := Ground.phase }, { on := 10, ground := Ground.phase }, { on := 11, ground := Ground.phase }, { on := 12, ground := Ground.phase }, { on := 13, ground := Ground.phase }, { on := 14, ground := Ground.phase }], guard := none }) (v := ?_) rfl (by kernel_rfl) (by kernel_rfl) (by kernel_rfl) (fun _ _ _ h => h) (Or.inl ⟨by rfl, ?_⟩) (by assumption) ?_
        rotate_left 1
        · intro wq hSw; (try dsimp only at hSw); first | (go_simp; done) | (go_simp; with_reducible rfl)
        (try simp only [Act.put, List.setIfInBounds_toArray, List.set_cons_zero, List.set_cons_succ])
        refine wpAnyH_done (by kernel_rfl) ?_ _
        go_wp2_with fail
        have sz6 := hgrow3.size
        simp at sz6
        have blk : ∀ q, q < w6.heap.size → q ≠ g2 → w4.heap[q]? = w6.heap[q]? := fun q hq hne => by
          rw [hgrow3.block q (by simp; omega) (by intro e9; exact hne (by injection e9 with e9; try exact e9.symm))]
          exact ((Below.refl w6.heap.size w6).alloc (Nat.le_refl _) _).block q hq
        have hg4 : g4 = g2 ∨ g4 = w6.heap.size + 1 := by
          rcases hat3 with h9 | h9
          · left; injection h9 with h9; try exact h9.symm
          · right; simpa using h9
        have ro := HO6.out.room
        have rt := T6.out.room
        have KQ1 := own3.out.tight
        rw [ll] at KQ1
        rw [← PLH.out] at KQ1
        have HO8 := Lib.hid KQ1
        have HG8 := Lib.hid (show g4 ≠ g3 ∧ hiP ≤ g4 ∧ hiP ≤ g3 by have := HG6s.out; omega)
        have HX8 := Lib.hid (HO6.out.same (blk g3 (by omega) (by have := HG6s.out; omega)) (by omega))
        have T8 := Lib.hid (T6.out.keep (by omega) (fun q h1 h2 => blk q (by omega) (by have := HG6s.out; omega)))
        have HB8 := bel3
        have HG9 := Lib.hid (show g3 ≠ g4 ∧ hiP ≤ g3 ∧ hiP ≤ g4 by have := HG8.out; omega)
        clear hgrow3 hat3 hlt3 own3 far blk hg4 ro rt KQ1 sz6 rg szB wg KK HD0 HZ HOD HBD HOA HNA HO NI WX HGN
        go_roundg (ps.length - (k + 1))
        case rel => exact ⟨k + 1, g3, d3, g4, cap4, by omega, by omega, by go_num, rfl, rfl, HX8, HO8, HG9, T8, HB8⟩
        case measure => omega
        
      · have hkz : k = ps.length := by omega
        have i1' : ¬ (k : Int) < (ps.length : Int) := by omega
        have h1 := HA.out
        have h2 := HC.out
        have h3 := HT.out
        rw [hkz] at h1 h2 h3
        rw [← KH.out] at h1
        rw [← KL.out] at h2
        have rh := HT.out.room
        have F1 := Lib.hid (FI.out wr w1.heap.size hiP go co gs _ _ h3 (h1.intsV.more h1.room) (h2.intsV.more h2.room))
        clear h1 h2 h3 HA HC HT
        rw [hkz]
        clear hkz
        go_wp2_with fail
        refine F1.out.mono ?_
        rintro e w4 ⟨rfl, T4, b4⟩
        have B4 := Lib.hid (HB.out.trans (b4.mono HLO.out))
        have R4 := Lib.hid (show OldG w4 w.heap.size w4.heap.size (.slice (some ⟨go, 0, none⟩) ps.length co) ps.length (keT ps qs) from ⟨by rw [KE.out]; exact (T4.tabV HCO.out (by omega)).more T4.room.2.2, Nat.le_refl _⟩)
        clear b4 T4
        go_wp2_with fail
        go_ret2
        exact ⟨_, rfl, R4.out, B4.out⟩
end Go.Proofs.Ytligidmkhbcpmab
