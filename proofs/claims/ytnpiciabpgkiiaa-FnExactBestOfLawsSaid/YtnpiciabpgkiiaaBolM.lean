/- The best of several offers: its weights and its mean, in the model. -/
import Derived.Test.YtnpiciabpgkiiaaBolI
import Derived.Test.YtnpiciabpgkiiaaL7M
import Derived.Deep.RegionHeld3
namespace Go.Proofs.Ytnpiciabpgkiiaa
open Go.RowKit
set_option linter.unusedVariables false
set_option maxRecDepth 100000 in
set_option maxHeartbeats 2000000 in
theorem lawsS (R : Nat) (f : Nat → List Int) (v : Value) (B : Nat) (w : World) (hR : R ≤ 1048576) (hf : ∀ i, i < R → (f i).length ≤ 1048576) (hB : B ≤ w.heap.size) (h : TabV w B v R f) :
    Calls Try.prog 55 #[v] w (Gives (.bool (lawsB R f)) w) := by
  obtain ⟨p, c, rfl, hc, hm, hS⟩ := h
  have S := Lib.hid hS
  have LE := Lib.hid hf
  have HB0 := Lib.hid hB
  have NO := Lib.hid (fun i hi h => lawsB_no (R := R) (f := f) (i := i) hi h)
  have YES := Lib.hid (fun h => show lawsB R f = decide (R ≤ 4) from by unfold lawsB; rw [allR_yes (R := R) (f := f) h, Bool.and_true])
  have E4 := Lib.hid (show decide ((R : Int) ≤ 4) = decide (R ≤ 4) by rw [Bool.eq_iff_iff, decide_eq_true_iff, decide_eq_true_iff]; omega)
  clear hS hf hm hc hB
  go_enter Try.func55, Try.ntmps55
  go_wp2_with fail
  go_loopg [3] R (fun gg i wr => ∃ k : Nat, k ≤ R ∧ R - k ≤ gg ∧ i = .int .i64 k ∧ Hid (∀ j, j < k → lawB (f j) = true) ∧ Hid (Below w.heap.size w wr))
  case atStart => exact ⟨0, Nat.zero_le _, by omega, rfl, Lib.hid (fun j hj => by omega), Lib.hid (Below.refl _ _)⟩
  case round =>
    obtain ⟨k, hk, hgg, rfl, HA, HB⟩ := hrel
    by_cases hlt : k < R
    · obtain ⟨b, off, u, rfl, hb, hc, hu⟩ := S.out k hlt
      have hbw := HB0.out
      have hcw : wr.cell? ⟨b, off + k, none⟩ = some u := by rw [HB.out.cell (p := ⟨b, off + k, none⟩) (by show b < w.heap.size; omega)]; exact hc
      have C := Lib.hid (lawS (f k) u B wr (LE.out k hlt) (hu.below (HB.out.mono hbw)))
      have i0 : (0 : Int) ≤ (k : Int) := by omega
      have i1 : (k : Int) < (R : Int) := by omega
      have NO2 := Lib.hid (NO.out k hlt)
      have NX : Hid (lawB (f k) = true → ∀ j, j < k + 1 → lawB (f j) = true) := Lib.hid (fun h j hj => by
        rcases Nat.lt_or_ge j k with h' | h'
        · exact HA.out j h'
        · obtain rfl : j = k := by omega
          exact h)
      obtain ⟨q2, d2, rfl, _⟩ := hu
      obtain ⟨t, ht⟩ : ∃ t, t = lawB (f k) := ⟨_, rfl⟩
      rw [← ht] at C NX NO2
      clear hc ht HA hbw
      cases t
      · have N2 := Lib.hid (NO2.out rfl)
        clear NX NO2
        go_wp2_with fail
        refine C.out.mono ?_
        rintro e w1 ⟨rfl, b1⟩
        have HB1 := Lib.hid (bl_then HB.out b1)
        clear b1
        go_wp2_with fail
        go_ret
        exact ⟨by rw [N2.out]; rfl, HB1.out⟩
      · have N2 := Lib.hid (NX.out rfl)
        clear NX NO2
        go_wp2_with fail
        refine C.out.mono ?_
        rintro e w1 ⟨rfl, b1⟩
        have HB1 := Lib.hid (bl_then HB.out b1)
        clear b1
        go_wp2_with fail
        go_roundg (R - (k + 1))
        case rel => exact ⟨k + 1, by omega, by omega, by go_num, N2, HB1⟩
        case measure => omega
    · have RR := Lib.hid (show lawsB R f = decide ((R : Int) ≤ 4) by rw [YES.out (fun i hi => HA.out i (by omega)), E4.out])
      clear HA
      go_wp2_with fail
      go_ret
      exact ⟨by rw [RR.out]; rfl, HB.out⟩
set_option maxRecDepth 100000 in
set_option maxHeartbeats 4000000 in
theorem bestS7 (R : Nat) (f : Nat → List Int) (v : Value) (w : World) (P : Laws R f) (h : TabV w w.heap.size v R f) :
    Calls Try.prog 56 #[v] w (NewInts (bwT f R) w) := by
  have P4 := P.n4
  have LAW := Lib.hid P.law
  have BA := Lib.hid (fun i (hi : i ≤ R) v (hv : v < 5) => bw_at P hi v hv)
  have NA := Lib.hid (fun i v u (hi : i < R) (hv : v < 5) (hu : u ≤ (f i).length) m (hm : m < 5) => in_at P hi hv hu m hm)
  have BL := Lib.hid (bwT_len f)
  have B0 := Lib.hid (show bwT f 0 = [1, 0, 0, 0, 0] from rfl)
  have BS := Lib.hid (fun i => show bwT f (i + 1) = outT (bwT f i) (f i) 5 from rfl)
  have OL := Lib.hid (fun now law v => outT_len now law v)
  have O0 := Lib.hid (fun now law => show outT now law 0 = List.replicate 5 0 from rfl)
  have OS := Lib.hid (fun now law v => show outT now law (v + 1) = inT now law v (outT now law v) law.length from rfl)
  have IL := Lib.hid (fun now law v acc u => inT_len now law v acc u)
  have I0 := Lib.hid (fun now law v acc => show inT now law v acc 0 = acc from rfl)
  have IS := Lib.hid (fun now law v acc u => show inT now law v acc (u + 1) = (inT now law v acc u).set (max u v) ((inT now law v acc u).getD (max u v) 0 + now.getD v 0 * law.getD u 0) from rfl)
  have MX := Lib.hid (fun (u v m : Nat) (hm : m = max u v) (w : World) => show Calls Try.prog 77 #[.int .i64 u, .int .i64 v] w fun e w' => e = .returned (.int .i64 m) ∧ w = w' from by
    have := mostS (u : Int) (v : Int) w
    rw [show max (u : Int) (v : Int) = (m : Int) by omega] at this
    exact this)
  obtain ⟨p, c, rfl, hc, hm, hS⟩ := h
  have S := Lib.hid hS
  clear hS P hm hc
  obtain ⟨i0, hi, hz0, hz1, hz2⟩ := info_parts intInfo
  have c1 : i0.bytes * 5 ≤ 281474976710656 := by rw [hz2]; omega
  have c2 : 5 ≤ maxLen := by unfold maxLen; omega
  go_enter Try.func56, Try.ntmps56
  go_wp2_with (at_make; refine wpList_make_full _ rfl _ _ 22 rfl w.heap.size 3 i0 (.int .i64 0) 1 Try.underlying22 hi hz0 hz1 .i64 .i64 _ _ 5 rfl rfl rfl rfl c1 c2 (Nat.le_refl _) ?_; intro w2 hown2 hg2; have o2 : OwnV w2 w.heap.size w2.heap.size (.slice (some ⟨w.heap.size, 0, none⟩) 5 5) (List.replicate 5 0) := (by (have h2 := hown2); (rw [show (Value.int .i64 0).cells = #[Value.int .i64 0] from rfl, Nat.mul_one, toList_madeCells_one] at h2); exact OwnV.made (by simpa using h2)); have q2 := o2.cellGet (j := 0) (by decide); have f2 := o2.frozenGet 0)
  have b2 : Below w.heap.size w w2 := (Below.refl _ _).grown hg2 (Nat.le_refl _) (by simp)
  have ON := Lib.hid (show OwnV (w2.setCell ⟨w.heap.size, 0, none⟩ (.int .i64 1)) w.heap.size w2.heap.size (.slice (some ⟨w.heap.size, 0, none⟩) 5 5) (bwT f 0) from by
    rw [B0.out, ← one5]; exact o2.setAt 0 (by unfold InI64; omega))
  have HBN := Lib.hid (b2.setCell (p := ⟨w.heap.size, 0, none⟩) (Nat.le_refl _) (.int .i64 1))
  have szs : (w2.setCell ⟨w.heap.size, 0, none⟩ (.int .i64 1)).heap.size = w2.heap.size := by simp [World.setCell]
  obtain ⟨w3, hw3⟩ : ∃ w3, w3 = w2.setCell ⟨w.heap.size, 0, none⟩ (.int .i64 1) := ⟨_, rfl⟩
  rw [← hw3] at ON HBN szs ⊢
  rw [← szs] at ON
  clear hown2 hg2 o2 q2 f2 b2 hw3 szs c1
  go_loopg [3, 4] R (fun gg s i wr => ∃ (k g cap : Nat), k ≤ R ∧ R - k ≤ gg ∧ i = .int .i64 k ∧ s = .slice (some ⟨g, 0, none⟩) 5 cap ∧ Hid (OwnV wr w.heap.size wr.heap.size (.slice (some ⟨g, 0, none⟩) 5 cap) (bwT f k)) ∧ Hid (Below w.heap.size w wr))
  case atStart => exact ⟨0, w.heap.size, 5, Nat.zero_le _, by omega, rfl, rfl, ON, HBN⟩
  case round =>
    clear ON HBN
    obtain ⟨wo, rfl⟩ : ∃ wo : World, wo = wr := ⟨_, rfl⟩
    obtain ⟨k, g, cap, hk, hgg, rfl, rfl, HO, HB⟩ := hrel
    by_cases hlt : k < R
    · obtain ⟨b, off, u, rfl, hb, hcu, hu⟩ := S.out k hlt
      have HCU := Lib.hid (fun (wz : World) (hz : Below w.heap.size w wz) => (show wz.cell? ⟨b, off + k, none⟩ = some u from by rw [hz.cell (p := ⟨b, off + k, none⟩) hb]; exact hcu))
      have k0 : (0 : Int) ≤ (k : Int) := by omega
      have k1 : (k : Int) < (R : Int) := by omega
      have L5 := (LAW.out k hlt).n5
      have LBD := Lib.hid (LAW.out k hlt).bd
      have NB := Lib.hid (fun v hv => BA.out k hk v hv)
      have NX := Lib.hid (fun v u hv hu m hm => NA.out k v u hlt hv hu m hm)
      have BSK := Lib.hid (BS.out k)
      have nowl := BL.out k
      obtain ⟨now, hnow⟩ : ∃ now, now = bwT f k := ⟨_, rfl⟩
      obtain ⟨law, hlaw⟩ : ∃ law, law = f k := ⟨_, rfl⟩
      rw [← hnow] at HO NB NX BSK nowl
      rw [← hlaw] at hu L5 LBD NX BSK
      obtain ⟨q2, d2, rfl, _, _, _, iu⟩ := hu
      have EU := Lib.hid iu
      have hown := HO.out
      have szo := HB.out.size
      have nowl2 := Lib.hid nowl
      have HBL := Lib.hid hb
      clear iu hcu hnow hlaw hb nowl
      go_wp2_with (at_make; refine wpList_make_full _ rfl _ _ 22 rfl wo.heap.size 3 i0 (.int .i64 0) 1 Try.underlying22 hi hz0 hz1 .i64 .i64 _ _ 5 rfl rfl rfl rfl (by rw [hz2]; omega) c2 (Nat.le_refl _) ?_; intro w4 hown4 hg4; have hs4 := hg4.size)
      have o4 : OwnV w4 wo.heap.size w4.heap.size (.slice (some ⟨wo.heap.size, 0, none⟩) 5 5) (outT now law 0) := by
        have h2 := hown4
        rw [show (Value.int .i64 0).cells = #[Value.int .i64 0] from rfl, Nat.mul_one, toList_madeCells_one] at h2
        rw [O0.out]
        exact OwnV.made (by simpa using h2)
      have b4 : Below wo.heap.size wo w4 := (Below.refl _ _).grown hg4 (Nat.le_refl _) (by simp)
      have ON := Lib.hid o4
      have OW := Lib.hid (hown.below b4)
      have HB4 := Lib.hid (HB.out.trans (b4.mono HB.out.size))
      have GLT := Lib.hid (hown.lt g rfl)
      have SZO := Lib.hid szo
      clear hown4 hg4 o4 b4 hown HO HB szo hs4
      go_loopg [6] 5 (fun gg i wr => ∃ v : Nat, v ≤ 5 ∧ 5 - v ≤ gg ∧ i = .int .i64 v ∧ Hid (OwnV wr wo.heap.size wr.heap.size (.slice (some ⟨wo.heap.size, 0, none⟩) 5 5) (outT now law v)) ∧ Hid (OwnV wr w.heap.size wo.heap.size (.slice (some ⟨g, 0, none⟩) 5 cap) now) ∧ Hid (Below w.heap.size w wr))
      case atStart => exact ⟨0, Nat.zero_le _, by omega, rfl, ON, OW, HB4⟩
      case round =>
        clear ON OW HB4
        obtain ⟨wq, rfl⟩ : ∃ wq : World, wq = wr := ⟨_, rfl⟩
        obtain ⟨v, hv, hgg2, rfl, HN, HW, HB⟩ := hrel
        by_cases hlv : v < 5
        · have v0 : (0 : Int) ≤ (v : Int) := by omega
          have v1 : (v : Int) < 5 := by omega
          have nb := NB.out v hlv
          have NXV := Lib.hid (fun u hu m hm => NX.out v u hlv hu m hm)
          have OSV := Lib.hid (OS.out now law v)
          have ISV := Lib.hid (fun u => IS.out now law v (outT now law v) u)
          have ISL : Hid (∀ u, (inT now law v (outT now law v) u).length = 5) := Lib.hid (fun u => by rw [IL.out, OL.out])
          have II : Hid (OwnV wq wo.heap.size wq.heap.size (.slice (some ⟨wo.heap.size, 0, none⟩) 5 5) (inT now law v (outT now law v) 0)) := Lib.hid (by rw [I0.out]; exact HN.out)
          have NCL := Lib.hid (fun (wz : World) (hz : OwnV wz w.heap.size wo.heap.size (.slice (some ⟨g, 0, none⟩) 5 cap) now) => hz.cellGet (j := v) (by rw [nowl2.out]; exact hlv))
          obtain ⟨x, hx⟩ : ∃ x, x = now.getD v 0 := ⟨_, rfl⟩
          obtain ⟨F, hF⟩ : ∃ F : Nat → List Int, F = fun u => inT now law v (outT now law v) u := ⟨_, rfl⟩
          have hF2 : ∀ u, inT now law v (outT now law v) u = F u := fun u => by rw [hF]
          simp only [hF2] at NXV OSV ISV ISL II
          rw [← hx] at nb
          simp only [← hx] at ISV NCL
          clear hF hF2 hx HN
          go_wp2_with fail
          go_loopg [7] law.length (fun gg i wr => ∃ u : Nat, u ≤ law.length ∧ law.length - u ≤ gg ∧ i = .int .i64 u ∧ Hid (OwnV wr wo.heap.size wr.heap.size (.slice (some ⟨wo.heap.size, 0, none⟩) 5 5) (F u)) ∧ Hid (OwnV wr w.heap.size wo.heap.size (.slice (some ⟨g, 0, none⟩) 5 cap) now) ∧ Hid (Below w.heap.size w wr))
          case atStart => exact ⟨0, Nat.zero_le _, by omega, rfl, II, HW, HB⟩
          case round =>
            clear II HW HB
            obtain ⟨u, hu, hgg3, rfl, HN, HW, HB⟩ := hrel
            have hcw := HCU.out wr HB.out
            by_cases hlu : u < law.length
            · obtain ⟨b3, off3, rfl, hb3, hc3⟩ := EU.out.get hlu
              have hcl : wr.cell? ⟨b3, off3 + u, none⟩ = some (.int .i64 (law.getD u 0)) := by rw [HB.out.cell (p := ⟨b3, off3 + u, none⟩) hb3]; exact hc3
              have ncell := NCL.out wr HW.out
              have u0 : (0 : Int) ≤ (u : Int) := by omega
              have u1 : (u : Int) < (law.length : Int) := by omega
              have lb := LBD.out u hlu
              have fl := ISL.out u
              obtain ⟨m, hm⟩ : ∃ m, m = max u v := ⟨_, rfl⟩
              have hm5 : m < 5 := by omega
              have mcell := HN.out.cellGet (j := m) (by rw [fl]; exact hm5)
              have mfz := HN.out.frozenGet m
              have mb := NXV.out u hu m hm5
              have ISU := Lib.hid (ISV.out u)
              have M1 := Lib.hid (MX.out u v m hm)
              rw [← hm] at ISU
              obtain ⟨y, hy⟩ : ∃ y, y = law.getD u 0 := ⟨_, rfl⟩
              obtain ⟨z, hz⟩ : ∃ z, z = (F u).getD m 0 := ⟨_, rfl⟩
              rw [← hy] at hcl lb ISU
              rw [← hz] at mcell mb ISU
              have p0 : 0 ≤ x * y := Int.mul_nonneg nb.1 lb.1
              have p1 : x * y ≤ 390625 * 5 := Int.mul_le_mul nb.2 lb.2 lb.1 (by omega)
              have WR : IntKind.i64.wrap (x * y) = x * y := IntWalk.i64_in _ (by omega)
              have HN2 : Hid (OwnV (wr.setCell ⟨wo.heap.size, m, none⟩ (.int .i64 (z + x * y))) wo.heap.size (wr.setCell ⟨wo.heap.size, m, none⟩ (.int .i64 (z + x * y))).heap.size (.slice (some ⟨wo.heap.size, 0, none⟩) 5 5) (F (u + 1))) := Lib.hid (by
                rw [ISU.out]
                have := HN.out.setAt m (x := z + x * y) (by unfold InI64; omega)
                rw [show (wr.setCell ⟨wo.heap.size, m, none⟩ (.int .i64 (z + x * y))).heap.size = wr.heap.size by simp [World.setCell]]
                exact this)
              have HW2 := Lib.hid (HW.out.alt (Alt.setC wr wo.heap.size m (.int .i64 (z + x * y))) (.inl (Nat.le_refl _)))
              have HB2 := Lib.hid (HB.out.setCell (p := ⟨wo.heap.size, m, none⟩) SZO.out (.int .i64 (z + x * y)))
              have m0 : (0 : Int) ≤ (m : Int) := by omega
              have m1 : (m : Int) < 5 := by omega
              have NG1 : (⟨wo.heap.size, m, none⟩ : Addr).block ≠ (⟨g, v, none⟩ : Addr).block := by have := GLT.out; show wo.heap.size ≠ g; omega
              have NG2 : (⟨wo.heap.size, m, none⟩ : Addr).block ≠ (⟨b, off + k, none⟩ : Addr).block := by have := SZO.out; have := HBL.out; show wo.heap.size ≠ b; omega
              have NG3 : (⟨wo.heap.size, m, none⟩ : Addr).block ≠ (⟨b3, off3 + u, none⟩ : Addr).block := by have := SZO.out; show wo.heap.size ≠ b3; omega
              clear hc3 hy hz HN HW HB fl hm hb3
              go_wp2_with fail
              have S1 : wr.cell? ⟨g, v, none⟩ = some (.int .i64 x) ∧ wr.cell? ⟨b, off + k, none⟩ = some (.slice (some ⟨b3, off3, none⟩) law.length d2) ∧ wr.cell? ⟨b3, off3 + u, none⟩ = some (.int .i64 y) := ⟨ncell, hcw, hcl⟩
              refine wp_region_held_drew (S := fun w' => w'.cell? ⟨g, v, none⟩ = some (.int .i64 x) ∧ w'.cell? ⟨b, off + k, none⟩ = some (.slice (some ⟨b3, off3, none⟩) law.length d2) ∧ w'.cell? ⟨b3, off3 + u, none⟩ = some (.int .i64 y)) (by kernel_rfl) S1 (fun hHeld => ?_)
              refine wpAnyH_take (i := 0) (oi := { dst := some 33, op := Op.move (Operand.tmp 5), type := 22, pos := "l7_offers.go:62", after := #[], guard := none }) (v := ?_) rfl (by kernel_rfl) (by kernel_rfl) (by kernel_rfl) (fun _ _ _ h => h) (Or.inl ⟨by rfl, ?_⟩) (by assumption) ?_
              rotate_left 1
              · intro wq hSw; (try dsimp only at hSw); first | (go_simp; done) | (go_simp; with_reducible rfl)
              (try simp only [Act.put, List.setIfInBounds_toArray, List.set_cons_zero, List.set_cons_succ])
              refine wpAnyH_take (i := 1) (oi := { dst := some 34, op := Op.move (Operand.tmp 7), type := 3, pos := "l7_offers.go:62", after := #[], guard := none }) (v := ?_) rfl (by kernel_rfl) (by kernel_rfl) (by kernel_rfl) (fun _ _ _ h => h) (Or.inl ⟨by rfl, ?_⟩) (by assumption) ?_
              rotate_left 1
              · intro wq hSw; (try dsimp only at hSw); first | (go_simp; done) | (go_simp; with_reducible rfl)
              (try simp only [Act.put, List.setIfInBounds_toArray, List.set_cons_zero, List.set_cons_succ])
              refine wpAnyH_take (i := 2) (oi := { dst := some 35, op := Op.move (Operand.tmp 6), type := 3, pos := "l7_offers.go:62", after := #[], guard := none }) (v := ?_) rfl (by kernel_rfl) (by kernel_rfl) (by kernel_rfl) (fun _ _ _ h => h) (Or.inl ⟨by rfl, ?_⟩) (by assumption) ?_
              rotate_left 1
              · intro wq hSw; (try dsimp only at hSw); first | (go_simp; done) | (go_simp; with_reducible rfl)
              (try simp only [Act.put, List.setIfInBounds_toArray, List.set_cons_zero, List.set_cons_succ])
              refine wpAnyH_take (i := 4) (oi := { dst := some 37, op := Op.move (Operand.tmp 5), type := 22, pos := "l7_offers.go:62", after := #[], guard := none }) (v := ?_) rfl (by kernel_rfl) (by kernel_rfl) (by kernel_rfl) (fun _ _ _ h => h) (Or.inl ⟨by rfl, ?_⟩) (by assumption) ?_
              rotate_left 1
              · intro wq hSw; (try dsimp only at hSw); first | (go_simp; done) | (go_simp; with_reducible rfl)
              (try simp only [Act.put, List.setIfInBounds_toArray, List.set_cons_zero, List.set_cons_succ])
              refine wpAnyH_take (i := 5) (oi := { dst := some 38, op := Op.move (Operand.tmp 7), type := 3, pos := "l7_offers.go:62", after := #[], guard := none }) (v := ?_) rfl (by kernel_rfl) (by kernel_rfl) (by kernel_rfl) (fun _ _ _ h => h) (Or.inl ⟨by rfl, ?_⟩) (by assumption) ?_
              rotate_left 1
              · intro wq hSw; (try dsimp only at hSw); first | (go_simp; done) | (go_simp; with_reducible rfl)
              (try simp only [Act.put, List.setIfInBounds_toArray, List.set_cons_zero, List.set_cons_succ])
              refine wpAnyH_take (i := 6) (oi := { dst := some 39, op := Op.move (Operand.tmp 6), type := 3, pos := "l7_offers.go:62", after := #[], guard := none }) (v := ?_) rfl (by kernel_rfl) (by kernel_rfl) (by kernel_rfl) (fun _ _ _ h => h) (Or.inl ⟨by rfl, ?_⟩) (by assumption) ?_
              rotate_left 1
              · intro wq hSw; (try dsimp only at hSw); first | (go_simp; done) | (go_simp; with_reducible rfl)
              (try simp only [Act.put, List.setIfInBounds_toArray, List.set_cons_zero, List.set_cons_succ])
              refine wpAnyH_take (i := 10) (oi := { dst := some 43, op := Op.move (Operand.tmp 3), type := 22, pos := "l7_offers.go:62", after := #[], guard := none }) (v := ?_) rfl (by kernel_rfl) (by kernel_rfl) (by kernel_rfl) (fun _ _ _ h => h) (Or.inl ⟨by rfl, ?_⟩) (by assumption) ?_
              rotate_left 1
              · intro wq hSw; (try dsimp only at hSw); first | (go_simp; done) | (go_simp; with_reducible rfl)
              (try simp only [Act.put, List.setIfInBounds_toArray, List.set_cons_zero, List.set_cons_succ])
              refine wpAnyH_take (i := 11) (oi := { dst := some 44, op := Op.move (Operand.tmp 6), type := 3, pos := "l7_offers.go:62", after := #[], guard := none }) (v := ?_) rfl (by kernel_rfl) (by kernel_rfl) (by kernel_rfl) (fun _ _ _ h => h) (Or.inl ⟨by rfl, ?_⟩) (by assumption) ?_
              rotate_left 1
              · intro wq hSw; (try dsimp only at hSw); first | (go_simp; done) | (go_simp; with_reducible rfl)
              (try simp only [Act.put, List.setIfInBounds_toArray, List.set_cons_zero, List.set_cons_succ])
              refine wpAnyH_take (i := 12) (oi := { dst := some 45, op := Op.indexAddr 22 (Operand.tmp 43) (Operand.tmp 44), type := 0, pos := "l7_offers.go:62", after := #[{ on := 10, ground := Ground.data }, { on := 11, ground := Ground.data }], guard := none }) (v := ?_) rfl (by kernel_rfl) (by kernel_rfl) (by kernel_rfl) (fun _ _ _ h => h) (Or.inl ⟨by rfl, ?_⟩) (by assumption) ?_
              rotate_left 1
              · intro wq hSw; (try dsimp only at hSw); first | (go_simp; done) | (go_simp; with_reducible rfl)
              (try simp only [Act.put, List.setIfInBounds_toArray, List.set_cons_zero, List.set_cons_succ])
              refine wpAnyH_take (i := 13) (oi := { dst := some 46, op := Op.load 3 (Operand.tmp 45), type := 3, pos := "l7_offers.go:62", after := #[{ on := 12, ground := Ground.data }], guard := none }) (v := ?_) rfl (by kernel_rfl) (by kernel_rfl) (by kernel_rfl) (fun _ _ _ h => h) (Or.inl ⟨by rfl, ?_⟩) (by assumption) ?_
              rotate_left 1
              · intro wq hSw; (try dsimp only at hSw); first | (go_simp; done) | (go_simp; with_reducible rfl)
              (try simp only [Act.put, List.setIfInBounds_toArray, List.set_cons_zero, List.set_cons_succ])
              refine wpAnyH_take (i := 14) (oi := { dst := some 47, op := Op.move (Operand.tmp 0), type := 30, pos := "l7_offers.go:62", after := #[], guard := none }) (v := ?_) rfl (by kernel_rfl) (by kernel_rfl) (by kernel_rfl) (fun _ _ _ h => h) (Or.inl ⟨by rfl, ?_⟩) (by assumption) ?_
              rotate_left 1
              · intro wq hSw; (try dsimp only at hSw); first | (go_simp; done) | (go_simp; with_reducible rfl)
              (try simp only [Act.put, List.setIfInBounds_toArray, List.set_cons_zero, List.set_cons_succ])
              refine wpAnyH_take (i := 15) (oi := { dst := some 48, op := Op.move (Operand.tmp 4), type := 3, pos := "l7_offers.go:62", after := #[], guard := none }) (v := ?_) rfl (by kernel_rfl) (by kernel_rfl) (by kernel_rfl) (fun _ _ _ h => h) (Or.inl ⟨by rfl, ?_⟩) (by assumption) ?_
              rotate_left 1
              · intro wq hSw; (try dsimp only at hSw); first | (go_simp; done) | (go_simp; with_reducible rfl)
              (try simp only [Act.put, List.setIfInBounds_toArray, List.set_cons_zero, List.set_cons_succ])
              refine wpAnyH_take (i := 16) (oi := { dst := some 49, op := Op.indexAddr 30 (Operand.tmp 47) (Operand.tmp 48), type := 0, pos := "l7_offers.go:62", after := #[{ on := 14, ground := Ground.data }, { on := 15, ground := Ground.data }], guard := none }) (v := ?_) rfl (by kernel_rfl) (by kernel_rfl) (by kernel_rfl) (fun _ _ _ h => h) (Or.inl ⟨by rfl, ?_⟩) (by assumption) ?_
              rotate_left 1
              · intro wq hSw; (try dsimp only at hSw); first | (go_simp; done) | (go_simp; with_reducible rfl)
              (try simp only [Act.put, List.setIfInBounds_toArray, List.set_cons_zero, List.set_cons_succ])
              refine wpAnyH_take (i := 17) (oi := { dst := some 50, op := Op.load 22 (Operand.tmp 49), type := 22, pos := "l7_offers.go:62", after := #[{ on := 16, ground := Ground.data }], guard := none }) (v := ?_) rfl (by kernel_rfl) (by kernel_rfl) (by kernel_rfl) (fun _ _ _ h => h) (Or.inl ⟨by rfl, ?_⟩) (by assumption) ?_
              rotate_left 1
              · intro wq hSw; (try dsimp only at hSw); first | (go_simp; done) | (go_simp; with_reducible rfl)
              (try simp only [Act.put, List.setIfInBounds_toArray, List.set_cons_zero, List.set_cons_succ])
              refine wpAnyH_take (i := 18) (oi := { dst := some 51, op := Op.move (Operand.tmp 7), type := 3, pos := "l7_offers.go:62", after := #[], guard := none }) (v := ?_) rfl (by kernel_rfl) (by kernel_rfl) (by kernel_rfl) (fun _ _ _ h => h) (Or.inl ⟨by rfl, ?_⟩) (by assumption) ?_
              rotate_left 1
              · intro wq hSw; (try dsimp only at hSw); first | (go_simp; done) | (go_simp; with_reducible rfl)
              (try simp only [Act.put, List.setIfInBounds_toArray, List.set_cons_zero, List.set_cons_succ])
              refine wpAnyH_take (i := 19) (oi := { dst := some 52, op := Op.indexAddr 22 (Operand.tmp 50) (Operand.tmp 51), type := 0, pos := "l7_offers.go:62", after := #[{ on := 17, ground := Ground.data }, { on := 18, ground := Ground.data }], guard := none }) (v := ?_) rfl (by kernel_rfl) (by kernel_rfl) (by kernel_rfl) (fun _ _ _ h => h) (Or.inl ⟨by rfl, ?_⟩) (by assumption) ?_
              rotate_left 1
              · intro wq hSw; (try dsimp only at hSw); first | (go_simp; done) | (go_simp; with_reducible rfl)
              (try simp only [Act.put, List.setIfInBounds_toArray, List.set_cons_zero, List.set_cons_succ])
              refine wpAnyH_take (i := 20) (oi := { dst := some 53, op := Op.load 3 (Operand.tmp 52), type := 3, pos := "l7_offers.go:62", after := #[{ on := 19, ground := Ground.data }], guard := none }) (v := ?_) rfl (by kernel_rfl) (by kernel_rfl) (by kernel_rfl) (fun _ _ _ h => h) (Or.inl ⟨by rfl, ?_⟩) (by assumption) ?_
              rotate_left 1
              · intro wq hSw; (try dsimp only at hSw); first | (go_simp; done) | (go_simp; with_reducible rfl)
              (try simp only [Act.put, List.setIfInBounds_toArray, List.set_cons_zero, List.set_cons_succ])
              refine wpAnyH_take (i := 21) (oi := { dst := some 54, op := Op.binOp BinOp.mul 3 (Operand.tmp 46) (Operand.tmp 53) 3, type := 3, pos := "l7_offers.go:62", after := #[{ on := 13, ground := Ground.data }, { on := 20, ground := Ground.data }], guard := none }) (v := ?_) rfl (by kernel_rfl) (by kernel_rfl) (by kernel_rfl) (fun _ _ _ h => h) (Or.inl ⟨by rfl, ?_⟩) (by assumption) ?_
              rotate_left 1
              · intro wq hSw; (try dsimp only at hSw); first | (go_simp; done) | (go_simp; with_reducible rfl)
              (try simp only [Act.put, List.setIfInBounds_toArray, List.set_cons_zero, List.set_cons_succ])
              refine wpAnyH_ready (rs := [3]) (by kernel_rfl) (by simp) ?_
              refine AllReadyH.cons (o := { dst := some 36, op := Op.call { callee := Callee.value (Operand.func 77), args := #[Operand.tmp 34, Operand.tmp 35], argTypes := #[3, 3] }, type := 3, pos := "l7_offers.go:62", after := #[{ on := 1, ground := Ground.data }, { on := 2, ground := Ground.data }], guard := none }) rfl (fun KQ hKQ => ?_) AllReadyH.nil
              go_simp
              refine (M1.out _).mono ?_
              rintro e w8 ⟨rfl, rfl⟩
              go_wp2_with fail
              refine hKQ.out _ _ S1 (fun hHeld => ?_)
              (try simp only [Act.put, List.setIfInBounds_toArray, List.set_cons_zero, List.set_cons_succ])
              refine wpAnyH_ready (rs := [7]) (by kernel_rfl) (by simp) ?_
              refine AllReadyH.cons (o := { dst := some 40, op := Op.call { callee := Callee.value (Operand.func 77), args := #[Operand.tmp 38, Operand.tmp 39], argTypes := #[3, 3] }, type := 3, pos := "l7_offers.go:62", after := #[{ on := 5, ground := Ground.data }, { on := 6, ground := Ground.data }, { on := 3, ground := Ground.chain }], guard := none }) rfl (fun KQ hKQ => ?_) AllReadyH.nil
              go_simp
              refine (M1.out _).mono ?_
              rintro e w8 ⟨rfl, rfl⟩
              go_wp2_with fail
              refine hKQ.out _ _ S1 (fun hHeld => ?_)
              (try simp only [Act.put, List.setIfInBounds_toArray, List.set_cons_zero, List.set_cons_succ])
              refine wpAnyH_take (i := 8) (oi := { dst := some 41, op := Op.indexAddr 22 (Operand.tmp 37) (Operand.tmp 40), type := 0, pos := "l7_offers.go:62", after := #[{ on := 4, ground := Ground.data }, { on := 7, ground := Ground.data }], guard := none }) (v := ?_) rfl (by kernel_rfl) (by kernel_rfl) (by kernel_rfl) (fun _ _ _ h => h) (Or.inl ⟨by rfl, ?_⟩) (by assumption) ?_
              rotate_left 1
              · intro wq hSw; (try dsimp only at hSw); first | (go_simp; done) | (go_simp; with_reducible rfl)
              (try simp only [Act.put, List.setIfInBounds_toArray, List.set_cons_zero, List.set_cons_succ])
              refine wpAnyH_ready (rs := [9]) (by kernel_rfl) (by simp) ?_
              refine AllReadyH.cons (o := { dst := some 42, op := Op.load 3 (Operand.tmp 41), type := 3, pos := "l7_offers.go:62", after := #[{ on := 8, ground := Ground.data }], guard := none }) rfl (fun KQ hKQ => ?_) AllReadyH.nil
              go_simp
              refine hKQ.out _ _ S1 (fun hHeld => ?_)
              (try simp only [Act.put, List.setIfInBounds_toArray, List.set_cons_zero, List.set_cons_succ])
              refine wpAnyH_take (i := 22) (oi := { dst := some 55, op := Op.binOp BinOp.add 3 (Operand.tmp 42) (Operand.tmp 54) 3, type := 3, pos := "l7_offers.go:62", after := #[{ on := 9, ground := Ground.data }, { on := 21, ground := Ground.data }], guard := none }) (v := ?_) rfl (by kernel_rfl) (by kernel_rfl) (by kernel_rfl) (fun _ _ _ h => h) (Or.inl ⟨by rfl, ?_⟩) (by assumption) ?_
              rotate_left 1
              · intro wq hSw; (try dsimp only at hSw); first | (go_simp; done) | (go_simp; with_reducible rfl)
              (try simp only [Act.put, List.setIfInBounds_toArray, List.set_cons_zero, List.set_cons_succ])
              refine wpAnyH_take (i := 23) (oi := { dst := some 56, op := Op.indexAddr 22 (Operand.tmp 33) (Operand.tmp 36), type := 0, pos := "l7_offers.go:62", after := #[{ on := 0, ground := Ground.data }, { on := 3, ground := Ground.data }, { on := 0, ground := Ground.phase }, { on := 1, ground := Ground.phase }, { on := 2, ground := Ground.phase }, { on := 3, ground := Ground.phase }, { on := 4, ground := Ground.phase }, { on := 5, ground := Ground.phase }, { on := 6, ground := Ground.phase }, { on := 7, ground := Ground.phase }, { on := 8, ground := Ground.phase }, { on := 9, ground := Ground.phase }, { on := 10, ground := Ground.phase }, { on := 11, ground := Ground.phase }, { on := 12, ground := Ground.phase }, { on := 13, ground := Ground.phase }, { on := 14, ground := Ground.phase }, { on := 15, ground := Ground.phase }, { on := 16, ground := Ground.phase }, { on := 17, ground := Ground.phase }, { on := 18, ground := Ground.phase }, { on := 19, ground := Ground.phase }, { on := 20, ground := Ground.phase }, { on := 21, ground := Ground.phase }, { on := 22, ground := Ground.phase }], guard := none }) (v := ?_) rfl (by kernel_rfl) (by kernel_rfl) (by kernel_rfl) (fun _ _ _ h => h) (Or.inl ⟨by rfl, ?_⟩) (by assumption) ?_
              rotate_left 1
              · intro wq hSw; (try dsimp only at hSw); first | (go_simp; done) | (go_simp; with_reducible rfl)
              (try simp only [Act.put, List.setIfInBounds_toArray, List.set_cons_zero, List.set_cons_succ])
              refine wpAnyH_ready (rs := [24]) (by kernel_rfl) (by simp) ?_
              refine AllReadyH.cons (o := { dst := none, op := Op.store 3 (Operand.tmp 56) (Operand.tmp 55), type := 0, pos := "l7_offers.go:62", after := #[{ on := 23, ground := Ground.data }, { on := 22, ground := Ground.data }, { on := 7, ground := Ground.chain }, { on := 0, ground := Ground.phase }, { on := 1, ground := Ground.phase }, { on := 2, ground := Ground.phase }, { on := 3, ground := Ground.phase }, { on := 4, ground := Ground.phase }, { on := 5, ground := Ground.phase }, { on := 6, ground := Ground.phase }, { on := 7, ground := Ground.phase }, { on := 8, ground := Ground.phase }, { on := 9, ground := Ground.phase }, { on := 10, ground := Ground.phase }, { on := 11, ground := Ground.phase }, { on := 12, ground := Ground.phase }, { on := 13, ground := Ground.phase }, { on := 14, ground := Ground.phase }, { on := 15, ground := Ground.phase }, { on := 16, ground := Ground.phase }, { on := 17, ground := Ground.phase }, { on := 18, ground := Ground.phase }, { on := 19, ground := Ground.phase }, { on := 20, ground := Ground.phase }, { on := 21, ground := Ground.phase }, { on := 22, ground := Ground.phase }], guard := none }) rfl (fun KQ hKQ => ?_) AllReadyH.nil
              go_simp
              refine hKQ.out _ _ ⟨(World.cell?_setCell_far _ _ _ _ NG1).trans S1.1, (World.cell?_setCell_far _ _ _ _ NG2).trans S1.2.1, (World.cell?_setCell_far _ _ _ _ NG3).trans S1.2.2⟩ (fun hHeld => ?_)
              (try simp only [Act.put, List.setIfInBounds_toArray, List.set_cons_zero, List.set_cons_succ])
              refine wpAnyH_done (by kernel_rfl) ?_ _
              go_wp2_with fail
              go_roundg (law.length - (u + 1))
              case rel => exact ⟨u + 1, by omega, by omega, by go_num, by first | exact HN2 | exact Lib.hid ((HN2.out.below (below_drew (Below.refl _ _)))), by first | exact HW2 | exact Lib.hid (HW2.out.below (below_drew (Below.refl _ _))), by first | exact HB2 | exact Lib.hid (below_drew HB2.out)⟩
              case measure => omega
            · have hul : u = law.length := by omega
              have HN2 : Hid (OwnV wr wo.heap.size wr.heap.size (.slice (some ⟨wo.heap.size, 0, none⟩) 5 5) (outT now law (v + 1))) := Lib.hid (by rw [OSV.out, ← hul]; exact HN.out)
              clear HN hul
              go_wp2_with fail
              go_roundg (5 - (v + 1))
              case rel => exact ⟨v + 1, by omega, by omega, by go_num, HN2, HW, HB⟩
              case measure => omega
        · have hv5 : v = 5 := by omega
          have HN2 : Hid (OwnV wq w.heap.size wq.heap.size (.slice (some ⟨wo.heap.size, 0, none⟩) 5 5) (bwT f (k + 1))) := Lib.hid (by rw [BSK.out, show outT now law 5 = outT now law v by rw [hv5]]; exact HN.out.low SZO.out)
          clear HN HW
          go_wp2_with fail
          go_roundg (R - (k + 1))
          case rel => exact ⟨k + 1, wo.heap.size, 5, by omega, by omega, by go_num, rfl, HN2, HB⟩
          case measure => omega
    · have hkR : k = R := by omega
      have FIN : Hid (NewInts (bwT f R) w (.returned (.slice (some ⟨g, 0, none⟩) 5 cap)) wo) := Lib.hid ⟨_, rfl, by rw [← hkR]; exact HO.out, HB.out⟩
      clear HO HB hkR
      go_wp2_with fail
      go_ret
      exact FIN.out
set_option maxRecDepth 100000 in
set_option maxHeartbeats 2000000 in
theorem bestOfS (R : Nat) (f : Nat → List Int) (v : Value) (w : World) (hR : R ≤ 1048576) (hf : ∀ i, i < R → (f i).length ≤ 1048576) (h : TabV w w.heap.size v R f) :
    Calls Try.prog 20 #[v] w (NewIntsB (ifLaws R f (bwT f R)) (lawsB R f) w) := by
  have AL := Lib.hid (lawsS R f v w.heap.size w hR hf (Nat.le_refl _) h)
  cases hl : lawsB R f
  · rw [show ifLaws R f (bwT f R) = [] from if_neg (by rw [hl]; decide)]
    rw [hl] at AL
    obtain ⟨p, c, rfl⟩ := h.shape
    clear h hl
    go_enter Try.func20, Try.ntmps20
    go_wp2_with fail
    refine AL.out.mono ?_
    rintro e w1 ⟨rfl, b1⟩
    have HB := Lib.hid b1
    clear b1
    go_wp2_with fail
    go_ret2
    exact newInts_empty HB.out
  · rw [show ifLaws R f (bwT f R) = bwT f R from if_pos hl]
    have BS := Lib.hid (fun w' (hb : Below w.heap.size w w') => bestS7 R f v w' (lawsB_iff.1 hl) (h.boxed hb))
    rw [hl] at AL
    obtain ⟨p, c, rfl⟩ := h.shape
    clear h hl
    go_enter Try.func20, Try.ntmps20
    go_wp2_with fail
    refine AL.out.mono ?_
    rintro e w1 ⟨rfl, b1⟩
    have HB := Lib.hid b1
    clear b1
    go_wp2_with fail
    refine (BS.out _ HB.out).mono ?_
    rintro e w2 ⟨u, rfl, o2, b2⟩
    have FIN : Hid (NewIntsB (bwT f R) true w (.returned (.tuple #[u, .bool true])) w2) := Lib.hid (newInts_back HB.out o2 b2)
    clear o2 b2
    go_wp2_with fail
    go_ret2
    exact FIN.out
set_option maxRecDepth 100000 in
set_option maxHeartbeats 2000000 in
theorem prophS (R : Nat) (f : Nat → List Int) (v : Value) (w : World) (hR : R ≤ 1048576) (hf : ∀ i, i < R → (f i).length ≤ 1048576) (h : TabV w w.heap.size v R f) :
    Calls Try.prog 27 #[v] w (Gives (prophV R f) w) := by
  have AL := Lib.hid (fun w' (hb : Below w.heap.size w w') => lawsS R f v w.heap.size w' hR hf hb.size (h.below hb))
  have B0 := Lib.hid (bl_self w (.cells #[.int .i64 0, .int .i64 0] 26))
  cases hl : lawsB R f
  · rw [show prophV R f = .tuple #[.agg #[.int .i64 0, .int .i64 0], .bool false] from if_neg (by rw [hl]; decide)]
    rw [hl] at AL
    obtain ⟨p, c, rfl⟩ := h.shape
    clear h hl
    go_enter Try.func27, Try.ntmps27
    go_wp2_with fail
    refine (AL.out _ (bl_up B0.out)).mono ?_
    rintro e w1 ⟨rfl, b1⟩
    have B1 := Lib.hid (bl_then B0.out b1)
    clear b1
    obtain ⟨⟨x0, y0⟩, x1, y1⟩ := rs_cells B1.out
    go_wp2_with fail
    refine bodyPost_ret (v := .tuple #[.agg #[.int .i64 0, .int .i64 0], .bool false]) (by simp [results, Try.results27, go_sem, x0, x1]) rfl ⟨rfl, ?_⟩
    exact rs_fin B1.out
  · have P := lawsB_iff.1 hl
    have bl := bwT_len f R
    have ba := fun v hv => bw_at P (Nat.le_refl R) v hv
    have bp := (bw_tot P R (Nat.le_refl R)).1
    have BI := Lib.hid (fun w' (hb : Below w.heap.size w w') => bestS7 R f v w' P (h.boxed hb))
    have VM := Lib.hid (fun u w' (hu : IntsV w' w'.heap.size u (bwT f R)) => valMeanS (bwT f R) u w' (by omega) (fun i hi => by have := ba i (by omega); omega) (by rw [bl]; exact bp) hu)
    rw [bl] at VM
    have KP := Lib.hid (fun w => keptS_cut (a := moT (bwT f R) 5) (b := smT (bwT f R) 5) w bp)
    rw [show prophV R f = keptV (cutN (moT (bwT f R) 5) (smT (bwT f R) 5)) (cutD (moT (bwT f R) 5) (smT (bwT f R) 5)) from if_pos hl]
    obtain ⟨p, q, okk, hK⟩ := keptV_form (cutN (moT (bwT f R) 5) (smT (bwT f R) 5)) (cutD (moT (bwT f R) 5) (smT (bwT f R) 5))
    rw [hK] at KP ⊢
    generalize cutN (moT (bwT f R) 5) (smT (bwT f R) 5) = CN at *
    generalize cutD (moT (bwT f R) 5) (smT (bwT f R) 5) = CD at *
    rw [hl] at AL
    obtain ⟨p1, c1, rfl⟩ := h.shape
    generalize bwT f R = BW at *
    clear h hl hK P ba bp bl
    go_enter Try.func27, Try.ntmps27
    go_wp2_with fail
    refine (AL.out _ (bl_up B0.out)).mono ?_
    rintro e w1 ⟨rfl, b1⟩
    have B1 := Lib.hid (bl_then B0.out b1)
    clear b1
    go_wp2_with fail
    refine (BI.out _ (bl_up B1.out)).mono ?_
    rintro e w2 ⟨u, rfl, o2, b2⟩
    have B2 := Lib.hid (bl_then B1.out b2)
    have V1 := Lib.hid (VM.out u w2 o2.intsV)
    obtain ⟨q1, d1, rfl, _⟩ := o2.intsV
    clear b2 o2
    go_wp2_with fail
    refine V1.out.mono ?_
    rintro e w3 ⟨rfl, b3⟩
    have B3 := Lib.hid (bl_then B2.out b3)
    clear b3
    go_wp2_with fail
    refine (KP.out _).mono ?_
    rintro e w4 ⟨rfl, b4⟩
    have B4 := Lib.hid (bl_then B3.out b4)
    clear b4
    obtain ⟨⟨x0, y0⟩, x1, y1⟩ := rs_cells B4.out
    go_wp2_with fail
    refine bodyPost_ret (v := .tuple #[.agg #[.int .i64 p, .int .i64 q], .bool okk]) (by simp [results, Try.results27, go_sem, x0, x1]) rfl ⟨rfl, ?_⟩
    exact rs_fin B4.out
end Go.Proofs.Ytnpiciabpgkiiaa
