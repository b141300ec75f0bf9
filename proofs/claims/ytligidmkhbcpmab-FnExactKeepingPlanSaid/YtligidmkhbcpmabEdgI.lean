/- The sums of rows and columns, and plans, in the program. -/
import Derived.Test.YtligidmkhbcpmabSqrI
import Derived.Test.YtligidmkhbcpmabFill
import Derived.Deep.QuietTactic
import Derived.BigQuiet
import Derived.Deep.Slices
import Derived.Test.YtligidmkhbcpmabHeldMore
namespace Go.Proofs.Ytligidmkhbcpmab
open Go.RowKit
open Go.Deep
set_option linter.unusedVariables false
/-- Two rows in new memory. -/
def NewTwo (as_ bs : List Int) (w : World) (e : Ending) (w' : World) : Prop :=
  ∃ v u, e = .returned (.tuple #[v, u]) ∧ OwnV w' w.heap.size w'.heap.size v as_ ∧ OwnV w' w.heap.size w'.heap.size u bs ∧ Below w.heap.size w w'
theorem setAlt {w : World} {lo hi g cap n : Nat} {zs : List Int} (h : OwnV w lo hi (.slice (some ⟨g, 0, none⟩) n cap) zs) (j : Nat) (v : Value) : Alt lo hi w (w.setCell ⟨g, j, none⟩ v) := by
  obtain rfl := h.norm
  exact Alt.of_grown (h.row.stored j v).2 (fun q hq => by
    injection hq with hq
    subst hq
    exact ⟨(h.row.lt _ rfl).1, h.lt _ rfl⟩)
set_option maxRecDepth 100000 in
set_option maxHeartbeats 4000000 in
theorem edgesY (R : Nat) (f : Nat → List Int) (n : Nat) (v : Value) (w : World) (s : Sqr R f n 40) (hn : n ≤ 8) (h : TabV w w.heap.size v R f) :
    Calls Try.prog 43 #[v] w (NewTwo (erF f n n 0) (ecF f n n 0) w) := by
  obtain ⟨q, cq, rfl, lq, mq, iq⟩ := h
  have E1 := Lib.hid iq
  obtain ⟨i0, hi, hz0, hz1, hz2⟩ := info_parts intInfo
  have hRn := s.rows
  subst hRn
  have MK : Hid (∃ mk : World → World, ∀ w0, (Instr.makeSlice 22 (.int .i64 (R : Int)) (.int .i64 (R : Int))).run Try.prog w0 = .ok (.slice (some ⟨w0.heap.size, 0, none⟩) R R) (mk w0) ∧ (mk w0).ownsRow 0 3 1 (.slice (some ⟨w0.heap.size, 0, none⟩) R R) R (List.replicate R (.int .i64 0)) ∧ w0.grownBy (mk w0) none) := Lib.hid (by
    have hx : ∀ w0 : World, ∃ w', (Instr.makeSlice 22 (.int .i64 (R : Int)) (.int .i64 (R : Int))).run Try.prog w0 = .ok (.slice (some ⟨w0.heap.size, 0, none⟩) R R) w' ∧ w'.ownsRow 0 3 1 (.slice (some ⟨w0.heap.size, 0, none⟩) R R) R (List.replicate R (.int .i64 0)) ∧ w0.grownBy w' none := fun w0 => by
      obtain ⟨w', h1, h2, h3⟩ := run_make_full (P := Try.prog) w0 0 22 3 i0 (.int .i64 0) 1 Try.underlying22 hi hz0 hz1 .i64 .i64 R (by rw [hz2]; omega) (by unfold maxLen; omega) (Nat.zero_le _)
      rw [show (Value.int .i64 0).cells = #[Value.int .i64 0] from rfl, Nat.mul_one, toList_madeCells_one] at h2
      exact ⟨w', h1, h2, h3⟩
    exact ⟨fun w0 => Classical.choose (hx w0), fun w0 => Classical.choose_spec (hx w0)⟩)
  obtain ⟨mk, hmk⟩ := MK.out
  have RUN := fun w0 => (hmk w0).1
  have MKO := Lib.hid (fun w0 => OwnV.made (lo := 0) (hmk w0).2.1)
  have MKB : Hid (∀ w0 : World, Below w0.heap.size w0 (mk w0)) := Lib.hid (fun w0 => (Below.refl _ _).grown (hmk w0).2.2 (Nat.le_refl _) (by simp))
  have TW := Lib.hid (show OwnV (mk (mk w.drew)) w.heap.size (w.heap.size + 1) (.slice (some ⟨w.heap.size, 0, none⟩) R R) (List.replicate R 0) ∧ OwnV (mk (mk w.drew)) (mk w.drew).heap.size ((mk w.drew).heap.size + 1) (.slice (some ⟨(mk w.drew).heap.size, 0, none⟩) R R) (List.replicate R 0) ∧ w.heap.size + 1 ≤ (mk w.drew).heap.size ∧ Below w.heap.size w (mk (mk w.drew)) from by
    have o1 := (MKO.out w.drew).tight
    have o2 := (MKO.out (mk w.drew)).tight
    have r1 : w.drew.heap.size + 1 ≤ (mk w.drew).heap.size := o1.room
    have b1 := MKB.out w.drew
    have b2 := MKB.out (mk w.drew)
    exact ⟨o1.below (b2.mono r1), o2, r1, (below_drew (Below.refl w.heap.size w)).trans (b1.trans (b2.mono b1.size))⟩)
  have SQL := Lib.hid s.len
  have SQB := Lib.hid s.bd
  have SB := Lib.hid (fun i (hi : i < R) k (hk : k ≤ R) => smT_in (zs := f i) (n := R) (m := 40) (fun c hc => s.bd i hi c hc) k hk)
  have CB := Lib.hid (fun k (hk : k < R) i (hi : i ≤ R) => colT_bd (f := f) (k := k) (m := 40) i (fun j hj => s.bd j (by omega) k hk))
  have ER0 := Lib.hid (er_zero f R)
  have EC0 := Lib.hid (ec_zero f R)
  have ERS := Lib.hid (fun i k (hi : i < R) => er_set (f := f) (n := R) (i := i) (k := k) hi)
  have ECS := Lib.hid (fun i k (hk : k < R) => ec_set (f := f) (n := R) (i := i) (k := k) hk)
  have ERN := Lib.hid (fun i => er_next f R i)
  have ECN := Lib.hid (fun i => ec_next f R i)
  have ERA := Lib.hid (fun i k (hi : i < R) => show (erF f R i k).getD i 0 = smT (f i) k by rw [er_at hi, if_neg (by omega), if_pos rfl])
  have ECA := Lib.hid (fun i k (hk : k < R) => show (ecF f R i k).getD k 0 = colT f k i by rw [ec_at hk, if_neg (by omega)])
  clear hmk MK hi hz0 hz1 hz2 iq mq s
  go_enter Try.func43, Try.ntmps43
  go_upto_region 1 with fail
  go_region
  · obtain ⟨ga, hga⟩ : ∃ g, g = w.heap.size := ⟨_, rfl⟩
    obtain ⟨gb, hgb⟩ : ∃ g, g = (mk w.drew).heap.size := ⟨_, rfl⟩
    obtain ⟨w2, hw2⟩ : ∃ w2, w2 = mk (mk w.drew) := ⟨_, rfl⟩
    have HT := TW.out
    rw [← hw2, ← hgb] at HT ⊢
    clear hw2 TW RUN MKO MKB hgb
    rw [show OwnV w2 w.heap.size (w.heap.size + 1) (.slice (some ⟨w.heap.size, 0, none⟩) R R) (List.replicate R 0) = OwnV w2 ga (ga + 1) (.slice (some ⟨ga, 0, none⟩) R R) (List.replicate R 0) by rw [hga]] at HT
    rw [show (.slice (some ⟨w.heap.size, 0, none⟩) R R : Value) = .slice (some ⟨ga, 0, none⟩) R R by rw [hga]]
    obtain ⟨ta, tb, tc, td⟩ := HT
    have HGA := Lib.hid (show w.heap.size ≤ ga by omega)
    have HGB := Lib.hid (show w.heap.size ≤ gb by omega)
    have HNE := Lib.hid (show ga + 1 ≤ gb ∨ gb + 1 ≤ ga by omega)
    rw [← ER0.out] at ta
    rw [← EC0.out] at tb
    have O1 := Lib.hid ta
    have O2 := Lib.hid tb
    have HB0 := Lib.hid td
    clear ta tb tc td hga ER0 EC0
    go_wp2_with fail
    go_loopg [18] R (fun gg i wr => ∃ k : Nat, k ≤ R ∧ R - k ≤ gg ∧ i = .int .i64 k ∧ Hid (OwnV wr ga (ga + 1) (.slice (some ⟨ga, 0, none⟩) R R) (erF f R k 0)) ∧ Hid (OwnV wr gb (gb + 1) (.slice (some ⟨gb, 0, none⟩) R R) (ecF f R k 0)) ∧ Hid (Below w.heap.size w wr))
    case atStart => exact ⟨0, Nat.zero_le _, by omega, rfl, O1, O2, HB0⟩
    case round =>
      clear O1 O2 HB0
      obtain ⟨i, hi, hgg, rfl, HO1, HO2, HB⟩ := hrel
      by_cases hlt : i < R
      · obtain ⟨b, off, z, rfl, hb, hc, hz⟩ := E1.out i hlt
        have hcw : wr.cell? ⟨b, off + i, none⟩ = some z := by rw [HB.out.cell (p := ⟨b, off + i, none⟩) hb]; exact hc
        have j0 : (0 : Int) ≤ (i : Int) := by omega
        have j1 : (i : Int) < (R : Int) := by omega
        obtain ⟨q1, d1, rfl, _, _, _, ir⟩ := hz
        have E2 := Lib.hid ir
        have FL := SQL.out i hlt
        rw [FL] at hcw
        clear hc ir
        obtain ⟨wo, hwo⟩ : ∃ wo : World, wo = wr := ⟨_, rfl⟩
        go_wp2_with fail
        go_loopg [25] R (fun gg t wr => ∃ k : Nat, k ≤ R ∧ R - k ≤ gg ∧ t = .int .i64 k ∧ Hid (OwnV wr ga (ga + 1) (.slice (some ⟨ga, 0, none⟩) R R) (erF f R i k)) ∧ Hid (OwnV wr gb (gb + 1) (.slice (some ⟨gb, 0, none⟩) R R) (ecF f R i k)) ∧ Hid (Below w.heap.size w wr))
        case atStart => exact ⟨0, Nat.zero_le _, by omega, rfl, HO1, HO2, HB⟩
        case round =>
          clear HO1 HO2 HB
          obtain ⟨k, hk, hgg2, rfl, HO1, HO2, HB⟩ := hrel
          by_cases hlk : k < R
          · obtain ⟨b2, off2, rfl, hb2, hc2⟩ := E2.out.get (i := k) (by omega)
            have hcw2 : wr.cell? ⟨b2, off2 + k, none⟩ = some (.int .i64 ((f i).getD k 0)) := by rw [HB.out.cell (p := ⟨b2, off2 + k, none⟩) hb2]; exact hc2
            have k0 : (0 : Int) ≤ (k : Int) := by omega
            have k1 : (k : Int) < (R : Int) := by omega
            have xb := SQB.out i hlt k hlk
            have sb := SB.out i hlt k hk
            have cb := CB.out k hlk i hi
            have kb : k * 40 ≤ 320 := by omega
            have ib : i * 40 ≤ 320 := by omega
            have y1 := HO1.out.cellGet (j := i) (by rw [er_len]; exact hlt)
            rw [ERA.out i k hlt] at y1
            have f1 := HO1.out.frozenGet i
            have rs := ERS.out i k hlt
            have cs := ECS.out i k hlk
            have ca := ECA.out i k hlk
            obtain ⟨x, hx⟩ : ∃ x, x = (f i).getD k 0 := ⟨_, rfl⟩
            rw [← hx] at hcw2 xb rs cs
            obtain ⟨S, hS⟩ : ∃ S, S = smT (f i) k := ⟨_, rfl⟩
            rw [← hS] at y1 sb rs
            obtain ⟨T, hT⟩ : ∃ T, T = colT f k i := ⟨_, rfl⟩
            rw [← hT] at cb cs ca
            have S1 : 0 ≤ S ∧ S ≤ 320 := by omega
            have T1 : 0 ≤ T ∧ T ≤ 320 := by omega
            have O3 := Lib.hid (HO1.out.setAt i (x := S + x) (by unfold InI64; omega))
            rw [rs] at O3
            have O4 := Lib.hid (HO2.out.alt (setAlt HO1.out i (.int .i64 (S + x))) (by have := HNE.out; omega))
            have B3 := Lib.hid (HB.out.setCell (p := ⟨ga, i, none⟩) (by have := HGA.out; have := HGB.out; show w.heap.size ≤ ga; omega) (.int .i64 (S + x)))
            have CA := Lib.hid ca
            have CS := Lib.hid cs
            clear hc2 hx hS hT sb cb kb ib rs cs ca hb2
            go_upto_region 9 with fail
            obtain ⟨w3, hw3⟩ : ∃ w3, w3 = wr.setCell ⟨ga, i, none⟩ (.int .i64 (S + x)) := ⟨_, rfl⟩
            rw [← hw3] at O3 O4 B3 ⊢
            clear hw3 y1 f1 hcw2
            have y2 := O4.out.cellGet (j := k) (by rw [ec_len]; exact hlk)
            rw [CA.out] at y2
            have f2 := O4.out.frozenGet k
            have O5 := Lib.hid (O4.out.setAt k (x := T + x) (by unfold InI64; omega))
            rw [CS.out] at O5
            have O6 := Lib.hid (O3.out.alt (setAlt O4.out k (.int .i64 (T + x))) (by have := HNE.out; omega))
            have B5 := Lib.hid (B3.out.setCell (p := ⟨gb, k, none⟩) (by have := HGA.out; have := HGB.out; show w.heap.size ≤ gb; omega) (.int .i64 (T + x)))
            clear O3 O4 B3 HO1 HO2 HB CA CS
            go_wp2_with fail
            go_roundg (R - (k + 1))
            case rel => exact ⟨k + 1, by omega, by omega, by go_num, O6, O5, B5⟩
            case measure => omega
          · have hkR : k = R := by omega
            have N1 : Hid (OwnV wr ga (ga + 1) (.slice (some ⟨ga, 0, none⟩) R R) (erF f R (i + 1) 0)) := Lib.hid (by rw [← ERN.out]; have h := HO1.out; rw [hkR] at h; exact h)
            have N2 : Hid (OwnV wr gb (gb + 1) (.slice (some ⟨gb, 0, none⟩) R R) (ecF f R (i + 1) 0)) := Lib.hid (by rw [← ECN.out]; have h := HO2.out; rw [hkR] at h; exact h)
            clear HO1 HO2 hkR
            go_wp2_with fail
            go_roundg (R - (i + 1))
            case rel => exact ⟨i + 1, by omega, by omega, by go_num, N1, N2, HB⟩
            case measure => omega
      · have hiR : i = R := by omega
        have h1 := HO1.out
        have h2 := HO2.out
        rw [hiR] at h1 h2
        have F1 := Lib.hid ((h1.low (lo' := w.heap.size) (by have := HGA.out; have := HGB.out; omega)).wide h1.room (Nat.le_refl _))
        have F2 := Lib.hid ((h2.low (lo' := w.heap.size) (by have := HGA.out; have := HGB.out; omega)).wide h2.room (Nat.le_refl _))
        clear h1 h2 HO1 HO2 hiR
        go_wp2_with fail
        go_ret2
        exact ⟨_, _, rfl, F1.out, F2.out, HB.out⟩
  · obtain ⟨ga, hga⟩ : ∃ g, g = w.heap.size := ⟨_, rfl⟩
    obtain ⟨gb, hgb⟩ : ∃ g, g = (mk w.drew).heap.size := ⟨_, rfl⟩
    obtain ⟨w2, hw2⟩ : ∃ w2, w2 = mk (mk w.drew) := ⟨_, rfl⟩
    have HT := TW.out
    rw [← hw2, ← hgb] at HT ⊢
    clear hw2 TW RUN MKO MKB hgb
    rw [show OwnV w2 w.heap.size (w.heap.size + 1) (.slice (some ⟨w.heap.size, 0, none⟩) R R) (List.replicate R 0) = OwnV w2 ga (ga + 1) (.slice (some ⟨ga, 0, none⟩) R R) (List.replicate R 0) by rw [hga]] at HT
    rw [show (.slice (some ⟨w.heap.size, 0, none⟩) R R : Value) = .slice (some ⟨ga, 0, none⟩) R R by rw [hga]]
    obtain ⟨ta, tb, tc, td⟩ := HT
    have HGA := Lib.hid (show w.heap.size ≤ ga by omega)
    have HGB := Lib.hid (show w.heap.size ≤ gb by omega)
    have HNE := Lib.hid (show gb + 1 ≤ ga ∨ ga + 1 ≤ gb by omega)
    rw [← ER0.out] at tb
    rw [← EC0.out] at ta
    have O1 := Lib.hid tb
    have O2 := Lib.hid ta
    have HB0 := Lib.hid td
    clear ta tb tc td hga ER0 EC0
    go_wp2_with fail
    go_loopg [18] R (fun gg i wr => ∃ k : Nat, k ≤ R ∧ R - k ≤ gg ∧ i = .int .i64 k ∧ Hid (OwnV wr gb (gb + 1) (.slice (some ⟨gb, 0, none⟩) R R) (erF f R k 0)) ∧ Hid (OwnV wr ga (ga + 1) (.slice (some ⟨ga, 0, none⟩) R R) (ecF f R k 0)) ∧ Hid (Below w.heap.size w wr))
    case atStart => exact ⟨0, Nat.zero_le _, by omega, rfl, O1, O2, HB0⟩
    case round =>
      clear O1 O2 HB0
      obtain ⟨i, hi, hgg, rfl, HO1, HO2, HB⟩ := hrel
      by_cases hlt : i < R
      · obtain ⟨b, off, z, rfl, hb, hc, hz⟩ := E1.out i hlt
        have hcw : wr.cell? ⟨b, off + i, none⟩ = some z := by rw [HB.out.cell (p := ⟨b, off + i, none⟩) hb]; exact hc
        have j0 : (0 : Int) ≤ (i : Int) := by omega
        have j1 : (i : Int) < (R : Int) := by omega
        obtain ⟨q1, d1, rfl, _, _, _, ir⟩ := hz
        have E2 := Lib.hid ir
        have FL := SQL.out i hlt
        rw [FL] at hcw
        clear hc ir
        obtain ⟨wo, hwo⟩ : ∃ wo : World, wo = wr := ⟨_, rfl⟩
        go_wp2_with fail
        go_loopg [25] R (fun gg t wr => ∃ k : Nat, k ≤ R ∧ R - k ≤ gg ∧ t = .int .i64 k ∧ Hid (OwnV wr gb (gb + 1) (.slice (some ⟨gb, 0, none⟩) R R) (erF f R i k)) ∧ Hid (OwnV wr ga (ga + 1) (.slice (some ⟨ga, 0, none⟩) R R) (ecF f R i k)) ∧ Hid (Below w.heap.size w wr))
        case atStart => exact ⟨0, Nat.zero_le _, by omega, rfl, HO1, HO2, HB⟩
        case round =>
          clear HO1 HO2 HB
          obtain ⟨k, hk, hgg2, rfl, HO1, HO2, HB⟩ := hrel
          by_cases hlk : k < R
          · obtain ⟨b2, off2, rfl, hb2, hc2⟩ := E2.out.get (i := k) (by omega)
            have hcw2 : wr.cell? ⟨b2, off2 + k, none⟩ = some (.int .i64 ((f i).getD k 0)) := by rw [HB.out.cell (p := ⟨b2, off2 + k, none⟩) hb2]; exact hc2
            have k0 : (0 : Int) ≤ (k : Int) := by omega
            have k1 : (k : Int) < (R : Int) := by omega
            have xb := SQB.out i hlt k hlk
            have sb := SB.out i hlt k hk
            have cb := CB.out k hlk i hi
            have kb : k * 40 ≤ 320 := by omega
            have ib : i * 40 ≤ 320 := by omega
            have y1 := HO1.out.cellGet (j := i) (by rw [er_len]; exact hlt)
            rw [ERA.out i k hlt] at y1
            have f1 := HO1.out.frozenGet i
            have rs := ERS.out i k hlt
            have cs := ECS.out i k hlk
            have ca := ECA.out i k hlk
            obtain ⟨x, hx⟩ : ∃ x, x = (f i).getD k 0 := ⟨_, rfl⟩
            rw [← hx] at hcw2 xb rs cs
            obtain ⟨S, hS⟩ : ∃ S, S = smT (f i) k := ⟨_, rfl⟩
            rw [← hS] at y1 sb rs
            obtain ⟨T, hT⟩ : ∃ T, T = colT f k i := ⟨_, rfl⟩
            rw [← hT] at cb cs ca
            have S1 : 0 ≤ S ∧ S ≤ 320 := by omega
            have T1 : 0 ≤ T ∧ T ≤ 320 := by omega
            have O3 := Lib.hid (HO1.out.setAt i (x := S + x) (by unfold InI64; omega))
            rw [rs] at O3
            have O4 := Lib.hid (HO2.out.alt (setAlt HO1.out i (.int .i64 (S + x))) (by have := HNE.out; omega))
            have B3 := Lib.hid (HB.out.setCell (p := ⟨gb, i, none⟩) (by have := HGA.out; have := HGB.out; show w.heap.size ≤ gb; omega) (.int .i64 (S + x)))
            have CA := Lib.hid ca
            have CS := Lib.hid cs
            clear hc2 hx hS hT sb cb kb ib rs cs ca hb2
            go_upto_region 9 with fail
            obtain ⟨w3, hw3⟩ : ∃ w3, w3 = wr.setCell ⟨gb, i, none⟩ (.int .i64 (S + x)) := ⟨_, rfl⟩
            rw [← hw3] at O3 O4 B3 ⊢
            clear hw3 y1 f1 hcw2
            have y2 := O4.out.cellGet (j := k) (by rw [ec_len]; exact hlk)
            rw [CA.out] at y2
            have f2 := O4.out.frozenGet k
            have O5 := Lib.hid (O4.out.setAt k (x := T + x) (by unfold InI64; omega))
            rw [CS.out] at O5
            have O6 := Lib.hid (O3.out.alt (setAlt O4.out k (.int .i64 (T + x))) (by have := HNE.out; omega))
            have B5 := Lib.hid (B3.out.setCell (p := ⟨ga, k, none⟩) (by have := HGA.out; have := HGB.out; show w.heap.size ≤ ga; omega) (.int .i64 (T + x)))
            clear O3 O4 B3 HO1 HO2 HB CA CS
            go_wp2_with fail
            go_roundg (R - (k + 1))
            case rel => exact ⟨k + 1, by omega, by omega, by go_num, O6, O5, B5⟩
            case measure => omega
          · have hkR : k = R := by omega
            have N1 : Hid (OwnV wr gb (gb + 1) (.slice (some ⟨gb, 0, none⟩) R R) (erF f R (i + 1) 0)) := Lib.hid (by rw [← ERN.out]; have h := HO1.out; rw [hkR] at h; exact h)
            have N2 : Hid (OwnV wr ga (ga + 1) (.slice (some ⟨ga, 0, none⟩) R R) (ecF f R (i + 1) 0)) := Lib.hid (by rw [← ECN.out]; have h := HO2.out; rw [hkR] at h; exact h)
            clear HO1 HO2 hkR
            go_wp2_with fail
            go_roundg (R - (i + 1))
            case rel => exact ⟨i + 1, by omega, by omega, by go_num, N1, N2, HB⟩
            case measure => omega
      · have hiR : i = R := by omega
        have h1 := HO1.out
        have h2 := HO2.out
        rw [hiR] at h1 h2
        have F1 := Lib.hid ((h1.low (lo' := w.heap.size) (by have := HGA.out; have := HGB.out; omega)).wide h1.room (Nat.le_refl _))
        have F2 := Lib.hid ((h2.low (lo' := w.heap.size) (by have := HGA.out; have := HGB.out; omega)).wide h2.room (Nat.le_refl _))
        clear h1 h2 HO1 HO2 hiR
        go_wp2_with fail
        go_ret2
        exact ⟨_, _, rfl, F1.out, F2.out, HB.out⟩
end Go.Proofs.Ytligidmkhbcpmab
