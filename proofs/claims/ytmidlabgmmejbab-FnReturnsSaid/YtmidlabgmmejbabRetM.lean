/- ReturnCounts in the model. -/
import Derived.Test.YtmidlabgmmejbabTabC
import Derived.Test.YtmidlabgmmejbabLedM
import Derived.Test.YtmidlabgmmejbabRetK
namespace Go.Proofs.Ytmidlabgmmejbab
open Go.RowKit
set_option linter.unusedVariables false
theorem TabC.drew {w : World} {lo hi go R C : Nat} {gs : Nat → Nat} {F : Nat → Nat → Nat} (h : TabC w lo hi go gs R C F) : TabC w.drew lo hi go gs R C F :=
  h.keep (Nat.le_refl _) (below_drew (Below.refl hi w)) (Nat.le_refl _)
/-- The next table while place A at p sends: j of the two places have got theirs. -/
def toR (m : Nat) (f : Nat → Nat → Nat) (A p : Nat) : Nat → Nat → Nat → Nat
  | 0 => nrR m f A p
  | j + 1 => bumpR (toR m f A p j) (A - 1 + 2 * j) (kkR m (A - 1 + 2 * j) p) (f A p)
theorem toR_two {m : Nat} (f : Nat → Nat → Nat) {A : Nat} (hA : 1 ≤ A) (p t q : Nat) : toR m f A p 2 t q = nrR m f A (p + 1) t q := by
  rw [nr_succ f hA]
  show bumpR (bumpR (nrR m f A p) (A - 1 + 2 * 0) (kkR m (A - 1 + 2 * 0) p) (f A p)) (A - 1 + 2 * 1) (kkR m (A - 1 + 2 * 1) p) (f A p) t q = _
  rw [show A - 1 + 2 * 0 = A - 1 by omega, show A - 1 + 2 * 1 = A + 1 by omega]
theorem bump_le {F : Nat → Nat → Nat} {t k x a b : Nat} (hF : ∀ i q, F i q ≤ a) (hx : x ≤ b) (i q : Nat) : bumpR F t k x i q ≤ a + b := by
  unfold bumpR
  have := hF i q
  split <;> omega
theorem toR_le {m : Nat} {f : Nat → Nat → Nat} {B : Nat} (hf : ∀ a r, f a r ≤ B) (A p : Nat) : ∀ j i q, toR m f A p j i q ≤ 3 * B + j * B
  | 0, i, q => by have := nr_le (m := m) hf A p i q; simpa [toR] using this
  | j + 1, i, q => by
      have := bump_le (t := A - 1 + 2 * j) (k := kkR m (A - 1 + 2 * j) p) (toR_le (m := m) hf A p j) (hf A p) i q
      have e : (j + 1) * B = j * B + B := Nat.succ_mul j B
      have h : toR m f A p (j + 1) i q ≤ 3 * B + j * B + B := this
      omega
theorem bump_zero (F : Nat → Nat → Nat) (t k i q : Nat) : bumpR F t k 0 i q = F i q := by unfold bumpR; split <;> rfl
/-- The columns' sums: of the first A places, and for the first p numbers of returns of one place more. -/
def colP (k m A p : Nat) : List Int := (List.range (k + 1)).map fun r => ((if r < p then colR m r (A + 1) else colR m r A : Nat) : Int)
theorem colP_len (k m A p : Nat) : (colP k m A p).length = k + 1 := by simp [colP]
theorem colP_at {k m A p : Nat} (hp : p < k + 1) : (colP k m A p).getD p 0 = (colR m p A : Nat) := by
  unfold colP
  rw [List.getD_eq_getElem?_getD, List.getElem?_map, List.getElem?_range hp]
  simp only [Option.map_some, Option.getD_some, if_neg (Nat.lt_irrefl p)]
theorem colP_zero (k m : Nat) : colP k m 0 0 = List.replicate (k + 1) 0 := by
  apply List.ext_getElem
  · rw [colP_len, List.length_replicate]
  · intro i h1 h2
    simp [colP, colR]
theorem colP_full (k m A : Nat) : colP k m A (k + 1) = colP k m (A + 1) 0 := by
  unfold colP
  refine List.map_congr_left fun r hr => ?_
  rw [if_pos (List.mem_range.1 hr), if_neg (Nat.not_lt_zero r)]
theorem colP_set {k m A p : Nat} (hp : p < k + 1) : (colP k m A p).set p ((colR m p A : Nat) + (dpR m m A p : Nat) : Int) = colP k m A (p + 1) := by
  apply List.ext_getElem
  · rw [List.length_set, colP_len, colP_len]
  · intro i h1 h2
    rw [List.getElem_set]
    simp only [colP, List.getElem_map, List.getElem_range]
    by_cases h : p = i
    · subst h; rw [if_pos rfl, if_pos (by omega)]; show _ = ((colR m p A + dpR m m A p : Nat) : Int); omega
    · rw [if_neg h]
      by_cases h3 : i < p
      · rw [if_pos h3, if_pos (by omega)]
      · rw [if_neg h3, if_neg (by omega)]
theorem colP_end {k : Nat} (hk : k ≤ 15) : colP k (2 * k) (2 * (2 * k) + 1) 0 = rtL k := by
  unfold colP rtL fillL
  refine List.map_congr_left fun r hr => ?_
  have h := List.mem_range.1 hr
  rw [if_neg (Nat.not_lt_zero r), if_pos h, col_rt hk h]
  unfold rtF
  exact Int.natCast_mul _ _
set_option maxRecDepth 100000 in
set_option maxHeartbeats 4000000 in
theorem retS (k : Nat) (w : World) (h15 : k ≤ 15) : Calls Try.prog 43 #[.int .i64 (2 * k : Nat)] w (NewIntsB (rtL k) true w) := by
  have E := Lib.hid (fun w => evenS (2 * k : Nat) w)
  have BL := Lib.hid (fun w => blankS (2 * k) k w (by omega) (by omega) h15)
  obtain ⟨m, hm⟩ : ∃ m, m = 2 * k := ⟨_, rfl⟩
  rw [← hm] at E BL ⊢
  have k1 : m ≤ 2 * k := by omega
  have k2 : 2 * k ≤ m := by omega
  obtain ⟨R, hR⟩ : ∃ R, R = 2 * m + 1 := ⟨_, rfl⟩
  obtain ⟨C, hC⟩ : ∃ C, C = k + 2 := ⟨_, rfl⟩
  rw [← hR, ← hC] at BL
  have r1 : R ≤ 2 * m + 1 := by omega
  have r2 : 2 * m + 1 ≤ R := by omega
  have c1 : C ≤ k + 2 := by omega
  have c2 : k + 2 ≤ C := by omega
  have OK : okE (m : Int) = true := decide_eq_true ⟨⟨by omega, by omega⟩, by omega⟩
  rw [OK] at E
  clear hR hC OK hm
  go_enter Try.func43, Try.ntmps43
  go_wp2_with fail
  refine (E.out _).mono ?_
  rintro e w1 ⟨rfl, rfl⟩
  go_wp2_with fail
  refine (BL.out _).mono ?_
  intro e w2 hn
  obtain ⟨go, co, gs, rfl, T0, b0⟩ := hn.tabC
  have a0 := T0.out m (by omega)
  have a1 := T0.cell m 0 (by omega) (by omega)
  have a2 := T0.thaw m 0 (by omega) (by omega)
  have m0 : (m : Int) < (R : Int) := by omega
  have m1 : (0 : Int) < (C : Int) := by omega
  have HT1 := Lib.hid ((T0.bump (t := m) (k := 0) (x := 1) (by omega) (by omega)).congr (G := dpR m 0) (fun a r _ _ => by unfold bumpR dpR; split <;> rfl))
  have HB1 := Lib.hid (b0.setCell (p := ⟨gs m, 0, none⟩) (T0.rows m (by omega)).1 (.int .i64 ((0 + 1 : Nat) : Int)))
  have LO := Lib.hid (Nat.le_refl w.heap.size)
  have hc0 : (((0 + 1 : Nat) : Int)) = 1 := rfl
  rw [hc0] at HT1 HB1
  clear hn T0 b0 hc0
  go_wp2_with fail
  clear a0 a1 a2
  go_loopg [4, 5] m (fun gg o i wr => ∃ (s lo hi go co : Nat) (gs : Nat → Nat), s ≤ m ∧ m - s ≤ gg ∧ o = .slice (some ⟨go, 0, none⟩) R co ∧ i = .int .i64 s ∧ Hid (w.heap.size ≤ lo) ∧ Hid (TabC wr lo hi go gs R C (dpR m s)) ∧ Hid (Below w.heap.size w wr))
  case atStart => exact ⟨0, _, _, go, co, gs, Nat.zero_le _, by omega, rfl, rfl, LO, HT1, HB1⟩
  case round =>
    clear LO HT1 HB1
    obtain ⟨s, lo, hi, go, co, gs, hs, hgg, rfl, rfl, HL, HT, HB⟩ := hrel
    by_cases hlt : s < m
    · have s1 : (s : Int) < (m : Int) := by omega
      obtain ⟨f, hf⟩ : ∃ f, f = dpR m s := ⟨_, rfl⟩
      have FB := Lib.hid (fun a r => show f a r ≤ 1073741824 by rw [hf]; exact Nat.le_trans (dp_le m s a r) (Nat.le_trans (Nat.pow_le_pow_right (by omega) (show s ≤ 30 by omega)) (by decide)))
      have FS := Lib.hid (show nxR m f (2 * m) = dpR m (s + 1) by rw [hf]; rfl)
      rw [← hf] at HT
      clear hf
      go_wp2_with fail
      refine (BL.out _).mono ?_
      intro e w3 hn
      obtain ⟨go2, co2, gs2, rfl, T2, b2⟩ := hn.tabC
      have NW := Lib.hid (HT.out.keep HT.out.room.2.2 b2 b2.size)
      have NX := Lib.hid (T2.congr (G := nxR m f 1) (fun i q _ _ => (nx_one m f i q).symm))
      have SP := HT.out.room.2.2
      have HB2 := Lib.hid (HB.out.trans (b2.mono HB.out.size))
      have sz := HB.out.size
      obtain ⟨lo2, hlo2⟩ : ∃ lo2, lo2 = wr.heap.size := ⟨_, rfl⟩
      rw [← hlo2] at NX SP sz
      obtain ⟨hi2, hhi2⟩ : ∃ hi2, hi2 = w3.heap.size := ⟨_, rfl⟩
      rw [← hhi2] at NX
      clear hn T2 b2 HT HB hlo2 hhi2
      go_wp2_with fail
      go_loopg [7] (2 * m) (fun gg i wr => ∃ A : Nat, 1 ≤ A ∧ A ≤ 2 * m ∧ 2 * m - A ≤ gg ∧ i = .int .i64 A ∧ Hid (TabC wr lo hi go gs R C f) ∧ Hid (TabC wr lo2 hi2 go2 gs2 R C (nxR m f A)) ∧ Hid (Below w.heap.size w wr))
      case atStart => exact ⟨1, by omega, by omega, by omega, rfl, NW, NX, HB2⟩
      case round =>
        clear NW NX HB2
        obtain ⟨A, hA1, hA2, hgg2, rfl, NW, NX, HB⟩ := hrel
        by_cases hAlt : A < 2 * m
        · have A1 : (A : Int) < 2 * (m : Int) := by omega
          have NR := Lib.hid (NX.out.congr (G := nrR m f A 0) (fun i q _ _ => (nr_zero m f A i q).symm))
          clear NX
          go_wp2_with fail
          go_loopg [8] (k + 1) (fun gg i wr => ∃ p : Nat, p ≤ k + 1 ∧ k + 1 - p ≤ gg ∧ i = .int .i64 p ∧ Hid (TabC wr lo hi go gs R C f) ∧ Hid (TabC wr lo2 hi2 go2 gs2 R C (nrR m f A p)) ∧ Hid (Below w.heap.size w wr))
          case atStart => exact ⟨0, by omega, by omega, rfl, NW, NR, HB⟩
          case round =>
            clear NW NR HB
            obtain ⟨p, hp, hgg3, rfl, NW, NR, HB⟩ := hrel
            have T2 : Int.tdiv (m : Int) 2 = (k : Int) := by rw [Int.tdiv_eq_ediv_of_nonneg (by omega)]; omega
            have T3 : (m : Int) / 2 = (k : Int) := by omega
            by_cases hplt : p ≤ k
            · have p1 : (p : Int) ≤ (k : Int) := by omega
              have NT : Hid (TabC _ lo2 hi2 go2 gs2 R C (toR m f A p 0)) := NR
              clear NR
              go_wp2_with fail
              go_loopg [9] 2 (fun gg i wr => ∃ j : Nat, j ≤ 2 ∧ 2 - j ≤ gg ∧ i = .int .i64 ((A : Int) - 1 + 2 * j) ∧ Hid (TabC wr lo hi go gs R C f) ∧ Hid (TabC wr lo2 hi2 go2 gs2 R C (toR m f A p j)) ∧ Hid (Below w.heap.size w wr))
              case atStart => exact ⟨0, by omega, by omega, by go_num, NW, NT, HB⟩
              case round =>
                clear NW NT HB
                obtain ⟨j, hj, hgg4, rfl, NW, NT, HB⟩ := hrel
                by_cases hjlt : j < 2
                · obtain ⟨t, ht⟩ : ∃ t, t = A - 1 + 2 * j := ⟨_, rfl⟩
                  have tI : (A : Int) - 1 + 2 * (j : Int) = (t : Int) := by omega
                  rw [tI]
                  have tR : t < R := by omega
                  have tA : (t : Int) ≤ (A : Int) + 1 := by omega
                  have n0 := NW.out.out A (by omega)
                  have n1 := NW.out.cell A p (by omega) (by omega)
                  have x0 := NT.out.out t tR
                  have i1 : (A : Int) < (R : Int) := by omega
                  have i2 : (p : Int) < (C : Int) := by omega
                  have i3 : (t : Int) < (R : Int) := by omega
                  by_cases htm : t = m
                  · have hmt : m = t := htm.symm
                    subst hmt
                    have kE : kkR m m p = p + 1 := if_pos rfl
                    have hq : p + 1 < C := by omega
                    have x1 := NT.out.cell m (p + 1) tR hq
                    have x2 := NT.out.thaw m (p + 1) tR hq
                    have i4 : ((p + 1 : Nat) : Int) < (C : Int) := by omega
                    obtain ⟨G0, hG⟩ : ∃ G0, G0 = toR m f A p j m (p + 1) := ⟨_, rfl⟩
                    obtain ⟨F0, hF0⟩ : ∃ F0, F0 = f A p := ⟨_, rfl⟩
                    have gb : G0 ≤ 5368709120 := by rw [hG]; exact Nat.le_trans (toR_le FB.out A p j _ _) (by omega)
                    have fb : F0 ≤ 1073741824 := by rw [hF0]; exact FB.out A p
                    have e : toR m f A p (j + 1) = bumpR (toR m f A p j) m (p + 1) F0 := by
                      show bumpR _ (A - 1 + 2 * j) (kkR m (A - 1 + 2 * j) p) (f A p) = _
                      rw [← ht, kE, ← hF0]
                    rw [← hG] at x1
                    rw [← hF0] at n1
                    by_cases hz : F0 = 0
                    · have N2 : Hid (TabC wr lo2 hi2 go2 gs2 R C (toR m f A p (j + 1))) := Lib.hid (NT.out.congr (fun i y _ _ => by rw [e, hz]; exact (bump_zero _ _ _ _ _).symm))
                      have n2 : wr.cell? ⟨gs A, p, none⟩ = some (.int .i64 0) := by rw [n1, hz]; rfl
                      clear n1 x1 x2 hG hF0 e NT kE ht x0
                      go_wp2_with fail
                      go_roundg (2 - (j + 1))
                      case rel => exact ⟨j + 1, by omega, by omega, by rw [show (A : Int) - 1 + 2 * ((j + 1 : Nat) : Int) = (m : Int) + 2 by omega], NW, N2, HB⟩
                      case measure => omega
                    · have N2 : Hid (TabC (wr.setCell ⟨gs2 m, p + 1, none⟩ (.int .i64 ((G0 : Int) + (F0 : Int)))) lo2 hi2 go2 gs2 R C (toR m f A p (j + 1))) := Lib.hid (by
                        have h := NT.out.bump (t := m) (k := p + 1) (x := F0) tR hq
                        rw [← hG, show ((G0 + F0 : Nat) : Int) = (G0 : Int) + (F0 : Int) from by omega] at h
                        rw [e]; exact h)
                      have far := (NT.out.rows m tR).1
                      have W2 := Lib.hid (NW.out.keep (Nat.le_refl _) ((Below.refl hi wr).setCell (p := ⟨gs2 m, p + 1, none⟩) (Nat.le_trans SP far) (.int .i64 ((G0 : Int) + (F0 : Int)))) (by simp [World.setCell]))
                      have B2 := Lib.hid (HB.out.setCell (p := ⟨gs2 m, p + 1, none⟩) (Nat.le_trans sz far) (.int .i64 ((G0 : Int) + (F0 : Int))))
                      have z1 : (0 : Int) < (F0 : Int) := by omega
                      have wr1 : IntKind.i64.wrap ((G0 : Int) + (F0 : Int)) = (G0 : Int) + (F0 : Int) := IntWalk.i64_in _ (by omega)
                      clear hG hF0 e NT NW HB kE ht far
                      go_wp2_with fail
                      go_region
                      go_wp2_with fail
                      go_roundg (2 - (j + 1))
                      case rel => exact ⟨j + 1, by omega, by omega, by rw [show (A : Int) - 1 + 2 * ((j + 1 : Nat) : Int) = (m : Int) + 2 by omega], Lib.hid (W2.out.drew), Lib.hid (N2.out.drew), Lib.hid (below_drew B2.out)⟩
                      case measure => omega
                  · have kE : kkR m t p = p := if_neg htm
                    have hq : p < C := by omega
                    have x1 := NT.out.cell t (p) tR hq
                    have x2 := NT.out.thaw t (p) tR hq
                    have i4 : ((p : Nat) : Int) < (C : Int) := by omega
                    obtain ⟨G0, hG⟩ : ∃ G0, G0 = toR m f A p j t (p) := ⟨_, rfl⟩
                    obtain ⟨F0, hF0⟩ : ∃ F0, F0 = f A p := ⟨_, rfl⟩
                    have gb : G0 ≤ 5368709120 := by rw [hG]; exact Nat.le_trans (toR_le FB.out A p j _ _) (by omega)
                    have fb : F0 ≤ 1073741824 := by rw [hF0]; exact FB.out A p
                    have e : toR m f A p (j + 1) = bumpR (toR m f A p j) t (p) F0 := by
                      show bumpR _ (A - 1 + 2 * j) (kkR m (A - 1 + 2 * j) p) (f A p) = _
                      rw [← ht, kE, ← hF0]
                    rw [← hG] at x1
                    rw [← hF0] at n1
                    by_cases hz : F0 = 0
                    · have N2 : Hid (TabC wr lo2 hi2 go2 gs2 R C (toR m f A p (j + 1))) := Lib.hid (NT.out.congr (fun i y _ _ => by rw [e, hz]; exact (bump_zero _ _ _ _ _).symm))
                      have n2 : wr.cell? ⟨gs A, p, none⟩ = some (.int .i64 0) := by rw [n1, hz]; rfl
                      clear n1 x1 x2 hG hF0 e NT kE ht x0
                      have q1 : ¬ ((t : Int) = (m : Int)) := by omega
                      go_wp2_with fail
                      go_roundg (2 - (j + 1))
                      case rel => exact ⟨j + 1, by omega, by omega, by rw [show (A : Int) - 1 + 2 * ((j + 1 : Nat) : Int) = (t : Int) + 2 by omega], NW, N2, HB⟩
                      case measure => omega
                    · have N2 : Hid (TabC (wr.setCell ⟨gs2 t, p, none⟩ (.int .i64 ((G0 : Int) + (F0 : Int)))) lo2 hi2 go2 gs2 R C (toR m f A p (j + 1))) := Lib.hid (by
                        have h := NT.out.bump (t := t) (k := p) (x := F0) tR hq
                        rw [← hG, show ((G0 + F0 : Nat) : Int) = (G0 : Int) + (F0 : Int) from by omega] at h
                        rw [e]; exact h)
                      have far := (NT.out.rows t tR).1
                      have W2 := Lib.hid (NW.out.keep (Nat.le_refl _) ((Below.refl hi wr).setCell (p := ⟨gs2 t, p, none⟩) (Nat.le_trans SP far) (.int .i64 ((G0 : Int) + (F0 : Int)))) (by simp [World.setCell]))
                      have B2 := Lib.hid (HB.out.setCell (p := ⟨gs2 t, p, none⟩) (Nat.le_trans sz far) (.int .i64 ((G0 : Int) + (F0 : Int))))
                      have z1 : (0 : Int) < (F0 : Int) := by omega
                      have wr1 : IntKind.i64.wrap ((G0 : Int) + (F0 : Int)) = (G0 : Int) + (F0 : Int) := IntWalk.i64_in _ (by omega)
                      clear hG hF0 e NT NW HB kE ht far
                      have q1 : ¬ ((t : Int) = (m : Int)) := by omega
                      go_wp2_with fail
                      go_region
                      go_wp2_with fail
                      go_roundg (2 - (j + 1))
                      case rel => exact ⟨j + 1, by omega, by omega, by rw [show (A : Int) - 1 + 2 * ((j + 1 : Nat) : Int) = (t : Int) + 2 by omega], Lib.hid (W2.out.drew), Lib.hid (N2.out.drew), Lib.hid (below_drew B2.out)⟩
                      case measure => omega
                · have hj2 : j = 2 := by omega
                  subst hj2
                  rw [show (A : Int) - 1 + 2 * ((2 : Nat) : Int) = (A : Int) + 3 by omega]
                  have t9 : ¬ ((A : Int) + 3 ≤ (A : Int) + 1) := by omega
                  have NR2 := Lib.hid (NT.out.congr (fun i q _ _ => toR_two f hA1 p i q))
                  clear NT
                  go_wp2_with fail
                  go_roundg (k + 1 - (p + 1))
                  case rel => exact ⟨p + 1, by omega, by omega, by go_num, NW, NR2, HB⟩
                  case measure => omega
            · have hpk : p = m / 2 + 1 := by omega
              have t9 : ¬ ((p : Int) ≤ (k : Int)) := by omega
              have NX2 := Lib.hid (NR.out.congr (G := nxR m f (A + 1)) (fun i q _ hq => by rw [hpk]; exact nr_full f hA1 i (by omega)))
              clear NR
              go_wp2_with fail
              go_roundg (2 * m - (A + 1))
              case rel => exact ⟨A + 1, by omega, by omega, by omega, by go_num, NW, NX2, HB⟩
              case measure => omega
        · have hA3 : A = 2 * m := by omega
          have t9 : ¬ ((A : Int) < 2 * (m : Int)) := by omega
          have NX2 : Hid (TabC _ lo2 hi2 go2 gs2 R C (dpR m (s + 1))) := Lib.hid (by rw [← FS.out, ← hA3]; exact NX.out)
          have SZ := Lib.hid sz
          clear NX NW
          go_wp2_with fail
          go_roundg (m - (s + 1))
          case rel => exact ⟨s + 1, lo2, hi2, go2, co2, gs2, by omega, by omega, rfl, by go_num, SZ, NX2, HB⟩
          case measure => omega
    · have hsm : s = m := by omega
      have t9 : ¬ ((s : Int) < (m : Int)) := by omega
      have NW : Hid (TabC wr lo hi go gs R C (dpR m m)) := Lib.hid (by have h := HT.out; rw [hsm] at h; exact h)
      have SP := NW.out.room.2.2
      have sz := HB.out.size
      obtain ⟨i0, hi0, hz0, hz1, hz2⟩ := info_parts intInfo
      obtain ⟨n, hn⟩ : ∃ n, n = k + 1 := ⟨_, rfl⟩
      have hn1 : (k : Int) + 1 = (n : Int) := by omega
      have n1 : n ≤ k + 1 := by omega
      have n2 : k + 1 ≤ n := by omega
      have c1' : i0.bytes * n ≤ 281474976710656 := by rw [hz2]; omega
      have c2' : n ≤ maxLen := by unfold maxLen; omega
      have T2 : Int.tdiv (m : Int) 2 = (k : Int) := by rw [Int.tdiv_eq_ediv_of_nonneg (by omega)]; omega
      have T3 : (m : Int) / 2 = (k : Int) := by omega
      have CZ := Lib.hid (show colP k m 0 0 = List.replicate n 0 by rw [hn]; exact colP_zero k m)
      have CF := Lib.hid (fun A => show colP k m A n = colP k m (A + 1) 0 by rw [hn]; exact colP_full k m A)
      have CL := Lib.hid (fun A p => show (colP k m A p).length = n by rw [hn]; exact colP_len k m A p)
      have CA := Lib.hid (fun A p (hp : p < n) => colP_at (k := k) (m := m) (A := A) (p := p) (by omega))
      have CS := Lib.hid (fun A p (hp : p < n) => colP_set (k := k) (m := m) (A := A) (p := p) (by omega))
      have CE := Lib.hid (show colP k m R 0 = rtL k by
        have e1 : m = 2 * k := by omega
        have e2 : R = 2 * (2 * k) + 1 := by omega
        rw [e1, e2]; exact colP_end h15)
      have DB := Lib.hid (fun A p => show dpR m m A p ≤ 1073741824 from Nat.le_trans (dp_le m m A p) (Nat.le_trans (Nat.pow_le_pow_right (by omega) (show m ≤ 30 by omega)) (by decide)))
      have SB := Lib.hid (fun A p (hA : A < R) => show colR m p A ≤ 61 * 1073741824 from Nat.le_trans (col_le m p A) (Nat.mul_le_mul (by omega) (Nat.le_trans (Nat.pow_le_pow_right (by omega) (show m ≤ 30 by omega)) (by decide))))
      clear HT hn hsm
      go_wp2_with (at_make; refine wpList_make_full _ rfl _ _ 30 rfl w.heap.size 3 i0 (.int .i64 0) 1 Try.underlying30 hi0 hz0 hz1 .i64 .i64 _ _ n rfl rfl rfl rfl c1' c2' (by omega) ?_; intro w3 hown hg2)
      have hown1 : w3.ownsRow w.heap.size 3 1 (.slice (some ⟨wr.heap.size, 0, none⟩) n n) n (List.replicate n (.int .i64 0)) := by
        have h2 := hown
        rw [show (Value.int .i64 0).cells = #[Value.int .i64 0] from rfl, Nat.mul_one, toList_madeCells_one] at h2
        simpa using h2
      have HO : Hid (OwnV w3 w.heap.size w3.heap.size (.slice (some ⟨wr.heap.size, 0, none⟩) n n) (colP k m 0 0)) := Lib.hid (by rw [CZ.out]; exact OwnV.made hown1)
      have BW := (Below.refl wr.heap.size wr).grown hg2 (Nat.le_refl _) (fun q hq => by simp at hq)
      have NW2 := Lib.hid (NW.out.keep SP BW BW.size)
      have HB2 := Lib.hid (HB.out.trans (BW.mono sz))
      obtain ⟨g, hg⟩ : ∃ g, g = wr.heap.size := ⟨_, rfl⟩
      rw [← hg] at HO SP sz ⊢
      clear hown hown1 hg2 BW NW HB c1' c2' hi0 hz0 hz1 hz2 hg CZ
      go_wp2_with fail
      go_loopg [12] R (fun gg i wr => ∃ A : Nat, A ≤ R ∧ R - A ≤ gg ∧ i = .int .i64 A ∧ Hid (TabC wr lo hi go gs R C (dpR m m)) ∧ Hid (OwnV wr w.heap.size wr.heap.size (.slice (some ⟨g, 0, none⟩) n n) (colP k m A 0)) ∧ Hid (Below w.heap.size w wr))
      case atStart => exact ⟨0, by omega, by omega, rfl, NW2, HO, HB2⟩
      case round =>
        clear NW2 HO HB2
        obtain ⟨A, hA, hgg2, rfl, NW, HO, HB⟩ := hrel
        by_cases hAlt : A < R
        · have A1 : (A : Int) ≤ 2 * (m : Int) := by omega
          have A2 : (A : Int) < (R : Int) := by omega
          go_wp2_with fail
          go_loopg [13] n (fun gg i wr => ∃ p : Nat, p ≤ n ∧ n - p ≤ gg ∧ i = .int .i64 p ∧ Hid (TabC wr lo hi go gs R C (dpR m m)) ∧ Hid (OwnV wr w.heap.size wr.heap.size (.slice (some ⟨g, 0, none⟩) n n) (colP k m A p)) ∧ Hid (Below w.heap.size w wr))
          case atStart => exact ⟨0, by omega, by omega, rfl, NW, HO, HB⟩
          case round =>
            clear NW HO HB
            obtain ⟨p, hp, hgg3, rfl, NW, HO, HB⟩ := hrel
            by_cases hplt : p < n
            · have p1 : (p : Int) < (n : Int) := by omega
              have p2 : (p : Int) < (C : Int) := by omega
              have y0 := NW.out.out A hAlt
              have y1 := NW.out.cell A p hAlt (by omega)
              have x1 := HO.out.cellGet (j := p) (by rw [CL.out]; exact hplt)
              have x2 := HO.out.frozenGet p
              rw [CA.out A p hplt] at x1
              have CS1 := Lib.hid (CS.out A p hplt)
              have db := DB.out A p
              have sb := SB.out A p hAlt
              obtain ⟨d, hd⟩ : ∃ d, d = dpR m m A p := ⟨_, rfl⟩
              obtain ⟨c, hc⟩ : ∃ c, c = colR m p A := ⟨_, rfl⟩
              rw [← hd] at y1 db CS1
              rw [← hc] at x1 sb CS1
              have W2 := Lib.hid (NW.out.keep (Nat.le_refl _) ((Below.refl hi wr).setCell (p := ⟨g, p, none⟩) SP (.int .i64 ((c : Int) + (d : Int)))) (by simp [World.setCell]))
              have O2 : Hid (OwnV (wr.setCell ⟨g, p, none⟩ (.int .i64 ((c : Int) + (d : Int)))).drew w.heap.size (wr.setCell ⟨g, p, none⟩ (.int .i64 ((c : Int) + (d : Int)))).drew.heap.size (.slice (some ⟨g, 0, none⟩) n n) (colP k m A (p + 1))) := Lib.hid (by
                have h := (HO.out.setAt p (x := (c : Int) + (d : Int)) (by unfold InI64; omega)).below (below_drew (Below.refl _ _))
                rw [CS1.out] at h
                simpa [World.setCell] using h)
              have B2 := Lib.hid (HB.out.setCell (p := ⟨g, p, none⟩) sz (.int .i64 ((c : Int) + (d : Int))))
              have wr1 : IntKind.i64.wrap ((c : Int) + (d : Int)) = (c : Int) + (d : Int) := IntWalk.i64_in _ (by omega)
              clear hd hc NW HO HB CS1
              go_wp2_with fail
              go_region
              go_wp2_with fail
              go_roundg (n - (p + 1))
              case rel => exact ⟨p + 1, by omega, by omega, by go_num, Lib.hid W2.out.drew, O2, Lib.hid (below_drew B2.out)⟩
              case measure => omega
            · have hpn : p = n := by omega
              have t8 : ¬ ((p : Int) < (n : Int)) := by omega
              have O2 := HO
              rw [hpn, CF.out A] at O2
              clear HO
              go_wp2_with fail
              go_roundg (R - (A + 1))
              case rel => exact ⟨A + 1, by omega, by omega, by go_num, NW, O2, HB⟩
              case measure => omega
        · have hAR : A = R := by omega
          have t8 : ¬ ((A : Int) ≤ 2 * (m : Int)) := by omega
          have FIN : Hid (NewIntsB (rtL k) true w (.returned (.tuple #[.slice (some ⟨g, 0, none⟩) n n, .bool true])) wr) := Lib.hid (by
            have h := HO.out
            rw [hAR, CE.out] at h
            exact ⟨_, rfl, h, HB.out⟩)
          clear HO NW HB
          go_wp2_with fail
          go_ret2
          exact FIN.out
set_option maxRecDepth 100000 in
set_option maxHeartbeats 2000000 in
theorem retM (m : Int) (w : World) : Calls Try.prog 43 #[.int .i64 m] w (NewIntsB (ifE m rtL) (okE m) w) := by
  cases hk : okE m
  · have E := Lib.hid (fun w => evenS m w)
    have e1 : ifE m rtL = [] := by unfold ifE; rw [hk]; rfl
    rw [e1]
    rw [hk] at E
    clear hk e1
    go_enter Try.func43, Try.ntmps43
    go_wp2_with fail
    refine (E.out _).mono ?_
    rintro e w1 ⟨rfl, rfl⟩
    go_wp2_with fail
    go_ret2
    exact newInts_empty (Below.refl _ _)
  · have e1 : ifE m rtL = rtL (m.toNat / 2) := by unfold ifE; rw [hk]; rfl
    rw [e1]
    obtain ⟨K, k, rfl, hK, h15⟩ := okE_mk hk
    rw [show ((K : Int)).toNat / 2 = k by omega, hK]
    exact retS k w h15
end Go.Proofs.Ytmidlabgmmejbab
