/- Boxes: whether one is valid, and its index, in the program. -/
import Derived.Test.YtnpiciabpgkiiaaBoxH
import Derived.Test.YtnpiciabpgkiiaaL7B
import Derived.Test.YtnpiciabpgkiiaaL7I
import Derived.Test.YtnpiciabpgkiiaaFracD
import Derived.Deep.QuietTactic
import Derived.BigQuiet
namespace Go.Proofs.Ytnpiciabpgkiiaa
open Go.RowKit
set_option linter.unusedVariables false
def boxB (zs : List Int) (f : Int) : Bool := lawB zs && decide (0 ≤ f ∧ f ≤ 20)
def boxNd (zs : List Int) (f : Int) : Int := f * smT zs zs.length
def boxIdx (zs : List Int) (f : Int) : Int × Int := bxR zs (boxNd zs f) (zs.length - 1)
def boxIdxV (zs : List Int) (f : Int) : Value := if boxB zs f = true then .tuple #[.agg #[.int .i64 (boxIdx zs f).1, .int .i64 (boxIdx zs f).2], .bool true] else .tuple #[.agg #[.int .i64 0, .int .i64 0], .bool false]
theorem boxIdxV_form (zs : List Int) (f : Int) : ∃ p q ok, boxIdxV zs f = .tuple #[.agg #[.int .i64 p, .int .i64 q], .bool ok] := by
  unfold boxIdxV; split <;> exact ⟨_, _, _, rfl⟩
theorem boxB_law {zs : List Int} {f : Int} (h : boxB zs f = true) : Law zs ∧ 0 ≤ f ∧ f ≤ 20 := by
  unfold boxB at h
  rw [Bool.and_eq_true, decide_eq_true_iff] at h
  exact ⟨lawB_iff.1 h.1, h.2⟩
theorem boxNd_bd {zs : List Int} {f : Int} (p : Law zs) (h : 0 ≤ f ∧ f ≤ 20) : 0 ≤ boxNd zs f ∧ boxNd zs f ≤ 500 := by
  have s := p.sum_bd (Nat.le_refl _)
  unfold boxNd
  exact ⟨Int.mul_nonneg h.1 s.1, Int.le_trans (Int.mul_le_mul h.2 s.2 s.1 (by omega)) (by omega)⟩
set_option maxHeartbeats 2000000 in
theorem isBoxI (zs : List Int) (f : Int) (v : Value) (w : World) (h : BoxV w w.heap.size v zs f) :
    Calls Try.prog 36 #[v] w (Gives (.bool (boxB zs f)) w) := by
  obtain ⟨p1, c1, rfl⟩ := h.shape
  have hi := h.ints
  have IL := Lib.hid (fun w' (hb : Below w.heap.size w w') => isLawI zs _ w' ((hi.below hb).more hb.size))
  have FF := Lib.hid (fun w => fromI f 0 20 w)
  have D : Hid (boxB zs f = (lawB zs && decide (0 ≤ f ∧ f ≤ 20))) := Lib.hid rfl
  have B1 := (Below.refl w.heap.size w).alloc (Nat.le_refl _) (.cells #[.slice p1 zs.length c1, .int .i64 f] 48)
  have T1 := Lib.hid (CBox.new w (.slice p1 zs.length c1) (.int .i64 f))
  obtain ⟨wa, hwa⟩ : ∃ wa, wa = w.alloc (.cells #[.slice p1 zs.length c1, .int .i64 f] 48) := ⟨_, rfl⟩
  rw [← hwa] at B1 T1
  obtain ⟨x0, x1⟩ := T1.out.cells
  have HBA := Lib.hid B1
  clear B1 h hi
  generalize decide (0 ≤ f ∧ f ≤ 20) = fb at *
  cases hl : lawB zs
  · rw [hl] at IL D
    clear hl
    go_enter Try.func36, Try.ntmps36
    go_wp2_with fail
    rw [← hwa]
    clear hwa
    refine (IL.out _ HBA.out).mono ?_
    rintro e w1 ⟨rfl, b1⟩
    have HB1 := Lib.hid (bl_then HBA.out b1)
    clear b1
    go_wp2_with fail
    go_ret
    exact ⟨by rw [D.out]; rfl, HB1.out⟩
  · rw [hl] at IL D
    clear hl
    go_enter Try.func36, Try.ntmps36
    go_wp2_with fail
    rw [← hwa]
    clear hwa
    refine (IL.out _ HBA.out).mono ?_
    rintro e w1 ⟨rfl, b1⟩
    have HB1 := Lib.hid (bl_then HBA.out b1)
    obtain ⟨y0, y1⟩ := (T1.out.below b1 T1.out.lt).cells
    clear b1 x0 x1
    go_wp2_with fail
    refine (FF.out _).mono ?_
    rintro e w1 ⟨rfl, rfl⟩
    go_wp2_with fail
    go_ret
    exact ⟨by rw [D.out]; rfl, HB1.out⟩
set_option maxRecDepth 100000 in
set_option maxHeartbeats 2000000 in
/-- The greater one of two fractions. -/
theorem greaterI (n d m e : Int) (w : World) (h1 : isFr n d = true) (h2 : isFr m e = true) :
    Calls Try.prog 67 #[.agg #[.int .i64 n, .int .i64 d], .agg #[.int .i64 m, .int .i64 e]] w (Gives (if n * e < m * d then .agg #[.int .i64 m, .int .i64 e] else .agg #[.int .i64 n, .int .i64 d]) w) := by
  have CP := Lib.hid (fun w => cmpI n d m e w)
  rw [show cmpV n d m e = .tuple #[.int .i64 (ordI (n * e) (m * d)), .bool true] from if_pos ⟨h1, h2⟩] at CP
  obtain ⟨wa, hwa⟩ : ∃ wa, wa = ((w.alloc (.cells #[.int .i64 n, .int .i64 d] 26)).alloc (.cells #[.int .i64 m, .int .i64 e] 26)).alloc (.cells #[.int .i64 0, .int .i64 0] 26) := ⟨_, rfl⟩
  have B3 : Below w.heap.size w wa := by rw [hwa]; exact (((Below.refl w.heap.size w).alloc (Nat.le_refl _) _).alloc (by simp) _).alloc (by simp; omega) _
  obtain ⟨k0, k1, k2⟩ := heap_three w (.cells #[.int .i64 n, .int .i64 d] 26) (.cells #[.int .i64 m, .int .i64 e] 26) (.cells #[.int .i64 0, .int .i64 0] 26)
  rw [← hwa] at k0 k1 k2
  have T0 := Lib.hid (show QBox wa w.heap.size n d from k0)
  have T1 := Lib.hid (show QBox wa (w.heap.size + 1) m e from k1)
  have T2 := Lib.hid (show QBox wa (w.heap.size + 1 + 1) 0 0 from k2)
  clear k0 k1 k2
  obtain ⟨⟨x0, x1⟩, _, _⟩ := T0.out.cells
  obtain ⟨⟨y0, y1⟩, _, _⟩ := T1.out.cells
  by_cases hc : n * e < m * d
  · rw [if_pos hc]
    rw [show ordI (n * e) (m * d) = -1 from if_pos hc] at CP
    clear hc h1 h2
    go_enter Try.func67, Try.ntmps67
    go_wp2_with fail
    rw [← hwa]
    clear hwa
    refine (CP.out _).mono ?_
    rintro e w1 ⟨rfl, b1⟩
    obtain ⟨⟨a0, a1⟩, _, _⟩ := (T1.out.below b1 T1.out.lt).cells
    obtain ⟨⟨c0, c1⟩, f0, f1⟩ := (T2.out.below b1 T2.out.lt).cells
    have HB := Lib.hid (bl_then B3 b1)
    clear b1 x0 x1 y0 y1
    go_wp2_with fail
    refine bodyPost_ret (v := .agg #[.int .i64 m, .int .i64 e]) (by simp [results, Try.results67, go_sem, c0, c1]) rfl ⟨rfl, ?_⟩
    exact bl_st HB.out (by omega) _ _
  · rw [if_neg hc]
    have ho : ¬ ordI (n * e) (m * d) < 0 := by
      unfold ordI
      rw [if_neg hc]
      split <;> omega
    generalize ordI (n * e) (m * d) = o at *
    clear hc h1 h2
    go_enter Try.func67, Try.ntmps67
    go_wp2_with fail
    rw [← hwa]
    clear hwa
    refine (CP.out _).mono ?_
    rintro e w1 ⟨rfl, b1⟩
    obtain ⟨⟨a0, a1⟩, _, _⟩ := (T0.out.below b1 T0.out.lt).cells
    obtain ⟨⟨c0, c1⟩, f0, f1⟩ := (T2.out.below b1 T2.out.lt).cells
    have HB := Lib.hid (bl_then B3 b1)
    clear b1 x0 x1 y0 y1
    go_wp2_with fail
    refine bodyPost_ret (v := .agg #[.int .i64 n, .int .i64 d]) (by simp [results, Try.results67, go_sem, c0, c1]) rfl ⟨rfl, ?_⟩
    exact bl_st HB.out (by omega) _ _
set_option maxRecDepth 100000 in
set_option maxHeartbeats 4000000 in
theorem boxIndexI (zs : List Int) (f : Int) (v : Value) (w : World) (h : BoxV w w.heap.size v zs f) :
    Calls Try.prog 39 #[v] w (Gives (boxIdxV zs f) w) := by
  obtain ⟨p1, c1, rfl⟩ := h.shape
  have hi := h.ints
  have IB := Lib.hid (fun w' (hb : Below w.heap.size w w') => isBoxI zs f _ w' (h.boxed hb))
  have B2 := ((Below.refl w.heap.size w).alloc (Nat.le_refl _) (.cells #[.slice p1 zs.length c1, .int .i64 f] 48)).alloc (by simp) (.cells #[.int .i64 0, .int .i64 0] 26)
  obtain ⟨k0, k1⟩ := alloc_two w (.cells #[.slice p1 zs.length c1, .int .i64 f] 48) (.cells #[.int .i64 0, .int .i64 0] 26)
  obtain ⟨wa, hwa⟩ : ∃ wa, wa = (w.alloc (.cells #[.slice p1 zs.length c1, .int .i64 f] 48)).alloc (.cells #[.int .i64 0, .int .i64 0] 26) := ⟨_, rfl⟩
  rw [← hwa] at B2 k0 k1
  have T1 := Lib.hid (show CBox wa w.heap.size (.slice p1 zs.length c1) (.int .i64 f) from k0)
  have T2 := Lib.hid (show QBox wa (w.heap.size + 1) 0 0 from k1)
  have HBA := Lib.hid B2
  clear B2 k0 k1 h
  obtain ⟨x0, x1⟩ := T1.out.cells
  cases hb : boxB zs f
  · rw [show boxIdxV zs f = .tuple #[.agg #[.int .i64 0, .int .i64 0], .bool false] from if_neg (by rw [hb]; decide)]
    rw [hb] at IB
    clear hb hi
    go_enter Try.func39, Try.ntmps39
    go_wp2_with fail
    rw [← hwa]
    clear hwa
    refine (IB.out _ HBA.out).mono ?_
    rintro e w1 ⟨rfl, b1⟩
    have HB1 := Lib.hid (bl_then HBA.out b1)
    obtain ⟨⟨c0, c1⟩, f0, f1⟩ := (T2.out.below b1 T2.out.lt).cells
    clear b1 x0 x1
    go_wp2_with fail
    refine bodyPost_ret (v := .tuple #[.agg #[.int .i64 0, .int .i64 0], .bool false]) (by simp [results, Try.results39, go_sem, c0, c1]) rfl ⟨rfl, ?_⟩
    exact bl_st HB1.out (by omega) _ _
  · obtain ⟨L, hf0, hf1⟩ := boxB_law hb
    have ndb := boxNd_bd L ⟨hf0, hf1⟩
    have FR := Lib.hid (fun j hj => bxI_fr L ndb j hj)
    have ZFR := Lib.hid (fun k hk hN => bxZ_fr (k := k) L ndb hk hN)
    have NB := Lib.hid (fun k (hk : k ≤ zs.length) => bxN_at L hk)
    have SB := Lib.hid (fun k (hk : k ≤ zs.length) => bxS_at L hk)
    have BD := Lib.hid L.bd
    have ST := Lib.hid (fun k (hk : k < zs.length) => bxI_step (zs := zs) (nd := boxNd zs f) hk)
    have NT := Lib.hid (fun k => bxN_step zs k)
    have SS := Lib.hid (fun k => bxS_step zs k)
    have FIN := Lib.hid (bx_all L ndb)
    have N5 := L.n5
    have N1 := L.n1
    have sT := L.sum_bd (Nat.le_refl _)
    have TQ := Lib.hid (fun w' (hb : Below w.heap.size w w') => totIQ zs _ w.heap.size w' (by omega) (fun i hi => by have := BD.out i hi; omega) (hi.below hb))
    rw [show boxIdxV zs f = .tuple #[.agg #[.int .i64 (boxIdx zs f).1, .int .i64 (boxIdx zs f).2], .bool true] from if_pos hb]
    rw [show boxIdx zs f = bxI zs (boxNd zs f) zs.length from FIN.out.symm]
    have RDZ := Lib.hid (fun k (hk : k ≤ zs.length) (hN : 0 < bxN zs k) w => show Calls Try.prog 61 #[.int .i64 (bxS zs k - boxNd zs f), .int .i64 (bxN zs k)] w (Gives (.tuple #[.agg #[.int .i64 (bxZ zs (boxNd zs f) k).1, .int .i64 (bxZ zs (boxNd zs f) k).2], .bool true]) w) from by
      have a := NB.out k hk
      have b := SB.out k hk
      have := reduceI_any (bxS zs k - boxNd zs f) (bxN zs k) w (by omega) (by omega)
      have e : keptV (cutN (bxS zs k - boxNd zs f) (bxN zs k)) (cutD (bxS zs k - boxNd zs f) (bxN zs k)) = .tuple #[.agg #[.int .i64 (bxZ zs (boxNd zs f) k).1, .int .i64 (bxZ zs (boxNd zs f) k).2], .bool true] := by
        have := (isFr_iff _ _).1 (ZFR.out k hk hN)
        unfold keptV
        rw [if_pos (by unfold inB; rw [decide_eq_true_iff]; exact this.1)]
        rfl
      rw [← e]; exact this)
    have NG : IntKind.i64.wrap (-f * smT zs zs.length) = - boxNd zs f := by
      have EN : -f * smT zs zs.length = - boxNd zs f := by rw [Int.neg_mul]; rfl
      rw [EN]; exact IntWalk.i64_in _ (by omega)
    obtain ⟨nd, hnd⟩ : ∃ nd, nd = boxNd zs f := ⟨_, rfl⟩
    rw [← hnd] at ndb FR ZFR ST RDZ NG ⊢
    rw [hb] at IB
    obtain ⟨q0, d0, e0, _, _, _, iq⟩ := hi
    injection e0 with e1 e2 e3
    subst e1
    have E1 := Lib.hid iq
    clear iq e2 e3 hb L hnd FIN
    generalize hTT : smT zs zs.length = T at *
    clear hTT
    go_enter Try.func39, Try.ntmps39
    go_wp2_with fail
    rw [← hwa]
    clear hwa
    refine (IB.out _ HBA.out).mono ?_
    rintro e w1 ⟨rfl, b1⟩
    have HB1 := Lib.hid (bl_then HBA.out b1)
    have HT1 := Lib.hid (T1.out.below b1 T1.out.lt)
    have HT2 := Lib.hid (T2.out.below b1 T2.out.lt)
    clear b1 x0 x1 HBA T1 T2
    have QN := Lib.hid (QBox.new w1 (-1000000000) 1)
    have A1 := Lib.hid ((Below.refl w1.heap.size w1).alloc (Nat.le_refl _) (.cells #[.int .i64 (-1000000000), .int .i64 1] 26))
    obtain ⟨x0, x1⟩ := HT1.out.cells
    have lt1 := HT1.out.lt
    obtain ⟨w2, hw2⟩ : ∃ w2, w2 = w1.alloc (.cells #[.int .i64 (-1000000000), .int .i64 1] 26) := ⟨_, rfl⟩
    rw [← hw2] at QN A1
    have HT3 := Lib.hid (HT1.out.below A1.out lt1)
    obtain ⟨y0, y1⟩ := HT3.out.cells
    have TQ2 := Lib.hid (fun n' => TQ.out (w2.drewN n') (below_drewN (bl_then HB1.out A1.out) n'))
    have GR := Lib.hid (fun (n d m e : Int) (h1 : isFr n d = true) (h2 : isFr m e = true) w => greaterI n d m e w h1 h2)
    have TOP := Lib.hid (And.intro (bxN_top zs) (bxS_top zs))
    go_wp2_with fail
    rw [← hw2]
    clear hw2
    go_quiet ((go_at_call 50; exact quiet_left (TQ2.out _)))
    go_wp2_with fail
    go_loopg [5, 6, 7] zs.length (fun gg s t i wr => ∃ k : Nat, k ≤ zs.length ∧ k ≤ gg ∧ i = .int .i64 ((k : Int) - 1) ∧ s = .int .i64 (bxS zs k - nd) ∧ t = .int .i64 (bxN zs k) ∧ Hid (QBox wr w1.heap.size (bxI zs nd (zs.length - k)).1 (bxI zs nd (zs.length - k)).2) ∧ Hid (Below w1.heap.size w1 wr))
    case atStart =>
      refine ⟨zs.length, Nat.le_refl _, Nat.le_refl _, rfl, by rw [TOP.out.2]; simp, by rw [TOP.out.1], ?_, Lib.hid (below_drewN A1.out _)⟩
      rw [Nat.sub_self]
      exact QN
    case round =>
      clear QN A1 y0 y1 HT3 x0 x1 NG TQ TQ2 TOP
      obtain ⟨k, hk, hgg, rfl, rfl, rfl, HQ, HB⟩ := hrel
      have HTR := Lib.hid (HT1.out.below HB.out lt1)
      obtain ⟨y0, y1⟩ := HTR.out.cells
      rcases Nat.eq_zero_or_pos k with h0 | hpos
      · subst h0
        rw [Nat.sub_zero] at HQ
        obtain ⟨⟨z0, z1⟩, _, _⟩ := HQ.out.cells
        have HR := Lib.hid (HT2.out.below HB.out HT2.out.lt)
        obtain ⟨⟨c0, c1⟩, f0, f1⟩ := HR.out.cells
        have HF := Lib.hid (bl_then HB1.out HB.out)
        generalize (bxI zs nd zs.length).1 = P at *
        generalize (bxI zs nd zs.length).2 = Q at *
        have e0 : (((0 : Nat) : Int) - 1) = -1 := by omega
        rw [e0]
        go_wp2_with fail
        refine bodyPost_ret (v := .tuple #[.agg #[.int .i64 P, .int .i64 Q], .bool true]) (by simp [results, Try.results39, go_sem, c0, c1]) rfl ⟨rfl, ?_⟩
        exact bl_st HF.out (by omega) _ _
      · obtain ⟨j, rfl⟩ : ∃ j, k = j + 1 := ⟨k - 1, by omega⟩
        have hj : j < zs.length := by omega
        obtain ⟨b, off, rfl, hb, hc⟩ := E1.out.get hj
        have hcw : wr.cell? ⟨b, off + j, none⟩ = some (.int .i64 (zs.getD j 0)) := by rw [(bl_then HB1.out HB.out).cell (p := ⟨b, off + j, none⟩) hb]; exact hc
        rw [show (((j + 1 : Nat) : Int) - 1) = (j : Int) by omega]
        have i0 : (0 : Int) ≤ (j : Int) := by omega
        have i1 : (j : Int) < (zs.length : Int) := by omega
        have zb := BD.out j hj
        have sb := SB.out (j + 1) hk
        have nb := NB.out (j + 1) hk
        have nbj := NB.out j (by omega)
        have p0 : 0 ≤ (j : Int) * zs.getD j 0 := Int.mul_nonneg i0 zb.1
        have p1 : (j : Int) * zs.getD j 0 ≤ 5 * 5 := Int.mul_le_mul (by omega) zb.2 zb.1 (by omega)
        have WR : IntKind.i64.wrap ((j : Int) * zs.getD j 0) = (j : Int) * zs.getD j 0 := IntWalk.i64_in _ (by omega)
        have FP := Lib.hid (FR.out (zs.length - (j + 1)) (by omega))
        have ZP := Lib.hid (ZFR.out j (by omega))
        have RZ := Lib.hid (RDZ.out j (by omega))
        have es := SS.out j
        have en := NT.out j
        have STJ := Lib.hid (ST.out j hj)
        obtain ⟨P, hP⟩ : ∃ P, P = (bxI zs nd (zs.length - (j + 1))).1 := ⟨_, rfl⟩
        obtain ⟨Q, hQ⟩ : ∃ Q, Q = (bxI zs nd (zs.length - (j + 1))).2 := ⟨_, rfl⟩
        obtain ⟨M, hM⟩ : ∃ M, M = (bxZ zs nd j).1 := ⟨_, rfl⟩
        obtain ⟨E, hE⟩ : ∃ E, E = (bxZ zs nd j).2 := ⟨_, rfl⟩
        have EPQ := Lib.hid (And.intro hP hQ)
        have EME := Lib.hid (And.intro hM hE)
        rw [← hP, ← hQ, ← hM, ← hE] at STJ
        rw [← hP, ← hQ] at HQ FP
        rw [← hM, ← hE] at ZP RZ
        obtain ⟨z, hz⟩ : ∃ z, z = zs.getD j 0 := ⟨_, rfl⟩
        rw [← hz] at hcw zb p0 p1 WR es en
        obtain ⟨sg, hsg⟩ : ∃ sg, sg = bxS zs (j + 1) - nd := ⟨_, rfl⟩
        obtain ⟨tt, htt⟩ : ∃ tt, tt = bxN zs (j + 1) := ⟨_, rfl⟩
        have es2 : bxS zs j - nd = sg + (j : Int) * z := by omega
        have en2 : bxN zs j = tt + z := by omega
        have ES := Lib.hid es2
        have EN := Lib.hid en2
        rw [es2, en2] at RZ
        rw [en2] at ZP STJ nbj
        have sgb : -500 ≤ sg ∧ sg ≤ 125 := by omega
        rw [← hsg, ← htt]
        rw [← htt] at nb
        obtain ⟨⟨z0, z1⟩, g0, g1⟩ := HQ.out.cells
        have ltq := HQ.out.lt
        clear hP hQ hM hE hz hsg htt es en es2 en2 sb hc
        by_cases hN : 0 < tt + z
        · have RZ1 := Lib.hid (RZ.out hN)
          have GR1 := Lib.hid (GR.out P Q M E FP.out (ZP.out hN))
          by_cases hcmp : P * E < M * Q
          · have NEW := Lib.hid (show bxI zs nd (zs.length - j) = bxZ zs nd j by rw [STJ.out, if_pos hN, if_pos hcmp])
            simp only [if_pos hcmp] at GR1
            clear RZ STJ ZP FP hcmp
            go_wp2_with fail
            refine (RZ1.out _).mono ?_
            rintro e w3 ⟨rfl, b3⟩
            have HQ3 := Lib.hid (HQ.out.below b3 ltq)
            have HB3 := Lib.hid (bl_then HB.out b3)
            have W3 := (Below.refl w3.heap.size w3).alloc (Nat.le_refl _) (.cells #[.int .i64 M, .int .i64 E] 26)
            have HQ4 := Lib.hid (HQ3.out.below W3 HQ3.out.lt)
            have HB4 := Lib.hid (HB3.out.alloc HB3.out.size (.cells #[.int .i64 M, .int .i64 E] 26))
            obtain ⟨w4, hw4⟩ : ∃ w4, w4 = w3.alloc (.cells #[.int .i64 M, .int .i64 E] 26) := ⟨_, rfl⟩
            rw [← hw4] at HQ4 HB4
            obtain ⟨⟨a0, a1⟩, _, _⟩ := HQ3.out.cells
            have lt3 := HQ3.out.lt
            clear b3 HQ HB W3 HB3 z0 z1 g0 g1 y0 y1 hcw
            go_wp2_with fail
            rw [← hw4]
            clear hw4
            refine (GR1.out _).mono ?_
            rintro e w5 ⟨rfl, b5⟩
            have HQ5 := Lib.hid (HQ4.out.below b5 HQ4.out.lt)
            have HB5 := Lib.hid (bl_then HB4.out b5)
            obtain ⟨⟨d0, d1⟩, f0, f1⟩ := HQ5.out.cells
            clear b5 a0 a1 HQ3 HQ4 HB4
            go_wp2_with fail
            go_roundg j
            case rel => exact ⟨j, by omega, by omega, by go_num, by rw [ES.out], by rw [EN.out], by rw [NEW.out, ← EME.out.1, ← EME.out.2]; exact Lib.hid (HQ5.out.st _ _), Lib.hid (bl_st HB5.out (Nat.le_refl _) _ _)⟩
            case measure => omega
          · have NEW := Lib.hid (show bxI zs nd (zs.length - j) = bxI zs nd (zs.length - (j + 1)) by rw [STJ.out, if_pos hN, if_neg hcmp])
            simp only [if_neg hcmp] at GR1
            clear RZ STJ ZP FP hcmp
            go_wp2_with fail
            refine (RZ1.out _).mono ?_
            rintro e w3 ⟨rfl, b3⟩
            have HQ3 := Lib.hid (HQ.out.below b3 ltq)
            have HB3 := Lib.hid (bl_then HB.out b3)
            have W3 := (Below.refl w3.heap.size w3).alloc (Nat.le_refl _) (.cells #[.int .i64 M, .int .i64 E] 26)
            have HQ4 := Lib.hid (HQ3.out.below W3 HQ3.out.lt)
            have HB4 := Lib.hid (HB3.out.alloc HB3.out.size (.cells #[.int .i64 M, .int .i64 E] 26))
            obtain ⟨w4, hw4⟩ : ∃ w4, w4 = w3.alloc (.cells #[.int .i64 M, .int .i64 E] 26) := ⟨_, rfl⟩
            rw [← hw4] at HQ4 HB4
            obtain ⟨⟨a0, a1⟩, _, _⟩ := HQ3.out.cells
            have lt3 := HQ3.out.lt
            clear b3 HQ HB W3 HB3 z0 z1 g0 g1 y0 y1 hcw
            go_wp2_with fail
            rw [← hw4]
            clear hw4
            refine (GR1.out _).mono ?_
            rintro e w5 ⟨rfl, b5⟩
            have HQ5 := Lib.hid (HQ4.out.below b5 HQ4.out.lt)
            have HB5 := Lib.hid (bl_then HB4.out b5)
            obtain ⟨⟨d0, d1⟩, f0, f1⟩ := HQ5.out.cells
            clear b5 a0 a1 HQ3 HQ4 HB4
            go_wp2_with fail
            go_roundg j
            case rel => exact ⟨j, by omega, by omega, by go_num, by rw [ES.out], by rw [EN.out], by rw [NEW.out, ← EPQ.out.1, ← EPQ.out.2]; exact Lib.hid (HQ5.out.st _ _), Lib.hid (bl_st HB5.out (Nat.le_refl _) _ _)⟩
            case measure => omega
        · have NEW := Lib.hid (show bxI zs nd (zs.length - j) = bxI zs nd (zs.length - (j + 1)) by rw [STJ.out, if_neg hN])
          clear RZ STJ ZP FP
          go_wp2_with fail
          go_roundg j
          case rel => exact ⟨j, by omega, by omega, by go_num, by rw [ES.out], by rw [EN.out], by rw [NEW.out, ← EPQ.out.1, ← EPQ.out.2]; exact HQ, HB⟩
          case measure => omega
end Go.Proofs.Ytnpiciabpgkiiaa
