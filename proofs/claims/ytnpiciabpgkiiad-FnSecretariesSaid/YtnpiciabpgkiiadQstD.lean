/- The searches over people, in the program: the best of a state before the last. -/
import Derived.Test.YtnpiciabpgkiiadQstB
import Derived.Test.YtnpiciabpgkiiadQstC
import Derived.Laws.EntriesVeiled
namespace Go.Proofs.Ytnpiciabpgkiiad
open Go.RowKit Go.Maps
set_option linter.unusedVariables false
theorem WayC.below {w w1 : World} {lo P c r : Nat} (h : WayC w lo P c r) (hb : Below w.heap.size w w1) : WayC w1 lo P c r := by
  obtain ⟨q, cw, B, h1, h2, h3, h4, h5, h6, h7, h8, h9, h10⟩ := h
  have := hb.size
  exact ⟨q, cw, B, h1, h2, h3, by omega, by omega, h6.below hb h6.lt, (hb.cell (p := ⟨P, 0, none⟩) h4).trans h7, (hb.cell (p := ⟨P, 1, none⟩) h4).trans h8, (hb.cell (p := ⟨P, 2, none⟩) h4).trans h9, fun i hi => (hb.cell (p := ⟨q, i, none⟩) h5).trans (h10 i hi)⟩
theorem QTab.v_in {T : QTab} {k n c r : Nat} (h : c < n) : T.v k n c r = grt (qEnd k n c r) (T.m n c) := by unfold QTab.v; rw [if_neg (by omega)]
theorem greatV {T : QTab} {k n c r : Nat} (hq : QOk T k n) (hc : c < n) (hr : r ≤ c) (w : World) : Calls Try.prog 171 #[.agg #[.int .i64 (qEnd k n c r).1, .int .i64 (qEnd k n c r).2], .agg #[.int .i64 (T.m n c).1, .int .i64 (T.m n c).2]] w (Gives (.agg #[.int .i64 (T.v k n c r).1, .int .i64 (T.v k n c r).2]) w) := by
  have G := greaterQ _ _ _ _ w (hq.fe c (by omega) r (by omega)) (hq.fm c hc)
  rw [QTab.v_in hc]
  unfold grt
  split at G
  · next h => rw [if_pos h]; exact G
  · next h => rw [if_neg h]; exact G
set_option maxRecDepth 100000 in
set_option maxHeartbeats 8000000 in
theorem bestS (T : QTab) (k n c r : Nat) (TQ : TypeId) (FE : FuncId) (Q : Quest T k n TQ FE) (hc : c < n) (hr : r ≤ c) (b m K : Nat) (w : World) (hm : MapQ 128 w b m (GQ T k n)) (hroom : m + (c + 1) * K + 1 ≤ maxLen)
    (BC : ∀ (r' m : Nat) (w : World), r' ≤ c + 1 → MapQ 128 w b m (GQ T k n) → m + K ≤ maxLen →
      Calls Try.prog 138 #[srcV TQ n b, .agg #[.int .i64 ((c : Int) + 1), .int .i64 r']] w (QPost (.agg #[.int .i64 (T.v k n (c + 1) r').1, .int .i64 (T.v k n (c + 1) r').2]) w b (m + K) (GQ T k n))) :
    Calls Try.prog 138 #[srcV TQ n b, .agg #[.int .i64 c, .int .i64 r]] w (QPost (.agg #[.int .i64 (T.v k n c r).1, .int .i64 (T.v k n c r).2]) w b (m + (c + 1) * K + 1) (GQ T k n)) := by
  have h10 := Q.n10
  have h10' := Q.n10
  have BCH := Lib.hid BC
  clear BC
  obtain ⟨l, hl⟩ := comerKey_mk (a := c) (b := r) (by unfold InI64; omega) (by unfold InI64; omega)
  have hM1 := Q.m1
  have hM2 := Q.m2
  have eg := Q.eg
  have hbl := hm.lt
  obtain ⟨wz, hwz⟩ : ∃ wz, wz = ((w.alloc (.cells #[.iface TQ (.agg #[.int .i64 n]), .map (some b)] 125)).alloc (.cells #[.int .i64 c, .int .i64 r] 128)).alloc (.cells #[.int .i64 0, .int .i64 0] 39) := ⟨_, rfl⟩
  obtain ⟨k0, k1, k2⟩ := heap_three w (.cells #[.iface TQ (.agg #[.int .i64 n]), .map (some b)] 125) (.cells #[.int .i64 c, .int .i64 r] 128) (.cells #[.int .i64 0, .int .i64 0] 39)
  have S3 : wz.heap.size = w.heap.size + 1 + 1 + 1 := by rw [hwz]; simp
  have BZ : Below w.heap.size w wz := by rw [hwz]; exact (((Below.refl w.heap.size w).alloc (Nat.le_refl _) _).alloc (by simp) _).alloc (by simp; omega) _
  rw [← hwz] at k0 k1 k2
  have M0 := MF.start BZ hm
  rw [S3] at M0
  have M0h := Lib.hid M0
  have s0 := (cell_of_heap (o := 0) k0 rfl).1
  have s1 := (cell_of_heap (o := 1) k0 rfl).1
  have T1 := Lib.hid (show CB wz (w.heap.size + 1) c r from k1)
  have T2 := Lib.hid (show QBox wz (w.heap.size + 1 + 1) 0 0 from k2)
  clear k0 k1 k2
  obtain ⟨y0, y1⟩ := T1.out.cells
  have CE : Hid (∀ w' m', MF w wz b (w.heap.size + 1 + 1 + 1) m' (GQ T k n) w' → (w'.cell? ⟨w.heap.size, 0, none⟩ = some (.iface TQ (.agg #[.int .i64 n])) ∧ w'.cell? ⟨w.heap.size, 1, none⟩ = some (.map (some b))) ∧ (w'.cell? ⟨w.heap.size + 1, 0, none⟩ = some (.int .i64 c) ∧ w'.cell? ⟨w.heap.size + 1, 1, none⟩ = some (.int .i64 r))) := Lib.hid (fun w' m' h => ⟨⟨(h.cell (by omega) (by omega)).trans s0, (h.cell (by omega) (by omega)).trans s1⟩, (h.cell (by omega) (by omega)).trans y0, (h.cell (by omega) (by omega)).trans y1⟩)
  have CR : Hid (∀ w' m', MF w wz b (w.heap.size + 1 + 1 + 1) m' (GQ T k n) w' → QBox w' (w.heap.size + 1 + 1) 0 0) := Lib.hid (fun w' m' h => (h.keep _ (by omega) (by omega)).trans T2.out)
  unfold srcV
  go_enter Try.func138, Try.ntmps138
  go_upto_region 1 with fail
  rw [← hwz]
  clear hwz BZ M0
  go_upto_region 2 with (refine mapQ_get comerKey Try.underlying123 _ rfl _ _ rfl b m (GQ T k n) rfl M0h.out.mp _ l rfl hl ?_; intro p q ok hok; cases ok)
  rotate_left
  · rw [GQ_mk]
    have M1 := Lib.hid (M0h.out.alloc (.cells #[.int .i64 (T.v k n c r).1, .int .i64 (T.v k n c r).2] 39))
    obtain ⟨⟨c0, c1⟩, f0, f1⟩ := (CR.out _ _ M1.out).cells
    have NB := QBox.new wz (T.v k n c r).1 (T.v k n c r).2
    rw [S3] at NB
    obtain ⟨⟨g0, g1⟩, _, _⟩ := NB.cells
    clear NB
    obtain ⟨w1, hw1⟩ : ∃ w1, w1 = wz.alloc (.cells #[.int .i64 (T.v k n c r).1, .int .i64 (T.v k n c r).2] 39) := ⟨_, rfl⟩
    rw [← hw1] at M1 c0 c1 f0 f1 g0 g1 ⊢
    clear hw1
    go_wp2_with fail
    refine bodyPost_ret (v := .agg #[.int .i64 (T.v k n c r).1, .int .i64 (T.v k n c r).2]) (by simp [results, Try.results138, go_sem, c0, c1]) rfl ⟨rfl, m, by omega, ?_, ?_⟩
    · exact (M1.out.mp.set (by omega)).set (by omega)
    · exact (M1.out.al.setNew (by omega)).setNew (by omega)
  · obtain ⟨w1, hw1⟩ : ∃ w1, w1 = wz.alloc (.cells #[.int .i64 p, .int .i64 q] 39) := ⟨_, rfl⟩
    have M1 := Lib.hid (show MF w wz b (w.heap.size + 1 + 1 + 1) m (GQ T k n) w1 by rw [hw1]; exact M0h.out.alloc _)
    rw [← hw1]
    clear hw1 hok
    obtain ⟨⟨d0, d1⟩, e0, e1⟩ := CE.out _ _ M1.out
    obtain ⟨p1, q1, ce, hcall, hyes, hno⟩ := Q.en c r w1 (by omega) hr
    have EN := Lib.hid hcall
    clear hcall y0 y1 s0 s1
    go_upto_region 5 with (go_at_fn FE; refine EN.out.mono ?_; rintro e w2 ⟨rfl, b2⟩)
    have M2 := Lib.hid (M1.out.next b2)
    have hr2 : w.heap.size + 1 + 1 + 1 ≤ w2.heap.size := M2.out.room
    have N2 := Lib.hid (show MF w w2 b w2.heap.size m (GQ T k n) w2 from ⟨M2.out.al, fun i _ _ => rfl, Nat.le_refl _, M2.out.al.size, M2.out.bl, M2.out.mp⟩)
    have CE2 : Hid (∀ w' m', MF w w2 b w2.heap.size m' (GQ T k n) w' → (w'.cell? ⟨w.heap.size, 0, none⟩ = some (.iface TQ (.agg #[.int .i64 n])) ∧ w'.cell? ⟨w.heap.size, 1, none⟩ = some (.map (some b))) ∧ (w'.cell? ⟨w.heap.size + 1, 0, none⟩ = some (.int .i64 c) ∧ w'.cell? ⟨w.heap.size + 1, 1, none⟩ = some (.int .i64 r))) := Lib.hid (fun w' m' h => by
      obtain ⟨⟨a0, a1⟩, a2, a3⟩ := CE.out _ _ M2.out
      exact ⟨⟨(h.cell (by omega) (by omega)).trans a0, (h.cell (by omega) (by omega)).trans a1⟩, (h.cell (by omega) (by omega)).trans a2, (h.cell (by omega) (by omega)).trans a3⟩)
    have CR2 : Hid (∀ w' m', MF w w2 b w2.heap.size m' (GQ T k n) w' → QBox w' (w.heap.size + 1 + 1) 0 0) := Lib.hid (fun w' m' h => (h.keep _ (by omega) (by omega)).trans (CR.out _ _ M2.out))
    clear b2 M1 EN d0 d1 e0 e1 T1 T2 CE CR M2 M0h
    have L3 := Lib.hid (show MS w w2 b w2.heap.size m (GQ T k n) p1 q1 (w2.alloc (.cells #[.int .i64 p1, .int .i64 q1] 39)) from ⟨N2.out.alloc _, QBox.new w2 p1 q1⟩)
    obtain ⟨w3, hw3⟩ : ∃ w3, w3 = w2.alloc (.cells #[.int .i64 p1, .int .i64 q1] 39) := ⟨_, rfl⟩
    rw [← hw3] at L3 ⊢
    clear hw3 N2
    have ON := Lib.hid (fun w => optC n c r w h10 hc)
    cases ce
    · have L4 : Hid (MS w w2 b w2.heap.size m (GQ T k n) (qEnd k n c r).1 (qEnd k n c r).2 ((w3.setCell ⟨w2.heap.size, 0, none⟩ (.int .i64 (-1000000000))).setCell ⟨w2.heap.size, 1, none⟩ (.int .i64 1))) := Lib.hid (by rw [hno rfl]; exact L3.out.put _ _)
      obtain ⟨⟨c0, c1⟩, f0, f1⟩ := L3.out.q.cells
      go_upto_region 7 with fail
      obtain ⟨w4, hw4⟩ : ∃ w4, w4 = ((w3.setCell ⟨w2.heap.size, 0, none⟩ (.int .i64 (-1000000000))).setCell ⟨w2.heap.size, 1, none⟩ (.int .i64 1)) := ⟨_, rfl⟩
      rw [← hw4] at L4 ⊢
      clear hw4 c0 c1 f0 f1 L3 hyes hno
      obtain ⟨⟨d0, d1⟩, e0, e1⟩ := CE2.out _ _ L4.out.f
      go_wp2_with fail
      refine (ON.out _).mono ?_
      rintro e w5 ⟨P, cp, rfl, hW, b5⟩
      have L5 := Lib.hid (L4.out.next b5)
      have hlo : w2.heap.size + 1 ≤ w4.heap.size := L4.out.room
      clear b5 d0 d1 e0 e1
      go_wp2_with fail
      go_loopg [35] 1 (fun gg i wr => (i = .int .i64 0 ∧ 1 ≤ gg ∧ Hid (MS w w2 b w2.heap.size m (GQ T k n) (qEnd k n c r).1 (qEnd k n c r).2 wr) ∧ Hid (WayC wr w4.heap.size P c r)) ∨ (i = .int .i64 1 ∧ ∃ m8, m8 ≤ m + (c + 1) * K ∧ Hid (MS w w2 b w2.heap.size m8 (GQ T k n) (T.v k n c r).1 (T.v k n c r).2 wr)))
      case atStart => exact .inl ⟨rfl, Nat.le_refl _, L5, Lib.hid hW⟩
      case round =>
        clear L4 L5 hW
        rcases hrel with ⟨rfl, hgg, L6, HW⟩ | ⟨rfl, MM, hm8, L6⟩
        · obtain ⟨q, cw, B, h1, h2, h3, h4, h5, h6, h7, h8, h9, h10⟩ := HW.out.ex
          have hr6 : w2.heap.size + 1 ≤ wr.heap.size := L6.out.room
          go_upto_region 10 with fail
          obtain ⟨wo, hwo⟩ : ∃ wo, wo = wr.alloc (.cells #[.int .i64 0, .slice (some ⟨q, 0, none⟩) (c + 1) cw, .func (.func 300) #[] #[.pointer (some ⟨B, 0, none⟩)]] 204) := ⟨_, rfl⟩
          have LA := Lib.hid (show MS w w2 b w2.heap.size m (GQ T k n) (qEnd k n c r).1 (qEnd k n c r).2 wo by rw [hwo]; exact L6.out.alloc _)
          have KO : wo.heap[wr.heap.size]? = some (.cells #[.int .i64 0, .slice (some ⟨q, 0, none⟩) (c + 1) cw, .func (.func 300) #[] #[.pointer (some ⟨B, 0, none⟩)]] 204) := by rw [hwo]; exact alloc_heap wr _
          have BO : Below wr.heap.size wr wo := by rw [hwo]; exact (Below.refl _ _).alloc (Nat.le_refl _) _
          rw [← hwo]
          clear hwo
          have k0 : wo.drew.cell? ⟨wr.heap.size, 0, none⟩ = some (.int .i64 0) := (cell_of_heap (o := 0) KO rfl).1
          have k1 : wo.drew.cell? ⟨wr.heap.size, 1, none⟩ = some (.slice (some ⟨q, 0, none⟩) (c + 1) cw) := (cell_of_heap (o := 1) KO rfl).1
          have k2 : wo.drew.cell? ⟨wr.heap.size, 2, none⟩ = some (.func (.func 300) #[] #[.pointer (some ⟨B, 0, none⟩)]) := (cell_of_heap (o := 2) KO rfl).1
          have LD := Lib.hid LA.out.drew
          obtain ⟨⟨d0, d1⟩, _, _⟩ := CE2.out _ _ LD.out.f
          obtain ⟨⟨z0, z1⟩, _, _⟩ := LD.out.q.cells
          have BD : Below wr.heap.size wr wo.drew := below_drew BO
          have hBo : CB wo.drew B c r := (h6.below BD h6.lt)
          have MEAN := Lib.hid (meanC T k n c r Q.ok h10' hc TQ b q B cw m K wo.drew LD.out.f.mp (by omega) hBo (by omega) (by omega) (Nat.lt_of_lt_of_le h5 BD.size) (fun i hi => (BD.cell (p := ⟨q, i, none⟩) h5).trans (h10 i hi)) BCH.out)
          unfold srcV at MEAN
          have GRx := Lib.hid (fun w => greatV Q.ok hc hr w)
          obtain ⟨E1, hE1⟩ : ∃ E1, E1 = (qEnd k n c r).1 := ⟨_, rfl⟩
          obtain ⟨E2, hE2⟩ : ∃ E2, E2 = (qEnd k n c r).2 := ⟨_, rfl⟩
          obtain ⟨N1, hN1⟩ : ∃ N1, N1 = (T.m n c).1 := ⟨_, rfl⟩
          obtain ⟨N2, hN2⟩ : ∃ N2, N2 = (T.m n c).2 := ⟨_, rfl⟩
          rw [← hE1, ← hE2, ← hN1, ← hN2] at GRx
          rw [← hE1, ← hE2] at LD
          rw [← hE1] at z0
          rw [← hE2] at z1
          rw [← hN1, ← hN2] at MEAN
          clear hE1 hE2 hN1 hN2 KO L6 LA HW h1 h2 h3 h4 h5 h6 h7 h8 h9 h10 hBo BO BD
          go_region_with (first
            | (go_at_call 208; (with_reducible refine MEAN.out.mono ?_); rintro e w8 ⟨rfl, m8, hm8, hq8, al8⟩; (have HS8 := Lib.hid (LD.out.step al8 hq8)); (obtain ⟨⟨x0, x1⟩, _, _⟩ := HS8.out.q.cells); clear hq8 al8)
            | (go_at_call 171; (with_reducible refine (GRx.out _).mono ?_); rintro e w9 ⟨rfl, b9⟩; (have HS9 := Lib.hid (HS8.out.next b9)); (obtain ⟨⟨c0, c1⟩, f0, f1⟩ := HS9.out.q.cells); clear b9))
          all_goals
            go_wp2_with fail
            go_roundg 0
            case rel => exact .inr ⟨by go_num, m8, hm8, Lib.hid (HS9.out.put _ _)⟩
            case measure => omega
        · obtain ⟨⟨d0, d1⟩, e0, e1⟩ := CE2.out _ _ L6.out.f
          obtain ⟨⟨g0, g1⟩, _, _⟩ := L6.out.q.cells
          go_upto_region 13 with (refine mapQ_put comerKey Try.underlying123 _ rfl _ _ _ rfl b MM (GQ T k n) rfl L6.out.f.mp (by omega) _ l rfl rfl hl ?_; intro w7 hM7 hg7)
          have L7 := Lib.hid (L6.out.step (Alt.of_grown hg7 (fun q hq => by injection hq with hq; omega)) hM7)
          clear d0 d1 e0 e1 g0 g1 hM7 hg7
          obtain ⟨⟨g0, g1⟩, _, _⟩ := L7.out.q.cells
          obtain ⟨⟨c0, c1⟩, f0, f1⟩ := (CR2.out _ _ L7.out.f).cells
          go_wp2_with fail
          refine bodyPost_ret (v := .agg #[.int .i64 (T.v k n c r).1, .int .i64 (T.v k n c r).2]) (by simp [results, Try.results138, go_sem, c0, c1]) rfl ⟨rfl, MM + 1, by omega, ?_, ?_⟩
          · exact (L7.out.f.mp.set (by omega)).set (by omega)
          · exact (L7.out.f.al.setNew (by omega)).setNew (by omega)
    · have L4 : Hid (MS w w2 b w2.heap.size m (GQ T k n) (qEnd k n c r).1 (qEnd k n c r).2 w3) := Lib.hid (by rw [hyes rfl]; exact L3.out)
      clear L3 hyes hno
      go_upto_region 7 with fail
      obtain ⟨⟨d0, d1⟩, e0, e1⟩ := CE2.out _ _ L4.out.f
      go_wp2_with fail
      refine (ON.out _).mono ?_
      rintro e w5 ⟨P, cp, rfl, hW, b5⟩
      have L5 := Lib.hid (L4.out.next b5)
      have hlo : w2.heap.size + 1 ≤ w3.heap.size := L4.out.room
      clear b5 d0 d1 e0 e1
      go_wp2_with fail
      go_loopg [35] 1 (fun gg i wr => (i = .int .i64 0 ∧ 1 ≤ gg ∧ Hid (MS w w2 b w2.heap.size m (GQ T k n) (qEnd k n c r).1 (qEnd k n c r).2 wr) ∧ Hid (WayC wr w3.heap.size P c r)) ∨ (i = .int .i64 1 ∧ ∃ m8, m8 ≤ m + (c + 1) * K ∧ Hid (MS w w2 b w2.heap.size m8 (GQ T k n) (T.v k n c r).1 (T.v k n c r).2 wr)))
      case atStart => exact .inl ⟨rfl, Nat.le_refl _, L5, Lib.hid hW⟩
      case round =>
        clear L4 L5 hW
        rcases hrel with ⟨rfl, hgg, L6, HW⟩ | ⟨rfl, MM, hm8, L6⟩
        · obtain ⟨q, cw, B, h1, h2, h3, h4, h5, h6, h7, h8, h9, h10⟩ := HW.out.ex
          have hr6 : w2.heap.size + 1 ≤ wr.heap.size := L6.out.room
          go_upto_region 10 with fail
          obtain ⟨wo, hwo⟩ : ∃ wo, wo = wr.alloc (.cells #[.int .i64 0, .slice (some ⟨q, 0, none⟩) (c + 1) cw, .func (.func 300) #[] #[.pointer (some ⟨B, 0, none⟩)]] 204) := ⟨_, rfl⟩
          have LA := Lib.hid (show MS w w2 b w2.heap.size m (GQ T k n) (qEnd k n c r).1 (qEnd k n c r).2 wo by rw [hwo]; exact L6.out.alloc _)
          have KO : wo.heap[wr.heap.size]? = some (.cells #[.int .i64 0, .slice (some ⟨q, 0, none⟩) (c + 1) cw, .func (.func 300) #[] #[.pointer (some ⟨B, 0, none⟩)]] 204) := by rw [hwo]; exact alloc_heap wr _
          have BO : Below wr.heap.size wr wo := by rw [hwo]; exact (Below.refl _ _).alloc (Nat.le_refl _) _
          rw [← hwo]
          clear hwo
          have k0 : wo.drew.cell? ⟨wr.heap.size, 0, none⟩ = some (.int .i64 0) := (cell_of_heap (o := 0) KO rfl).1
          have k1 : wo.drew.cell? ⟨wr.heap.size, 1, none⟩ = some (.slice (some ⟨q, 0, none⟩) (c + 1) cw) := (cell_of_heap (o := 1) KO rfl).1
          have k2 : wo.drew.cell? ⟨wr.heap.size, 2, none⟩ = some (.func (.func 300) #[] #[.pointer (some ⟨B, 0, none⟩)]) := (cell_of_heap (o := 2) KO rfl).1
          have LD := Lib.hid LA.out.drew
          obtain ⟨⟨d0, d1⟩, _, _⟩ := CE2.out _ _ LD.out.f
          obtain ⟨⟨z0, z1⟩, _, _⟩ := LD.out.q.cells
          have BD : Below wr.heap.size wr wo.drew := below_drew BO
          have hBo : CB wo.drew B c r := (h6.below BD h6.lt)
          have MEAN := Lib.hid (meanC T k n c r Q.ok h10' hc TQ b q B cw m K wo.drew LD.out.f.mp (by omega) hBo (by omega) (by omega) (Nat.lt_of_lt_of_le h5 BD.size) (fun i hi => (BD.cell (p := ⟨q, i, none⟩) h5).trans (h10 i hi)) BCH.out)
          unfold srcV at MEAN
          have GRx := Lib.hid (fun w => greatV Q.ok hc hr w)
          obtain ⟨E1, hE1⟩ : ∃ E1, E1 = (qEnd k n c r).1 := ⟨_, rfl⟩
          obtain ⟨E2, hE2⟩ : ∃ E2, E2 = (qEnd k n c r).2 := ⟨_, rfl⟩
          obtain ⟨N1, hN1⟩ : ∃ N1, N1 = (T.m n c).1 := ⟨_, rfl⟩
          obtain ⟨N2, hN2⟩ : ∃ N2, N2 = (T.m n c).2 := ⟨_, rfl⟩
          rw [← hE1, ← hE2, ← hN1, ← hN2] at GRx
          rw [← hE1, ← hE2] at LD
          rw [← hE1] at z0
          rw [← hE2] at z1
          rw [← hN1, ← hN2] at MEAN
          clear hE1 hE2 hN1 hN2 KO L6 LA HW h1 h2 h3 h4 h5 h6 h7 h8 h9 h10 hBo BO BD
          go_region_with (first
            | (go_at_call 208; (with_reducible refine MEAN.out.mono ?_); rintro e w8 ⟨rfl, m8, hm8, hq8, al8⟩; (have HS8 := Lib.hid (LD.out.step al8 hq8)); (obtain ⟨⟨x0, x1⟩, _, _⟩ := HS8.out.q.cells); clear hq8 al8)
            | (go_at_call 171; (with_reducible refine (GRx.out _).mono ?_); rintro e w9 ⟨rfl, b9⟩; (have HS9 := Lib.hid (HS8.out.next b9)); (obtain ⟨⟨c0, c1⟩, f0, f1⟩ := HS9.out.q.cells); clear b9))
          all_goals
            go_wp2_with fail
            go_roundg 0
            case rel => exact .inr ⟨by go_num, m8, hm8, Lib.hid (HS9.out.put _ _)⟩
            case measure => omega
        · obtain ⟨⟨d0, d1⟩, e0, e1⟩ := CE2.out _ _ L6.out.f
          obtain ⟨⟨g0, g1⟩, _, _⟩ := L6.out.q.cells
          go_upto_region 13 with (refine mapQ_put comerKey Try.underlying123 _ rfl _ _ _ rfl b MM (GQ T k n) rfl L6.out.f.mp (by omega) _ l rfl rfl hl ?_; intro w7 hM7 hg7)
          have L7 := Lib.hid (L6.out.step (Alt.of_grown hg7 (fun q hq => by injection hq with hq; omega)) hM7)
          clear d0 d1 e0 e1 g0 g1 hM7 hg7
          obtain ⟨⟨g0, g1⟩, _, _⟩ := L7.out.q.cells
          obtain ⟨⟨c0, c1⟩, f0, f1⟩ := (CR2.out _ _ L7.out.f).cells
          go_wp2_with fail
          refine bodyPost_ret (v := .agg #[.int .i64 (T.v k n c r).1, .int .i64 (T.v k n c r).2]) (by simp [results, Try.results138, go_sem, c0, c1]) rfl ⟨rfl, MM + 1, by omega, ?_, ?_⟩
          · exact (L7.out.f.mp.set (by omega)).set (by omega)
          · exact (L7.out.f.al.setNew (by omega)).setNew (by omega)
end Go.Proofs.Ytnpiciabpgkiiad
