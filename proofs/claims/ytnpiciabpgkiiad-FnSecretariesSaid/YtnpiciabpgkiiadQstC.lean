/- The searches over people, in the program: the best of a state. -/
import Derived.Test.YtnpiciabpgkiiadQstB
import Derived.Test.YtnpiciabpgkiiadFracD
namespace Go.Proofs.Ytnpiciabpgkiiad
open Go.RowKit Go.Maps
set_option linter.unusedVariables false
theorem comerRow : (128 : TypeId) < Try.prog.types.size := of_decide_eq_true (by kernel_rfl)
theorem comerWide : (match Try.prog.underlying 128 with | some (.array _ _) | some (.struct _) => true | _ => false) = true := by rw [Try.underlying128]
theorem comerCells : Try.prog.cellsOf 128 = 2 := by kernel_rfl
theorem intCellsQ : Try.prog.cellsOf 3 = 1 := by kernel_rfl
set_option maxRecDepth 100000 in
theorem comerKey : Keyed Try.prog 128 := Keyed.of_law (deep_law_laid laidQ (m := 2) (by decide) comerRow (by kernel_rfl) comerWide)
set_option maxRecDepth 100000 in
theorem comerKey_mk {a b : Int} (ha : InI64 a) (hb : InI64 b) : ∃ l, keyOf Try.prog 128 (.agg #[.int .i64 a, .int .i64 b]) = some l := by
  have wa := wf64q ha
  have wb := wf64q hb
  refine ⟨.string (keyBytes [.int .i64 a, .int .i64 b]), ?_⟩
  obtain ⟨m, hm⟩ : ∃ m, Try.prog.types.size = m + 1 := ⟨Try.prog.types.size - 1, (Nat.succ_pred_eq_of_pos (Nat.lt_of_le_of_lt (Nat.zero_le _) comerRow)).symm⟩
  have h1 : Try.prog.keyType 128 = true := by kernel_rfl
  have h2 : (Value.agg #[.int .i64 a, .int .i64 b]).formed Try.prog 128 = true := by simp [Value.formed, Try.underlying128, comerCells]
  have h3 : Try.prog.keyLits (Try.prog.types.size + 1) 128 [.int .i64 a, .int .i64 b] = some [.int .i64 a, .int .i64 b] := by
    rw [hm]
    simp [Program.keyLits, Try.underlying128, comerCells, intCellsQ, Try.underlying3, wa, wb]
  unfold keyOf
  rw [Try.underlying128]
  simp only [h1, h2, Bool.and_self, if_true]
  have h4 : (Value.agg #[.int .i64 a, .int .i64 b]).cells.toList = [.int .i64 a, .int .i64 b] := rfl
  rw [h4, h3]; rfl
set_option maxRecDepth 100000 in
set_option maxHeartbeats 2000000 in
/-- The greater one of two fractions. -/
theorem greaterQ (n d m e : Int) (w : World) (h1 : isFr n d = true) (h2 : isFr m e = true) :
    Calls Try.prog 171 #[.agg #[.int .i64 n, .int .i64 d], .agg #[.int .i64 m, .int .i64 e]] w (Gives (if n * e < m * d then .agg #[.int .i64 m, .int .i64 e] else .agg #[.int .i64 n, .int .i64 d]) w) := by
  have CP := Lib.hid (fun w => cmpI n d m e w)
  rw [show cmpV n d m e = .tuple #[.int .i64 (ordI (n * e) (m * d)), .bool true] from if_pos ⟨h1, h2⟩] at CP
  obtain ⟨wa, hwa⟩ : ∃ wa, wa = ((w.alloc (.cells #[.int .i64 n, .int .i64 d] 39)).alloc (.cells #[.int .i64 m, .int .i64 e] 39)).alloc (.cells #[.int .i64 0, .int .i64 0] 39) := ⟨_, rfl⟩
  have B3 : Below w.heap.size w wa := by rw [hwa]; exact (((Below.refl w.heap.size w).alloc (Nat.le_refl _) _).alloc (by simp) _).alloc (by simp; omega) _
  obtain ⟨k0, k1, k2⟩ := heap_three w (.cells #[.int .i64 n, .int .i64 d] 39) (.cells #[.int .i64 m, .int .i64 e] 39) (.cells #[.int .i64 0, .int .i64 0] 39)
  rw [← hwa] at k0 k1 k2
  have T0 := Lib.hid (show QBox wa w.heap.size n d from k0)
  have T1 := Lib.hid (show QBox wa (w.heap.size + 1) m e from k1)
  have T2 := Lib.hid (show QBox wa (w.heap.size + 1 + 1) 0 0 from k2)
  clear k0 k1 k2
  obtain ⟨⟨x0, x1⟩, _, _⟩ := T0.out.cells
  obtain ⟨⟨y0, y1⟩, _, _⟩ := T1.out.cells
  by_cases hc : n * e < m * d
  · rw [if_pos hc]
    rw [show ordI (n * e) (m * d) = -1 from if_pos hc] at CP
    clear hc h1 h2
    go_enter Try.func171, Try.ntmps171
    go_wp2_with fail
    rw [← hwa]
    clear hwa
    refine (CP.out _).mono ?_
    rintro e w1 ⟨rfl, b1⟩
    obtain ⟨⟨a0, a1⟩, _, _⟩ := (T1.out.below b1 T1.out.lt).cells
    obtain ⟨⟨c0, c1⟩, f0, f1⟩ := (T2.out.below b1 T2.out.lt).cells
    have HB := Lib.hid (bl_then B3 b1)
    clear b1 x0 x1 y0 y1
    go_wp2_with fail
    refine bodyPost_ret (v := .agg #[.int .i64 m, .int .i64 e]) (by simp [results, Try.results171, go_sem, c0, c1]) rfl ⟨rfl, ?_⟩
    exact bl_st HB.out (by omega) _ _
  · rw [if_neg hc]
    have ho : ¬ ordI (n * e) (m * d) < 0 := by
      unfold ordI
      rw [if_neg hc]
      split <;> omega
    generalize ordI (n * e) (m * d) = o at *
    clear hc h1 h2
    go_enter Try.func171, Try.ntmps171
    go_wp2_with fail
    rw [← hwa]
    clear hwa
    refine (CP.out _).mono ?_
    rintro e w1 ⟨rfl, b1⟩
    obtain ⟨⟨a0, a1⟩, _, _⟩ := (T0.out.below b1 T0.out.lt).cells
    obtain ⟨⟨c0, c1⟩, f0, f1⟩ := (T2.out.below b1 T2.out.lt).cells
    have HB := Lib.hid (bl_then B3 b1)
    clear b1 x0 x1 y0 y1
    go_wp2_with fail
    refine bodyPost_ret (v := .agg #[.int .i64 n, .int .i64 d]) (by simp [results, Try.results171, go_sem, c0, c1]) rfl ⟨rfl, ?_⟩
    exact bl_st HB.out (by omega) _ _
set_option maxRecDepth 100000 in
set_option maxHeartbeats 2000000 in
theorem optN (n r : Nat) (w : World) (hn : n ≤ 10) :
    Calls Try.prog 298 #[.int .i64 n, .agg #[.int .i64 n, .int .i64 r]] w (Gives (.slice none 0 0) w) := by
  obtain ⟨wa, hwa⟩ : ∃ wa, wa = w.alloc (.cells #[.int .i64 n, .int .i64 r] 128) := ⟨_, rfl⟩
  have T1 := Lib.hid (show CB wa w.heap.size n r by rw [hwa]; exact alloc_heap w _)
  have BA := Lib.hid (show Below w.heap.size w wa by rw [hwa]; exact (Below.refl w.heap.size w).alloc (Nat.le_refl _) _)
  obtain ⟨y0, y1⟩ := T1.out.cells
  go_enter Try.func298, Try.ntmps298
  go_wp2_with fail
  rw [← hwa]
  clear hwa
  go_wp2_with fail
  go_ret
  exact ⟨rfl, BA.out⟩
/-- A quest over n people: what its methods do. -/
structure Quest (T : QTab) (k n : Nat) (TQ : TypeId) (FE : FuncId) : Prop where
  ok : QOk T k n
  n1 : 1 ≤ n
  n10 : n ≤ 10
  m1 : ∀ (j : Nat) (w : World), (method (j + 1) TQ (.agg #[.int .i64 n]) "loop.example/g01131/impl.end").run Try.prog w = .ok (FE, .agg #[.int .i64 n]) w
  m2 : ∀ (j : Nat) (w : World), (method (j + 1) TQ (.agg #[.int .i64 n]) "loop.example/g01131/impl.options").run Try.prog w = .ok (298, .int .i64 n) w
  eg : ∀ args w, (callFunc FE args).run Try.prog w = .ok (.enter FE args) w
  en : ∀ (c r : Nat) (w : World), c ≤ n → r ≤ c → ∃ p q ce, Calls Try.prog FE #[.agg #[.int .i64 n], .agg #[.int .i64 c, .int .i64 r]] w (Gives (.tuple #[.agg #[.int .i64 p, .int .i64 q], .bool ce]) w) ∧ (ce = true → qEnd k n c r = (p, q)) ∧ (ce = false → qEnd k n c r = (-1000000000, 1))
set_option maxRecDepth 100000 in
set_option maxHeartbeats 4000000 in
theorem bestE (T : QTab) (k n r : Nat) (TQ : TypeId) (FE : FuncId) (Q : Quest T k n TQ FE) (hr : r ≤ n) (b m : Nat) (w : World) (hm : MapQ 128 w b m (GQ T k n)) (hroom : m + 1 ≤ maxLen) :
    Calls Try.prog 138 #[srcV TQ n b, .agg #[.int .i64 n, .int .i64 r]] w (QPost (.agg #[.int .i64 (T.v k n n r).1, .int .i64 (T.v k n n r).2]) w b (m + 1) (GQ T k n)) := by
  have h10 := Q.n10
  obtain ⟨l, hl⟩ := comerKey_mk (a := n) (b := r) (by unfold InI64; omega) (by unfold InI64; omega)
  have hM1 := Q.m1
  have hM2 := Q.m2
  have eg := Q.eg
  have hbl := hm.lt
  obtain ⟨wz, hwz⟩ : ∃ wz, wz = ((w.alloc (.cells #[.iface TQ (.agg #[.int .i64 n]), .map (some b)] 125)).alloc (.cells #[.int .i64 n, .int .i64 r] 128)).alloc (.cells #[.int .i64 0, .int .i64 0] 39) := ⟨_, rfl⟩
  obtain ⟨k0, k1, k2⟩ := heap_three w (.cells #[.iface TQ (.agg #[.int .i64 n]), .map (some b)] 125) (.cells #[.int .i64 n, .int .i64 r] 128) (.cells #[.int .i64 0, .int .i64 0] 39)
  have S3 : wz.heap.size = w.heap.size + 1 + 1 + 1 := by rw [hwz]; simp
  have BZ : Below w.heap.size w wz := by rw [hwz]; exact (((Below.refl w.heap.size w).alloc (Nat.le_refl _) _).alloc (by simp) _).alloc (by simp; omega) _
  rw [← hwz] at k0 k1 k2
  have M0 := MF.start BZ hm
  rw [S3] at M0
  have M0h := Lib.hid M0
  have s0 := (cell_of_heap (o := 0) k0 rfl).1
  have s1 := (cell_of_heap (o := 1) k0 rfl).1
  have T1 := Lib.hid (show CB wz (w.heap.size + 1) n r from k1)
  have T2 := Lib.hid (show QBox wz (w.heap.size + 1 + 1) 0 0 from k2)
  clear k0 k1 k2
  obtain ⟨y0, y1⟩ := T1.out.cells
  have CE : Hid (∀ w' m', MF w wz b (w.heap.size + 1 + 1 + 1) m' (GQ T k n) w' → (w'.cell? ⟨w.heap.size, 0, none⟩ = some (.iface TQ (.agg #[.int .i64 n])) ∧ w'.cell? ⟨w.heap.size, 1, none⟩ = some (.map (some b))) ∧ (w'.cell? ⟨w.heap.size + 1, 0, none⟩ = some (.int .i64 n) ∧ w'.cell? ⟨w.heap.size + 1, 1, none⟩ = some (.int .i64 r))) := Lib.hid (fun w' m' h => ⟨⟨(h.cell (by omega) (by omega)).trans s0, (h.cell (by omega) (by omega)).trans s1⟩, (h.cell (by omega) (by omega)).trans y0, (h.cell (by omega) (by omega)).trans y1⟩)
  have CR : Hid (∀ w' m', MF w wz b (w.heap.size + 1 + 1 + 1) m' (GQ T k n) w' → QBox w' (w.heap.size + 1 + 1) 0 0) := Lib.hid (fun w' m' h => (h.keep _ (by omega) (by omega)).trans T2.out)
  unfold srcV
  go_enter Try.func138, Try.ntmps138
  go_upto_region 1 with fail
  rw [← hwz]
  clear hwz BZ M0
  go_upto_region 2 with (refine mapQ_get comerKey Try.underlying123 _ rfl _ _ rfl b m (GQ T k n) rfl M0h.out.mp _ l rfl hl ?_; intro p q ok hok; cases ok)
  rotate_left
  · rw [GQ_mk]
    have M1 := Lib.hid (M0h.out.alloc (.cells #[.int .i64 (T.v k n n r).1, .int .i64 (T.v k n n r).2] 39))
    obtain ⟨⟨c0, c1⟩, f0, f1⟩ := (CR.out _ _ M1.out).cells
    have NB := QBox.new wz (T.v k n n r).1 (T.v k n n r).2
    rw [S3] at NB
    obtain ⟨⟨g0, g1⟩, _, _⟩ := NB.cells
    clear NB
    obtain ⟨w1, hw1⟩ : ∃ w1, w1 = wz.alloc (.cells #[.int .i64 (T.v k n n r).1, .int .i64 (T.v k n n r).2] 39) := ⟨_, rfl⟩
    rw [← hw1] at M1 c0 c1 f0 f1 g0 g1 ⊢
    clear hw1
    go_wp2_with fail
    refine bodyPost_ret (v := .agg #[.int .i64 (T.v k n n r).1, .int .i64 (T.v k n n r).2]) (by simp [results, Try.results138, go_sem, c0, c1]) rfl ⟨rfl, m, by omega, ?_, ?_⟩
    · exact (M1.out.mp.set (by omega)).set (by omega)
    · exact (M1.out.al.setNew (by omega)).setNew (by omega)
  · obtain ⟨w1, hw1⟩ : ∃ w1, w1 = wz.alloc (.cells #[.int .i64 p, .int .i64 q] 39) := ⟨_, rfl⟩
    have M1 := Lib.hid (show MF w wz b (w.heap.size + 1 + 1 + 1) m (GQ T k n) w1 by rw [hw1]; exact M0h.out.alloc _)
    rw [← hw1]
    clear hw1 hok
    obtain ⟨⟨d0, d1⟩, e0, e1⟩ := CE.out _ _ M1.out
    obtain ⟨p1, q1, ce, hcall, hyes, hno⟩ := Q.en n r w1 (by omega) hr
    have EN := Lib.hid hcall
    clear hcall y0 y1 s0 s1
    go_upto_region 5 with (go_at_fn FE; refine EN.out.mono ?_; rintro e w2 ⟨rfl, b2⟩)
    have M2 := Lib.hid (M1.out.next b2)
    have hr2 : w.heap.size + 1 + 1 + 1 ≤ w2.heap.size := M2.out.room
    have N2 := Lib.hid (show MF w w2 b w2.heap.size m (GQ T k n) w2 from ⟨M2.out.al, fun i _ _ => rfl, Nat.le_refl _, M2.out.al.size, M2.out.bl, M2.out.mp⟩)
    have CE2 : Hid (∀ w' m', MF w w2 b w2.heap.size m' (GQ T k n) w' → (w'.cell? ⟨w.heap.size, 0, none⟩ = some (.iface TQ (.agg #[.int .i64 n])) ∧ w'.cell? ⟨w.heap.size, 1, none⟩ = some (.map (some b))) ∧ (w'.cell? ⟨w.heap.size + 1, 0, none⟩ = some (.int .i64 n) ∧ w'.cell? ⟨w.heap.size + 1, 1, none⟩ = some (.int .i64 r))) := Lib.hid (fun w' m' h => by
      obtain ⟨⟨a0, a1⟩, a2, a3⟩ := CE.out _ _ M2.out
      exact ⟨⟨(h.cell (by omega) (by omega)).trans a0, (h.cell (by omega) (by omega)).trans a1⟩, (h.cell (by omega) (by omega)).trans a2, (h.cell (by omega) (by omega)).trans a3⟩)
    have CR2 : Hid (∀ w' m', MF w w2 b w2.heap.size m' (GQ T k n) w' → QBox w' (w.heap.size + 1 + 1) 0 0) := Lib.hid (fun w' m' h => (h.keep _ (by omega) (by omega)).trans (CR.out _ _ M2.out))
    clear b2 M1 EN d0 d1 e0 e1 T1 T2 CE CR M2 M0h
    have L3 := Lib.hid (show MS w w2 b w2.heap.size m (GQ T k n) p1 q1 (w2.alloc (.cells #[.int .i64 p1, .int .i64 q1] 39)) from ⟨N2.out.alloc _, QBox.new w2 p1 q1⟩)
    obtain ⟨w3, hw3⟩ : ∃ w3, w3 = w2.alloc (.cells #[.int .i64 p1, .int .i64 q1] 39) := ⟨_, rfl⟩
    rw [← hw3] at L3 ⊢
    clear hw3 N2
    have HVV : (T.v k n n r) = qEnd k n n r := by unfold QTab.v; rw [if_pos rfl]
    have ON := Lib.hid (fun w => optN n r w h10)
    cases ce
    · have L4 : Hid (MS w w2 b w2.heap.size m (GQ T k n) (T.v k n n r).1 (T.v k n n r).2 ((w3.setCell ⟨w2.heap.size, 0, none⟩ (.int .i64 (-1000000000))).setCell ⟨w2.heap.size, 1, none⟩ (.int .i64 1))) := Lib.hid (by rw [HVV, hno rfl]; exact L3.out.put _ _)
      obtain ⟨⟨c0, c1⟩, f0, f1⟩ := L3.out.q.cells
      go_upto_region 7 with fail
      obtain ⟨w4, hw4⟩ : ∃ w4, w4 = ((w3.setCell ⟨w2.heap.size, 0, none⟩ (.int .i64 (-1000000000))).setCell ⟨w2.heap.size, 1, none⟩ (.int .i64 1)) := ⟨_, rfl⟩
      rw [← hw4] at L4 ⊢
      clear hw4 c0 c1 f0 f1 L3 hyes hno
      have HV := Lib.hid HVV
      obtain ⟨⟨d0, d1⟩, e0, e1⟩ := CE2.out _ _ L4.out.f
      clear HVV
      go_wp2_with fail
      refine (ON.out _).mono ?_
      rintro e w5 ⟨rfl, b5⟩
      have L5 := Lib.hid (L4.out.next b5)
      clear b5 d0 d1 e0 e1
      go_wp2_with fail
      go_loopg [35] 0 (fun gg i wr => i = .int .i64 0 ∧ Hid (MS w w2 b w2.heap.size m (GQ T k n) (T.v k n n r).1 (T.v k n n r).2 wr))
      case atStart => exact ⟨rfl, L5⟩
      case round =>
        obtain ⟨rfl, L6⟩ := hrel
        clear L4 L5
        obtain ⟨⟨d0, d1⟩, e0, e1⟩ := CE2.out _ _ L6.out.f
        obtain ⟨⟨g0, g1⟩, _, _⟩ := L6.out.q.cells
        go_upto_region 13 with (refine mapQ_put comerKey Try.underlying123 _ rfl _ _ _ rfl b m (GQ T k n) rfl L6.out.f.mp (by omega) _ l rfl rfl hl ?_; intro w7 hM7 hg7)
        have L7 := Lib.hid (L6.out.step (Alt.of_grown hg7 (fun q hq => by injection hq with hq; omega)) hM7)
        clear d0 d1 e0 e1 g0 g1 hM7 hg7
        obtain ⟨⟨g0, g1⟩, _, _⟩ := L7.out.q.cells
        obtain ⟨⟨c0, c1⟩, f0, f1⟩ := (CR2.out _ _ L7.out.f).cells
        go_wp2_with fail
        refine bodyPost_ret (v := .agg #[.int .i64 (T.v k n n r).1, .int .i64 (T.v k n n r).2]) (by simp [results, Try.results138, go_sem, c0, c1]) rfl ⟨rfl, m + 1, by omega, ?_, ?_⟩
        · exact (L7.out.f.mp.set (by omega)).set (by omega)
        · exact (L7.out.f.al.setNew (by omega)).setNew (by omega)
    · have L4 : Hid (MS w w2 b w2.heap.size m (GQ T k n) (T.v k n n r).1 (T.v k n n r).2 w3) := Lib.hid (by rw [HVV, hyes rfl]; exact L3.out)
      clear L3 hyes hno
      go_upto_region 7 with fail
      have HV := Lib.hid HVV
      obtain ⟨⟨d0, d1⟩, e0, e1⟩ := CE2.out _ _ L4.out.f
      clear HVV
      go_wp2_with fail
      refine (ON.out _).mono ?_
      rintro e w5 ⟨rfl, b5⟩
      have L5 := Lib.hid (L4.out.next b5)
      clear b5 d0 d1 e0 e1
      go_wp2_with fail
      go_loopg [35] 0 (fun gg i wr => i = .int .i64 0 ∧ Hid (MS w w2 b w2.heap.size m (GQ T k n) (T.v k n n r).1 (T.v k n n r).2 wr))
      case atStart => exact ⟨rfl, L5⟩
      case round =>
        obtain ⟨rfl, L6⟩ := hrel
        clear L4 L5
        obtain ⟨⟨d0, d1⟩, e0, e1⟩ := CE2.out _ _ L6.out.f
        obtain ⟨⟨g0, g1⟩, _, _⟩ := L6.out.q.cells
        go_upto_region 13 with (refine mapQ_put comerKey Try.underlying123 _ rfl _ _ _ rfl b m (GQ T k n) rfl L6.out.f.mp (by omega) _ l rfl rfl hl ?_; intro w7 hM7 hg7)
        have L7 := Lib.hid (L6.out.step (Alt.of_grown hg7 (fun q hq => by injection hq with hq; omega)) hM7)
        clear d0 d1 e0 e1 g0 g1 hM7 hg7
        obtain ⟨⟨g0, g1⟩, _, _⟩ := L7.out.q.cells
        obtain ⟨⟨c0, c1⟩, f0, f1⟩ := (CR2.out _ _ L7.out.f).cells
        go_wp2_with fail
        refine bodyPost_ret (v := .agg #[.int .i64 (T.v k n n r).1, .int .i64 (T.v k n n r).2]) (by simp [results, Try.results138, go_sem, c0, c1]) rfl ⟨rfl, m + 1, by omega, ?_, ?_⟩
        · exact (L7.out.f.mp.set (by omega)).set (by omega)
        · exact (L7.out.f.al.setNew (by omega)).setNew (by omega)
end Go.Proofs.Ytnpiciabpgkiiad
