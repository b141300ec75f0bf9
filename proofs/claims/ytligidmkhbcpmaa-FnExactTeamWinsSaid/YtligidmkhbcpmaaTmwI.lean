/- What has been shown up to the throw at which a word is found, in the program. -/
import Derived.Test.YtligidmkhbcpmaaTmwP
import Derived.Test.YtligidmkhbcpmaaWwI
namespace Go.Proofs.Ytligidmkhbcpmaa
open Go.RowKit
set_option linter.unusedVariables false
theorem ssz_setup (w : World) (xs bs : List Int) : ∃ wb, wb = ((w.alloc (.cells (shA xs) 47)).alloc (.cells (shA bs) 47)).alloc (.cells #[.int .i64 0, .int .i64 0, .int .i64 0, .int .i64 0, .int .i64 0, .int .i64 0, .int .i64 0, .int .i64 0, .int .i64 0] 47) ∧ SBox wb w.heap.size xs ∧ SBox wb (w.heap.size + 1) bs ∧ ZBox wb (w.heap.size + 2) ∧ Below w.heap.size w wb ∧ wb.heap.size = w.heap.size + 3 := by
  obtain ⟨wa, hwa, a1, a2, a3, a4⟩ := ss_setup w xs bs
  rw [← hwa]
  have bn := (Below.refl wa.heap.size wa).alloc (Nat.le_refl _) (.cells #[.int .i64 0, .int .i64 0, .int .i64 0, .int .i64 0, .int .i64 0, .int .i64 0, .int .i64 0, .int .i64 0, .int .i64 0] 47)
  refine ⟨_, rfl, a1.next bn, a2.next bn, ?_, a3.trans (bn.mono a3.size), by simp [a4]⟩
  have h := alloc_heap wa (.cells #[.int .i64 0, .int .i64 0, .int .i64 0, .int .i64 0, .int .i64 0, .int .i64 0, .int .i64 0, .int .i64 0, .int .i64 0] 47)
  rw [a4] at h
  exact h
set_option maxRecDepth 100000 in
set_option maxHeartbeats 8000000 in
theorem untC (xs bs : List Int) (w : World) (ha : xs.length ≤ 8) (hb : bs.length ≤ 8) (h1 : 1 ≤ bs.length) (ia : ∀ z ∈ xs, InI64 z) (ib : ∀ z ∈ bs, InI64 z) :
    Calls Try.prog 54 #[shV xs, shV bs] w (Gives (shV (utL bs xs)) w) := by
  obtain ⟨wb, hwb, HS0, HT0, HZ0, HB0, SZ0⟩ := ssz_setup w xs bs
  have HB := Lib.hid HB0
  obtain ⟨zl, z0, z1, z2, z3, z4, z5, z6, z7, SAL, SA⟩ := sh_form (xs)
  obtain ⟨yl, y0, y1, y2, y3, y4, y5, y6, y7, SBL, SB⟩ := sh_form (bs)
  unfold SBox at HS0 HT0
  rw [SA] at HS0 hwb
  rw [SB] at HT0 hwb
  have HC : Hid (C18 wb w.heap.size zl z0 z1 z2 z3 z4 z5 z6 z7 yl y0 y1 y2 y3 y4 y5 y6 y7) := Lib.hid ⟨HS0, HT0⟩
  have PA : Hid (∀ m : Nat, bs.length ≤ m → m ≤ xs.length → ∀ w, Calls Try.prog 64 #[.agg #[.int .i64 zl, .int .i64 z0, .int .i64 z1, .int .i64 z2, .int .i64 z3, .int .i64 z4, .int .i64 z5, .int .i64 z6, .int .i64 z7], .int .i64 ((m : Int) - yl), .int .i64 m] w (Gives (shV ((xs.take m).drop (m - bs.length))) w)) := Lib.hid (fun m l1 l2 w => by
    have h := partC xs (m - bs.length) m w ha (by omega) l2 (by omega)
    rw [show shV xs = .agg (shA xs) from rfl, SA, show ((m - bs.length : Nat) : Int) = (m : Int) - yl by omega] at h
    exact h)
  have FA : Hid (∀ k : Nat, k ≤ xs.length → ∀ w, Calls Try.prog 65 #[.agg #[.int .i64 zl, .int .i64 z0, .int .i64 z1, .int .i64 z2, .int .i64 z3, .int .i64 z4, .int .i64 z5, .int .i64 z6, .int .i64 z7], .int .i64 k] w (Gives (shV (xs.take k)) w)) := Lib.hid (fun k hk w => by
    have h := firstC xs k w ha hk
    rw [show shV xs = .agg (shA xs) from rfl, SA] at h
    exact h)
  have EQA := Lib.hid (fun m (hk : m ≤ xs.length) (w : World) => eqSh ((xs.take m).drop (m - bs.length)) bs (by rw [List.length_drop, List.length_take]; omega) hb (fun z hz => ia z (List.mem_of_mem_take (List.mem_of_mem_drop hz))) ib w)
  obtain ⟨R, hR⟩ : ∃ R, R = shV (utL bs xs) := ⟨_, rfl⟩
  obtain ⟨T, hT⟩ : ∃ T, T = utM bs xs bs.length := ⟨_, rfl⟩
  have F1 := Lib.hid (fun m (h2 : m ≤ xs.length) (h3 : utM bs xs m = T) (h4 : (xs.take m).drop (m - bs.length) = bs) => show R = shV (xs.take m) by rw [hR]; unfold utL; rw [← hT, ← h3, utM_at h2, if_pos h4])
  have F2 : Hid (∀ m, xs.length < m → utM bs xs m = T → R = .agg #[.int .i64 zl, .int .i64 z0, .int .i64 z1, .int .i64 z2, .int .i64 z3, .int .i64 z4, .int .i64 z5, .int .i64 z6, .int .i64 z7]) := Lib.hid (fun m h2 h3 => by rw [hR]; unfold utL; rw [← hT, ← h3, utM_end h2, List.take_length, show shV xs = .agg (shA xs) from rfl, SA])
  have FN := Lib.hid (fun m (h2 : m ≤ xs.length) (h3 : utM bs xs m = T) (h4 : ¬ (xs.take m).drop (m - bs.length) = bs) => show utM bs xs (m + 1) = T by rw [utM_at h2, if_neg h4] at h3; exact h3)
  rw [← hR]
  rw [show shV xs = .agg (shA xs) from rfl, show shV bs = .agg (shA bs) from rfl, SA, SB]
  have UT := Lib.hid hT.symm
  obtain ⟨U, hU⟩ : ∃ U : Nat → Nat, U = utM bs xs := ⟨_, rfl⟩
  rw [← hU] at F1 F2 FN UT
  obtain ⟨n, hn⟩ : ∃ n, n = xs.length := ⟨_, rfl⟩
  obtain ⟨l, hl⟩ : ∃ l, l = bs.length := ⟨_, rfl⟩
  have n8 : n ≤ 8 := by omega
  have l8 : l ≤ 8 := by omega
  have l1 : 1 ≤ l := by omega
  have zN : zl = (n : Int) := by omega
  have yN : yl = (l : Int) := by omega
  have EB := Lib.hid SB
  have KZ : Hid (∀ V, Below wb.heap.size wb V → ZBox V (w.heap.size + 2)) := Lib.hid (fun V h => HZ0.below h (by omega))
  have CK : Hid (∀ V, Below wb.heap.size wb V → C18 V w.heap.size zl z0 z1 z2 z3 z4 z5 z6 z7 yl y0 y1 y2 y3 y4 y5 y6 y7) := Lib.hid (fun V h => ⟨(h.block _ (by omega)).trans HC.out.1, (h.block _ (by omega)).trans HC.out.2⟩)
  have KC : Hid (∀ V, Below wb.heap.size wb V → V.cell? ⟨w.heap.size, 0, none⟩ = some (.int .i64 zl) ∧ V.cell? ⟨w.heap.size, 1, none⟩ = some (.int .i64 z0) ∧ V.cell? ⟨w.heap.size, 2, none⟩ = some (.int .i64 z1) ∧ V.cell? ⟨w.heap.size, 3, none⟩ = some (.int .i64 z2) ∧ V.cell? ⟨w.heap.size, 4, none⟩ = some (.int .i64 z3) ∧ V.cell? ⟨w.heap.size, 5, none⟩ = some (.int .i64 z4) ∧ V.cell? ⟨w.heap.size, 6, none⟩ = some (.int .i64 z5) ∧ V.cell? ⟨w.heap.size, 7, none⟩ = some (.int .i64 z6) ∧ V.cell? ⟨w.heap.size, 8, none⟩ = some (.int .i64 z7) ∧ V.cell? ⟨w.heap.size + 1, 0, none⟩ = some (.int .i64 yl) ∧ V.cell? ⟨w.heap.size + 1, 1, none⟩ = some (.int .i64 y0) ∧ V.cell? ⟨w.heap.size + 1, 2, none⟩ = some (.int .i64 y1) ∧ V.cell? ⟨w.heap.size + 1, 3, none⟩ = some (.int .i64 y2) ∧ V.cell? ⟨w.heap.size + 1, 4, none⟩ = some (.int .i64 y3) ∧ V.cell? ⟨w.heap.size + 1, 5, none⟩ = some (.int .i64 y4) ∧ V.cell? ⟨w.heap.size + 1, 6, none⟩ = some (.int .i64 y5) ∧ V.cell? ⟨w.heap.size + 1, 7, none⟩ = some (.int .i64 y6) ∧ V.cell? ⟨w.heap.size + 1, 8, none⟩ = some (.int .i64 y7)) := Lib.hid (fun V h => by
    obtain ⟨h1, h2⟩ := CK.out V h
    obtain ⟨p0, p1, p2, p3, p4, p5, p6, p7, p8⟩ := nine_cells h1
    obtain ⟨q0, q1, q2, q3, q4, q5, q6, q7, q8⟩ := nine_cells h2
    exact ⟨p0, p1, p2, p3, p4, p5, p6, p7, p8, q0, q1, q2, q3, q4, q5, q6, q7, q8⟩)
  rw [← hn] at PA FA EQA F1 F2 FN
  rw [← hl] at PA EQA F1 FN UT
  have B1 := Lib.hid (Below.refl wb.heap.size wb)
  obtain ⟨p0, p1, p2, p3, p4, p5, p6, p7, p8, q0, q1, q2, q3, q4, q5, q6, q7, q8⟩ := KC.out wb B1.out
  have ltw : w.heap.size ≤ w.heap.size + 2 := by omega
  clear HS0 HT0 HZ0 HB0 SZ0 SA SB SAL SBL ia ib ha hb hU CK hR hT h1 hn hl HC
  subst zN
  subst yN
  go_enter Try.func54, Try.ntmps54
  go_wp2_with fail
  rw [← hwb]
  clear hwb
  go_wp2_with fail
  clear p0 p1 p2 p3 p4 p5 p6 p7 p8 q0 q1 q2 q3 q4 q5 q6 q7 q8
  go_loopg [5] (n + 1) (fun gg t wr => ∃ m : Nat, l ≤ m ∧ m ≤ n + 1 + l ∧ n + 1 - m ≤ gg ∧ t = .int .i64 (m : Int) ∧ Hid (U m = T) ∧ Hid (Below wb.heap.size wb wr))
  case atStart => exact ⟨l, by omega, by omega, by omega, rfl, UT, B1⟩
  case round =>
    clear B1 UT
    obtain ⟨m, hlo, hhi, hgg, rfl, HT, HW⟩ := hrel
    obtain ⟨wq, rfl⟩ : ∃ wq : World, wq = wr := ⟨_, rfl⟩
    obtain ⟨p0, p1, p2, p3, p4, p5, p6, p7, p8, q0, q1, q2, q3, q4, q5, q6, q7, q8⟩ := KC.out wq HW.out
    by_cases hlt : m ≤ n
    · have t1 : (m : Int) ≤ (n : Int) := by omega
      have t2 : (l : Int) ≤ (m : Int) := by omega
      have t3 : (m : Int) ≤ 8 := by omega
      have t4 : 0 ≤ (l : Int) := by omega
      have PAm := Lib.hid (fun w => PA.out m hlo hlt w)
      have FAm := Lib.hid (fun w => FA.out m hlt w)
      rw [← show IntKind.i64.wrap ((m : Int) - (l : Int)) = (m : Int) - (l : Int) from IntWalk.i64_in _ (by omega)] at PAm
      have EQ := fun w => EQA.out m hlt w
      have G1 := Lib.hid (F1.out m hlt HT.out)
      have GN := Lib.hid (FN.out m hlt HT.out)
      obtain ⟨P, hP⟩ : ∃ P, P = (xs.take m).drop (m - l) := ⟨_, rfl⟩
      rw [← hP] at PAm EQ G1 GN
      obtain ⟨sl, s0, s1, s2, s3, s4, s5, s6, s7, SCL, SC⟩ := sh_form (P)
      obtain ⟨rl, r0, r1, r2, r3, r4, r5, r6, r7, SDL, SD⟩ := sh_form (xs.take m)
      rw [show shV P = .agg (shA P) from rfl, SC] at PAm EQ
      rw [show shV bs = .agg (shA bs) from rfl, EB.out] at EQ
      rw [show shV (xs.take m) = .agg (shA (xs.take m)) from rfl, SD] at FAm G1
      have HD : Below wq.heap.size wq wq := Below.refl _ _
      have KN : Hid (∀ (V V' : World), Below wq.heap.size wq V → Below V.heap.size V V' → Below wq.heap.size wq V') := Lib.hid (fun V V' h b => bl_then h b)
      have KD : Hid (∀ V, Below wq.heap.size wq V → V.cell? ⟨w.heap.size, 0, none⟩ = some (.int .i64 (n : Int)) ∧ V.cell? ⟨w.heap.size, 1, none⟩ = some (.int .i64 z0) ∧ V.cell? ⟨w.heap.size, 2, none⟩ = some (.int .i64 z1) ∧ V.cell? ⟨w.heap.size, 3, none⟩ = some (.int .i64 z2) ∧ V.cell? ⟨w.heap.size, 4, none⟩ = some (.int .i64 z3) ∧ V.cell? ⟨w.heap.size, 5, none⟩ = some (.int .i64 z4) ∧ V.cell? ⟨w.heap.size, 6, none⟩ = some (.int .i64 z5) ∧ V.cell? ⟨w.heap.size, 7, none⟩ = some (.int .i64 z6) ∧ V.cell? ⟨w.heap.size, 8, none⟩ = some (.int .i64 z7) ∧ V.cell? ⟨w.heap.size + 1, 0, none⟩ = some (.int .i64 (l : Int)) ∧ V.cell? ⟨w.heap.size + 1, 1, none⟩ = some (.int .i64 y0) ∧ V.cell? ⟨w.heap.size + 1, 2, none⟩ = some (.int .i64 y1) ∧ V.cell? ⟨w.heap.size + 1, 3, none⟩ = some (.int .i64 y2) ∧ V.cell? ⟨w.heap.size + 1, 4, none⟩ = some (.int .i64 y3) ∧ V.cell? ⟨w.heap.size + 1, 5, none⟩ = some (.int .i64 y4) ∧ V.cell? ⟨w.heap.size + 1, 6, none⟩ = some (.int .i64 y5) ∧ V.cell? ⟨w.heap.size + 1, 7, none⟩ = some (.int .i64 y6) ∧ V.cell? ⟨w.heap.size + 1, 8, none⟩ = some (.int .i64 y7)) := Lib.hid (fun V h => KC.out V (HW.out.trans (h.mono HW.out.size)))
      obtain ⟨bb, hbb⟩ : ∃ bb, bb = decide (P = bs) := ⟨_, rfl⟩
      rw [← hbb] at EQ
      have GT : Hid (bb = true → R = .agg #[.int .i64 rl, .int .i64 r0, .int .i64 r1, .int .i64 r2, .int .i64 r3, .int .i64 r4, .int .i64 r5, .int .i64 r6, .int .i64 r7]) := Lib.hid (fun h => G1.out (of_decide_eq_true (hbb.symm.trans h)))
      have GF : Hid (bb = false → U (m + 1) = T) := Lib.hid (fun h => GN.out (of_decide_eq_false (hbb.symm.trans h)))
      clear hbb SC SD SCL SDL G1 GN hP
      go_upto_region 4 with fail
      go_region_held3 (fun w' => w'.cell? ⟨w.heap.size, 0, none⟩ = some (.int .i64 (n : Int)) ∧ w'.cell? ⟨w.heap.size, 1, none⟩ = some (.int .i64 z0) ∧ w'.cell? ⟨w.heap.size, 2, none⟩ = some (.int .i64 z1) ∧ w'.cell? ⟨w.heap.size, 3, none⟩ = some (.int .i64 z2) ∧ w'.cell? ⟨w.heap.size, 4, none⟩ = some (.int .i64 z3) ∧ w'.cell? ⟨w.heap.size, 5, none⟩ = some (.int .i64 z4) ∧ w'.cell? ⟨w.heap.size, 6, none⟩ = some (.int .i64 z5) ∧ w'.cell? ⟨w.heap.size, 7, none⟩ = some (.int .i64 z6) ∧ w'.cell? ⟨w.heap.size, 8, none⟩ = some (.int .i64 z7) ∧ w'.cell? ⟨w.heap.size + 1, 0, none⟩ = some (.int .i64 (l : Int)) ∧ w'.cell? ⟨w.heap.size + 1, 1, none⟩ = some (.int .i64 y0) ∧ w'.cell? ⟨w.heap.size + 1, 2, none⟩ = some (.int .i64 y1) ∧ w'.cell? ⟨w.heap.size + 1, 3, none⟩ = some (.int .i64 y2) ∧ w'.cell? ⟨w.heap.size + 1, 4, none⟩ = some (.int .i64 y3) ∧ w'.cell? ⟨w.heap.size + 1, 5, none⟩ = some (.int .i64 y4) ∧ w'.cell? ⟨w.heap.size + 1, 6, none⟩ = some (.int .i64 y5) ∧ w'.cell? ⟨w.heap.size + 1, 7, none⟩ = some (.int .i64 y6) ∧ w'.cell? ⟨w.heap.size + 1, 8, none⟩ = some (.int .i64 y7))
        (first | exact ⟨p0, p1, p2, p3, p4, p5, p6, p7, p8, q0, q1, q2, q3, q4, q5, q6, q7, q8⟩ | exact KD.out _ HD | exact KD.out _ (by assumption) | go_keep)
        (first | (go_at_call 64; (with_reducible refine (PAm.out _).mono ?_); rintro e v1 ⟨rfl, b1⟩; (first | (have b1 := un_drewO b1) | skip); (have D1 := KN.out _ _ (by first | exact HD | assumption) b1); clear b1))
      all_goals
        have HW5 := Lib.hid (HW.out.trans (D1.mono HW.out.size))
        cases bb
        · have OF := Lib.hid (GF.out rfl)
          clear GF GT HW HT KD D1 p0 p1 p2 p3 p4 p5 p6 p7 p8 q0 q1 q2 q3 q4 q5 q6 q7 q8
          go_wp2_with fail
          go_roundg (n + 1 - (m + 1))
          case rel => exact ⟨m + 1, by omega, by omega, by omega, by congr 1 <;> omega, OF, HW5⟩
          case measure => omega
        · have OT := Lib.hid (GT.out rfl)
          clear GF GT HW HT KD D1 p0 p1 p2 p3 p4 p5 p6 p7 p8 q0 q1 q2 q3 q4 q5 q6 q7 q8
          obtain ⟨p0, p1, p2, p3, p4, p5, p6, p7, p8, q0, q1, q2, q3, q4, q5, q6, q7, q8⟩ := KC.out _ HW5.out
          go_wp2_with fail
          refine (FAm.out _).mono ?_
          rintro e v2 ⟨rfl, b2⟩
          have HW6 := Lib.hid (bl_then HW5.out b2)
          have HZ := Lib.hid (KZ.out _ HW6.out)
          have HB6 := Lib.hid (HB.out.trans (HW6.out.mono HB.out.size))
          clear b2 p0 p1 p2 p3 p4 p5 p6 p7 p8 q0 q1 q2 q3 q4 q5 q6 q7 q8
          obtain ⟨c0, f0⟩ := HZ.out.cells 0 (by omega)
          obtain ⟨c1, f1⟩ := HZ.out.cells 1 (by omega)
          obtain ⟨c2, f2⟩ := HZ.out.cells 2 (by omega)
          obtain ⟨c3, f3⟩ := HZ.out.cells 3 (by omega)
          obtain ⟨c4, f4⟩ := HZ.out.cells 4 (by omega)
          obtain ⟨c5, f5⟩ := HZ.out.cells 5 (by omega)
          obtain ⟨c6, f6⟩ := HZ.out.cells 6 (by omega)
          obtain ⟨c7, f7⟩ := HZ.out.cells 7 (by omega)
          obtain ⟨c8, f8⟩ := HZ.out.cells 8 (by omega)
          go_wp2_with fail
          refine bodyPost_ret (v := .agg #[.int .i64 rl, .int .i64 r0, .int .i64 r1, .int .i64 r2, .int .i64 r3, .int .i64 r4, .int .i64 r5, .int .i64 r6, .int .i64 r7]) (by simp [results, Try.results54, go_sem, c0, c1, c2, c3, c4, c5, c6, c7, c8]) rfl ⟨by rw [OT.out], ?_⟩
          exact bl_nine HB6.out ltw _ _ _ _ _ _ _ _ _
    · have t1 : ¬ (m : Int) ≤ (n : Int) := by omega
      have OE := Lib.hid (F2.out m (by omega) HT.out)
      have HZ := Lib.hid (KZ.out _ HW.out)
      have HB6 := Lib.hid (HB.out.trans (HW.out.mono HB.out.size))
      clear HT 
      obtain ⟨c0, f0⟩ := HZ.out.cells 0 (by omega)
      obtain ⟨c1, f1⟩ := HZ.out.cells 1 (by omega)
      obtain ⟨c2, f2⟩ := HZ.out.cells 2 (by omega)
      obtain ⟨c3, f3⟩ := HZ.out.cells 3 (by omega)
      obtain ⟨c4, f4⟩ := HZ.out.cells 4 (by omega)
      obtain ⟨c5, f5⟩ := HZ.out.cells 5 (by omega)
      obtain ⟨c6, f6⟩ := HZ.out.cells 6 (by omega)
      obtain ⟨c7, f7⟩ := HZ.out.cells 7 (by omega)
      obtain ⟨c8, f8⟩ := HZ.out.cells 8 (by omega)
      go_wp2_with fail
      refine bodyPost_ret (v := .agg #[.int .i64 (n : Int), .int .i64 z0, .int .i64 z1, .int .i64 z2, .int .i64 z3, .int .i64 z4, .int .i64 z5, .int .i64 z6, .int .i64 z7]) (by simp [results, Try.results54, go_sem, c0, c1, c2, c3, c4, c5, c6, c7, c8]) rfl ⟨by rw [OE.out], ?_⟩
      exact bl_nine HB6.out ltw _ _ _ _ _ _ _ _ _
end Go.Proofs.Ytligidmkhbcpmaa
