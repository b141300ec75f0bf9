/- Overlaps and what a team has, in the program. -/
import Derived.Test.YtligidmkhbcpmaaShwB
import Derived.Test.YtligidmkhbcpmaaPowI
import Derived.Deep.RegionHeld3
import Derived.Deep.DeepCutAuto
namespace Go.Proofs.Ytligidmkhbcpmaa
open Go.RowKit
set_option linter.unusedVariables false
/-- Two boxes of what is shown. -/
theorem ss_setup (w : World) (xs bs : List Int) : ∃ wb, wb = (w.alloc (.cells (shA xs) 47)).alloc (.cells (shA bs) 47) ∧ SBox wb w.heap.size xs ∧ SBox wb (w.heap.size + 1) bs ∧ Below w.heap.size w wb ∧ wb.heap.size = w.heap.size + 2 := by
  refine ⟨_, rfl, (SBox.new w xs).next ((Below.refl _ _).alloc (Nat.le_refl _) _), ?_, ((Below.refl w.heap.size w).alloc (Nat.le_refl _) _).alloc (by simp) _, by simp⟩
  have h := alloc_heap (w.alloc (.cells (shA xs) 47)) (.cells (shA bs) 47)
  rw [show (w.alloc (.cells (shA xs) 47)).heap.size = w.heap.size + 1 by simp] at h
  exact h
/-- The cells of both boxes. -/
def C18 (w : World) (R : Nat) (A0 A1 A2 A3 A4 A5 A6 A7 A8 B0 B1 B2 B3 B4 B5 B6 B7 B8 : Int) : Prop :=
  w.heap[R]? = some (.cells #[.int .i64 A0, .int .i64 A1, .int .i64 A2, .int .i64 A3, .int .i64 A4, .int .i64 A5, .int .i64 A6, .int .i64 A7, .int .i64 A8] 47 (0, 0)) ∧ w.heap[R + 1]? = some (.cells #[.int .i64 B0, .int .i64 B1, .int .i64 B2, .int .i64 B3, .int .i64 B4, .int .i64 B5, .int .i64 B6, .int .i64 B7, .int .i64 B8] 47 (0, 0))
theorem heap_lt {w : World} {R : Nat} {o : Obj} (h : w.heap[R]? = some o) : R < w.heap.size := (Array.getElem?_eq_some_iff.1 h).1
theorem un_drewO {a b : World} (h : Below a.drew.heap.size a.drew b) : Below a.heap.size a b := ⟨h.os, h.tape, h.output, h.size, h.block⟩
set_option maxRecDepth 100000 in
set_option maxHeartbeats 8000000 in
theorem overC (xs bs : List Int) (w : World) (ha : xs.length ≤ 8) (hb : bs.length ≤ 8) (ia : ∀ z ∈ xs, InI64 z) (ib : ∀ z ∈ bs, InI64 z) :
    Calls Try.prog 66 #[shV xs, shV bs] w (NewInts (ovL xs bs) w) := by
  obtain ⟨wb, hwb, HS0, HT0, HB0, SZ0⟩ := ss_setup w xs bs
  have HB := Lib.hid HB0
  obtain ⟨zl, z0, z1, z2, z3, z4, z5, z6, z7, SAL, SA⟩ := sh_form (xs)
  obtain ⟨yl, y0, y1, y2, y3, y4, y5, y6, y7, SBL, SB⟩ := sh_form (bs)
  unfold SBox at HS0 HT0
  rw [SA] at HS0 hwb
  rw [SB] at HT0 hwb
  have HC : Hid (C18 wb w.heap.size zl z0 z1 z2 z3 z4 z5 z6 z7 yl y0 y1 y2 y3 y4 y5 y6 y7) := Lib.hid ⟨HS0, HT0⟩
  have LA : Hid (∀ k : Nat, 1 ≤ k → k ≤ xs.length → ∀ w, Calls Try.prog 70 #[.agg #[.int .i64 zl, .int .i64 z0, .int .i64 z1, .int .i64 z2, .int .i64 z3, .int .i64 z4, .int .i64 z5, .int .i64 z6, .int .i64 z7], .int .i64 k] w (Gives (shV (xs.drop (xs.length - k))) w)) := Lib.hid (fun k h1 hk w => by
    have h := lastC xs k w ha hk h1
    rw [show shV xs = .agg (shA xs) from rfl, SA] at h
    exact h)
  have FA : Hid (∀ k : Nat, k ≤ bs.length → ∀ w, Calls Try.prog 65 #[.agg #[.int .i64 yl, .int .i64 y0, .int .i64 y1, .int .i64 y2, .int .i64 y3, .int .i64 y4, .int .i64 y5, .int .i64 y6, .int .i64 y7], .int .i64 k] w (Gives (shV (bs.take k)) w)) := Lib.hid (fun k hk w => by
    have h := firstC bs k w hb hk
    rw [show shV bs = .agg (shA bs) from rfl, SB] at h
    exact h)
  rw [show shV xs = .agg (shA xs) from rfl, show shV bs = .agg (shA bs) from rfl, SA, SB]
  have OS := Lib.hid (fun i => show ovK xs bs (i + 1) = if xs.drop (xs.length - (i + 1)) = bs.take (i + 1) then ovK xs bs i ++ [(i : Int) + 1] else ovK xs bs i from rfl)
  have OL := Lib.hid (fun i => ovK_len xs bs i)
  have O0 := Lib.hid (show ovK xs bs 0 = [] from rfl)
  have OM := Lib.hid (show ovL xs bs = ovK xs bs (min xs.length bs.length) from rfl)
  rw [OM.out]
  have EQA := Lib.hid (fun k (hk : k ≤ bs.length) (w : World) => eqSh (xs.drop (xs.length - k)) (bs.take k) (by rw [List.length_drop]; omega) (by rw [List.length_take]; omega) (fun z hz => ia z (List.mem_of_mem_drop hz)) (fun z hz => ib z (List.mem_of_mem_take hz)) w)
  obtain ⟨m, hm⟩ : ∃ m, m = min xs.length bs.length := ⟨_, rfl⟩
  rw [← hm]
  have hm1 : m ≤ xs.length := by omega
  have hm2 : m ≤ bs.length := by omega
  have mI : min zl yl = (m : Int) := by omega
  have m8 : m ≤ 8 := by omega
  have O1 := Lib.hid (by have h := OwnV.empty wb wb.heap.size (Nat.le_refl _); rw [← O0.out] at h; exact h : OwnV (wb.alloc (.cells #[] 3)) wb.heap.size (wb.alloc (.cells #[] 3)).heap.size (.slice (some ⟨wb.heap.size, 0, none⟩) 0 0) (ovK xs bs 0))
  have B1 := Lib.hid ((Below.refl wb.heap.size wb).alloc (Nat.le_refl _) (.cells #[] 3))
  have hg2 : wb.heap.size = w.heap.size + 1 + 1 := by omega
  have ltb : w.heap.size + 1 < wb.heap.size := by omega
  have CK : Hid (∀ V, Below wb.heap.size wb V → C18 V w.heap.size zl z0 z1 z2 z3 z4 z5 z6 z7 yl y0 y1 y2 y3 y4 y5 y6 y7) := Lib.hid (fun V h => ⟨(h.block _ (by omega)).trans HC.out.1, (h.block _ ltb).trans HC.out.2⟩)
  have KC : Hid (∀ V, Below wb.heap.size wb V → V.cell? ⟨w.heap.size, 0, none⟩ = some (.int .i64 zl) ∧ V.cell? ⟨w.heap.size, 1, none⟩ = some (.int .i64 z0) ∧ V.cell? ⟨w.heap.size, 2, none⟩ = some (.int .i64 z1) ∧ V.cell? ⟨w.heap.size, 3, none⟩ = some (.int .i64 z2) ∧ V.cell? ⟨w.heap.size, 4, none⟩ = some (.int .i64 z3) ∧ V.cell? ⟨w.heap.size, 5, none⟩ = some (.int .i64 z4) ∧ V.cell? ⟨w.heap.size, 6, none⟩ = some (.int .i64 z5) ∧ V.cell? ⟨w.heap.size, 7, none⟩ = some (.int .i64 z6) ∧ V.cell? ⟨w.heap.size, 8, none⟩ = some (.int .i64 z7) ∧ V.cell? ⟨w.heap.size + 1, 0, none⟩ = some (.int .i64 yl) ∧ V.cell? ⟨w.heap.size + 1, 1, none⟩ = some (.int .i64 y0) ∧ V.cell? ⟨w.heap.size + 1, 2, none⟩ = some (.int .i64 y1) ∧ V.cell? ⟨w.heap.size + 1, 3, none⟩ = some (.int .i64 y2) ∧ V.cell? ⟨w.heap.size + 1, 4, none⟩ = some (.int .i64 y3) ∧ V.cell? ⟨w.heap.size + 1, 5, none⟩ = some (.int .i64 y4) ∧ V.cell? ⟨w.heap.size + 1, 6, none⟩ = some (.int .i64 y5) ∧ V.cell? ⟨w.heap.size + 1, 7, none⟩ = some (.int .i64 y6) ∧ V.cell? ⟨w.heap.size + 1, 8, none⟩ = some (.int .i64 y7)) := Lib.hid (fun V h => by
    obtain ⟨h1, h2⟩ := CK.out V h
    obtain ⟨p0, p1, p2, p3, p4, p5, p6, p7, p8⟩ := nine_cells h1
    obtain ⟨q0, q1, q2, q3, q4, q5, q6, q7, q8⟩ := nine_cells h2
    exact ⟨p0, p1, p2, p3, p4, p5, p6, p7, p8, q0, q1, q2, q3, q4, q5, q6, q7, q8⟩)
  obtain ⟨i0, hi, hz0, hz1, hz2⟩ := info_parts intInfo
  obtain ⟨U, hU⟩ : ∃ U : Nat → List Int, U = ovK xs bs := ⟨_, rfl⟩
  rw [← hU] at OS OL O0 O1 ⊢
  have AL := Lib.hid SAL
  have BL := Lib.hid SBL
  clear HS0 HT0 HB0 SZ0 SA SB SAL SBL hm ia ib ha hb hU CK
  go_enter Try.func66, Try.ntmps66
  go_wp2_with fail
  rw [← hwb]
  try rw [← hg2]
  clear hwb hg2
  go_loopg [5, 6] m (fun gg o t wr => ∃ i : Nat, i ≤ m ∧ m - i ≤ gg ∧ t = .int .i64 ((i : Int) + 1) ∧ Hid (OwnV wr wb.heap.size wr.heap.size o (U i)) ∧ Hid (Below wb.heap.size wb wr))
  case atStart => exact ⟨0, by omega, by omega, rfl, O1, B1⟩
  case round =>
    clear O1 B1
    obtain ⟨i, hi', hgg, rfl, HO, HW⟩ := hrel
    obtain ⟨wq, rfl⟩ : ∃ wq : World, wq = wr := ⟨_, rfl⟩
    have hcs := KC.out wq HW.out
    obtain ⟨p0, p1, p2, p3, p4, p5, p6, p7, p8, q0, q1, q2, q3, q4, q5, q6, q7, q8⟩ := hcs
    by_cases hlt : i < m
    · have t1 : (i : Int) + 1 ≤ (m : Int) := by omega
      have t2 : (i : Int) + 1 ≤ min zl yl := by omega
      have LAk := Lib.hid (fun w => LA.out (i + 1) (by omega) (by omega) w)
      have FAk := Lib.hid (fun w => FA.out (i + 1) (by omega) w)
      have EQ := fun w => EQA.out (i + 1) (by omega) w
      have os := OS.out i
      have ol := OL.out i
      rw [show ((i + 1 : Nat) : Int) = (i : Int) + 1 by omega] at LAk FAk
      obtain ⟨sl, s0, s1, s2, s3, s4, s5, s6, s7, SCL, SC⟩ := sh_form (xs.drop (xs.length - (i + 1)))
      obtain ⟨rl, r0, r1, r2, r3, r4, r5, r6, r7, SDL, SD⟩ := sh_form (bs.take (i + 1))
      rw [show shV (xs.drop (xs.length - (i + 1))) = .agg (shA (xs.drop (xs.length - (i + 1)))) from rfl, SC] at LAk EQ
      rw [show shV (bs.take (i + 1)) = .agg (shA (bs.take (i + 1))) from rfl, SD] at FAk EQ
      have sz := HW.out.size
      have HD : Below wq.heap.size wq wq := Below.refl _ _
      have KN : Hid (∀ (V V' : World), Below wq.heap.size wq V → Below V.heap.size V V' → Below wq.heap.size wq V') := Lib.hid (fun V V' h b => bl_then h b)
      have KD : Hid (∀ V, Below wq.heap.size wq V → V.cell? ⟨w.heap.size, 0, none⟩ = some (.int .i64 zl) ∧ V.cell? ⟨w.heap.size, 1, none⟩ = some (.int .i64 z0) ∧ V.cell? ⟨w.heap.size, 2, none⟩ = some (.int .i64 z1) ∧ V.cell? ⟨w.heap.size, 3, none⟩ = some (.int .i64 z2) ∧ V.cell? ⟨w.heap.size, 4, none⟩ = some (.int .i64 z3) ∧ V.cell? ⟨w.heap.size, 5, none⟩ = some (.int .i64 z4) ∧ V.cell? ⟨w.heap.size, 6, none⟩ = some (.int .i64 z5) ∧ V.cell? ⟨w.heap.size, 7, none⟩ = some (.int .i64 z6) ∧ V.cell? ⟨w.heap.size, 8, none⟩ = some (.int .i64 z7) ∧ V.cell? ⟨w.heap.size + 1, 0, none⟩ = some (.int .i64 yl) ∧ V.cell? ⟨w.heap.size + 1, 1, none⟩ = some (.int .i64 y0) ∧ V.cell? ⟨w.heap.size + 1, 2, none⟩ = some (.int .i64 y1) ∧ V.cell? ⟨w.heap.size + 1, 3, none⟩ = some (.int .i64 y2) ∧ V.cell? ⟨w.heap.size + 1, 4, none⟩ = some (.int .i64 y3) ∧ V.cell? ⟨w.heap.size + 1, 5, none⟩ = some (.int .i64 y4) ∧ V.cell? ⟨w.heap.size + 1, 6, none⟩ = some (.int .i64 y5) ∧ V.cell? ⟨w.heap.size + 1, 7, none⟩ = some (.int .i64 y6) ∧ V.cell? ⟨w.heap.size + 1, 8, none⟩ = some (.int .i64 y7)) := Lib.hid (fun V h => KC.out V (HW.out.trans (h.mono HW.out.size)))
      obtain ⟨bb, hbb⟩ : ∃ bb, bb = decide (xs.drop (xs.length - (i + 1)) = bs.take (i + 1)) := ⟨_, rfl⟩
      rw [← hbb] at EQ
      have OSE : Hid (U (i + 1) = if bb = true then U i ++ [(i : Int) + 1] else U i) := Lib.hid (by rw [os, hbb]; by_cases h : xs.drop (xs.length - (i + 1)) = bs.take (i + 1) <;> simp [h])
      clear os hbb SC SD SCL SDL
      go_upto_region 5 with fail
      go_region_held3 (fun w' => w'.cell? ⟨w.heap.size, 0, none⟩ = some (.int .i64 zl) ∧ w'.cell? ⟨w.heap.size, 1, none⟩ = some (.int .i64 z0) ∧ w'.cell? ⟨w.heap.size, 2, none⟩ = some (.int .i64 z1) ∧ w'.cell? ⟨w.heap.size, 3, none⟩ = some (.int .i64 z2) ∧ w'.cell? ⟨w.heap.size, 4, none⟩ = some (.int .i64 z3) ∧ w'.cell? ⟨w.heap.size, 5, none⟩ = some (.int .i64 z4) ∧ w'.cell? ⟨w.heap.size, 6, none⟩ = some (.int .i64 z5) ∧ w'.cell? ⟨w.heap.size, 7, none⟩ = some (.int .i64 z6) ∧ w'.cell? ⟨w.heap.size, 8, none⟩ = some (.int .i64 z7) ∧ w'.cell? ⟨w.heap.size + 1, 0, none⟩ = some (.int .i64 yl) ∧ w'.cell? ⟨w.heap.size + 1, 1, none⟩ = some (.int .i64 y0) ∧ w'.cell? ⟨w.heap.size + 1, 2, none⟩ = some (.int .i64 y1) ∧ w'.cell? ⟨w.heap.size + 1, 3, none⟩ = some (.int .i64 y2) ∧ w'.cell? ⟨w.heap.size + 1, 4, none⟩ = some (.int .i64 y3) ∧ w'.cell? ⟨w.heap.size + 1, 5, none⟩ = some (.int .i64 y4) ∧ w'.cell? ⟨w.heap.size + 1, 6, none⟩ = some (.int .i64 y5) ∧ w'.cell? ⟨w.heap.size + 1, 7, none⟩ = some (.int .i64 y6) ∧ w'.cell? ⟨w.heap.size + 1, 8, none⟩ = some (.int .i64 y7))
        (first | exact ⟨p0, p1, p2, p3, p4, p5, p6, p7, p8, q0, q1, q2, q3, q4, q5, q6, q7, q8⟩ | exact KD.out _ HD | exact KD.out _ (by assumption) | go_keep)
        (first
          | (go_at_call 70; (with_reducible refine (LAk.out _).mono ?_); rintro e v1 ⟨rfl, b1⟩; (first | (have b1 := un_drewO b1) | skip); (have D1 := KN.out _ _ (by first | exact HD | assumption) b1); clear b1)
          | (go_at_call 65; (with_reducible refine (FAk.out _).mono ?_); rintro e v2 ⟨rfl, b2⟩; (first | (have b2 := un_drewO b2) | skip); (have D2 := KN.out _ _ (by first | assumption | exact HD) b2); clear b2))
      all_goals
        have HW5 := Lib.hid (HW.out.trans (D2.mono HW.out.size))
        have HO5 := Lib.hid ((HO.out.below D2).wide D2.size (Nat.le_refl _))
        cases bb
        · have OF := Lib.hid (show U (i + 1) = U i from OSE.out)
          clear OSE HW HO D1 D2 KD p0 p1 p2 p3 p4 p5 p6 p7 p8 q0 q1 q2 q3 q4 q5 q6 q7 q8
          go_wp2_with fail
          go_roundg (m - (i + 1))
          case rel => exact ⟨i + 1, by omega, by omega, by congr 1 <;> omega, Lib.hid (by rw [OF.out]; exact HO5.out), HW5⟩
          case measure => omega
        · have OT := Lib.hid (show U (i + 1) = U i ++ [(i : Int) + 1] from OSE.out)
          obtain ⟨L, hL⟩ : ∃ L, L = U i := ⟨_, rfl⟩
          rw [← hL] at HO5 OT ol
          have hown := HO5.out.row
          have hsz := HW5.out.size
          have l1 : L.length ≤ 8 := by omega
          have IX := Lib.hid (show InI64 ((i : Int) + 1) by unfold InI64; omega)
          clear OSE HW HO D1 D2 KD hL ol p0 p1 p2 p3 p4 p5 p6 p7 p8 q0 q1 q2 q3 q4 q5 q6 q7 q8
          go_wp2_with (at_builtin; refine wpList_append_own _ rfl _ _ 22 rfl wb.heap.size 3 i0 (.int .i64 0) 1 8 Try.underlying22 hi hz0 hz1 hz2 rfl (by decide) _ L.length (L.map (.int .i64)) rfl (hown.alloc _) ⟨v2.heap.size, 0, none⟩ 1 1 [.int .i64 ((i : Int) + 1)] rfl rfl (cell_one_new _ _ _) (fun x hx => by simp at hx; subst hx; rfl) (by unfold maxLen; omega) (by omega) (by simp; omega) ?_; intro v' w3 hown3 hgrow3 hnil3)
          have bel3 := Lib.hid ((HW5.out.alloc HW5.out.size _).grown hgrow3 (by simp; omega) (fun q hq => by have := (hown.lt q hq).1; omega))
          have own3 := Lib.hid (HO5.out.app IX.out hown3)
          clear hown hown3 hgrow3 hnil3
          go_roundg (m - (i + 1))
          case rel => exact ⟨i + 1, by omega, by omega, by congr 1 <;> omega, Lib.hid (by rw [OT.out]; exact own3.out), bel3⟩
          case measure => omega
    · have him : i = m := by omega
      have t1 : ¬ (i : Int) + 1 ≤ (m : Int) := by omega
      have t2 : ¬ (i : Int) + 1 ≤ min zl yl := by omega
      have FIN : Hid (∀ o, OwnV wq wb.heap.size wq.heap.size o (U i) → NewInts (U m) w (.returned o) wq) := Lib.hid (fun o h => ⟨o, rfl, by rw [← him]; exact h.low HB.out.size, HB.out.trans (HW.out.mono HB.out.size)⟩)
      clear him
      go_wp2_with fail
      go_ret
      exact FIN.out _ HO.out
end Go.Proofs.Ytligidmkhbcpmaa
