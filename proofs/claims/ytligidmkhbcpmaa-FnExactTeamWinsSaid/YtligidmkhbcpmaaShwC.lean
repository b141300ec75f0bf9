/- Throws that are shown, and words, in the program. -/
import Derived.Test.YtligidmkhbcpmaaShwB
namespace Go.Proofs.Ytligidmkhbcpmaa
open Go.RowKit
set_option linter.unusedVariables false
def shOk (f : Int) (zs : List Int) (lo hi : Int) : Bool := decide (1 ≤ f ∧ f ≤ 6) && (decide (lo ≤ (zs.length : Int) ∧ (zs.length : Int) ≤ hi) && facB f zs)
def shZ (f : Int) (zs : List Int) (lo hi : Int) : List Int := if shOk f zs lo hi = true then zs else []
theorem sh_nil : shV [] = .agg #[.int .i64 0, .int .i64 0, .int .i64 0, .int .i64 0, .int .i64 0, .int .i64 0, .int .i64 0, .int .i64 0, .int .i64 0] := rfl
set_option maxHeartbeats 2000000 in
theorem outFPred (f : Int) (R : Nat) (cs : List Int) (w : World) (hf : 1 ≤ f ∧ f ≤ 6) (hR : R < w.heap.size) (hc : w.cell? ⟨R, 0, none⟩ = some (.int .i64 f)) :
    PredZ 63 #[.pointer (some ⟨R, 0, none⟩)] (outF f) cs w := by
  intro W z hz hb
  have F := Lib.hid (fun w => fromI z 0 (f - 1) w)
  have D : Hid (outF f z = !decide (0 ≤ z ∧ z ≤ f - 1)) := Lib.hid rfl
  have c0 : W.cell? ⟨R, 0, none⟩ = some (.int .i64 f) := (hb.cell (p := ⟨R, 0, none⟩) hR).trans hc
  obtain ⟨f1, f2⟩ := hf
  clear hb hz hc hR
  show Calls _ _ #[.int .i64 z, .pointer (some ⟨R, 0, none⟩)] _ _
  generalize decide (0 ≤ z ∧ z ≤ f - 1) = bb at *
  go_enter Try.func63, Try.ntmps63
  go_wp2_with fail
  refine (F.out _).mono ?_
  rintro e w1 ⟨rfl, rfl⟩
  go_wp2_with fail
  go_ret
  exact ⟨by rw [D.out]; rfl, Below.refl _ _⟩
theorem sf_setup (w : World) (f : Int) : ∃ wb, wb = (w.alloc (.cells #[.int .i64 f] 3)).alloc (.cells #[.int .i64 0, .int .i64 0, .int .i64 0, .int .i64 0, .int .i64 0, .int .i64 0, .int .i64 0, .int .i64 0, .int .i64 0] 47) ∧ wb.cell? ⟨w.heap.size, 0, none⟩ = some (.int .i64 f) ∧ ZBox wb (w.heap.size + 1) ∧ Below w.heap.size w wb ∧ wb.heap.size = w.heap.size + 2 := by
  refine ⟨_, rfl, ?_, ?_, ((Below.refl w.heap.size w).alloc (Nat.le_refl _) _).alloc (by simp) _, by simp⟩
  · have h := alloc_heap w (.cells #[.int .i64 f] 3)
    have h2 := ((Below.refl _ (w.alloc (.cells #[.int .i64 f] 3))).alloc (Nat.le_refl _) (.cells #[.int .i64 0, .int .i64 0, .int .i64 0, .int .i64 0, .int .i64 0, .int .i64 0, .int .i64 0, .int .i64 0, .int .i64 0] 47)).block w.heap.size (by simp)
    exact (cell_of_heap (o := 0) (h2.trans h) rfl).1
  · have h := alloc_heap (w.alloc (.cells #[.int .i64 f] 3)) (.cells #[.int .i64 0, .int .i64 0, .int .i64 0, .int .i64 0, .int .i64 0, .int .i64 0, .int .i64 0, .int .i64 0, .int .i64 0] 47)
    rw [show (w.alloc (.cells #[.int .i64 f] 3)).heap.size = w.heap.size + 1 by simp] at h
    exact h
set_option maxRecDepth 100000 in
set_option maxHeartbeats 4000000 in
theorem shownC (f : Int) (zs : List Int) (v : Value) (lo hi : Int) (w : World) (hn : zs.length ≤ 1048576) (hhi : hi ≤ 8) (h : IntsV w w.heap.size v zs) :
    Calls Try.prog 53 #[.int .i64 f, v, .int .i64 lo, .int .i64 hi] w (Gives (.tuple #[shV (shZ f zs lo hi), .bool (shOk f zs lo hi)]) w) := by
  have F1 := Lib.hid (fun w => fromI f 1 6 w)
  have F2 := Lib.hid (fun w => fromI (zs.length : Int) lo hi w)
  have hmf : ∀ (fn : Fn) (first cap : Array Value) (w : World), (Instr.makeFunc fn first cap).run Try.prog w = .ok (.func fn first cap) w := fun _ _ _ _ => rfl
  obtain ⟨wb, hwb, C0, HZ0, HB0, SZ0⟩ := sf_setup w f
  have HZ := Lib.hid HZ0
  have HB := Lib.hid HB0
  have IV : Hid (∀ w', Below w.heap.size w w' → IntsV w' w'.heap.size v zs) := Lib.hid (fun w' hb => (h.below hb).more hb.size)
  have IW : Hid (∀ w', Below w.heap.size w w' → IntsV w' w.heap.size v zs) := Lib.hid (fun w' hb => h.below hb)
  obtain ⟨qq, cq, rfl, lq, mq, _⟩ := h
  have ltz : w.heap.size + 1 < wb.heap.size := by omega
  have HC := Lib.hid C0
  clear HZ0 HB0 SZ0
  by_cases h1 : 1 ≤ f ∧ f ≤ 6
  · by_cases h2 : lo ≤ (zs.length : Int) ∧ (zs.length : Int) ≤ hi
    · have CV : Hid (∀ w', Below wb.heap.size wb w' → Calls Try.prog 59 #[.slice qq zs.length cq, .func (.func 63) #[] #[.pointer (some ⟨w.heap.size, 0, none⟩)]] w' (Gives (.bool (zs.any (outF f))) w')) := Lib.hid (fun w' hb => containsI zs _ 63 #[.pointer (some ⟨w.heap.size, 0, none⟩)] (outF f) w' (enters_of Try.func63 (by kernel_rfl) rfl) hn (IV.out w' (HB.out.trans (hb.mono HB.out.size))) (outFPred f w.heap.size zs w' h1 (by have := hb.size; omega) ((hb.cell (p := ⟨w.heap.size, 0, none⟩) (show w.heap.size < wb.heap.size by omega)).trans HC.out)))
      rw [any_outF] at CV
      cases hfb : facB f zs
      · have e1 : shOk f zs lo hi = false := by unfold shOk; rw [hfb, Bool.and_false, Bool.and_false]
        rw [show shZ f zs lo hi = [] from if_neg (by rw [e1]; decide), e1, sh_nil]
        clear e1
        rw [hfb] at CV
        rw [decide_eq_true h1] at F1
        rw [decide_eq_true h2] at F2
        clear hfb h1 h2
        go_enter Try.func53, Try.ntmps53
        go_wp2_with fail
        rw [← hwb]
        clear hwb
        refine (F1.out _).mono ?_
        rintro e w1 ⟨rfl, rfl⟩
        go_wp2_with fail
        refine (F2.out _).mono ?_
        rintro e w1 ⟨rfl, rfl⟩
        go_wp2_with fail
        refine (CV.out _ (Below.refl _ _)).mono ?_
        rintro e w3 ⟨rfl, b3⟩
        have HZ3 := Lib.hid (HZ.out.below b3 ltz)
        have HB3 := Lib.hid (HB.out.trans (b3.mono HB.out.size))
        clear b3
        obtain ⟨c0, f0⟩ := HZ3.out.cells 0 (by omega)
        obtain ⟨c1, f1⟩ := HZ3.out.cells 1 (by omega)
        obtain ⟨c2, f2⟩ := HZ3.out.cells 2 (by omega)
        obtain ⟨c3, f3⟩ := HZ3.out.cells 3 (by omega)
        obtain ⟨c4, f4⟩ := HZ3.out.cells 4 (by omega)
        obtain ⟨c5, f5⟩ := HZ3.out.cells 5 (by omega)
        obtain ⟨c6, f6⟩ := HZ3.out.cells 6 (by omega)
        obtain ⟨c7, f7⟩ := HZ3.out.cells 7 (by omega)
        obtain ⟨c8, f8⟩ := HZ3.out.cells 8 (by omega)
        go_wp2_with fail
        refine bodyPost_ret (v := .tuple #[.agg #[.int .i64 0, .int .i64 0, .int .i64 0, .int .i64 0, .int .i64 0, .int .i64 0, .int .i64 0, .int .i64 0, .int .i64 0], .bool false]) (by simp [results, Try.results53, go_sem, c0, c1, c2, c3, c4, c5, c6, c7, c8]) rfl ⟨rfl, ?_⟩
        first | exact bl_nine HB3.out (by omega) _ _ _ _ _ _ _ _ _ | exact HB3.out
      · have e1 : shOk f zs lo hi = true := by unfold shOk; rw [hfb, decide_eq_true h1, decide_eq_true h2]; rfl
        rw [show shZ f zs lo hi = zs from if_pos e1, e1]
        rw [hfb] at CV
        rw [decide_eq_true h1] at F1
        rw [decide_eq_true h2] at F2
        have l8 : zs.length ≤ 8 := by omega
        have l0 : 0 ≤ (zs.length : Int) := by omega
        clear e1 hfb h1 h2
        go_enter Try.func53, Try.ntmps53
        go_wp2_with fail
        rw [← hwb]
        clear hwb
        refine (F1.out _).mono ?_
        rintro e w1 ⟨rfl, rfl⟩
        go_wp2_with fail
        refine (F2.out _).mono ?_
        rintro e w1 ⟨rfl, rfl⟩
        go_wp2_with fail
        refine (CV.out _ (Below.refl _ _)).mono ?_
        rintro e w3 ⟨rfl, b3⟩
        have HZ3 := Lib.hid (HZ.out.below b3 ltz)
        have HB3 := Lib.hid (HB.out.trans (b3.mono HB.out.size))
        have s3 := b3.size
        have sw : w.heap.size ≤ w3.heap.size := HB3.out.size
        clear b3
        go_upto_region 5 with fail
        have HB4 := Lib.hid (HB3.out.alloc HB3.out.size (.cells #[.int .i64 (zs.length : Int), .int .i64 0, .int .i64 0, .int .i64 0, .int .i64 0, .int .i64 0, .int .i64 0, .int .i64 0, .int .i64 0] 47))
        have HP := alloc_heap w3 (.cells #[.int .i64 (zs.length : Int), .int .i64 0, .int .i64 0, .int .i64 0, .int .i64 0, .int .i64 0, .int .i64 0, .int .i64 0, .int .i64 0] 47)
        have HZ4 := Lib.hid (HZ3.out.below ((Below.refl w3.heap.size w3).alloc (Nat.le_refl _) (.cells #[.int .i64 (zs.length : Int), .int .i64 0, .int .i64 0, .int .i64 0, .int .i64 0, .int .i64 0, .int .i64 0, .int .i64 0, .int .i64 0] 47)) HZ3.out.lt)
        obtain ⟨w4, hw4⟩ : ∃ w4, w4 = w3.alloc (.cells #[.int .i64 (zs.length : Int), .int .i64 0, .int .i64 0, .int .i64 0, .int .i64 0, .int .i64 0, .int .i64 0, .int .i64 0, .int .i64 0] 47) := ⟨_, rfl⟩
        rw [← hw4] at HB4 HP HZ4 ⊢
        clear hw4
        obtain ⟨g, hg⟩ : ∃ g, g = w3.heap.size := ⟨_, rfl⟩
        rw [← hg] at HP ⊢
        have gz : w.heap.size + 1 < g := by omega
        obtain ⟨cur, hcur⟩ : ∃ cur, cur = (Value.int .i64 (zs.length : Int) :: List.replicate 8 (.int .i64 0)) := ⟨_, rfl⟩
        have HP2 := Lib.hid (show w4.heap[g]? = some (.cells cur.toArray 47 (0, 0)) by rw [hcur]; exact HP)
        have SPL := Lib.hid (show (splice cur 1 (zs.map (Value.int .i64))).toArray = shA zs by rw [hcur, sh_splice zs l8]; exact shA_map zs)
        have FIT := Lib.hid (show 1 + (zs.map (Value.int .i64)).length ≤ cur.length by rw [hcur]; simp; omega)
        have MIN := Lib.hid (show (zs.map (Value.int .i64)).length = Nat.min zs.length 8 by rw [List.length_map]; show zs.length = min zs.length 8; omega)
        have ONE := Lib.hid (fun (u : Value) (hu : u ∈ zs.map (Value.int .i64)) => show u.oneCell' = true by obtain ⟨z, _, rfl⟩ := List.mem_map.1 hu; rfl)
        have POS : Hid (0 < (zs.map (Value.int .i64)).length → ∃ ad, qq = some ad ∧ ∀ j u, (zs.map (Value.int .i64))[j]? = some u → w4.cell? (ad.add j) = some u) := Lib.hid (fun hpos => by
          rw [List.length_map] at hpos
          obtain ⟨q2, c2, e2, _, _, _, IA⟩ := IW.out w4 HB4.out
          injection e2 with e3 _ _
          subst e3
          obtain ⟨b1, off, rfl, hb1, _⟩ := IA.get hpos
          refine ⟨_, rfl, fun j u hu => ?_⟩
          rw [List.getElem?_map] at hu
          have hj : j < zs.length := by
            rcases Nat.lt_or_ge j zs.length with h' | h'
            · exact h'
            · rw [List.getElem?_eq_none h'] at hu; cases hu
          obtain ⟨b', off', e, hb', hc'⟩ := IA j hj
          obtain ⟨rfl, rfl⟩ : b1 = b' ∧ off = off' := by simpa using e
          rw [List.getElem?_eq_getElem hj] at hu
          rw [Addr.add_lit, hc']; exact hu)
        have hsz : (Try.prog.info? 3).map (·.size) = some 1 := by obtain ⟨i0, hi, hz0, hz1, hz2⟩ := info_parts intInfo; rw [hi]; simp [hz1]
        obtain ⟨cs, hcs⟩ : ∃ cs, cs = zs.map (Value.int .i64) := ⟨_, rfl⟩
        rw [← hcs] at SPL FIT MIN ONE POS
        have HBR := Lib.hid (Below.refl g w4)
        have HV := Lib.hid (show shV zs = .agg (shA zs) from rfl)
        obtain ⟨zl, z0, z1, z2, z3, z4, z5, z6, z7, SAL, SA⟩ := sh_form (zs)
        rw [SA] at HV SPL
        have SPH := Lib.hid SPL.out
        clear hcs hcur HP hg SA SAL IV IW HC HZ3 HB3 HZ HB SPL s3 sw
        go_wp2_with ((with_reducible show wpList _ _ _ _ _ _); refine wpList_copy_splice (o := ⟨some 36, _, _, _, _, _⟩) rfl (.tmp 34) (.tmp 35) 22 22 rfl 3 Try.underlying22 hsz (some ⟨g, 1, none⟩) qq 8 8 zs.length cq rfl rfl g 1 cur 47 HP2.out cs MIN.out (fun hpos => ⟨rfl, POS.out hpos⟩) FIT.out ONE.out g w4 HBR.out (Nat.le_refl _) ?_; intro w5 hg5 hb5; (have HS5 : w5.heap[g]? = some (.cells #[.int .i64 zl, .int .i64 z0, .int .i64 z1, .int .i64 z2, .int .i64 z3, .int .i64 z4, .int .i64 z5, .int .i64 z6, .int .i64 z7] 47 (0, 0)) := (by rw [← SPH.out]; exact hg5.out)); (obtain ⟨zc0, zc1, zc2, zc3, zc4, zc5, zc6, zc7, zc8⟩ := nine_cells HS5); (have HZ5 := HZ4.out.below hb5 gz); (obtain ⟨c0, f0⟩ := HZ5.cells 0 (by omega)); (obtain ⟨c1, f1⟩ := HZ5.cells 1 (by omega)); (obtain ⟨c2, f2⟩ := HZ5.cells 2 (by omega)); (obtain ⟨c3, f3⟩ := HZ5.cells 3 (by omega)); (obtain ⟨c4, f4⟩ := HZ5.cells 4 (by omega)); (obtain ⟨c5, f5⟩ := HZ5.cells 5 (by omega)); (obtain ⟨c6, f6⟩ := HZ5.cells 6 (by omega)); (obtain ⟨c7, f7⟩ := HZ5.cells 7 (by omega)); (obtain ⟨c8, f8⟩ := HZ5.cells 8 (by omega)); (have HB5 := Lib.hid (HB4.out.trans (hb5.mono (by omega)))))
        refine bodyPost_ret (v := .tuple #[.agg #[.int .i64 zl, .int .i64 z0, .int .i64 z1, .int .i64 z2, .int .i64 z3, .int .i64 z4, .int .i64 z5, .int .i64 z6, .int .i64 z7], .bool true]) (by simp [results, Try.results53, go_sem, c0, c1, c2, c3, c4, c5, c6, c7, c8]) rfl ⟨by rw [HV.out], ?_⟩
        exact bl_nine HB5.out (by omega) _ _ _ _ _ _ _ _ _
    · have e1 : shOk f zs lo hi = false := by unfold shOk; rw [decide_eq_false h2, Bool.false_and, Bool.and_false]
      rw [show shZ f zs lo hi = [] from if_neg (by rw [e1]; decide), e1, sh_nil]
      clear e1
      rw [decide_eq_true h1] at F1
      rw [decide_eq_false h2] at F2
      clear h1 h2
      go_enter Try.func53, Try.ntmps53
      go_wp2_with fail
      rw [← hwb]
      clear hwb
      refine (F1.out _).mono ?_
      rintro e w1 ⟨rfl, rfl⟩
      go_wp2_with fail
      refine (F2.out _).mono ?_
      rintro e w1 ⟨rfl, rfl⟩
      obtain ⟨c0, f0⟩ := HZ.out.cells 0 (by omega)
      obtain ⟨c1, f1⟩ := HZ.out.cells 1 (by omega)
      obtain ⟨c2, f2⟩ := HZ.out.cells 2 (by omega)
      obtain ⟨c3, f3⟩ := HZ.out.cells 3 (by omega)
      obtain ⟨c4, f4⟩ := HZ.out.cells 4 (by omega)
      obtain ⟨c5, f5⟩ := HZ.out.cells 5 (by omega)
      obtain ⟨c6, f6⟩ := HZ.out.cells 6 (by omega)
      obtain ⟨c7, f7⟩ := HZ.out.cells 7 (by omega)
      obtain ⟨c8, f8⟩ := HZ.out.cells 8 (by omega)
      go_wp2_with fail
      refine bodyPost_ret (v := .tuple #[.agg #[.int .i64 0, .int .i64 0, .int .i64 0, .int .i64 0, .int .i64 0, .int .i64 0, .int .i64 0, .int .i64 0, .int .i64 0], .bool false]) (by simp [results, Try.results53, go_sem, c0, c1, c2, c3, c4, c5, c6, c7, c8]) rfl ⟨rfl, ?_⟩
      first | exact bl_nine HB.out (by omega) _ _ _ _ _ _ _ _ _ | exact HB.out
  · have e1 : shOk f zs lo hi = false := by unfold shOk; rw [decide_eq_false h1, Bool.false_and]
    rw [show shZ f zs lo hi = [] from if_neg (by rw [e1]; decide), e1, sh_nil]
    clear e1
    rw [decide_eq_false h1] at F1
    clear h1
    go_enter Try.func53, Try.ntmps53
    go_wp2_with fail
    rw [← hwb]
    clear hwb
    refine (F1.out _).mono ?_
    rintro e w1 ⟨rfl, rfl⟩
    obtain ⟨c0, f0⟩ := HZ.out.cells 0 (by omega)
    obtain ⟨c1, f1⟩ := HZ.out.cells 1 (by omega)
    obtain ⟨c2, f2⟩ := HZ.out.cells 2 (by omega)
    obtain ⟨c3, f3⟩ := HZ.out.cells 3 (by omega)
    obtain ⟨c4, f4⟩ := HZ.out.cells 4 (by omega)
    obtain ⟨c5, f5⟩ := HZ.out.cells 5 (by omega)
    obtain ⟨c6, f6⟩ := HZ.out.cells 6 (by omega)
    obtain ⟨c7, f7⟩ := HZ.out.cells 7 (by omega)
    obtain ⟨c8, f8⟩ := HZ.out.cells 8 (by omega)
    go_wp2_with fail
    refine bodyPost_ret (v := .tuple #[.agg #[.int .i64 0, .int .i64 0, .int .i64 0, .int .i64 0, .int .i64 0, .int .i64 0, .int .i64 0, .int .i64 0, .int .i64 0], .bool false]) (by simp [results, Try.results53, go_sem, c0, c1, c2, c3, c4, c5, c6, c7, c8]) rfl ⟨rfl, ?_⟩
    first | exact bl_nine HB.out (by omega) _ _ _ _ _ _ _ _ _ | exact HB.out
theorem z_setup (w : World) : ∃ wb, wb = w.alloc (.cells #[.int .i64 0, .int .i64 0, .int .i64 0, .int .i64 0, .int .i64 0, .int .i64 0, .int .i64 0, .int .i64 0, .int .i64 0] 47) ∧ ZBox wb w.heap.size ∧ Below w.heap.size w wb ∧ wb.heap.size = w.heap.size + 1 :=
  ⟨_, rfl, alloc_heap w _, (Below.refl w.heap.size w).alloc (Nat.le_refl _) _, by simp⟩
theorem sh_word (f : Int) (zs : List Int) : shOk f zs 1 6 = wdOk f zs := by
  unfold shOk wdOk facOk
  have e : decide (1 ≤ (zs.length : Int) ∧ (zs.length : Int) ≤ 6) = decide (1 ≤ zs.length ∧ zs.length ≤ 6) := by rw [decide_eq_decide]; omega
  rw [e]
  cases decide (1 ≤ f ∧ f ≤ 6) <;> cases decide (1 ≤ zs.length ∧ zs.length ≤ 6) <;> cases facB f zs <;> rfl
def wdZ (f : Int) (zs : List Int) : List Int := if wdOk f zs = true then zs else []
theorem wd_bd {f : Int} {zs : List Int} (h : wdOk f zs = true) : (1 ≤ f ∧ f ≤ 6) ∧ (1 ≤ zs.length ∧ zs.length ≤ 6) ∧ facB f zs = true := by
  unfold wdOk facOk at h
  simp only [Bool.and_eq_true, decide_eq_true_iff] at h
  exact ⟨h.2.2, h.1, h.2.1⟩
theorem wdZ_len (f : Int) (zs : List Int) : (wdZ f zs).length ≤ 6 := by
  unfold wdZ
  split
  · rename_i h; exact (wd_bd h).2.1.2
  · simp
set_option maxRecDepth 100000 in
set_option maxHeartbeats 4000000 in
theorem wordC (f : Int) (zs : List Int) (v : Value) (w : World) (hn : zs.length ≤ 1048576) (h : IntsV w w.heap.size v zs) :
    Calls Try.prog 52 #[.int .i64 f, v] w (Gives (.tuple #[shV (wdZ f zs), .bool (wdOk f zs)]) w) := by
  obtain ⟨wb, hwb, HZ0, HB0, SZ0⟩ := z_setup w
  have HZ := Lib.hid HZ0
  have HB := Lib.hid HB0
  have SC : Hid (∀ w', Below w.heap.size w w' → Calls Try.prog 53 #[.int .i64 f, v, .int .i64 1, .int .i64 6] w' (Gives (.tuple #[shV (wdZ f zs), .bool (wdOk f zs)]) w')) := Lib.hid (fun w' hb => by
    have e := shownC f zs v 1 6 w' hn (by omega) ((h.below hb).more hb.size)
    unfold shZ at e
    rw [sh_word] at e
    exact e)
  obtain ⟨qq, cq, rfl, _⟩ := h
  have ltz : w.heap.size < wb.heap.size := by omega
  obtain ⟨zl, z0, z1, z2, z3, z4, z5, z6, z7, SAL, SA⟩ := sh_form (wdZ f zs)
  unfold shV at SC ⊢
  rw [SA] at SC ⊢
  obtain ⟨ok, hok⟩ : ∃ ok, ok = wdOk f zs := ⟨_, rfl⟩
  rw [← hok] at SC ⊢
  clear HZ0 HB0 SZ0 SA SAL hok
  go_enter Try.func52, Try.ntmps52
  go_wp2_with fail
  rw [← hwb]
  clear hwb
  refine (SC.out _ HB.out).mono ?_
  rintro e w1 ⟨rfl, b1⟩
  have HZ1 := Lib.hid (HZ.out.below b1 ltz)
  have HB1 := Lib.hid (HB.out.trans (b1.mono HB.out.size))
  clear b1
  obtain ⟨c0, f0⟩ := HZ1.out.cells 0 (by omega)
  obtain ⟨c1, f1⟩ := HZ1.out.cells 1 (by omega)
  obtain ⟨c2, f2⟩ := HZ1.out.cells 2 (by omega)
  obtain ⟨c3, f3⟩ := HZ1.out.cells 3 (by omega)
  obtain ⟨c4, f4⟩ := HZ1.out.cells 4 (by omega)
  obtain ⟨c5, f5⟩ := HZ1.out.cells 5 (by omega)
  obtain ⟨c6, f6⟩ := HZ1.out.cells 6 (by omega)
  obtain ⟨c7, f7⟩ := HZ1.out.cells 7 (by omega)
  obtain ⟨c8, f8⟩ := HZ1.out.cells 8 (by omega)
  go_wp2_with fail
  refine bodyPost_ret (v := .tuple #[.agg #[.int .i64 zl, .int .i64 z0, .int .i64 z1, .int .i64 z2, .int .i64 z3, .int .i64 z4, .int .i64 z5, .int .i64 z6, .int .i64 z7], .bool ok]) (by simp [results, Try.results52, go_sem, c0, c1, c2, c3, c4, c5, c6, c7, c8]) rfl ⟨rfl, ?_⟩
  exact bl_nine HB1.out (by omega) _ _ _ _ _ _ _ _ _
end Go.Proofs.Ytligidmkhbcpmaa
