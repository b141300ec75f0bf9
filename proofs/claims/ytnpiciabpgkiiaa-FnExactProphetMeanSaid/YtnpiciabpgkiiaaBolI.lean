/- The best of several offers: its weights and its mean, in the program. -/
import Derived.Test.YtnpiciabpgkiiaaBolP
import Derived.Test.YtnpiciabpgkiiaaTabG
import Derived.Test.YtnpiciabpgkiiaaL7I
namespace Go.Proofs.Ytnpiciabpgkiiaa
open Go.RowKit
set_option linter.unusedVariables false
def PredS (g : Nat) (p : Nat → Bool) (R : Nat) (f : Nat → List Int) (w : World) : Prop :=
  ∀ (W : World) (i : Nat) (u : Value), i < R → IntsV W W.heap.size u (f i) → Calls Try.prog g #[u] W fun e w' => e = .returned (.bool (p i)) ∧ Below W.heap.size W w'
def anyR (p : Nat → Bool) (R : Nat) : Bool := (List.range R).any p
theorem anyR_hit {p : Nat → Bool} {R i : Nat} (hi : i < R) (h : p i = true) : anyR p R = true := List.any_eq_true.2 ⟨i, List.mem_range.2 hi, h⟩
theorem anyR_miss {p : Nat → Bool} {R : Nat} (h : ∀ i, i < R → p i = false) : anyR p R = false := by
  cases hb : anyR p R
  · rfl
  · obtain ⟨i, hi, hp⟩ := List.any_eq_true.1 hb
    rw [h i (List.mem_range.1 hi)] at hp; cases hp
set_option maxHeartbeats 2000000 in
theorem indexSS (R : Nat) (f : Nat → List Int) (v : Value) (g : Nat) (p : Nat → Bool) (w : World) (eg : ∀ args w, (callFunc g args).run Try.prog w = .ok (.enter g args) w)
    (hn : R ≤ 1048576) (h : TabV w w.heap.size v R f) (hp : PredS g p R f w) :
    Calls Try.prog 92 #[v, .func (.func g) #[] #[]] w fun e w' => ∃ k : Int, e = .returned (.int .i64 k) ∧ -1 ≤ k ∧ k ≤ 1048576 ∧ decide (0 ≤ k) = anyR p R ∧ Below w.heap.size w w' := by
  obtain ⟨q, cq, rfl, lq, mq, iq⟩ := h
  have E1 := Lib.hid iq
  have PP := Lib.hid hp
  clear iq mq hp
  go_enter Try.func92, Try.ntmps92
  go_wp2
  go_loopw [8] (fun i wr => ∃ k : Nat, k ≤ R ∧ i = .int .i64 k ∧ Hid (∀ j, j < k → p j = false) ∧ Hid (Below w.heap.size w wr)) (fun i _ => R - (intOf i).toNat)
  case atStart => exact ⟨0, Nat.zero_le _, rfl, Lib.hid (fun j hj => by omega), Lib.hid (Below.refl _ _)⟩
  case round =>
    obtain ⟨k, hk, rfl, HA, HB⟩ := hrel
    by_cases hlt : k < R
    · obtain ⟨b, off, u, rfl, hb, hc, hu⟩ := E1.out k hlt
      have hcw : wr.cell? ⟨b, off + k, none⟩ = some u := by rw [HB.out.cell (p := ⟨b, off + k, none⟩) hb]; exact hc
      have C := Lib.hid (PP.out wr k u hlt ((hu.below HB.out).more HB.out.size))
      have i0 : (0 : Int) ≤ (k : Int) := by omega
      have i1 : (k : Int) < (R : Int) := by omega
      have HIT := Lib.hid (anyR_hit (p := p) hlt)
      have NX : Hid (p k = false → ∀ j, j < k + 1 → p j = false) := Lib.hid (fun h j hj => by
        rcases Nat.lt_or_ge j k with h' | h'
        · exact HA.out j h'
        · obtain rfl : j = k := by omega
          exact h)
      obtain ⟨q2, d2, rfl, _⟩ := hu
      clear hc HA
      obtain ⟨t, ht⟩ : ∃ t, t = p k := ⟨_, rfl⟩
      rw [← ht] at C HIT NX
      clear ht
      cases t
      · have N2 := Lib.hid (NX.out rfl)
        clear HIT NX
        go_wp2_with (go_at_fn g; refine C.out.mono ?_; rintro e w1 ⟨rfl, b1⟩)
        have HB1 := Lib.hid (HB.out.trans (b1.mono HB.out.size))
        clear b1
        go_roundw
        case rel => exact ⟨k + 1, by omega, by go_num, N2, HB1⟩
        case measure => simp [intOf]; omega
      · have N2 := Lib.hid (HIT.out rfl)
        clear HIT NX
        go_wp2_with (go_at_fn g; refine C.out.mono ?_; rintro e w1 ⟨rfl, b1⟩)
        have HB1 := Lib.hid (HB.out.trans (b1.mono HB.out.size))
        clear b1
        go_ret
        exact ⟨_, rfl, by omega, by omega, by rw [N2.out, decide_eq_true_iff]; omega, HB1.out⟩
    · have RR := Lib.hid (anyR_miss (p := p) (R := R) (fun j hj => HA.out j (by omega)))
      clear HA
      go_wp2
      go_ret
      exact ⟨_, rfl, by omega, by omega, by rw [RR.out]; rfl, HB.out⟩
theorem containsSS (R : Nat) (f : Nat → List Int) (v : Value) (g : Nat) (p : Nat → Bool) (w : World) (eg : ∀ args w, (callFunc g args).run Try.prog w = .ok (.enter g args) w)
    (hn : R ≤ 1048576) (h : TabV w w.heap.size v R f) (hp : PredS g p R f w) :
    Calls Try.prog 79 #[v, .func (.func g) #[] #[]] w (Gives (.bool (anyR p R)) w) := by
  have C := Lib.hid (indexSS R f v g p w eg hn h hp)
  obtain ⟨q, cq, rfl, _⟩ := h
  clear hp
  go_enter Try.func79, Try.ntmps79
  go_wp2_with fail
  refine C.out.mono ?_
  rintro e w1 ⟨k, rfl, h1, h2, h3, b1⟩
  have HB := Lib.hid b1
  have H3 := Lib.hid h3
  clear b1 h3
  go_wp2_with fail
  go_ret
  exact ⟨ret_b H3.out.symm, HB.out⟩
theorem TabV.boxed {w w' : World} {R : Nat} {v : Value} {f : Nat → List Int} (h : TabV w w.heap.size v R f) (hb : Below w.heap.size w w') : TabV w' w'.heap.size v R f := (h.below hb).more hb.size
theorem TabV.shape {w : World} {B R : Nat} {v : Value} {f : Nat → List Int} (h : TabV w B v R f) : ∃ p c, v = .slice p R c := by
  obtain ⟨p, c, e, _⟩ := h; exact ⟨p, c, e⟩
def noLaw (f : Nat → List Int) (i : Nat) : Bool := !lawB (f i)
theorem anyR_laws (R : Nat) (f : Nat → List Int) : anyR (noLaw f) R = !((List.range R).all fun i => lawB (f i)) := by
  unfold anyR noLaw
  rw [List.not_all_eq_any_not]
set_option maxHeartbeats 2000000 in
theorem noLawPred (R : Nat) (f : Nat → List Int) (w : World) : PredS 78 (noLaw f) R f w := by
  intro W i u hi hu
  have C := Lib.hid (isLawI (f i) u W hu)
  have D : Hid (noLaw f i = !lawB (f i)) := Lib.hid rfl
  obtain ⟨q, d, rfl, _⟩ := hu
  generalize lawB (f i) = bb at *
  go_enter Try.func78, Try.ntmps78
  go_wp2_with fail
  refine C.out.mono ?_
  rintro e w1 ⟨rfl, b1⟩
  have HB := Lib.hid b1
  clear b1
  go_wp2_with fail
  go_ret
  exact ⟨by rw [D.out]; rfl, HB.out⟩
set_option maxHeartbeats 2000000 in
theorem areLawsI (R : Nat) (f : Nat → List Int) (v : Value) (w : World) (h : TabV w w.heap.size v R f) :
    Calls Try.prog 57 #[v] w (Gives (.bool (lawsB R f)) w) := by
  have hmf : ∀ (fn : Fn) (first cap : Array Value) (w : World), (Instr.makeFunc fn first cap).run Try.prog w = .ok (.func fn first cap) w := fun _ _ _ _ => rfl
  have hR : R ≤ 9223372036854775807 := by
    obtain ⟨p, c, _, _, hm, _⟩ := h
    unfold maxLen at hm; omega
  unfold lawsB
  by_cases h4 : R ≤ 4
  · have CV := Lib.hid (containsSS R f v 78 (noLaw f) w (enters_of Try.func78 (by kernel_rfl) rfl) (by omega) h (noLawPred R f w))
    rw [anyR_laws] at CV
    rw [decide_eq_true h4, Bool.true_and]
    generalize ((List.range R).all fun i => lawB (f i)) = bb at *
    obtain ⟨p, c, rfl⟩ := h.shape
    have i4 : (R : Int) ≤ 4 := by omega
    clear h h4
    go_enter Try.func57, Try.ntmps57
    go_wp2_with fail
    refine CV.out.mono ?_
    rintro e w1 ⟨rfl, b1⟩
    have HB := Lib.hid b1
    clear b1
    go_wp2_with fail
    go_ret
    exact ⟨ret_b (by simp), HB.out⟩
  · rw [decide_eq_false h4, Bool.false_and]
    obtain ⟨p, c, rfl⟩ := h.shape
    have i4 : ¬ (R : Int) ≤ 4 := by omega
    clear h h4
    go_enter Try.func57, Try.ntmps57
    go_wp2_with fail
    go_ret
    exact ⟨rfl, Below.refl _ _⟩
theorem one5 : (List.replicate 5 (0 : Int)).set 0 1 = [1, 0, 0, 0, 0] := by decide
set_option maxRecDepth 100000 in
set_option maxHeartbeats 4000000 in
theorem bestI7 (R : Nat) (f : Nat → List Int) (v : Value) (w : World) (h : TabV w w.heap.size v R f) :
    Calls Try.prog 22 #[v] w (NewIntsB (ifLaws R f (bwT f R)) (lawsB R f) w) := by
  have AL := Lib.hid (areLawsI R f v w h)
  cases hl : lawsB R f
  · rw [show ifLaws R f (bwT f R) = [] from if_neg (by rw [hl]; decide)]
    rw [hl] at AL
    obtain ⟨p, c, rfl⟩ := h.shape
    clear h hl
    go_enter Try.func22, Try.ntmps22
    go_wp2_with fail
    refine AL.out.mono ?_
    rintro e w1 ⟨rfl, b1⟩
    have HB := Lib.hid b1
    clear b1
    go_wp2_with fail
    go_ret2
    exact newInts_empty HB.out
  · rw [show ifLaws R f (bwT f R) = bwT f R from if_pos hl]
    have P := lawsB_iff.1 hl
    rw [hl] at AL
    have P4 := P.n4
    have LAW := Lib.hid P.law
    have BA := Lib.hid (fun i (hi : i ≤ R) v (hv : v < 5) => bw_at P hi v hv)
    have NA := Lib.hid (fun i v u (hi : i < R) (hv : v < 5) (hu : u ≤ (f i).length) m (hm : m < 5) => in_at P hi hv hu m hm)
    have BL := Lib.hid (bwT_len f)
    have B0 := Lib.hid (show bwT f 0 = [1, 0, 0, 0, 0] from rfl)
    have BS := Lib.hid (fun i => show bwT f (i + 1) = outT (bwT f i) (f i) 5 from rfl)
    have OL := Lib.hid (fun now law v => outT_len now law v)
    have O0 := Lib.hid (fun now law => show outT now law 0 = List.replicate 5 0 from rfl)
    have OS := Lib.hid (fun now law v => show outT now law (v + 1) = inT now law v (outT now law v) law.length from rfl)
    have IL := Lib.hid (fun now law v acc u => inT_len now law v acc u)
    have I0 := Lib.hid (fun now law v acc => show inT now law v acc 0 = acc from rfl)
    have IS := Lib.hid (fun now law v acc u => show inT now law v acc (u + 1) = (inT now law v acc u).set (max u v) ((inT now law v acc u).getD (max u v) 0 + now.getD v 0 * law.getD u 0) from rfl)
    obtain ⟨p, c, rfl, hc, hm, hS⟩ := h
    have S := Lib.hid hS
    clear hS hl P hm hc
    obtain ⟨i0, hi, hz0, hz1, hz2⟩ := info_parts intInfo
    have c1 : i0.bytes * 5 ≤ 281474976710656 := by rw [hz2]; omega
    have c2 : 5 ≤ maxLen := by unfold maxLen; omega
    go_enter Try.func22, Try.ntmps22
    go_wp2_with fail
    refine AL.out.mono ?_
    rintro e w1 ⟨rfl, b1⟩
    have HB1 := Lib.hid b1
    clear b1
    go_wp2_with (at_make; refine wpList_make_full _ rfl _ _ 22 rfl w1.heap.size 3 i0 (.int .i64 0) 1 Try.underlying22 hi hz0 hz1 .i64 .i64 _ _ 5 rfl rfl rfl rfl c1 c2 (Nat.le_refl _) ?_; intro w2 hown2 hg2; have o2 : OwnV w2 w1.heap.size w2.heap.size (.slice (some ⟨w1.heap.size, 0, none⟩) 5 5) (List.replicate 5 0) := (by (have h2 := hown2); (rw [show (Value.int .i64 0).cells = #[Value.int .i64 0] from rfl, Nat.mul_one, toList_madeCells_one] at h2); exact OwnV.made (by simpa using h2)); have q2 := o2.cellGet (j := 0) (by decide); have f2 := o2.frozenGet 0)
    have b2 : Below w1.heap.size w1 w2 := (Below.refl _ _).grown hg2 (Nat.le_refl _) (by simp)
    have ON := Lib.hid (show OwnV (w2.setCell ⟨w1.heap.size, 0, none⟩ (.int .i64 1)) w1.heap.size w2.heap.size (.slice (some ⟨w1.heap.size, 0, none⟩) 5 5) (bwT f 0) from by
      rw [B0.out, ← one5]; exact o2.setAt 0 (by unfold InI64; omega))
    have HBN := Lib.hid ((bl_then HB1.out b2).setCell (p := ⟨w1.heap.size, 0, none⟩) HB1.out.size (.int .i64 1))
    have SZ1 := Lib.hid HB1.out.size
    have szs : (w2.setCell ⟨w1.heap.size, 0, none⟩ (.int .i64 1)).heap.size = w2.heap.size := by simp [World.setCell]
    obtain ⟨w3, hw3⟩ : ∃ w3, w3 = w2.setCell ⟨w1.heap.size, 0, none⟩ (.int .i64 1) := ⟨_, rfl⟩
    rw [← hw3] at ON HBN szs ⊢
    rw [← szs] at ON
    clear hown2 hg2 o2 q2 f2 b2 hw3 szs c1
    go_loopg [4, 21] R (fun gg s i wr => ∃ (k g cap : Nat), k ≤ R ∧ R - k ≤ gg ∧ i = .int .i64 k ∧ s = .slice (some ⟨g, 0, none⟩) 5 cap ∧ Hid (OwnV wr w.heap.size wr.heap.size (.slice (some ⟨g, 0, none⟩) 5 cap) (bwT f k)) ∧ Hid (Below w.heap.size w wr))
    case atStart => exact ⟨0, w1.heap.size, 5, Nat.zero_le _, by omega, rfl, rfl, Lib.hid (ON.out.low SZ1.out), HBN⟩
    case round =>
      clear ON HBN SZ1
      obtain ⟨wo, rfl⟩ : ∃ wo : World, wo = wr := ⟨_, rfl⟩
      obtain ⟨k, g, cap, hk, hgg, rfl, rfl, HO, HB⟩ := hrel
      by_cases hlt : k < R
      · obtain ⟨b, off, u, rfl, hb, hcu, hu⟩ := S.out k hlt
        have hcw : wo.cell? ⟨b, off + k, none⟩ = some u := by rw [HB.out.cell (p := ⟨b, off + k, none⟩) hb]; exact hcu
        have k0 : (0 : Int) ≤ (k : Int) := by omega
        have k1 : (k : Int) < (R : Int) := by omega
        have L5 := (LAW.out k hlt).n5
        have LBD := Lib.hid (LAW.out k hlt).bd
        have NB := Lib.hid (fun v hv => BA.out k hk v hv)
        have NX := Lib.hid (fun v u hv hu m hm => NA.out k v u hlt hv hu m hm)
        have BSK := Lib.hid (BS.out k)
        have nowl := BL.out k
        obtain ⟨now, hnow⟩ : ∃ now, now = bwT f k := ⟨_, rfl⟩
        obtain ⟨law, hlaw⟩ : ∃ law, law = f k := ⟨_, rfl⟩
        rw [← hnow] at HO NB NX BSK nowl
        rw [← hlaw] at hu L5 LBD NX BSK
        obtain ⟨q2, d2, rfl, _, _, _, iu⟩ := hu
        have EU := Lib.hid iu
        have hown := HO.out
        have szo := HB.out.size
        clear iu hcu hnow hlaw
        go_wp2_with (at_make; refine wpList_make_full _ rfl _ _ 22 rfl wo.heap.size 3 i0 (.int .i64 0) 1 Try.underlying22 hi hz0 hz1 .i64 .i64 _ _ 5 rfl rfl rfl rfl (by rw [hz2]; omega) c2 (Nat.le_refl _) ?_; intro w4 hown4 hg4; have hs4 := hg4.size)
        have o4 : OwnV w4 wo.heap.size w4.heap.size (.slice (some ⟨wo.heap.size, 0, none⟩) 5 5) (outT now law 0) := by
          have h2 := hown4
          rw [show (Value.int .i64 0).cells = #[Value.int .i64 0] from rfl, Nat.mul_one, toList_madeCells_one] at h2
          rw [O0.out]
          exact OwnV.made (by simpa using h2)
        have b4 : Below wo.heap.size wo w4 := (Below.refl _ _).grown hg4 (Nat.le_refl _) (by simp)
        have ON := Lib.hid o4
        have OW := Lib.hid (hown.below b4)
        have HB4 := Lib.hid (HB.out.trans (b4.mono HB.out.size))
        have GLT := Lib.hid (hown.lt g rfl)
        have SZO := Lib.hid szo
        clear hown4 hg4 o4 b4 hown HO HB hcw szo hs4
        go_loopg [28] 5 (fun gg i wr => ∃ v : Nat, v ≤ 5 ∧ 5 - v ≤ gg ∧ i = .int .i64 v ∧ Hid (OwnV wr wo.heap.size wr.heap.size (.slice (some ⟨wo.heap.size, 0, none⟩) 5 5) (outT now law v)) ∧ Hid (OwnV wr w.heap.size wo.heap.size (.slice (some ⟨g, 0, none⟩) 5 cap) now) ∧ Hid (Below w.heap.size w wr))
        case atStart => exact ⟨0, Nat.zero_le _, by omega, rfl, ON, OW, HB4⟩
        case round =>
          clear ON OW HB4
          obtain ⟨wq, rfl⟩ : ∃ wq : World, wq = wr := ⟨_, rfl⟩
          obtain ⟨v, hv, hgg2, rfl, HN, HW, HB⟩ := hrel
          by_cases hlv : v < 5
          · have ncell := HW.out.cellGet (j := v) (by rw [nowl]; exact hlv)
            have v0 : (0 : Int) ≤ (v : Int) := by omega
            have v1 : (v : Int) < 5 := by omega
            have nb := NB.out v hlv
            have NXV := Lib.hid (fun u hu m hm => NX.out v u hlv hu m hm)
            have OSV := Lib.hid (OS.out now law v)
            have ISV := Lib.hid (fun u => IS.out now law v (outT now law v) u)
            have ISL : Hid (∀ u, (inT now law v (outT now law v) u).length = 5) := Lib.hid (fun u => by rw [IL.out, OL.out])
            have II : Hid (OwnV wq wo.heap.size wq.heap.size (.slice (some ⟨wo.heap.size, 0, none⟩) 5 5) (inT now law v (outT now law v) 0)) := Lib.hid (by rw [I0.out]; exact HN.out)
            obtain ⟨x, hx⟩ : ∃ x, x = now.getD v 0 := ⟨_, rfl⟩
            obtain ⟨F, hF⟩ : ∃ F : Nat → List Int, F = fun u => inT now law v (outT now law v) u := ⟨_, rfl⟩
            have hF2 : ∀ u, inT now law v (outT now law v) u = F u := fun u => by rw [hF]
            simp only [hF2] at NXV OSV ISV ISL II
            rw [← hx] at ncell nb
            simp only [← hx] at ISV
            clear hF hF2 hx HN
            go_wp2_with fail
            go_loopg [35] law.length (fun gg i wr => ∃ u : Nat, u ≤ law.length ∧ law.length - u ≤ gg ∧ i = .int .i64 u ∧ Hid (OwnV wr wo.heap.size wr.heap.size (.slice (some ⟨wo.heap.size, 0, none⟩) 5 5) (F u)) ∧ Hid (OwnV wr w.heap.size wo.heap.size (.slice (some ⟨g, 0, none⟩) 5 cap) now) ∧ Hid (Below w.heap.size w wr))
            case atStart => exact ⟨0, Nat.zero_le _, by omega, rfl, II, HW, HB⟩
            case round =>
              clear II HW HB ncell
              obtain ⟨u, hu, hgg3, rfl, HN, HW, HB⟩ := hrel
              by_cases hlu : u < law.length
              · obtain ⟨b3, off3, rfl, hb3, hc3⟩ := EU.out.get hlu
                have hcl : wr.cell? ⟨b3, off3 + u, none⟩ = some (.int .i64 (law.getD u 0)) := by rw [HB.out.cell (p := ⟨b3, off3 + u, none⟩) hb3]; exact hc3
                have u0 : (0 : Int) ≤ (u : Int) := by omega
                have u1 : (u : Int) < (law.length : Int) := by omega
                have lb := LBD.out u hlu
                have fl := ISL.out u
                obtain ⟨m, hm⟩ : ∃ m, m = max u v := ⟨_, rfl⟩
                have hm5 : m < 5 := by omega
                have mcell := HN.out.cellGet (j := m) (by rw [fl]; exact hm5)
                have mfz := HN.out.frozenGet m
                have mb := NXV.out u hu m hm5
                have ISU := Lib.hid (ISV.out u)
                rw [← hm] at ISU
                have hmx : max (v : Int) (u : Int) = (m : Int) := by omega
                obtain ⟨y, hy⟩ : ∃ y, y = law.getD u 0 := ⟨_, rfl⟩
                obtain ⟨z, hz⟩ : ∃ z, z = (F u).getD m 0 := ⟨_, rfl⟩
                rw [← hy] at hcl lb ISU
                rw [← hz] at mcell mb ISU
                have p0 : 0 ≤ x * y := Int.mul_nonneg nb.1 lb.1
                have p1 : x * y ≤ 390625 * 5 := Int.mul_le_mul nb.2 lb.2 lb.1 (by omega)
                have WR : IntKind.i64.wrap (x * y) = x * y := IntWalk.i64_in _ (by omega)
                have HN2 : Hid (OwnV (wr.setCell ⟨wo.heap.size, m, none⟩ (.int .i64 (z + x * y))) wo.heap.size (wr.setCell ⟨wo.heap.size, m, none⟩ (.int .i64 (z + x * y))).heap.size (.slice (some ⟨wo.heap.size, 0, none⟩) 5 5) (F (u + 1))) := Lib.hid (by
                  rw [ISU.out]
                  have := HN.out.setAt m (x := z + x * y) (by unfold InI64; omega)
                  rw [show (wr.setCell ⟨wo.heap.size, m, none⟩ (.int .i64 (z + x * y))).heap.size = wr.heap.size by simp [World.setCell]]
                  exact this)
                have HW2 := Lib.hid (HW.out.alt (Alt.setC wr wo.heap.size m (.int .i64 (z + x * y))) (.inl (Nat.le_refl _)))
                have HB2 := Lib.hid (HB.out.setCell (p := ⟨wo.heap.size, m, none⟩) SZO.out (.int .i64 (z + x * y)))
                have m0 : (0 : Int) ≤ (m : Int) := by omega
                have m1 : (m : Int) < 5 := by omega
                clear hc3 hy hz HN HW HB fl hm
                go_wp2_with fail
                go_roundg (law.length - (u + 1))
                case rel => exact ⟨u + 1, by omega, by omega, by go_num, HN2, HW2, HB2⟩
                case measure => omega
              · have hul : u = law.length := by omega
                have HN2 : Hid (OwnV wr wo.heap.size wr.heap.size (.slice (some ⟨wo.heap.size, 0, none⟩) 5 5) (outT now law (v + 1))) := Lib.hid (by rw [OSV.out, ← hul]; exact HN.out)
                clear HN hul
                go_wp2_with fail
                go_roundg (5 - (v + 1))
                case rel => exact ⟨v + 1, by omega, by omega, by go_num, HN2, HW, HB⟩
                case measure => omega
          · have hv5 : v = 5 := by omega
            have HN2 : Hid (OwnV wq w.heap.size wq.heap.size (.slice (some ⟨wo.heap.size, 0, none⟩) 5 5) (bwT f (k + 1))) := Lib.hid (by rw [BSK.out, show outT now law 5 = outT now law v by rw [hv5]]; exact HN.out.low SZO.out)
            clear HN HW
            go_wp2_with fail
            go_roundg (R - (k + 1))
            case rel => exact ⟨k + 1, wo.heap.size, 5, by omega, by omega, by go_num, rfl, HN2, HB⟩
            case measure => omega
      · have hkR : k = R := by omega
        have FIN : Hid (NewIntsB (bwT f R) true w (.returned (.tuple #[.slice (some ⟨g, 0, none⟩) 5 cap, .bool true])) wo) := Lib.hid ⟨_, rfl, by rw [← hkR]; exact HO.out, HB.out⟩
        clear HO HB hkR
        go_wp2_with fail
        go_ret2
        exact FIN.out
/-- What a prophet has in the mean. -/
def prophV (R : Nat) (f : Nat → List Int) : Value := if lawsB R f = true then keptV (cutN (moT (bwT f R) 5) (smT (bwT f R) 5)) (cutD (moT (bwT f R) 5) (smT (bwT f R) 5)) else .tuple #[.agg #[.int .i64 0, .int .i64 0], .bool false]
theorem prophV_form (R : Nat) (f : Nat → List Int) : ∃ p q ok, prophV R f = .tuple #[.agg #[.int .i64 p, .int .i64 q], .bool ok] := by
  unfold prophV
  split
  · unfold keptV; split <;> exact ⟨_, _, _, rfl⟩
  · exact ⟨_, _, _, rfl⟩
set_option maxRecDepth 100000 in
set_option maxHeartbeats 2000000 in
theorem prophI (R : Nat) (f : Nat → List Int) (v : Value) (w : World) (h : TabV w w.heap.size v R f) :
    Calls Try.prog 28 #[v] w (Gives (prophV R f) w) := by
  have BI := Lib.hid (fun w' (hb : Below w.heap.size w w') => bestI7 R f v w' (h.boxed hb))
  have B0 := Lib.hid (bl_self w (.cells #[.int .i64 0, .int .i64 0] 26))
  cases hl : lawsB R f
  · rw [show prophV R f = .tuple #[.agg #[.int .i64 0, .int .i64 0], .bool false] from if_neg (by rw [hl]; decide)]
    rw [hl] at BI
    obtain ⟨p, c, rfl⟩ := h.shape
    clear h hl
    go_enter Try.func28, Try.ntmps28
    go_wp2_with fail
    refine (BI.out _ (bl_up B0.out)).mono ?_
    rintro e w1 ⟨u, rfl, o1, b1⟩
    have B1 := Lib.hid (bl_then B0.out b1)
    obtain ⟨q1, d1, rfl, _⟩ := o1.intsV
    clear b1 o1
    obtain ⟨⟨x0, y0⟩, x1, y1⟩ := rs_cells B1.out
    go_wp2_with fail
    refine bodyPost_ret (v := .tuple #[.agg #[.int .i64 0, .int .i64 0], .bool false]) (by simp [results, Try.results28, go_sem, x0, x1]) rfl ⟨rfl, ?_⟩
    exact rs_fin B1.out
  · have P := lawsB_iff.1 hl
    have bl := bwT_len f R
    have ba := fun v hv => bw_at P (Nat.le_refl R) v hv
    have bp := (bw_tot P R (Nat.le_refl R)).1
    have VM := Lib.hid (fun u w' (hu : IntsV w' w'.heap.size u (bwT f R)) => valMeanI (bwT f R) u w' (by omega) (fun i hi => by have := ba i (by omega); omega) (by rw [bl]; exact bp) hu)
    rw [bl] at VM
    rw [show prophV R f = keptV (cutN (moT (bwT f R) 5) (smT (bwT f R) 5)) (cutD (moT (bwT f R) 5) (smT (bwT f R) 5)) from if_pos hl]
    obtain ⟨p, q, okk, hK⟩ := keptV_form (cutN (moT (bwT f R) 5) (smT (bwT f R) 5)) (cutD (moT (bwT f R) 5) (smT (bwT f R) 5))
    rw [hK] at VM ⊢
    rw [hl, show ifLaws R f (bwT f R) = bwT f R from if_pos hl] at BI
    obtain ⟨p1, c1, rfl⟩ := h.shape
    generalize bwT f R = BW at *
    clear h hl hK P ba bp bl
    go_enter Try.func28, Try.ntmps28
    go_wp2_with fail
    refine (BI.out _ (bl_up B0.out)).mono ?_
    rintro e w1 ⟨u, rfl, o1, b1⟩
    have B1 := Lib.hid (bl_then B0.out b1)
    have V1 := Lib.hid (VM.out u w1 o1.intsV)
    obtain ⟨q1, d1, rfl, _⟩ := o1.intsV
    clear b1 o1
    go_wp2_with fail
    refine V1.out.mono ?_
    rintro e w2 ⟨rfl, b2⟩
    have B2 := Lib.hid (bl_then B1.out b2)
    clear b2
    obtain ⟨⟨x0, y0⟩, x1, y1⟩ := rs_cells B2.out
    go_wp2_with fail
    refine bodyPost_ret (v := .tuple #[.agg #[.int .i64 p, .int .i64 q], .bool okk]) (by simp [results, Try.results28, go_sem, x0, x1]) rfl ⟨rfl, ?_⟩
    exact rs_fin B2.out
end Go.Proofs.Ytnpiciabpgkiiaa
