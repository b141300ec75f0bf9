/- The chance of draws, in the model. -/
import Derived.Test.YtligidmkhbcpmacUrnD
import Derived.Test.YtligidmkhbcpmacRecM
import Derived.Maps.AppendAt
namespace Go.Proofs.Ytligidmkhbcpmac
open Go.RowKit
set_option linter.unusedVariables false
/-- One number more behind a row, beside another block. -/
theorem push_step {w wr w3 : World} {v v' : Value} {L : List Int} {x : Int} {o : Obj} {gO : Nat}
    (HO : OwnV wr w.heap.size wr.heap.size v L) (hx : InI64 x) (HB : Below w.heap.size w wr) (hne : v.ownBlock ≠ some gO) (hgO : gO < wr.heap.size)
    (hown3 : w3.ownsRow w.heap.size 3 1 v' (L.length + 1) (L.map (.int .i64) ++ [.int .i64 x])) (hgrow : (wr.alloc o).grownBy w3 v.ownBlock)
    (hnil : v' = .slice none 0 0 ↔ v = .slice none 0 0 ∧ 1 = 0) (hloc : v'.ownBlock = v.ownBlock ∨ v'.ownBlock = some (wr.alloc o).heap.size) :
    OwnV w3 w.heap.size w3.heap.size v' (L ++ [x]) ∧ v'.ownBlock ≠ some gO ∧ v' ≠ .slice none 0 0 ∧ w3.heap[gO]? = wr.heap[gO]? ∧ Below w.heap.size w w3 := by
  refine ⟨HO.app hx hown3, ?_, fun e => by have := (hnil.1 e).2; omega, ?_, ?_⟩
  · rcases hloc with h | h
    · rw [h]; exact hne
    · rw [h]
      intro e
      injection e with e
      simp at e
      omega
  · rw [hgrow.block gO (by simp; omega) (fun e => hne e.symm)]
    show (wr.heap.push o)[gO]? = _
    rw [Array.getElem?_push, if_neg (by omega)]
  · exact (HB.alloc HB.size o).grown hgrow (by have := HB.size; simp; omega) (fun q hq => by have := (HO.row.lt q hq).1; omega)
theorem preL_zero (f : Nat → Int) : preL f 0 = [] := rfl
theorem lt_of_heapU {w : World} {g : Nat} {o : Obj} (h : w.heap[g]? = some o) : g < w.heap.size := (Array.getElem?_eq_some_iff.1 h).1
theorem OwnV.of_heapU {w : World} {lo g : Nat} (h : w.heap[g]? = some (.cells #[] 3 (0, 0))) (hlo : lo ≤ g) : OwnV w lo w.heap.size (.slice (some ⟨g, 0, none⟩) 0 0) [] := by
  have hg := lt_of_heapU h
  refine ⟨⟨rfl, .inr ⟨g, 0, #[], rfl, hlo, h, by simp, by unfold maxLen; omega, rfl, rfl⟩⟩, ?_, Nat.le_refl _, by intro z hz; cases hz⟩
  intro q hq
  have : g = q := by simpa [Value.ownBlock] using hq
  omega
theorem qu_of_ch {T : List Int} {a x : Int} {n : Nat} (h : ChOk T (grF a x) n) : QuOk T (preL (grF a x) n) ∧ quV T (preL (grF a x) n) = chV T (grF a x) n := by
  refine ⟨⟨h.nn, h.le, fun j hj => ?_, fun j => ?_⟩, ?_⟩
  · rw [pre_len] at hj
    rw [pre_at hj]; exact h.fp j
  · rcases Nat.lt_or_ge j n with hj | hj
    · rw [pre_at hj]; exact h.fl j hj
    · rw [List.getD_eq_getElem?_getD, List.getElem?_eq_none (by rw [pre_len]; exact hj)]
      show (0 : Int) ≤ 300
      omega
  · unfold quV chV
    rw [prod_gr, prodN_gr]
set_option maxRecDepth 100000 in
set_option maxHeartbeats 8000000 in
theorem chanceS9 (r b x W : Int) (p q : Nat) (w : World) (hW : 1 ≤ W ∧ W ≤ 252) (hWc : W ≤ (chN (p + q) p : Nat)) (hr : 0 ≤ r ∧ r ≤ 20) (hb : 0 ≤ b ∧ b ≤ 20) (hx : 0 ≤ x ∧ x ≤ 20) (hp : 0 < r + b) (hn : p + q ≤ 10) :
    Calls Try.prog 135 #[.int .i64 r, .int .i64 b, .int .i64 x, .int .i64 p, .int .i64 q, .int .i64 W] w (Gives (chV (tpL W r b x p q) (grF (r + b) x) (p + q)) w) := by
  have OK := ch_ok hW hWc hr hb hx hp hn
  obtain ⟨QO, QE⟩ := qu_of_ch OK
  rw [← QE]
  have QU := Lib.hid (fun g1 c1 g2 c2 w (h1 : RowB w g1 (tpL W r b x p q)) (h2 : RowB w g2 (preL (grF (r + b) x) (p + q))) => quoS (tpL W r b x p q) (preL (grF (r + b) x) (p + q)) g1 c1 g2 c2 w QO (by rw [tpL_len]; omega) (by rw [pre_len]; omega) h1 h2)
  obtain ⟨vp, vq, vok, hV⟩ := quV_form (tpL W r b x p q) (preL (grF (r + b) x) (p + q))
  rw [hV] at QU ⊢
  have XB := Lib.hid (fun (k : Nat) (hk : k ≤ 10) => show 0 ≤ (k : Int) * x ∧ (k : Int) * x ≤ 10 * 20 from ⟨Int.mul_nonneg (by omega) hx.1, Int.mul_le_mul (by omega) hx.2 hx.1 (by omega)⟩)
  have rD := Lib.hid (fun k (hk : k ≤ 10) => show grF r x k = r + (k : Int) * x ∧ 0 ≤ (k : Int) * x ∧ (k : Int) * x ≤ 10 * 20 from ⟨rfl, XB.out k hk⟩)
  have bD := Lib.hid (fun k (hk : k ≤ 10) => show grF b x k = b + (k : Int) * x ∧ 0 ≤ (k : Int) * x ∧ (k : Int) * x ≤ 10 * 20 from ⟨rfl, XB.out k hk⟩)
  have fD := Lib.hid (fun k (hk : k ≤ 10) => show grF (r + b) x k = r + b + (k : Int) * x ∧ 0 ≤ (k : Int) * x ∧ (k : Int) * x ≤ 10 * 20 from ⟨rfl, XB.out k hk⟩)
  have UL := Lib.hid (fun k => show (W :: preL (grF r x) k).length = 1 + k by simp [pre_len]; omega)
  have US := Lib.hid (fun k => show W :: preL (grF r x) (k + 1) = W :: preL (grF r x) k ++ [grF r x k] by rw [pre_succ]; rfl)
  have VL := Lib.hid (fun k => show (W :: (preL (grF r x) p ++ preL (grF b x) k)).length = 1 + p + k by simp [pre_len]; omega)
  have VS := Lib.hid (fun k => show W :: (preL (grF r x) p ++ preL (grF b x) (k + 1)) = W :: (preL (grF r x) p ++ preL (grF b x) k) ++ [grF b x k] by rw [pre_succ]; simp)
  have YL := Lib.hid (fun k => pre_len (grF (r + b) x) k)
  have YS := Lib.hid (fun k => pre_succ (grF (r + b) x) k)
  have U0 := Lib.hid (show W :: preL (grF r x) 0 = [W] from rfl)
  have UV := Lib.hid (show W :: preL (grF r x) p = W :: (preL (grF r x) p ++ preL (grF b x) 0) by rw [preL_zero, List.append_nil])
  have VT := Lib.hid (show W :: (preL (grF r x) p ++ preL (grF b x) q) = tpL W r b x p q from (tpL_eq W r b x p q).symm)
  have Y0 := Lib.hid (show preL (grF (r + b) x) 0 = [] from rfl)
  have TL := Lib.hid (tpL_len W r b x p q)
  obtain ⟨U, hU⟩ : ∃ U : Nat → List Int, U = fun k => W :: preL (grF r x) k := ⟨_, rfl⟩
  obtain ⟨V, hVV⟩ : ∃ V : Nat → List Int, V = fun k => W :: (preL (grF r x) p ++ preL (grF b x) k) := ⟨_, rfl⟩
  obtain ⟨Y, hY⟩ : ∃ Y : Nat → List Int, Y = fun k => preL (grF (r + b) x) k := ⟨_, rfl⟩
  have UD : ∀ k, W :: preL (grF r x) k = U k := fun k => by rw [hU]
  have VD : ∀ k, W :: (preL (grF r x) p ++ preL (grF b x) k) = V k := fun k => by rw [hVV]
  have YD : ∀ k, preL (grF (r + b) x) k = Y k := fun k => by rw [hY]
  simp only [UD, VD, YD] at QU UL US VL VS YL YS U0 UV VT Y0
  obtain ⟨T, hT⟩ : ∃ T, T = tpL W r b x p q := ⟨_, rfl⟩
  rw [← hT] at QU VT TL
  obtain ⟨R1, hR1⟩ : ∃ R1 : Nat → Int, R1 = grF r x := ⟨_, rfl⟩
  obtain ⟨R2, hR2⟩ : ∃ R2 : Nat → Int, R2 = grF b x := ⟨_, rfl⟩
  obtain ⟨R3, hR3⟩ : ∃ R3 : Nat → Int, R3 = grF (r + b) x := ⟨_, rfl⟩
  rw [← hR1] at rD US
  rw [← hR2] at bD VS
  rw [← hR3] at fD YS
  obtain ⟨n, hn0⟩ : ∃ n, n = p + q := ⟨_, rfl⟩
  rw [← hn0] at QU
  have sNI : (p : Int) + (q : Int) = (n : Int) := by omega
  obtain ⟨hr1, hr2⟩ := hr
  obtain ⟨hb1, hb2⟩ := hb
  have hn10 : n ≤ 10 := by omega
  have hp10 : p ≤ 10 := by omega
  have hq10 : q ≤ 10 := by omega
  have hpq : p + q ≤ 10 := by omega
  have IW := Lib.hid (show InI64 W by unfold InI64; omega)
  have ZB := QBox.new w 0 0
  have HWA := Lib.hid ((Below.refl w.heap.size w).alloc (Nat.le_refl _) (.cells #[.int .i64 0, .int .i64 0] 26))
  obtain ⟨wa, hwa⟩ : ∃ wa, wa = w.alloc (.cells #[.int .i64 0, .int .i64 0] 26) := ⟨_, rfl⟩
  rw [← hwa] at ZB HWA
  have HZ := Lib.hid ZB
  obtain ⟨w2, hw2⟩ : ∃ w2, w2 = (wa.alloc (.cells #[.int .i64 W] 3)).alloc (.cells #[] 3) := ⟨_, rfl⟩
  have GE : wa.heap.size = w.heap.size + 1 := by rw [hwa]; simp
  have SE : Value.slice (some ⟨wa.heap.size, 0, none⟩) 1 1 = .slice (some ⟨w.heap.size + 1, 0, none⟩) 1 1 := by rw [GE]
  have OT := OwnV.oneR wa wa.heap.size W (Nat.le_refl _) IW.out
  have B2 : Below (wa.alloc (.cells #[.int .i64 W] 3)).heap.size (wa.alloc (.cells #[.int .i64 W] 3)) w2 := by rw [hw2]; exact (Below.refl _ _).alloc (Nat.le_refl _) _
  have HV := Lib.hid (by have h := (OT.below B2).wide B2.size (Nat.le_refl _); rw [← U0.out, SE] at h; exact h : OwnV w2 wa.heap.size w2.heap.size (.slice (some ⟨w.heap.size + 1, 0, none⟩) 1 1) (U 0))
  have HK := Lib.hid (show w2.heap[w.heap.size + 1 + 1]? = some (.cells #[] 3 (0, 0)) by
    rw [← GE]
    have h := alloc_heap (wa.alloc (.cells #[.int .i64 W] 3)) (.cells #[] 3)
    rw [← hw2] at h
    simpa using h)
  have HNE := Lib.hid (show (Value.slice (some ⟨w.heap.size + 1, 0, none⟩) 1 1).ownBlock ≠ some (w.heap.size + 1 + 1) by simp [Value.ownBlock])
  have HNN := Lib.hid (show (Value.slice (some ⟨w.heap.size + 1, 0, none⟩) 1 1) ≠ .slice none 0 0 by simp)
  have HB := Lib.hid (show Below wa.heap.size wa w2 by rw [hw2]; exact ((Below.refl wa.heap.size wa).alloc (Nat.le_refl _) _).alloc (by simp) _)
  obtain ⟨gB, hgB⟩ : ∃ gB, gB = w.heap.size + 1 + 1 := ⟨_, rfl⟩
  have GB := Lib.hid (show wa.heap.size ≤ gB by omega)
  clear SE OK QO QE hV hU hVV hY UD VD YD hT hR1 hR2 hR3 hW hWc hx hn hn0 ZB OT B2
  go_enter Try.func135, Try.ntmps135
  go_wp2_with fail
  rw [← hwa, ← hw2]
  rw [← hgB] at HK HNE
  try rw [← hgB]
  clear hwa hw2 hgB GE
  go_loopg [14, 16] p (fun gg v t wr => ∃ k : Nat, k ≤ p ∧ p - k ≤ gg ∧ t = .int .i64 k ∧ Hid (OwnV wr wa.heap.size wr.heap.size v (U k)) ∧ Hid (v.ownBlock ≠ some gB) ∧ Hid (v ≠ .slice none 0 0) ∧ Hid (wr.heap[gB]? = some (.cells #[] 3 (0, 0))) ∧ Hid (Below wa.heap.size wa wr))
  case atStart => exact ⟨0, Nat.zero_le _, by omega, rfl, HV, HNE, HNN, HK, HB⟩
  case round =>
    clear HV HNE HNN HK HB
    obtain ⟨k, hk, hgg, rfl, HV, HNE, HNN, HK, HB⟩ := hrel
    obtain ⟨wq, rfl⟩ : ∃ wq : World, wq = wr := ⟨_, rfl⟩
    by_cases hlt : k < p
    · have k1 : (k : Int) < (p : Int) := by omega
      have k2 : ¬ (p : Int) ≤ (k : Int) := by omega
      have lk := UL.out k
      have ls := US.out k
      obtain ⟨f1, f2, f3⟩ := rD.out k (by omega)
      obtain ⟨s, hs⟩ : ∃ s, s = (k : Int) * x := ⟨_, rfl⟩
      rw [← hs] at f1 f2 f3
      have W1 : IntKind.i64.wrap ((k : Int) * x) = s := by rw [← hs]; exact IntWalk.i64_in _ (by omega)
      rw [f1] at ls
      obtain ⟨L, hL⟩ : ∃ L, L = U k := ⟨_, rfl⟩
      rw [← hL] at HV lk ls
      have LS := Lib.hid ls
      have l1 : L.length ≤ 21 := by omega
      have IX := Lib.hid (show InI64 (r + s) by unfold InI64; omega)
      have hown := HV.out.row
      have hsz := HB.out.size
      have hgO : gB < wq.heap.size := lt_of_heapU HK.out
      obtain ⟨i0, hi, hz0, hz1, hz2⟩ := info_parts intInfo
      clear lk ls hL hs f1
      go_wp2_with (at_builtin; refine wpList_append_own_at _ rfl _ _ 22 rfl wa.heap.size 3 i0 (.int .i64 0) 1 8 Try.underlying22 hi hz0 hz1 hz2 rfl (by decide) _ L.length (L.map (.int .i64)) rfl (hown.alloc _) ⟨wq.heap.size, 0, none⟩ 1 1 [.int .i64 (r + s)] rfl rfl (cell_one_new _ _ _) (fun u hu => by simp at hu; subst hu; rfl) (by unfold maxLen; omega) (by omega) (by simp; omega) ?_; intro v' w3 hown3 hgrow3 hnil3 hloc3)
      obtain ⟨p1, p2, p3, p4, p5⟩ := push_step HV.out IX.out HB.out HNE.out hgO hown3 hgrow3 hnil3 hloc3
      have HV3 := Lib.hid (by rw [← LS.out] at p1; exact p1 : OwnV w3 wa.heap.size w3.heap.size v' (U (k + 1)))
      have HN3 := Lib.hid p2
      have HM3 := Lib.hid p3
      have HK3 := Lib.hid (p4.trans HK.out)
      have HB3 := Lib.hid p5
      clear hown hown3 hgrow3 hnil3 hloc3 p1 p2 p3 p4 p5
      go_roundg (p - (k + 1))
      case rel => exact ⟨k + 1, by omega, by omega, by go_num, HV3, HN3, HM3, HK3, HB3⟩
      case measure => omega
    · have hkc : k = p := by omega
      have k1 : ¬ (k : Int) < (p : Int) := by omega
      have k2 : (p : Int) ≤ (k : Int) := by omega
      have HV : Hid (OwnV wq wa.heap.size wq.heap.size _ (V 0)) := Lib.hid (by have h := HV.out; rw [hkc, UV.out] at h; exact h)
      clear hkc
      go_wp2_with fail
      go_loopg [14, 17] q (fun gg v t wr => ∃ k : Nat, k ≤ q ∧ q - k ≤ gg ∧ t = .int .i64 k ∧ Hid (OwnV wr wa.heap.size wr.heap.size v (V k)) ∧ Hid (v.ownBlock ≠ some gB) ∧ Hid (v ≠ .slice none 0 0) ∧ Hid (wr.heap[gB]? = some (.cells #[] 3 (0, 0))) ∧ Hid (Below wa.heap.size wa wr))
      case atStart => exact ⟨0, Nat.zero_le _, by omega, rfl, HV, HNE, HNN, HK, HB⟩
      case round =>
        clear HV HNE HNN HK HB
        obtain ⟨k, hk, hgg, rfl, HV, HNE, HNN, HK, HB⟩ := hrel
        obtain ⟨wq, rfl⟩ : ∃ wq : World, wq = wr := ⟨_, rfl⟩
        by_cases hlt : k < q
        · have k1 : (k : Int) < (q : Int) := by omega
          have k2 : ¬ (q : Int) ≤ (k : Int) := by omega
          have lk := VL.out k
          have ls := VS.out k
          obtain ⟨f1, f2, f3⟩ := bD.out k (by omega)
          obtain ⟨s, hs⟩ : ∃ s, s = (k : Int) * x := ⟨_, rfl⟩
          rw [← hs] at f1 f2 f3
          have W1 : IntKind.i64.wrap ((k : Int) * x) = s := by rw [← hs]; exact IntWalk.i64_in _ (by omega)
          rw [f1] at ls
          obtain ⟨L, hL⟩ : ∃ L, L = V k := ⟨_, rfl⟩
          rw [← hL] at HV lk ls
          have LS := Lib.hid ls
          have l1 : L.length ≤ 21 := by omega
          have IX := Lib.hid (show InI64 (b + s) by unfold InI64; omega)
          have hown := HV.out.row
          have hsz := HB.out.size
          have hgO : gB < wq.heap.size := lt_of_heapU HK.out
          obtain ⟨i0, hi, hz0, hz1, hz2⟩ := info_parts intInfo
          clear lk ls hL hs f1
          go_wp2_with (at_builtin; refine wpList_append_own_at _ rfl _ _ 22 rfl wa.heap.size 3 i0 (.int .i64 0) 1 8 Try.underlying22 hi hz0 hz1 hz2 rfl (by decide) _ L.length (L.map (.int .i64)) rfl (hown.alloc _) ⟨wq.heap.size, 0, none⟩ 1 1 [.int .i64 (b + s)] rfl rfl (cell_one_new _ _ _) (fun u hu => by simp at hu; subst hu; rfl) (by unfold maxLen; omega) (by omega) (by simp; omega) ?_; intro v' w3 hown3 hgrow3 hnil3 hloc3)
          obtain ⟨p1, p2, p3, p4, p5⟩ := push_step HV.out IX.out HB.out HNE.out hgO hown3 hgrow3 hnil3 hloc3
          have HV3 := Lib.hid (by rw [← LS.out] at p1; exact p1 : OwnV w3 wa.heap.size w3.heap.size v' (V (k + 1)))
          have HN3 := Lib.hid p2
          have HM3 := Lib.hid p3
          have HK3 := Lib.hid (p4.trans HK.out)
          have HB3 := Lib.hid p5
          clear hown hown3 hgrow3 hnil3 hloc3 p1 p2 p3 p4 p5
          go_roundg (q - (k + 1))
          case rel => exact ⟨k + 1, by omega, by omega, by go_num, HV3, HN3, HM3, HK3, HB3⟩
          case measure => omega
        · have hkc : k = q := by omega
          have k1 : ¬ (k : Int) < (q : Int) := by omega
          have k2 : (q : Int) ≤ (k : Int) := by omega
          have HV2 : Hid (OwnV wq wa.heap.size wq.heap.size _ T) := Lib.hid (by have h := HV.out; rw [hkc, VT.out] at h; exact h)
          obtain ⟨gT, cT, rfl, lT, lT2⟩ := HV2.out.shapeN HNN.out
          have HT := Lib.hid (HV2.out.rowB)
          have hne2 : gT ≠ gB := fun e => HNE.out (by rw [e]; rfl)
          have HV : Hid (OwnV wq wa.heap.size wq.heap.size (.slice (some ⟨gB, 0, none⟩) 0 0) (Y 0)) := Lib.hid (by rw [Y0.out]; exact OwnV.of_heapU HK.out GB.out)
          have HNE : Hid ((Value.slice (some ⟨gB, 0, none⟩) 0 0).ownBlock ≠ some gT) := Lib.hid (by simp [Value.ownBlock]; omega)
          have HNN : Hid ((Value.slice (some ⟨gB, 0, none⟩) 0 0) ≠ .slice none 0 0) := Lib.hid (by simp)
          have HK := HT
          clear hkc HV2 HT lT lT2 hne2
          go_wp2_with fail
          go_loopg [15, 18] n (fun gg v t wr => ∃ k : Nat, k ≤ n ∧ n - k ≤ gg ∧ t = .int .i64 k ∧ Hid (OwnV wr wa.heap.size wr.heap.size v (Y k)) ∧ Hid (v.ownBlock ≠ some gT) ∧ Hid (v ≠ .slice none 0 0) ∧ Hid (RowB wr gT T) ∧ Hid (Below wa.heap.size wa wr))
          case atStart => exact ⟨0, Nat.zero_le _, by omega, rfl, HV, HNE, HNN, HK, HB⟩
          case round =>
            clear HV HNE HNN HK HB
            obtain ⟨k, hk, hgg, rfl, HV, HNE, HNN, HK, HB⟩ := hrel
            obtain ⟨wq, rfl⟩ : ∃ wq : World, wq = wr := ⟨_, rfl⟩
            by_cases hlt : k < n
            · have k1 : (k : Int) < (n : Int) := by omega
              have k2 : ¬ (n : Int) ≤ (k : Int) := by omega
              have lk := YL.out k
              have ls := YS.out k
              obtain ⟨f1, f2, f3⟩ := fD.out k (by omega)
              obtain ⟨s, hs⟩ : ∃ s, s = (k : Int) * x := ⟨_, rfl⟩
              rw [← hs] at f1 f2 f3
              have W1 : IntKind.i64.wrap ((k : Int) * x) = s := by rw [← hs]; exact IntWalk.i64_in _ (by omega)
              rw [f1] at ls
              obtain ⟨L, hL⟩ : ∃ L, L = Y k := ⟨_, rfl⟩
              rw [← hL] at HV lk ls
              have LS := Lib.hid ls
              have l1 : L.length ≤ 21 := by omega
              have IX := Lib.hid (show InI64 (r + b + s) by unfold InI64; omega)
              have hown := HV.out.row
              have hsz := HB.out.size
              have hgO : gT < wq.heap.size := HK.out.lt
              obtain ⟨i0, hi, hz0, hz1, hz2⟩ := info_parts intInfo
              clear lk ls hL hs f1
              go_wp2_with (at_builtin; refine wpList_append_own_at _ rfl _ _ 22 rfl wa.heap.size 3 i0 (.int .i64 0) 1 8 Try.underlying22 hi hz0 hz1 hz2 rfl (by decide) _ L.length (L.map (.int .i64)) rfl (hown.alloc _) ⟨wq.heap.size, 0, none⟩ 1 1 [.int .i64 (r + b + s)] rfl rfl (cell_one_new _ _ _) (fun u hu => by simp at hu; subst hu; rfl) (by unfold maxLen; omega) (by omega) (by simp; omega) ?_; intro v' w3 hown3 hgrow3 hnil3 hloc3)
              obtain ⟨p1, p2, p3, p4, p5⟩ := push_step HV.out IX.out HB.out HNE.out hgO hown3 hgrow3 hnil3 hloc3
              have HV3 := Lib.hid (by rw [← LS.out] at p1; exact p1 : OwnV w3 wa.heap.size w3.heap.size v' (Y (k + 1)))
              have HN3 := Lib.hid p2
              have HM3 := Lib.hid p3
              have HK3 := Lib.hid (HK.out.keep p4 (by have := hgrow3.size; simp at this; omega))
              have HB3 := Lib.hid p5
              clear hown hown3 hgrow3 hnil3 hloc3 p1 p2 p3 p4 p5
              go_roundg (n - (k + 1))
              case rel => exact ⟨k + 1, by omega, by omega, by go_num, HV3, HN3, HM3, HK3, HB3⟩
              case measure => omega
            · have hkc : k = n := by omega
              have k1 : ¬ (k : Int) < (n : Int) := by omega
              have k2 : (n : Int) ≤ (k : Int) := by omega
              have HV2 : Hid (OwnV wq wa.heap.size wq.heap.size _ (Y n)) := Lib.hid (by have h := HV.out; rw [hkc] at h; exact h)
              obtain ⟨gY, cY, rfl, lY, lY2⟩ := HV2.out.shapeN HNN.out
              have QC := Lib.hid (QU.out gT cT gY cY wq HK.out HV2.out.rowB)
              clear hkc HV HV2 HNE HNN lY lY2
              go_wp2_with fail
              refine QC.out.mono ?_
              rintro e w6 ⟨rfl, b6⟩
              have B6 := Lib.hid (HB.out.trans (b6.mono HB.out.size))
              obtain ⟨⟨c0, c1⟩, c2, c3⟩ := (HZ.out.below B6.out HZ.out.lt).cells
              have BF := Lib.hid (HWA.out.trans (B6.out.mono HWA.out.size))
              clear b6
              go_wp2_with fail
              refine bodyPost_ret (v := .tuple #[.agg #[.int .i64 vp, .int .i64 vq], .bool vok]) (by simp [results, Try.results135, go_sem, c0, c1]) rfl ⟨rfl, ?_⟩
              exact bl_st BF.out (Nat.le_refl _) _ _
end Go.Proofs.Ytligidmkhbcpmac
