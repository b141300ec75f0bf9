/- Overlaps, their sums and waits, in the model. -/
import Derived.Test.YtligidmkhbcpmaaOvlM
import Derived.Test.YtligidmkhbcpmaaWwI
namespace Go.Proofs.Ytligidmkhbcpmaa
open Go.RowKit
set_option linter.unusedVariables false
theorem SubB.intsV {w : World} {v : Value} {zs : List Int} (h : IntsV w w.heap.size v zs) : ∃ p c, v = .slice p zs.length c ∧ zs.length ≤ c ∧ SubB w p zs := by
  obtain ⟨q, cq, rfl, lq, mq, zq, iq⟩ := h
  exact ⟨q, cq, rfl, lq, SubB.of (Nat.le_refl _) iq⟩
theorem SubB.drop {w : World} {ba oa lo : Nat} {L : List Int} (h : SubB w (some ⟨ba, oa, none⟩) L) : SubB w (some ⟨ba, oa + lo, none⟩) (L.drop lo) := by
  refine ⟨fun h0 => ?_⟩
  rw [List.length_drop] at h0
  obtain ⟨b, off, e, hlt, hc⟩ := h.at_ (by omega)
  injection e with e
  injection e with e1 e2
  subst e1; subst e2
  refine ⟨ba, oa + lo, rfl, hlt, fun j hj => ?_⟩
  rw [List.length_drop] at hj
  rw [drop_getD, Nat.add_assoc]
  exact hc (lo + j) (by omega)
theorem SubB.take {w : World} {p : Option Addr} {k : Nat} {L : List Int} (h : SubB w p L) : SubB w p (L.take k) := by
  refine ⟨fun h0 => ?_⟩
  rw [List.length_take] at h0
  obtain ⟨b, off, e, hlt, hc⟩ := h.at_ (by omega)
  refine ⟨b, off, e, hlt, fun j hj => ?_⟩
  rw [List.length_take] at hj
  rw [take_getD _ _ _ (by omega)]
  exact hc j (by omega)
theorem SubB.drewN {w : World} {p : Option Addr} {L : List Int} (h : SubB w p L) (n : Nat) : SubB (w.drewN n) p L := h.below (below_drewN (Below.refl _ _) n)
set_option maxRecDepth 100000 in
set_option maxHeartbeats 4000000 in
theorem endsW (a b : List Int) (p q : Option Addr) (c d k : Nat) (w : World) (hn : a.length ≤ 1000) (hm : b.length ≤ 1000) (hc : a.length ≤ c) (hk : 1 ≤ k) (ka : k ≤ a.length) (kb : k ≤ b.length) (hd : b.length ≤ d) (ha : SubB w p a) (hb : SubB w q b) :
    Calls Try.prog 62 #[.slice p a.length c, .slice q b.length d, .int .i64 k] w fun e w' => e = .returned (.bool (decide (a.drop (a.length - k) = b.take k))) ∧ ∃ n, w' = w.drewN n := by
  obtain ⟨lo, hlo⟩ : ∃ lo, lo = a.length - k := ⟨_, rfl⟩
  obtain ⟨ba, oa, rfl, _, _⟩ := ha.at_ (by omega)
  obtain ⟨bb, ob, rfl, _, _⟩ := hb.at_ (by omega)
  have la : (a.drop lo).length = k := by rw [List.length_drop]; omega
  have lb : (b.take k).length = k := by rw [List.length_take]; omega
  have SM : Hid (∀ n, Calls Try.prog 69 #[.slice (some ⟨ba, oa + lo, none⟩) k (c - lo), .slice (some ⟨bb, ob, none⟩) k d] (w.drewN n) fun e w' => e = .returned (.bool (decide (a.drop lo = b.take k))) ∧ ∃ m, w' = (w.drewN n).drewN m) := Lib.hid (fun n => by
    have h := sameS (a.drop lo) (b.take k) (some ⟨ba, oa + lo, none⟩) (some ⟨bb, ob, none⟩) (c - lo) d (w.drewN n) (by omega) (by omega) ((ha.drop).drewN n) ((hb.take).drewN n)
    rw [la, lb] at h
    exact h)
  rw [← hlo]
  obtain ⟨r, hr⟩ : ∃ r, r = decide (a.drop lo = b.take k) := ⟨_, rfl⟩
  rw [← hr] at SM ⊢
  obtain ⟨n, hN⟩ : ∃ n, n = a.length := ⟨_, rfl⟩
  obtain ⟨m, hM⟩ : ∃ m, m = b.length := ⟨_, rfl⟩
  rw [← hN] at hn hc ka hlo ⊢
  rw [← hM] at hm kb hd ⊢
  have i1 : (k : Int) ≤ (n : Int) := by omega
  have i2 : (k : Int) ≤ (m : Int) := by omega
  have i3 : (n : Int) - (k : Int) = (lo : Int) := by omega
  have i4 : (lo : Int) ≤ (n : Int) := by omega
  have i5 : 0 ≤ (lo : Int) := by omega
  have i6 : (n : Int) ≤ (c : Int) := by omega
  have i7 : (k : Int) ≤ (d : Int) := by omega
  have W1 : IntKind.i64.wrap ((n : Int) - (k : Int)) = (lo : Int) := by rw [i3]; exact IntWalk.i64_in _ (by omega)
  have t1 : ¬ c - lo = 0 := by omega
  have t2 : ¬ c = lo := by omega
  have t3 : n - lo = k := by omega
  have SMQ := Lib.hid (fun n => SM.out n)
  clear ha hb hr hN hM la lb i3 hlo
  go_enter Try.func62, Try.ntmps62
  go_wp2_with fail
  go_quiet ((go_at_call 69; exact quiet_draw (SMQ.out _)))
  go_wp2_with fail
  go_ret
  first | exact ⟨rfl, _, rfl⟩ | exact ⟨rfl, _, World.drewN_drewN _ _ _⟩
set_option maxRecDepth 100000 in
set_option maxHeartbeats 4000000 in
theorem overS (xs bs : List Int) (p q : Option Addr) (c d : Nat) (w : World) (ha : xs.length ≤ 8) (hb : bs.length ≤ 8) (hc : xs.length ≤ c) (hd : bs.length ≤ d) (h1 : SubB w p xs) (h2 : SubB w q bs) :
    Calls Try.prog 60 #[.slice p xs.length c, .slice q bs.length d] w (NewInts (ovL xs bs) w) := by
  have EN := Lib.hid (fun (k : Nat) w' (hk : 1 ≤ k) (ka : k ≤ xs.length) (kb : k ≤ bs.length) (hw : Below w.heap.size w w') => endsW xs bs p q c d k w' (by omega) (by omega) hc hk ka kb hd (h1.below hw) (h2.below hw))
  have OS := Lib.hid (fun i => show ovK xs bs (i + 1) = if xs.drop (xs.length - (i + 1)) = bs.take (i + 1) then ovK xs bs i ++ [(i : Int) + 1] else ovK xs bs i from rfl)
  have OL := Lib.hid (fun i => ovK_len xs bs i)
  have O0 := Lib.hid (show ovK xs bs 0 = [] from rfl)
  have OM := Lib.hid (show ovL xs bs = ovK xs bs (min xs.length bs.length) from rfl)
  rw [OM.out]
  obtain ⟨m, hm⟩ : ∃ m, m = min xs.length bs.length := ⟨_, rfl⟩
  rw [← hm]
  have hm1 : m ≤ xs.length := by omega
  have hm2 : m ≤ bs.length := by omega
  have hm3 : m = xs.length ∨ m = bs.length := by omega
  have O1 := Lib.hid (by have h := OwnV.empty w w.heap.size (Nat.le_refl _); rw [← O0.out] at h; exact h : OwnV (w.alloc (.cells #[] 3)) w.heap.size (w.alloc (.cells #[] 3)).heap.size (.slice (some ⟨w.heap.size, 0, none⟩) 0 0) (ovK xs bs 0))
  have B1 := Lib.hid ((Below.refl w.heap.size w).alloc (Nat.le_refl _) (.cells #[] 3))
  obtain ⟨i0, hi, hz0, hz1, hz2⟩ := info_parts intInfo
  obtain ⟨U, hU⟩ : ∃ U : Nat → List Int, U = ovK xs bs := ⟨_, rfl⟩
  rw [← hU] at OS OL O0 O1 ⊢
  obtain ⟨n1, hn1⟩ : ∃ n1, n1 = xs.length := ⟨_, rfl⟩
  obtain ⟨n2, hn2⟩ : ∃ n2, n2 = bs.length := ⟨_, rfl⟩
  have H1 := Lib.hid hn1
  have H2 := Lib.hid hn2
  rw [← hn1] at ha hc hm1 hm3 ⊢
  rw [← hn2] at hb hd hm2 hm3 ⊢
  clear hm h1 h2 hU hn1 hn2
  go_enter Try.func60, Try.ntmps60
  go_wp2_with fail
  go_loopg [5, 6] m (fun gg o t wr => ∃ i : Nat, i ≤ m ∧ m - i ≤ gg ∧ t = .int .i64 ((i : Int) + 1) ∧ Hid (OwnV wr w.heap.size wr.heap.size o (U i)) ∧ Hid (Below w.heap.size w wr))
  case atStart => exact ⟨0, by omega, by omega, rfl, O1, B1⟩
  case round =>
    clear O1 B1
    obtain ⟨i, hi', hgg, rfl, HO, HW⟩ := hrel
    obtain ⟨wq, rfl⟩ : ∃ wq : World, wq = wr := ⟨_, rfl⟩
    by_cases hlt : i < m
    · have t1 : (i : Int) + 1 ≤ (n1 : Int) := by omega
      have t2 : (i : Int) + 1 ≤ (n2 : Int) := by omega
      have EK := Lib.hid (EN.out (i + 1) wq (by omega) (by rw [← H1.out]; omega) (by rw [← H2.out]; omega) HW.out)
      rw [show ((i + 1 : Nat) : Int) = (i : Int) + 1 by omega, ← H1.out, ← H2.out] at EK
      have os := OS.out i
      have ol := OL.out i
      rw [← H1.out] at os
      obtain ⟨bb, hbb⟩ : ∃ bb, bb = decide (xs.drop (n1 - (i + 1)) = bs.take (i + 1)) := ⟨_, rfl⟩
      rw [← hbb] at EK
      have OSE : Hid (U (i + 1) = if bb = true then U i ++ [(i : Int) + 1] else U i) := Lib.hid (by rw [os, hbb]; by_cases h : xs.drop (n1 - (i + 1)) = bs.take (i + 1) <;> simp [h])
      clear os hbb
      cases bb
      · have OF := Lib.hid (show U (i + 1) = U i from OSE.out)
        clear OSE
        go_wp2_with fail
        refine EK.out.mono ?_
        rintro e w2 ⟨rfl, u, hu⟩
        have b2 : Below wq.heap.size wq w2 := by rw [hu]; exact below_drewN (Below.refl _ _) u
        have HW5 := Lib.hid (HW.out.trans (b2.mono HW.out.size))
        have HO5 := Lib.hid ((HO.out.below b2).wide b2.size (Nat.le_refl _))
        clear hu b2 HO HW
        go_wp2_with fail
        go_roundg (m - (i + 1))
        case rel => exact ⟨i + 1, by omega, by omega, by congr 1 <;> omega, Lib.hid (by rw [OF.out]; exact HO5.out), HW5⟩
        case measure => omega
      · have OT := Lib.hid (show U (i + 1) = U i ++ [(i : Int) + 1] from OSE.out)
        clear OSE
        go_wp2_with fail
        refine EK.out.mono ?_
        rintro e w2 ⟨rfl, u, hu⟩
        have b2 : Below wq.heap.size wq w2 := by rw [hu]; exact below_drewN (Below.refl _ _) u
        have HW5 := Lib.hid (HW.out.trans (b2.mono HW.out.size))
        have HO5 := Lib.hid ((HO.out.below b2).wide b2.size (Nat.le_refl _))
        clear hu b2 HO HW
        obtain ⟨L, hL⟩ : ∃ L, L = U i := ⟨_, rfl⟩
        rw [← hL] at HO5 OT ol
        have hown := HO5.out.row
        have hsz := HW5.out.size
        have l1 : L.length ≤ 8 := by omega
        have IX := Lib.hid (show InI64 ((i : Int) + 1) by unfold InI64; omega)
        clear hL ol
        go_wp2_with (at_builtin; refine wpList_append_own _ rfl _ _ 22 rfl w.heap.size 3 i0 (.int .i64 0) 1 8 Try.underlying22 hi hz0 hz1 hz2 rfl (by decide) _ L.length (L.map (.int .i64)) rfl (hown.alloc _) ⟨w2.heap.size, 0, none⟩ 1 1 [.int .i64 ((i : Int) + 1)] rfl rfl (cell_one_new _ _ _) (fun x hx => by simp at hx; subst hx; rfl) (by unfold maxLen; omega) (by omega) (by simp; omega) ?_; intro v' w3 hown3 hgrow3 hnil3)
        have bel3 := Lib.hid ((HW5.out.alloc HW5.out.size _).grown hgrow3 (by simp; omega) (fun q hq => by have := (hown.lt q hq).1; omega))
        have own3 := Lib.hid (HO5.out.app IX.out hown3)
        clear hown hown3 hgrow3 hnil3
        go_roundg (m - (i + 1))
        case rel => exact ⟨i + 1, by omega, by omega, by congr 1 <;> omega, Lib.hid (by rw [OT.out]; exact own3.out), bel3⟩
        case measure => omega
    · have him : i = m := by omega
      have FIN : Hid (∀ o, OwnV wq w.heap.size wq.heap.size o (U i) → NewInts (U m) w (.returned o) wq) := Lib.hid (fun o h => ⟨o, rfl, by rw [← him]; exact h, HW.out⟩)
      by_cases hq : (i : Int) + 1 ≤ (n1 : Int)
      · have t2 : ¬ (i : Int) + 1 ≤ (n2 : Int) := by omega
        clear him
        go_wp2_with fail
        go_ret
        exact FIN.out _ HO.out
      · clear him
        go_wp2_with fail
        go_ret
        exact FIN.out _ HO.out
set_option maxRecDepth 100000 in
set_option maxHeartbeats 4000000 in
theorem sumS9 (f : Nat) (xs bs : List Int) (p q : Option Addr) (c d : Nat) (w : World) (hf : f ≤ 6) (ha : xs.length ≤ 8) (hb : bs.length ≤ 8) (hc : xs.length ≤ c) (hd : bs.length ≤ d) (h1 : SubB w p xs) (h2 : SubB w q bs) :
    Calls Try.prog 50 #[.int .i64 f, .slice p xs.length c, .slice q bs.length d] w (Gives (.int .i64 (wsN f xs bs : Nat)) w) := by
  have OV := Lib.hid (overS xs bs p q c d w ha hb hc hd h1 h2)
  obtain ⟨LB, LN⟩ := ovL_bd xs bs ha
  have WB := Lib.hid (fun j => wsK_bd (f := f) hf LB j)
  have WS := Lib.hid (fun j => show wsK f (ovL xs bs) (j + 1) = wsK f (ovL xs bs) j + f ^ ((ovL xs bs).getD j 0).toNat from rfl)
  have W0 := Lib.hid (show wsK f (ovL xs bs) 0 = 0 from rfl)
  have WE := Lib.hid (show wsN f xs bs = wsK f (ovL xs bs) (ovL xs bs).length from rfl)
  have LM := Lib.hid (fun j (hj : j < (ovL xs bs).length) => LB _ (getD_memF hj))
  have PW : Hid (∀ k : Nat, k ≤ 8 → ∀ w, Calls Try.prog 61 #[.int .i64 f, .int .i64 k] w (QR (.int .i64 (f ^ k : Nat)) w)) := Lib.hid (fun k hk w => powS f k w (by omega) (fun j hj => by have := pw68 (f := f) (k := j) hf (by omega); omega) (by omega))
  have PB := Lib.hid (fun k (hk : k ≤ 8) => pw68 (f := f) (k := k) hf hk)
  rw [WE.out]
  obtain ⟨L, hL⟩ : ∃ L, L = ovL xs bs := ⟨_, rfl⟩
  rw [← hL] at OV LN WB WS W0 LM ⊢
  obtain ⟨n, hn⟩ : ∃ n, n = L.length := ⟨_, rfl⟩
  have HN := Lib.hid hn
  rw [← hn] at LN LM ⊢
  obtain ⟨K, hK⟩ : ∃ K : Nat → Nat, K = wsK f L := ⟨_, rfl⟩
  rw [← hK] at WB WS W0 ⊢
  clear WE LB hL hn hK h1 h2
  go_enter Try.func50, Try.ntmps50
  go_wp2_with fail
  refine OV.out.mono ?_
  rintro e w1 ⟨v1, rfl, o1, b1⟩
  have HB1 := Lib.hid b1
  obtain ⟨q, cq, rfl, lq, mq, zq, iq⟩ := o1.intsV
  have E1 := Lib.hid iq
  rw [← HN.out] at lq mq ⊢
  clear b1 o1 zq iq
  go_wp2_with fail
  go_loopg [7, 9] n (fun gg s t wr => ∃ j : Nat, j ≤ n ∧ n - j ≤ gg ∧ s = .int .i64 (K j : Nat) ∧ t = .int .i64 j ∧ w1 = wr)
  case atStart => exact ⟨0, by omega, by omega, by rw [W0.out]; rfl, rfl, rfl⟩
  case round =>
    obtain ⟨j, hj, hgg, rfl, rfl, rfl⟩ := hrel
    by_cases hlt : j < n
    · obtain ⟨b, off, rfl, hb', hc⟩ := E1.out.get (by rw [← HN.out]; exact hlt : j < L.length)
      have i0 : (0 : Int) ≤ (j : Int) := by omega
      have i1 : (j : Int) < (n : Int) := by omega
      have lm := LM.out j hlt
      have ws := WS.out j
      have wb1 := WB.out j
      obtain ⟨z, hz⟩ : ∃ z, z = L.getD j 0 := ⟨_, rfl⟩
      rw [← hz] at hc lm ws
      obtain ⟨k, rfl⟩ : ∃ k : Nat, z = (k : Int) := ⟨z.toNat, by omega⟩
      rw [Int.toNat_natCast] at ws
      have PK := Lib.hid (fun w => PW.out k (by omega) w)
      have pb := PB.out k (by omega)
      obtain ⟨x, hx⟩ : ∃ x, x = f ^ k := ⟨_, rfl⟩
      rw [← hx] at PK pb ws
      obtain ⟨s, hs⟩ : ∃ s, s = K j := ⟨_, rfl⟩
      rw [← hs] at ws wb1 ⊢
      have SE := Lib.hid (show ((s : Nat) : Int) + ((x : Nat) : Int) = (K (j + 1) : Nat) by omega)
      have sb : s ≤ 13436928 := by omega
      clear hz ws hx hs wb1
      go_wp2_with fail
      refine (PK.out _).mono ?_
      rintro e w5 ⟨rfl, rfl⟩
      go_wp2_with fail
      go_roundg (n - (j + 1))
      case rel => exact ⟨j + 1, by omega, by omega, by rw [SE.out], by go_num, rfl⟩
      case measure => omega
    · obtain rfl : j = n := by omega
      have i1 : ¬ (j : Int) < (j : Int) := by omega
      go_wp2_with fail
      go_ret
      exact ⟨rfl, HB1.out⟩
end Go.Proofs.Ytligidmkhbcpmaa
