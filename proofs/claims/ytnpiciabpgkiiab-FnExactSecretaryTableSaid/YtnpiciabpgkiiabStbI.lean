/- SecretaryTable in the program. -/
import Derived.Test.YtnpiciabpgkiiabQstW
import Derived.Test.YtnpiciabpgkiiabPrsF
import Derived.Test.YtnpiciabpgkiiabInS
namespace Go.Proofs.Ytnpiciabpgkiiab
open Go.RowKit Go.Maps
set_option linter.unusedVariables false
theorem fromT (x a b : Int) (w : World) : Calls Try.prog 54 #[.int .i64 x, .int .i64 a, .int .i64 b] w fun e w' => e = .returned (.bool (decide (a ≤ x ∧ x ≤ b))) ∧ w = w' := by
  by_cases h1 : a ≤ x
  · by_cases h2 : x ≤ b
    · rw [decide_eq_true ⟨h1, h2⟩]
      go_enter Try.func54, Try.ntmps54
      go_wp2
      go_ret
      exact ⟨rfl, rfl⟩
    · rw [decide_eq_false (fun h => h2 h.2)]
      go_enter Try.func54, Try.ntmps54
      go_wp2
      go_ret
      exact ⟨rfl, rfl⟩
  · rw [decide_eq_false (fun h => h1 h.1)]
    go_enter Try.func54, Try.ntmps54
    go_wp2
    go_ret
    exact ⟨rfl, rfl⟩
def stA (n i : Nat) : Int := (qT1.v 1 n i 0).1
def stB (n i : Nat) : Int := (qT1.v 1 n i 0).2
def stLen (n : Int) : Nat := if 1 ≤ n ∧ n ≤ 10 then n.toNat + 1 else 0
def stL (n : Int) : List Int := if 1 ≤ n ∧ n ≤ 10 then prL (stA n.toNat) (stB n.toNat) (n.toNat + 1) else []
theorem stLen_le (n : Int) : stLen n ≤ 1048576 := by unfold stLen; split <;> omega
theorem OwnQ.bel {w w' : World} {lo hi n b : Nat} {v : Value} {fs : List Int} (h : OwnQ w lo hi v n fs) (ha : Alt b (b + 1) w w') (hb : b < lo) : OwnQ w' lo hi v n fs := h.alt ha (.inr (by omega))
set_option maxRecDepth 100000 in
set_option maxHeartbeats 4000000 in
theorem sectabI (n : Int) (w : World) : Calls Try.prog 29 #[.int .i64 n] w (NewQB (stLen n) (stL n) (decide (1 ≤ n ∧ n ≤ 10)) w) := by
  have F := Lib.hid (fun w => fromT n 1 10 w)
  by_cases h : 1 ≤ n ∧ n ≤ 10
  · rw [decide_eq_true h] at F ⊢
    obtain ⟨N, rfl⟩ : ∃ N : Nat, n = N := ⟨n.toNat, by omega⟩
    have hN : N < 11 := by omega
    have hN1 : 1 ≤ N := by omega
    have iN : (N : Int) ≤ 10 := h.2
    rw [show stLen N = N + 1 from if_pos h, show stL N = prL (stA N) (stB N) (N + 1) from if_pos h]
    have SE := Lib.hid (fun w => searchC 88 (.agg #[.int .i64 (N : Int)]) (GQ qT1 1 N) w)
    have BE : Hid (∀ b k m w, k < N + 1 → m ≤ k * 100000000000 → MapQ 85 w b m (GQ qT1 1 N) → Calls Try.prog 65 #[.agg #[.iface 88 (.agg #[.int .i64 N]), .map (some b)], .agg #[.int .i64 (k : Int), .int .i64 0]] w (QPost (.agg #[.int .i64 (stA N k), .int .i64 (stB N k)]) w b (m + 100000000000) (GQ qT1 1 N))) := Lib.hid (fun b k m w hk hm hM => by
      have hp := pow12 (d := N - k) (by omega)
      have hk' : k * 100000000000 ≤ 10 * 100000000000 := Nat.mul_le_mul_right _ (by omega)
      exact (bestC qT1 1 N _ _ (questBest hN1 (by omega)) b (N - k) k 0 m w (by omega) (Nat.zero_le _) hM (by unfold maxLen; omega)).mono (fun e w' h' => h'.mono (by omega)))
    have BD := Lib.hid (fun k (hk : k < N + 1) => fr_bd ((q1Ok hN1 (by omega : N ≤ 10)).fv (c := k) (r := 0) hk (by omega)))
    obtain ⟨i0, hif, hz0, hz1, hz2⟩ := info_parts pairInfo
    have HIF := Lib.hid hif
    clear h
    go_enter Try.func29, Try.ntmps29
    go_wp2_with fail
    refine (F.out _).mono ?_
    rintro e w1 ⟨rfl, rfl⟩
    go_wp2_with fail
    refine (SE.out _).mono ?_
    rintro e w2 ⟨b, rfl, hM, b2, hb⟩
    have B2 := Lib.hid b2
    have hb2 := hM.lt
    clear b2
    obtain ⟨w3, hw3⟩ : ∃ w3, w3 = w2.alloc (.cells #[.iface 88 (.agg #[.int .i64 N]), .map (some b)] 82) := ⟨_, rfl⟩
    have K3 : w3.heap[w2.heap.size]? = some (.cells #[.iface 88 (.agg #[.int .i64 N]), .map (some b)] 82 (0, 0)) := by rw [hw3]; exact alloc_heap w2 _
    have S3 : w3.heap.size = w2.heap.size + 1 := by rw [hw3]; simp
    have B3 : Below w.heap.size w w3 := by rw [hw3]; exact B2.out.alloc B2.out.size _
    have M3 : MapQ 85 w3 b 0 (GQ qT1 1 N) := by rw [hw3]; exact hM.next ((Below.refl _ _).alloc (Nat.le_refl _) _)
    obtain ⟨w4, hw4⟩ : ∃ w4, w4 = w3.alloc (.cells #[] 32) := ⟨_, rfl⟩
    have B34 : Below w3.heap.size w3 w4 := by rw [hw4]; exact (Below.refl _ _).alloc (Nat.le_refl _) _
    have O4 := Lib.hid (show OwnQ w4 w3.heap.size w4.heap.size (.slice (some ⟨w3.heap.size, 0, none⟩) 0 0) 0 [] by rw [hw4]; exact OwnQ.empty w3 _ (Nat.le_refl _))
    have B4 := Lib.hid (B3.trans (B34.mono B3.size))
    have M4 := Lib.hid (M3.next B34)
    have K4 := Lib.hid ((B34.block w2.heap.size (by omega)).trans K3)
    clear M3 B3 K3 hM
    go_upto_region 4 with fail
    rw [← hw3]
    clear hw3
    go_upto_region 5 with fail
    rw [← hw4]
    clear hw4
    rw [S3] at O4
    have ZS : Hid (∀ k, prL (stA N) (stB N) (k + 1) = prL (stA N) (stB N) k ++ [stA N k, stB N k]) := Lib.hid (fun k => rfl)
    have BDx : Hid (∀ k, k < N + 1 → InI64 (stA N k) ∧ InI64 (stB N k)) := Lib.hid (fun k hk => by
      have := BD.out k hk
      unfold InI64 stA stB; omega)
    have hbs : b < w2.heap.size + 1 := by omega
    have hb3 : b ≠ w2.heap.size := by omega
    clear BD B34 S3 hif
    go_wp2_with fail
    go_loopg [5, 18] (N + 1) (fun gg s i wr => ∃ k m' : Nat, k ≤ N + 1 ∧ N + 1 - k ≤ gg ∧ i = .int .i64 k ∧ m' ≤ k * 100000000000 ∧ Hid (OwnQ wr (w2.heap.size + 1) wr.heap.size s k (prL (stA N) (stB N) k)) ∧ Hid (MapQ 85 wr b m' (GQ qT1 1 N)) ∧ Hid (wr.heap[w2.heap.size]? = some (.cells #[.iface 88 (.agg #[.int .i64 N]), .map (some b)] 82 (0, 0))) ∧ Hid (Below w.heap.size w wr))
    case atStart => exact ⟨0, 0, by omega, by omega, rfl, by omega, O4, M4, K4, B4⟩
    case round =>
      clear O4 M4 K4 B4
      obtain ⟨k, m', hk, hgg, rfl, hm', HO, HM, HK, HB⟩ := hrel
      by_cases hlt : k < N + 1
      · have i1 : (k : Int) < (N : Int) + 1 := by omega
        have i2 : 0 ≤ (k : Int) := by omega
        have BEx := Lib.hid (BE.out b k m' wr hlt hm' HM.out)
        have IN := Lib.hid (BDx.out k hlt)
        have se := ZS.out k
        obtain ⟨x, hx⟩ : ∃ x, x = stA N k := ⟨_, rfl⟩
        obtain ⟨y, hy⟩ : ∃ y, y = stB N k := ⟨_, rfl⟩
        rw [← hx, ← hy] at BEx se IN
        obtain ⟨L, hL⟩ : ∃ L, L = prL (stA N) (stB N) k := ⟨_, rfl⟩
        rw [← hL] at HO se
        have SE' := Lib.hid se
        clear hx hy hL se
        have x0 := (cell_of_heap (o := 0) HK.out rfl).1
        have x1 := (cell_of_heap (o := 1) HK.out rfl).1
        go_wp2_with fail
        refine BEx.out.mono ?_
        rintro e w5 ⟨rfl, m5, hm5, hM5, al5⟩
        have hsb : w2.heap.size < wr.heap.size := (Array.getElem?_eq_some_iff.1 HK.out).1
        have HM5 := Lib.hid hM5
        have HO5 := Lib.hid ((HO.out.bel al5 hbs).wide al5.size (Nat.le_refl _))
        have HK5 := Lib.hid ((al5.block w2.heap.size hsb (by omega)).trans HK.out)
        have HB5 := Lib.hid (HB.out.trans ((al5.below (by omega)).mono hb))
        have hs5 : w2.heap.size + 1 ≤ w5.heap.size := by have := al5.size; omega
        clear al5 hM5 HO HM HK HB x0 x1
        have hown := HO5.out.row
        go_wp2_with (at_builtin; refine wpList_append_own_at _ rfl _ _ 24 rfl (w2.heap.size + 1) 32 i0 (.agg #[.int .i64 0, .int .i64 0]) 2 16 Try.underlying24 HIF.out hz0 hz1 hz2 rfl (by decide) _ k (L.map (.int .i64)) rfl (hown.alloc _) ⟨w5.heap.size, 0, none⟩ 1 1 [.int .i64 x, .int .i64 y] rfl rfl (cell_two_new _ _ _ _) (fun u hu => by simp at hu; rcases hu with rfl | rfl <;> rfl) (by unfold maxLen; omega) (by omega) (by simp; omega) ?_; intro v' w6 hown6 hgrow6 hnil6 hloc6)
        have D6 : Below (w2.heap.size + 1) w5 w6 := ((Below.refl (w2.heap.size + 1) w5).alloc hs5 (.cells #[.int .i64 x, .int .i64 y] 32)).grown hgrow6 (by simp; omega) (fun q hq => (hown.lt q hq).1)
        have own6 := Lib.hid (HO5.out.app IN.out.1 IN.out.2 hown6)
        have HM6 := Lib.hid (HM5.out.below D6 hbs)
        have HK6 := Lib.hid ((D6.block w2.heap.size (Nat.lt_succ_self _)).trans HK5.out)
        have HB6 := Lib.hid (HB5.out.trans (D6.mono (by have := B2.out.size; omega)))
        clear hown hown6 hgrow6 hnil6 hloc6 HO5 HM5 HK5 HB5 D6
        go_wp2_with fail
        go_roundg (N + 1 - (k + 1))
        case rel => exact ⟨k + 1, m5, by omega, by omega, by go_num, by omega, Lib.hid (by rw [SE'.out]; exact own6.out), HM6, HK6, HB6⟩
        case measure => omega
      · obtain rfl : k = N + 1 := by omega
        have FIN : Hid (∀ o, OwnQ wr (w2.heap.size + 1) wr.heap.size o (N + 1) (prL (stA N) (stB N) (N + 1)) → NewQB (N + 1) (prL (stA N) (stB N) (N + 1)) true w (.returned (.tuple #[o, .bool true])) wr) := Lib.hid (fun o ho => ⟨o, rfl, ho.low (by have := B2.out.size; omega), HB.out⟩)
        go_wp2
        go_ret2
        exact FIN.out _ HO.out
  · rw [decide_eq_false h] at F ⊢
    rw [show stLen n = 0 from if_neg h, show stL n = [] from if_neg h]
    clear h
    go_enter Try.func29, Try.ntmps29
    go_wp2_with fail
    refine (F.out _).mono ?_
    rintro e w1 ⟨rfl, rfl⟩
    go_wp2_with fail
    go_ret2
    exact newQ_empty (Below.refl _ _) rfl
end Go.Proofs.Ytnpiciabpgkiiab
