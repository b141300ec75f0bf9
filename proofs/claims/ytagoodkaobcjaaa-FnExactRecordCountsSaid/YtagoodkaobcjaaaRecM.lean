/- RecordCounts in the model. -/
import Derived.Test.YtagoodkaobcjaaaRecI
namespace Go.Proofs.Ytagoodkaobcjaaa
open Go.RowKit
set_option linter.unusedVariables false
theorem OwnV.oneR (w : World) (lo : Nat) (x : Int) (hlo : lo ≤ w.heap.size) (hx : InI64 x) : OwnV (w.alloc (.cells #[.int .i64 x] 3)) lo (w.alloc (.cells #[.int .i64 x] 3)).heap.size (.slice (some ⟨w.heap.size, 0, none⟩) 1 1) [x] := by
  refine ⟨⟨rfl, .inr ⟨w.heap.size, 1, #[.int .i64 x], rfl, hlo, alloc_heap w _, by simp, by unfold maxLen; omega, rfl, rfl⟩⟩, ?_, Nat.le_refl _, ?_⟩
  · intro q hq
    simp [Value.ownBlock] at hq
    subst hq
    simp
  · intro z hz; simp at hz; subst hz; exact hx
set_option maxRecDepth 100000 in
set_option maxHeartbeats 4000000 in
theorem recM (m : Int) (w : World) : Calls Try.prog 19 #[.int .i64 m] w (NewIntsB (ifC m reL) (okC 0 m) w) := by
  have E := Lib.hid (fun w => inS m 0 12 w)
  rw [show decide (0 ≤ m ∧ m ≤ 12) = okC 0 m from rfl] at E
  cases hk : okC 0 m
  · have e1 : ifC m reL = [] := by unfold ifC; rw [hk]; rfl
    rw [e1]
    rw [hk] at E
    clear hk e1
    go_enter Try.func19, Try.ntmps19
    go_wp2_with fail
    refine (E.out _).mono ?_
    rintro e w1 ⟨rfl, rfl⟩
    go_wp2_with fail
    go_ret2
    exact newInts_empty (Below.refl _ _)
  · rw [hk] at E
    have e1 : ifC m reL = reL m.toNat := by unfold ifC; rw [hk]; rfl
    rw [e1]
    obtain ⟨k, rfl, h15⟩ := okC_mk hk
    rw [Int.toNat_natCast]
    have O0 := Lib.hid (by have h := OwnV.oneR w w.heap.size 1 (Nat.le_refl _) (by unfold InI64; omega); rw [← reL_zero] at h; exact h : OwnV (w.alloc (.cells #[.int .i64 1] 3)) w.heap.size (w.alloc (.cells #[.int .i64 1] 3)).heap.size (.slice (some ⟨w.heap.size, 0, none⟩) 1 1) (reL 0))
    have B0 := Lib.hid ((Below.refl w.heap.size w).alloc (Nat.le_refl _) (.cells #[.int .i64 1] 3))
    have BD := Lib.hid (fun c i (hc : c ≤ 12) (hi : i ≤ 13) => re_bd c (by omega) i (by omega))
    have BD2 := Lib.hid (fun c i (hc : c ≤ 12) (hi : i ≤ 13) => re_bd2 c (by omega) i (by omega))
    have BS := Lib.hid (fun c r (hc : c ≤ 12) (hr : r ≤ 13) => se_bd (c := c) (r := r) (by omega) (by omega))
    have SA := Lib.hid se_add
    have DZ := Lib.hid dn_zero
    have DA := Lib.hid (fun c r n (h : r < n) => dn_at (c := c) h)
    have DT := Lib.hid (fun c r n => dn_set (c := c) (r := r) (n := n))
    have MA := Lib.hid (fun c r n (h : r + 1 < n) => md_at (c := c) h)
    have MT := Lib.hid (fun c r n => md_set (c := c) (r := r) (n := n))
    have DE := Lib.hid (fun c n (hc : c ≤ 12) (hn : n = c + 2) => show preL (dnF c (c + 1)) n = reL (c + 1) by rw [hn]; exact dn_end (by omega))
    have LA := Lib.hid (fun c r (h : r < c + 1) => show (reL c).getD r 0 = reF c r from pre_at h)
    have LL := Lib.hid (fun c => show (reL c).length = c + 1 from pre_len (reF c) (c + 1))
    have DL := Lib.hid (fun c r n => pre_len (dnF c r) n)
    have ML := Lib.hid (fun c r n => pre_len (mdF c r) n)
    obtain ⟨L, hL⟩ : ∃ L : Nat → List Int, L = reL := ⟨_, rfl⟩
    obtain ⟨R, hR⟩ : ∃ R : Nat → Nat → Int, R = reF := ⟨_, rfl⟩
    obtain ⟨D, hD⟩ : ∃ D : Nat → Nat → Nat → Int, D = dnF := ⟨_, rfl⟩
    obtain ⟨M, hM⟩ : ∃ M : Nat → Nat → Nat → Int, M = mdF := ⟨_, rfl⟩
    obtain ⟨S, hS⟩ : ∃ S : Nat → Nat → Int, S = seF := ⟨_, rfl⟩
    rw [← hL] at O0 DE LA LL ⊢
    rw [← hR] at BD BD2 SA DT MT LA
    rw [← hD] at DZ DA DT MT DE DL
    rw [← hM] at DT MA MT ML
    rw [← hS] at BS SA DA DT
    obtain ⟨i0, hi, hz0, hz1, hz2⟩ := info_parts intInfo
    clear hk e1 hL hR hD hM hS
    go_enter Try.func19, Try.ntmps19
    go_wp2_with fail
    refine (E.out _).mono ?_
    rintro e w1 ⟨rfl, rfl⟩
    go_wp2_with fail
    go_loopg [4, 5] k (fun gg o i wr => ∃ c : Nat, c ≤ k ∧ k - c ≤ gg ∧ i = .int .i64 ((c : Int) + 1) ∧ Hid (OwnV wr w.heap.size wr.heap.size o (L c)) ∧ Hid (Below w.heap.size w wr))
    case atStart => exact ⟨0, Nat.zero_le _, by omega, rfl, O0, B0⟩
    case round =>
      clear O0 B0
      obtain ⟨c, hc, hgg, rfl, HO, HB⟩ := hrel
      obtain ⟨K, hK⟩ : ∃ K : Int, K = (c : Int) + 1 := ⟨_, rfl⟩
      rw [← hK]
      have HK := Lib.hid hK
      have k1 : K ≤ (c : Int) + 1 := by omega
      have k2 : (c : Int) + 1 ≤ K := by omega
      have SZ := HB.out.size
      obtain ⟨wq, rfl⟩ : ∃ wq : World, wq = wr := ⟨_, rfl⟩
      by_cases hlt : c < k
      · have t1 : K ≤ (k : Int) := by omega
        obtain ⟨g, cap, rfl, hg1, hg2⟩ := HO.out.shape (by rw [LL.out]; omega)
        obtain ⟨n, hn⟩ : ∃ n, n = c + 2 := ⟨_, rfl⟩
        have hn1 : K + 1 = (n : Int) := by omega
        have n1 : n ≤ c + 2 := by omega
        have n2 : c + 2 ≤ n := by omega
        have NE := Lib.hid hn
        have c1' : i0.bytes * n ≤ 281474976710656 := by rw [hz2]; omega
        have c2' : n ≤ maxLen := by unfold maxLen; omega
        obtain ⟨l, hl⟩ : ∃ l, l = (L c).length := ⟨_, rfl⟩
        have l1 : l ≤ c + 1 := by rw [hl, LL.out]; exact Nat.le_refl _
        have l2 : c + 1 ≤ l := by rw [hl, LL.out]; exact Nat.le_refl _
        have HL := Lib.hid hl
        rw [← hl] at HO ⊢
        clear hn hK hl
        go_wp2_with (at_make; refine wpList_make_full _ rfl _ _ 25 rfl wq.heap.size 3 i0 (.int .i64 0) 1 Try.underlying25 hi hz0 hz1 .i64 .i64 _ _ n rfl rfl rfl rfl c1' c2' (Nat.le_refl _) ?_; intro w3 hown hg3)
        have O2 := OwnV.made (rec_made hown)
        rw [DZ.out c n] at O2
        have HN := Lib.hid O2
        have BQ := (Below.refl wq.heap.size wq).grown hg3 (Nat.le_refl _) (fun q hq => by simp at hq)
        have HO2 := Lib.hid (HO.out.below BQ)
        have HB2 := Lib.hid (HB.out.trans (BQ.mono SZ))
        clear hown hg3 O2 BQ HO HB c1' c2'
        obtain ⟨h, hh⟩ : ∃ h, h = wq.heap.size := ⟨_, rfl⟩
        rw [← hh] at SZ hg2 HO2 HN ⊢
        clear hh
        go_wp2_with fail
        go_loopg [7] (c + 1) (fun gg i wr => ∃ r : Nat, r ≤ c + 1 ∧ c + 1 - r ≤ gg ∧ i = .int .i64 r ∧ Hid (OwnV wr w.heap.size h (.slice (some ⟨g, 0, none⟩) l cap) (L c)) ∧ Hid (OwnV wr h wr.heap.size (.slice (some ⟨h, 0, none⟩) n n) (preL (D c r) n)) ∧ Hid (Below w.heap.size w wr))
        case atStart => exact ⟨0, Nat.zero_le _, Nat.le_refl _, rfl, HO2, HN, HB2⟩
        case round =>
          clear HO2 HN HB2
          obtain ⟨r, hr, hgg2, rfl, HO, HN, HB⟩ := hrel
          by_cases hr0 : r < c + 1
          · have r1 : (r : Int) < (l : Int) := by omega
            have r2 : (r : Int) < (n : Int) := by omega
            have r3 : (r : Int) + 1 < (n : Int) := by omega
            have x1 := HO.out.cellGet (j := r) (by rw [LL.out]; exact hr0)
            have x2 := HN.out.cellGet (j := r) (by rw [DL.out]; omega)
            have x3 := HN.out.frozenGet r
            rw [LA.out c r hr0] at x1
            rw [DA.out c r n (by omega)] at x2
            have b1 := BD.out c r (by omega) (by omega)
            have b2 := BD2.out c r (by omega) (by omega)
            have b3 := BS.out c r (by omega) (by omega)
            have b4 := BD.out (c + 1) r (by omega) (by omega)
            have sa := SA.out c r
            have dt := DT.out c r n
            have mt := MT.out c r n
            have ma := MA.out c r n (by omega)
            obtain ⟨x, hx⟩ : ∃ x, x = R c r := ⟨_, rfl⟩
            obtain ⟨y, hy⟩ : ∃ y, y = S c r := ⟨_, rfl⟩
            rw [← hx] at x1 b1 b2 sa dt mt
            rw [← hy] at x2 b3 sa dt
            rw [← sa] at b4
            have mc : x * (c : Int) = (c : Int) * x := Int.mul_comm _ _
            obtain ⟨p, hp⟩ : ∃ p, p = (c : Int) * x := ⟨_, rfl⟩
            rw [mc, ← hp] at b2
            rw [← hp] at b4 dt
            have O5 : OwnV (wr.setCell ⟨h, r, none⟩ (.int .i64 (y + p))).drew h (wr.setCell ⟨h, r, none⟩ (.int .i64 (y + p))).drew.heap.size (.slice (some ⟨h, 0, none⟩) n n) (preL (M c r) n) := by
              have hh := (HN.out.setAt r (x := y + p) (by unfold InI64; omega)).below (below_drew (Below.refl _ _))
              rw [dt] at hh
              simpa [World.setCell] using hh
            obtain ⟨w5, hw5⟩ : ∃ w5, w5 = (wr.setCell ⟨h, r, none⟩ (.int .i64 (y + p))).drew := ⟨_, rfl⟩
            have P5 := Lib.hid (HO.out.below (w' := w5) (by rw [hw5]; exact below_drew ((Below.refl h wr).setCell (p := ⟨h, r, none⟩) (Nat.le_refl _) _)))
            have B5 : Hid (Below w.heap.size w w5) := Lib.hid (by rw [hw5]; exact below_drew (HB.out.setCell (p := ⟨h, r, none⟩) SZ _))
            rw [← hw5] at O5
            have y1 := P5.out.cellGet (j := r) (by rw [LL.out]; exact hr0)
            rw [LA.out c r hr0, ← hx] at y1
            have y2 := O5.cellGet (j := r + 1) (by rw [ML.out]; omega)
            have y3 := O5.frozenGet (r + 1)
            rw [ma] at y2
            have O6 : OwnV (w5.setCell ⟨h, r + 1, none⟩ (.int .i64 x)).drew h (w5.setCell ⟨h, r + 1, none⟩ (.int .i64 x)).drew.heap.size (.slice (some ⟨h, 0, none⟩) n n) (preL (D c (r + 1)) n) := by
              have hh := (O5.setAt (r + 1) (x := x) (by unfold InI64; omega)).below (below_drew (Below.refl _ _))
              rw [mt] at hh
              simpa [World.setCell] using hh
            have HN6 := Lib.hid O6
            have P6 := Lib.hid (P5.out.below (below_drew ((Below.refl h w5).setCell (p := ⟨h, r + 1, none⟩) (Nat.le_refl _) (.int .i64 x))))
            have B6 := Lib.hid (below_drew (B5.out.setCell (p := ⟨h, r + 1, none⟩) SZ (.int .i64 x)))
            have W0 : IntKind.i64.wrap (K - 1) = (c : Int) := by rw [show K - 1 = (c : Int) by omega]; exact IntWalk.i64_in _ (by omega)
            have W1 : IntKind.i64.wrap ((c : Int) * x) = p := by rw [← hp]; exact IntWalk.i64_in _ (by omega)
            have W2 : IntKind.i64.wrap (y + p) = y + p := IntWalk.i64_in _ (by omega)
            have W3 : IntKind.i64.wrap ((r : Int) + 1) = ((r + 1 : Nat) : Int) := by rw [show (r : Int) + 1 = ((r + 1 : Nat) : Int) by omega]; exact IntWalk.i64_in _ (by omega)
            have W4 : IntKind.i64.wrap x = x := IntWalk.i64_in _ (by omega)
            have r4 : ((r + 1 : Nat) : Int) < (n : Int) := by omega
            have r5 : 0 ≤ ((r + 1 : Nat) : Int) := by omega
            have r6 : 0 ≤ (r : Int) + 1 := by omega
            clear HO HN HB sa dt mt ma mc hp hx hy O5 O6
            go_wp2_with fail
            go_region
            rw [← hw5]
            clear hw5 x1 x2 x3
            go_wp2_with fail
            go_region
            go_wp2_with fail
            go_roundg (c + 1 - (r + 1))
            case rel => exact ⟨r + 1, by omega, by omega, by go_num, P6, HN6, B6⟩
            case measure => omega
          · have r1 : ¬ (r : Int) < (l : Int) := by omega
            have HE : Hid (OwnV wr w.heap.size wr.heap.size (.slice (some ⟨h, 0, none⟩) n n) (L (c + 1))) := Lib.hid (by
              have hh := HN.out.low SZ
              have e : r = c + 1 := by omega
              rw [e, DE.out c n (by omega) NE.out] at hh
              exact hh)
            clear HN HO
            go_wp2_with fail
            go_roundg (k - (c + 1))
            case rel => exact ⟨c + 1, by omega, by omega, by congr 1; omega, HE, HB⟩
            case measure => omega
      · have t1 : ¬ K ≤ (k : Int) := by omega
        have hck : c = k := by omega
        have FIN : Hid (∀ o, OwnV wq w.heap.size wq.heap.size o (L c) → NewIntsB (L k) true w (.returned (.tuple #[o, .bool true])) wq) := Lib.hid (fun o h => ⟨o, rfl, by rw [← hck]; exact h, HB.out⟩)
        clear hck hK
        go_wp2_with fail
        go_ret2
        exact FIN.out _ HO.out
end Go.Proofs.Ytagoodkaobcjaaa
