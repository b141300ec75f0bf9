/- L7P, L7V, L7I, RecM, UrnF, UrnM, UcI in one text. -/
import Derived.Test.YtagoodkaobcjaaaFracP
import Derived.Test.YtagoodkaobcjaaaRes
import Derived.Test.YtagoodkaobcjaaaFracB
import Derived.Test.YtagoodkaobcjaaaProcI
import Derived.Test.YtagoodkaobcjaaaWlkI
import Derived.Test.YtagoodkaobcjaaaRecI
import Derived.Test.YtagoodkaobcjaaaUrnD
import Derived.Test.YtagoodkaobcjaaaUrnI
import Derived.Test.YtagoodkaobcjaaaFracC
import Derived.Test.YtagoodkaobcjaaaFracK
import Derived.Test.YtagoodkaobcjaaaUrnC
import Derived.Deep.LoopGhost
import Derived.Maps.AppendAt
namespace Go.Proofs.Ytagoodkaobcjaaa
set_option linter.unusedVariables false
/-- The sum of the first ones. -/
def smT (zs : List Int) : Nat → Int
  | 0 => 0
  | k + 1 => smT zs k + zs.getD k 0
/-- The sum of the first ones, each times its place. -/
def moT (zs : List Int) : Nat → Int
  | 0 => 0
  | k + 1 => moT zs k + (k : Int) * zs.getD k 0
/-- A weight within bounds. -/
def inV (z : Int) : Bool := decide (0 ≤ z ∧ z ≤ 5)
def outV (z : Int) : Bool := !inV z
def lawB (zs : List Int) : Bool := decide (1 ≤ zs.length ∧ zs.length ≤ 5) && (zs.all inV && decide (0 < smT zs zs.length))
structure Law (zs : List Int) : Prop where
  n1 : 1 ≤ zs.length
  n5 : zs.length ≤ 5
  bd : ∀ i, i < zs.length → 0 ≤ zs.getD i 0 ∧ zs.getD i 0 ≤ 5
  pos : 0 < smT zs zs.length
theorem getD_memV {zs : List Int} {i : Nat} (hi : i < zs.length) : zs.getD i 0 ∈ zs := by
  rw [List.getD_eq_getElem?_getD, List.getElem?_eq_getElem hi]; exact List.getElem_mem hi
theorem allV_at {zs : List Int} (h : zs.all inV = true) {i : Nat} (hi : i < zs.length) : 0 ≤ zs.getD i 0 ∧ zs.getD i 0 ≤ 5 := by
  rw [List.all_eq_true] at h
  exact of_decide_eq_true (h _ (getD_memV hi))
theorem allV_yes {zs : List Int} (h : ∀ i, i < zs.length → 0 ≤ zs.getD i 0 ∧ zs.getD i 0 ≤ 5) : zs.all inV = true := by
  rw [List.all_eq_true]
  intro z hz
  obtain ⟨i, hi, e⟩ := List.getElem_of_mem hz
  have := h i hi
  rw [List.getD_eq_getElem?_getD, List.getElem?_eq_getElem hi] at this
  unfold inV
  rw [decide_eq_true_iff, ← e]; exact this
theorem allV_no {zs : List Int} {i : Nat} (hi : i < zs.length) (h : ¬ (0 ≤ zs.getD i 0 ∧ zs.getD i 0 ≤ 5)) : zs.all inV = false := by
  cases hb : zs.all inV
  · rfl
  · exact absurd (allV_at hb hi) h
theorem any_outV (zs : List Int) : zs.any outV = !zs.all inV := by
  unfold outV
  rw [List.not_all_eq_any_not]
theorem lawB_iff {zs : List Int} : lawB zs = true ↔ Law zs := by
  unfold lawB
  rw [Bool.and_eq_true, Bool.and_eq_true, decide_eq_true_iff, decide_eq_true_iff]
  constructor
  · rintro ⟨⟨a, b⟩, c, d⟩; exact ⟨a, b, fun i hi => allV_at c hi, d⟩
  · intro p; exact ⟨⟨p.n1, p.n5⟩, allV_yes p.bd, p.pos⟩
/-- In the program's order: length, weights, total. -/
theorem lawB_prog (zs : List Int) : lawB zs = (decide (zs.length ≤ 5) && (zs.all inV && decide (0 < smT zs zs.length))) := by
  unfold lawB
  cases zs with
  | nil => rfl
  | cons a l => rw [show decide (1 ≤ (a :: l).length ∧ (a :: l).length ≤ 5) = decide ((a :: l).length ≤ 5) from by rw [Bool.eq_iff_iff, decide_eq_true_iff, decide_eq_true_iff]; simp]
theorem smT_bd {zs : List Int} {B : Nat} (h : ∀ i, i < zs.length → -(B : Int) ≤ zs.getD i 0 ∧ zs.getD i 0 ≤ B) : ∀ k, k ≤ zs.length → -((k * B : Nat) : Int) ≤ smT zs k ∧ smT zs k ≤ ((k * B : Nat) : Int)
  | 0, _ => by simp [smT]
  | k + 1, hk => by
    have a := smT_bd h k (by omega)
    have b := h k (by omega)
    have e : (k + 1) * B = k * B + B := Nat.succ_mul k B
    simp only [smT]
    omega
theorem smT_nonneg {zs : List Int} (h : ∀ i, i < zs.length → 0 ≤ zs.getD i 0) : ∀ k, k ≤ zs.length → 0 ≤ smT zs k
  | 0, _ => by simp [smT]
  | k + 1, hk => by
    have a := smT_nonneg h k (by omega)
    have b := h k (by omega)
    simp only [smT]; omega
theorem moT_bd {zs : List Int} {B N : Nat} (hN : zs.length ≤ N) (h : ∀ i, i < zs.length → 0 ≤ zs.getD i 0 ∧ zs.getD i 0 ≤ B) : ∀ k, k ≤ zs.length → 0 ≤ moT zs k ∧ moT zs k ≤ ((k * (N * B) : Nat) : Int)
  | 0, _ => by simp [moT]
  | k + 1, hk => by
    have a := moT_bd hN h k (by omega)
    have b := h k (by omega)
    have e : (k + 1) * (N * B) = k * (N * B) + N * B := Nat.succ_mul k _
    have p0 : 0 ≤ (k : Int) * zs.getD k 0 := Int.mul_nonneg (by omega) b.1
    have p1 : (k : Int) * zs.getD k 0 ≤ ((N * B : Nat) : Int) := by
      rw [Int.natCast_mul]
      exact Int.mul_le_mul (by omega) b.2 b.1 (by omega)
    simp only [moT]
    omega
theorem Law.sum_bd {zs : List Int} (p : Law zs) {k : Nat} (hk : k ≤ zs.length) : 0 ≤ smT zs k ∧ smT zs k ≤ 25 := by
  have a := smT_nonneg (fun i hi => (p.bd i hi).1) k hk
  have b := smT_bd (B := 5) (fun i hi => by have := p.bd i hi; omega) k hk
  have := p.n5
  have : k * 5 ≤ 25 := by omega
  omega
theorem Law.mom_bd {zs : List Int} (p : Law zs) {k : Nat} (hk : k ≤ zs.length) : 0 ≤ moT zs k ∧ moT zs k ≤ 125 := by
  have b := moT_bd (B := 5) (N := 5) p.n5 (fun i hi => p.bd i hi) k hk
  have := p.n5
  omega
end Go.Proofs.Ytagoodkaobcjaaa
namespace Go.Proofs.Ytagoodkaobcjaaa
set_option linter.unusedVariables false
/-- The mean of a law. -/
def lawMeanV (zs : List Int) : Value := if lawB zs = true then keptV (cutN (moT zs zs.length) (smT zs zs.length)) (cutD (moT zs zs.length) (smT zs zs.length)) else .tuple #[.agg #[.int .i64 0, .int .i64 0], .bool false]
theorem lawMeanV_form (zs : List Int) : ∃ p q ok, lawMeanV zs = .tuple #[.agg #[.int .i64 p, .int .i64 q], .bool ok] := by
  unfold lawMeanV
  split
  · unfold keptV; split <;> exact ⟨_, _, _, rfl⟩
  · exact ⟨_, _, _, rfl⟩
end Go.Proofs.Ytagoodkaobcjaaa
namespace Go.Proofs.Ytagoodkaobcjaaa
open Go.RowKit
set_option linter.unusedVariables false

set_option maxHeartbeats 2000000 in
theorem totIQ (zs : List Int) (v : Value) (B : Nat) (w : World) (hn : zs.length ≤ 1048576) (hb : ∀ i, i < zs.length → -1000000000 ≤ zs.getD i 0 ∧ zs.getD i 0 ≤ 1000000000) (h : IntsV w B v zs) :
    Calls Try.prog 58 #[v] w fun e w' => e = .returned (.int .i64 (smT zs zs.length)) ∧ w = w' := by
  obtain ⟨q, cq, rfl, lq, mq, zq, iq⟩ := h
  have E1 := Lib.hid iq
  have BD := Lib.hid hb
  have SB := Lib.hid (fun k hk => smT_bd (zs := zs) (B := 1000000000) (fun i hi => by have := hb i hi; omega) k hk)
  have ST := Lib.hid (fun k => show smT zs (k + 1) = smT zs k + zs.getD k 0 from rfl)
  clear iq zq mq lq hb
  go_enter Try.func58, Try.ntmps58
  go_wp2
  go_loopg [3, 8] zs.length (fun gg s i wr => ∃ k : Nat, k ≤ zs.length ∧ zs.length - k ≤ gg ∧ i = .int .i64 k ∧ s = .int .i64 (smT zs k) ∧ wr = w)
  case atStart => exact ⟨0, Nat.zero_le _, by omega, rfl, rfl, rfl⟩
  case round =>
    obtain ⟨k, hk, hgg, rfl, rfl, rfl⟩ := hrel
    by_cases hlt : k < zs.length
    · obtain ⟨b, off, rfl, hb, hc⟩ := E1.out.get hlt
      have i0 : (0 : Int) ≤ (k : Int) := by omega
      have i1 : (k : Int) < (zs.length : Int) := by omega
      have sb := SB.out k hk
      have zb := BD.out k hlt
      have st := Lib.hid (ST.out k)
      have kb : k * 1000000000 ≤ 1048576000000000 := by omega
      obtain ⟨z, hz⟩ : ∃ z, z = zs.getD k 0 := ⟨_, rfl⟩
      rw [← hz] at hc st zb
      obtain ⟨s, hs⟩ : ∃ s, s = smT zs k := ⟨_, rfl⟩
      rw [← hs] at sb st ⊢
      have sb1 : -1048576000000000 ≤ s ∧ s ≤ 1048576000000000 := by omega
      clear hz hs sb kb
      go_wp2_with fail
      go_roundg (zs.length - (k + 1))
      case rel => exact ⟨k + 1, by omega, by omega, by go_num, by rw [st.out], rfl⟩
      case measure => omega
    · have hkz : k = zs.length := by omega
      have FIN := Lib.hid (show smT zs k = smT zs zs.length by rw [hkz])
      clear hkz
      go_wp2_with fail
      go_ret
      exact ⟨by rw [FIN.out]; rfl, rfl⟩
theorem totI (zs : List Int) (v : Value) (B : Nat) (w : World) (hn : zs.length ≤ 1048576) (hb : ∀ i, i < zs.length → -1000000000 ≤ zs.getD i 0 ∧ zs.getD i 0 ≤ 1000000000) (h : IntsV w B v zs) :
    Calls Try.prog 58 #[v] w (Gives (.int .i64 (smT zs zs.length)) w) :=
  (totIQ zs v B w hn hb h).mono fun _ _ ⟨he, hw⟩ => ⟨he, by rw [hw]; exact Below.refl _ _⟩
end Go.Proofs.Ytagoodkaobcjaaa
namespace Go.Proofs.Ytagoodkaobcjaaa
open Go.RowKit
set_option linter.unusedVariables false
theorem OwnV.oneR (w : World) (lo : Nat) (x : Int) (hlo : lo ≤ w.heap.size) (hx : InI64 x) : OwnV (w.alloc (.cells #[.int .i64 x] 3)) lo (w.alloc (.cells #[.int .i64 x] 3)).heap.size (.slice (some ⟨w.heap.size, 0, none⟩) 1 1) [x] := by
  refine ⟨⟨rfl, .inr ⟨w.heap.size, 1, #[.int .i64 x], rfl, hlo, alloc_heap w _, by simp, by unfold maxLen; omega, rfl, rfl⟩⟩, ?_, Nat.le_refl _, ?_⟩
  · intro q hq
    simp [Value.ownBlock] at hq
    subst hq
    simp
  · intro z hz; simp at hz; subst hz; exact hx
set_option maxRecDepth 100000 in
set_option maxHeartbeats 4000000 in
theorem recM (m : Int) (w : World) : Calls Try.prog 19 #[.int .i64 m] w (NewIntsB (ifC m reL) (okC 0 m) w) := by
  have E := Lib.hid (fun w => inS m 0 12 w)
  rw [show decide (0 ≤ m ∧ m ≤ 12) = okC 0 m from rfl] at E
  cases hk : okC 0 m
  · have e1 : ifC m reL = [] := by unfold ifC; rw [hk]; rfl
    rw [e1]
    rw [hk] at E
    clear hk e1
    go_enter Try.func19, Try.ntmps19
    go_wp2_with fail
    refine (E.out _).mono ?_
    rintro e w1 ⟨rfl, rfl⟩
    go_wp2_with fail
    go_ret2
    exact newInts_empty (Below.refl _ _)
  · rw [hk] at E
    have e1 : ifC m reL = reL m.toNat := by unfold ifC; rw [hk]; rfl
    rw [e1]
    obtain ⟨k, rfl, h15⟩ := okC_mk hk
    rw [Int.toNat_natCast]
    have O0 := Lib.hid (by have h := OwnV.oneR w w.heap.size 1 (Nat.le_refl _) (by unfold InI64; omega); rw [← reL_zero] at h; exact h : OwnV (w.alloc (.cells #[.int .i64 1] 3)) w.heap.size (w.alloc (.cells #[.int .i64 1] 3)).heap.size (.slice (some ⟨w.heap.size, 0, none⟩) 1 1) (reL 0))
    have B0 := Lib.hid ((Below.refl w.heap.size w).alloc (Nat.le_refl _) (.cells #[.int .i64 1] 3))
    have BD := Lib.hid (fun c i (hc : c ≤ 12) (hi : i ≤ 13) => re_bd c (by omega) i (by omega))
    have BD2 := Lib.hid (fun c i (hc : c ≤ 12) (hi : i ≤ 13) => re_bd2 c (by omega) i (by omega))
    have BS := Lib.hid (fun c r (hc : c ≤ 12) (hr : r ≤ 13) => se_bd (c := c) (r := r) (by omega) (by omega))
    have SA := Lib.hid se_add
    have DZ := Lib.hid dn_zero
    have DA := Lib.hid (fun c r n (h : r < n) => dn_at (c := c) h)
    have DT := Lib.hid (fun c r n => dn_set (c := c) (r := r) (n := n))
    have MA := Lib.hid (fun c r n (h : r + 1 < n) => md_at (c := c) h)
    have MT := Lib.hid (fun c r n => md_set (c := c) (r := r) (n := n))
    have DE := Lib.hid (fun c n (hc : c ≤ 12) (hn : n = c + 2) => show preL (dnF c (c + 1)) n = reL (c + 1) by rw [hn]; exact dn_end (by omega))
    have LA := Lib.hid (fun c r (h : r < c + 1) => show (reL c).getD r 0 = reF c r from pre_at h)
    have LL := Lib.hid (fun c => show (reL c).length = c + 1 from pre_len (reF c) (c + 1))
    have DL := Lib.hid (fun c r n => pre_len (dnF c r) n)
    have ML := Lib.hid (fun c r n => pre_len (mdF c r) n)
    obtain ⟨L, hL⟩ : ∃ L : Nat → List Int, L = reL := ⟨_, rfl⟩
    obtain ⟨R, hR⟩ : ∃ R : Nat → Nat → Int, R = reF := ⟨_, rfl⟩
    obtain ⟨D, hD⟩ : ∃ D : Nat → Nat → Nat → Int, D = dnF := ⟨_, rfl⟩
    obtain ⟨M, hM⟩ : ∃ M : Nat → Nat → Nat → Int, M = mdF := ⟨_, rfl⟩
    obtain ⟨S, hS⟩ : ∃ S : Nat → Nat → Int, S = seF := ⟨_, rfl⟩
    rw [← hL] at O0 DE LA LL ⊢
    rw [← hR] at BD BD2 SA DT MT LA
    rw [← hD] at DZ DA DT MT DE DL
    rw [← hM] at DT MA MT ML
    rw [← hS] at BS SA DA DT
    obtain ⟨i0, hi, hz0, hz1, hz2⟩ := info_parts intInfo
    clear hk e1 hL hR hD hM hS
    go_enter Try.func19, Try.ntmps19
    go_wp2_with fail
    refine (E.out _).mono ?_
    rintro e w1 ⟨rfl, rfl⟩
    go_wp2_with fail
    go_loopg [4, 5] k (fun gg o i wr => ∃ c : Nat, c ≤ k ∧ k - c ≤ gg ∧ i = .int .i64 ((c : Int) + 1) ∧ Hid (OwnV wr w.heap.size wr.heap.size o (L c)) ∧ Hid (Below w.heap.size w wr))
    case atStart => exact ⟨0, Nat.zero_le _, by omega, rfl, O0, B0⟩
    case round =>
      clear O0 B0
      obtain ⟨c, hc, hgg, rfl, HO, HB⟩ := hrel
      obtain ⟨K, hK⟩ : ∃ K : Int, K = (c : Int) + 1 := ⟨_, rfl⟩
      rw [← hK]
      have HK := Lib.hid hK
      have k1 : K ≤ (c : Int) + 1 := by omega
      have k2 : (c : Int) + 1 ≤ K := by omega
      have SZ := HB.out.size
      obtain ⟨wq, rfl⟩ : ∃ wq : World, wq = wr := ⟨_, rfl⟩
      by_cases hlt : c < k
      · have t1 : K ≤ (k : Int) := by omega
        obtain ⟨g, cap, rfl, hg1, hg2⟩ := HO.out.shape (by rw [LL.out]; omega)
        obtain ⟨n, hn⟩ : ∃ n, n = c + 2 := ⟨_, rfl⟩
        have hn1 : K + 1 = (n : Int) := by omega
        have n1 : n ≤ c + 2 := by omega
        have n2 : c + 2 ≤ n := by omega
        have NE := Lib.hid hn
        have c1' : i0.bytes * n ≤ 281474976710656 := by rw [hz2]; omega
        have c2' : n ≤ maxLen := by unfold maxLen; omega
        obtain ⟨l, hl⟩ : ∃ l, l = (L c).length := ⟨_, rfl⟩
        have l1 : l ≤ c + 1 := by rw [hl, LL.out]; exact Nat.le_refl _
        have l2 : c + 1 ≤ l := by rw [hl, LL.out]; exact Nat.le_refl _
        have HL := Lib.hid hl
        rw [← hl] at HO ⊢
        clear hn hK hl
        go_wp2_with (at_make; refine wpList_make_full _ rfl _ _ 25 rfl wq.heap.size 3 i0 (.int .i64 0) 1 Try.underlying25 hi hz0 hz1 .i64 .i64 _ _ n rfl rfl rfl rfl c1' c2' (Nat.le_refl _) ?_; intro w3 hown hg3)
        have O2 := OwnV.made (rec_made hown)
        rw [DZ.out c n] at O2
        have HN := Lib.hid O2
        have BQ := (Below.refl wq.heap.size wq).grown hg3 (Nat.le_refl _) (fun q hq => by simp at hq)
        have HO2 := Lib.hid (HO.out.below BQ)
        have HB2 := Lib.hid (HB.out.trans (BQ.mono SZ))
        clear hown hg3 O2 BQ HO HB c1' c2'
        obtain ⟨h, hh⟩ : ∃ h, h = wq.heap.size := ⟨_, rfl⟩
        rw [← hh] at SZ hg2 HO2 HN ⊢
        clear hh
        go_wp2_with fail
        go_loopg [7] (c + 1) (fun gg i wr => ∃ r : Nat, r ≤ c + 1 ∧ c + 1 - r ≤ gg ∧ i = .int .i64 r ∧ Hid (OwnV wr w.heap.size h (.slice (some ⟨g, 0, none⟩) l cap) (L c)) ∧ Hid (OwnV wr h wr.heap.size (.slice (some ⟨h, 0, none⟩) n n) (preL (D c r) n)) ∧ Hid (Below w.heap.size w wr))
        case atStart => exact ⟨0, Nat.zero_le _, Nat.le_refl _, rfl, HO2, HN, HB2⟩
        case round =>
          clear HO2 HN HB2
          obtain ⟨r, hr, hgg2, rfl, HO, HN, HB⟩ := hrel
          by_cases hr0 : r < c + 1
          · have r1 : (r : Int) < (l : Int) := by omega
            have r2 : (r : Int) < (n : Int) := by omega
            have r3 : (r : Int) + 1 < (n : Int) := by omega
            have x1 := HO.out.cellGet (j := r) (by rw [LL.out]; exact hr0)
            have x2 := HN.out.cellGet (j := r) (by rw [DL.out]; omega)
            have x3 := HN.out.frozenGet r
            rw [LA.out c r hr0] at x1
            rw [DA.out c r n (by omega)] at x2
            have b1 := BD.out c r (by omega) (by omega)
            have b2 := BD2.out c r (by omega) (by omega)
            have b3 := BS.out c r (by omega) (by omega)
            have b4 := BD.out (c + 1) r (by omega) (by omega)
            have sa := SA.out c r
            have dt := DT.out c r n
            have mt := MT.out c r n
            have ma := MA.out c r n (by omega)
            obtain ⟨x, hx⟩ : ∃ x, x = R c r := ⟨_, rfl⟩
            obtain ⟨y, hy⟩ : ∃ y, y = S c r := ⟨_, rfl⟩
            rw [← hx] at x1 b1 b2 sa dt mt
            rw [← hy] at x2 b3 sa dt
            rw [← sa] at b4
            have mc : x * (c : Int) = (c : Int) * x := Int.mul_comm _ _
            obtain ⟨p, hp⟩ : ∃ p, p = (c : Int) * x := ⟨_, rfl⟩
            rw [mc, ← hp] at b2
            rw [← hp] at b4 dt
            have O5 : OwnV (wr.setCell ⟨h, r, none⟩ (.int .i64 (y + p))).drew h (wr.setCell ⟨h, r, none⟩ (.int .i64 (y + p))).drew.heap.size (.slice (some ⟨h, 0, none⟩) n n) (preL (M c r) n) := by
              have hh := (HN.out.setAt r (x := y + p) (by unfold InI64; omega)).below (below_drew (Below.refl _ _))
              rw [dt] at hh
              simpa [World.setCell] using hh
            obtain ⟨w5, hw5⟩ : ∃ w5, w5 = (wr.setCell ⟨h, r, none⟩ (.int .i64 (y + p))).drew := ⟨_, rfl⟩
            have P5 := Lib.hid (HO.out.below (w' := w5) (by rw [hw5]; exact below_drew ((Below.refl h wr).setCell (p := ⟨h, r, none⟩) (Nat.le_refl _) _)))
            have B5 : Hid (Below w.heap.size w w5) := Lib.hid (by rw [hw5]; exact below_drew (HB.out.setCell (p := ⟨h, r, none⟩) SZ _))
            rw [← hw5] at O5
            have y1 := P5.out.cellGet (j := r) (by rw [LL.out]; exact hr0)
            rw [LA.out c r hr0, ← hx] at y1
            have y2 := O5.cellGet (j := r + 1) (by rw [ML.out]; omega)
            have y3 := O5.frozenGet (r + 1)
            rw [ma] at y2
            have O6 : OwnV (w5.setCell ⟨h, r + 1, none⟩ (.int .i64 x)).drew h (w5.setCell ⟨h, r + 1, none⟩ (.int .i64 x)).drew.heap.size (.slice (some ⟨h, 0, none⟩) n n) (preL (D c (r + 1)) n) := by
              have hh := (O5.setAt (r + 1) (x := x) (by unfold InI64; omega)).below (below_drew (Below.refl _ _))
              rw [mt] at hh
              simpa [World.setCell] using hh
            have HN6 := Lib.hid O6
            have P6 := Lib.hid (P5.out.below (below_drew ((Below.refl h w5).setCell (p := ⟨h, r + 1, none⟩) (Nat.le_refl _) (.int .i64 x))))
            have B6 := Lib.hid (below_drew (B5.out.setCell (p := ⟨h, r + 1, none⟩) SZ (.int .i64 x)))
            have W0 : IntKind.i64.wrap (K - 1) = (c : Int) := by rw [show K - 1 = (c : Int) by omega]; exact IntWalk.i64_in _ (by omega)
            have W1 : IntKind.i64.wrap ((c : Int) * x) = p := by rw [← hp]; exact IntWalk.i64_in _ (by omega)
            have W2 : IntKind.i64.wrap (y + p) = y + p := IntWalk.i64_in _ (by omega)
            have W3 : IntKind.i64.wrap ((r : Int) + 1) = ((r + 1 : Nat) : Int) := by rw [show (r : Int) + 1 = ((r + 1 : Nat) : Int) by omega]; exact IntWalk.i64_in _ (by omega)
            have W4 : IntKind.i64.wrap x = x := IntWalk.i64_in _ (by omega)
            have r4 : ((r + 1 : Nat) : Int) < (n : Int) := by omega
            have r5 : 0 ≤ ((r + 1 : Nat) : Int) := by omega
            have r6 : 0 ≤ (r : Int) + 1 := by omega
            clear HO HN HB sa dt mt ma mc hp hx hy O5 O6
            go_wp2_with fail
            go_region
            rw [← hw5]
            clear hw5 x1 x2 x3
            go_wp2_with fail
            go_region
            go_wp2_with fail
            go_roundg (c + 1 - (r + 1))
            case rel => exact ⟨r + 1, by omega, by omega, by go_num, P6, HN6, B6⟩
            case measure => omega
          · have r1 : ¬ (r : Int) < (l : Int) := by omega
            have HE : Hid (OwnV wr w.heap.size wr.heap.size (.slice (some ⟨h, 0, none⟩) n n) (L (c + 1))) := Lib.hid (by
              have hh := HN.out.low SZ
              have e : r = c + 1 := by omega
              rw [e, DE.out c n (by omega) NE.out] at hh
              exact hh)
            clear HN HO
            go_wp2_with fail
            go_roundg (k - (c + 1))
            case rel => exact ⟨c + 1, by omega, by omega, by congr 1; omega, HE, HB⟩
            case measure => omega
      · have t1 : ¬ K ≤ (k : Int) := by omega
        have hck : c = k := by omega
        have FIN : Hid (∀ o, OwnV wq w.heap.size wq.heap.size o (L c) → NewIntsB (L k) true w (.returned (.tuple #[o, .bool true])) wq) := Lib.hid (fun o h => ⟨o, rfl, by rw [← hck]; exact h, HB.out⟩)
        clear hck hK
        go_wp2_with fail
        go_ret2
        exact FIN.out _ HO.out
end Go.Proofs.Ytagoodkaobcjaaa
namespace Go.Proofs.Ytagoodkaobcjaaa
open Go.RowKit
set_option linter.unusedVariables false
/-- One number more behind a row, beside another block. -/
theorem push_step {w wr w3 : World} {v v' : Value} {L : List Int} {x : Int} {o : Obj} {gO : Nat}
    (HO : OwnV wr w.heap.size wr.heap.size v L) (hx : InI64 x) (HB : Below w.heap.size w wr) (hne : v.ownBlock ≠ some gO) (hgO : gO < wr.heap.size)
    (hown3 : w3.ownsRow w.heap.size 3 1 v' (L.length + 1) (L.map (.int .i64) ++ [.int .i64 x])) (hgrow : (wr.alloc o).grownBy w3 v.ownBlock)
    (hnil : v' = .slice none 0 0 ↔ v = .slice none 0 0 ∧ 1 = 0) (hloc : v'.ownBlock = v.ownBlock ∨ v'.ownBlock = some (wr.alloc o).heap.size) :
    OwnV w3 w.heap.size w3.heap.size v' (L ++ [x]) ∧ v'.ownBlock ≠ some gO ∧ v' ≠ .slice none 0 0 ∧ w3.heap[gO]? = wr.heap[gO]? ∧ Below w.heap.size w w3 := by
  refine ⟨HO.app hx hown3, ?_, fun e => by have := (hnil.1 e).2; omega, ?_, ?_⟩
  · rcases hloc with h | h
    · rw [h]; exact hne
    · rw [h]
      intro e
      injection e with e
      simp at e
      omega
  · rw [hgrow.block gO (by simp; omega) (fun e => hne e.symm)]
    show (wr.heap.push o)[gO]? = _
    rw [Array.getElem?_push, if_neg (by omega)]
  · exact (HB.alloc HB.size o).grown hgrow (by have := HB.size; simp; omega) (fun q hq => by have := (HO.row.lt q hq).1; omega)
theorem preL_zero (f : Nat → Int) : preL f 0 = [] := rfl
theorem lt_of_heapU {w : World} {g : Nat} {o : Obj} (h : w.heap[g]? = some o) : g < w.heap.size := (Array.getElem?_eq_some_iff.1 h).1
theorem OwnV.of_heapU {w : World} {lo g : Nat} (h : w.heap[g]? = some (.cells #[] 3 (0, 0))) (hlo : lo ≤ g) : OwnV w lo w.heap.size (.slice (some ⟨g, 0, none⟩) 0 0) [] := by
  have hg := lt_of_heapU h
  refine ⟨⟨rfl, .inr ⟨g, 0, #[], rfl, hlo, h, by simp, by unfold maxLen; omega, rfl, rfl⟩⟩, ?_, Nat.le_refl _, by intro z hz; cases hz⟩
  intro q hq
  have : g = q := by simpa [Value.ownBlock] using hq
  omega
theorem qu_of_ch {T : List Int} {a x : Int} {n : Nat} (h : ChOk T (grF a x) n) : QuOk T (preL (grF a x) n) ∧ quV T (preL (grF a x) n) = chV T (grF a x) n := by
  refine ⟨⟨h.nn, h.le, fun j hj => ?_, fun j => ?_⟩, ?_⟩
  · rw [pre_len] at hj
    rw [pre_at hj]; exact h.fp j
  · rcases Nat.lt_or_ge j n with hj | hj
    · rw [pre_at hj]; exact h.fl j hj
    · rw [List.getD_eq_getElem?_getD, List.getElem?_eq_none (by rw [pre_len]; exact hj)]
      show (0 : Int) ≤ 300
      omega
  · unfold quV chV
    rw [prod_gr, prodN_gr]
set_option maxRecDepth 100000 in
set_option maxHeartbeats 8000000 in
theorem chanceS9 (r b x W : Int) (p q : Nat) (w : World) (hW : 1 ≤ W ∧ W ≤ 252) (hWc : W ≤ (chN (p + q) p : Nat)) (hr : 0 ≤ r ∧ r ≤ 20) (hb : 0 ≤ b ∧ b ≤ 20) (hx : 0 ≤ x ∧ x ≤ 20) (hp : 0 < r + b) (hn : p + q ≤ 10) :
    Calls Try.prog 55 #[.int .i64 r, .int .i64 b, .int .i64 x, .int .i64 p, .int .i64 q, .int .i64 W] w (Gives (chV (tpL W r b x p q) (grF (r + b) x) (p + q)) w) := by
  have OK := ch_ok hW hWc hr hb hx hp hn
  obtain ⟨QO, QE⟩ := qu_of_ch OK
  rw [← QE]
  have QU := Lib.hid (fun g1 c1 g2 c2 w (h1 : RowB w g1 (tpL W r b x p q)) (h2 : RowB w g2 (preL (grF (r + b) x) (p + q))) => quoS (tpL W r b x p q) (preL (grF (r + b) x) (p + q)) g1 c1 g2 c2 w QO (by rw [tpL_len]; omega) (by rw [pre_len]; omega) h1 h2)
  obtain ⟨vp, vq, vok, hV⟩ := quV_form (tpL W r b x p q) (preL (grF (r + b) x) (p + q))
  rw [hV] at QU ⊢
  have XB := Lib.hid (fun (k : Nat) (hk : k ≤ 10) => show 0 ≤ (k : Int) * x ∧ (k : Int) * x ≤ 10 * 20 from ⟨Int.mul_nonneg (by omega) hx.1, Int.mul_le_mul (by omega) hx.2 hx.1 (by omega)⟩)
  have rD := Lib.hid (fun k (hk : k ≤ 10) => show grF r x k = r + (k : Int) * x ∧ 0 ≤ (k : Int) * x ∧ (k : Int) * x ≤ 10 * 20 from ⟨rfl, XB.out k hk⟩)
  have bD := Lib.hid (fun k (hk : k ≤ 10) => show grF b x k = b + (k : Int) * x ∧ 0 ≤ (k : Int) * x ∧ (k : Int) * x ≤ 10 * 20 from ⟨rfl, XB.out k hk⟩)
  have fD := Lib.hid (fun k (hk : k ≤ 10) => show grF (r + b) x k = r + b + (k : Int) * x ∧ 0 ≤ (k : Int) * x ∧ (k : Int) * x ≤ 10 * 20 from ⟨rfl, XB.out k hk⟩)
  have UL := Lib.hid (fun k => show (W :: preL (grF r x) k).length = 1 + k by simp [pre_len]; omega)
  have US := Lib.hid (fun k => show W :: preL (grF r x) (k + 1) = W :: preL (grF r x) k ++ [grF r x k] by rw [pre_succ]; rfl)
  have VL := Lib.hid (fun k => show (W :: (preL (grF r x) p ++ preL (grF b x) k)).length = 1 + p + k by simp [pre_len]; omega)
  have VS := Lib.hid (fun k => show W :: (preL (grF r x) p ++ preL (grF b x) (k + 1)) = W :: (preL (grF r x) p ++ preL (grF b x) k) ++ [grF b x k] by rw [pre_succ]; simp)
  have YL := Lib.hid (fun k => pre_len (grF (r + b) x) k)
  have YS := Lib.hid (fun k => pre_succ (grF (r + b) x) k)
  have U0 := Lib.hid (show W :: preL (grF r x) 0 = [W] from rfl)
  have UV := Lib.hid (show W :: preL (grF r x) p = W :: (preL (grF r x) p ++ preL (grF b x) 0) by rw [preL_zero, List.append_nil])
  have VT := Lib.hid (show W :: (preL (grF r x) p ++ preL (grF b x) q) = tpL W r b x p q from (tpL_eq W r b x p q).symm)
  have Y0 := Lib.hid (show preL (grF (r + b) x) 0 = [] from rfl)
  have TL := Lib.hid (tpL_len W r b x p q)
  obtain ⟨U, hU⟩ : ∃ U : Nat → List Int, U = fun k => W :: preL (grF r x) k := ⟨_, rfl⟩
  obtain ⟨V, hVV⟩ : ∃ V : Nat → List Int, V = fun k => W :: (preL (grF r x) p ++ preL (grF b x) k) := ⟨_, rfl⟩
  obtain ⟨Y, hY⟩ : ∃ Y : Nat → List Int, Y = fun k => preL (grF (r + b) x) k := ⟨_, rfl⟩
  have UD : ∀ k, W :: preL (grF r x) k = U k := fun k => by rw [hU]
  have VD : ∀ k, W :: (preL (grF r x) p ++ preL (grF b x) k) = V k := fun k => by rw [hVV]
  have YD : ∀ k, preL (grF (r + b) x) k = Y k := fun k => by rw [hY]
  simp only [UD, VD, YD] at QU UL US VL VS YL YS U0 UV VT Y0
  obtain ⟨T, hT⟩ : ∃ T, T = tpL W r b x p q := ⟨_, rfl⟩
  rw [← hT] at QU VT TL
  obtain ⟨R1, hR1⟩ : ∃ R1 : Nat → Int, R1 = grF r x := ⟨_, rfl⟩
  obtain ⟨R2, hR2⟩ : ∃ R2 : Nat → Int, R2 = grF b x := ⟨_, rfl⟩
  obtain ⟨R3, hR3⟩ : ∃ R3 : Nat → Int, R3 = grF (r + b) x := ⟨_, rfl⟩
  rw [← hR1] at rD US
  rw [← hR2] at bD VS
  rw [← hR3] at fD YS
  obtain ⟨n, hn0⟩ : ∃ n, n = p + q := ⟨_, rfl⟩
  rw [← hn0] at QU
  have sNI : (p : Int) + (q : Int) = (n : Int) := by omega
  obtain ⟨hr1, hr2⟩ := hr
  obtain ⟨hb1, hb2⟩ := hb
  have hn10 : n ≤ 10 := by omega
  have hp10 : p ≤ 10 := by omega
  have hq10 : q ≤ 10 := by omega
  have hpq : p + q ≤ 10 := by omega
  have IW := Lib.hid (show InI64 W by unfold InI64; omega)
  have ZB := QBox.new w 0 0
  have HWA := Lib.hid ((Below.refl w.heap.size w).alloc (Nat.le_refl _) (.cells #[.int .i64 0, .int .i64 0] 32))
  obtain ⟨wa, hwa⟩ : ∃ wa, wa = w.alloc (.cells #[.int .i64 0, .int .i64 0] 32) := ⟨_, rfl⟩
  rw [← hwa] at ZB HWA
  have HZ := Lib.hid ZB
  obtain ⟨w2, hw2⟩ : ∃ w2, w2 = (wa.alloc (.cells #[.int .i64 W] 3)).alloc (.cells #[] 3) := ⟨_, rfl⟩
  have GE : wa.heap.size = w.heap.size + 1 := by rw [hwa]; simp
  have SE : Value.slice (some ⟨wa.heap.size, 0, none⟩) 1 1 = .slice (some ⟨w.heap.size + 1, 0, none⟩) 1 1 := by rw [GE]
  have OT := OwnV.oneR wa wa.heap.size W (Nat.le_refl _) IW.out
  have B2 : Below (wa.alloc (.cells #[.int .i64 W] 3)).heap.size (wa.alloc (.cells #[.int .i64 W] 3)) w2 := by rw [hw2]; exact (Below.refl _ _).alloc (Nat.le_refl _) _
  have HV := Lib.hid (by have h := (OT.below B2).wide B2.size (Nat.le_refl _); rw [← U0.out, SE] at h; exact h : OwnV w2 wa.heap.size w2.heap.size (.slice (some ⟨w.heap.size + 1, 0, none⟩) 1 1) (U 0))
  have HK := Lib.hid (show w2.heap[w.heap.size + 1 + 1]? = some (.cells #[] 3 (0, 0)) by
    rw [← GE]
    have h := alloc_heap (wa.alloc (.cells #[.int .i64 W] 3)) (.cells #[] 3)
    rw [← hw2] at h
    simpa using h)
  have HNE := Lib.hid (show (Value.slice (some ⟨w.heap.size + 1, 0, none⟩) 1 1).ownBlock ≠ some (w.heap.size + 1 + 1) by simp [Value.ownBlock])
  have HNN := Lib.hid (show (Value.slice (some ⟨w.heap.size + 1, 0, none⟩) 1 1) ≠ .slice none 0 0 by simp)
  have HB := Lib.hid (show Below wa.heap.size wa w2 by rw [hw2]; exact ((Below.refl wa.heap.size wa).alloc (Nat.le_refl _) _).alloc (by simp) _)
  obtain ⟨gB, hgB⟩ : ∃ gB, gB = w.heap.size + 1 + 1 := ⟨_, rfl⟩
  have GB := Lib.hid (show wa.heap.size ≤ gB by omega)
  clear SE OK QO QE hV hU hVV hY UD VD YD hT hR1 hR2 hR3 hW hWc hx hn hn0 ZB OT B2
  go_enter Try.func55, Try.ntmps55
  go_wp2_with fail
  rw [← hwa, ← hw2]
  rw [← hgB] at HK HNE
  try rw [← hgB]
  clear hwa hw2 hgB GE
  go_loopg [14, 16] p (fun gg v t wr => ∃ k : Nat, k ≤ p ∧ p - k ≤ gg ∧ t = .int .i64 k ∧ Hid (OwnV wr wa.heap.size wr.heap.size v (U k)) ∧ Hid (v.ownBlock ≠ some gB) ∧ Hid (v ≠ .slice none 0 0) ∧ Hid (wr.heap[gB]? = some (.cells #[] 3 (0, 0))) ∧ Hid (Below wa.heap.size wa wr))
  case atStart => exact ⟨0, Nat.zero_le _, by omega, rfl, HV, HNE, HNN, HK, HB⟩
  case round =>
    clear HV HNE HNN HK HB
    obtain ⟨k, hk, hgg, rfl, HV, HNE, HNN, HK, HB⟩ := hrel
    obtain ⟨wq, rfl⟩ : ∃ wq : World, wq = wr := ⟨_, rfl⟩
    by_cases hlt : k < p
    · have k1 : (k : Int) < (p : Int) := by omega
      have k2 : ¬ (p : Int) ≤ (k : Int) := by omega
      have lk := UL.out k
      have ls := US.out k
      obtain ⟨f1, f2, f3⟩ := rD.out k (by omega)
      obtain ⟨s, hs⟩ : ∃ s, s = (k : Int) * x := ⟨_, rfl⟩
      rw [← hs] at f1 f2 f3
      have W1 : IntKind.i64.wrap ((k : Int) * x) = s := by rw [← hs]; exact IntWalk.i64_in _ (by omega)
      rw [f1] at ls
      obtain ⟨L, hL⟩ : ∃ L, L = U k := ⟨_, rfl⟩
      rw [← hL] at HV lk ls
      have LS := Lib.hid ls
      have l1 : L.length ≤ 21 := by omega
      have IX := Lib.hid (show InI64 (r + s) by unfold InI64; omega)
      have hown := HV.out.row
      have hsz := HB.out.size
      have hgO : gB < wq.heap.size := lt_of_heapU HK.out
      obtain ⟨i0, hi, hz0, hz1, hz2⟩ := info_parts intInfo
      clear lk ls hL hs f1
      go_wp2_with (at_builtin; refine wpList_append_own_at _ rfl _ _ 25 rfl wa.heap.size 3 i0 (.int .i64 0) 1 8 Try.underlying25 hi hz0 hz1 hz2 rfl (by decide) _ L.length (L.map (.int .i64)) rfl (hown.alloc _) ⟨wq.heap.size, 0, none⟩ 1 1 [.int .i64 (r + s)] rfl rfl (cell_one_new _ _ _) (fun u hu => by simp at hu; subst hu; rfl) (by unfold maxLen; omega) (by omega) (by simp; omega) ?_; intro v' w3 hown3 hgrow3 hnil3 hloc3)
      obtain ⟨p1, p2, p3, p4, p5⟩ := push_step HV.out IX.out HB.out HNE.out hgO hown3 hgrow3 hnil3 hloc3
      have HV3 := Lib.hid (by rw [← LS.out] at p1; exact p1 : OwnV w3 wa.heap.size w3.heap.size v' (U (k + 1)))
      have HN3 := Lib.hid p2
      have HM3 := Lib.hid p3
      have HK3 := Lib.hid (p4.trans HK.out)
      have HB3 := Lib.hid p5
      clear hown hown3 hgrow3 hnil3 hloc3 p1 p2 p3 p4 p5
      go_roundg (p - (k + 1))
      case rel => exact ⟨k + 1, by omega, by omega, by go_num, HV3, HN3, HM3, HK3, HB3⟩
      case measure => omega
    · have hkc : k = p := by omega
      have k1 : ¬ (k : Int) < (p : Int) := by omega
      have k2 : (p : Int) ≤ (k : Int) := by omega
      have HV : Hid (OwnV wq wa.heap.size wq.heap.size _ (V 0)) := Lib.hid (by have h := HV.out; rw [hkc, UV.out] at h; exact h)
      clear hkc
      go_wp2_with fail
      go_loopg [14, 17] q (fun gg v t wr => ∃ k : Nat, k ≤ q ∧ q - k ≤ gg ∧ t = .int .i64 k ∧ Hid (OwnV wr wa.heap.size wr.heap.size v (V k)) ∧ Hid (v.ownBlock ≠ some gB) ∧ Hid (v ≠ .slice none 0 0) ∧ Hid (wr.heap[gB]? = some (.cells #[] 3 (0, 0))) ∧ Hid (Below wa.heap.size wa wr))
      case atStart => exact ⟨0, Nat.zero_le _, by omega, rfl, HV, HNE, HNN, HK, HB⟩
      case round =>
        clear HV HNE HNN HK HB
        obtain ⟨k, hk, hgg, rfl, HV, HNE, HNN, HK, HB⟩ := hrel
        obtain ⟨wq, rfl⟩ : ∃ wq : World, wq = wr := ⟨_, rfl⟩
        by_cases hlt : k < q
        · have k1 : (k : Int) < (q : Int) := by omega
          have k2 : ¬ (q : Int) ≤ (k : Int) := by omega
          have lk := VL.out k
          have ls := VS.out k
          obtain ⟨f1, f2, f3⟩ := bD.out k (by omega)
          obtain ⟨s, hs⟩ : ∃ s, s = (k : Int) * x := ⟨_, rfl⟩
          rw [← hs] at f1 f2 f3
          have W1 : IntKind.i64.wrap ((k : Int) * x) = s := by rw [← hs]; exact IntWalk.i64_in _ (by omega)
          rw [f1] at ls
          obtain ⟨L, hL⟩ : ∃ L, L = V k := ⟨_, rfl⟩
          rw [← hL] at HV lk ls
          have LS := Lib.hid ls
          have l1 : L.length ≤ 21 := by omega
          have IX := Lib.hid (show InI64 (b + s) by unfold InI64; omega)
          have hown := HV.out.row
          have hsz := HB.out.size
          have hgO : gB < wq.heap.size := lt_of_heapU HK.out
          obtain ⟨i0, hi, hz0, hz1, hz2⟩ := info_parts intInfo
          clear lk ls hL hs f1
          go_wp2_with (at_builtin; refine wpList_append_own_at _ rfl _ _ 25 rfl wa.heap.size 3 i0 (.int .i64 0) 1 8 Try.underlying25 hi hz0 hz1 hz2 rfl (by decide) _ L.length (L.map (.int .i64)) rfl (hown.alloc _) ⟨wq.heap.size, 0, none⟩ 1 1 [.int .i64 (b + s)] rfl rfl (cell_one_new _ _ _) (fun u hu => by simp at hu; subst hu; rfl) (by unfold maxLen; omega) (by omega) (by simp; omega) ?_; intro v' w3 hown3 hgrow3 hnil3 hloc3)
          obtain ⟨p1, p2, p3, p4, p5⟩ := push_step HV.out IX.out HB.out HNE.out hgO hown3 hgrow3 hnil3 hloc3
          have HV3 := Lib.hid (by rw [← LS.out] at p1; exact p1 : OwnV w3 wa.heap.size w3.heap.size v' (V (k + 1)))
          have HN3 := Lib.hid p2
          have HM3 := Lib.hid p3
          have HK3 := Lib.hid (p4.trans HK.out)
          have HB3 := Lib.hid p5
          clear hown hown3 hgrow3 hnil3 hloc3 p1 p2 p3 p4 p5
          go_roundg (q - (k + 1))
          case rel => exact ⟨k + 1, by omega, by omega, by go_num, HV3, HN3, HM3, HK3, HB3⟩
          case measure => omega
        · have hkc : k = q := by omega
          have k1 : ¬ (k : Int) < (q : Int) := by omega
          have k2 : (q : Int) ≤ (k : Int) := by omega
          have HV2 : Hid (OwnV wq wa.heap.size wq.heap.size _ T) := Lib.hid (by have h := HV.out; rw [hkc, VT.out] at h; exact h)
          obtain ⟨gT, cT, rfl, lT, lT2⟩ := HV2.out.shapeN HNN.out
          have HT := Lib.hid (HV2.out.rowB)
          have hne2 : gT ≠ gB := fun e => HNE.out (by rw [e]; rfl)
          have HV : Hid (OwnV wq wa.heap.size wq.heap.size (.slice (some ⟨gB, 0, none⟩) 0 0) (Y 0)) := Lib.hid (by rw [Y0.out]; exact OwnV.of_heapU HK.out GB.out)
          have HNE : Hid ((Value.slice (some ⟨gB, 0, none⟩) 0 0).ownBlock ≠ some gT) := Lib.hid (by simp [Value.ownBlock]; omega)
          have HNN : Hid ((Value.slice (some ⟨gB, 0, none⟩) 0 0) ≠ .slice none 0 0) := Lib.hid (by simp)
          have HK := HT
          clear hkc HV2 HT lT lT2 hne2
          go_wp2_with fail
          go_loopg [15, 18] n (fun gg v t wr => ∃ k : Nat, k ≤ n ∧ n - k ≤ gg ∧ t = .int .i64 k ∧ Hid (OwnV wr wa.heap.size wr.heap.size v (Y k)) ∧ Hid (v.ownBlock ≠ some gT) ∧ Hid (v ≠ .slice none 0 0) ∧ Hid (RowB wr gT T) ∧ Hid (Below wa.heap.size wa wr))
          case atStart => exact ⟨0, Nat.zero_le _, by omega, rfl, HV, HNE, HNN, HK, HB⟩
          case round =>
            clear HV HNE HNN HK HB
            obtain ⟨k, hk, hgg, rfl, HV, HNE, HNN, HK, HB⟩ := hrel
            obtain ⟨wq, rfl⟩ : ∃ wq : World, wq = wr := ⟨_, rfl⟩
            by_cases hlt : k < n
            · have k1 : (k : Int) < (n : Int) := by omega
              have k2 : ¬ (n : Int) ≤ (k : Int) := by omega
              have lk := YL.out k
              have ls := YS.out k
              obtain ⟨f1, f2, f3⟩ := fD.out k (by omega)
              obtain ⟨s, hs⟩ : ∃ s, s = (k : Int) * x := ⟨_, rfl⟩
              rw [← hs] at f1 f2 f3
              have W1 : IntKind.i64.wrap ((k : Int) * x) = s := by rw [← hs]; exact IntWalk.i64_in _ (by omega)
              rw [f1] at ls
              obtain ⟨L, hL⟩ : ∃ L, L = Y k := ⟨_, rfl⟩
              rw [← hL] at HV lk ls
              have LS := Lib.hid ls
              have l1 : L.length ≤ 21 := by omega
              have IX := Lib.hid (show InI64 (r + b + s) by unfold InI64; omega)
              have hown := HV.out.row
              have hsz := HB.out.size
              have hgO : gT < wq.heap.size := HK.out.lt
              obtain ⟨i0, hi, hz0, hz1, hz2⟩ := info_parts intInfo
              clear lk ls hL hs f1
              go_wp2_with (at_builtin; refine wpList_append_own_at _ rfl _ _ 25 rfl wa.heap.size 3 i0 (.int .i64 0) 1 8 Try.underlying25 hi hz0 hz1 hz2 rfl (by decide) _ L.length (L.map (.int .i64)) rfl (hown.alloc _) ⟨wq.heap.size, 0, none⟩ 1 1 [.int .i64 (r + b + s)] rfl rfl (cell_one_new _ _ _) (fun u hu => by simp at hu; subst hu; rfl) (by unfold maxLen; omega) (by omega) (by simp; omega) ?_; intro v' w3 hown3 hgrow3 hnil3 hloc3)
              obtain ⟨p1, p2, p3, p4, p5⟩ := push_step HV.out IX.out HB.out HNE.out hgO hown3 hgrow3 hnil3 hloc3
              have HV3 := Lib.hid (by rw [← LS.out] at p1; exact p1 : OwnV w3 wa.heap.size w3.heap.size v' (Y (k + 1)))
              have HN3 := Lib.hid p2
              have HM3 := Lib.hid p3
              have HK3 := Lib.hid (HK.out.keep p4 (by have := hgrow3.size; simp at this; omega))
              have HB3 := Lib.hid p5
              clear hown hown3 hgrow3 hnil3 hloc3 p1 p2 p3 p4 p5
              go_roundg (n - (k + 1))
              case rel => exact ⟨k + 1, by omega, by omega, by go_num, HV3, HN3, HM3, HK3, HB3⟩
              case measure => omega
            · have hkc : k = n := by omega
              have k1 : ¬ (k : Int) < (n : Int) := by omega
              have k2 : (n : Int) ≤ (k : Int) := by omega
              have HV2 : Hid (OwnV wq wa.heap.size wq.heap.size _ (Y n)) := Lib.hid (by have h := HV.out; rw [hkc] at h; exact h)
              obtain ⟨gY, cY, rfl, lY, lY2⟩ := HV2.out.shapeN HNN.out
              have QC := Lib.hid (QU.out gT cT gY cY wq HK.out HV2.out.rowB)
              clear hkc HV HV2 HNE HNN lY lY2
              go_wp2_with fail
              refine QC.out.mono ?_
              rintro e w6 ⟨rfl, b6⟩
              have B6 := Lib.hid (HB.out.trans (b6.mono HB.out.size))
              obtain ⟨⟨c0, c1⟩, c2, c3⟩ := (HZ.out.below B6.out HZ.out.lt).cells
              have BF := Lib.hid (HWA.out.trans (B6.out.mono HWA.out.size))
              clear b6
              go_wp2_with fail
              refine bodyPost_ret (v := .tuple #[.agg #[.int .i64 vp, .int .i64 vq], .bool vok]) (by simp [results, Try.results55, go_sem, c0, c1]) rfl ⟨rfl, ?_⟩
              exact bl_st BF.out (Nat.le_refl _) _ _
end Go.Proofs.Ytagoodkaobcjaaa
namespace Go.Proofs.Ytagoodkaobcjaaa
open Go.RowKit
set_option linter.unusedVariables false
theorem urnS (r b x : Int) (w : World) (ir : InI64 r) (ib : InI64 b) : Calls Try.prog 51 #[.int .i64 r, .int .i64 b, .int .i64 x] w (QR (.bool (urOk r b x)) w) := by
  have F1 := Lib.hid (fun w => inS r 0 20 w)
  have F2 := Lib.hid (fun w => inS b 0 20 w)
  have F3 := Lib.hid (fun w => inS x 0 20 w)
  by_cases h1 : 0 ≤ r ∧ r ≤ 20
  · by_cases h2 : 0 ≤ b ∧ b ≤ 20
    · by_cases h4 : 0 < r + b
      · by_cases h3 : 0 ≤ x ∧ x ≤ 20
        · rw [decide_eq_true h1] at F1
          rw [decide_eq_true h2] at F2
          rw [decide_eq_true h3] at F3
          obtain ⟨y1, _⟩ := urn_yes (r := r) (b := b) (x := x) (by omega)
          rw [y1]
          clear y1
          go_enter Try.func51, Try.ntmps51
          go_wp2_with fail
          refine (F1.out _).mono ?_
          rintro e w1 ⟨rfl, rfl⟩
          go_wp2_with fail
          refine (F2.out _).mono ?_
          rintro e w1 ⟨rfl, rfl⟩
          go_wp2_with fail
          refine (F3.out _).mono ?_
          rintro e w1 ⟨rfl, rfl⟩
          go_wp2_with fail
          go_ret
          exact ⟨rfl, rfl⟩
        · rw [decide_eq_true h1] at F1
          rw [decide_eq_true h2] at F2
          rw [decide_eq_false h3] at F3
          obtain ⟨y1, _⟩ := urn_no (r := r) (b := b) (x := x) (by omega)
          rw [y1]
          clear y1
          go_enter Try.func51, Try.ntmps51
          go_wp2_with fail
          refine (F1.out _).mono ?_
          rintro e w1 ⟨rfl, rfl⟩
          go_wp2_with fail
          refine (F2.out _).mono ?_
          rintro e w1 ⟨rfl, rfl⟩
          go_wp2_with fail
          refine (F3.out _).mono ?_
          rintro e w1 ⟨rfl, rfl⟩
          go_wp2_with fail
          go_ret
          exact ⟨rfl, rfl⟩
      · rw [decide_eq_true h1] at F1
        rw [decide_eq_true h2] at F2
        obtain ⟨y1, _⟩ := urn_no (r := r) (b := b) (x := x) (by omega)
        rw [y1]
        clear y1
        go_enter Try.func51, Try.ntmps51
        go_wp2_with fail
        refine (F1.out _).mono ?_
        rintro e w1 ⟨rfl, rfl⟩
        go_wp2_with fail
        refine (F2.out _).mono ?_
        rintro e w1 ⟨rfl, rfl⟩
        go_wp2_with fail
        go_ret
        exact ⟨rfl, rfl⟩
    · rw [decide_eq_true h1] at F1
      rw [decide_eq_false h2] at F2
      obtain ⟨y1, _⟩ := urn_no (r := r) (b := b) (x := x) (by omega)
      rw [y1]
      clear y1
      go_enter Try.func51, Try.ntmps51
      go_wp2_with fail
      refine (F1.out _).mono ?_
      rintro e w1 ⟨rfl, rfl⟩
      go_wp2_with fail
      refine (F2.out _).mono ?_
      rintro e w1 ⟨rfl, rfl⟩
      go_wp2_with fail
      go_ret
      exact ⟨rfl, rfl⟩
  · rw [decide_eq_false h1] at F1
    obtain ⟨y1, _⟩ := urn_no (r := r) (b := b) (x := x) (by omega)
    rw [y1]
    clear y1
    go_enter Try.func51, Try.ntmps51
    go_wp2_with fail
    refine (F1.out _).mono ?_
    rintro e w1 ⟨rfl, rfl⟩
    go_wp2_with fail
    go_ret
    exact ⟨rfl, rfl⟩
def umV (r b x n : Int) : Value := if urOk r b x = true ∧ 0 ≤ n ∧ n ≤ 10 then keptV (cutN r (r + b)) (cutD r (r + b)) else .tuple #[.agg #[.int .i64 0, .int .i64 0], .bool false]
theorem umV_form (r b x n : Int) : ∃ p q ok, umV r b x n = .tuple #[.agg #[.int .i64 p, .int .i64 q], .bool ok] := by
  unfold umV
  split
  · exact keptV_form _ _
  · exact ⟨_, _, _, rfl⟩
theorem urn_has {r b x : Int} (h : urOk r b x = true) : (0 ≤ r ∧ r ≤ 20) ∧ (0 ≤ b ∧ b ≤ 20) ∧ 0 < r + b := by
  unfold urOk at h
  simp only [Bool.and_eq_true, decide_eq_true_iff] at h
  exact ⟨h.1.1.1, h.1.1.2, h.2⟩
set_option maxRecDepth 100000 in
set_option maxHeartbeats 4000000 in
theorem umC (r b x n : Int) (w : World) (ir : InI64 r) (ib : InI64 b) : Calls Try.prog 29 #[.int .i64 r, .int .i64 b, .int .i64 x, .int .i64 n] w (Gives (umV r b x n) w) := by
  have V := Lib.hid (fun w => urnOfC r b x w)
  have G := Lib.hid (fun w => fromI n 0 10 w)
  have B0 := Lib.hid (bl_self w (.cells #[.int .i64 0, .int .i64 0] 32))
  have RC := Lib.hid (fun w3 b => rs_cells (w := w) (w3 := w3) b)
  have RF := Lib.hid (fun w3 x y b => rs_fin (w := w) (w3 := w3) (x := x) (y := y) b)
  obtain ⟨wa, hwa⟩ : ∃ wa, wa = w.alloc (.cells #[.int .i64 0, .int .i64 0] 32) := ⟨_, rfl⟩
  rw [← hwa] at B0 RC RF
  cases hv : urOk r b x
  · rw [hv] at V
    rw [show umV r b x n = .tuple #[.agg #[.int .i64 0, .int .i64 0], .bool false] from if_neg (fun h => by rw [hv] at h; exact absurd h.1 (by decide))]
    rw [show urV r b x = .agg #[.int .i64 0, .int .i64 0, .int .i64 0] from if_neg (by rw [hv]; decide)] at V
    clear hv
    go_enter Try.func29, Try.ntmps29
    go_wp2_with fail
    rw [← hwa]
    clear hwa
    refine (V.out _).mono ?_
    rintro e w1 ⟨rfl, b1⟩
    have B1 := Lib.hid (bl_then B0.out b1)
    have BB := Lib.hid (B1.out.alloc B1.out.size (.cells #[.int .i64 0, .int .i64 0, .int .i64 0] 55))
    clear b1
    obtain ⟨⟨x0, y0⟩, x1, y1⟩ := RC.out _ BB.out
    go_wp2_with fail
    refine bodyPost_ret (v := .tuple #[.agg #[.int .i64 0, .int .i64 0], .bool false]) (by simp [results, Try.results29, go_sem, x0, x1]) rfl ⟨rfl, ?_⟩
    first | exact RF.out _ _ _ BB.out | exact RF.out _ _ _ B1.out | exact RF.out _ _ _ B0.out | exact rs_same BB.out
  · rw [hv] at V
    rw [show urV r b x = .agg #[.int .i64 r, .int .i64 b, .int .i64 x] from if_pos hv] at V
    obtain ⟨hr, hb, hp⟩ := urn_has hv
    by_cases hn : 0 ≤ n ∧ n ≤ 10
    · rw [decide_eq_true hn] at G
      rw [show umV r b x n = keptV (cutN r (r + b)) (cutD r (r + b)) from if_pos ⟨hv, hn⟩]
      have RD := Lib.hid (fun w => reduceI_any r (r + b) w (by omega) (by omega))
      obtain ⟨p, q, ok, hK⟩ := keptV_form (cutN r (r + b)) (cutD r (r + b))
      rw [hK] at RD ⊢
      clear hv hn hK
      go_enter Try.func29, Try.ntmps29
      go_wp2_with fail
      rw [← hwa]
      clear hwa
      refine (V.out _).mono ?_
      rintro e w1 ⟨rfl, b1⟩
      have B1 := Lib.hid (bl_then B0.out b1)
      have BB := Lib.hid (B1.out.alloc B1.out.size (.cells #[.int .i64 r, .int .i64 b, .int .i64 x] 55))
      clear b1
      go_wp2_with fail
      refine (G.out _).mono ?_
      rintro e w2 ⟨rfl, rfl⟩
      go_wp2_with fail
      refine (RD.out _).mono ?_
      rintro e w3 ⟨rfl, b3⟩
      have B3 := Lib.hid (bl_then BB.out b3)
      clear b3
      obtain ⟨⟨x0, y0⟩, x1, y1⟩ := RC.out _ B3.out
      go_wp2_with fail
      refine bodyPost_ret (v := .tuple #[.agg #[.int .i64 p, .int .i64 q], .bool ok]) (by simp [results, Try.results29, go_sem, x0, x1]) rfl ⟨rfl, ?_⟩
      exact RF.out _ _ _ B3.out
    · rw [decide_eq_false hn] at G
      rw [show umV r b x n = .tuple #[.agg #[.int .i64 0, .int .i64 0], .bool false] from if_neg (fun h => hn h.2)]
      clear hv hn
      go_enter Try.func29, Try.ntmps29
      go_wp2_with fail
      rw [← hwa]
      clear hwa
      refine (V.out _).mono ?_
      rintro e w1 ⟨rfl, b1⟩
      have B1 := Lib.hid (bl_then B0.out b1)
      have BB := Lib.hid (B1.out.alloc B1.out.size (.cells #[.int .i64 r, .int .i64 b, .int .i64 x] 55))
      clear b1
      go_wp2_with fail
      refine (G.out _).mono ?_
      rintro e w2 ⟨rfl, rfl⟩
      obtain ⟨⟨x0, y0⟩, x1, y1⟩ := RC.out _ BB.out
      go_wp2_with fail
      refine bodyPost_ret (v := .tuple #[.agg #[.int .i64 0, .int .i64 0], .bool false]) (by simp [results, Try.results29, go_sem, x0, x1]) rfl ⟨rfl, ?_⟩
      first | exact RF.out _ _ _ BB.out | exact RF.out _ _ _ B1.out | exact RF.out _ _ _ B0.out | exact rs_same BB.out
set_option maxRecDepth 100000 in
set_option maxHeartbeats 4000000 in
theorem umS (r b x n : Int) (w : World) (ir : InI64 r) (ib : InI64 b) : Calls Try.prog 28 #[.int .i64 r, .int .i64 b, .int .i64 x, .int .i64 n] w (Gives (umV r b x n) w) := by
  have V := Lib.hid (fun w => urnS r b x w ir ib)
  have G := Lib.hid (fun w => inS n 0 10 w)
  have B0 := Lib.hid (bl_self w (.cells #[.int .i64 0, .int .i64 0] 32))
  have RC := Lib.hid (fun w3 b => rs_cells (w := w) (w3 := w3) b)
  have RF := Lib.hid (fun w3 x y b => rs_fin (w := w) (w3 := w3) (x := x) (y := y) b)
  obtain ⟨wa, hwa⟩ : ∃ wa, wa = w.alloc (.cells #[.int .i64 0, .int .i64 0] 32) := ⟨_, rfl⟩
  rw [← hwa] at B0 RC RF
  cases hv : urOk r b x
  · rw [hv] at V
    rw [show umV r b x n = .tuple #[.agg #[.int .i64 0, .int .i64 0], .bool false] from if_neg (fun h => by rw [hv] at h; exact absurd h.1 (by decide))]
    clear hv
    go_enter Try.func28, Try.ntmps28
    go_wp2_with fail
    rw [← hwa]
    clear hwa
    refine (V.out _).mono ?_
    rintro e w1 ⟨rfl, rfl⟩
    obtain ⟨⟨x0, y0⟩, x1, y1⟩ := RC.out _ B0.out
    go_wp2_with fail
    refine bodyPost_ret (v := .tuple #[.agg #[.int .i64 0, .int .i64 0], .bool false]) (by simp [results, Try.results28, go_sem, x0, x1]) rfl ⟨rfl, ?_⟩
    first | exact RF.out _ _ _ B0.out
  · rw [hv] at V
    obtain ⟨hr, hb, hp⟩ := urn_has hv
    by_cases hn : 0 ≤ n ∧ n ≤ 10
    · rw [decide_eq_true hn] at G
      rw [show umV r b x n = keptV (cutN r (r + b)) (cutD r (r + b)) from if_pos ⟨hv, hn⟩]
      have CU := Lib.hid (fun w => cutS r (r + b) w (by omega) (by omega))
      have KP := Lib.hid (fun w => keptS_cut (a := r) (b := r + b) w (by omega))
      obtain ⟨p, q, ok, hK⟩ := keptV_form (cutN r (r + b)) (cutD r (r + b))
      rw [hK] at KP ⊢
      generalize cutN r (r + b) = CN at *
      generalize cutD r (r + b) = CD at *
      clear hv hn hK
      go_enter Try.func28, Try.ntmps28
      go_wp2_with fail
      rw [← hwa]
      clear hwa
      refine (V.out _).mono ?_
      rintro e w1 ⟨rfl, rfl⟩
      go_wp2_with fail
      refine (G.out _).mono ?_
      rintro e w2 ⟨rfl, rfl⟩
      go_wp2_with fail
      refine (CU.out _).mono ?_
      rintro e w3 ⟨rfl, b3⟩
      have B3 := Lib.hid (bl_then B0.out b3)
      clear b3
      go_wp2_with fail
      refine (KP.out _).mono ?_
      rintro e w4 ⟨rfl, b4⟩
      have B4 := Lib.hid (bl_then B3.out b4)
      clear b4
      obtain ⟨⟨x0, y0⟩, x1, y1⟩ := RC.out _ B4.out
      go_wp2_with fail
      refine bodyPost_ret (v := .tuple #[.agg #[.int .i64 p, .int .i64 q], .bool ok]) (by simp [results, Try.results28, go_sem, x0, x1]) rfl ⟨rfl, ?_⟩
      exact RF.out _ _ _ B4.out
    · rw [decide_eq_false hn] at G
      rw [show umV r b x n = .tuple #[.agg #[.int .i64 0, .int .i64 0], .bool false] from if_neg (fun h => hn h.2)]
      clear hv hn
      go_enter Try.func28, Try.ntmps28
      go_wp2_with fail
      rw [← hwa]
      clear hwa
      refine (V.out _).mono ?_
      rintro e w1 ⟨rfl, rfl⟩
      go_wp2_with fail
      refine (G.out _).mono ?_
      rintro e w2 ⟨rfl, rfl⟩
      obtain ⟨⟨x0, y0⟩, x1, y1⟩ := RC.out _ B0.out
      go_wp2_with fail
      refine bodyPost_ret (v := .tuple #[.agg #[.int .i64 0, .int .i64 0], .bool false]) (by simp [results, Try.results28, go_sem, x0, x1]) rfl ⟨rfl, ?_⟩
      first | exact RF.out _ _ _ B0.out
end Go.Proofs.Ytagoodkaobcjaaa
namespace Go.Proofs.Ytagoodkaobcjaaa
open Go.RowKit
set_option linter.unusedVariables false
def outU (z : Int) : Bool := !decide (0 ≤ z ∧ z ≤ 1)
def bitB (zs : List Int) : Bool := zs.all fun z => decide (0 ≤ z ∧ z ≤ 1)
theorem any_outU (zs : List Int) : zs.any outU = !bitB zs := by
  unfold bitB outU
  rw [List.not_all_eq_any_not]
theorem bit_at {zs : List Int} (h : bitB zs = true) {i : Nat} (hi : i < zs.length) : 0 ≤ zs.getD i 0 ∧ zs.getD i 0 ≤ 1 := by
  unfold bitB at h
  rw [List.all_eq_true] at h
  exact of_decide_eq_true (h _ (getD_mem hi))
theorem bit_no {zs : List Int} {i : Nat} (hi : i < zs.length) (h : ¬ (0 ≤ zs.getD i 0 ∧ zs.getD i 0 ≤ 1)) : bitB zs = false := by
  cases hb : bitB zs
  · rfl
  · exact absurd (bit_at hb hi) h
theorem bit_yes {zs : List Int} (h : ∀ i, i < zs.length → 0 ≤ zs.getD i 0 ∧ zs.getD i 0 ≤ 1) : bitB zs = true := by
  unfold bitB
  rw [List.all_eq_true]
  intro z hz
  obtain ⟨i, hi, e⟩ := List.getElem_of_mem hz
  have := h i hi
  rw [List.getD_eq_getElem?_getD, List.getElem?_eq_getElem hi] at this
  rw [decide_eq_true_iff, ← e]; exact this
theorem smT_bit {zs : List Int} (h : ∀ i, i < zs.length → 0 ≤ zs.getD i 0 ∧ zs.getD i 0 ≤ 1) : ∀ k, k ≤ zs.length → 0 ≤ smT zs k ∧ smT zs k ≤ k
  | 0, _ => by simp [smT]
  | k + 1, hk => by
      have a := smT_bit h k (by omega)
      have b := h k (by omega)
      show 0 ≤ smT zs k + zs.getD k 0 ∧ smT zs k + zs.getD k 0 ≤ ((k + 1 : Nat) : Int)
      omega
theorem ch_pos : ∀ n, n < 11 → ∀ p, p < 11 → p ≤ n → 1 ≤ chN n p ∧ chN n p ≤ 252 := by decide +kernel
def ucOk (r b x : Int) (zs : List Int) : Bool := urOk r b x && (decide (zs.length ≤ 10) && bitB zs)
def ucV (r b x : Int) (zs : List Int) : Value := if ucOk r b x zs = true then chV (tpL 1 r b x (smT zs zs.length).toNat (zs.length - (smT zs zs.length).toNat)) (grF (r + b) x) ((smT zs zs.length).toNat + (zs.length - (smT zs zs.length).toNat)) else .tuple #[.agg #[.int .i64 0, .int .i64 0], .bool false]
theorem chV_form (T : List Int) (F : Nat → Int) (n : Nat) : ∃ p q ok, chV T F n = .tuple #[.agg #[.int .i64 p, .int .i64 q], .bool ok] := keptV_form _ _
theorem ucV_form (r b x : Int) (zs : List Int) : ∃ p q ok, ucV r b x zs = .tuple #[.agg #[.int .i64 p, .int .i64 q], .bool ok] := by
  unfold ucV
  split
  · exact chV_form _ _ _
  · exact ⟨_, _, _, rfl⟩
theorem urn_has3 {r b x : Int} (h : urOk r b x = true) : (0 ≤ r ∧ r ≤ 20) ∧ (0 ≤ b ∧ b ≤ 20) ∧ (0 ≤ x ∧ x ≤ 20) ∧ 0 < r + b := by
  unfold urOk at h
  simp only [Bool.and_eq_true, decide_eq_true_iff] at h
  exact ⟨h.1.1.1, h.1.1.2, h.1.2, h.2⟩
set_option maxHeartbeats 2000000 in
theorem outUPred (cs : List Int) (w : World) :
    PredZ 56 #[] outU cs w := by
  intro W z hz hb
  have F := Lib.hid (fun w => fromI z 0 1 w)
  have D : Hid (outU z = !decide (0 ≤ z ∧ z ≤ 1)) := Lib.hid rfl
  clear hb hz
  show Calls _ _ #[.int .i64 z] _ _
  generalize decide (0 ≤ z ∧ z ≤ 1) = bb at *
  go_enter Try.func56, Try.ntmps56
  go_wp2_with fail
  refine (F.out _).mono ?_
  rintro e w1 ⟨rfl, rfl⟩
  go_wp2_with fail
  go_ret
  exact ⟨by rw [D.out]; rfl, Below.refl _ _⟩
theorem smT_bit2 {zs : List Int} {m : Nat} (h : ∀ i, i < m → 0 ≤ zs.getD i 0 ∧ zs.getD i 0 ≤ 1) : ∀ k, k ≤ m → 0 ≤ smT zs k ∧ smT zs k ≤ k
  | 0, _ => by simp [smT]
  | k + 1, hk => by
      have a := smT_bit2 h k (by omega)
      have b := h k (by omega)
      show 0 ≤ smT zs k + zs.getD k 0 ∧ smT zs k + zs.getD k 0 ≤ ((k + 1 : Nat) : Int)
      omega
set_option maxRecDepth 100000 in
set_option maxHeartbeats 4000000 in
theorem ucC (r b x : Int) (zs : List Int) (v : Value) (w : World) (hn : zs.length ≤ 1048576) (h : IntsV w w.heap.size v zs) : Calls Try.prog 32 #[.int .i64 r, .int .i64 b, .int .i64 x, v] w (Gives (ucV r b x zs) w) := by
  have V := Lib.hid (fun w => urnOfC r b x w)
  have B0 := Lib.hid (bl_self w (.cells #[.int .i64 0, .int .i64 0] 32))
  have RC := Lib.hid (fun w3 b => rs_cells (w := w) (w3 := w3) b)
  have RF := Lib.hid (fun w3 x y b => rs_fin (w := w) (w3 := w3) (x := x) (y := y) b)
  have UPB := Lib.hid (fun w3 (b : Below (w.alloc (.cells #[.int .i64 0, .int .i64 0] 32)).heap.size (w.alloc (.cells #[.int .i64 0, .int .i64 0] 32)) w3) => rs_same b)
  obtain ⟨wa, hwa⟩ : ∃ wa, wa = w.alloc (.cells #[.int .i64 0, .int .i64 0] 32) := ⟨_, rfl⟩
  rw [← hwa] at B0 RC RF UPB
  have IV : Hid (∀ w', Below w.heap.size w w' → IntsV w' w'.heap.size v zs) := Lib.hid (fun w' hb => (h.below hb).more hb.size)
  obtain ⟨qq, cq, rfl, lq, mq, _⟩ := h
  cases hv : urOk r b x
  · rw [show ucV r b x zs = .tuple #[.agg #[.int .i64 0, .int .i64 0], .bool false] from if_neg (by unfold ucOk; rw [hv, Bool.false_and]; decide)]
    rw [hv] at V
    rw [show urV r b x = .agg #[.int .i64 0, .int .i64 0, .int .i64 0] from if_neg (by rw [hv]; decide)] at V
    clear hv
    go_enter Try.func32, Try.ntmps32
    go_wp2_with fail
    rw [← hwa]
    clear hwa
    refine (V.out _).mono ?_
    rintro e w1 ⟨rfl, b1⟩
    have B1 := Lib.hid (bl_then B0.out b1)
    have BB := Lib.hid (B1.out.alloc B1.out.size (.cells #[.int .i64 0, .int .i64 0, .int .i64 0] 55))
    have UB := UBox.new w1 0 0 0
    clear b1
    have HU := Lib.hid UB
    have ltU := UB.lt
    clear UB
    obtain ⟨⟨x0, y0⟩, x1, y1⟩ := RC.out _ BB.out
    go_wp2_with fail
    refine bodyPost_ret (v := .tuple #[.agg #[.int .i64 0, .int .i64 0], .bool false]) (by simp [results, Try.results32, go_sem, x0, x1]) rfl ⟨rfl, ?_⟩
    first | exact RF.out _ _ _ BB.out | exact UPB.out _ BB.out
  · rw [hv] at V
    rw [show urV r b x = .agg #[.int .i64 r, .int .i64 b, .int .i64 x] from if_pos hv] at V
    by_cases hl : zs.length ≤ 10
    · have CV : Hid (∀ w', Below w.heap.size w w' → Calls Try.prog 57 #[.slice qq zs.length cq, .func (.func 56) #[] #[]] w' (Gives (.bool (zs.any outU)) w')) := Lib.hid (fun w' hb => containsI zs _ 56 #[] outU w' (enters_of Try.func56 (by kernel_rfl) rfl) hn (IV.out w' hb) (outUPred zs w'))
      have t10 : ¬ (10 : Int) < (zs.length : Int) := by omega
      have t11 : (zs.length : Int) ≤ 10 := by omega
      cases hb : bitB zs
      · rw [any_outU, hb] at CV
        rw [show ucV r b x zs = .tuple #[.agg #[.int .i64 0, .int .i64 0], .bool false] from if_neg (by unfold ucOk; rw [hb, Bool.and_false, Bool.and_false]; decide)]
        clear hv hb hl
        go_enter Try.func32, Try.ntmps32
        go_wp2_with fail
        rw [← hwa]
        clear hwa
        refine (V.out _).mono ?_
        rintro e w1 ⟨rfl, b1⟩
        have B1 := Lib.hid (bl_then B0.out b1)
        have BB := Lib.hid (B1.out.alloc B1.out.size (.cells #[.int .i64 r, .int .i64 b, .int .i64 x] 55))
        have UB := UBox.new w1 r b x
        clear b1
        have HU := Lib.hid UB
        have ltU := UB.lt
        clear UB
        go_wp2_with fail
        refine (CV.out _ (UPB.out _ BB.out)).mono ?_
        rintro e w3 ⟨rfl, b3⟩
        have B3 := Lib.hid (bl_then BB.out b3)
        have HU3 := Lib.hid (HU.out.below b3 ltU)
        clear b3
        obtain ⟨⟨x0, y0⟩, x1, y1⟩ := RC.out _ B3.out
        go_wp2_with fail
        refine bodyPost_ret (v := .tuple #[.agg #[.int .i64 0, .int .i64 0], .bool false]) (by simp [results, Try.results32, go_sem, x0, x1]) rfl ⟨rfl, ?_⟩
        first | exact RF.out _ _ _ B3.out | exact UPB.out _ B3.out
      · rw [any_outU, hb] at CV
        obtain ⟨hr, hbb, hx, hp⟩ := urn_has3 hv
        have BA := Lib.hid (fun i hi => bit_at hb (i := i) hi)
        have sb := smT_bit (zs := zs) (fun i hi => BA.out i hi) zs.length (Nat.le_refl _)
        have TOT : Hid (∀ w', Below w.heap.size w w' → Calls Try.prog 58 #[.slice qq zs.length cq] w' fun e w'' => e = .returned (.int .i64 (smT zs zs.length)) ∧ w' = w'') := Lib.hid (fun w' hb => totIQ zs _ _ w' hn (fun i hi => by have := BA.out i hi; omega) (IV.out w' hb))
        obtain ⟨P, hP⟩ : ∃ P, P = (smT zs zs.length).toNat := ⟨_, rfl⟩
        have hPs : smT zs zs.length = (P : Int) := by omega
        obtain ⟨Q, hQ⟩ : ∃ Q, Q = zs.length - P := ⟨_, rfl⟩
        have hPQ : P + Q = zs.length := by omega
        have e := (show ucV r b x zs = chV (tpL 1 r b x P Q) (grF (r + b) x) (P + Q) from by rw [hQ, hP]; exact if_pos (by unfold ucOk; rw [hv, hb, decide_eq_true hl]; rfl))
        have CH := Lib.hid (fun w => chanceC r b x 1 P Q w (by omega) (by have := (ch_pos (P + Q) (by omega) P (by omega) (by omega)).1; omega) hr hbb hx hp (by omega))
        rw [e]
        obtain ⟨p, q, ok, hK⟩ := chV_form (tpL 1 r b x P Q) (grF (r + b) x) (P + Q)
        rw [hK] at CH ⊢
        rw [hPs] at TOT
        have QE : (zs.length : Int) - (P : Int) = (Q : Int) := by omega
        clear e hK hv hb hl hP hPs sb hQ BA hp hr hbb hx
        go_enter Try.func32, Try.ntmps32
        go_wp2_with fail
        rw [← hwa]
        clear hwa
        refine (V.out _).mono ?_
        rintro e w1 ⟨rfl, b1⟩
        have B1 := Lib.hid (bl_then B0.out b1)
        have BB := Lib.hid (B1.out.alloc B1.out.size (.cells #[.int .i64 r, .int .i64 b, .int .i64 x] 55))
        have UB := UBox.new w1 r b x
        clear b1
        have HU := Lib.hid UB
        have ltU := UB.lt
        clear UB
        go_wp2_with fail
        refine (CV.out _ (UPB.out _ BB.out)).mono ?_
        rintro e w3 ⟨rfl, b3⟩
        have B3 := Lib.hid (bl_then BB.out b3)
        have HU3 := Lib.hid (HU.out.below b3 ltU)
        clear b3
        go_wp2_with fail
        refine (TOT.out _ (UPB.out _ B3.out)).mono ?_
        rintro e w4 ⟨rfl, rfl⟩
        obtain ⟨u0, u1, u2⟩ := HU3.out.cells
        go_wp2_with fail
        refine (CH.out _).mono ?_
        rintro e w5 ⟨rfl, b5⟩
        have B5 := Lib.hid (bl_then B3.out b5)
        clear b5
        obtain ⟨⟨x0, y0⟩, x1, y1⟩ := RC.out _ B5.out
        go_wp2_with fail
        refine bodyPost_ret (v := .tuple #[.agg #[.int .i64 p, .int .i64 q], .bool ok]) (by simp [results, Try.results32, go_sem, x0, x1]) rfl ⟨rfl, ?_⟩
        exact RF.out _ _ _ B5.out
    · have t10 : (10 : Int) < (zs.length : Int) := by omega
      rw [show ucV r b x zs = .tuple #[.agg #[.int .i64 0, .int .i64 0], .bool false] from if_neg (by unfold ucOk; rw [decide_eq_false hl, Bool.false_and, Bool.and_false]; decide)]
      clear hv hl
      go_enter Try.func32, Try.ntmps32
      go_wp2_with fail
      rw [← hwa]
      clear hwa
      refine (V.out _).mono ?_
      rintro e w1 ⟨rfl, b1⟩
      have B1 := Lib.hid (bl_then B0.out b1)
      have BB := Lib.hid (B1.out.alloc B1.out.size (.cells #[.int .i64 r, .int .i64 b, .int .i64 x] 55))
      have UB := UBox.new w1 r b x
      clear b1
      have HU := Lib.hid UB
      have ltU := UB.lt
      clear UB
      obtain ⟨⟨x0, y0⟩, x1, y1⟩ := RC.out _ BB.out
      go_wp2_with fail
      refine bodyPost_ret (v := .tuple #[.agg #[.int .i64 0, .int .i64 0], .bool false]) (by simp [results, Try.results32, go_sem, x0, x1]) rfl ⟨rfl, ?_⟩
      first | exact RF.out _ _ _ BB.out | exact UPB.out _ BB.out
set_option maxRecDepth 100000 in
set_option maxHeartbeats 4000000 in
theorem ucS (r b x : Int) (zs : List Int) (v : Value) (w : World) (ir : InI64 r) (ib : InI64 b) (hn : zs.length ≤ 1048576) (h : IntsV w w.heap.size v zs) : Calls Try.prog 30 #[.int .i64 r, .int .i64 b, .int .i64 x, v] w (Gives (ucV r b x zs) w) := by
  have V := Lib.hid (fun w => urnS r b x w ir ib)
  have B0 := Lib.hid (bl_self w (.cells #[.int .i64 0, .int .i64 0] 32))
  have RC := Lib.hid (fun w3 b => rs_cells (w := w) (w3 := w3) b)
  have RF := Lib.hid (fun w3 x y b => rs_fin (w := w) (w3 := w3) (x := x) (y := y) b)
  have UPB := Lib.hid (fun w3 (b : Below (w.alloc (.cells #[.int .i64 0, .int .i64 0] 32)).heap.size (w.alloc (.cells #[.int .i64 0, .int .i64 0] 32)) w3) => rs_same b)
  obtain ⟨wa, hwa⟩ : ∃ wa, wa = w.alloc (.cells #[.int .i64 0, .int .i64 0] 32) := ⟨_, rfl⟩
  rw [← hwa] at B0 RC RF UPB
  have hIA := h.below (UPB.out _ B0.out)
  obtain ⟨qq, cq, rfl, lq, mq, _⟩ := h
  obtain ⟨q2, c2, e2, _, _, _, IA⟩ := hIA
  injection e2 with e3 _ _
  subst e3
  have E1 := Lib.hid IA
  clear IA
  cases hv : urOk r b x
  · rw [show ucV r b x zs = .tuple #[.agg #[.int .i64 0, .int .i64 0], .bool false] from if_neg (by unfold ucOk; rw [hv, Bool.false_and]; decide)]
    rw [hv] at V
    clear hv
    go_enter Try.func30, Try.ntmps30
    go_wp2_with fail
    rw [← hwa]
    clear hwa
    refine (V.out _).mono ?_
    rintro e w1 ⟨rfl, rfl⟩
    obtain ⟨⟨x0, y0⟩, x1, y1⟩ := RC.out _ B0.out
    go_wp2_with fail
    refine bodyPost_ret (v := .tuple #[.agg #[.int .i64 0, .int .i64 0], .bool false]) (by simp [results, Try.results30, go_sem, x0, x1]) rfl ⟨rfl, ?_⟩
    first | exact RF.out _ _ _ B0.out | exact UPB.out _ B0.out
  · rw [hv] at V
    by_cases hl : zs.length ≤ 10
    · have t10 : ¬ (10 : Int) < (zs.length : Int) := by omega
      have t11 : (zs.length : Int) ≤ 10 := by omega
      have ST := Lib.hid (fun k => show smT zs (k + 1) = smT zs k + zs.getD k 0 from rfl)
      have S0 := Lib.hid (show smT zs 0 = 0 from rfl)
      have BN := Lib.hid (fun i (hi : i < zs.length) (h : ¬ (0 ≤ zs.getD i 0 ∧ zs.getD i 0 ≤ 1)) => show ucV r b x zs = .tuple #[.agg #[.int .i64 0, .int .i64 0], .bool false] from if_neg (by unfold ucOk; rw [bit_no hi h, Bool.and_false, Bool.and_false]; decide))
      obtain ⟨hr, hbb, hx, hp⟩ := urn_has3 hv
      have BY : Hid ((∀ i, i < zs.length → 0 ≤ zs.getD i 0 ∧ zs.getD i 0 ≤ 1) → ∃ (P Q : Nat) (p q : Int) (ok : Bool), P + Q = zs.length ∧ smT zs zs.length = (P : Int) ∧ ucV r b x zs = .tuple #[.agg #[.int .i64 p, .int .i64 q], .bool ok] ∧ ∀ w, Calls Try.prog 55 #[.int .i64 r, .int .i64 b, .int .i64 x, .int .i64 P, .int .i64 Q, .int .i64 1] w (Gives (.tuple #[.agg #[.int .i64 p, .int .i64 q], .bool ok]) w)) := Lib.hid (by
        intro BA
        have sb := smT_bit (zs := zs) BA zs.length (Nat.le_refl _)
        obtain ⟨P, hP⟩ : ∃ P, P = (smT zs zs.length).toNat := ⟨_, rfl⟩
        obtain ⟨Q, hQ⟩ : ∃ Q, Q = zs.length - P := ⟨_, rfl⟩
        obtain ⟨p, q, ok, hK⟩ := chV_form (tpL 1 r b x P Q) (grF (r + b) x) (P + Q)
        refine ⟨P, Q, p, q, ok, by omega, by omega, ?_, fun w => ?_⟩
        · rw [← hK, hQ, hP]; exact if_pos (by unfold ucOk; rw [hv, bit_yes BA, decide_eq_true hl]; rfl)
        · rw [← hK]; exact chanceS9 r b x 1 P Q w (by omega) (by have := (ch_pos (P + Q) (by omega) P (by omega) (by omega)).1; omega) hr hbb hx hp (by omega))
      have SB := Lib.hid (fun (k : Nat) (BA : ∀ i, i < k → 0 ≤ zs.getD i 0 ∧ zs.getD i 0 ≤ 1) (hk : k ≤ zs.length) => smT_bit2 BA k (Nat.le_refl _))
      have I1 := Lib.hid (fun z w => inS z 0 1 w)
      clear hv hr hbb hx hp
      go_enter Try.func30, Try.ntmps30
      go_wp2_with fail
      rw [← hwa]
      clear hwa
      refine (V.out _).mono ?_
      rintro e w1 ⟨rfl, rfl⟩
      go_wp2_with fail
      go_loopg [10, 11] zs.length (fun gg s t wr => ∃ k : Nat, k ≤ zs.length ∧ zs.length - k ≤ gg ∧ s = .int .i64 (smT zs k) ∧ t = .int .i64 k ∧ Hid (∀ i, i < k → 0 ≤ zs.getD i 0 ∧ zs.getD i 0 ≤ 1) ∧ wa = wr)
      case atStart => exact ⟨0, Nat.zero_le _, by omega, by rw [S0.out], rfl, Lib.hid (fun i hi => by omega), rfl⟩
      case round =>
        obtain ⟨k, hk, hgg, rfl, rfl, HA, rfl⟩ := hrel
        by_cases hlt : k < zs.length
        · obtain ⟨b1, off, rfl, hb1, hc⟩ := E1.out.get hlt
          have k1 : (k : Int) < (zs.length : Int) := by omega
          have k2 : 0 ≤ (k : Int) := by omega
          by_cases hz : 0 ≤ zs.getD k 0 ∧ zs.getD k 0 ≤ 1
          · have IZ := Lib.hid (fun w => I1.out (zs.getD k 0) w)
            rw [decide_eq_true hz] at IZ
            have st := ST.out k
            have sb := SB.out k HA.out hk
            have HA2 : Hid (∀ i, i < k + 1 → 0 ≤ zs.getD i 0 ∧ zs.getD i 0 ≤ 1) := Lib.hid (fun i hi => by
              rcases Nat.lt_or_ge i k with h' | h'
              · exact HA.out i h'
              · obtain rfl : i = k := by omega
                exact hz)
            obtain ⟨z, hzz⟩ : ∃ z, z = zs.getD k 0 := ⟨_, rfl⟩
            obtain ⟨s, hs⟩ : ∃ s, s = smT zs k := ⟨_, rfl⟩
            rw [← hzz] at hc IZ st hz
            rw [← hs] at st sb ⊢
            have SE := Lib.hid st
            obtain ⟨hz1, hz2⟩ := hz
            clear st hzz hs
            go_wp2_with fail
            refine (IZ.out _).mono ?_
            rintro e w3 ⟨rfl, rfl⟩
            go_wp2_with fail
            go_roundg (zs.length - (k + 1))
            case rel => exact ⟨k + 1, by omega, by omega, by rw [SE.out], by go_num, HA2, rfl⟩
            case measure => omega
          · have IZ := Lib.hid (fun w => I1.out (zs.getD k 0) w)
            rw [decide_eq_false hz] at IZ
            have EV := Lib.hid (BN.out k hlt hz)
            rw [EV.out]
            obtain ⟨z, hzz⟩ : ∃ z, z = zs.getD k 0 := ⟨_, rfl⟩
            rw [← hzz] at hc IZ
            obtain ⟨⟨x0, y0⟩, x1, y1⟩ := RC.out _ B0.out
            clear hz hzz
            go_wp2_with fail
            refine (IZ.out _).mono ?_
            rintro e w3 ⟨rfl, rfl⟩
            go_wp2_with fail
            refine bodyPost_ret (v := .tuple #[.agg #[.int .i64 0, .int .i64 0], .bool false]) (by simp [results, Try.results30, go_sem, x0, x1]) rfl ⟨by first | rfl | (rw [EV.out]), ?_⟩
            first | exact RF.out _ _ _ B0.out | exact UPB.out _ B0.out
        · have hkz : k = zs.length := by omega
          have k1 : ¬ (k : Int) < (zs.length : Int) := by omega
          obtain ⟨P, Q, p, q, ok, hPQ, hPs, EV0, CH0⟩ := BY.out (fun i hi => HA.out i (by omega))
          have EV := Lib.hid EV0
          have CH := Lib.hid CH0
          have PE := Lib.hid (show smT zs k = (P : Int) by rw [hkz]; exact hPs)
          rw [PE.out]
          have QE : (zs.length : Int) - (P : Int) = (Q : Int) := by omega
          clear hkz hPs EV0 CH0
          go_wp2_with fail
          refine (CH.out _).mono ?_
          rintro e w5 ⟨rfl, b5⟩
          have B5 := Lib.hid (bl_then B0.out b5)
          clear b5
          obtain ⟨⟨x0, y0⟩, x1, y1⟩ := RC.out _ B5.out
          go_wp2_with fail
          refine bodyPost_ret (v := .tuple #[.agg #[.int .i64 p, .int .i64 q], .bool ok]) (by simp [results, Try.results30, go_sem, x0, x1]) rfl ⟨by rw [EV.out], ?_⟩
          exact RF.out _ _ _ B5.out
    · have t10 : (10 : Int) < (zs.length : Int) := by omega
      rw [show ucV r b x zs = .tuple #[.agg #[.int .i64 0, .int .i64 0], .bool false] from if_neg (by unfold ucOk; rw [decide_eq_false hl, Bool.false_and, Bool.and_false]; decide)]
      clear hv hl
      go_enter Try.func30, Try.ntmps30
      go_wp2_with fail
      rw [← hwa]
      clear hwa
      refine (V.out _).mono ?_
      rintro e w1 ⟨rfl, rfl⟩
      obtain ⟨⟨x0, y0⟩, x1, y1⟩ := RC.out _ B0.out
      go_wp2_with fail
      refine bodyPost_ret (v := .tuple #[.agg #[.int .i64 0, .int .i64 0], .bool false]) (by simp [results, Try.results30, go_sem, x0, x1]) rfl ⟨rfl, ?_⟩
      first | exact RF.out _ _ _ B0.out | exact UPB.out _ B0.out
end Go.Proofs.Ytagoodkaobcjaaa
