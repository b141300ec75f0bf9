/- Words: two of them, their overlaps, what a team has and how long it waits, in the program. -/
import Derived.Test.YtligidmkhbcpmaaShwC
import Derived.Test.YtligidmkhbcpmaaOvlI
namespace Go.Proofs.Ytligidmkhbcpmaa
open Go.RowKit
set_option linter.unusedVariables false
theorem pw68 {f k : Nat} (hf : f ≤ 6) (hk : k ≤ 8) : f ^ k ≤ 1679616 := by
  have h1 : f ^ k ≤ 6 ^ k := Nat.pow_le_pow_left hf k
  have h2 : 6 ^ k ≤ 6 ^ 8 := Nat.pow_le_pow_right (by omega) hk
  have h3 : (6 : Nat) ^ 8 = 1679616 := by decide
  omega
theorem wsK_bd {f : Nat} {L : List Int} (hf : f ≤ 6) (hL : ∀ z ∈ L, 1 ≤ z ∧ z ≤ 8) : ∀ j, wsK f L j ≤ j * 1679616
  | 0 => Nat.le_refl 0
  | j + 1 => by
      have h1 := wsK_bd hf hL j
      have h2 : f ^ (L.getD j 0).toNat ≤ 1679616 := by
        rcases Nat.lt_or_ge j L.length with hj | hj
        · have := hL _ (getD_memF hj)
          exact pw68 hf (by omega)
        · rw [List.getD_eq_getElem?_getD, List.getElem?_eq_none hj]
          exact pw68 hf (by show (0 : Int).toNat ≤ 8; omega)
      show wsK f L j + f ^ (L.getD j 0).toNat ≤ (j + 1) * 1679616
      omega
theorem ovL_bd (a b : List Int) (ha : a.length ≤ 8) : (∀ z ∈ ovL a b, 1 ≤ z ∧ z ≤ 8) ∧ (ovL a b).length ≤ 8 := by
  refine ⟨fun z hz => ?_, ?_⟩
  · have := ovK_bd a b _ z hz
    omega
  · have := ovK_len a b (min a.length b.length)
    unfold ovL; omega
set_option maxRecDepth 100000 in
set_option maxHeartbeats 8000000 in
theorem winsC9 (xs bs : List Int) (f : Nat) (w : World) (hf : f ≤ 6) (ha : xs.length ≤ 8) (hb : bs.length ≤ 8) (ia : ∀ z ∈ xs, InI64 z) (ib : ∀ z ∈ bs, InI64 z) :
    Calls Try.prog 55 #[shV xs, .int .i64 f, shV bs] w (Gives (.int .i64 (wsN f xs bs : Nat)) w) := by
  obtain ⟨wb, hwb, HS0, HT0, HB0, SZ0⟩ := ss_setup w xs bs
  have HB := Lib.hid HB0
  obtain ⟨zl, z0, z1, z2, z3, z4, z5, z6, z7, SAL, SA⟩ := sh_form (xs)
  obtain ⟨yl, y0, y1, y2, y3, y4, y5, y6, y7, SBL, SB⟩ := sh_form (bs)
  unfold SBox at HS0 HT0
  rw [SA] at HS0 hwb
  rw [SB] at HT0 hwb
  have OV : Hid (∀ w, Calls Try.prog 66 #[.agg #[.int .i64 zl, .int .i64 z0, .int .i64 z1, .int .i64 z2, .int .i64 z3, .int .i64 z4, .int .i64 z5, .int .i64 z6, .int .i64 z7], .agg #[.int .i64 yl, .int .i64 y0, .int .i64 y1, .int .i64 y2, .int .i64 y3, .int .i64 y4, .int .i64 y5, .int .i64 y6, .int .i64 y7]] w (NewInts (ovL xs bs) w)) := Lib.hid (fun w => by
    have h := overC xs bs w ha hb ia ib
    rw [show shV xs = .agg (shA xs) from rfl, show shV bs = .agg (shA bs) from rfl, SA, SB] at h
    exact h)
  rw [show shV xs = .agg (shA xs) from rfl, show shV bs = .agg (shA bs) from rfl, SA, SB]
  obtain ⟨pc0, pc1, pc2, pc3, pc4, pc5, pc6, pc7, pc8⟩ := nine_cells HS0
  obtain ⟨qc0, qc1, qc2, qc3, qc4, qc5, qc6, qc7, qc8⟩ := nine_cells HT0
  obtain ⟨LB, LN⟩ := ovL_bd xs bs ha
  have WB := Lib.hid (fun j => wsK_bd (f := f) hf LB j)
  have WS := Lib.hid (fun j => show wsK f (ovL xs bs) (j + 1) = wsK f (ovL xs bs) j + f ^ ((ovL xs bs).getD j 0).toNat from rfl)
  have W0 := Lib.hid (show wsK f (ovL xs bs) 0 = 0 from rfl)
  have WE := Lib.hid (show wsN f xs bs = wsK f (ovL xs bs) (ovL xs bs).length from rfl)
  have LM := Lib.hid (fun j (hj : j < (ovL xs bs).length) => LB _ (getD_memF hj))
  have PW : Hid (∀ k : Nat, k ≤ 8 → ∀ w, Calls Try.prog 67 #[.int .i64 f, .int .i64 k] w (QR (.int .i64 (f ^ k : Nat)) w)) := Lib.hid (fun k hk w => powC f k w (by omega) (fun j hj => by have := pw68 (f := f) (k := j) hf (by omega); omega) (by omega))
  have PB := Lib.hid (fun k (hk : k ≤ 8) => pw68 (f := f) (k := k) hf hk)
  rw [WE.out]
  obtain ⟨L, hL⟩ : ∃ L, L = ovL xs bs := ⟨_, rfl⟩
  rw [← hL] at OV LN WB WS W0 LM ⊢
  obtain ⟨n, hn⟩ : ∃ n, n = L.length := ⟨_, rfl⟩
  have HN := Lib.hid hn
  rw [← hn] at LN LM ⊢
  obtain ⟨K, hK⟩ : ∃ K : Nat → Nat, K = wsK f L := ⟨_, rfl⟩
  rw [← hK] at WB WS W0 ⊢
  have szb : w.heap.size ≤ wb.heap.size := HB.out.size
  clear HS0 HT0 HB0 SZ0 SA SB SAL SBL WE LB hL hn hK ia ib ha hb
  go_enter Try.func55, Try.ntmps55
  go_wp2_with fail
  rw [← hwb]
  clear hwb
  refine (OV.out _).mono ?_
  rintro e w1 ⟨v1, rfl, o1, b1⟩
  have HB1 := Lib.hid (HB.out.trans (b1.mono HB.out.size))
  obtain ⟨q, cq, rfl, lq, mq, zq, iq⟩ := o1.intsV
  have E1 := Lib.hid iq
  rw [← HN.out] at lq mq ⊢
  clear b1 o1 zq iq pc0 pc1 pc2 pc3 pc4 pc5 pc6 pc7 pc8 qc0 qc1 qc2 qc3 qc4 qc5 qc6 qc7 qc8
  go_wp2_with fail
  go_loopg [7, 14] n (fun gg s t wr => ∃ j : Nat, j ≤ n ∧ n - j ≤ gg ∧ s = .int .i64 (K j : Nat) ∧ t = .int .i64 j ∧ w1 = wr)
  case atStart => exact ⟨0, by omega, by omega, by rw [W0.out]; rfl, rfl, rfl⟩
  case round =>
    obtain ⟨j, hj, hgg, rfl, rfl, rfl⟩ := hrel
    by_cases hlt : j < n
    · obtain ⟨b, off, rfl, hb', hc⟩ := E1.out.get (by rw [← HN.out]; exact hlt : j < L.length)
      have i0 : (0 : Int) ≤ (j : Int) := by omega
      have i1 : (j : Int) < (n : Int) := by omega
      have lm := LM.out j hlt
      have ws := WS.out j
      have wb1 := WB.out j
      obtain ⟨z, hz⟩ : ∃ z, z = L.getD j 0 := ⟨_, rfl⟩
      rw [← hz] at hc lm ws
      obtain ⟨k, rfl⟩ : ∃ k : Nat, z = (k : Int) := ⟨z.toNat, by omega⟩
      rw [Int.toNat_natCast] at ws
      have PK := Lib.hid (fun w => PW.out k (by omega) w)
      have pb := PB.out k (by omega)
      obtain ⟨x, hx⟩ : ∃ x, x = f ^ k := ⟨_, rfl⟩
      rw [← hx] at PK pb ws
      obtain ⟨s, hs⟩ : ∃ s, s = K j := ⟨_, rfl⟩
      rw [← hs] at ws wb1 ⊢
      have SE := Lib.hid (show ((s : Nat) : Int) + ((x : Nat) : Int) = (K (j + 1) : Nat) by omega)
      have sb : s ≤ 13436928 := by omega
      clear hz ws hx hs wb1
      go_wp2_with fail
      refine (PK.out _).mono ?_
      rintro e w5 ⟨rfl, rfl⟩
      go_wp2_with fail
      go_roundg (n - (j + 1))
      case rel => exact ⟨j + 1, by omega, by omega, by rw [SE.out], by go_num, rfl⟩
      case measure => omega
    · obtain rfl : j = n := by omega
      have i1 : ¬ (j : Int) < (j : Int) := by omega
      go_wp2_with fail
      go_ret
      exact ⟨rfl, HB1.out⟩
theorem wd_in (f : Int) (zs : List Int) : ∀ z ∈ wdZ f zs, InI64 z := by
  unfold wdZ
  split
  · rename_i h
    obtain ⟨h1, h2, h3⟩ := wd_bd h
    intro z hz
    obtain ⟨i, hi, e⟩ := List.getElem_of_mem hz
    have := fac_at h3 hi
    rw [List.getD_eq_getElem?_getD, List.getElem?_eq_getElem hi] at this
    unfold InI64; rw [← e]; simp at this; omega
  · intro z hz; cases hz
def wwV (f : Int) (zs : List Int) : Int := if wdOk f zs = true then (wsN f.toNat zs zs : Nat) else 0
end Go.Proofs.Ytligidmkhbcpmaa
