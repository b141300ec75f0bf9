/- LeadCounts and ReturnCounts in the program. -/
import Derived.Test.YtmidlabgmmejbabPowI
import Derived.Test.YtmidlabgmmejbabFill
namespace Go.Proofs.Ytmidlabgmmejbab
open Go.RowKit
set_option linter.unusedVariables false
def okE (m : Int) : Bool := decide ((0 ≤ m ∧ m ≤ 30) ∧ m % 2 = 0)
theorem okE_mk {m : Int} (h : okE m = true) : ∃ M k : Nat, m = M ∧ M = 2 * k ∧ k ≤ 15 := by
  unfold okE at h
  rw [decide_eq_true_iff] at h
  exact ⟨m.toNat, (m.toNat) / 2, by omega, by omega, by omega⟩
/-- The walks by their steps above 0. -/
def ldF (k r : Nat) : Int := wkI (2 * r) 0 * wkI (2 * k - 2 * r) 0
def ldL (k : Nat) : List Int := fillL (ldF k) (k + 1) (k + 1)
/-- The walks by their returns. -/
def rtF (k r : Nat) : Int := ((2 ^ r : Nat) : Int) * (chN (2 * k - r) k : Nat)
def rtL (k : Nat) : List Int := fillL (rtF k) (k + 1) (k + 1)
def ifE (m : Int) (L : Nat → List Int) : List Int := if okE m = true then L (m.toNat / 2) else []
theorem ifE_len (m : Int) (L : Nat → List Int) (h : ∀ k, (L k).length ≤ k + 1) : (ifE m L).length ≤ 16 := by
  unfold ifE
  split
  · rename_i hk
    obtain ⟨M, k, rfl, h1, h2⟩ := okE_mk hk
    have := h ((M : Int).toNat / 2)
    omega
  · simp
theorem ldF_bd {k r : Nat} (hk : k ≤ 15) (hr : r ≤ k) : 0 ≤ ldF k r ∧ ldF k r ≤ 24061445010950400 := by
  have h1 := wkI_bd (m := 2 * r) (by omega) 0
  have h2 := wkI_bd (m := 2 * k - 2 * r) (by omega) 0
  unfold ldF
  have h3 : wkI (2 * r) 0 * wkI (2 * k - 2 * r) 0 ≤ 155117520 * 155117520 := Int.mul_le_mul h1.2 h2.2 h2.1 (by omega)
  exact ⟨Int.mul_nonneg h1.1 h2.1, by omega⟩
theorem rtF_bd {k r : Nat} (hk : k ≤ 15) (hr : r ≤ k) : 0 ≤ rtF k r ∧ rtF k r ≤ 5082890895360 := by
  have h1 := chN_bd (2 * k - r) (by omega) k (by omega)
  have h2 : 2 ^ r ≤ 2 ^ 15 := Nat.pow_le_pow_right (by omega) (by omega)
  have h3 : 2 ^ r * chN (2 * k - r) k ≤ 32768 * 155117520 := Nat.mul_le_mul (by omega) h1
  unfold rtF
  rw [← Int.natCast_mul]
  omega
theorem pow2_le {k : Nat} (hk : k ≤ 15) : ∀ j, j ≤ k → 2 ^ j ≤ 4096000000000000 := fun j hj => by
  have h2 : 2 ^ j ≤ 2 ^ 15 := Nat.pow_le_pow_right (by omega) (by omega)
  omega

set_option maxRecDepth 100000 in
set_option maxHeartbeats 2000000 in
theorem evenC (m : Int) (w : World) : Calls Try.prog 89 #[.int .i64 m] w (QR (.bool (okE m)) w) := by
  have F := Lib.hid (fun w => fromI m 0 30 w)
  by_cases h1 : 0 ≤ m ∧ m ≤ 30
  · rw [decide_eq_true h1] at F
    obtain ⟨a, b⟩ := h1
    have T : Int.tmod m 2 = m % 2 := Int.tmod_eq_emod_of_nonneg a
    by_cases h2 : m % 2 = 0
    · rw [show okE m = true from decide_eq_true ⟨⟨a, b⟩, h2⟩]
      go_enter Try.func89, Try.ntmps89
      go_wp2_with fail
      refine (F.out _).mono ?_
      rintro e w1 ⟨rfl, rfl⟩
      go_wp2_with fail
      go_ret
      exact ⟨by first | rfl | simp [h2] | (rw [T]; simp [h2]), rfl⟩
    · rw [show okE m = false from decide_eq_false (fun h => h2 h.2)]
      go_enter Try.func89, Try.ntmps89
      go_wp2_with fail
      refine (F.out _).mono ?_
      rintro e w1 ⟨rfl, rfl⟩
      go_wp2_with fail
      go_ret
      exact ⟨by first | rfl | simp [h2] | (rw [T]; simp [h2]), rfl⟩
  · rw [decide_eq_false h1] at F
    rw [show okE m = false from decide_eq_false (fun h => h1 h.1)]
    clear h1
    go_enter Try.func89, Try.ntmps89
    go_wp2_with fail
    refine (F.out _).mono ?_
    rintro e w1 ⟨rfl, rfl⟩
    go_wp2_with fail
    go_ret
    exact ⟨rfl, rfl⟩

set_option maxRecDepth 100000 in
set_option maxHeartbeats 2000000 in
theorem ledC (m : Int) (w : World) : Calls Try.prog 44 #[.int .i64 m] w (NewIntsB (ifE m ldL) (okE m) w) := by
  have E := Lib.hid (fun w => evenC m w)
  cases hk : okE m
  · have e1 : ifE m ldL = [] := by unfold ifE; rw [hk]; rfl
    rw [e1]
    rw [hk] at E
    clear hk e1
    go_enter Try.func44, Try.ntmps44
    go_wp2_with fail
    refine (E.out _).mono ?_
    rintro e w1 ⟨rfl, rfl⟩
    go_wp2_with fail
    go_ret2
    exact newInts_empty (Below.refl _ _)
  · rw [hk] at E
    have e1 : ifE m ldL = ldL (m.toNat / 2) := by unfold ifE; rw [hk]; rfl
    rw [e1]
    obtain ⟨K, k, rfl, hK, h15⟩ := okE_mk hk
    rw [show ((K : Int)).toNat / 2 = k by omega]
    have W1 := Lib.hid (fun r (hr : r ≤ k) w => walkC (2 * r) 0 w (by omega))
    have W2 := Lib.hid (fun r (hr : r ≤ k) w => walkC (2 * k - 2 * r) 0 w (by omega))
    have BD := Lib.hid (fun r (hr : r ≤ k) => ldF_bd h15 hr)
    have FS := Lib.hid (fun r (hr : r < k + 1) => fill_set (f := ldF k) (n := k + 1) hr)
    have FZ := Lib.hid (fill_zero (ldF k) (k + 1))
    have FP := Lib.hid (fun r => show ldF k r = wkI (2 * r) 0 * wkI (2 * k - 2 * r) 0 from rfl)
    have FL := Lib.hid (fun j => fill_len (ldF k) (k + 1) j)
    have T2 : Int.tdiv (K : Int) 2 = (k : Int) := by rw [Int.tdiv_eq_ediv_of_nonneg (by omega)]; omega
    have T3 : (K : Int) / 2 = (k : Int) := by omega
    unfold ldL
    obtain ⟨G, hG⟩ : ∃ G : Nat → List Int, G = fun j => fillL (ldF k) (k + 1) j := ⟨_, rfl⟩
    have GD : ∀ j, fillL (ldF k) (k + 1) j = G j := fun j => by rw [hG]
    simp only [GD] at FS FZ FL ⊢
    obtain ⟨V, hV⟩ : ∃ V : Nat → Int, V = ldF k := ⟨_, rfl⟩
    rw [← hV] at BD FS FP
    obtain ⟨n, hn⟩ : ∃ n, n = k + 1 := ⟨_, rfl⟩
    have hn1 : (k : Int) + 1 = (n : Int) := by omega
    rw [← hn] at FS FZ FL ⊢
    obtain ⟨i0, hi, hz0, hz1, hz2⟩ := info_parts intInfo
    have c1' : i0.bytes * n ≤ 281474976710656 := by rw [hz2]; omega
    have c2' : n ≤ maxLen := by unfold maxLen; omega
    have n1 : n ≤ k + 1 := by omega
    have n2 : k + 1 ≤ n := by omega
    have k1 : K ≤ 2 * k := by omega
    have k2 : 2 * k ≤ K := by omega
    clear hk e1 hG GD hV hn hK
    go_enter Try.func44, Try.ntmps44
    go_wp2_with fail
    refine (E.out _).mono ?_
    rintro e w1 ⟨rfl, rfl⟩
    go_wp2_with (at_make; refine wpList_make_full _ rfl _ _ 30 rfl w.heap.size 3 i0 (.int .i64 0) 1 Try.underlying30 hi hz0 hz1 .i64 .i64 _ _ n rfl rfl rfl rfl c1' c2' (Nat.le_refl _) ?_; intro w3 hown hg2)
    have hown1 : w3.ownsRow w.heap.size 3 1 (.slice (some ⟨w.heap.size, 0, none⟩) n n) n (List.replicate n (.int .i64 0)) := by
      have h2 := hown
      rw [show (Value.int .i64 0).cells = #[Value.int .i64 0] from rfl, Nat.mul_one, toList_madeCells_one] at h2
      simpa using h2
    have O2 := OwnV.made hown1
    rw [← FZ.out] at O2
    have HO2 := Lib.hid O2
    have BW := Lib.hid ((Below.refl w.heap.size w).grown hg2 (Nat.le_refl _) (fun q hq => by simp at hq))
    clear hown hown1 hg2 c1' c2' hi hz0 hz1 hz2 O2
    go_wp2_with fail
    go_loopg [16] n (fun gg i wr => ∃ r : Nat, r ≤ n ∧ n - r ≤ gg ∧ i = .int .i64 r ∧ Hid (OwnV wr w.heap.size wr.heap.size (.slice (some ⟨w.heap.size, 0, none⟩) n n) (G r)) ∧ Hid (Below w.heap.size w wr))
    case atStart => exact ⟨0, Nat.zero_le _, by omega, rfl, HO2, BW⟩
    case round =>
      clear HO2 BW
      obtain ⟨r, hr, hgg, rfl, HO, HB⟩ := hrel
      by_cases hlt : r < n
      · have P1 := Lib.hid (W1.out r (by omega))
        have P2 := Lib.hid (W2.out r (by omega))
        have bd := BD.out r (by omega)
        have se := FS.out r hlt
        have fp := FP.out r
        rw [show ((2 * r : Nat) : Int) = 2 * (r : Int) by omega] at P1
        rw [show ((2 * k - 2 * r : Nat) : Int) = (K : Int) - 2 * (r : Int) by omega] at P2
        have xb := wkI_bd (m := 2 * r) (by omega) 0
        have yb := wkI_bd (m := 2 * k - 2 * r) (by omega) 0
        obtain ⟨x, hx⟩ : ∃ x, x = wkI (2 * r) 0 := ⟨_, rfl⟩
        obtain ⟨y, hy⟩ : ∃ y, y = wkI (2 * k - 2 * r) 0 := ⟨_, rfl⟩
        rw [← hx] at P1 fp xb
        rw [← hy] at P2 fp yb
        clear hx hy
        rw [fp] at se bd
        have hold := HO.out.cellGet (j := r) (by rw [FL.out]; exact hlt)
        have hfz := HO.out.frozenGet r
        have O5 := Lib.hid (HO.out.setAt r (x := x * y) (by unfold InI64; omega))
        rw [se] at O5
        have B5 := Lib.hid (HB.out.setCell (p := ⟨w.heap.size, r, none⟩) (Nat.le_refl _) (.int .i64 (x * y)))
        have WR : IntKind.i64.wrap (x * y) = x * y := IntWalk.i64_in _ (by omega)
        have i0' : (0 : Int) ≤ (r : Int) := by omega
        have i1' : (r : Int) < (n : Int) := by omega
        have rk : (r : Int) ≤ (k : Int) := by omega
        clear HO HB se fp
        go_wp2_with fail
        refine (P1.out _).mono ?_
        rintro e w4 ⟨rfl, rfl⟩
        go_wp2_with fail
        refine (P2.out _).mono ?_
        rintro e w4 ⟨rfl, rfl⟩
        go_wp2_with fail
        go_roundg (n - (r + 1))
        case rel => exact ⟨r + 1, by omega, by omega, by go_num, Lib.hid (by have h := O5.out; simpa [World.setCell] using h), B5⟩
        case measure => omega
      · obtain rfl : r = n := by omega
        have FIN : Hid (NewIntsB (G r) true w (.returned (.tuple #[.slice (some ⟨w.heap.size, 0, none⟩) r r, .bool true])) wr) := Lib.hid ⟨_, rfl, HO.out, HB.out⟩
        go_wp2_with fail
        go_ret2
        exact FIN.out

set_option maxRecDepth 100000 in
set_option maxHeartbeats 2000000 in
theorem retC (m : Int) (w : World) : Calls Try.prog 42 #[.int .i64 m] w (NewIntsB (ifE m rtL) (okE m) w) := by
  have E := Lib.hid (fun w => evenC m w)
  cases hk : okE m
  · have e1 : ifE m rtL = [] := by unfold ifE; rw [hk]; rfl
    rw [e1]
    rw [hk] at E
    clear hk e1
    go_enter Try.func42, Try.ntmps42
    go_wp2_with fail
    refine (E.out _).mono ?_
    rintro e w1 ⟨rfl, rfl⟩
    go_wp2_with fail
    go_ret2
    exact newInts_empty (Below.refl _ _)
  · rw [hk] at E
    have e1 : ifE m rtL = rtL (m.toNat / 2) := by unfold ifE; rw [hk]; rfl
    rw [e1]
    obtain ⟨K, k, rfl, hK, h15⟩ := okE_mk hk
    rw [show ((K : Int)).toNat / 2 = k by omega]
    have W1 := Lib.hid (fun r (hr : r ≤ k) w => powC 2 r w (by omega) (pow2_le (k := r) (by omega)) (by omega))
    have W2 := Lib.hid (fun r (hr : r ≤ k) w => chooseC (2 * k - r) k w (by omega) (by omega))
    have BD := Lib.hid (fun r (hr : r ≤ k) => rtF_bd h15 hr)
    have FS := Lib.hid (fun r (hr : r < k + 1) => fill_set (f := rtF k) (n := k + 1) hr)
    have FZ := Lib.hid (fill_zero (rtF k) (k + 1))
    have FP := Lib.hid (fun r => show rtF k r = ((2 ^ r : Nat) : Int) * (chN (2 * k - r) k : Nat) from rfl)
    have FL := Lib.hid (fun j => fill_len (rtF k) (k + 1) j)
    have T2 : Int.tdiv (K : Int) 2 = (k : Int) := by rw [Int.tdiv_eq_ediv_of_nonneg (by omega)]; omega
    have T3 : (K : Int) / 2 = (k : Int) := by omega
    unfold rtL
    obtain ⟨G, hG⟩ : ∃ G : Nat → List Int, G = fun j => fillL (rtF k) (k + 1) j := ⟨_, rfl⟩
    have GD : ∀ j, fillL (rtF k) (k + 1) j = G j := fun j => by rw [hG]
    simp only [GD] at FS FZ FL ⊢
    obtain ⟨V, hV⟩ : ∃ V : Nat → Int, V = rtF k := ⟨_, rfl⟩
    rw [← hV] at BD FS FP
    obtain ⟨n, hn⟩ : ∃ n, n = k + 1 := ⟨_, rfl⟩
    have hn1 : (k : Int) + 1 = (n : Int) := by omega
    rw [← hn] at FS FZ FL ⊢
    obtain ⟨i0, hi, hz0, hz1, hz2⟩ := info_parts intInfo
    have c1' : i0.bytes * n ≤ 281474976710656 := by rw [hz2]; omega
    have c2' : n ≤ maxLen := by unfold maxLen; omega
    have n1 : n ≤ k + 1 := by omega
    have n2 : k + 1 ≤ n := by omega
    have k1 : K ≤ 2 * k := by omega
    have k2 : 2 * k ≤ K := by omega
    clear hk e1 hG GD hV hn hK
    go_enter Try.func42, Try.ntmps42
    go_wp2_with fail
    refine (E.out _).mono ?_
    rintro e w1 ⟨rfl, rfl⟩
    go_wp2_with (at_make; refine wpList_make_full _ rfl _ _ 30 rfl w.heap.size 3 i0 (.int .i64 0) 1 Try.underlying30 hi hz0 hz1 .i64 .i64 _ _ n rfl rfl rfl rfl c1' c2' (Nat.le_refl _) ?_; intro w3 hown hg2)
    have hown1 : w3.ownsRow w.heap.size 3 1 (.slice (some ⟨w.heap.size, 0, none⟩) n n) n (List.replicate n (.int .i64 0)) := by
      have h2 := hown
      rw [show (Value.int .i64 0).cells = #[Value.int .i64 0] from rfl, Nat.mul_one, toList_madeCells_one] at h2
      simpa using h2
    have O2 := OwnV.made hown1
    rw [← FZ.out] at O2
    have HO2 := Lib.hid O2
    have BW := Lib.hid ((Below.refl w.heap.size w).grown hg2 (Nat.le_refl _) (fun q hq => by simp at hq))
    clear hown hown1 hg2 c1' c2' hi hz0 hz1 hz2 O2
    go_wp2_with fail
    go_loopg [16] n (fun gg i wr => ∃ r : Nat, r ≤ n ∧ n - r ≤ gg ∧ i = .int .i64 r ∧ Hid (OwnV wr w.heap.size wr.heap.size (.slice (some ⟨w.heap.size, 0, none⟩) n n) (G r)) ∧ Hid (Below w.heap.size w wr))
    case atStart => exact ⟨0, Nat.zero_le _, by omega, rfl, HO2, BW⟩
    case round =>
      clear HO2 BW
      obtain ⟨r, hr, hgg, rfl, HO, HB⟩ := hrel
      by_cases hlt : r < n
      · have P1 := Lib.hid (W1.out r (by omega))
        have P2 := Lib.hid (W2.out r (by omega))
        have bd := BD.out r (by omega)
        have se := FS.out r hlt
        have fp := FP.out r
        rw [show ((2 * k - r : Nat) : Int) = (K : Int) - (r : Int) by omega] at P2
        have xb : 2 ^ r ≤ 4096000000000000 := pow2_le (k := k) h15 r (by omega)
        have yb := chN_bd (2 * k - r) (by omega) k (by omega)
        obtain ⟨X, hX⟩ : ∃ X, X = 2 ^ r := ⟨_, rfl⟩
        obtain ⟨Y, hY⟩ : ∃ Y, Y = chN (2 * k - r) k := ⟨_, rfl⟩
        rw [← hX] at P1 fp xb
        rw [← hY] at P2 fp yb
        obtain ⟨x, hx⟩ : ∃ x, x = (X : Int) := ⟨_, rfl⟩
        obtain ⟨y, hy⟩ : ∃ y, y = (Y : Int) := ⟨_, rfl⟩
        rw [← hx] at P1 fp
        rw [← hy] at P2 fp
        have xb2 : 0 ≤ x ∧ x ≤ 4096000000000000 := by omega
        have yb2 : 0 ≤ y ∧ y ≤ 155117520 := by omega
        clear hx hy hX hY xb yb
        rw [fp] at se bd
        have hold := HO.out.cellGet (j := r) (by rw [FL.out]; exact hlt)
        have hfz := HO.out.frozenGet r
        have O5 := Lib.hid (HO.out.setAt r (x := x * y) (by unfold InI64; omega))
        rw [se] at O5
        have B5 := Lib.hid (HB.out.setCell (p := ⟨w.heap.size, r, none⟩) (Nat.le_refl _) (.int .i64 (x * y)))
        have WR : IntKind.i64.wrap (x * y) = x * y := IntWalk.i64_in _ (by omega)
        have i0' : (0 : Int) ≤ (r : Int) := by omega
        have i1' : (r : Int) < (n : Int) := by omega
        have rk : (r : Int) ≤ (k : Int) := by omega
        clear HO HB se fp
        go_wp2_with fail
        refine (P1.out _).mono ?_
        rintro e w4 ⟨rfl, rfl⟩
        go_wp2_with fail
        refine (P2.out _).mono ?_
        rintro e w4 ⟨rfl, rfl⟩
        go_wp2_with fail
        go_roundg (n - (r + 1))
        case rel => exact ⟨r + 1, by omega, by omega, by go_num, Lib.hid (by have h := O5.out; simpa [World.setCell] using h), B5⟩
        case measure => omega
      · obtain rfl : r = n := by omega
        have FIN : Hid (NewIntsB (G r) true w (.returned (.tuple #[.slice (some ⟨w.heap.size, 0, none⟩) r r, .bool true])) wr) := Lib.hid ⟨_, rfl, HO.out, HB.out⟩
        go_wp2_with fail
        go_ret2
        exact FIN.out

end Go.Proofs.Ytmidlabgmmejbab
