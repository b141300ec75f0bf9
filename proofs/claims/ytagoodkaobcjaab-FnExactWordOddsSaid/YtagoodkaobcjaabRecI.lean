/- RecordCounts in the program. -/
import Derived.Test.YtagoodkaobcjaabMatI
import Derived.Test.YtagoodkaobcjaabRecP
namespace Go.Proofs.Ytagoodkaobcjaab
open Go.RowKit
set_option linter.unusedVariables false
theorem rec_made {w3 : World} {lo g n : Nat} (hown : w3.ownsRow lo 3 1 (.slice (some ⟨g, 0, none⟩) n n) n (madeCells (Value.int .i64 0).cells (n * 1)).toList) : w3.ownsRow lo 3 1 (.slice (some ⟨g, 0, none⟩) n n) n (List.replicate n (.int .i64 0)) := by
  have h2 := hown
  rw [show (Value.int .i64 0).cells = #[Value.int .i64 0] from rfl, Nat.mul_one, toList_madeCells_one] at h2
  simpa using h2
theorem rep_at {n j : Nat} (h : j < n) : (List.replicate n (0 : Int)).getD j 0 = 0 := by
  rw [List.getD_eq_getElem?_getD, List.getElem?_replicate, if_pos h]
  rfl
set_option maxRecDepth 100000 in
set_option maxHeartbeats 4000000 in
theorem recC (m : Int) (w : World) : Calls Try.prog 46 #[.int .i64 m] w (NewIntsB (ifC m reL) (okC 0 m) w) := by
  have E := Lib.hid (fun w => fromI m 0 12 w)
  rw [show decide (0 ≤ m ∧ m ≤ 12) = okC 0 m from rfl] at E
  cases hk : okC 0 m
  · have e1 : ifC m reL = [] := by unfold ifC; rw [hk]; rfl
    rw [e1]
    rw [hk] at E
    clear hk e1
    go_enter Try.func46, Try.ntmps46
    go_wp2_with fail
    refine (E.out _).mono ?_
    rintro e w1 ⟨rfl, rfl⟩
    go_wp2_with fail
    go_ret2
    exact newInts_empty (Below.refl _ _)
  · rw [hk] at E
    have e1 : ifC m reL = reL m.toNat := by unfold ifC; rw [hk]; rfl
    rw [e1]
    obtain ⟨k, rfl, h15⟩ := okC_mk hk
    rw [Int.toNat_natCast]
    obtain ⟨n, hn⟩ : ∃ n, n = k + 1 := ⟨_, rfl⟩
    have FE := Lib.hid (show reL k = preL (reF k) n by rw [hn]; rfl)
    rw [FE.out]
    have BD := Lib.hid (fun c i (hc : c ≤ 12) (hi : i ≤ 13) => re_bd c (by omega) i (by omega))
    have BD2 := Lib.hid (fun c i (hc : c ≤ 12) (hi : i ≤ 13) => re_bd2 c (by omega) i (by omega))
    have ST := Lib.hid (re_start n)
    have US := Lib.hid (fun c (hc : c ≤ 12) => up_start (c := c) (n := n) (by omega) (by omega))
    have UA := Lib.hid (fun c r (h : r < n) => up_at (c := c) h)
    have UB := Lib.hid (fun c r (h : r + 1 < n) => up_at1 (c := c) h)
    have UT := Lib.hid (fun c r => up_set (c := c) (r := r) (n := n))
    have UE := Lib.hid (fun c => up_end (c := c) (n := n))
    have RS := Lib.hid (fun c r => show reF (c + 1) (r + 1) = reF c (r + 1) * (c : Int) + reF c r from rfl)
    have UL := Lib.hid (fun c r => pre_len (upF c r) n)
    have RL := Lib.hid (fun c => pre_len (reF c) n)
    obtain ⟨R, hR⟩ : ∃ R : Nat → Nat → Int, R = reF := ⟨_, rfl⟩
    obtain ⟨U, hU⟩ : ∃ U : Nat → Nat → Nat → Int, U = upF := ⟨_, rfl⟩
    rw [← hR] at BD BD2 ST US UA UB UT UE RS RL ⊢
    rw [← hU] at US UA UB UT UE UL
    have hn1 : (k : Int) + 1 = (n : Int) := by omega
    obtain ⟨i0, hi, hz0, hz1, hz2⟩ := info_parts intInfo
    have c1' : i0.bytes * n ≤ 281474976710656 := by rw [hz2]; omega
    have c2' : n ≤ maxLen := by unfold maxLen; omega
    have n1 : n ≤ k + 1 := by omega
    have n2 : k + 1 ≤ n := by omega
    have n3 : (0 : Int) < (n : Int) := by omega
    have n4 : 0 < n := by omega
    clear hk e1 FE hR hU hn
    go_enter Try.func46, Try.ntmps46
    go_wp2_with fail
    refine (E.out _).mono ?_
    rintro e w1 ⟨rfl, rfl⟩
    go_wp2_with (at_make; refine wpList_make_full _ rfl _ _ 22 rfl w.heap.size 3 i0 (.int .i64 0) 1 Try.underlying22 hi hz0 hz1 .i64 .i64 _ _ n rfl rfl rfl rfl c1' c2' (Nat.le_refl _) ?_; intro w3 hown hg2; (have O2 := OwnV.made (rec_made hown)); (have hold0 := O2.cellGet (j := 0) (by rw [List.length_replicate]; exact n4)); (have hfz0 := O2.frozenGet 0); (have hold0 : w3.cell? ⟨w.heap.size, 0, none⟩ = some (.int .i64 0) := (by rw [hold0, rep_at n4])))
    have O3 := O2.setAt 0 (x := 1) (by unfold InI64; omega)
    rw [ST.out] at O3
    have HO2 : Hid (OwnV (w3.setCell ⟨w.heap.size, 0, none⟩ (.int .i64 1)) w.heap.size (w3.setCell ⟨w.heap.size, 0, none⟩ (.int .i64 1)).heap.size (.slice (some ⟨w.heap.size, 0, none⟩) n n) (preL (R 0) n)) := Lib.hid (by simpa [World.setCell] using O3)
    have BW := Lib.hid (((Below.refl w.heap.size w).grown hg2 (Nat.le_refl _) (fun q hq => by simp at hq)).setCell (p := ⟨w.heap.size, 0, none⟩) (Nat.le_refl _) (.int .i64 1))
    clear hown hg2 c1' c2' hi hz0 hz1 hz2 O2 O3
    clear hold0 hfz0
    go_loopg [17] k (fun gg i wr => ∃ c : Nat, c ≤ k ∧ k - c ≤ gg ∧ i = .int .i64 c ∧ Hid (OwnV wr w.heap.size wr.heap.size (.slice (some ⟨w.heap.size, 0, none⟩) n n) (preL (R c) n)) ∧ Hid (Below w.heap.size w wr))
    case atStart => exact ⟨0, Nat.zero_le _, by omega, rfl, HO2, BW⟩
    case round =>
      clear HO2 BW
      obtain ⟨c, hc, hgg, rfl, HO, HB⟩ := hrel
      by_cases hlt : c < k
      · have c1 : (c : Int) < (k : Int) := by omega
        have HO1 : Hid (OwnV wr w.heap.size wr.heap.size (.slice (some ⟨w.heap.size, 0, none⟩) n n) (preL (U c (c + 1)) n)) := Lib.hid (by have h := HO.out; rw [US.out c (by omega)] at h; exact h)
        clear HO
        go_wp2_with fail
        go_loopg [6] (c + 1) (fun gg i wr => ∃ r : Nat, r ≤ c + 1 ∧ r ≤ gg ∧ i = .int .i64 r ∧ Hid (OwnV wr w.heap.size wr.heap.size (.slice (some ⟨w.heap.size, 0, none⟩) n n) (preL (U c r) n)) ∧ Hid (Below w.heap.size w wr))
        case atStart => exact ⟨c + 1, Nat.le_refl _, Nat.le_refl _, by go_num, HO1, HB⟩
        case round =>
          clear HO1 HB
          obtain ⟨r, hr, hgg2, rfl, HO, HB⟩ := hrel
          by_cases hr0 : 0 < r
          · obtain ⟨q, hq⟩ : ∃ q, r = q + 1 := ⟨r - 1, by omega⟩
            have hold := HO.out.cellGet (j := r) (by rw [UL.out]; omega)
            have hold2 := HO.out.cellGet (j := q) (by rw [UL.out]; omega)
            have hfz := HO.out.frozenGet r
            rw [UA.out c r (by omega)] at hold
            rw [hq, UB.out c q (by omega)] at hold2
            have b1 := BD.out c r (by omega) (by omega)
            have b2 := BD2.out c r (by omega) (by omega)
            have b3 := BD.out c q (by omega) (by omega)
            have b4 := BD.out (c + 1) r (by omega) (by omega)
            have ut := UT.out c q
            have rs := RS.out c q
            rw [← hq] at ut rs
            obtain ⟨x, hx⟩ : ∃ x, x = R c r := ⟨_, rfl⟩
            obtain ⟨y, hy⟩ : ∃ y, y = R c q := ⟨_, rfl⟩
            rw [← hx] at hold b1 b2 ut rs
            rw [← hy] at hold2 b3 ut rs
            rw [rs] at b4
            obtain ⟨p, hp⟩ : ∃ p, p = x * (c : Int) := ⟨_, rfl⟩
            rw [← hp] at b2 ut b4
            have O5 : Hid (OwnV (wr.setCell ⟨w.heap.size, r, none⟩ (.int .i64 (p + y))).drew w.heap.size (wr.setCell ⟨w.heap.size, r, none⟩ (.int .i64 (p + y))).drew.heap.size (.slice (some ⟨w.heap.size, 0, none⟩) n n) (preL (U c q) n)) := Lib.hid (by
              have h := (HO.out.setAt r (x := p + y) (by unfold InI64; omega)).below (below_drew (Below.refl _ _))
              rw [ut] at h
              simpa [World.setCell] using h)
            have B5 := Lib.hid (HB.out.setCell (p := ⟨w.heap.size, r, none⟩) (Nat.le_refl _) (.int .i64 (p + y)))
            have W0 : IntKind.i64.wrap ((r : Int) - 1) = (q : Int) := by rw [show (r : Int) - 1 = (q : Int) by omega]; exact IntWalk.i64_in _ (by omega)
            have W1 : IntKind.i64.wrap (x * (c : Int)) = p := by rw [← hp]; exact IntWalk.i64_in _ (by omega)
            have W2 : IntKind.i64.wrap (p + y) = p + y := IntWalk.i64_in _ (by omega)
            have j1 : (r : Int) < (n : Int) := by omega
            have j2 : (q : Int) < (n : Int) := by omega
            have j3 : (0 : Int) < (r : Int) := by omega
            have j4 : 0 ≤ (q : Int) := by omega
            have RQ := Lib.hid (show (r : Int) - 1 = (q : Int) by omega)
            have q1 : q + 1 ≤ r := by omega
            have q2 : r ≤ q + 1 := by omega
            clear HO HB ut rs hp hx hy hq
            go_wp2_with fail
            go_region
            go_wp2_with fail
            go_roundg q
            case rel => exact ⟨q, by omega, by omega, by first | rfl | (rw [RQ.out]), O5, Lib.hid (below_drew B5.out)⟩
            case measure => omega
          · obtain rfl : r = 0 := by omega
            have hold := HO.out.cellGet (j := 0) (by rw [UL.out]; omega)
            have hfz := HO.out.frozenGet 0
            rw [UA.out c 0 (by omega)] at hold
            have b2 := BD2.out c 0 (by omega) (by omega)
            have b1 := BD.out c 0 (by omega) (by omega)
            have ue := UE.out c
            obtain ⟨x, hx⟩ : ∃ x, x = R c 0 := ⟨_, rfl⟩
            rw [← hx] at hold b1 b2 ue
            obtain ⟨p, hp⟩ : ∃ p, p = x * (c : Int) := ⟨_, rfl⟩
            rw [← hp] at b2 ue
            have O5 : Hid (OwnV (wr.setCell ⟨w.heap.size, 0, none⟩ (.int .i64 p)) w.heap.size (wr.setCell ⟨w.heap.size, 0, none⟩ (.int .i64 p)).heap.size (.slice (some ⟨w.heap.size, 0, none⟩) n n) (preL (R (c + 1)) n)) := Lib.hid (by
              have h := (HO.out.setAt 0 (x := p) (by unfold InI64; omega))
              rw [ue] at h
              simpa [World.setCell] using h)
            have B5 := Lib.hid (HB.out.setCell (p := ⟨w.heap.size, 0, none⟩) (Nat.le_refl _) (.int .i64 p))
            have W1 : IntKind.i64.wrap (x * (c : Int)) = p := by rw [← hp]; exact IntWalk.i64_in _ (by omega)
            clear HO HB ue hp hx
            go_wp2_with fail
            go_roundg (k - (c + 1))
            case rel => exact ⟨c + 1, by omega, by omega, by go_num, O5, B5⟩
            case measure => omega
      · obtain rfl : c = k := by omega
        have FIN : Hid (NewIntsB (preL (R c) n) true w (.returned (.tuple #[.slice (some ⟨w.heap.size, 0, none⟩) n n, .bool true])) wr) := Lib.hid ⟨_, rfl, HO.out, HB.out⟩
        go_wp2_with fail
        go_ret2
        exact FIN.out
end Go.Proofs.Ytagoodkaobcjaab
