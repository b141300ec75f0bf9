/- Orders of people that are won by a rule, counted in the model, and CountWins on both sides. -/
import Derived.Test.YtnpiciabpgkiiabWinQ
import Derived.Test.YtnpiciabpgkiiabSecM
import Derived.Test.YtnpiciabpgkiiabRise
namespace Go.Proofs.Ytnpiciabpgkiiab
open Go.RowKit
set_option linter.unusedVariables false
def intsL (L : List Nat) : List Int := L.map fun y : Nat => (y : Int)
theorem intsL_len (L : List Nat) : (intsL L).length = L.length := by simp [intsL]
theorem intsL_app (L : List Nat) (x : Nat) : intsL (L ++ [x]) = intsL L ++ [(x : Int)] := by simp [intsL]
theorem intsL_has (L : List Nat) (x : Nat) : inL (intsL L) (x : Int) = L.contains x := by
  unfold inL intsL
  rw [Bool.eq_iff_iff, decide_eq_true_iff, List.contains_iff_mem]
  constructor
  · intro h
    obtain ⟨y, hy, e⟩ := List.mem_map.1 h
    obtain rfl : y = x := by omega
    exact hy
  · intro h; exact List.mem_map.2 ⟨x, h, rfl⟩
theorem intsL_at {L : List Nat} {i : Nat} (h : i < L.length) : (intsL L).getD i 0 = ((L.getD i 0 : Nat) : Int) := by
  unfold intsL
  rw [List.getD_eq_getElem?_getD, List.getElem?_map, List.getD_eq_getElem?_getD, List.getElem?_eq_getElem h]; rfl
theorem drop_at {L : List Nat} {i : Nat} (h : i < L.length) : L.drop i = L.getD i 0 :: L.drop (i + 1) := by
  rw [List.getD_eq_getElem?_getD, List.getElem?_eq_getElem h]
  exact List.drop_eq_getElem_cons h
theorem won_step {n r i b : Nat} {L : List Nat} (h : i < L.length) : wonG n r (L.drop i) i b = if decide (r ≤ i) && (decide (b ≤ L.getD i 0) || decide (i + 1 = n)) then decide (L.getD i 0 + 1 = n) else wonG n r (L.drop (i + 1)) (i + 1) (max b (L.getD i 0 + 1)) := by
  rw [drop_at h]; rfl
set_option maxHeartbeats 1000000 in
/-- A copy of a row that may be empty. -/
theorem ownP (zs : List Int) (b off cap : Nat) (w : World) (hn : zs.length ≤ 1048576) (h : IntsV w w.heap.size (.slice (some ⟨b, off, none⟩) zs.length cap) zs) :
    Calls Try.prog 95 #[.slice (some ⟨b, off, none⟩) zs.length cap] w (NewInts zs w) := by
  obtain ⟨p, cap2, he, hc, hm, hz, hI⟩ := h
  injection he with e1 e2 e3
  subst e1; subst e3
  clear e2
  have CE : ∀ j u, (zs.map (Value.int .i64))[j]? = some u → (w.alloc (.cells #[] 3)).cell? ((⟨b, off, none⟩ : Addr).add j) = some u := by
    intro j u hu
    rw [List.getElem?_map] at hu
    have hj : j < zs.length := by
      rcases Nat.lt_or_ge j zs.length with h' | h'
      · exact h'
      · rw [List.getElem?_eq_none h'] at hu; cases hu
    obtain ⟨b', off', e, hb', hc'⟩ := hI j hj
    obtain ⟨rfl, rfl⟩ : b = b' ∧ off = off' := by simpa using e
    rw [List.getElem?_eq_getElem hj] at hu
    rw [Addr.add_lit, World.cell?_alloc_lt _ _ _ (by exact hb'), hc']; exact hu
  have HZ := Lib.hid hz
  have HCE := Lib.hid CE
  clear hI hz CE
  obtain ⟨i0, hi, hz0, hz1, hz2⟩ := info_parts intInfo
  have B1 := Lib.hid ((Below.refl w.heap.size w).alloc (Nat.le_refl _) (.cells #[] 3))
  have O1 := Lib.hid (OwnV.empty w w.heap.size (Nat.le_refl _))
  go_enter Try.func95, Try.ntmps95
  go_wp2_with (at_builtin; refine wpList_append_own _ rfl _ _ 53 rfl w.heap.size 3 i0 (.int .i64 0) 1 8 Try.underlying53 hi hz0 hz1 hz2 rfl (by decide) _ 0 [] rfl O1.out.row ⟨b, off, none⟩ zs.length cap (zs.map (.int .i64)) rfl (by simp) HCE.out (fun u hu => by obtain ⟨z, _, rfl⟩ := List.mem_map.1 hu; rfl) (by unfold maxLen; omega) (by omega) (by simp) ?_; intro v' w3 hown3 hgrow3 hnil3)
  have FIN : Hid (NewInts zs w (.returned v') w3) := Lib.hid ⟨v', rfl, ⟨by simpa using hown3, fun q hq => (hown3.lt q hq).2, Nat.le_refl _, HZ.out⟩, B1.out.grown hgrow3 (by simp) (fun q hq => (O1.out.row.lt q hq).1)⟩
  clear hown3 hgrow3 hnil3
  go_ret
  exact FIN.out
set_option maxRecDepth 100000 in
set_option maxHeartbeats 4000000 in
theorem winsS0 (n r : Nat) (hn : n ≤ 7) (L : List Nat) (p : Option Addr) (cap : Nat) (w : World) (hl : L.length = n) (hL : ∀ y ∈ L, y < n) (h : IntsV w w.heap.size (.slice p (intsL L).length cap) (intsL L)) :
    Calls Try.prog 66 #[.int .i64 n, .int .i64 r, .slice p (intsL L).length cap] w (Gives (.int .i64 (winsF n r 0 L : Nat)) w) := by
  obtain ⟨p2, cap2, he, hc, hm, hz, hI⟩ := h
  injection he with e1 e2 e3
  subst e1; subst e3
  have E1 := Lib.hid hI
  have W0 := Lib.hid (show winsF n r 0 L = if wonG n r L 0 0 = true then 1 else 0 from rfl)
  have LL := intsL_len L
  have ST := Lib.hid (fun i b (hi : i < n) => won_step (n := n) (r := r) (i := i) (b := b) (L := L) (by omega))
  have AT := Lib.hid (fun i (hi : i < n) => intsL_at (L := L) (i := i) (by omega))
  have MEM := Lib.hid (fun i (hi : i < n) => hL (L.getD i 0) (by rw [List.getD_eq_getElem?_getD, List.getElem?_eq_getElem (by omega)]; exact List.getElem_mem (by omega)))
  have DN : Hid (wonG n r (L.drop n) n = fun _ => false) := Lib.hid (by rw [List.drop_eq_nil_of_le (by omega)]; rfl)
  have W1 := Lib.hid (show wonG n r L 0 0 = wonG n r (L.drop 0) 0 0 by rw [List.drop_zero])
  have MO := Lib.hid (fun a b w => mostS a b w)
  have t1 : ¬ (((intsL L).length : Int) < (n : Int)) := by omega
  have LH := Lib.hid LL
  have HL2 := Lib.hid hl
  clear hI hz e2 hL LL hl hm hc
  go_enter Try.func66, Try.ntmps66
  go_wp2_with fail
  go_loopg [9, 10] n (fun gg s i wr => ∃ k b : Nat, k ≤ n ∧ n - k ≤ gg ∧ b ≤ n ∧ i = .int .i64 k ∧ s = .int .i64 ((b : Int) - 1) ∧ Hid (wonG n r L 0 0 = wonG n r (L.drop k) k b) ∧ ∃ m, wr = w.drewN m)
  case atStart => exact ⟨0, 0, Nat.zero_le _, by omega, Nat.zero_le _, rfl, rfl, W1, 0, rfl⟩
  case round =>
    clear W1
    obtain ⟨k, b, hk, hgg, hb, rfl, rfl, HW, m, rfl⟩ := hrel
    by_cases hlt : k < n
    · obtain ⟨bb, off, rfl, hbb, hc0⟩ := E1.out.get (i := k) (by rw [LH.out, HL2.out]; exact hlt)
      have hcw : (w.drewN m).cell? ⟨bb, off + k, none⟩ = some (.int .i64 ((intsL L).getD k 0)) := hc0
      rw [AT.out k hlt] at hcw
      have i0 : (0 : Int) ≤ (k : Int) := by omega
      have i1 : (k : Int) < (n : Int) := by omega
      have i2 : (k : Int) < ((intsL L).length : Int) := by rw [LH.out, HL2.out]; omega
      have ym := MEM.out k hlt
      have S1 := Lib.hid (ST.out k b hlt)
      obtain ⟨y, hy⟩ : ∃ y, y = L.getD k 0 := ⟨_, rfl⟩
      rw [← hy] at hcw ym S1
      clear hc0 hy
      have FINY : Hid ((decide (r ≤ k) && (decide (b ≤ y) || decide (k + 1 = n))) = true → wonG n r L 0 0 = decide (y + 1 = n)) := Lib.hid (fun h => by rw [HW.out, S1.out, if_pos h])
      have FINN : Hid ((decide (r ≤ k) && (decide (b ≤ y) || decide (k + 1 = n))) = false → wonG n r L 0 0 = wonG n r (L.drop (k + 1)) (k + 1) (max b (y + 1))) := Lib.hid (fun h => by rw [HW.out, S1.out, h]; rfl)
      have M1 := Lib.hid (show ∀ w, Calls Try.prog 88 #[.int .i64 ((b : Int) - 1), .int .i64 (y : Int)] w fun e w' => e = .returned (.int .i64 (((max b (y + 1) : Nat) : Int) - 1)) ∧ w = w' from fun w => by
        have := MO.out ((b : Int) - 1) (y : Int) w
        rw [show max ((b : Int) - 1) (y : Int) = ((max b (y + 1) : Nat) : Int) - 1 by omega] at this
        exact this)
      have mxb : max b (y + 1) ≤ n := by omega
      generalize max b (y + 1) = b2 at *
      clear S1 HW
      by_cases hr : r ≤ k
      · have t2 : (r : Int) ≤ (k : Int) := by omega
        by_cases hby : b ≤ y
        · have t3 : (b : Int) - 1 < (y : Int) := by omega
          have R1 := Lib.hid (FINY.out (by rw [decide_eq_true hr, decide_eq_true hby]; rfl))
          clear FINY FINN hr hby
          by_cases hy1 : y + 1 = n
          · have R2 := Lib.hid (show winsF n r 0 L = 1 by rw [W0.out, R1.out, decide_eq_true hy1]; rfl)
            have t4 : ((y : Int) == (n : Int) - 1) = true := by simp; omega
            clear R1 hy1
            go_wp2_with fail
            go_ret
            exact ⟨by rw [R2.out]; rfl, below_drewN (Below.refl _ _) m⟩
          · have R2 := Lib.hid (show winsF n r 0 L = 0 by rw [W0.out, R1.out, decide_eq_false hy1]; rfl)
            have t4 : ((y : Int) == (n : Int) - 1) = false := by simp; omega
            clear R1 hy1
            go_wp2_with fail
            go_ret
            exact ⟨by rw [R2.out]; rfl, below_drewN (Below.refl _ _) m⟩
        · have t3 : ¬ (b : Int) - 1 < (y : Int) := by omega
          by_cases hkn : k + 1 = n
          · have t5 : ((k : Int) == (n : Int) - 1) = true := by simp; omega
            have R1 := Lib.hid (FINY.out (by rw [decide_eq_true hr, decide_eq_true hkn, Bool.or_true]; rfl))
            clear FINY FINN hr hby hkn
            by_cases hy1 : y + 1 = n
            · have R2 := Lib.hid (show winsF n r 0 L = 1 by rw [W0.out, R1.out, decide_eq_true hy1]; rfl)
              have t4 : ((y : Int) == (n : Int) - 1) = true := by simp; omega
              clear R1 hy1
              go_wp2_with fail
              go_ret
              exact ⟨by rw [R2.out]; rfl, below_drewN (Below.refl _ _) m⟩
            · have R2 := Lib.hid (show winsF n r 0 L = 0 by rw [W0.out, R1.out, decide_eq_false hy1]; rfl)
              have t4 : ((y : Int) == (n : Int) - 1) = false := by simp; omega
              clear R1 hy1
              go_wp2_with fail
              go_ret
              exact ⟨by rw [R2.out]; rfl, below_drewN (Below.refl _ _) m⟩
          · have t5 : ((k : Int) == (n : Int) - 1) = false := by simp; omega
            have R1 := Lib.hid (FINN.out (by rw [decide_eq_true hr, decide_eq_false hkn, decide_eq_false hby]; rfl))
            clear FINY FINN hr hby hkn
            go_wp2_with fail
            refine (M1.out _).mono ?_
            rintro e w1 ⟨rfl, rfl⟩
            go_wp2_with fail
            go_roundg (n - (k + 1))
            case rel => exact ⟨k + 1, b2, by omega, by omega, mxb, by go_num, rfl, R1, _, rfl⟩
            case measure => omega
      · have t2 : ¬ (r : Int) ≤ (k : Int) := by omega
        have R1 := Lib.hid (FINN.out (by rw [decide_eq_false hr]; rfl))
        clear FINY FINN hr
        go_wp2_with fail
        refine (M1.out _).mono ?_
        rintro e w1 ⟨rfl, rfl⟩
        go_wp2_with fail
        go_roundg (n - (k + 1))
        case rel => exact ⟨k + 1, b2, by omega, by omega, mxb, by go_num, rfl, R1, _, rfl⟩
        case measure => omega
    · have hkn : k = n := by omega
      have R2 := Lib.hid (show winsF n r 0 L = 0 by rw [W0.out, HW.out, hkn, DN.out]; rfl)
      have i1 : ¬ (k : Int) < (n : Int) := by omega
      clear hkn HW
      go_wp2_with fail
      go_ret
      exact ⟨by rw [R2.out]; rfl, below_drewN (Below.refl _ _) m⟩
theorem pow_le7 {n d : Nat} (hn : n ≤ 7) (hd : d ≤ 7) : n ^ d ≤ 823543 :=
  Nat.le_trans (Nat.pow_le_pow_left hn d) (Nat.le_trans (Nat.pow_le_pow_right (by omega) hd) (by decide))
set_option maxRecDepth 100000 in
set_option maxHeartbeats 4000000 in
theorem winsS (n r : Nat) (hn : n ≤ 7) : ∀ (d : Nat) (L : List Nat) (b off cap : Nat) (w : World), L.length + d = n → (∀ y ∈ L, y < n) → IntsV w w.heap.size (.slice (some ⟨b, off, none⟩) (intsL L).length cap) (intsL L) →
    Calls Try.prog 66 #[.int .i64 n, .int .i64 r, .slice (some ⟨b, off, none⟩) (intsL L).length cap] w (Gives (.int .i64 (winsF n r d L : Nat)) w)
  | 0, L, b, off, cap, w, hl, hL, h => winsS0 n r hn L _ cap w (by omega) hL h
  | d + 1, L, b, off, cap, w, hl, hL, h => by
    have IH := Lib.hid (fun (x : Nat) (hx : x < n) (b' off' cap' : Nat) (w' : World) (h' : IntsV w' w'.heap.size (.slice (some ⟨b', off', none⟩) (intsL (L ++ [x])).length cap') (intsL (L ++ [x]))) =>
      winsS n r hn d (L ++ [x]) b' off' cap' w' (by rw [List.length_append]; simp; omega) (fun y hy => by
        rcases List.mem_append.1 hy with h1 | h1
        · exact hL y h1
        · simp at h1; omega) h')
    have lf := intsL_len L
    have l7 : (intsL L).length ≤ 7 := by omega
    have OWN := Lib.hid (fun (w' : World) (hb : Below w.heap.size w w') => ownP (intsL L) b off cap w' (by omega) ((h.below hb).more hb.size))
    have HAS := Lib.hid (fun (x : Nat) (w' : World) (hb : Below w.heap.size w w') => show Calls Try.prog 94 #[.slice (some ⟨b, off, none⟩) (intsL L).length cap, .int .i64 (x : Int)] w' fun e w'' => e = .returned (.bool (L.contains x)) ∧ ∃ m, w'' = w'.drewN m from by
      rw [← intsL_has]; exact hasS (intsL L) (x : Int) _ w.heap.size w' (by omega) (h.below hb))
    have LAPP := Lib.hid (fun x => intsL_app L x)
    have IIN := Lib.hid h
    obtain ⟨F, hF⟩ : ∃ F : Nat → Nat, F = fun x => if L.contains x = true then 0 else winsF n r d (L ++ [x]) := ⟨_, rfl⟩
    have FY := Lib.hid (fun x (hx : L.contains x = true) => show F x = 0 by rw [hF]; exact if_pos hx)
    have FN := Lib.hid (fun x (hx : L.contains x = false) => show F x = winsF n r d (L ++ [x]) by rw [hF]; exact if_neg (by rw [hx]; decide))
    have FB : ∀ x, F x ≤ 823543 := fun x => by
      rw [hF]
      show (if L.contains x = true then 0 else winsF n r d (L ++ [x])) ≤ 823543
      split
      · omega
      · exact Nat.le_trans (winsF_bd n r d _) (pow_le7 hn (by omega))
    have UB := Lib.hid (fun k => upTo_bd FB k)
    have US := Lib.hid (fun k => show upTo F (k + 1) = upTo F k + F k from rfl)
    have FBH := Lib.hid FB
    have W0 := Lib.hid (show winsF n r (d + 1) L = upTo F n by rw [hF]; rfl)
    obtain ⟨i0, hi, hz0, hz1, hz2⟩ := info_parts intInfo
    have t1 : ((intsL L).length : Int) < (n : Int) := by omega
    have L7 := Lib.hid l7
    clear h hL hF FB lf l7 hl
    go_enter Try.func66, Try.ntmps66
    go_wp2_with fail
    go_loopg [7, 8] n (fun gg s i wr => ∃ k : Nat, k ≤ n ∧ n - k ≤ gg ∧ i = .int .i64 k ∧ s = .int .i64 (upTo F k : Nat) ∧ Hid (Below w.heap.size w wr))
    case atStart => exact ⟨0, Nat.zero_le _, by omega, rfl, rfl, Lib.hid (Below.refl _ _)⟩
    case round =>
      obtain ⟨k, hk, hgg, rfl, rfl, HB⟩ := hrel
      by_cases hlt : k < n
      · have i0' : (0 : Int) ≤ (k : Int) := by omega
        have i1 : (k : Int) < (n : Int) := by omega
        have ub := UB.out k
        have ub2 : k * 823543 ≤ 5764801 := by omega
        have fb := FBH.out k
        have us := US.out k
        have H1 := Lib.hid (HAS.out k wr HB.out)
        obtain ⟨s, hs⟩ : ∃ s, s = upTo F k := ⟨_, rfl⟩
        rw [← hs] at ub us ⊢
        have sb : s ≤ 5764801 := by omega
        cases hc : L.contains k
        · rw [hc] at H1
          have E := Lib.hid (show upTo F (k + 1) = s + winsF n r d (L ++ [k]) by rw [us, FN.out k hc])
          rw [FN.out k hc] at fb
          have IHK := Lib.hid (IH.out k hlt)
          have LK := Lib.hid (LAPP.out k)
          rw [LK.out] at IHK
          generalize winsF n r d (L ++ [k]) = wn at *
          clear hc hs us ub ub2
          go_wp2_with fail
          refine H1.out.mono ?_
          rintro e w1 ⟨rfl, m, rfl⟩
          have HB1 := Lib.hid (below_drewN HB.out m)
          go_wp2_with fail
          refine (OWN.out _ HB1.out).mono ?_
          rintro e w2 ⟨u, rfl, o2, b2⟩
          have HB2 := Lib.hid (bl_then HB1.out b2)
          have o3 : OwnV w2 wr.heap.size w2.heap.size u (intsL L) := o2
          have hown := o3.row
          have OWN2 := Lib.hid o3
          have hs2 : wr.heap.size ≤ w2.heap.size := b2.size
          obtain ⟨q2, d2, rfl, hd2, _⟩ := o2.intsV
          have l7 := L7.out
          clear b2 o2 o3
          go_wp2_with (at_builtin; refine wpList_append_own_at _ rfl _ _ 53 rfl wr.heap.size 3 i0 (.int .i64 0) 1 8 Try.underlying53 hi hz0 hz1 hz2 rfl (by decide) _ (intsL L).length ((intsL L).map (.int .i64)) rfl (hown.alloc _) ⟨w2.heap.size, 0, none⟩ 1 1 [.int .i64 k] rfl rfl (cell_one_new _ _ _) (fun x hx => by simp at hx; subst hx; rfl) (by unfold maxLen; omega) (by omega) (by simp; omega) ?_; intro v' w4 hown4 hgrow4 hnil4 hloc4)
          have o5 : OwnV w4 wr.heap.size w4.heap.size v' (intsL L ++ [(k : Int)]) := OWN2.out.app (by unfold InI64; omega) hown4
          obtain ⟨g5, c5, rfl, hg5, _⟩ := o5.shape (by simp)
          have I5 := Lib.hid o5.intsV
          have HB4 := Lib.hid ((HB2.out.alloc HB2.out.size (.cells #[.int .i64 (k : Int)] 3)).grown hgrow4 (by have := HB2.out.size; simp; omega) (fun q hq => by have := (OWN2.out.row.lt q hq).1; have := HB.out.size; omega))
          clear hown4 hgrow4 hnil4 hloc4 o5 hown OWN2
          go_wp2_with fail
          refine (IHK.out _ _ _ _ I5.out).mono ?_
          rintro e w6 ⟨rfl, b6⟩
          have HB6 := Lib.hid (bl_then HB4.out b6)
          clear b6
          go_wp2_with fail
          go_roundg (n - (k + 1))
          case rel => exact ⟨k + 1, by omega, by omega, by go_num, by rw [E.out]; rfl, HB6⟩
          case measure => omega
        · rw [hc] at H1
          have E := Lib.hid (show upTo F (k + 1) = s by rw [us, FY.out k hc]; rfl)
          clear hc hs us ub ub2
          go_wp2_with fail
          refine H1.out.mono ?_
          rintro e w1 ⟨rfl, m, rfl⟩
          have HB1 := Lib.hid (below_drewN HB.out m)
          go_wp2_with fail
          go_roundg (n - (k + 1))
          case rel => exact ⟨k + 1, by omega, by omega, by go_num, by rw [E.out], HB1⟩
          case measure => omega
      · have hkn : k = n := by omega
        have R2 := Lib.hid (show upTo F k = winsF n r (d + 1) L by rw [W0.out, hkn])
        have i1 : ¬ (k : Int) < (n : Int) := by omega
        clear hkn
        go_wp2_with fail
        go_ret
        exact ⟨by rw [R2.out]; rfl, HB.out⟩
def cwOk (n r : Int) : Bool := decide (1 ≤ n ∧ n ≤ 7) && decide (0 ≤ r ∧ r ≤ n - 1)
def cwV (n r : Int) : Value := if cwOk n r = true then .tuple #[.int .i64 (winsF n.toNat r.toNat n.toNat [] : Nat), .bool true] else .tuple #[.int .i64 0, .bool false]
theorem cwV_form (n r : Int) : ∃ x ok, cwV n r = .tuple #[.int .i64 x, .bool ok] := by
  unfold cwV; split <;> exact ⟨_, _, rfl⟩
set_option maxRecDepth 100000 in
set_option maxHeartbeats 2000000 in
theorem countS (n r : Int) (w : World) : Calls Try.prog 32 #[.int .i64 n, .int .i64 r] w (Gives (cwV n r) w) := by
  have F := Lib.hid (fun w => inS n 1 7 w)
  have G := Lib.hid (fun w => inS r 0 (n - 1) w)
  by_cases h1 : 1 ≤ n ∧ n ≤ 7
  · rw [decide_eq_true h1] at F
    obtain ⟨h1a, h1b⟩ := h1
    by_cases h2 : 0 ≤ r ∧ r ≤ n - 1
    · rw [decide_eq_true h2] at G
      rw [show cwV n r = .tuple #[.int .i64 (winsF n.toNat r.toNat n.toNat [] : Nat), .bool true] from if_pos (by unfold cwOk; rw [decide_eq_true ⟨h1a, h1b⟩, decide_eq_true h2]; rfl)]
      obtain ⟨N, rfl⟩ : ∃ N : Nat, n = N := ⟨n.toNat, by omega⟩
      obtain ⟨R, rfl⟩ : ∃ R : Nat, r = R := ⟨r.toNat, by omega⟩
      have WS := Lib.hid (fun b off cap w h => winsS N R (by omega) N [] b off cap w (by simp) (fun y hy => by cases hy) h)
      simp only [Int.toNat_natCast]
      generalize winsF N R N [] = wn at *
      have I0 := Lib.hid ((OwnV.empty w w.heap.size (Nat.le_refl _)).intsV)
      have B0 := Lib.hid ((Below.refl w.heap.size w).alloc (Nat.le_refl _) (.cells #[] 3))
      clear h2
      go_enter Try.func32, Try.ntmps32
      go_wp2_with fail
      refine (F.out _).mono ?_
      rintro e w1 ⟨rfl, rfl⟩
      go_wp2_with fail
      refine (G.out _).mono ?_
      rintro e w2 ⟨rfl, rfl⟩
      go_wp2_with fail
      refine (WS.out _ _ _ _ I0.out).mono ?_
      rintro e w3 ⟨rfl, b3⟩
      have B3 := Lib.hid (bl_then B0.out b3)
      clear b3
      go_wp2_with fail
      go_ret2
      exact ⟨rfl, B3.out⟩
    · rw [decide_eq_false h2] at G
      rw [show cwV n r = .tuple #[.int .i64 0, .bool false] from if_neg (by unfold cwOk; rw [decide_eq_false h2, Bool.and_false]; decide)]
      clear h2
      go_enter Try.func32, Try.ntmps32
      go_wp2_with fail
      refine (F.out _).mono ?_
      rintro e w1 ⟨rfl, rfl⟩
      go_wp2_with fail
      refine (G.out _).mono ?_
      rintro e w2 ⟨rfl, rfl⟩
      go_wp2_with fail
      go_ret2
      exact ⟨rfl, Below.refl _ _⟩
  · rw [decide_eq_false h1] at F
    rw [show cwV n r = .tuple #[.int .i64 0, .bool false] from if_neg (by unfold cwOk; rw [decide_eq_false h1, Bool.false_and]; decide)]
    clear h1
    go_enter Try.func32, Try.ntmps32
    go_wp2_with fail
    refine (F.out _).mono ?_
    rintro e w1 ⟨rfl, rfl⟩
    go_wp2_with fail
    go_ret2
    exact ⟨rfl, Below.refl _ _⟩
theorem fac_bd : ∀ n : Nat, n < 8 → 1 ≤ facN n ∧ facN n ≤ 5040 := by decide
set_option maxRecDepth 100000 in
set_option maxHeartbeats 2000000 in
theorem countI (n r : Int) (w : World) : Calls Try.prog 33 #[.int .i64 n, .int .i64 r] w (Gives (cwV n r) w) := by
  have CH := Lib.hid (fun w => secChI n r w)
  cases hs : secOk n r
  · rw [show scV n r = .tuple #[.agg #[.int .i64 0, .int .i64 0], .bool false] from if_neg (by rw [hs]; decide)] at CH
    rw [show cwV n r = .tuple #[.int .i64 0, .bool false] from if_neg (by
      intro h
      unfold cwOk at h
      rw [Bool.and_eq_true, decide_eq_true_iff, decide_eq_true_iff] at h
      unfold secOk at hs
      rw [decide_eq_true (by omega), decide_eq_true h.2] at hs
      cases hs)]
    clear hs
    go_enter Try.func33, Try.ntmps33
    go_wp2_with fail
    refine (CH.out _).mono ?_
    rintro e w1 ⟨rfl, b1⟩
    have B1 := Lib.hid (b1.alloc b1.size (.cells #[.int .i64 0, .int .i64 0] 32))
    clear b1
    go_wp2_with fail
    go_ret2
    exact ⟨rfl, B1.out⟩
  · have hs2 := hs
    unfold secOk at hs2
    rw [Bool.and_eq_true, decide_eq_true_iff, decide_eq_true_iff] at hs2
    obtain ⟨⟨h1a, h1b⟩, h2a, h2b⟩ := hs2
    rw [show scV n r = .tuple #[.agg #[.int .i64 (scN n.toNat r.toNat), .int .i64 (scD n.toNat r.toNat)], .bool true] from if_pos hs] at CH
    by_cases h7 : n ≤ 7
    · rw [show cwV n r = .tuple #[.int .i64 (winsF n.toNat r.toNat n.toNat [] : Nat), .bool true] from if_pos (by unfold cwOk; rw [decide_eq_true ⟨h1a, h7⟩, decide_eq_true ⟨h2a, h2b⟩]; rfl)]
      obtain ⟨N, rfl⟩ : ∃ N : Nat, n = N := ⟨n.toNat, by omega⟩
      obtain ⟨R, rfl⟩ : ∃ R : Nat, r = R := ⟨r.toNat, by omega⟩
      simp only [Int.toNat_natCast] at CH ⊢
      have EQ := Lib.hid (wins_eq (n := N) (r := R) (by omega) (by omega))
      have wb := Nat.le_trans (winsF_bd N R N []) (pow_le7 (n := N) (d := N) (by omega) (by omega))
      obtain ⟨_, pb, qb⟩ := sc_ok N (by omega) R (by omega) (by omega)
      have FB := Lib.hid (fun k (hk : k ≤ N) => fac_bd k (by omega))
      have FS := Lib.hid (fun k => show facN (k + 1) = facN k * (k + 1) from rfl)
      generalize scN N R = p at *
      generalize scD N R = q at *
      generalize winsF N R N [] = wn at *
      clear hs h1b
      go_enter Try.func33, Try.ntmps33
      go_wp2_with fail
      refine (CH.out _).mono ?_
      rintro e w1 ⟨rfl, b1⟩
      have B1 := Lib.hid (b1.alloc b1.size (.cells #[.int .i64 p, .int .i64 q] 32))
      have Q1 := Lib.hid (QBox.new w1 p q)
      clear b1
      go_wp2_with fail
      obtain ⟨wa, hwa⟩ : ∃ wa, wa = w1.alloc (.cells #[.int .i64 p, .int .i64 q] 32) := ⟨_, rfl⟩
      rw [← hwa] at B1 Q1 ⊢
      clear hwa
      go_loopg [8, 23] N (fun gg s i wr => ∃ k : Nat, k ≤ N ∧ N - k ≤ gg ∧ i = .int .i64 k ∧ s = .int .i64 (facN k : Nat) ∧ wr = wa)
      case atStart => exact ⟨0, Nat.zero_le _, by omega, rfl, rfl, rfl⟩
      case round =>
        obtain ⟨k, hk, hgg, rfl, rfl, rfl⟩ := hrel
        have fb := FB.out k hk
        by_cases hlt : k < N
        · have i0 : (0 : Int) ≤ (k : Int) := by omega
          have i1 : (k : Int) < (N : Int) := by omega
          have fb1 := FB.out (k + 1) (by omega)
          have fs := FS.out k
          have E := Lib.hid (show ((facN k : Nat) : Int) * ((k : Int) + 1) = (facN (k + 1) : Nat) by rw [fs, Int.natCast_mul]; rfl)
          have WR : IntKind.i64.wrap (((facN k : Nat) : Int) * ((k : Int) + 1)) = ((facN k : Nat) : Int) * ((k : Int) + 1) := IntWalk.i64_in _ (by rw [E.out]; omega)
          clear fs fb1
          obtain ⟨s, hs⟩ : ∃ s, s = facN k := ⟨_, rfl⟩
          rw [← hs] at E WR fb ⊢
          clear hs
          go_wp2_with fail
          go_roundg (N - (k + 1))
          case rel => exact ⟨k + 1, by omega, by omega, by go_num, by rw [E.out], rfl⟩
          case measure => omega
        · have hkN : k = N := by omega
          have i1 : ¬ (k : Int) < (N : Int) := by omega
          rw [← hkN] at EQ
          obtain ⟨⟨x0, x1⟩, _, _⟩ := Q1.out.cells
          obtain ⟨s, hs⟩ : ∃ s, s = facN k := ⟨_, rfl⟩
          rw [← hs] at EQ fb ⊢
          have m0 : 0 ≤ (s : Int) * p := Int.mul_nonneg (by omega) pb.1
          have m1 : (s : Int) * p ≤ 5040 * 25200 := Int.mul_le_mul (by omega) pb.2 pb.1 (by omega)
          have WR : IntKind.i64.wrap ((s : Int) * p) = (s : Int) * p := IntWalk.i64_in _ (by omega)
          have WT : IntKind.i64.wrap (((s : Int) * p).tdiv q) = (wn : Int) := by rw [EQ.out]; exact IntWalk.i64_in _ (by omega)
          have q0 : q ≠ 0 := by omega
          have qz : (q == 0) = false := by simp; omega
          clear hs hkN
          go_wp2_with fail
          go_ret2
          exact ⟨rfl, B1.out⟩
    · rw [show cwV n r = .tuple #[.int .i64 0, .bool false] from if_neg (by unfold cwOk; rw [decide_eq_false (fun h => h7 h.2), Bool.false_and]; decide)]
      have h7' : (7 : Int) < n := by omega
      obtain ⟨p, hp⟩ : ∃ p, p = scN n.toNat r.toNat := ⟨_, rfl⟩
      obtain ⟨q, hq⟩ : ∃ q, q = scD n.toNat r.toNat := ⟨_, rfl⟩
      rw [← hp, ← hq] at CH
      clear hs h7 hp hq
      go_enter Try.func33, Try.ntmps33
      go_wp2_with fail
      refine (CH.out _).mono ?_
      rintro e w1 ⟨rfl, b1⟩
      have B1 := Lib.hid (b1.alloc b1.size (.cells #[.int .i64 p, .int .i64 q] 32))
      clear b1
      go_wp2_with fail
      go_ret2
      exact ⟨rfl, B1.out⟩
end Go.Proofs.Ytnpiciabpgkiiab
