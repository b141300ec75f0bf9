/- TeamWins in the model. -/
import Derived.Test.YtligidmkhbcpmaaTmwP
import Derived.Test.YtligidmkhbcpmaaOvlN
namespace Go.Proofs.Ytligidmkhbcpmaa
open Go.RowKit
set_option linter.unusedVariables false
set_option maxRecDepth 100000 in
set_option maxHeartbeats 8000000 in
theorem untilS9 (bs zs : List Int) (p q : Option Addr) (c d : Nat) (w : World) (h1 : 1 ≤ bs.length) (hb : bs.length ≤ 8) (hz : zs.length ≤ 8) (hc : bs.length ≤ c) (hd : zs.length ≤ d) (hp : SubB w p bs) (hq : SubB w q zs) :
    Calls Try.prog 51 #[.slice p bs.length c, .slice q zs.length d] w fun e w' => e = .returned (.slice q (utL bs zs).length d) ∧ ∃ k, w' = w.drewN k := by
  have EN : Hid (∀ m k, bs.length ≤ m → m ≤ zs.length → Calls Try.prog 62 #[.slice q m d, .slice p bs.length c, .int .i64 (bs.length : Nat)] (w.drewN k) fun e w' => e = .returned (.bool (decide ((zs.take m).drop (m - bs.length) = bs))) ∧ ∃ n, w' = w.drewN n) := Lib.hid (fun m k a1 a2 => by
    have lt : (zs.take m).length = m := by rw [List.length_take]; omega
    have h := endsW (zs.take m) bs q p d c bs.length (w.drewN k) (by omega) (by omega) (by omega) h1 (by omega) (Nat.le_refl _) hc (hq.take.drewN k) (hp.drewN k)
    rw [lt, List.take_length] at h
    refine h.mono ?_
    rintro e w' ⟨he, n, hn⟩
    exact ⟨he, k + n, by rw [hn, World.drewN_drewN]⟩)
  obtain ⟨T, hT⟩ : ∃ T, T = utM bs zs bs.length := ⟨_, rfl⟩
  rw [utL_len, ← hT]
  have F1 := Lib.hid (fun m (h2 : m ≤ zs.length) (h3 : utM bs zs m = T) (h4 : (zs.take m).drop (m - bs.length) = bs) => show T = m by rw [← h3, utM_at h2, if_pos h4])
  have F2 := Lib.hid (fun m (h2 : zs.length < m) (h3 : utM bs zs m = T) => show T = zs.length by rw [← h3, utM_end h2])
  have FN := Lib.hid (fun m (h2 : m ≤ zs.length) (h3 : utM bs zs m = T) (h4 : ¬ (zs.take m).drop (m - bs.length) = bs) => show utM bs zs (m + 1) = T by rw [utM_at h2, if_neg h4] at h3; exact h3)
  have UT := Lib.hid hT.symm
  have QS : Hid (0 < zs.length → ∃ b off, q = some ⟨b, off, none⟩) := Lib.hid (fun h => by obtain ⟨b, off, e, _⟩ := hq.at_ h; exact ⟨b, off, e⟩)
  obtain ⟨U, hU⟩ : ∃ U : Nat → Nat, U = utM bs zs := ⟨_, rfl⟩
  rw [← hU] at F1 F2 FN UT
  obtain ⟨n, hn⟩ : ∃ n, n = zs.length := ⟨_, rfl⟩
  obtain ⟨l, hl⟩ : ∃ l, l = bs.length := ⟨_, rfl⟩
  rw [← hn] at EN F1 F2 FN QS hz hd ⊢
  rw [← hl] at EN F1 FN UT h1 hb ⊢
  clear hT hU hq hp hn hl
  go_enter Try.func51, Try.ntmps51
  go_wp2_with fail
  go_loopg [5] (n + 1) (fun gg t wr => ∃ m : Nat, l ≤ m ∧ n + 1 - m ≤ gg ∧ t = .int .i64 (m : Int) ∧ Hid (U m = T) ∧ ∃ k, wr = w.drewN k)
  case atStart => exact ⟨l, Nat.le_refl _, by omega, rfl, UT, 0, rfl⟩
  case round =>
    clear UT
    obtain ⟨m, hlo, hgg, rfl, HT, kk, rfl⟩ := hrel
    by_cases hlt : m ≤ n
    · obtain ⟨b, off, rfl⟩ := QS.out (by omega)
      have t1 : (m : Int) ≤ (n : Int) := by omega
      have t2 : (m : Int) ≤ (d : Int) := by omega
      have t3 : 0 ≤ (m : Int) := by omega
      have t4 : ¬ d = 0 := by omega
      have t5 : (n : Int) ≤ (d : Int) := by omega
      have ENm := Lib.hid (fun k => EN.out m k hlo hlt)
      have G1 := Lib.hid (F1.out m hlt HT.out)
      have GN := Lib.hid (FN.out m hlt HT.out)
      obtain ⟨bb, hbb⟩ : ∃ bb, bb = decide ((zs.take m).drop (m - l) = bs) := ⟨_, rfl⟩
      rw [← hbb] at ENm
      have GT : Hid (bb = true → T = m) := Lib.hid (fun h => G1.out (of_decide_eq_true (hbb.symm.trans h)))
      have GF : Hid (bb = false → U (m + 1) = T) := Lib.hid (fun h => GN.out (of_decide_eq_false (hbb.symm.trans h)))
      clear hbb G1 GN EN QS F1 F2 FN HT
      go_wp2_with fail
      refine (ENm.out _).mono ?_
      rintro e w5 ⟨rfl, k5, rfl⟩
      cases bb
      · have OF := Lib.hid (GF.out rfl)
        clear GF GT
        go_wp2_with fail
        go_roundg (n + 1 - (m + 1))
        case rel => exact ⟨m + 1, by omega, by omega, by go_num, OF, k5, rfl⟩
        case measure => omega
      · have OT := Lib.hid (GT.out rfl)
        clear GF GT
        go_wp2_with fail
        go_ret
        exact ⟨by rw [OT.out]; rfl, k5, rfl⟩
    · have t1 : ¬ (m : Int) ≤ (n : Int) := by omega
      have OE := Lib.hid (F2.out m (by omega) HT.out)
      clear HT F1 F2 FN EN QS
      go_wp2_with fail
      go_ret
      exact ⟨by rw [OE.out]; rfl, kk, rfl⟩
set_option maxRecDepth 100000 in
set_option maxHeartbeats 8000000 in
theorem twS (f : Int) (bs zs : List Int) (v u : Value) (w : World) (hf : InI64 f) (hn : bs.length ≤ 1048576) (hm : zs.length ≤ 1048576) (h : IntsV w w.heap.size v bs) (hu : IntsV w w.heap.size u zs) :
    Calls Try.prog 32 #[.int .i64 f, v, u] w (Gives (.tuple #[.int .i64 (tmV f bs zs), .bool (tmOk f bs zs)]) w) := by
  have WC := Lib.hid (wordS f bs v w.heap.size w hf hn h)
  have TC := Lib.hid (throwsS f zs u w.heap.size w hf hm hu)
  have TO := Lib.hid (show tmOk f bs zs = (wdOk f bs && (decide (zs.length ≤ 8) && facOk f zs)) from rfl)
  obtain ⟨p, c, rfl, hc, SP⟩ := SubB.intsV h
  obtain ⟨q, d, rfl, hd, SQ⟩ := SubB.intsV hu
  clear h hu
  cases hv : wdOk f bs
  · have ET : tmOk f bs zs = false := by rw [TO.out, hv]; rfl
    rw [show tmV f bs zs = 0 from if_neg (by rw [ET]; decide), ET]
    rw [hv] at WC
    clear hv TO ET
    go_enter Try.func32, Try.ntmps32
    go_wp2_with fail
    refine WC.out.mono ?_
    rintro e w1 ⟨rfl, rfl⟩
    go_wp2_with fail
    go_ret2
    exact ⟨rfl, Below.refl _ _⟩
  cases hs : facOk f zs
  · have ET : tmOk f bs zs = false := by rw [TO.out, hs, Bool.and_false, Bool.and_false]
    rw [show tmV f bs zs = 0 from if_neg (by rw [ET]; decide), ET]
    rw [hv] at WC
    rw [hs] at TC
    clear hv hs TO ET
    go_enter Try.func32, Try.ntmps32
    go_wp2_with fail
    refine WC.out.mono ?_
    rintro e w1 ⟨rfl, rfl⟩
    go_wp2_with fail
    refine TC.out.mono ?_
    rintro e w2 ⟨rfl, rfl⟩
    go_wp2_with fail
    go_ret2
    exact ⟨rfl, Below.refl _ _⟩
  rw [hv] at WC
  rw [hs] at TC
  by_cases hl : zs.length ≤ 8
  rotate_left
  · have ET : tmOk f bs zs = false := by rw [TO.out, decide_eq_false hl, Bool.false_and, Bool.and_false]
    rw [show tmV f bs zs = 0 from if_neg (by rw [ET]; decide), ET]
    have i1 : (8 : Int) < (zs.length : Int) := by omega
    clear hv hs TO ET hl
    go_enter Try.func32, Try.ntmps32
    go_wp2_with fail
    refine WC.out.mono ?_
    rintro e w1 ⟨rfl, rfl⟩
    go_wp2_with fail
    refine TC.out.mono ?_
    rintro e w2 ⟨rfl, rfl⟩
    go_wp2_with fail
    go_ret2
    exact ⟨rfl, Below.refl _ _⟩
  have ET : tmOk f bs zs = true := by rw [TO.out, hv, hs, decide_eq_true hl]; rfl
  rw [show tmV f bs zs = (wsN f.toNat (utL bs zs) bs : Nat) from if_pos ET, ET]
  obtain ⟨⟨f1, f2⟩, ⟨l1, l2⟩, hfb⟩ := wd_bd hv
  obtain ⟨K, rfl⟩ : ∃ K : Nat, f = K := ⟨f.toNat, by omega⟩
  rw [Int.toNat_natCast]
  have UC := Lib.hid (untilS9 bs zs p q c d w (by omega) (by omega) hl hc hd SP SQ)
  have WN := Lib.hid (fun k => sumS9 K (utL bs zs) bs q p d c (w.drewN k) (by omega) (Nat.le_trans (utL_le _ _) hl) (by omega) (Nat.le_trans (utL_le _ _) hd) hc (SubB.drewN (show SubB w q (utL bs zs) from SQ.take) k) (SP.drewN k))
  obtain ⟨r, hr⟩ : ∃ r : Int, r = (wsN K (utL bs zs) bs : Nat) := ⟨_, rfl⟩
  rw [← hr] at WN ⊢
  obtain ⟨y, hy⟩ : ∃ y, y = (utL bs zs).length := ⟨_, rfl⟩
  rw [← hy] at UC WN
  have i1 : ¬ (8 : Int) < (zs.length : Int) := by omega
  clear hv hs TO ET hr hy hfb SP SQ hn hm hf
  go_enter Try.func32, Try.ntmps32
  go_wp2_with fail
  refine WC.out.mono ?_
  rintro e w1 ⟨rfl, rfl⟩
  go_wp2_with fail
  refine TC.out.mono ?_
  rintro e w2 ⟨rfl, rfl⟩
  go_wp2_with fail
  refine UC.out.mono ?_
  rintro e w3 ⟨rfl, k, rfl⟩
  go_wp2_with fail
  refine (WN.out k).mono ?_
  rintro e w4 ⟨rfl, b4⟩
  have HB4 := Lib.hid ((below_drewN (Below.refl w.heap.size w) k).trans (b4.mono (below_drewN (Below.refl w.heap.size w) k).size))
  clear b4
  go_wp2_with fail
  go_ret2
  exact ⟨rfl, HB4.out⟩
end Go.Proofs.Ytligidmkhbcpmaa
