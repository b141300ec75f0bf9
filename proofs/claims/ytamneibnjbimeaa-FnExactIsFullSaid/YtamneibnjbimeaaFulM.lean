/- Whether a market is full, in the model. -/
import Derived.Test.YtamneibnjbimeaaFulI
import Derived.Test.YtamneibnjbimeaaUnmM
namespace Go.Proofs.Ytamneibnjbimeaa
open Go.RowKit
set_option linter.unusedVariables false
set_option maxHeartbeats 4000000 in
theorem soundS (ps ws cs : List Int) (v : Value) (w : World) (hn : cs.length ≤ 1048576) (h : MktV w w.heap.size v ps ws cs) :
    Calls Try.prog 63 #[v] w (Gives (.bool (soundB ps ws cs)) w) := by
  have G := Lib.hid (fun w' (hb : Below w.heap.size w w') => mktS ps ws cs v w' hn (h.boxed hb))
  have UC := Lib.hid (fun (mk : Mkt ps ws cs) w' (hb : Below w.heap.size w w') => unevM ps ws cs v w' mk (h.boxed hb))
  have SD : Hid (soundB ps ws cs = (goodM ps ws cs && decide (unI ps cs < 0))) := Lib.hid rfl
  obtain ⟨p1, c1, p2, c2, p3, c3, rfl⟩ := h.shape
  clear h
  have B1 := Lib.hid ((Below.refl w.heap.size w).alloc (Nat.le_refl _) (.cells #[.slice p1 ps.length c1, .slice p2 ws.length c2, .slice p3 cs.length c3] 31))
  have T1 := Lib.hid (show KBox (w.alloc (.cells #[.slice p1 ps.length c1, .slice p2 ws.length c2, .slice p3 cs.length c3] 31)) w.heap.size (.slice p1 ps.length c1) (.slice p2 ws.length c2) (.slice p3 cs.length c3) from alloc_heap w _)
  obtain ⟨wa, hwa⟩ : ∃ wa, wa = w.alloc (.cells #[.slice p1 ps.length c1, .slice p2 ws.length c2, .slice p3 cs.length c3] 31) := ⟨_, rfl⟩
  rw [← hwa] at B1 T1
  obtain ⟨x0, x1, x2⟩ := T1.out.cells
  cases hg : goodM ps ws cs
  · rw [hg] at G SD
    rw [SD.out]
    clear hg SD UC
    go_enter Try.func63, Try.ntmps63
    go_wp2_with fail
    rw [← hwa]
    clear hwa
    refine (G.out _ B1.out).mono ?_
    rintro e w1 ⟨rfl, b1⟩
    have HB1 := Lib.hid (B1.out.trans (b1.mono B1.out.size))
    clear b1
    go_wp2_with fail
    go_ret
    exact ⟨rfl, HB1.out⟩
  · have UC2 := Lib.hid (UC.out (goodM_iff.1 hg))
    rw [hg, Bool.true_and] at SD
    rw [hg] at G
    rw [SD.out]
    generalize unI ps cs = r at *
    clear hg UC SD
    go_enter Try.func63, Try.ntmps63
    go_wp2_with fail
    rw [← hwa]
    clear hwa
    refine (G.out _ B1.out).mono ?_
    rintro e w1 ⟨rfl, b1⟩
    have HB1 := Lib.hid (B1.out.trans (b1.mono B1.out.size))
    obtain ⟨y0, y1, y2⟩ := (T1.out.below b1 T1.out.lt).cells
    clear b1 x0 x1 x2
    go_wp2_with fail
    refine (UC2.out _ HB1.out).mono ?_
    rintro e w2 ⟨rfl, b2⟩
    have HB2 := Lib.hid (HB1.out.trans (b2.mono HB1.out.size))
    clear b2
    go_wp2_with fail
    go_ret
    exact ⟨rfl, HB2.out⟩
set_option maxRecDepth 100000 in
set_option maxHeartbeats 4000000 in
theorem isFullS (ps ws cs : List Int) (v : Value) (w : World) (hn : cs.length ≤ 1048576) (h : MktV w w.heap.size v ps ws cs) :
    Calls Try.prog 32 #[v] w (Gives (fullV ps ws cs) w) := by
  have SO := Lib.hid (fun w' (hb : Below w.heap.size w w') => soundS ps ws cs v w' hn (h.boxed hb))
  have SM := Lib.hid (fun (mk : Mkt ps ws cs) x (hx : x < ps.length) w' (hb : Below w.heap.size w w') => sidesM ps ws cs v x w' mk hx (h.boxed hb))
  unfold V3i at SM
  obtain ⟨p1, c1, p2, c2, p3, c3, rfl⟩ := h.shape
  clear h
  have FV : Hid (fullV ps ws cs = if soundB ps ws cs = true then .tuple #[.bool (!decide (0 ≤ fuI ps cs)), .bool true] else .tuple #[.bool false, .bool false]) := Lib.hid rfl
  have B1 := Lib.hid ((Below.refl w.heap.size w).alloc (Nat.le_refl _) (.cells #[.slice p1 ps.length c1, .slice p2 ws.length c2, .slice p3 cs.length c3] 31))
  have T1 := Lib.hid (show KBox (w.alloc (.cells #[.slice p1 ps.length c1, .slice p2 ws.length c2, .slice p3 cs.length c3] 31)) w.heap.size (.slice p1 ps.length c1) (.slice p2 ws.length c2) (.slice p3 cs.length c3) from alloc_heap w _)
  obtain ⟨wa, hwa⟩ : ∃ wa, wa = w.alloc (.cells #[.slice p1 ps.length c1, .slice p2 ws.length c2, .slice p3 cs.length c3] 31) := ⟨_, rfl⟩
  rw [← hwa] at B1 T1
  obtain ⟨x0, x1, x2⟩ := T1.out.cells
  cases hg : soundB ps ws cs
  · rw [hg, if_neg (by decide)] at FV
    rw [hg] at SO
    rw [FV.out]
    clear hg FV SM
    go_enter Try.func32, Try.ntmps32
    go_wp2_with fail
    rw [← hwa]
    clear hwa
    refine (SO.out _ B1.out).mono ?_
    rintro e w1 ⟨rfl, b1⟩
    have HB1 := Lib.hid (B1.out.trans (b1.mono B1.out.size))
    clear b1
    go_wp2_with fail
    go_ret2
    exact ⟨rfl, HB1.out⟩
  · have hg2 := hg
    unfold soundB at hg2
    rw [Bool.and_eq_true] at hg2
    have mk := goodM_iff.1 hg2.1
    have SM2 := Lib.hid (SM.out mk)
    have n24 := mk.good.n24
    have le1 : cs.length ≤ ps.length := Nat.le_of_eq mk.len
    have le2 : ps.length ≤ cs.length := Nat.le_of_eq mk.len.symm
    have FM := Lib.hid (fun h => fstU_miss (B := nfB ps cs) (n := ps.length) h)
    have FH := Lib.hid (fun k hk h hl => fstU_hit (B := nfB ps cs) (n := ps.length) (k := k) hk h hl)
    have UD : Hid (fuI ps cs = fstU (nfB ps cs) ps.length) := Lib.hid rfl
    rw [← UD.out] at FM FH
    have LE := Lib.hid (fun x f => show sdN ps cs x f ps.length ≤ 24 by have := sdN_le ps cs x f ps.length; have := mk.good.n24; omega)
    rw [hg, if_pos rfl] at FV
    rw [hg] at SO
    obtain ⟨r, hr⟩ : ∃ r, r = fuI ps cs := ⟨_, rfl⟩
    rw [← hr] at FM FH FV
    clear hg hg2 SM mk UD hr
    rw [FV.out]
    clear FV
    go_enter Try.func32, Try.ntmps32
    go_wp2_with fail
    rw [← hwa]
    clear hwa
    refine (SO.out _ B1.out).mono ?_
    rintro e w1 ⟨rfl, b1⟩
    have HB1 := Lib.hid (B1.out.trans (b1.mono B1.out.size))
    have T2 := Lib.hid (T1.out.below b1 T1.out.lt)
    clear b1 x0 x1 x2 T1 B1
    go_wp2_with fail
    go_loopw [4] (fun i wr => ∃ k : Nat, k ≤ cs.length ∧ i = .int .i64 k ∧ Hid (∀ j, j < k → (nfB ps cs) j = false) ∧ Hid (KBox wr w.heap.size (.slice p1 ps.length c1) (.slice p2 ws.length c2) (.slice p3 cs.length c3)) ∧ Hid (Below w.heap.size w wr)) (fun i _ => cs.length - (intOf i).toNat)
    case atStart => exact ⟨0, Nat.zero_le _, rfl, Lib.hid (fun j hj => by omega), T2, HB1⟩
    case round =>
      obtain ⟨k, hk, rfl, HA, HT, HB⟩ := hrel
      obtain ⟨x0, x1, x2⟩ := HT.out.cells
      clear T2 HB1
      by_cases hlt : k < cs.length
      · have S := Lib.hid (SM2.out k (by omega) wr HB.out)
        have HIT := Lib.hid (fun h => FH.out k (by omega) h HA.out)
        have l0 := LE.out k 0
        have l1 := LE.out k 1
        have l2 := LE.out k 2
        have NX : Hid ((nfB ps cs) k = false → ∀ j, j < k + 1 → (nfB ps cs) j = false) := Lib.hid (fun h j hj => by
          rcases Nat.lt_or_ge j k with h' | h'
          · exact HA.out j h'
          · obtain rfl : j = k := by omega
            exact h)
        have i1 : (k : Int) < (cs.length : Int) := by omega
        have D : Hid ((nfB ps cs) k = decide (1 < sdN ps cs k 0 ps.length ∨ 1 < sdN ps cs k 2 ps.length ∨ (0 < sdN ps cs k 1 ps.length ∧ 1 < sdN ps cs k 0 ps.length + sdN ps cs k 1 ps.length + sdN ps cs k 2 ps.length))) := Lib.hid (by unfold nfB fuM; rw [Bool.not_not])
        obtain ⟨t, ht⟩ : ∃ t, t = (nfB ps cs) k := ⟨_, rfl⟩
        rw [← ht] at HIT D NX
        obtain ⟨a, ha⟩ : ∃ t, t = sdN ps cs k 0 ps.length := ⟨_, rfl⟩
        obtain ⟨b, hb⟩ : ∃ t, t = sdN ps cs k 1 ps.length := ⟨_, rfl⟩
        obtain ⟨c, hc⟩ : ∃ t, t = sdN ps cs k 2 ps.length := ⟨_, rfl⟩
        rw [← ha] at S D l0
        rw [← hb] at S D l1
        rw [← hc] at S D l2
        clear ht ha hb hc HA
        go_wp2_with fail
        refine S.out.mono ?_
        rintro e w3 ⟨rfl, b3⟩
        have HT3 := Lib.hid ((HT.out.below b3 HT.out.lt).alloc (.cells #[.int .i64 (a : Int), .int .i64 (b : Int), .int .i64 (c : Int)] 73))
        have HB3 := Lib.hid ((HB.out.trans (b3.mono HB.out.size)).alloc (HB.out.trans (b3.mono HB.out.size)).size (.cells #[.int .i64 (a : Int), .int .i64 (b : Int), .int .i64 (c : Int)] 73))
        clear b3 S x0 x1 x2 HT HB
        have YES : Hid ((1 < a ∨ 1 < c ∨ (0 < b ∧ 1 < a + b + c)) → r = (k : Int)) := Lib.hid (fun h => HIT.out (by rw [D.out]; exact decide_eq_true h))
        have NOT : Hid (¬ (1 < a ∨ 1 < c ∨ (0 < b ∧ 1 < a + b + c)) → ∀ j, j < k + 1 → (nfB ps cs) j = false) := Lib.hid (fun h => NX.out (by rw [D.out]; exact decide_eq_false h))
        clear D NX HIT
        by_cases h1 : (1 : Int) < (a : Int)
        · have R := Lib.hid (YES.out (by omega))
          clear YES NOT
          go_wp2_with fail
          go_ret2
          exact ⟨by rw [R.out]; simp, HB3.out⟩
        · by_cases h2 : (1 : Int) < (c : Int)
          · have R := Lib.hid (YES.out (by omega))
            clear YES NOT
            go_wp2_with fail
            go_ret2
            exact ⟨by rw [R.out]; simp, HB3.out⟩
          · by_cases h3 : (0 : Int) < (b : Int)
            · by_cases h4 : (1 : Int) < (a : Int) + (b : Int) + (c : Int)
              · have R := Lib.hid (YES.out (by omega))
                clear YES NOT
                go_wp2_with fail
                go_ret2
                exact ⟨by rw [R.out]; simp, HB3.out⟩
              · have N2 := Lib.hid (NOT.out (by omega))
                clear YES NOT
                go_wp2_with fail
                go_roundw
                case rel => exact ⟨k + 1, by omega, by go_num, N2, HT3, HB3⟩
                case measure => simp [intOf]; omega
            · have N2 := Lib.hid (NOT.out (by omega))
              clear YES NOT
              go_wp2_with fail
              go_roundw
              case rel => exact ⟨k + 1, by omega, by go_num, N2, HT3, HB3⟩
              case measure => simp [intOf]; omega
      · have R := Lib.hid (FM.out (fun j hj => HA.out j (by omega)))
        clear HA
        go_wp2_with fail
        go_ret2
        exact ⟨by rw [R.out]; rfl, HB.out⟩
end Go.Proofs.Ytamneibnjbimeaa
