/- Wealth, in the program. -/
import Derived.Test.YtamneibnjbimeaaHldI
import Derived.Test.YtamneibnjbimeaaPassI
import Derived.Test.YtamneibnjbimeaaWthP
import Derived.IntWalk
namespace Go.Proofs.Ytamneibnjbimeaa
open Go.RowKit
set_option linter.unusedVariables false
theorem payC (z : Int) (w : World) : Calls Try.prog 50 #[.int .i64 z] w fun e w' => e = .returned (.bool (startB z)) ∧ w = w' := by
  have D : Hid (startB z = decide (-999 ≤ z ∧ z ≤ 999)) := Lib.hid rfl
  by_cases h1 : -999 ≤ z
  · by_cases h2 : z ≤ 999
    · rw [D.out, decide_eq_true ⟨h1, h2⟩]
      go_enter Try.func50, Try.ntmps50
      go_wp2
      go_ret
      exact ⟨rfl, rfl⟩
    · rw [D.out, decide_eq_false (fun h => h2 h.2)]
      go_enter Try.func50, Try.ntmps50
      go_wp2
      go_ret
      exact ⟨rfl, rfl⟩
  · rw [D.out, decide_eq_false (fun h => h1 h.1)]
    go_enter Try.func50, Try.ntmps50
    go_wp2
    go_ret
    exact ⟨rfl, rfl⟩
/-- What stands of the numbers of the wealth while a list of it is made. -/
structure WlFacts (ps cs hs : List Int) (a : Int) (T : List Int) : Prop where
  len : T.length = ps.length
  one : T.take 1 = [a]
  next : ∀ k, k < T.length → T.take (k + 1) = T.take k ++ [T.getD k 0]
  at_ : ∀ j k, j < k → (T.take k).getD j 0 = T.getD j 0
  step : ∀ x, 0 < x → x < ps.length → T.getD x 0 = T.getD (ps.getD x 0).toNat 0 + hs.getD (ps.getD x 0).toNat 0 * (cs.getD x 0 - cs.getD (ps.getD x 0).toNat 0)
  dbd : ∀ x, 0 < x → x < ps.length → (hs.getD (ps.getD x 0).toNat 0 * (cs.getD x 0 - cs.getD (ps.getD x 0).toNat 0)).natAbs ≤ 1980
  bd : ∀ x, x < ps.length → (T.getD x 0).natAbs ≤ 999 + x * 1980
  par : ∀ y, 0 < y → y < ps.length → 0 ≤ ps.getD y 0 ∧ ps.getD y 0 < (y : Int)
  cbd : ∀ i, i < cs.length → 0 ≤ cs.getD i 0 ∧ cs.getD i 0 ≤ 20
theorem wlFacts {ps ws cs hs : List Int} {a : Int} (s : Hold ps ws cs hs) (ha : -999 ≤ a ∧ a ≤ 999) : WlFacts ps cs hs a (wlT ps cs hs a) :=
  have TL := wlT_len ps cs hs a
  have h1 := s.mkt.good.n1
  ⟨TL, by rw [take_next (by omega), wl_zero s]; rfl, fun k hk => take_next hk, fun j k h => getD_take h, fun x h0 hx => wl_step s a h0 hx, fun x h0 hx => wlD_bd s h0 hx, fun x hx => wl_bd s ha x hx, s.mkt.good.par, s.mkt.bd⟩
set_option maxRecDepth 100000 in
set_option maxHeartbeats 4000000 in
theorem wealthI (ps ws cs hs : List Int) (a : Int) (v u : Value) (w : World) (hn : cs.length ≤ 1048576) (hn1 : hs.length ≤ 1048576) (h : MktV w w.heap.size v ps ws cs) (hu : IntsV w w.heap.size u hs) :
    Calls Try.prog 19 #[v, .int .i64 a, u] w (NewIntsB (ifHold ps ws cs hs a (wlT ps cs hs a)) (startB a && holdB ps ws cs hs) w) := by
  have HC := Lib.hid (fun w' (hb : Below w.heap.size w w') => holdsI ps ws cs hs v u w' hn hn1 (h.boxed hb) ((hu.below hb).more hb.size))
  have PC := Lib.hid (fun w => payC a w)
  obtain ⟨v1, v2, v3, rfl, ⟨p1, c1, rfl, l1, m1, _, i1⟩, ⟨p2, c2, rfl, l2, m2, _, i2⟩, ⟨p3, c3, rfl, l3, m3, _, i3⟩⟩ := h
  have P1 := Lib.hid i1
  have P3 := Lib.hid i3
  clear i1 i2 i3 m1 m2 m3
  obtain ⟨q1, d1, rfl, _, _, _, j1⟩ := hu
  have Q1 := Lib.hid j1
  clear j1
  have B1 := (Below.refl w.heap.size w).alloc (Nat.le_refl _) (.cells #[.slice p1 ps.length c1, .slice p2 ws.length c2, .slice p3 cs.length c3] 31)
  have T1 := Lib.hid (show KBox (w.alloc (.cells #[.slice p1 ps.length c1, .slice p2 ws.length c2, .slice p3 cs.length c3] 31)) w.heap.size (.slice p1 ps.length c1) (.slice p2 ws.length c2) (.slice p3 cs.length c3) from alloc_heap w _)
  obtain ⟨wa, hwa⟩ : ∃ wa, wa = w.alloc (.cells #[.slice p1 ps.length c1, .slice p2 ws.length c2, .slice p3 cs.length c3] 31) := ⟨_, rfl⟩
  have sz : wa.heap.size = w.heap.size + 1 := by rw [hwa]; simp
  rw [← hwa] at B1 T1
  have HBA := Lib.hid B1
  clear B1
  obtain ⟨x0, x1, x2⟩ := T1.out.cells
  have IS : Hid (ifHold ps ws cs hs a (wlT ps cs hs a) = if (startB a && holdB ps ws cs hs) = true then wlT ps cs hs a else []) := Lib.hid rfl
  cases hg : holdB ps ws cs hs
  · rw [hg, Bool.and_false] at IS
    rw [hg] at HC
    rw [IS.out, Bool.and_false, if_neg (by decide)]
    clear hg IS
    go_enter Try.func19, Try.ntmps19
    go_wp2_with fail
    rw [← hwa]
    clear hwa
    refine (HC.out _ HBA.out).mono ?_
    rintro e w1 ⟨rfl, b1⟩
    have HB1 := Lib.hid (HBA.out.trans (b1.mono HBA.out.size))
    clear b1
    go_wp2_with fail
    go_ret2
    exact newInts_empty HB1.out
  · have HD := Lib.hid (holdB_iff.1 hg)
    rw [hg, Bool.and_true] at IS
    rw [hg] at HC
    cases hs0 : startB a
    · rw [hs0] at IS PC
      rw [IS.out, Bool.false_and, if_neg (by decide)]
      clear hg hs0 IS
      go_enter Try.func19, Try.ntmps19
      go_wp2_with fail
      rw [← hwa]
      clear hwa
      refine (HC.out _ HBA.out).mono ?_
      rintro e w1 ⟨rfl, b1⟩
      have HB1 := Lib.hid (HBA.out.trans (b1.mono HBA.out.size))
      clear b1
      go_wp2_with fail
      refine (PC.out _).mono ?_
      rintro e w2 ⟨rfl, rfl⟩
      go_wp2_with fail
      go_ret2
      exact newInts_empty HB1.out
    · have FC := Lib.hid (wlFacts HD.out (of_decide_eq_true hs0))
      have ha : -999 ≤ a ∧ a ≤ 999 := of_decide_eq_true hs0
      rw [hs0] at IS PC
      rw [IS.out, Bool.true_and, if_pos rfl]
      have hn24 := HD.out.mkt.good.n24
      have hn0 := HD.out.mkt.good.n1
      have hlc := HD.out.mkt.len
      have hlh := HD.out.len
      have le1 : cs.length ≤ ps.length := by omega
      have le2 : ps.length ≤ cs.length := by omega
      have le3 : hs.length ≤ ps.length := by omega
      have le4 : ps.length ≤ hs.length := by omega
      have ha64 := Lib.hid (show InI64 a by unfold InI64; omega)
      obtain ⟨ha1, ha2⟩ := ha
      clear hg hs0 IS HD hlc hlh
      obtain ⟨T, hT⟩ : ∃ T, T = wlT ps cs hs a := ⟨_, rfl⟩
      rw [← hT] at FC ⊢
      clear hT
      obtain ⟨i0, hi, hz0, hz1, hz2⟩ := info_parts intInfo
      go_enter Try.func19, Try.ntmps19
      go_wp2_with fail
      rw [← hwa]
      clear hwa
      refine (HC.out _ HBA.out).mono ?_
      rintro e w1 ⟨rfl, b1⟩
      have HB1 := Lib.hid (HBA.out.trans (b1.mono HBA.out.size))
      have HT1 := Lib.hid (T1.out.below b1 T1.out.lt)
      clear b1
      go_wp2_with fail
      refine (PC.out _).mono ?_
      rintro e w2 ⟨rfl, rfl⟩
      have hw2 : w.heap.size + 1 ≤ w1.heap.size := HT1.out.lt
      have B2 := Lib.hid (HB1.out.alloc HB1.out.size (.cells #[.int .i64 a] 3))
      have T2 := Lib.hid (HT1.out.alloc (.cells #[.int .i64 a] 3))
      have O2 := Lib.hid (OwnV.single w1 (w.heap.size + 1) a hw2 ha64.out)
      clear x0 x1 x2 HB1 HT1 T1 HBA sz
      go_wp2_with fail
      go_loopw [8, 9] (fun o i wr => ∃ k : Nat, 1 ≤ k ∧ k ≤ ps.length ∧ i = .int .i64 k ∧ Hid (OwnV wr (w.heap.size + 1) wr.heap.size o (T.take k)) ∧ Hid (KBox wr w.heap.size (.slice p1 ps.length c1) (.slice p2 ws.length c2) (.slice p3 cs.length c3)) ∧ Hid (Below w.heap.size w wr)) (fun _ i _ => ps.length - (intOf i).toNat)
      case atStart => exact ⟨1, Nat.le_refl _, hn0, rfl, Lib.hid (by rw [FC.out.one]; exact O2.out), T2, B2⟩
      case round =>
        obtain ⟨k, hk1, hk, rfl, HO, HT, HB⟩ := hrel
        obtain ⟨x0, x1, x2⟩ := HT.out.cells
        clear T2 B2 O2
        by_cases hlt : k < ps.length
        · obtain ⟨b, off, rfl, hb, hc⟩ := P1.out.get hlt
          obtain ⟨g1, g2⟩ := FC.out.par k (by omega) hlt
          obtain ⟨j, hj⟩ : ∃ j : Nat, ps.getD k 0 = (j : Int) := ⟨(ps.getD k 0).toNat, by omega⟩
          have hjk : j < k := by omega
          have hcw : wr.cell? ⟨b, off + k, none⟩ = some (.int .i64 j) := by rw [HB.out.cell (p := ⟨b, off + k, none⟩) hb, hc, hj]
          obtain ⟨bz, oz, rfl, hbz, hcz⟩ := P3.out.get (i := k) (by omega)
          obtain ⟨bz', oz', ez, hbz', hcz'⟩ := P3.out.get (i := j) (by omega)
          obtain ⟨rfl, rfl⟩ : bz = bz' ∧ oz = oz' := by injection ez with ez; injection ez with e1 e2; exact ⟨e1, e2⟩
          obtain ⟨bk, ok, rfl, hbk, hck⟩ := Q1.out.get (i := j) (by omega)
          have hz_k : wr.cell? ⟨bz, oz + k, none⟩ = some (.int .i64 (cs.getD k 0)) := by rw [HB.out.cell (p := ⟨bz, oz + k, none⟩) hbz, hcz]
          have hz_j : wr.cell? ⟨bz, oz + j, none⟩ = some (.int .i64 (cs.getD j 0)) := by rw [HB.out.cell (p := ⟨bz, oz + j, none⟩) hbz, hcz']
          have hk_j : wr.cell? ⟨bk, ok + j, none⟩ = some (.int .i64 (hs.getD j 0)) := by rw [HB.out.cell (p := ⟨bk, ok + j, none⟩) hbk, hck]
          have TL := FC.out.len
          have LT : (T.take k).length = k := by rw [List.length_take]; omega
          obtain ⟨g, cap, rfl, hg1, hg2⟩ := HO.out.shape (by omega)
          have hdj : wr.cell? ⟨g, j, none⟩ = some (.int .i64 (T.getD j 0)) := by
            rw [HO.out.cellGet (by omega), FC.out.at_ j k hjk]
          have st := FC.out.step k (by omega) hlt
          have db := FC.out.dbd k (by omega) hlt
          have gb := FC.out.bd j (by omega)
          have zb1 := FC.out.cbd k (by omega)
          have zb2 := FC.out.cbd j (by omega)
          have se := FC.out.next k (by omega)
          have gj : j * 1980 ≤ 23 * 1980 := Nat.mul_le_mul_right _ (by omega)
          rw [hj, Int.toNat_natCast] at st db
          rw [st] at se
          obtain ⟨L, hL⟩ : ∃ L, L = T.take k := ⟨_, rfl⟩
          rw [← hL] at HO LT se
          obtain ⟨tj, htj⟩ : ∃ t, t = T.getD j 0 := ⟨_, rfl⟩
          obtain ⟨ah, hah⟩ : ∃ t, t = hs.getD j 0 := ⟨_, rfl⟩
          obtain ⟨y1, hy1⟩ : ∃ t, t = cs.getD k 0 := ⟨_, rfl⟩
          obtain ⟨y2, hy2⟩ : ∃ t, t = cs.getD j 0 := ⟨_, rfl⟩
          rw [← htj] at hdj gb se
          rw [← hah] at hk_j db se
          rw [← hy1] at hz_k db se zb1
          rw [← hy2] at hz_j db se zb2
          have SE := Lib.hid se
          have NI := Lib.hid (show InI64 (tj + ah * (y1 - y2)) by unfold InI64; omega)
          rw [← hL]
          have le5 : L.length ≤ k := by omega
          have le6 : k ≤ L.length := by omega
          clear st hc hcz hcz' hck ez hj htj hah hy1 hy2 g1 g2 hbz' hL se TL
          have hsz := HT.out.lt
          have i0' : (0 : Int) ≤ (k : Int) := by omega
          have i1' : (k : Int) < (ps.length : Int) := by omega
          have i2' : (k : Int) < (cs.length : Int) := by omega
          have j0 : (0 : Int) ≤ (j : Int) := by omega
          have j1 : (j : Int) < (cs.length : Int) := by omega
          have j2 : (j : Int) < (hs.length : Int) := by omega
          have j3 : (j : Int) < (L.length : Int) := by omega
          clear LT
          have db1 : -1980 ≤ ah * (y1 - y2) ∧ ah * (y1 - y2) ≤ 1980 := by omega
          have WR : IntKind.i64.wrap (ah * (y1 - y2)) = ah * (y1 - y2) := IntWalk.i64_in _ (by omega)
          clear db
          have HOD := Lib.hid ((HO.out.below (below_drew (Below.refl _ _))).wide (Below.size (below_drew (Below.refl wr.heap.size wr))) (Nat.le_refl _))
          have HBD := Lib.hid (below_drew HB.out)
          have HTD := Lib.hid (HT.out.below (below_drew (Below.refl _ _)) HT.out.lt)
          go_wp2_with fail
          go_region
          go_wp2_with (at_builtin; refine wpList_append_own _ rfl _ _ 22 rfl (w.heap.size + 1) 3 i0 (.int .i64 0) 1 8 Try.underlying22 hi hz0 hz1 hz2 rfl (by decide) _ L.length (L.map (.int .i64)) rfl (HOD.out.row.alloc _) ⟨wr.heap.size, 0, none⟩ 1 1 [.int .i64 (tj + ah * (y1 - y2))] rfl rfl (cell_one_new _ _ _) (fun x hx => by simp at hx; subst hx; rfl) (by unfold maxLen; omega) (by omega) (by simp; omega) ?_; intro v' w3 hown3 hgrow3 hnil3)
          have own3 := Lib.hid (HOD.out.app NI.out hown3)
          have bel3 := Lib.hid ((HBD.out.alloc HBD.out.size _).grown hgrow3 (by simp; omega) (fun q hq => by have := (HOD.out.row.lt q hq).1; omega))
          have box3 := Lib.hid ((HTD.out.alloc _).grown hgrow3 (fun q hq => (HOD.out.row.lt q hq).1) (by omega))
          clear hown3 hgrow3 hnil3
          go_roundw
          case rel => exact ⟨k + 1, by omega, by omega, by go_num, Lib.hid (by rw [SE.out]; exact own3.out), box3, bel3⟩
          case measure => simp [intOf]; omega
        · obtain rfl : k = ps.length := by omega
          have FIN : Hid (∀ o, OwnV wr (w.heap.size + 1) wr.heap.size o T → NewIntsB T true w (.returned (.tuple #[o, .bool true])) wr) := Lib.hid (fun o ho => ⟨_, rfl, ho.low (by omega), HB.out⟩)
          rw [List.take_of_length_le (by have := FC.out.len; omega)] at HO
          go_wp2_with fail
          go_ret2
          exact FIN.out _ HO.out
end Go.Proofs.Ytamneibnjbimeaa
