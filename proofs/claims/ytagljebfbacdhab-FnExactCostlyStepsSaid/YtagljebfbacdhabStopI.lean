/- The nodes of a stopping, in the program. -/
import Derived.Test.YtagljebfbacdhabNodeSet
import Derived.Test.YtagljebfbacdhabPassI
import Derived.Test.YtagljebfbacdhabVBox
namespace Go.Proofs.Ytagljebfbacdhab
open Go.RowKit
set_option linter.unusedVariables false
set_option maxHeartbeats 1000000 in
theorem cntPart (ps ws ss : List Int) (W0 : World) (C M n : Nat) (gd : Good ps ws) (hm : MapB W0 M n (inL ss)) (hc : VBox W0 C (.map (some M)) 121) :
    PassI 174 #[.pointer (some ⟨C, 0, none⟩)] ps 0 (cntT ps ss) W0 := by
  intro W x hx hb
  have y0 := (hc.below hb hc.lt).cell
  have HM := Lib.hid (hm.below hb hm.lt)
  have hn24 := gd.n24
  have AT := passT_at (ParOk.of gd) 0 (fun a x => if inL ss (x : Int) = true then a + 1 else a) hx
  have BD : 0 ≤ abv ps 0 (cntT ps ss) x ∧ abv ps 0 (cntT ps ss) x ≤ 24 := by
    unfold abv
    split
    · omega
    · have hl := par_lt (ParOk.of gd) (by omega) hx
      have := cnt_bd ss (ParOk.of gd) (ps.getD x 0).toNat (by omega)
      omega
  change (cntT ps ss).getD x 0 = if inL ss (x : Int) = true then abv ps 0 (cntT ps ss) x + 1 else abv ps 0 (cntT ps ss) x at AT
  obtain ⟨a, ha⟩ : ∃ a, a = abv ps 0 (cntT ps ss) x := ⟨_, rfl⟩
  rw [← ha] at AT BD ⊢
  rw [AT]
  obtain ⟨b0, b1⟩ := BD
  obtain ⟨q, hq⟩ : ∃ q, q = inL ss (x : Int) := ⟨_, rfl⟩
  rw [← hq]
  have HQ := Lib.hid hq
  clear hm hc hb AT ha hq gd
  show Calls _ _ #[.int .i64 a, .int .i64 x, .pointer (some ⟨C, 0, none⟩)] _ _
  cases q
  · go_enter Try.func174, Try.ntmps174
    go_wp2_with (at_lookup; refine mapB_get _ rfl _ _ _ rfl Try.underlying121 M n (inL ss) rfl HM.out (x : Int) rfl (inI64_nat (by omega)) ?_; rw [← HQ.out])
    go_ret
    exact ⟨rfl, Below.refl _ _⟩
  · go_enter Try.func174, Try.ntmps174
    go_wp2_with (at_lookup; refine mapB_get _ rfl _ _ _ rfl Try.underlying121 M n (inL ss) rfl HM.out (x : Int) rfl (inI64_nat (by omega)) ?_; rw [← HQ.out])
    go_ret
    exact ⟨by simp, Below.refl _ _⟩
set_option maxHeartbeats 1000000 in
theorem nodPart (ps ws ss : List Int) (W0 : World) (C M n : Nat) (gd : Good ps ws) (hm : MapB W0 M n (inL ss)) (hc : VBox W0 C (.map (some M)) 121) :
    PassI 175 #[.pointer (some ⟨C, 0, none⟩)] ps (-1) (nodT ps ss) W0 := by
  intro W x hx hb
  have y0 := (hc.below hb hc.lt).cell
  have HM := Lib.hid (hm.below hb hm.lt)
  have hn24 := gd.n24
  have AT := passT_at (ParOk.of gd) (-1) (fun a x => if inL ss (x : Int) = true then (x : Int) else a) hx
  change (nodT ps ss).getD x 0 = if inL ss (x : Int) = true then (x : Int) else abv ps (-1) (nodT ps ss) x at AT
  obtain ⟨a, ha⟩ : ∃ a, a = abv ps (-1) (nodT ps ss) x := ⟨_, rfl⟩
  rw [← ha] at AT ⊢
  rw [AT]
  obtain ⟨q, hq⟩ : ∃ q, q = inL ss (x : Int) := ⟨_, rfl⟩
  rw [← hq]
  have HQ := Lib.hid hq
  clear hm hc hb AT ha hq gd
  show Calls _ _ #[.int .i64 a, .int .i64 x, .pointer (some ⟨C, 0, none⟩)] _ _
  cases q
  · go_enter Try.func175, Try.ntmps175
    go_wp2_with (at_lookup; refine mapB_get _ rfl _ _ _ rfl Try.underlying121 M n (inL ss) rfl HM.out (x : Int) rfl (inI64_nat (by omega)) ?_; rw [← HQ.out])
    go_ret
    exact ⟨rfl, Below.refl _ _⟩
  · go_enter Try.func175, Try.ntmps175
    go_wp2_with (at_lookup; refine mapB_get _ rfl _ _ _ rfl Try.underlying121 M n (inL ss) rfl HM.out (x : Int) rfl (inI64_nat (by omega)) ?_; rw [← HQ.out])
    go_ret
    exact ⟨by simp, Below.refl _ _⟩
/-- The nodes of a stopping, or none. -/
def ifStop (ps ws ss L : List Int) : List Int := if stopB ps ws ss = true then L else []
theorem newInts_nil {w w1 : World} (hb : Below w.heap.size w w1) : NewIntsB [] false w (.returned (.tuple #[.slice none 0 0, .bool false])) w1 :=
  ⟨_, rfl, ⟨⟨rfl, .inl ⟨rfl, rfl⟩⟩, fun q hq => by simp [Value.ownBlock] at hq, Nat.le_refl _, by intro z hz; cases hz⟩, hb⟩
set_option maxRecDepth 100000 in
set_option maxHeartbeats 4000000 in
theorem stopNodesI (ps ws ss : List Int) (v u : Value) (w : World) (hl : ss.length ≤ 1048576) (h : TreeV w w.heap.size v ps ws) (hu : IntsV w w.heap.size u ss) :
    Calls Try.prog 130 #[v, u] w (NewIntsB (ifStop ps ws ss (nodT ps ss)) (stopB ps ws ss) w) := by
  have NS := Lib.hid (fun w' (hb : Below w.heap.size w w') => nodeSetI ps ws ss v u w' hl (h.boxed hb) ((hu.below hb).more hb.size))
  have TV := Lib.hid (fun w' (hb : Below w.heap.size w w') => h.boxed hb)
  have IE := Lib.hid (fun (gd : Good ps ws) w' (hb : Below w.heap.size w w') (x : Nat) (hx : x < ps.length) => show Calls Try.prog 109 #[v, .int .i64 x] w' (Gives (.bool (leafB ps x)) w') from by
    have := isEndI ps ws v x w' (by rw [gd.nw]; exact hx) (h.boxed hb)
    rwa [show decide (0 < ws.getD x 0) = leafB ps x by rw [Bool.eq_iff_iff, decide_eq_true_iff]; exact gd.end_iff hx] at this)
  obtain ⟨p1, c1, p2, c2, rfl⟩ := h.shape
  obtain ⟨q, cq, rfl, _⟩ := hu
  clear h
  have hmf : ∀ (fn : Fn) (first cap : Array Value) (w : World), (Instr.makeFunc fn first cap).run Try.prog w = .ok (.func fn first cap) w := fun _ _ _ _ => rfl
  have B1 := Lib.hid ((Below.refl w.heap.size w).alloc (Nat.le_refl _) (.cells #[.slice p1 ps.length c1, .slice p2 ws.length c2] 28))
  have T1 := Lib.hid (show TBox (w.alloc (.cells #[.slice p1 ps.length c1, .slice p2 ws.length c2] 28)) w.heap.size (.slice p1 ps.length c1) (.slice p2 ws.length c2) from alloc_heap w _)
  obtain ⟨wa, hwa⟩ : ∃ wa, wa = w.alloc (.cells #[.slice p1 ps.length c1, .slice p2 ws.length c2] 28) := ⟨_, rfl⟩
  rw [← hwa] at B1 T1
  obtain ⟨x0, x1⟩ := T1.out.cells
  have DS : Hid (stopB ps ws ss = true → setB ps ws ss = true) := Lib.hid (fun h => by
    have s := stopB_iff.1 h
    unfold setB
    rw [(goodT_iff _ _).2 s.good, s.rise]; rfl)
  cases hs : setB ps ws ss
  · have SB : Hid (stopB ps ws ss = false) := Lib.hid (by
      cases hb : stopB ps ws ss
      · rfl
      · rw [DS.out hb] at hs; cases hs)
    have IS := Lib.hid (show ifStop ps ws ss (nodT ps ss) = [] by unfold ifStop; rw [SB.out]; rfl)
    rw [IS.out, SB.out]
    have NS2 : Hid (∀ w', Below w.heap.size w w' → Calls Try.prog 173 #[.agg #[.slice p1 ps.length c1, .slice p2 ws.length c2], .slice q ss.length cq] w' (Gives (.tuple #[.map none, .bool false]) w')) := Lib.hid (fun w' hb => (NS.out w' hb).mono (fun e w2 hh => by
      obtain ⟨hb2, ⟨h1, _⟩ | ⟨_, h2⟩⟩ := hh
      · rw [hs] at h1; cases h1
      · exact ⟨h2, hb2⟩))
    clear hs DS NS TV IE
    go_enter Try.func130, Try.ntmps130
    go_wp2_with fail
    rw [← hwa]
    clear hwa
    refine (NS2.out _ B1.out).mono ?_
    rintro e w1 ⟨rfl, b1⟩
    have HB1 := Lib.hid ((B1.out.trans (b1.mono B1.out.size)).alloc (Nat.le_trans B1.out.size b1.size) (.cells #[.map none] 121))
    clear b1
    go_wp2_with fail
    go_ret2
    exact newInts_nil HB1.out
  · have hgr : goodT ps ws = true ∧ riB ps.length ss = true := by
      unfold setB at hs; rw [Bool.and_eq_true] at hs; exact hs
    have gd := Good.of hgr.1
    have GD := Lib.hid gd
    have hn24 := gd.n24
    have RI := Lib.hid hgr.2
    have NS2 : Hid (∀ w', Below w.heap.size w w' → Calls Try.prog 173 #[.agg #[.slice p1 ps.length c1, .slice p2 ws.length c2], .slice q ss.length cq] w' (fun e w2 => ∃ b n, e = .returned (.tuple #[.map (some b), .bool true]) ∧ MapB w2 b n (inL ss) ∧ Below w'.heap.size w' w2)) := Lib.hid (fun w' hb => (NS.out w' hb).mono (fun e w2 hh => by
      obtain ⟨hb2, ⟨_, b, n, h1, _, h3⟩ | ⟨h2, _⟩⟩ := hh
      · exact ⟨b, n, h1, h3, hb2⟩
      · rw [hs] at h2; cases h2))
    have IE2 := Lib.hid (IE.out gd)
    have NO := Lib.hid (fun (x : Nat) (hx : x < ps.length) (hl : leafB ps x = true) h => stopB_no (ps := ps) (ws := ws) (ss := ss) hx hl h)
    have CL : (cntT ps ss).length = ps.length := passT_len _ _ _
    clear hs DS NS IE hgr gd
    go_enter Try.func130, Try.ntmps130
    go_wp2_with fail
    rw [← hwa]
    clear hwa
    refine (NS2.out _ B1.out).mono ?_
    rintro e w1 ⟨M, n, rfl, m1, b1⟩
    have HB1 := Lib.hid ((B1.out.trans (b1.mono B1.out.size)).alloc (Nat.le_trans B1.out.size b1.size) (.cells #[.map (some M)] 121))
    have HT1 := Lib.hid ((T1.out.below b1 T1.out.lt).alloc (.cells #[.map (some M)] 121))
    have HM1 := Lib.hid (m1.next ((Below.refl w1.heap.size w1).alloc (Nat.le_refl _) (.cells #[.map (some M)] 121)))
    have HV1 := Lib.hid (show VBox (w1.alloc (.cells #[.map (some M)] 121)) w1.heap.size (.map (some M)) 121 from alloc_heap w1 _)
    clear x0 x1
    obtain ⟨x0, x1⟩ := HT1.out.cells
    obtain ⟨C, hC⟩ : ∃ C, C = w1.heap.size := ⟨_, rfl⟩
    obtain ⟨w2, hw2⟩ : ∃ w2, w2 = w1.alloc (.cells #[.map (some M)] 121) := ⟨_, rfl⟩
    rw [← hw2] at HB1 HT1 HM1 HV1
    rw [← hC] at HV1
    clear b1 m1 B1 T1 NS2
    have P1 := Lib.hid (passI ps ws (cntT ps ss) 0 _ 174 #[.pointer (some ⟨C, 0, none⟩)] w2 (enters_of Try.func174 (by kernel_rfl) rfl) GD.out (TV.out w2 HB1.out) CL (fun i hi => by have := cnt_bd ss (ParOk.of GD.out) i (by omega); unfold InI64; omega) (cntPart ps ws ss w2 C M n GD.out HM1.out HV1.out))
    go_wp2_with fail
    rw [← hw2, ← hC]
    clear hw2 hC x0 x1
    refine P1.out.mono ?_
    rintro e w3 ⟨u3, rfl, o3, b3⟩
    obtain ⟨gc, cc, rfl, _, hg2⟩ := o3.shape (by have := GD.out.n1; omega)
    have HB3 := Lib.hid (HB1.out.trans (b3.mono HB1.out.size))
    have HT3 := Lib.hid (HT1.out.below b3 HT1.out.lt)
    have HM3 := Lib.hid (HM1.out.next b3)
    have HV3 := Lib.hid (HV1.out.next b3)
    have DC := Lib.hid (fun j (hj : j < ps.length) => o3.cellGet (j := j) (by omega))
    have G2 := Lib.hid hg2
    clear b3 o3 hg2 HB1 HT1 HM1 HV1 P1
    obtain ⟨x0, x1⟩ := HT3.out.cells
    have CLE1 : (cntT ps ss).length ≤ ps.length := by omega
    have CLE2 : ps.length ≤ (cntT ps ss).length := by omega
    obtain ⟨N, hN⟩ : ∃ N, N = (cntT ps ss).length := ⟨_, rfl⟩
    rw [← hN] at CLE1 CLE2 ⊢
    clear CL hN
    go_wp2
    go_loopw [24] (fun i wr => ∃ k : Nat, k ≤ N ∧ i = .int .i64 k ∧ Hid (∀ j, j < k → leafB ps j = true → (cntT ps ss).getD j 0 = 1) ∧ Hid (Below w3.heap.size w3 wr)) (fun i _ => N - (intOf i).toNat)
    case atStart => exact ⟨0, Nat.zero_le _, rfl, Lib.hid (fun j hj => by omega), Lib.hid (Below.refl _ _)⟩
    case round =>
      obtain ⟨k, hk, rfl, HA, HB⟩ := hrel
      have HBW := Lib.hid (HB3.out.trans (HB.out.mono HB3.out.size))
      clear x0 x1
      obtain ⟨x0, x1⟩ := (HT3.out.below HB.out HT3.out.lt).cells
      by_cases hlt : k < N
      · have hkp : k < ps.length := by omega
        have hce : wr.cell? ⟨gc, k, none⟩ = some (.int .i64 ((cntT ps ss).getD k 0)) := by rw [HB.out.cell (p := ⟨gc, k, none⟩) G2.out]; exact DC.out k hkp
        have C := Lib.hid (IE2.out wr HBW.out k hkp)
        have i0 : (0 : Int) ≤ (k : Int) := by omega
        have i1 : (k : Int) < (N : Int) := by omega
        have NX : Hid ((leafB ps k = true → (cntT ps ss).getD k 0 = 1) → ∀ j, j < k + 1 → leafB ps j = true → (cntT ps ss).getD j 0 = 1) := Lib.hid (fun h j hj => by
          rcases Nat.lt_or_ge j k with h' | h'
          · exact HA.out j h'
          · obtain rfl : j = k := by omega
            exact h)
        have NK := Lib.hid (NO.out k hkp)
        obtain ⟨z, hz⟩ : ∃ z, z = (cntT ps ss).getD k 0 := ⟨_, rfl⟩
        rw [← hz] at hce NX NK
        clear hz HA
        cases hlf : leafB ps k
        · rw [hlf] at C
          have N2 := Lib.hid (NX.out (fun h => by rw [hlf] at h; cases h))
          clear NX NK hlf
          go_wp2_with fail
          refine C.out.mono ?_
          rintro e w4 ⟨rfl, b4⟩
          have HB4 := Lib.hid (HB.out.trans (b4.mono HB.out.size))
          clear b4
          go_wp2_with fail
          go_roundw
          case rel => exact ⟨k + 1, by omega, by go_num, N2, HB4⟩
          case measure => simp [intOf]; omega
        · rw [hlf] at C
          by_cases hz1 : z = 1
          · have N2 := Lib.hid (NX.out (fun _ => hz1))
            have hne : (z != 1) = false := by simp; omega
            clear NX NK hlf
            go_wp2_with fail
            refine C.out.mono ?_
            rintro e w4 ⟨rfl, b4⟩
            have HB4 := Lib.hid (HB.out.trans (b4.mono HB.out.size))
            clear b4
            go_wp2_with fail
            go_roundw
            case rel => exact ⟨k + 1, by omega, by go_num, N2, HB4⟩
            case measure => simp [intOf]; omega
          · have SB := Lib.hid (NK.out hlf hz1)
            have IS := Lib.hid (show ifStop ps ws ss (nodT ps ss) = [] by unfold ifStop; rw [SB.out]; rfl)
            have hne : (z != 1) = true := by simp; omega
            clear NX NK hlf
            go_wp2_with fail
            refine C.out.mono ?_
            rintro e w4 ⟨rfl, b4⟩
            have HB4 := Lib.hid (HBW.out.trans (b4.mono HBW.out.size))
            clear b4
            go_wp2_with fail
            go_ret2
            rw [IS.out, SB.out]
            exact newInts_nil HB4.out
      · have SB : Hid (stopB ps ws ss = true) := Lib.hid (stopB_iff.2 ⟨GD.out, RI.out, fun x hx hl => HA.out x (by omega) hl⟩)
        have IS := Lib.hid (show ifStop ps ws ss (nodT ps ss) = nodT ps ss by unfold ifStop; rw [SB.out]; rfl)
        have NL : (nodT ps ss).length = ps.length := passT_len _ _ _
        have P2 := Lib.hid (passI ps ws (nodT ps ss) (-1) _ 175 #[.pointer (some ⟨C, 0, none⟩)] wr (enters_of Try.func175 (by kernel_rfl) rfl) GD.out (TV.out wr HBW.out) NL (fun i hi => by have := nod_bd ss (ParOk.of GD.out) i (by omega); unfold InI64; omega) (nodPart ps ws ss wr C M n GD.out (HM3.out.next HB.out) (HV3.out.next HB.out)))
        clear HA NL
        go_wp2_with fail
        refine P2.out.mono ?_
        rintro e w5 ⟨u5, rfl, o5, b5⟩
        have FIN := Lib.hid (newInts_back HBW.out o5 b5)
        clear o5 b5
        go_wp2_with fail
        go_ret2
        rw [IS.out, SB.out]
        exact FIN.out
end Go.Proofs.Ytagljebfbacdhab
