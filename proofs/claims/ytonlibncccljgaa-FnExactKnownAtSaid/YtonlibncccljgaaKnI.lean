/- KnownAt in the program. -/
import Derived.Test.YtonlibncccljgaaPcI
import Derived.Test.YtonlibncccljgaaPayI
namespace Go.Proofs.Ytonlibncccljgaa
open Go.RowKit
set_option linter.unusedVariables false
set_option maxRecDepth 100000 in
set_option maxHeartbeats 8000000 in
theorem areKnownI (ps ws vs : List Int) (d : Nat) (v u : Value) (w : World) (p : Pay ps ws vs) (h : TreeV w w.heap.size v ps ws) (hu : IntsV w w.heap.size u vs) :
    Calls Try.prog 96 #[v, u, .int .i64 d] w (Gives (.bool (knB ps vs d)) w) := by
  have CN := Lib.hid (fun w' (hb : Below w.heap.size w w') => cutNodesI ps ws v (d : Int) w' p.good (by omega) (h.boxed hb))
  have hn24 := p.good.n24
  have hel := Nat.le_trans (ends_le ps) hn24
  have KL : (cutN9 ps (d : Int)).length ≤ 24 := by rw [cutN9_len]; exact hel
  have KP : 0 < (cutN9 ps (d : Int)).length := by rw [cutN9_len]; exact ends_pos p.good
  have VL : vs.length = (cutN9 ps (d : Int)).length := by rw [cutN9_len]; exact p.len
  have VB := Lib.hid p.bd
  have KIN : Hid (∀ i, i < (cutN9 ps (d : Int)).length → 0 ≤ (cutN9 ps (d : Int)).getD i 0 ∧ (cutN9 ps (d : Int)).getD i 0 ≤ 24) := Lib.hid (fun i hi => by
    rw [cutN9_len] at hi
    obtain ⟨x, hx, hxl, _⟩ := ends_in (ps := ps) hi
    rw [cutN9_at hi, ← hx, Int.toNat_natCast]
    have := anc_in (ParOk.of p.good) (d := (d : Int)) (by omega) x hxl
    omega)
  have NXT := Lib.hid (fun (k : Nat) h1 h2 => same_next (K := cutN9 ps (d : Int)) (vs := vs) (k := k) h1 h2)
  have BAD : Hid (∀ (k : Nat) (y : Int), k < (cutN9 ps (d : Int)).length → pairF (cutN9 ps (d : Int)) vs k ((cutN9 ps (d : Int)).getD k 0) = some y → y ≠ vs.getD k 0 → knB ps vs d = false) := Lib.hid (fun k y h1 h2 h3 => same_bad h1 h2 h3)
  have YES : Hid (SameTo (cutN9 ps (d : Int)) vs (cutN9 ps (d : Int)).length → knB ps vs d = true) := Lib.hid (fun h => sameB_iff.2 h)
  obtain ⟨p1, c1, p2, c2, rfl⟩ := h.shape
  obtain ⟨q, cq, rfl, _, _, _, iq⟩ := hu
  have E1 := Lib.hid iq
  clear h iq p
  obtain ⟨K, hK⟩ : ∃ K, K = cutN9 ps (d : Int) := ⟨_, rfl⟩
  rw [← hK] at CN KL KP VL KIN NXT BAD YES
  generalize knB ps vs d = bb at *
  have B1 := ((Below.refl w.heap.size w).alloc (Nat.le_refl _) (.cells #[.slice p1 ps.length c1, .slice p2 ws.length c2] 29)).alloc (by simp) (.map #[] 0)
  have T0 : TBox (w.alloc (.cells #[.slice p1 ps.length c1, .slice p2 ws.length c2] 29)) w.heap.size (.slice p1 ps.length c1) (.slice p2 ws.length c2) := alloc_heap w _
  have M0 := MapI.made (w.alloc (.cells #[.slice p1 ps.length c1, .slice p2 ws.length c2] 29))
  rw [show (w.alloc (.cells #[.slice p1 ps.length c1, .slice p2 ws.length c2] 29)).heap.size = w.heap.size + 1 by simp] at M0
  obtain ⟨wa, hwa⟩ : ∃ wa, wa = (w.alloc (.cells #[.slice p1 ps.length c1, .slice p2 ws.length c2] 29)).alloc (.map #[] 0) := ⟨_, rfl⟩
  have T1 : Hid (TBox wa w.heap.size (.slice p1 ps.length c1) (.slice p2 ws.length c2)) := Lib.hid (by rw [hwa]; exact T0.alloc _)
  rw [← hwa] at B1 M0
  have HBA := Lib.hid B1
  have HMA := Lib.hid M0
  clear B1 M0 T0 hK
  obtain ⟨x0, x1⟩ := T1.out.cells
  have hmm := @run_makeMap Try.prog
  go_enter Try.func96, Try.ntmps96
  go_wp2_with fail
  rw [← hwa]
  clear hwa
  refine (CN.out _ HBA.out).mono ?_
  rintro e w1 ⟨uk, rfl, o1, b1⟩
  obtain ⟨gN, cN, rfl, hg1, hg2⟩ := o1.shape KP
  have HB1 := Lib.hid (HBA.out.trans (b1.mono HBA.out.size))
  have HM1 : Hid (MapI w1 (w.heap.size + 1) 0 (pairF K vs 0)) := Lib.hid (HMA.out.next b1)
  have DC := Lib.hid (fun j (hj : j < K.length) => o1.cellGet hj)
  have NG : Hid (w.heap.size + 1 < gN) := Lib.hid (by have := HMA.out.lt; omega)
  have G2 := Lib.hid hg2
  clear b1 o1 x0 x1 T1 HBA HMA CN hg1 hg2
  go_wp2_with fail
  go_loopg [17] K.length (fun gg i wr => ∃ k : Nat, k ≤ K.length ∧ K.length - k ≤ gg ∧ i = .int .i64 k ∧ Hid (MapI wr (w.heap.size + 1) k (pairF K vs k)) ∧ Hid (∀ j, j < K.length → wr.cell? ⟨gN, j, none⟩ = some (.int .i64 (K.getD j 0))) ∧ Hid (gN < wr.heap.size) ∧ Hid (Below w.heap.size w wr) ∧ Hid (SameTo K vs k))
  case atStart => exact ⟨0, Nat.zero_le _, by omega, rfl, HM1, DC, G2, HB1, Lib.hid (fun j hj => by omega)⟩
  case round =>
    obtain ⟨k, hk, hgg, rfl, HM, HD, HG, HB, HS⟩ := hrel
    clear HM1 DC G2 HB1
    by_cases hlt : k < K.length
    · have hce := HD.out k hlt
      have hltv : k < vs.length := by omega
      obtain ⟨b, off, rfl, hb, hc⟩ := E1.out.get hltv
      have hcw : wr.cell? ⟨b, off + k, none⟩ = some (.int .i64 (vs.getD k 0)) := by rw [HB.out.cell (p := ⟨b, off + k, none⟩) hb]; exact hc
      obtain ⟨kb1, kb2⟩ := KIN.out k hlt
      have vb := VB.out k hltv
      have NX := Lib.hid (NXT.out k HS.out)
      have BA := Lib.hid (fun y => BAD.out k y hlt)
      have PF : Hid (putF (pairF K vs k) (K.getD k 0) (some (vs.getD k 0)) = pairF K vs (k + 1)) := Lib.hid rfl
      have i0 : (0 : Int) ≤ (k : Int) := by omega
      have i1 : (k : Int) < (K.length : Int) := by omega
      have i2 : (k : Int) < (vs.length : Int) := by omega
      obtain ⟨z, hz⟩ : ∃ z, z = K.getD k 0 := ⟨_, rfl⟩
      obtain ⟨y, hy⟩ : ∃ z, z = vs.getD k 0 := ⟨_, rfl⟩
      rw [← hz] at hce kb1 kb2 NX BA PF
      rw [← hy] at hcw vb NX BA PF
      have HZ : Hid (InI64 z ∧ InI64 y) := Lib.hid (by unfold InI64; omega)
      clear hz hy hc HS
      obtain ⟨r, hr⟩ : ∃ r, r = pairF K vs k z := ⟨_, rfl⟩
      have HR := Lib.hid hr.symm
      rw [← hr] at NX BA
      clear hr
      cases r with
      | none =>
        have LG1 : Hid ((pairF K vs k z).getD 0 = 0) := Lib.hid (by rw [HR.out]; rfl)
        have LG2 : Hid ((pairF K vs k z).isSome = false) := Lib.hid (by rw [HR.out]; rfl)
        have N2 := Lib.hid (NX.out (fun v h => by cases h))
        clear NX BA HR
        go_wp2_with (first
          | (at_lookup; refine mapI_getok _ rfl _ _ _ rfl Try.underlying86 (w.heap.size + 1) k _ rfl HM.out z rfl HZ.out.1 ?_; rw [LG1.out, LG2.out])
          | (at_mapUpdate; refine mapI_put _ rfl _ _ _ _ rfl Try.underlying86 (w.heap.size + 1) k _ rfl HM.out (by unfold maxLen; omega) z y rfl rfl HZ.out.1 HZ.out.2 ?_; intro w3 h3 g3; (have A1 : Hid (MapI w3 (w.heap.size + 1) (k + 1) (pairF K vs (k + 1))) := Lib.hid (by rw [← PF.out]; exact h3)); (have A2 : Hid (∀ j, j < K.length → w3.cell? ⟨gN, j, none⟩ = some (.int .i64 (K.getD j 0))) := Lib.hid (fun j hj => by rw [ne_grownP g3 HG.out (fun q hq => by injection hq; have := NG.out; omega)]; exact HD.out j hj)); (have A3 := Lib.hid (HB.out.grown g3 HB.out.size (fun q hq => by injection hq; omega))); (have A4 : Hid (gN < w3.heap.size) := Lib.hid (Nat.lt_of_lt_of_le HG.out g3.size)); clear h3 g3))
        go_roundg (K.length - (k + 1))
        case rel => exact ⟨k + 1, by omega, by omega, by go_num, A1, A2, A4, A3, N2⟩
        case measure => omega
      | some t =>
        have LG1 : Hid ((pairF K vs k z).getD 0 = t) := Lib.hid (by rw [HR.out]; rfl)
        have LG2 : Hid ((pairF K vs k z).isSome = true) := Lib.hid (by rw [HR.out]; rfl)
        by_cases hty : t = y
        · have N2 := Lib.hid (NX.out (fun v h => by injection h with h; omega))
          have hb9 : (t != y) = false := by rw [bne_eq_false_iff_eq]; exact hty
          clear NX BA HR hty
          go_wp2_with (first
            | (at_lookup; refine mapI_getok _ rfl _ _ _ rfl Try.underlying86 (w.heap.size + 1) k _ rfl HM.out z rfl HZ.out.1 ?_; rw [LG1.out, LG2.out])
            | (at_mapUpdate; refine mapI_put _ rfl _ _ _ _ rfl Try.underlying86 (w.heap.size + 1) k _ rfl HM.out (by unfold maxLen; omega) z y rfl rfl HZ.out.1 HZ.out.2 ?_; intro w3 h3 g3; (have A1 : Hid (MapI w3 (w.heap.size + 1) (k + 1) (pairF K vs (k + 1))) := Lib.hid (by rw [← PF.out]; exact h3)); (have A2 : Hid (∀ j, j < K.length → w3.cell? ⟨gN, j, none⟩ = some (.int .i64 (K.getD j 0))) := Lib.hid (fun j hj => by rw [ne_grownP g3 HG.out (fun q hq => by injection hq; have := NG.out; omega)]; exact HD.out j hj)); (have A3 := Lib.hid (HB.out.grown g3 HB.out.size (fun q hq => by injection hq; omega))); (have A4 : Hid (gN < w3.heap.size) := Lib.hid (Nat.lt_of_lt_of_le HG.out g3.size)); clear h3 g3))
          go_roundg (K.length - (k + 1))
          case rel => exact ⟨k + 1, by omega, by omega, by go_num, A1, A2, A4, A3, N2⟩
          case measure => omega
        · have R := Lib.hid (BA.out t rfl hty)
          have hb9 : (t != y) = true := by rw [bne_iff_ne]; exact hty
          clear NX BA HR hty PF
          go_wp2_with (at_lookup; refine mapI_getok _ rfl _ _ _ rfl Try.underlying86 (w.heap.size + 1) k _ rfl HM.out z rfl HZ.out.1 ?_; rw [LG1.out, LG2.out])
          go_ret
          exact ⟨ret_b R.out, HB.out⟩
    · obtain rfl : k = K.length := by omega
      have R := Lib.hid (YES.out HS.out)
      clear HM HD HS NXT BAD YES
      go_wp2
      go_ret
      exact ⟨ret_b R.out, HB.out⟩
set_option maxRecDepth 100000 in
set_option maxHeartbeats 4000000 in
theorem knI (ps ws vs : List Int) (v u : Value) (w : World) (hl9 : vs.length ≤ 1048576) (h : TreeV w w.heap.size v ps ws) (hu : IntsV w w.heap.size u vs) :
    Calls Try.prog 37 #[v, u] w (Gives (knV ps ws vs) w) := by
  have EA := Lib.hid (fun w' (hb : Below w.heap.size w w') => paysI ps ws vs v u w' hl9 (h.boxed hb) ((hu.below hb).more hb.size))
  have AK := Lib.hid (fun (p : Pay ps ws vs) (d : Nat) w' (hb : Below w.heap.size w w') => areKnownI ps ws vs d v u w' p (h.boxed hb) ((hu.below hb).more hb.size))
  obtain ⟨p1, c1, p2, c2, rfl⟩ := h.shape
  obtain ⟨qa, da, rfl, _⟩ := hu
  clear h
  have B1 := (Below.refl w.heap.size w).alloc (Nat.le_refl _) (.cells #[.slice p1 ps.length c1, .slice p2 ws.length c2] 29)
  obtain ⟨wa, hwa⟩ : ∃ wa, wa = w.alloc (.cells #[.slice p1 ps.length c1, .slice p2 ws.length c2] 29) := ⟨_, rfl⟩
  have T1 : Hid (TBox wa w.heap.size (.slice p1 ps.length c1) (.slice p2 ws.length c2)) := Lib.hid (by rw [hwa]; exact alloc_heap w _)
  rw [← hwa] at B1
  have HBA := Lib.hid B1
  clear B1
  obtain ⟨x0, x1⟩ := T1.out.cells
  go_enter Try.func37, Try.ntmps37
  go_wp2_with fail
  rw [← hwa]
  clear hwa
  refine (EA.out _ HBA.out).mono ?_
  rintro e w1 ⟨b1, hA⟩
  have HB1 := Lib.hid (HBA.out.trans (b1.mono HBA.out.size))
  have T2 := Lib.hid (T1.out.below b1 T1.out.lt)
  clear b1 x0 x1 T1 HBA EA
  obtain ⟨x0, x1⟩ := T2.out.cells
  rcases hA with ⟨hevA, Ma, na, rfl, hMa, hmapA⟩ | ⟨hevA, rfl⟩
  · have PA := Lib.hid (payB_iff.1 hevA)
    have R := Lib.hid (knV_ok hevA)
    have AK2 := Lib.hid (AK.out PA.out)
    have DEEP := Lib.hid (knB_deep PA.out.good vs)
    have hn24 := PA.out.good.n24
    have HIT := Lib.hid (fun (f d : Nat) h => firstW_hit (p := knB ps vs) (f := f) (d := d) h)
    have MISS := Lib.hid (fun (f d : Nat) h => firstW_miss (p := knB ps vs) (f := f) (d := d) h)
    have KR : Hid (firstW (knB ps vs) (ps.length - 0) 0 = knR ps vs) := Lib.hid rfl
    clear hMa hmapA hevA AK PA
    obtain ⟨KN, hKN⟩ : ∃ KN, KN = knB ps vs := ⟨_, rfl⟩
    have AK3 : Hid (∀ (d : Nat) (w' : World), Below w.heap.size w w' → Calls Try.prog 96 #[.agg #[.slice p1 ps.length c1, .slice p2 ws.length c2], .slice qa vs.length da, .int .i64 d] w' (Gives (.bool (KN d)) w')) := Lib.hid (fun d w' hb => by rw [hKN]; exact AK2.out d w' hb)
    rw [← hKN] at DEEP HIT MISS KR
    clear hKN AK2
    go_wp2_with fail
    go_loopg [8] (ps.length + 1) (fun gg i wr => ∃ k : Nat, k ≤ ps.length ∧ ps.length - k + 1 ≤ gg ∧ i = .int .i64 k ∧ Hid (firstW KN (ps.length - k) k = knR ps vs) ∧ Hid (TBox wr w.heap.size (.slice p1 ps.length c1) (.slice p2 ws.length c2)) ∧ Hid (Below w.heap.size w wr))
    case atStart => exact ⟨0, Nat.zero_le _, by omega, rfl, KR, T2, HB1⟩
    case round =>
      obtain ⟨k, hk, hgg, rfl, HF, HT, HB⟩ := hrel
      clear KR T2 HB1 x0 x1
      obtain ⟨x0, x1⟩ := HT.out.cells
      have C := Lib.hid (AK3.out k wr HB.out)
      have HI := Lib.hid (HIT.out (ps.length - k) k)
      have MI : Hid (KN k = false → k < ps.length ∧ firstW KN (ps.length - (k + 1)) (k + 1) = knR ps vs) := Lib.hid (fun h => by
        have hlt : k < ps.length := by
          rcases Nat.lt_or_ge k ps.length with h' | h'
          · exact h'
          · obtain rfl : k = ps.length := by omega
            rw [DEEP.out] at h; cases h
        refine ⟨hlt, ?_⟩
        have := MISS.out (ps.length - (k + 1)) k h
        rw [← this, show ps.length - (k + 1) + 1 = ps.length - k by omega]
        exact HF.out)
      obtain ⟨t, ht⟩ : ∃ t, t = KN k := ⟨_, rfl⟩
      rw [← ht] at C MI HI
      clear ht
      cases t
      · obtain ⟨hlt, hf⟩ := MI.out rfl
        have HF2 := Lib.hid hf
        clear MI HI hf HF
        go_wp2_with fail
        refine C.out.mono ?_
        rintro e w3 ⟨rfl, b3⟩
        have HB3 := Lib.hid (HB.out.trans (b3.mono HB.out.size))
        have HT3 := Lib.hid (HT.out.below b3 HT.out.lt)
        clear b3
        go_wp2_with fail
        go_roundg (ps.length - (k + 1) + 1)
        case rel => exact ⟨k + 1, by omega, by omega, by go_num, HF2, HT3, HB3⟩
        case measure => omega
      · have KE := HI.out rfl
        have FIN : Hid (knV ps ws vs = .tuple #[.int .i64 k, .bool true]) := Lib.hid (by rw [R.out, ← HF.out, KE])
        clear MI HI HF KE R
        go_wp2_with fail
        refine C.out.mono ?_
        rintro e w3 ⟨rfl, b3⟩
        have HB3 := Lib.hid (HB.out.trans (b3.mono HB.out.size))
        clear b3
        go_wp2_with fail
        go_ret2
        exact ⟨by rw [FIN.out]; rfl, HB3.out⟩
  · have R := Lib.hid (knV_no hevA)
    clear hevA AK
    go_wp2_with fail
    go_ret2
    exact ⟨by rw [R.out]; rfl, HB1.out⟩
end Go.Proofs.Ytonlibncccljgaa
