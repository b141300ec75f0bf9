/- CountStops in the model. -/
import Derived.Test.YtonlibncccljgaaCntI
import Derived.Deep.LoopGhost
namespace Go.Proofs.Ytonlibncccljgaa
open Go.RowKit
set_option linter.unusedVariables false
theorem kidsF_goodC {ps ws : List Int} (g : Good ps ws) (x : Nat) : kidsF ps x ps.length = kidsT ps x := by
  rw [kidsT_eq]
  unfold kidsF
  refine nodesW_congr fun y hy => ?_
  rw [Bool.eq_iff_iff, Bool.and_eq_true, decide_eq_true_eq, beq_iff_eq]
  constructor
  · exact fun h => h.2
  · intro h
    have := g.kid_gt hy h
    exact ⟨by omega, h⟩
set_option maxRecDepth 100000 in
set_option maxHeartbeats 8000000 in
theorem cntM (ps ws : List Int) (v : Value) (w : World) (h : TreeV w w.heap.size v ps ws) :
    Calls Try.prog 31 #[v] w (Gives (cntW ps ws) w) := by
  have G := Lib.hid (fun w' (hb : Below w.heap.size w w') => goodS ps ws v w' (h.boxed hb))
  have KI := Lib.hid (fun w' x (hn : ps.length ≤ 1048576) (hx : x ≤ 1048576) (hb : Below w.heap.size w w') => kidsS ps ws v x w' hn hx (h.boxed hb))
  obtain ⟨v1, v2, rfl, ⟨p1, c1, rfl, l1, m1, _, i1⟩, ⟨p2, c2, rfl, l2, m2, _, i2⟩⟩ := h
  clear i1 i2 m1 m2 l1 l2
  have B1 := (Below.refl w.heap.size w).alloc (Nat.le_refl _) (.cells #[.slice p1 ps.length c1, .slice p2 ws.length c2] 29)
  obtain ⟨wa, hwa⟩ : ∃ wa, wa = w.alloc (.cells #[.slice p1 ps.length c1, .slice p2 ws.length c2] 29) := ⟨_, rfl⟩
  have T1 : Hid (TBox wa w.heap.size (.slice p1 ps.length c1) (.slice p2 ws.length c2)) := Lib.hid (by rw [hwa]; exact alloc_heap w _)
  rw [← hwa] at B1
  have HBA := Lib.hid B1
  clear B1
  obtain ⟨x0, x1⟩ := T1.out.cells
  cases hg : goodT ps ws
  · rw [hg] at G
    have R := Lib.hid (cntW_no hg)
    clear hg KI
    go_enter Try.func31, Try.ntmps31
    go_wp2_with fail
    rw [← hwa]
    clear hwa
    refine (G.out _ HBA.out).mono ?_
    rintro e w1 ⟨rfl, b1⟩
    have HB1 := Lib.hid (HBA.out.trans (b1.mono HBA.out.size))
    clear b1
    go_wp2_with fail
    go_ret2
    exact ⟨by rw [R.out]; rfl, HB1.out⟩
  · rw [hg] at G
    have R := Lib.hid (cntW_ok hg)
    have gd := Good.of hg
    have hn := gd.n24
    have hn1 := gd.n1
    have hp := ParOk.of gd
    have KG := Lib.hid (fun (x : Nat) => kidsF_goodC gd x)
    have KN : Hid (∀ (x : Nat), ∀ z ∈ kidsT ps (x : Int), ∃ y : Nat, z = (y : Int) ∧ y < ps.length ∧ x < y) := Lib.hid (fun x z hz => by
      rw [kidsT_eq] at hz
      obtain ⟨y, h1, h2, h3⟩ := nodesW_mem hz
      exact ⟨y, h1, h2, gd.kid_gt h2 (by simpa using h3)⟩)
    have KL : Hid (∀ (x : Nat), (kidsT ps (x : Int)).length ≤ 24) := Lib.hid (fun x => by rw [kidsT_eq]; exact Nat.le_trans (nodesW_len _ _) hn)
    have FB := Lib.hid (fun (y : Nat) (hy : y < ps.length) => cntF_bd hp hn hy)
    have FK := Lib.hid (fun (x : Nat) (hx : x < ps.length) => cntF_kids gd.root hp hx)
    have KB : Hid (∀ (x : Nat), x < ps.length → kidP (cntF ps) (kidsT ps (x : Int)) ≤ 16777216) := Lib.hid (fun x hx => by
      rw [← cnt_kids gd.root hp hx]
      have h1 := cntL_le hp (m := ps.length - 1 - x) (y := x) (by omega) (by omega)
      have h2 := pow24 (m := ps.length - 1 - x) (by omega)
      omega)
    have ML := Lib.hid (manyL_len ps)
    have MA := Lib.hid (fun (m y : Nat) (hy : y < ps.length) (h : ps.length - m ≤ y) => manyL_at hy h)
    have MS := Lib.hid (fun (m x : Nat) (hx : ps.length - m = x + 1) => manyL_set hx)
    have Z0 := Lib.hid (manyL_zero ps)
    clear gd hg hp
    obtain ⟨F, hF⟩ : ∃ F, F = cntF ps := ⟨_, rfl⟩
    rw [← hF] at R FB FK KB MA MS
    clear hF
    obtain ⟨i0, hi, hz0, hz1, hz2⟩ := info_parts intInfo
    have c1' : i0.bytes * ps.length ≤ 281474976710656 := by rw [hz2]; omega
    have c2' : ps.length ≤ maxLen := by unfold maxLen; omega
    go_enter Try.func31, Try.ntmps31
    go_wp2_with fail
    rw [← hwa]
    clear hwa
    refine (G.out _ HBA.out).mono ?_
    rintro e w1 ⟨rfl, b1⟩
    have HB1 := Lib.hid (HBA.out.trans (b1.mono HBA.out.size))
    have T2 := Lib.hid (T1.out.below b1 T1.out.lt)
    clear b1 x0 x1 T1 HBA
    obtain ⟨x0, x1⟩ := T2.out.cells
    go_wp2_with (at_make; refine wpList_make_full _ rfl _ _ 22 rfl w1.heap.size 3 i0 (.int .i64 0) 1 Try.underlying22 hi hz0 hz1 .i64 .i64 _ _ ps.length rfl rfl rfl rfl c1' c2' (Nat.le_refl _) ?_; intro w2 hown hg2)
    have hown1 : w2.ownsRow w1.heap.size 3 1 (.slice (some ⟨w1.heap.size, 0, none⟩) ps.length ps.length) ps.length (List.replicate ps.length (.int .i64 0)) := by
      have h2 := hown
      rw [show (Value.int .i64 0).cells = #[Value.int .i64 0] from rfl, Nat.mul_one, toList_madeCells_one] at h2
      exact h2
    have O2 := Lib.hid (OwnV.made hown1)
    rw [← Z0.out] at O2
    have B2 := Lib.hid (HB1.out.grown hg2 HB1.out.size (fun q hq => by simp at hq))
    have T3 := Lib.hid (T2.out.grown hg2 (lo := w1.heap.size) (fun q hq => by simp at hq) T2.out.lt)
    obtain ⟨gb, hgb⟩ : ∃ G, G = w1.heap.size := ⟨_, rfl⟩
    have NG : Hid (w.heap.size < gb) := Lib.hid (by rw [hgb]; exact T2.out.lt)
    rw [← hgb] at O2 ⊢
    clear hown hown1 hg2 c1' c2' hi hz0 hz1 hz2 x0 x1 T2 HB1 hgb
    go_wp2_with fail
    go_loopg [5] (ps.length + 1) (fun gg i wr => ∃ k : Nat, k ≤ ps.length ∧ k + 1 ≤ gg ∧ i = .int .i64 ((k : Int) - 1) ∧ Hid (OwnV wr gb wr.heap.size (.slice (some ⟨gb, 0, none⟩) ps.length ps.length) (manyL ps (ps.length - k))) ∧ Hid (TBox wr w.heap.size (.slice p1 ps.length c1) (.slice p2 ws.length c2)) ∧ Hid (Below w.heap.size w wr))
    case atStart => exact ⟨ps.length, Nat.le_refl _, by omega, rfl, Lib.hid (by rw [Nat.sub_self]; exact O2.out), T3, B2⟩
    case round =>
      obtain ⟨k, hk, hgg, rfl, HO, HT, HB⟩ := hrel
      obtain ⟨x0, x1⟩ := HT.out.cells
      clear T3 B2 O2
      rcases Nat.eq_zero_or_pos k with hk0 | hk0
      · subst hk0
        rw [Nat.sub_zero] at HO
        have h0c := HO.out.cellGet (j := 0) (by rw [ML.out]; omega)
        rw [MA.out ps.length 0 (by omega) (by omega)] at h0c
        have FIN : Hid (Gives (cntW ps ws) w (.returned (.tuple #[.int .i64 (F 0), .bool true])) wr) := Lib.hid ⟨by rw [R.out], HB.out⟩
        obtain ⟨r, hr⟩ : ∃ r, r = F 0 := ⟨_, rfl⟩
        rw [← hr] at h0c FIN
        have i1 : (0 : Int) < (ps.length : Int) := by omega
        clear HO HT HB hr
        go_wp2
        go_ret2
        exact FIN.out
      · obtain ⟨x, rfl⟩ : ∃ x, k = x + 1 := ⟨k - 1, by omega⟩
        rw [show (((x + 1 : Nat) : Int) - 1) = (x : Int) by omega]
        have hlt : x < ps.length := by omega
        obtain ⟨m, hm⟩ : ∃ m, m = ps.length - (x + 1) := ⟨_, rfl⟩
        rw [← hm] at HO
        have hmx : ps.length - m = x + 1 := by omega
        have hm1 : m + 1 = ps.length - x := by omega
        have HM1 := Lib.hid hm1
        have K2 := Lib.hid (KI.out wr x (by omega) (by omega) HB.out)
        rw [KG.out x] at K2
        have KN2 := Lib.hid (KN.out x)
        have KL2 := KL.out x
        have FK2 := Lib.hid (FK.out x hlt)
        have KB2 := KB.out x hlt
        have SE := Lib.hid (MS.out m x hmx)
        have FX := FB.out x hlt
        obtain ⟨K, hK⟩ : ∃ K, K = kidsT ps (x : Int) := ⟨_, rfl⟩
        rw [← hK] at K2 KN2 KL2 FK2 KB2
        have KNI : Hid (∀ i, i < K.length → ∃ y : Nat, K.getD i 0 = (y : Int) ∧ y < ps.length ∧ x < y) := Lib.hid (fun i hi => KN2.out _ (by
          rw [List.getD_eq_getElem?_getD, List.getElem?_eq_getElem hi]
          exact List.getElem_mem _))
        have KP : Hid (∀ j, j ≤ K.length → 1 ≤ kidP F (K.take j) ∧ kidP F (K.take j) ≤ kidP F K) := Lib.hid (fun j hj => kidP_bd (fun z hz => by
          obtain ⟨y, rfl, hy, _⟩ := KN2.out z hz
          rw [Int.toNat_natCast]
          exact (FB.out y hy).1) j hj)
        have KT := Lib.hid (fun j (hj : j < K.length) => kidP_take F hj)
        have MA2 := Lib.hid (fun (y : Nat) (hy : y < ps.length) (h : x < y) => MA.out m y hy (by omega))
        have i0 : (0 : Int) ≤ (x : Int) := by omega
        have i1 : (x : Int) < (ps.length : Int) := by omega
        clear hK hm hmx hm1
        go_wp2_with fail
        refine K2.out.mono ?_
        rintro e w3 ⟨u3, rfl, o3, b3⟩
        obtain ⟨pk, ck, rfl, _, _, _, ik⟩ := o3.intsV
        have IK := Lib.hid ik
        have HO1 := Lib.hid ((HO.out.below b3).wide b3.size (Nat.le_refl _))
        have HT1 := Lib.hid (HT.out.below b3 HT.out.lt)
        have HB1 := Lib.hid (HB.out.trans (b3.mono HB.out.size))
        clear b3 o3 ik HO HT HB x0 x1 K2
        obtain ⟨x0, x1⟩ := HT1.out.cells
        go_wp2_with fail
        go_loopg [7, 8] K.length (fun gg q i wr' => ∃ j : Nat, j ≤ K.length ∧ K.length - j ≤ gg ∧ i = .int .i64 j ∧ q = .int .i64 (kidP F (K.take j)) ∧ wr' = w3)
        case atStart => exact ⟨0, Nat.zero_le _, by omega, rfl, rfl, rfl⟩
        case round =>
          obtain ⟨j, hj, hgj, rfl, rfl, rfl⟩ := hrel
          by_cases hjl : j < K.length
          · obtain ⟨y, hy, hyl, hxy⟩ := KNI.out j hjl
            obtain ⟨bk, ok, rfl, hbk, hck⟩ := IK.out.get hjl
            rw [hy] at hck
            have hmy := HO1.out.cellGet (j := y) (by rw [ML.out]; exact hyl)
            rw [MA2.out y hyl hxy] at hmy
            have TK := KT.out j hjl
            rw [hy, Int.toNat_natCast] at TK
            have b1 := KP.out j hj
            have b2 := KP.out (j + 1) (by omega)
            have b3 := FB.out y hyl
            obtain ⟨q, hq⟩ : ∃ q, q = kidP F (K.take j) := ⟨_, rfl⟩
            obtain ⟨fy, hfy⟩ : ∃ q, q = F y := ⟨_, rfl⟩
            rw [← hq] at TK b1 ⊢
            rw [← hfy] at hmy TK b3
            rw [TK] at b2
            have TK2 := Lib.hid TK
            have j0 : (0 : Int) ≤ (j : Int) := by omega
            have j1 : (j : Int) < (K.length : Int) := by omega
            have y0 : (0 : Int) ≤ (y : Int) := by omega
            have y1 : (y : Int) < (ps.length : Int) := by omega
            have WR : IntKind.i64.wrap (q * fy) = q * fy := IntWalk.i64_in _ (by omega)
            clear hy hq hfy TK b1 b2 b3
            go_wp2_with fail
            go_roundg (K.length - (j + 1))
            case rel => exact ⟨j + 1, by omega, by omega, by go_num, by rw [TK2.out], by first | trivial | rfl⟩
            case measure => omega
          · obtain rfl : j = K.length := by omega
            have hfz := HO1.out.frozenGet x
            have hol := HO1.out.cellGet (j := x) (by rw [ML.out]; exact hlt)
            have TA : Hid (kidP F (K.take K.length) = kidP F K) := Lib.hid (by rw [List.take_of_length_le (Nat.le_refl _)])
            rw [TA.out]
            have b1 := KP.out K.length (Nat.le_refl _)
            rw [TA.out] at b1
            obtain ⟨old, hold⟩ : ∃ z, z = (manyL ps m).getD x 0 := ⟨_, rfl⟩
            rw [← hold] at hol
            obtain ⟨q, hq⟩ : ∃ q, q = kidP F K := ⟨_, rfl⟩
            rw [← hq] at FK2 b1 KB2 ⊢
            have O3 := HO1.out.setAt x (x := F x) (by unfold InI64; omega)
            rw [SE.out] at O3
            have O4 := Lib.hid O3
            have T4 := Lib.hid (HT1.out.set (g := gb) (o := x) (x := .int .i64 (F x)) (by have := NG.out; omega))
            have B4 := Lib.hid (HB1.out.setCell (p := ⟨gb, x, none⟩) (Nat.le_of_lt NG.out) (.int .i64 (F x)))
            obtain ⟨fx, hfx⟩ : ∃ q, q = F x := ⟨_, rfl⟩
            rw [← hfx] at FK2 O4 T4 B4 FX
            by_cases hk0 : 0 < K.length
            · have hne : K ≠ [] := fun e => by rw [e] at hk0; simp at hk0
              have FE := FK2.out
              rw [if_neg hne] at FE
              have FE2 := Lib.hid FE
              rw [FE] at O4 T4 B4
              have hkl : decide ((0 : Int) < (K.length : Int)) = true := decide_eq_true (by omega)
              clear hq hold hfx O3 FE hne
              go_wp2_with fail
              go_roundg (x + 1)
              case rel => exact ⟨x, by omega, by omega, rfl, Lib.hid (by have h := O4.out; rw [HM1.out] at h; simpa [World.setCell] using h), T4, B4⟩
              case measure => omega
            · have hnil : K = [] := List.eq_nil_of_length_eq_zero (by omega)
              have FE := FK2.out
              rw [if_pos hnil] at FE
              have q1 : q = 1 := by rw [hq, hnil]; rfl
              rw [FE] at O4 T4 B4
              have hkl : decide ((0 : Int) < (K.length : Int)) = false := decide_eq_false (by omega)
              clear hq hold hfx O3 FE
              subst q1
              clear hnil
              go_wp2_with fail
              go_roundg (x + 1)
              case rel => exact ⟨x, by omega, by omega, rfl, Lib.hid (by have h := O4.out; rw [HM1.out] at h; simpa [World.setCell] using h), T4, B4⟩
              case measure => omega
end Go.Proofs.Ytonlibncccljgaa
