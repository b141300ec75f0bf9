/- Caps in the program. -/
import Derived.Test.YtfpckfameebdnaaGonI
import Derived.Test.YtfpckfameebdnaaNodes
import Derived.Deep.LoopGhost
namespace Go.Proofs.Ytfpckfameebdnaa
open Go.RowKit
set_option linter.unusedVariables false
theorem isEndC {ps ws : List Int} {v : Value} {x : Nat} {w : World} (gd : Good ps ws) (hx : x < ps.length) (h : TreeV w w.heap.size v ps ws) : Calls Try.prog 91 #[v, .int .i64 x] w (Gives (.bool (leafB ps x)) w) := by
  have := isEndI ps ws v x w (by rw [gd.nw]; exact hx) h
  rwa [show decide (0 < ws.getD x 0) = leafB ps x by rw [Bool.eq_iff_iff, decide_eq_true_iff]; exact gd.end_iff hx] at this
/-- A step that has gone through the nodes below a number. -/
def midL (A B : List Int) (n k : Nat) : List Int := (List.range n).map fun y => if y < k then B.getD y 0 else A.getD y 0
theorem midL_len (A B : List Int) (n k : Nat) : (midL A B n k).length = n := by simp [midL]
theorem midL_at {A B : List Int} {n k y : Nat} (hy : y < n) : (midL A B n k).getD y 0 = if y < k then B.getD y 0 else A.getD y 0 := by
  unfold midL
  rw [List.getD_eq_getElem?_getD, List.getElem?_map, List.getElem?_range hy]; rfl
theorem midL_zero {A B : List Int} {n : Nat} (h : A.length = n) : midL A B n 0 = A := list_eq (midL_len _ _ _ _) h (fun x hx => by rw [midL_at hx, if_neg (by omega)])
theorem midL_all {A B : List Int} {n : Nat} (h : B.length = n) : midL A B n n = B := list_eq (midL_len _ _ _ _) h (fun x hx => by rw [midL_at hx, if_pos hx])
theorem midL_set {A B : List Int} {n k : Nat} (hk : k < n) : (midL A B n k).set k (B.getD k 0) = midL A B n (k + 1) := by
  refine list_eq (n := n) (by rw [List.length_set, midL_len]) (midL_len _ _ _ _) (fun y hy => ?_)
  rw [midL_at hy]
  by_cases h : k = y
  · subst h
    rw [getD_set_same (by rw [midL_len]; exact hy), if_pos (by omega)]
  · rw [getD_set_other (by omega), midL_at hy]
    by_cases h2 : y < k
    · rw [if_pos h2, if_pos (by omega)]
    · rw [if_neg h2, if_neg (by omega)]
theorem midL_same {A B : List Int} {n k : Nat} (hk : k < n) (h : B.getD k 0 = A.getD k 0) : midL A B n (k + 1) = midL A B n k := by
  refine list_eq (n := n) (midL_len _ _ _ _) (midL_len _ _ _ _) (fun y hy => ?_)
  rw [midL_at hy, midL_at hy]
  by_cases h2 : y < k
  · rw [if_pos h2, if_pos (by omega)]
  · rw [if_neg h2]
    by_cases h3 : y = k
    · subst h3; rw [if_pos (by omega), h]
    · rw [if_neg (by omega)]
theorem midL_bd {A B : List Int} {n k : Nat} {c : Int} (ha : ∀ y, y < n → -c ≤ A.getD y 0 ∧ A.getD y 0 ≤ c) (hb : ∀ y, y < n → -c ≤ B.getD y 0 ∧ B.getD y 0 ≤ c) : ∀ y, y < n → -c ≤ (midL A B n k).getD y 0 ∧ (midL A B n k).getD y 0 ≤ c := fun y hy => by
  rw [midL_at hy]
  split
  · exact hb y hy
  · exact ha y hy
theorem max_cap (a b : Int) : (if a < b then b else a) = max a b := by omega
theorem capS_leaf {ps own C : List Int} {x : Nat} (hx : x < ps.length) (hl : leafB ps x = true) (ho : C.getD x 0 = own.getD x 0) : (capS ps own C).getD x 0 = C.getD x 0 := by
  rw [capS_at hx]; unfold capX; rw [if_pos hl, ho]
theorem capS_inner {ps own C : List Int} {x : Nat} (hx : x < ps.length) (hl : leafB ps x = false) : (capS ps own C).getD x 0 = max (own.getD x 0) (kidT ps C x) := by
  rw [capS_at hx]; unfold capX; rw [if_neg (by rw [hl]; decide)]
set_option maxRecDepth 100000 in
set_option maxHeartbeats 16000000 in
theorem capsI (ps ws zs : List Int) (m : Nat) (g : Value) (w : World) (hm : m ≤ 1000) (pr : Proc ps ws zs) (h : Game w w.heap.size g ps ws zs) :
    Calls Try.prog 89 #[g, .int .i64 m] w (NewInts (capN ps (ownT (sumsT ps ws) zs ps.length) m) w) := by
  have gd := pr.good
  have hn := gd.n24
  have hn0 := gd.n1
  have PD := Lib.hid (fun w' (x : Nat) (hx : x < ps.length) (hb : Below w.heap.size w w') => paidI ps ws zs g x w' pr hx (h.boxed hb))
  have GO := Lib.hid (fun w' (C : List Int) (u : Value) (hb : Below w.heap.size w w') (hC : C.length = ps.length) (hbd : ∀ y, y < ps.length → (C.getD y 0).natAbs ≤ 1000000000) (hu : IntsV w' w'.heap.size u C) => goingI ps ws zs C 0 g u w' pr hC hbd (h.boxed hb) hu)
  have OL := Lib.hid (ownT_len (sumsT ps ws) zs ps.length)
  have OA := Lib.hid (fun (x : Nat) (hx : x < ps.length) => ownT_at (su := sumsT ps ws) (zs := zs) hx)
  have OS := Lib.hid (fun (x : Nat) (hx : x < ps.length) => own_small pr hx)
  have CS := Lib.hid (fun (k x : Nat) (hx : x < ps.length) => cap_small pr k hx)
  have KS := Lib.hid (fun (k x : Nat) => kid_small pr k x (Nat.le_refl ps.length))
  have CL := Lib.hid (fun k => capN_len (ps := ps) (ownT_len (sumsT ps ws) zs ps.length) k)
  have CLF := Lib.hid (fun (k x : Nat) (hx : x < ps.length) (hl : leafB ps x = true) => capN_leaf (own := ownT (sumsT ps ws) zs ps.length) hx hl k)
  have SL := Lib.hid (sumsT_len gd.nw)
  have IE := Lib.hid (fun v (ht : TreeV w w.heap.size v ps ws) w' (x : Nat) (hx : x < ps.length) (hb : Below w.heap.size w w') => isEndC (v := v) gd hx (ht.boxed hb))
  obtain ⟨v1, v2, us, uz, rfl, h1, h2, h3⟩ := h
  have IE2 := Lib.hid (IE.out _ h1)
  obtain ⟨p1, c1, p2, c2, hs⟩ := h1.shape
  injection hs with hs
  injection hs with hs
  injection hs with hs1 hs
  injection hs with hs2 hs
  subst hs1; subst hs2
  clear hs
  obtain ⟨p3, c3, rfl, _⟩ := h2
  obtain ⟨p4, c4, rfl, _⟩ := h3
  obtain ⟨S, hS⟩ : ∃ S, S = sumsT ps ws := ⟨_, rfl⟩
  rw [← hS] at PD GO OL OA OS CS KS CL CLF SL ⊢
  obtain ⟨O, hO⟩ : ∃ O, O = ownT S zs ps.length := ⟨_, rfl⟩
  rw [← hO] at OL OA CS KS CL CLF ⊢
  clear hS hO IE h1 gd pr
  have sl1 : S.length ≤ ps.length := by have := SL.out; omega
  have sl2 : ps.length ≤ S.length := by have := SL.out; omega
  have SLE := SL.out
  obtain ⟨sn, hsn⟩ : ∃ sn, sn = S.length := ⟨_, rfl⟩
  have SNE : Hid (sn = ps.length) := Lib.hid (by rw [hsn, SLE])
  rw [← hsn] at sl1 sl2 PD GO ⊢
  clear hsn SLE
  have B1 := (Below.refl w.heap.size w).alloc (Nat.le_refl _) (.cells #[.slice p1 ps.length c1, .slice p2 ws.length c2, .slice p3 sn c3, .slice p4 zs.length c4] 73)
  have R1 := show GBox (w.alloc (.cells #[.slice p1 ps.length c1, .slice p2 ws.length c2, .slice p3 sn c3, .slice p4 zs.length c4] 73)) w.heap.size _ _ _ _ from alloc_heap w _
  obtain ⟨x0, x1, x2, x3⟩ := R1.cells
  obtain ⟨wa, hwa⟩ : ∃ wa, wa = w.alloc (.cells #[.slice p1 ps.length c1, .slice p2 ws.length c2, .slice p3 sn c3, .slice p4 zs.length c4] 73) := ⟨_, rfl⟩
  have sz : wa.heap.size = w.heap.size + 1 := by rw [hwa]; simp
  rw [← hwa] at B1 R1
  have HB2 := Lib.hid B1
  have HT2 := Lib.hid R1
  have SZ := Lib.hid sz
  clear B1 R1 sz
  obtain ⟨i0, hi, hz0, hz1, hz2⟩ := info_parts intInfo
  have c1' : i0.bytes * sn ≤ 281474976710656 := by rw [hz2]; omega
  have c2' : sn ≤ maxLen := by unfold maxLen; omega
  go_enter Try.func89, Try.ntmps89
  go_wp2_with (at_make; refine wpList_make_full _ rfl _ _ 22 rfl (w.heap.size + 1) 3 i0 (.int .i64 0) 1 Try.underlying22 hi hz0 hz1 .i64 .i64 _ _ sn rfl rfl rfl rfl c1' c2' (by simp) ?_; intro w3 hown hg2)
  rw [← hwa] at hg2
  have hown1 : w3.ownsRow (w.heap.size + 1) 3 1 (.slice (some ⟨w.heap.size + 1, 0, none⟩) sn sn) sn (List.replicate sn (.int .i64 0)) := by
    have h2 := hown
    rw [show (Value.int .i64 0).cells = #[Value.int .i64 0] from rfl, Nat.mul_one, toList_madeCells_one] at h2
    simpa using h2
  have O2 := OwnV.made hown1
  have Z0 : Hid (midL (List.replicate sn 0) O ps.length 0 = List.replicate sn 0) := Lib.hid (midL_zero (by rw [List.length_replicate, SNE.out]))
  rw [← Z0.out] at O2
  have HO2 := Lib.hid O2
  have BW := Lib.hid ((Below.refl wa.heap.size wa).grown hg2 (Nat.le_refl _) (fun q hq => by simp at hq))
  have ZB := Lib.hid (fun (y : Nat) (hy : y < ps.length) => show (List.replicate sn (0 : Int)).getD y 0 = 0 from by rw [List.getD_eq_getElem?_getD, List.getElem?_replicate]; split <;> rfl)
  clear hown hown1 hg2 c1' c2' hi hz0 hz1 hz2 hwa O2 x0 x1 x2 x3 Z0
  obtain ⟨Z, hZ⟩ : ∃ Z : List Int, Z = List.replicate sn 0 := ⟨_, rfl⟩
  rw [← hZ] at HO2 ZB
  clear hZ
  go_wp2_with fail
  go_loopw [15] (fun i wr => ∃ k : Nat, k ≤ ps.length ∧ i = .int .i64 k ∧ Hid (OwnV wr (w.heap.size + 1) wr.heap.size (.slice (some ⟨w.heap.size + 1, 0, none⟩) sn sn) (midL Z O ps.length k)) ∧ Hid (Below wa.heap.size wa wr)) (fun i _ => ps.length - (intOf i).toNat)
  case atStart => exact ⟨0, Nat.zero_le _, rfl, HO2, BW⟩
  case round =>
    obtain ⟨k, hk, rfl, HO, HB⟩ := hrel
    have HBX := Lib.hid (HB2.out.trans (HB.out.mono HB2.out.size))
    have HTX := Lib.hid (HT2.out.below HB.out HT2.out.lt)
    obtain ⟨x0, x1, x2, x3⟩ := HTX.out.cells
    clear HO2 BW
    by_cases hlt : k < ps.length
    · have C := Lib.hid (PD.out wr k hlt HBX.out)
      have os := OS.out k hlt
      have se := midL_set (A := Z) (B := O) hlt
      rw [OA.out k hlt] at se
      have SE := Lib.hid se
      have i0' : (0 : Int) ≤ (k : Int) := by omega
      have i1' : (k : Int) < (ps.length : Int) := by omega
      have i2' : (k : Int) < (sn : Int) := by omega
      obtain ⟨c, hcc⟩ : ∃ c, c = S.getD k 0 * zs.getD k 0 := ⟨_, rfl⟩
      rw [← hcc] at C os SE
      clear hcc se
      go_wp2_with fail
      refine C.out.mono ?_
      rintro e w4 ⟨rfl, b4⟩
      have HB4 := Lib.hid (HB.out.trans (b4.mono HB.out.size))
      have HO4 := Lib.hid ((HO.out.below b4).wide b4.size (Nat.le_refl _))
      clear b4
      have hold := HO4.out.cellGet (j := k) (by rw [midL_len]; exact hlt)
      have hfz := HO4.out.frozenGet k
      have O5 := Lib.hid (HO4.out.setAt k (x := c) (by unfold InI64; omega))
      rw [SE.out] at O5
      have B5 := Lib.hid (HB4.out.setCell (p := ⟨w.heap.size + 1, k, none⟩) (by simp; have := SZ.out; omega) (.int .i64 c))
      clear HO4 HB4 HO HB
      go_wp2_with fail
      go_roundw
      case rel => exact ⟨k + 1, by omega, by go_num, Lib.hid (by have h := O5.out; simpa [World.setCell] using h), B5⟩
      case measure => simp [intOf]; omega
    · have hkn : k = ps.length := by omega
      have HO0 : Hid (OwnV wr (w.heap.size + 1) wr.heap.size (.slice (some ⟨w.heap.size + 1, 0, none⟩) sn sn) (capN ps O 0)) := Lib.hid (by have h := HO.out; rw [hkn, midL_all OL.out] at h; exact h)
      have i2' : ¬ (k : Int) < (sn : Int) := by omega
      clear HO hkn
      go_wp2_with fail
      go_loopg [26] m (fun gg i wq => ∃ j : Nat, j ≤ m ∧ m - j ≤ gg ∧ i = .int .i64 j ∧ Hid (OwnV wq (w.heap.size + 1) wq.heap.size (.slice (some ⟨w.heap.size + 1, 0, none⟩) sn sn) (capN ps O j)) ∧ Hid (Below wa.heap.size wa wq))
      case atStart => exact ⟨0, Nat.zero_le _, by omega, rfl, HO0, HB⟩
      case round =>
        clear x0 x1 x2 x3 HBX HTX HO0 HB
        obtain ⟨j, hj, hgg, rfl, HO, HB⟩ := hrel
        have HBX := Lib.hid (HB2.out.trans (HB.out.mono HB2.out.size))
        have HTX := Lib.hid (HT2.out.below HB.out HT2.out.lt)
        obtain ⟨x0, x1, x2, x3⟩ := HTX.out.cells
        by_cases hlt : j < m
        · have CB := Lib.hid (CS.out j)
          have KB := Lib.hid (KS.out j)
          have NB := Lib.hid (CS.out (j + 1))
          have CLj := Lib.hid (CL.out j)
          have CLn := Lib.hid (CL.out (j + 1))
          have LF := Lib.hid (fun (x : Nat) (hx : x < ps.length) (hl : leafB ps x = true) => show (capN ps O (j + 1)).getD x 0 = (capN ps O j).getD x 0 from by rw [CLF.out (j + 1) x hx hl, CLF.out j x hx hl])
          have INN := Lib.hid (fun (x : Nat) (hx : x < ps.length) (hl : leafB ps x = false) => show (capN ps O (j + 1)).getD x 0 = max (S.getD x 0 * zs.getD x 0) (kidT ps (capN ps O j) x) from by
            rw [← OA.out x hx]; exact capS_inner hx hl)
          obtain ⟨C, hC⟩ : ∃ C, C = capN ps O j := ⟨_, rfl⟩
          obtain ⟨D, hD⟩ : ∃ D, D = capN ps O (j + 1) := ⟨_, rfl⟩
          have HDH := Lib.hid hD
          rw [← hC] at CB KB CLj LF INN HO
          rw [← hD] at NB CLn LF INN
          have cl : C.length = sn := by rw [CLj.out, SNE.out]
          have IV : IntsV wr wr.heap.size (.slice (some ⟨w.heap.size + 1, 0, none⟩) sn sn) C := HO.out.intsV
          have CG := Lib.hid (GO.out wr C _ HBX.out CLj.out (fun y hy => by have := CB.out y hy; omega) IV)
          clear IV cl hC hD
          go_wp2_with fail
          refine CG.out.mono ?_
          rintro e w4 ⟨ug, rfl, o4, b4⟩
          obtain ⟨gg2, cg, rfl, hg1, hg2⟩ := o4.shape (by rw [gonL_len]; omega)
          have HB4 := Lib.hid (HB.out.trans (b4.mono HB.out.size))
          have HO4 := (HO.out.below b4).wide b4.size (Nat.le_refl _)
          have M0 : Hid (midL C D ps.length 0 = C) := Lib.hid (midL_zero CLj.out)
          rw [← M0.out] at HO4
          have HO4H := Lib.hid HO4
          have DC : Hid (∀ y, y < ps.length → w4.cell? ⟨gg2, y, none⟩ = some (.int .i64 (kidT ps C y))) := Lib.hid (fun y hy => by
            have := o4.cellGet (j := y) (by rw [gonL_len]; exact hy)
            rwa [gonL_all hy] at this)
          have G2 := Lib.hid hg2
          have G1 := Lib.hid (show w.heap.size + 2 ≤ gg2 from by
            have h1 := HO.out.lt (w.heap.size + 1) rfl
            omega)
          obtain ⟨gn, hgn⟩ : ∃ gn, gn = (gonL ps C ps.length).length := ⟨_, rfl⟩
          have gl1 : gn ≤ ps.length := by rw [hgn, gonL_len]; exact Nat.le_refl _
          have gl2 : ps.length ≤ gn := by rw [hgn, gonL_len]; exact Nat.le_refl _
          rw [← hgn]
          clear o4 b4 hg1 hg2 hgn HO4 HO HB HBX HTX x0 x1 x2 x3 CG GO
          go_wp2_with fail
          go_loopw [32] (fun i wq => ∃ k : Nat, k ≤ ps.length ∧ i = .int .i64 k ∧ Hid (OwnV wq (w.heap.size + 1) wq.heap.size (.slice (some ⟨w.heap.size + 1, 0, none⟩) sn sn) (midL C D ps.length k)) ∧ Hid (∀ y, y < ps.length → wq.cell? ⟨gg2, y, none⟩ = some (.int .i64 (kidT ps C y))) ∧ Hid (gg2 < wq.heap.size) ∧ Hid (Below wa.heap.size wa wq)) (fun i _ => ps.length - (intOf i).toNat)
          case atStart => exact ⟨0, Nat.zero_le _, rfl, HO4H, DC, G2, HB4⟩
          case round =>
            clear HO4H DC G2 HB4
            obtain ⟨k, hk, rfl, HO, HD, HG, HB⟩ := hrel
            have HBX := Lib.hid (HB2.out.trans (HB.out.mono HB2.out.size))
            have HTX := Lib.hid (HT2.out.below HB.out HT2.out.lt)
            obtain ⟨x0, x1, x2, x3⟩ := HTX.out.cells
            by_cases hlt3 : k < ps.length
            · have hdk := HD.out k hlt3
              have CI := Lib.hid (IE2.out wr k hlt3 HBX.out)
              have kb := KB.out k
              have nb := NB.out k hlt3
              have i0' : (0 : Int) ≤ (k : Int) := by omega
              have i1' : (k : Int) < (ps.length : Int) := by omega
              have i2' : (k : Int) < (sn : Int) := by omega
              have i3' : (k : Int) < (gn : Int) := by omega
              have se := midL_set (A := C) (B := D) hlt3
              cases hl : leafB ps k
              · have inn := INN.out k hlt3 hl
                rw [hl] at CI
                have CP := Lib.hid (fun w' hb => PD.out w' k hlt3 hb)
                have os := OS.out k hlt3
                obtain ⟨kk, hkk⟩ : ∃ kk, kk = kidT ps C k := ⟨_, rfl⟩
                rw [← hkk] at hdk inn
                obtain ⟨c, hcc⟩ : ∃ c, c = S.getD k 0 * zs.getD k 0 := ⟨_, rfl⟩
                rw [← hcc] at CP os inn
                rw [inn] at se nb
                have SE := Lib.hid se
                clear hl hkk hcc se inn
                go_wp2_with fail
                refine CI.out.mono ?_
                rintro e w5 ⟨rfl, b5⟩
                have HB5 := Lib.hid (HB.out.trans (b5.mono HB.out.size))
                have HBX5 := Lib.hid (HB2.out.trans (HB5.out.mono HB2.out.size))
                have HTX5 := Lib.hid (HTX.out.below b5 HTX.out.lt)
                have HO5 := Lib.hid ((HO.out.below b5).wide b5.size (Nat.le_refl _))
                have HD5 : Hid (∀ y, y < ps.length → w5.cell? ⟨gg2, y, none⟩ = some (.int .i64 (kidT ps C y))) := Lib.hid (fun y hy => (b5.cell (p := ⟨gg2, y, none⟩) HG.out).trans (HD.out y hy))
                have HG5 := Lib.hid (Nat.lt_of_lt_of_le HG.out b5.size)
                clear b5 x0 x1 x2 x3 HB HO HD HG
                obtain ⟨x0, x1, x2, x3⟩ := HTX5.out.cells
                have CP5 := Lib.hid (CP.out w5 HBX5.out)
                go_wp2_with fail
                refine CP5.out.mono ?_
                rintro e w6 ⟨rfl, b6⟩
                have HB6 := Lib.hid (HB5.out.trans (b6.mono HB5.out.size))
                have HO6 := Lib.hid ((HO5.out.below b6).wide b6.size (Nat.le_refl _))
                have HD6 : Hid (∀ y, y < ps.length → w6.cell? ⟨gg2, y, none⟩ = some (.int .i64 (kidT ps C y))) := Lib.hid (fun y hy => (b6.cell (p := ⟨gg2, y, none⟩) HG5.out).trans (HD5.out y hy))
                have HG6 := Lib.hid (Nat.lt_of_lt_of_le HG5.out b6.size)
                clear b6 HB5 HO5 HD5 HG5 x0 x1 x2 x3
                have hold := HO6.out.cellGet (j := k) (by rw [midL_len]; exact hlt3)
                have hfz := HO6.out.frozenGet k
                have O7 := Lib.hid (HO6.out.setAt k (x := max c kk) (by unfold InI64; omega))
                rw [SE.out] at O7
                have B7 := Lib.hid (HB6.out.setCell (p := ⟨w.heap.size + 1, k, none⟩) (by simp; have := SZ.out; omega) (.int .i64 (max c kk)))
                have D7 : Hid (∀ y, y < ps.length → (w6.setCell ⟨w.heap.size + 1, k, none⟩ (.int .i64 (max c kk))).cell? ⟨gg2, y, none⟩ = some (.int .i64 (kidT ps C y))) := Lib.hid (fun y hy => by rw [World.cell?_setCell_other _ _ _ _ (by intro e; injection e; have := G1.out; omega)]; exact HD6.out y hy)
                have G7 : Hid (gg2 < (w6.setCell ⟨w.heap.size + 1, k, none⟩ (.int .i64 (max c kk))).heap.size) := Lib.hid (by simpa [World.setCell] using HG6.out)
                clear HO6 HB6 HD6 HG6
                go_wp2_with fail
                go_roundw
                case rel => exact ⟨k + 1, by omega, by go_num, Lib.hid (by have h := O7.out; simpa [World.setCell] using h), D7, G7, B7⟩
                case measure => simp [intOf]; omega
              · have SM := Lib.hid (midL_same (A := C) (B := D) hlt3 (LF.out k hlt3 hl))
                rw [hl] at CI
                clear hl se
                go_wp2_with fail
                refine CI.out.mono ?_
                rintro e w5 ⟨rfl, b5⟩
                have HB5 := Lib.hid (HB.out.trans (b5.mono HB.out.size))
                have HO5 := Lib.hid ((HO.out.below b5).wide b5.size (Nat.le_refl _))
                have HD5 : Hid (∀ y, y < ps.length → w5.cell? ⟨gg2, y, none⟩ = some (.int .i64 (kidT ps C y))) := Lib.hid (fun y hy => (b5.cell (p := ⟨gg2, y, none⟩) HG.out).trans (HD.out y hy))
                have HG5 := Lib.hid (Nat.lt_of_lt_of_le HG.out b5.size)
                clear b5 x0 x1 x2 x3 HB HO HD HG
                go_wp2_with fail
                go_roundw
                case rel => exact ⟨k + 1, by omega, by go_num, Lib.hid (by rw [SM.out]; exact HO5.out), HD5, HG5, HB5⟩
                case measure => simp [intOf]; omega
            · have hkn : k = ps.length := by omega
              have i3' : ¬ (k : Int) < (gn : Int) := by omega
              have HOE : Hid (OwnV wr (w.heap.size + 1) wr.heap.size (.slice (some ⟨w.heap.size + 1, 0, none⟩) sn sn) (capN ps O (j + 1))) := Lib.hid (by have h := HO.out; rw [hkn, midL_all CLn.out, HDH.out] at h; exact h)
              clear HO hkn HD HG
              go_wp2_with fail
              go_roundg (m - (j + 1))
              case rel => exact ⟨j + 1, by omega, by omega, by go_num, HOE, HB⟩
              case measure => omega
        · have FIN : Hid (NewInts (capN ps O m) w (.returned (.slice (some ⟨w.heap.size + 1, 0, none⟩) sn sn)) wr) := Lib.hid ⟨_, rfl, by
            have h := HO.out.low (lo' := w.heap.size) (by omega)
            have e : j = m := by omega
            rwa [e] at h, HBX.out⟩
          go_wp2_with fail
          go_ret
          exact FIN.out
end Go.Proofs.Ytfpckfameebdnaa
