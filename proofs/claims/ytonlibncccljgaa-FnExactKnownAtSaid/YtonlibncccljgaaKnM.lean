/- KnownAt in the model. -/
import Derived.Test.YtonlibncccljgaaKnI
import Derived.Test.YtonlibncccljgaaPacM
namespace Go.Proofs.Ytonlibncccljgaa
open Go.RowKit
set_option linter.unusedVariables false
set_option maxRecDepth 100000 in
set_option maxHeartbeats 8000000 in
theorem sameS (ps ws vs : List Int) (d : Nat) (v u : Value) (w : World) (p : Pay ps ws vs) (h : TreeV w w.heap.size v ps ws) (hu : IntsV w w.heap.size u vs) :
    Calls Try.prog 94 #[v, u, .int .i64 d] w (Gives (.bool (knB ps vs d)) w) := by
  have gd := p.good
  have hd : (0 : Int) ≤ (d : Int) := by omega
  have CU2 := Lib.hid (fun w' (hb : Below w.heap.size w w') => cutRowS ps ws v (d : Int) w' gd (h.boxed hb))
  have EN2 := Lib.hid (fun w' (hb : Below w.heap.size w w') => endsS ps ws v w' (h.boxed hb) gd.n24 (parAll gd))
  have UN2 := Lib.hid (fun (c x : Nat) (hx : x < ps.length) w' (hb : Below w.heap.size w w') => underS ps ws v c x w' gd hx (h.boxed hb))
  have hn24 := gd.n24
  have hel := Nat.le_trans (ends_le ps) hn24
  have hcl : (cutT ps ws (d : Int)).length ≤ 24 := Nat.le_trans (nodesW_len _ _) hn24
  have EP := ends_pos gd
  have NP : 0 < (cutT ps ws (d : Int)).length := by
    obtain ⟨x, _, hx, hl⟩ := ends_in (ps := ps) (i := 0) EP
    exact Nat.lt_of_le_of_lt (Nat.zero_le _) (crank_at gd hd hx hl).1
  have VL1 : vs.length ≤ (endsT ps).length := Nat.le_of_eq p.len
  have VL2 : (endsT ps).length ≤ vs.length := Nat.le_of_eq p.len.symm
  have CK : Hid (∀ (k i : Nat), k < (cutT ps ws (d : Int)).length → i < (endsT ps).length → ∃ c e : Nat, (c : Int) = (cutT ps ws (d : Int)).getD k 0 ∧ (e : Int) = (endsT ps).getD i 0 ∧ e < ps.length ∧ undB ps c e = decide ((cutN9 ps (d : Int)).getD i 0 = (c : Int))) := Lib.hid (fun k i hk hi => by
    obtain ⟨c, hc1, hc2, hc3⟩ := cut_in (ps := ps) (ws := ws) (d := (d : Int)) hk
    obtain ⟨e, he1, he2, _⟩ := ends_in (ps := ps) hi
    refine ⟨c, e, hc1, he1, he2, ?_⟩
    unfold undB
    rw [und_key gd hd e he2 c hc2 hc3, cutN9_at hi, ← he1, Int.toNat_natCast]
    by_cases hh : (c : Int) = (ancT ps (d : Int)).getD e 0
    · rw [if_pos hh, show decide ((ancT ps (d : Int)).getD e 0 = (c : Int)) = true from decide_eq_true hh.symm]; rfl
    · rw [if_neg hh, show decide ((ancT ps (d : Int)).getD e 0 = (c : Int)) = false from decide_eq_false (fun h => hh h.symm)]; rfl)
  have YES : Hid ((∀ k, k < (cutT ps ws (d : Int)).length → SameAt (cutN9 ps (d : Int)) vs ((cutT ps ws (d : Int)).getD k 0) (endsT ps).length) → knB ps vs d = true) := Lib.hid (fun h => same_of_at gd h)
  have BAD : Hid (∀ (c : Int) (i j : Nat), j < (endsT ps).length → i < j → (cutN9 ps (d : Int)).getD i 0 = c → (cutN9 ps (d : Int)).getD j 0 = c → vs.getD i 0 ≠ vs.getD j 0 → knB ps vs d = false) := Lib.hid (fun c i j h1 h2 h3 h4 h5 => at_bad h1 h2 h3 h4 h5)
  have SKIP := Lib.hid (fun (c : Int) (i : Nat) h1 h2 => sameAt_skip (K := cutN9 ps (d : Int)) (vs := vs) (c := c) (i := i) h1 h2)
  have LSKIP := Lib.hid (fun (c f : Int) (i : Nat) h1 h2 => lastAt_skip (K := cutN9 ps (d : Int)) (c := c) (f := f) (i := i) h1 h2)
  have NEXT := Lib.hid (fun (c : Int) (i m : Nat) h1 h2 h3 h4 => sameAt_next (K := cutN9 ps (d : Int)) (vs := vs) (c := c) (i := i) (m := m) h1 h2 h3 h4)
  have FIRST := Lib.hid (fun (c : Int) (i : Nat) h1 => sameAt_first (K := cutN9 ps (d : Int)) (vs := vs) (c := c) (i := i) h1)
  obtain ⟨p1, c1, p2, c2, rfl⟩ := h.shape
  obtain ⟨q, cq, rfl, _, _, _, iq⟩ := hu
  have E1 := Lib.hid iq
  clear h iq p gd hd
  obtain ⟨N, hN⟩ : ∃ N, N = cutT ps ws (d : Int) := ⟨_, rfl⟩
  obtain ⟨E, hE⟩ : ∃ E, E = endsT ps := ⟨_, rfl⟩
  obtain ⟨K, hK⟩ : ∃ K, K = cutN9 ps (d : Int) := ⟨_, rfl⟩
  rw [← hN] at CU2 hcl NP CK YES
  rw [← hE] at EN2 hel EP VL1 VL2 CK YES BAD
  rw [← hK] at CK YES BAD SKIP LSKIP NEXT FIRST
  generalize knB ps vs d = bb at *
  clear hN hE hK
  have B1 := (Below.refl w.heap.size w).alloc (Nat.le_refl _) (.cells #[.slice p1 ps.length c1, .slice p2 ws.length c2] 29)
  obtain ⟨wa, hwa⟩ : ∃ wa, wa = w.alloc (.cells #[.slice p1 ps.length c1, .slice p2 ws.length c2] 29) := ⟨_, rfl⟩
  have T2 : Hid (TBox wa w.heap.size (.slice p1 ps.length c1) (.slice p2 ws.length c2)) := Lib.hid (by rw [hwa]; exact alloc_heap w _)
  rw [← hwa] at B1
  have HB1 := Lib.hid B1
  clear B1
  obtain ⟨x0, x1⟩ := T2.out.cells
  go_enter Try.func94, Try.ntmps94
  go_upto_region 1 with fail
  rw [← hwa]
  clear hwa
  go_cut [7, 8] (fun sN sE wx => ∃ gN cN gE cE, sN = .slice (some ⟨gN, 0, none⟩) N.length cN ∧ sE = .slice (some ⟨gE, 0, none⟩) E.length cE ∧ Hid (PcSt w (.slice p1 ps.length c1) (.slice p2 ws.length c2) gN gE N E wx))
  case first =>
    have HE0 := Lib.hid (show MBt w w.heap.size (.slice p1 ps.length c1) (.slice p2 ws.length c2) wa from ⟨T2.out, HB1.out⟩)
    have HD := Lib.hid HE0.out.drew
    have KC : Hid (∀ w', Hid (MBt w w.heap.size (.slice p1 ps.length c1) (.slice p2 ws.length c2) w') → w'.cell? ⟨w.heap.size, 0, none⟩ = some (.slice p1 ps.length c1) ∧ w'.cell? ⟨w.heap.size, 1, none⟩ = some (.slice p2 ws.length c2)) := Lib.hid (fun w' he => he.out.1.cells)
    have C1 : Hid (∀ w', Hid (MBt w w.heap.size (.slice p1 ps.length c1) (.slice p2 ws.length c2) w') → Calls Try.prog 86 #[.agg #[.slice p1 ps.length c1, .slice p2 ws.length c2], .int .i64 (d : Int)] w' (NewInts N w')) := Lib.hid (fun w' he => CU2.out w' he.out.2)
    have C2 : Hid (∀ w', Hid (MBt w w.heap.size (.slice p1 ps.length c1) (.slice p2 ws.length c2) w') → Calls Try.prog 87 #[.agg #[.slice p1 ps.length c1, .slice p2 ws.length c2]] w' (NewInts E w')) := Lib.hid (fun w' he => EN2.out w' he.out.2)
    go_region_held3 (fun w' => w'.cell? ⟨w.heap.size, 0, none⟩ = some (.slice p1 ps.length c1) ∧ w'.cell? ⟨w.heap.size, 1, none⟩ = some (.slice p2 ws.length c2))
      (first | exact KC.out _ HD | exact KC.out _ (by assumption) | go_keep)
      (first
        | (go_at_call 86; (with_reducible refine (C1.out _ (by first | exact HD | assumption)).mono ?_); rintro e w8 ⟨u8, rfl, o8, b8⟩; (obtain ⟨gN, cN, rfl, hn1', hn2'⟩ := o8.shape NP); (have HE8 := Lib.hid (MBt.next (Hid.out (by first | exact HD | assumption)) b8)))
        | (go_at_call 87; (with_reducible refine (C2.out _ (by first | exact HE8)).mono ?_); rintro e w9 ⟨u9, rfl, o9, b9⟩; (obtain ⟨gE, cE, rfl, he1', he2'⟩ := o9.shape EP); (have HE9 := Lib.hid (MBt.next HE8.out b9))))
    all_goals
      go_wp2_with fail
      go_meet
      have z9 := b9.size
      refine ⟨_, _, _, _, rfl, rfl, Lib.hid ⟨HE9.out.1, fun j hj => (b9.cell (p := ⟨gN, j, none⟩) hn2').trans (o8.cellGet hj), fun j hj => o9.cellGet hj, ⟨Nat.lt_of_lt_of_le hn2' z9, he2'⟩, HE9.out.2⟩⟩
  obtain ⟨gN, cN, gE, cE, rfl, rfl, HP3⟩ := hcut
  obtain ⟨w3, rfl⟩ : ∃ w3 : World, w3 = wc := ⟨_, rfl⟩
  clear x0 x1 T2 HB1 CU2 EN2
  go_wp2_with fail
  go_loopg [9] N.length (fun gg i wx => ∃ k : Nat, k ≤ N.length ∧ N.length - k ≤ gg ∧ i = .int .i64 k ∧ Hid (PcSt w (.slice p1 ps.length c1) (.slice p2 ws.length c2) gN gE N E wx) ∧ Hid (∀ k', k' < k → SameAt K vs (N.getD k' 0) E.length))
  case atStart => exact ⟨0, Nat.zero_le _, by omega, rfl, HP3, Lib.hid (fun j hj => by omega)⟩
  case round =>
    obtain ⟨k, hk, hgg, rfl, HP, HA9⟩ := hrel
    clear HP3
    by_cases hlt : k < N.length
    · have i0' : (0 : Int) ≤ (k : Int) := by omega
      have i1' : (k : Int) < (N.length : Int) := by omega
      have CKK := Lib.hid (fun i => CK.out k i hlt)
      obtain ⟨cc, hcc⟩ : ∃ cc, cc = N.getD k 0 := ⟨_, rfl⟩
      have CC := Lib.hid hcc.symm
      rw [← hcc] at CKK
      have SK2 := Lib.hid (SKIP.out cc)
      have LS2 := Lib.hid (LSKIP.out cc)
      have NE2 := Lib.hid (NEXT.out cc)
      have FI2 := Lib.hid (FIRST.out cc)
      have BA2 := Lib.hid (BAD.out cc)
      have ND : Hid (∀ wx, PcSt w (.slice p1 ps.length c1) (.slice p2 ws.length c2) gN gE N E wx → wx.cell? ⟨gN, k, none⟩ = some (.int .i64 cc)) := Lib.hid (fun wx hs => by rw [hs.nd k hlt, CC.out])
      clear hcc
      go_wp2_with fail
      go_loopg [10, 11] E.length (fun gg f i wx => ∃ (j : Nat) (fz : Int), j ≤ E.length ∧ E.length - j ≤ gg ∧ i = .int .i64 j ∧ f = .int .i64 fz ∧ Hid (LastAt K cc j fz) ∧ Hid (SameAt K vs cc j) ∧ Hid (PcSt w (.slice p1 ps.length c1) (.slice p2 ws.length c2) gN gE N E wx))
      case atStart => exact ⟨0, -1, Nat.zero_le _, by omega, rfl, rfl, Lib.hid (.inl ⟨rfl, fun j hj => by omega⟩), Lib.hid (fun j hj => by omega), HP⟩
      case round =>
        obtain ⟨j, fz, hj, hgj, rfl, rfl, HL, HS, HP2⟩ := hrel
        clear HP
        by_cases hjl : j < E.length
        · obtain ⟨c, e, hc1, he1, he2, hund⟩ := CKK.out j hjl
          have CA : Hid (∀ w', Hid (PcSt w (.slice p1 ps.length c1) (.slice p2 ws.length c2) gN gE N E w') → Calls Try.prog 89 #[.agg #[.slice p1 ps.length c1, .slice p2 ws.length c2], .int .i64 c, .int .i64 e] w' (Gives (.bool (decide (K.getD j 0 = (c : Int)))) w')) := Lib.hid (fun w' hs => by rw [← hund]; exact UN2.out c e he2 w' hs.out.bel)
          have KC : Hid (∀ w', Hid (PcSt w (.slice p1 ps.length c1) (.slice p2 ws.length c2) gN gE N E w') → w'.cell? ⟨w.heap.size, 0, none⟩ = some (.slice p1 ps.length c1) ∧ w'.cell? ⟨w.heap.size, 1, none⟩ = some (.slice p2 ws.length c2) ∧ w'.cell? ⟨gN, k, none⟩ = some (.int .i64 c) ∧ w'.cell? ⟨gE, j, none⟩ = some (.int .i64 e)) := Lib.hid (fun w' hs => ⟨hs.out.box.cells.1, hs.out.box.cells.2, by rw [ND.out _ hs.out, hc1], by rw [hs.out.ed j hjl, he1]⟩)
          have HD := Lib.hid HP2.out.drew
          have j0 : (0 : Int) ≤ (j : Int) := by omega
          have j1 : (j : Int) < (E.length : Int) := by omega
          have CEQ := Lib.hid hc1
          clear hc1 he1 he2 hund HP2
          by_cases hkc : K.getD j 0 = (c : Int)
          · have DT : Hid (decide (K.getD j 0 = (c : Int)) = true) := Lib.hid (decide_eq_true hkc)
            rw [DT.out] at CA
            have KJ : Hid (K.getD j 0 = cc) := Lib.hid (by rw [hkc, CEQ.out])
            clear hkc DT
            obtain ⟨bj, oj, ej, hbj, hcj⟩ := E1.out.get (i := j) (by omega)
            have CJ : Hid (∀ wx, Below w.heap.size w wx → wx.cell? ⟨bj, oj + j, none⟩ = some (.int .i64 (vs.getD j 0))) := Lib.hid (fun wx hbb => by rw [hbb.cell (p := ⟨bj, oj + j, none⟩) hbj]; exact hcj)
            subst ej
            clear hcj
            have j2 : (j : Int) < (vs.length : Int) := by omega
            rcases HL.out with ⟨hf1, hf2⟩ | ⟨m, hf1, hf2, hf3⟩
            · subst hf1
              have S3 := Lib.hid (FI2.out j hf2)
              have L3 : Hid (LastAt K cc (j + 1) (j : Int)) := Lib.hid (.inr ⟨j, rfl, by omega, KJ.out⟩)
              clear HL HS hf2
              go_wp2_with fail
              go_region_held3 (fun w' => w'.cell? ⟨w.heap.size, 0, none⟩ = some (.slice p1 ps.length c1) ∧ w'.cell? ⟨w.heap.size, 1, none⟩ = some (.slice p2 ws.length c2) ∧ w'.cell? ⟨gN, k, none⟩ = some (.int .i64 c) ∧ w'.cell? ⟨gE, j, none⟩ = some (.int .i64 e))
                (first | exact KC.out _ HD | exact KC.out _ (by assumption) | go_keep)
                (first
                  | (go_at_call 89; (with_reducible refine (CA.out _ (by first | exact HD | assumption)).mono ?_); rintro e w8 ⟨rfl, b8⟩; (have HE8 := Lib.hid (PcSt.next (Hid.out (by first | exact HD | assumption)) b8)); clear b8))
              all_goals
                go_wp2_with fail
                go_quiet (fail)
                go_wp2_with fail
                go_roundg (E.length - (j + 1))
                case rel => exact ⟨j + 1, (j : Int), by omega, by omega, by go_num, rfl, L3, S3, Lib.hid (HE8.out.next (below_drewN (Below.refl _ _) _))⟩
                case measure => omega
            · subst hf1
              have hmj : m < vs.length := by omega
              obtain ⟨bm, om, em, hbm, hcm⟩ := E1.out.get hmj
              injection em with em
              injection em with em1 em2
              subst em1; subst em2
              have CM : Hid (∀ wx, Below w.heap.size w wx → wx.cell? ⟨bj, oj + m, none⟩ = some (.int .i64 (vs.getD m 0))) := Lib.hid (fun wx hbb => by rw [hbb.cell (p := ⟨bj, oj + m, none⟩) hbm]; exact hcm)
              have BA3 := Lib.hid (BA2.out m j hjl hf2 hf3 KJ.out)
              have S3 := Lib.hid (NE2.out j m HS.out hf2 hf3)
              have L3 : Hid (LastAt K cc (j + 1) (j : Int)) := Lib.hid (.inr ⟨j, rfl, by omega, KJ.out⟩)
              obtain ⟨y1, hy1⟩ : ∃ z, z = vs.getD m 0 := ⟨_, rfl⟩
              obtain ⟨y2, hy2⟩ : ∃ z, z = vs.getD j 0 := ⟨_, rfl⟩
              rw [← hy1] at CM BA3 S3
              rw [← hy2] at CJ BA3 S3
              have m0 : (0 : Int) ≤ (m : Int) := by omega
              have m1 : (m : Int) < (vs.length : Int) := by omega
              clear HL HS hf3 hcm hy1 hy2
              by_cases hyy : y1 = y2
              · have S4 := Lib.hid (S3.out hyy)
                have hd1 : decide ((0 : Int) ≤ (m : Int)) = true := decide_eq_true m0
                have hb9 : (y1 != y2) = false := by rw [bne_eq_false_iff_eq]; exact hyy
                clear S3 BA3 hyy
                go_wp2_with fail
                go_region_held3 (fun w' => w'.cell? ⟨w.heap.size, 0, none⟩ = some (.slice p1 ps.length c1) ∧ w'.cell? ⟨w.heap.size, 1, none⟩ = some (.slice p2 ws.length c2) ∧ w'.cell? ⟨gN, k, none⟩ = some (.int .i64 c) ∧ w'.cell? ⟨gE, j, none⟩ = some (.int .i64 e))
                  (first | exact KC.out _ HD | exact KC.out _ (by assumption) | go_keep)
                  (first
                    | (go_at_call 89; (with_reducible refine (CA.out _ (by first | exact HD | assumption)).mono ?_); rintro e w8 ⟨rfl, b8⟩; (have HE8 := Lib.hid (PcSt.next (Hid.out (by first | exact HD | assumption)) b8)); clear b8))
                all_goals
                  have cm := CM.out _ HE8.out.bel
                  have cj := CJ.out _ HE8.out.bel
                  go_wp2_with fail
                  go_quiet (fail)
                  go_wp2_with fail
                  go_roundg (E.length - (j + 1))
                  case rel => exact ⟨j + 1, (j : Int), by omega, by omega, by go_num, rfl, L3, S4, Lib.hid (HE8.out.next (below_drewN (Below.refl _ _) _))⟩
                  case measure => omega
              · have R := Lib.hid (BA3.out hyy)
                have hd1 : decide ((0 : Int) ≤ (m : Int)) = true := decide_eq_true m0
                have hb9 : (y1 != y2) = true := by rw [bne_iff_ne]; exact hyy
                clear S3 BA3 hyy L3
                go_wp2_with fail
                go_region_held3 (fun w' => w'.cell? ⟨w.heap.size, 0, none⟩ = some (.slice p1 ps.length c1) ∧ w'.cell? ⟨w.heap.size, 1, none⟩ = some (.slice p2 ws.length c2) ∧ w'.cell? ⟨gN, k, none⟩ = some (.int .i64 c) ∧ w'.cell? ⟨gE, j, none⟩ = some (.int .i64 e))
                  (first | exact KC.out _ HD | exact KC.out _ (by assumption) | go_keep)
                  (first
                    | (go_at_call 89; (with_reducible refine (CA.out _ (by first | exact HD | assumption)).mono ?_); rintro e w8 ⟨rfl, b8⟩; (have HE8 := Lib.hid (PcSt.next (Hid.out (by first | exact HD | assumption)) b8)); clear b8))
                all_goals
                  have cm := CM.out _ HE8.out.bel
                  have cj := CJ.out _ HE8.out.bel
                  go_wp2_with fail
                  go_quiet (fail)
                  go_wp2_with fail
                  go_ret
                  exact ⟨ret_b R.out, below_drewN HE8.out.bel _⟩
          · have DT : Hid (decide (K.getD j 0 = (c : Int)) = false) := Lib.hid (decide_eq_false hkc)
            rw [DT.out] at CA
            have KJ : K.getD j 0 ≠ cc := fun h => hkc (by rw [h, CEQ.out])
            have S3 := Lib.hid (SK2.out j HS.out KJ)
            have L3 := Lib.hid (LS2.out fz j HL.out KJ)
            clear HL HS KJ hkc
            go_wp2_with fail
            go_region_held3 (fun w' => w'.cell? ⟨w.heap.size, 0, none⟩ = some (.slice p1 ps.length c1) ∧ w'.cell? ⟨w.heap.size, 1, none⟩ = some (.slice p2 ws.length c2) ∧ w'.cell? ⟨gN, k, none⟩ = some (.int .i64 c) ∧ w'.cell? ⟨gE, j, none⟩ = some (.int .i64 e))
              (first | exact KC.out _ HD | exact KC.out _ (by assumption) | go_keep)
              (first
                | (go_at_call 89; (with_reducible refine (CA.out _ (by first | exact HD | assumption)).mono ?_); rintro e w8 ⟨rfl, b8⟩; (have HE8 := Lib.hid (PcSt.next (Hid.out (by first | exact HD | assumption)) b8)); clear b8))
            all_goals
              go_wp2_with fail
              go_roundg (E.length - (j + 1))
              case rel => exact ⟨j + 1, fz, by omega, by omega, by go_num, rfl, L3, S3, HE8⟩
              case measure => omega
        · obtain rfl : j = E.length := by omega
          have A2 : Hid (∀ k', k' < k + 1 → SameAt K vs (N.getD k' 0) E.length) := Lib.hid (fun k' hk' => by
            rcases Nat.lt_or_ge k' k with h' | h'
            · exact HA9.out k' h'
            · obtain rfl : k' = k := by omega
              rw [CC.out]; exact HS.out)
          clear HL HS
          go_wp2_with fail
          go_roundg (N.length - (k + 1))
          case rel => exact ⟨k + 1, by omega, by omega, by go_num, HP2, A2⟩
          case measure => omega
    · have R := Lib.hid (YES.out (fun k' hk' => HA9.out k' (by omega)))
      clear HA9
      go_wp2
      go_ret
      exact ⟨ret_b R.out, HP.out.bel⟩
set_option maxRecDepth 100000 in
set_option maxHeartbeats 4000000 in
theorem knM (ps ws vs : List Int) (v u : Value) (w : World) (hl9 : vs.length ≤ 1048576) (h : TreeV w w.heap.size v ps ws) (hu : IntsV w w.heap.size u vs) :
    Calls Try.prog 36 #[v, u] w (Gives (knV ps ws vs) w) := by
  have EA := Lib.hid (fun w' (hb : Below w.heap.size w w') => paysS ps ws vs v u w' hl9 (h.boxed hb) ((hu.below hb).more hb.size))
  have AK := Lib.hid (fun (p : Pay ps ws vs) (d : Nat) w' (hb : Below w.heap.size w w') => sameS ps ws vs d v u w' p (h.boxed hb) ((hu.below hb).more hb.size))
  obtain ⟨p1, c1, p2, c2, rfl⟩ := h.shape
  obtain ⟨qa, da, rfl, _⟩ := hu
  clear h
  have B1 := (Below.refl w.heap.size w).alloc (Nat.le_refl _) (.cells #[.slice p1 ps.length c1, .slice p2 ws.length c2] 29)
  obtain ⟨wa, hwa⟩ : ∃ wa, wa = w.alloc (.cells #[.slice p1 ps.length c1, .slice p2 ws.length c2] 29) := ⟨_, rfl⟩
  have T1 : Hid (TBox wa w.heap.size (.slice p1 ps.length c1) (.slice p2 ws.length c2)) := Lib.hid (by rw [hwa]; exact alloc_heap w _)
  rw [← hwa] at B1
  have HBA := Lib.hid B1
  clear B1
  obtain ⟨x0, x1⟩ := T1.out.cells
  cases hev : payB ps ws vs
  · rw [hev] at EA
    have R := Lib.hid (knV_no hev)
    clear hev AK
    go_enter Try.func36, Try.ntmps36
    go_wp2_with fail
    rw [← hwa]
    clear hwa
    refine (EA.out _ HBA.out).mono ?_
    rintro e w1 ⟨rfl, b1⟩
    have HB1 := Lib.hid (HBA.out.trans (b1.mono HBA.out.size))
    clear b1
    go_wp2_with fail
    go_ret2
    exact ⟨by rw [R.out]; rfl, HB1.out⟩
  · rw [hev] at EA
    have PA := Lib.hid (payB_iff.1 hev)
    have R := Lib.hid (knV_ok hev)
    have AK2 := Lib.hid (AK.out PA.out)
    have DEEP := Lib.hid (knB_deep PA.out.good vs)
    have hn24 := PA.out.good.n24
    have HIT := Lib.hid (fun (f d : Nat) h => firstW_hit (p := knB ps vs) (f := f) (d := d) h)
    have MISS := Lib.hid (fun (f d : Nat) h => firstW_miss (p := knB ps vs) (f := f) (d := d) h)
    have KR : Hid (firstW (knB ps vs) (ps.length - 0) 0 = knR ps vs) := Lib.hid rfl
    clear hev AK PA
    obtain ⟨KN, hKN⟩ : ∃ KN, KN = knB ps vs := ⟨_, rfl⟩
    have AK3 : Hid (∀ (d : Nat) (w' : World), Below w.heap.size w w' → Calls Try.prog 94 #[.agg #[.slice p1 ps.length c1, .slice p2 ws.length c2], .slice qa vs.length da, .int .i64 d] w' (Gives (.bool (KN d)) w')) := Lib.hid (fun d w' hb => by rw [hKN]; exact AK2.out d w' hb)
    rw [← hKN] at DEEP HIT MISS KR
    clear hKN AK2
    go_enter Try.func36, Try.ntmps36
    go_wp2_with fail
    rw [← hwa]
    clear hwa
    refine (EA.out _ HBA.out).mono ?_
    rintro e w1 ⟨rfl, b1⟩
    have HB1 := Lib.hid (HBA.out.trans (b1.mono HBA.out.size))
    have T2 := Lib.hid (T1.out.below b1 T1.out.lt)
    clear b1 x0 x1 T1 HBA EA
    obtain ⟨x0, x1⟩ := T2.out.cells
    go_wp2_with fail
    go_loopg [6] (ps.length + 1) (fun gg i wr => ∃ k : Nat, k ≤ ps.length ∧ ps.length - k + 1 ≤ gg ∧ i = .int .i64 k ∧ Hid (firstW KN (ps.length - k) k = knR ps vs) ∧ Hid (TBox wr w.heap.size (.slice p1 ps.length c1) (.slice p2 ws.length c2)) ∧ Hid (Below w.heap.size w wr))
    case atStart => exact ⟨0, Nat.zero_le _, by omega, rfl, KR, T2, HB1⟩
    case round =>
      obtain ⟨k, hk, hgg, rfl, HF, HT, HB⟩ := hrel
      clear KR T2 HB1 x0 x1
      obtain ⟨x0, x1⟩ := HT.out.cells
      have C := Lib.hid (AK3.out k wr HB.out)
      have HI := Lib.hid (HIT.out (ps.length - k) k)
      have MI : Hid (KN k = false → k < ps.length ∧ firstW KN (ps.length - (k + 1)) (k + 1) = knR ps vs) := Lib.hid (fun h => by
        have hlt : k < ps.length := by
          rcases Nat.lt_or_ge k ps.length with h' | h'
          · exact h'
          · obtain rfl : k = ps.length := by omega
            rw [DEEP.out] at h; cases h
        refine ⟨hlt, ?_⟩
        have := MISS.out (ps.length - (k + 1)) k h
        rw [← this, show ps.length - (k + 1) + 1 = ps.length - k by omega]
        exact HF.out)
      obtain ⟨t, ht⟩ : ∃ t, t = KN k := ⟨_, rfl⟩
      rw [← ht] at C MI HI
      clear ht
      cases t
      · obtain ⟨hlt, hf⟩ := MI.out rfl
        have HF2 := Lib.hid hf
        clear MI HI hf HF
        go_wp2_with fail
        refine C.out.mono ?_
        rintro e w3 ⟨rfl, b3⟩
        have HB3 := Lib.hid (HB.out.trans (b3.mono HB.out.size))
        have HT3 := Lib.hid (HT.out.below b3 HT.out.lt)
        clear b3
        go_wp2_with fail
        go_roundg (ps.length - (k + 1) + 1)
        case rel => exact ⟨k + 1, by omega, by omega, by go_num, HF2, HT3, HB3⟩
        case measure => omega
      · have KE := HI.out rfl
        have FIN : Hid (knV ps ws vs = .tuple #[.int .i64 k, .bool true]) := Lib.hid (by rw [R.out, ← HF.out, KE])
        clear MI HI HF KE R
        go_wp2_with fail
        refine C.out.mono ?_
        rintro e w3 ⟨rfl, b3⟩
        have HB3 := Lib.hid (HB.out.trans (b3.mono HB.out.size))
        clear b3
        go_wp2_with fail
        go_ret2
        exact ⟨by rw [FIN.out]; rfl, HB3.out⟩
end Go.Proofs.Ytonlibncccljgaa
