/- The cut's nodes above the ends, in the program. -/
import Derived.Test.YtonlibncccljgaaKnP
import Derived.Test.YtonlibncccljgaaEndsL
import Derived.Test.YtonlibncccljgaaDepthI
import Derived.Test.YtonlibncccljgaaLawT
import Derived.Test.YtonlibncccljgaaMBt
import Derived.Deep.LoopGhost
namespace Go.Proofs.Ytonlibncccljgaa
open Go.RowKit
set_option linter.unusedVariables false
/-- What an end becomes. -/
def ancF (ps : List Int) (d : Int) (e : Int) : Int := (ancT ps d).getD e.toNat 0
theorem cutN9_map (ps : List Int) (d : Int) : (endsT ps).map (ancF ps d) = cutN9 ps d := rfl
theorem set_twice {L : List Int} {i : Nat} {a b : Int} : (L.set i a).set i b = L.set i b := List.set_set ..
set_option maxRecDepth 100000 in
set_option maxHeartbeats 8000000 in
theorem cutNodesI (ps ws : List Int) (v : Value) (d : Int) (w : World) (gd : Good ps ws) (hd : 0 ≤ d) (h : TreeV w w.heap.size v ps ws) :
    Calls Try.prog 92 #[v, .int .i64 d] w (NewInts (cutN9 ps d) w) := by
  have DI := Lib.hid (fun w' (hb : Below w.heap.size w w') => depthsI ps ws v w' (h.boxed hb))
  have EN := Lib.hid (fun w' (hb : Below w.heap.size w w') => endsI ps ws v w' (h.boxed hb))
  have hg : goodT ps ws = true := (goodT_iff _ _).2 gd
  rw [hg, show ifGood ps ws (endsT ps) = endsT ps by unfold ifGood; rw [hg]; rfl] at EN
  rw [hg, show ifGood ps ws (depthsT ps) = depthsT ps by unfold ifGood; rw [hg]; rfl] at DI
  have hel := Nat.le_trans (ends_le ps) gd.n24
  have EP := ends_pos gd
  have hn1 := gd.n1
  have hn24 := gd.n24
  have hp := ParOk.of gd
  have EI := Lib.hid (fun i (hi : i < (endsT ps).length) => ends_in hi)
  have DL := Lib.hid (depthsT_len ps)
  have DB := Lib.hid (fun x (hx : x < ps.length) => depthsT_bd ps x hx)
  have AH := Lib.hid (fun (x : Nat) (hx : x < ps.length) (h : ¬ d < (depthsT ps).getD x 0) => anc_here hp hd hx h)
  have AS := Lib.hid (fun (x : Nat) (h0 : 0 < x) (hx : x < ps.length) (h : d < (depthsT ps).getD x 0) => show (ancT ps d).getD x 0 = (ancT ps d).getD (ps.getD x 0).toNat 0 by rw [anc_step hp d h0 hx, if_pos h])
  have DP := Lib.hid (fun (x : Nat) (hx : x < ps.length) (h : d < (depthsT ps).getD x 0) => dep_pos hp hd hx h)
  have GP := Lib.hid gd.par
  have AI := Lib.hid (fun x (hx : x < ps.length) => anc_in hp hd x hx)
  have HS := Lib.hid (fun k (hk : k < (endsT ps).length) => hafE_set (es := endsT ps) (ancF ps d) hk)
  have HA := Lib.hid (fun k (hk : k < (endsT ps).length) => hafE_at (es := endsT ps) (ancF ps d) hk)
  have HL := Lib.hid (hafE_len (endsT ps) (ancF ps d))
  have H0 := Lib.hid (hafE_zero (endsT ps) (ancF ps d))
  have HE := Lib.hid (fun k (hk : (endsT ps).length ≤ k) => hafE_all (endsT ps) (ancF ps d) hk)
  have CM := Lib.hid (cutN9_map ps d)
  have FD : Hid (∀ x : Nat, ancF ps d (x : Int) = (ancT ps d).getD x 0) := Lib.hid (fun x => by unfold ancF; rw [Int.toNat_natCast])
  obtain ⟨v1, v2, rfl, ⟨p1, c1, rfl, l1, m1, _, i1⟩, ⟨p2, c2, rfl, l2, m2, _, i2⟩⟩ := h
  have P1 := Lib.hid i1
  clear i1 i2 m1 m2 l1 l2 gd hg hp
  obtain ⟨E, hE⟩ : ∃ E, E = endsT ps := ⟨_, rfl⟩
  obtain ⟨D, hD⟩ : ∃ D, D = depthsT ps := ⟨_, rfl⟩
  obtain ⟨T, hT⟩ : ∃ T, T = ancT ps d := ⟨_, rfl⟩
  obtain ⟨f, hf⟩ : ∃ f, f = ancF ps d := ⟨_, rfl⟩
  rw [← hE] at EN hel EP EI HS HA HL H0 HE CM
  rw [← hD] at DI DL DB AH AS DP
  rw [← hT] at AH AS AI FD
  rw [← hf] at HS HA HL H0 HE CM FD
  clear hE hD hT hf
  have B1 := (Below.refl w.heap.size w).alloc (Nat.le_refl _) (.cells #[.slice p1 ps.length c1, .slice p2 ws.length c2] 29)
  obtain ⟨wa, hwa⟩ : ∃ wa, wa = w.alloc (.cells #[.slice p1 ps.length c1, .slice p2 ws.length c2] 29) := ⟨_, rfl⟩
  have T1 : Hid (TBox wa w.heap.size (.slice p1 ps.length c1) (.slice p2 ws.length c2)) := Lib.hid (by rw [hwa]; exact alloc_heap w _)
  rw [← hwa] at B1
  have HBA := Lib.hid B1
  clear B1
  obtain ⟨x0, x1⟩ := T1.out.cells
  go_enter Try.func92, Try.ntmps92
  go_wp2_with fail
  rw [← hwa]
  clear hwa
  refine (DI.out _ HBA.out).mono ?_
  rintro e w1 ⟨ud, rfl, o1, b1⟩
  obtain ⟨gd, cd, rfl, _, hgd⟩ := o1.shape (by rw [DL.out]; exact hn1)
  have DC := Lib.hid (fun j (hj : j < ps.length) => o1.cellGet (j := j) (by rw [DL.out]; exact hj))
  have HGD := Lib.hid hgd
  have HB1 := Lib.hid (HBA.out.trans (b1.mono HBA.out.size))
  have T2 := Lib.hid (T1.out.below b1 T1.out.lt)
  rw [DL.out]
  clear b1 x0 x1 T1 HBA o1 hgd DI
  obtain ⟨x0, x1⟩ := T2.out.cells
  go_wp2_with fail
  refine (EN.out _ HB1.out).mono ?_
  rintro e w2 ⟨ue, rfl, o2, b2⟩
  obtain ⟨gb, ce, rfl, hg1, hg2⟩ := o2.shape EP
  have HB2 := Lib.hid (HB1.out.trans (b2.mono HB1.out.size))
  have T3 := Lib.hid (T2.out.below b2 T2.out.lt)
  have D3 : Hid (∀ j, j < ps.length → w2.cell? ⟨gd, j, none⟩ = some (.int .i64 (D.getD j 0))) := Lib.hid (fun j hj => by rw [b2.cell (p := ⟨gd, j, none⟩) HGD.out]; exact DC.out j hj)
  have NG : Hid (gd ≠ gb ∧ w.heap.size < gb ∧ gd < w2.heap.size) := Lib.hid (by have := HGD.out; have := T2.out.lt; have := b2.size; omega)
  have LW : Hid (w.heap.size ≤ w1.heap.size) := Lib.hid (Nat.le_of_lt T2.out.lt)
  have O2 : Hid (OwnV w2 w.heap.size w2.heap.size (.slice (some ⟨gb, 0, none⟩) E.length ce) (hafE E f 0)) := Lib.hid (by rw [H0.out]; exact o2.low LW.out)
  clear b2 o2 T2 HB1 x0 x1 DC HGD hg1 hg2 EN H0 LW
  go_wp2_with fail
  go_loopg [22] E.length (fun gg i wr => ∃ k : Nat, k ≤ E.length ∧ E.length - k ≤ gg ∧ i = .int .i64 k ∧ Hid (OwnV wr w.heap.size wr.heap.size (.slice (some ⟨gb, 0, none⟩) E.length ce) (hafE E f k)) ∧ Hid (∀ j, j < ps.length → wr.cell? ⟨gd, j, none⟩ = some (.int .i64 (D.getD j 0))) ∧ Hid (TBox wr w.heap.size (.slice p1 ps.length c1) (.slice p2 ws.length c2)) ∧ Hid (Below w.heap.size w wr))
  case atStart => exact ⟨0, Nat.zero_le _, by omega, rfl, O2, D3, T3, HB2⟩
  case round =>
    obtain ⟨k, hk, hgg, rfl, HO, HD, HT, HB⟩ := hrel
    clear O2 D3 T3 HB2
    by_cases hlt : k < E.length
    · obtain ⟨e, he, hel2, _⟩ := EI.out k hlt
      have SE := Lib.hid (HS.out k hlt)
      have AE := Lib.hid (HA.out k hlt)
      have OY : Hid (OwnV wr w.heap.size wr.heap.size (.slice (some ⟨gb, 0, none⟩) E.length ce) ((hafE E f k).set k (e : Int))) := Lib.hid (by
        have e1 : (hafE E f k).getD k 0 = (e : Int) := by rw [AE.out]; exact he.symm
        have e2 : (hafE E f k).set k ((hafE E f k).getD k 0) = hafE E f k := by
          refine list_ext_getD (by simp) fun y hy => ?_
          by_cases c : k = y
          · subst c; rw [getD_set_same (by rw [HL.out]; exact hlt)]
          · rw [getD_set_other c]
        rw [e1] at e2
        rw [e2]; exact HO.out)
      have FE : Hid (f (E.getD k 0) = T.getD e 0) := Lib.hid (by rw [← he]; exact FD.out e)
      have i0 : (0 : Int) ≤ (k : Int) := by omega
      have i1 : (k : Int) < (E.length : Int) := by omega
      clear he HO
      go_wp2_with fail
      go_loopg [] (ps.length + 1) (fun gg wr' => ∃ y : Nat, y < ps.length ∧ y + 1 ≤ gg ∧ Hid (T.getD y 0 = T.getD e 0) ∧ Hid (OwnV wr' w.heap.size wr'.heap.size (.slice (some ⟨gb, 0, none⟩) E.length ce) ((hafE E f k).set k (y : Int))) ∧ Hid (∀ j, j < ps.length → wr'.cell? ⟨gd, j, none⟩ = some (.int .i64 (D.getD j 0))) ∧ Hid (TBox wr' w.heap.size (.slice p1 ps.length c1) (.slice p2 ws.length c2)) ∧ Hid (Below w.heap.size w wr'))
      case atStart => exact ⟨e, hel2, by omega, Lib.hid rfl, OY, HD, HT, HB⟩
      case round =>
        obtain ⟨y, hy, hgy, HTY, HO, HD2, HT2, HB2⟩ := hrel
        obtain ⟨x0, x1⟩ := HT2.out.cells
        have ML : Hid (((hafE E f k).set k (y : Int)).length = E.length) := Lib.hid (by rw [List.length_set]; exact HL.out k)
        have hce := HO.out.cellGet (j := k) (by rw [ML.out]; exact hlt)
        rw [getD_set_same (by rw [HL.out]; exact hlt)] at hce
        have hfz := HO.out.frozenGet k
        have hdy := HD2.out y hy
        have y0 : (0 : Int) ≤ (y : Int) := by omega
        have y1 : (y : Int) < (ps.length : Int) := by omega
        have AH2 := Lib.hid (AH.out y hy)
        have DP2 := Lib.hid (DP.out y hy)
        have AS2 := Lib.hid (fun h0 => AS.out y h0 hy)
        obtain ⟨dy, hdd⟩ : ∃ z, z = D.getD y 0 := ⟨_, rfl⟩
        rw [← hdd] at hdy AH2 DP2 AS2
        clear OY HD HT HB hdd
        by_cases hgt : d < dy
        · have hb1 : decide (d < dy) = true := decide_eq_true hgt
          have ypos := DP2.out hgt
          have TY := Lib.hid (AS2.out ypos hgt)
          obtain ⟨q1, q2⟩ := GP.out y ypos hy
          obtain ⟨j, hj⟩ : ∃ j : Nat, ps.getD y 0 = (j : Int) := ⟨(ps.getD y 0).toNat, by omega⟩
          have hjy : j < y := by omega
          have TJ : Hid (T.getD j 0 = T.getD e 0) := Lib.hid (by rw [← HTY.out, TY.out, hj, Int.toNat_natCast])
          obtain ⟨b, off, rfl, hb, hc⟩ := P1.out.get hy
          have hcw : wr.cell? ⟨b, off + y, none⟩ = some (.int .i64 j) := by rw [HB2.out.cell (p := ⟨b, off + y, none⟩) hb, hc, hj]
          obtain ⟨ng1, ng2, ng3⟩ := NG.out
          have O3 := HO.out.setAt k (x := (j : Int)) (inI64_nat (by omega))
          rw [set_twice] at O3
          have O4 := Lib.hid O3
          have T4 := Lib.hid (HT2.out.set (g := gb) (o := k) (x := .int .i64 (j : Int)) (by omega))
          have B4 := Lib.hid (HB2.out.setCell (p := ⟨gb, k, none⟩) (Nat.le_of_lt ng2) (.int .i64 (j : Int)))
          have D4 : Hid (∀ i, i < ps.length → (wr.setCell ⟨gb, k, none⟩ (.int .i64 (j : Int))).cell? ⟨gd, i, none⟩ = some (.int .i64 (D.getD i 0))) := Lib.hid (fun i hi => by
            rw [World.cell?_setCell_other _ _ _ _ (by intro c; injection c; omega)]
            exact HD2.out i hi)
          clear hc hj q1 q2 O3 HO HD2 HT2 HB2 HTY AH2 DP2 AS2 TY ng1 ng2 ng3
          go_wp2_with fail
          go_region
          go_wp2_with fail
          go_roundg (j + 1)
          case rel => exact ⟨j, by omega, by omega, TJ, Lib.hid (by have h := O4.out.below (below_drew (Below.refl _ _)); simpa [World.setCell] using h), Lib.hid (fun i hi => D4.out i hi), Lib.hid (show TBox _ _ _ _ from T4.out), Lib.hid (below_drew B4.out)⟩
          case measure => omega
        · have hb1 : decide (d < dy) = false := decide_eq_false hgt
          have TY := AH2.out (by omega)
          have O3 : Hid (OwnV wr w.heap.size wr.heap.size (.slice (some ⟨gb, 0, none⟩) E.length ce) (hafE E f (k + 1))) := Lib.hid (by
            have h := HO.out
            rw [← TY, HTY.out, ← FE.out, SE.out] at h
            exact h)
          clear TY HO HTY AH2 DP2 AS2
          go_wp2_with fail
          go_roundg (E.length - (k + 1))
          case rel => exact ⟨k + 1, by omega, by omega, by go_num, O3, HD2, HT2, HB2⟩
          case measure => omega
    · rw [HE.out k (by omega), CM.out] at HO
      have FIN : Hid (NewInts (cutN9 ps d) w (.returned (.slice (some ⟨gb, 0, none⟩) E.length ce)) wr) := Lib.hid ⟨_, rfl, HO.out, HB.out⟩
      clear HO HD HT HB
      go_wp2
      go_ret
      exact FIN.out
end Go.Proofs.Ytonlibncccljgaa
