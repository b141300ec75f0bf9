/- PaysAtCut in the model. -/
import Derived.Test.YtonlibncccljgaaPacI
import Derived.Test.YtonlibncccljgaaUndS
import Derived.Test.YtonlibncccljgaaPayS
import Derived.Deep.RegionHeld3
import Derived.Deep.DeepCutAuto
namespace Go.Proofs.Ytonlibncccljgaa
open Go.RowKit
set_option linter.unusedVariables false
/-- The box of the tree, the cut's nodes, and the ends. -/
structure PcSt (w : World) (v1 v2 : Value) (gN gE : Nat) (N E : List Int) (wx : World) : Prop where
  box : TBox wx w.heap.size v1 v2
  nd : ∀ j, j < N.length → wx.cell? ⟨gN, j, none⟩ = some (.int .i64 (N.getD j 0))
  ed : ∀ j, j < E.length → wx.cell? ⟨gE, j, none⟩ = some (.int .i64 (E.getD j 0))
  lt : gN < wx.heap.size ∧ gE < wx.heap.size
  bel : Below w.heap.size w wx
theorem PcSt.next {w a b : World} {v1 v2 : Value} {gN gE : Nat} {N E : List Int} (h : PcSt w v1 v2 gN gE N E a) (hb : Below a.heap.size a b) : PcSt w v1 v2 gN gE N E b :=
  ⟨h.box.below hb h.box.lt, fun j hj => (hb.cell (p := ⟨gN, j, none⟩) h.lt.1).trans (h.nd j hj), fun j hj => (hb.cell (p := ⟨gE, j, none⟩) h.lt.2).trans (h.ed j hj), ⟨Nat.lt_of_lt_of_le h.lt.1 hb.size, Nat.lt_of_lt_of_le h.lt.2 hb.size⟩, h.bel.trans (hb.mono h.bel.size)⟩
theorem PcSt.drew {w a : World} {v1 v2 : Value} {gN gE : Nat} {N E : List Int} (h : PcSt w v1 v2 gN gE N E a) : PcSt w v1 v2 gN gE N E a.drew := h.next (below_drew (Below.refl _ _))
theorem PcSt.grown {w a b : World} {v1 v2 : Value} {gN gE : Nat} {N E : List Int} {r : Option Nat} (h : PcSt w v1 v2 gN gE N E a) (hg : a.grownBy b r) (hr : ∀ q, r = some q → q ≠ gN ∧ q ≠ gE ∧ w.heap.size < q) : PcSt w v1 v2 gN gE N E b :=
  ⟨(hg.block w.heap.size h.box.lt (fun e => by have := hr _ e.symm; omega)).trans h.box, fun j hj => by rw [ne_grownP hg h.lt.1 (fun q hq => (hr q hq).1)]; exact h.nd j hj, fun j hj => by rw [ne_grownP hg h.lt.2 (fun q hq => (hr q hq).2.1)]; exact h.ed j hj, ⟨Nat.lt_of_lt_of_le h.lt.1 hg.size, Nat.lt_of_lt_of_le h.lt.2 hg.size⟩, h.bel.grown hg h.bel.size (fun q hq => Nat.le_of_lt (hr q hq).2.2)⟩
theorem PcSt.alloc {w a : World} {v1 v2 : Value} {gN gE : Nat} {N E : List Int} (h : PcSt w v1 v2 gN gE N E a) (o : Obj) : PcSt w v1 v2 gN gE N E (a.alloc o) := h.next ((Below.refl _ _).alloc (Nat.le_refl _) _)
theorem pacL_take {ps ws vs : List Int} {d : Int} {k : Nat} (hk : k < (endsT ps).length) : ((endsT ps).take (k + 1)).map (fun e => vs.getD (crank ps ws d e) 0) = ((endsT ps).take k).map (fun e => vs.getD (crank ps ws d e) 0) ++ [vs.getD (crank ps ws d ((endsT ps).getD k 0)) 0] := by
  rw [List.take_succ_eq_append_getElem hk, List.map_append]
  have : (endsT ps).getD k 0 = (endsT ps)[k] := by rw [List.getD_eq_getElem?_getD, List.getElem?_eq_getElem hk]; rfl
  rw [this]; rfl
set_option maxRecDepth 100000 in
set_option maxHeartbeats 8000000 in
theorem pacM (ps ws vs : List Int) (d : Int) (v u : Value) (w : World) (hl9 : vs.length ≤ 1048576) (h : TreeV w w.heap.size v ps ws) (hu : IntsV w w.heap.size u vs) :
    Calls Try.prog 33 #[v, .int .i64 d, u] w (NewIntsB (ifPac ps ws vs d) (pacB ps ws vs d) w) := by
  have G := Lib.hid (fun w' (hb : Below w.heap.size w w') => goodS ps ws v w' (h.boxed hb))
  have CU := Lib.hid (fun (g : Good ps ws) w' (hb : Below w.heap.size w w') => cutRowS ps ws v d w' g (h.boxed hb))
  have EN := Lib.hid (fun (g : Good ps ws) w' (hb : Below w.heap.size w w') => endsS ps ws v w' (h.boxed hb) g.n24 (parAll g))
  have UN := Lib.hid (fun (g : Good ps ws) (c x : Nat) (hx : x < ps.length) w' (hb : Below w.heap.size w w') => underS ps ws v c x w' g hx (h.boxed hb))
  obtain ⟨p1, c1, p2, c2, rfl⟩ := h.shape
  clear h
  obtain ⟨q, cq, rfl, lq, mq, zq, iq⟩ := hu
  have E1 := Lib.hid iq
  have Z1 := Lib.hid zq
  clear iq zq mq
  have B1 := ((Below.refl w.heap.size w).alloc (Nat.le_refl _) (.cells #[.slice p1 ps.length c1, .slice p2 ws.length c2] 29)).alloc (by simp) (.cells #[] 3)
  have T0 : TBox (w.alloc (.cells #[.slice p1 ps.length c1, .slice p2 ws.length c2] 29)) w.heap.size (.slice p1 ps.length c1) (.slice p2 ws.length c2) := alloc_heap w _
  have O0 := OwnV.empty (w.alloc (.cells #[.slice p1 ps.length c1, .slice p2 ws.length c2] 29)) (w.heap.size + 1) (by simp)
  rw [show (w.alloc (.cells #[.slice p1 ps.length c1, .slice p2 ws.length c2] 29)).heap.size = w.heap.size + 1 by simp] at O0
  obtain ⟨wa, hwa⟩ : ∃ wa, wa = (w.alloc (.cells #[.slice p1 ps.length c1, .slice p2 ws.length c2] 29)).alloc (.cells #[] 3) := ⟨_, rfl⟩
  have T1 : Hid (TBox wa w.heap.size (.slice p1 ps.length c1) (.slice p2 ws.length c2)) := Lib.hid (by rw [hwa]; exact T0.alloc _)
  have sza : w.heap.size + 1 < wa.heap.size := by rw [hwa]; simp
  rw [← hwa] at B1 O0
  have HBA := Lib.hid B1
  have OA := Lib.hid O0
  clear B1 O0 T0
  obtain ⟨x0, x1⟩ := T1.out.cells
  have EMP : Hid (∀ w1, Below wa.heap.size wa w1 → NewIntsB [] false w (.returned (.tuple #[.slice (some ⟨w.heap.size + 1, 0, none⟩) 0 0, .bool false])) w1) := Lib.hid (fun w1 hb => ⟨_, rfl, ((OA.out.below hb).wide hb.size (Nat.le_refl _)).low (by omega), HBA.out.trans (hb.mono HBA.out.size)⟩)
  cases hg : goodT ps ws
  · rw [hg] at G
    have PN : pacB ps ws vs d = false := by unfold pacB okD; rw [hg]; rfl
    have R1 := Lib.hid (ifPac_no PN)
    have R2 := Lib.hid PN
    rw [R1.out, R2.out]
    clear hg PN CU EN UN
    go_enter Try.func33, Try.ntmps33
    go_wp2_with fail
    rw [← hwa]
    clear hwa
    refine (G.out _ HBA.out).mono ?_
    rintro e w1 ⟨rfl, b1⟩
    have FIN := Lib.hid (EMP.out _ b1)
    clear b1
    go_wp2_with fail
    go_ret2
    exact FIN.out
  · rw [hg] at G
    by_cases hd : 0 ≤ d
    · have gd := Good.of hg
      have hn24 := gd.n24
      have hn1 := gd.n1
      have CU2 := Lib.hid (CU.out gd)
      have EN2 := Lib.hid (EN.out gd)
      have UN2 := Lib.hid (UN.out gd)
      have hel := Nat.le_trans (ends_le ps) hn24
      have hcl : (cutT ps ws d).length ≤ 24 := Nat.le_trans (nodesW_len _ _) hn24
      have EP := ends_pos gd
      have NP : 0 < (cutT ps ws d).length := by
        obtain ⟨x, _, hx, hl⟩ := ends_in (ps := ps) (i := 0) EP
        exact Nat.lt_of_le_of_lt (Nat.zero_le _) (crank_at gd hd hx hl).1
      have PB : Hid (pacB ps ws vs d = (decide (vs.length = (cutT ps ws d).length) && vs.all payOk)) := Lib.hid (by unfold pacB okD; rw [hg, decide_eq_true hd]; rfl)
      have BAD := Lib.hid (fun (i : Nat) (hi : i < vs.length) h => pacB_no (ps := ps) (ws := ws) (d := d) hi h)
      have NO := Lib.hid (fun h => ifPac_no (ps := ps) (ws := ws) (vs := vs) (d := d) h)
      have YES := Lib.hid (fun h => ifPac_ok (ps := ps) (ws := ws) (vs := vs) (d := d) h)
      have EI := Lib.hid (fun i (hi : i < (endsT ps).length) => ends_in hi)
      have CR := Lib.hid (fun (x : Nat) (hx : x < ps.length) (hl : leafB ps x = true) => crank_at (ws := ws) gd hd hx hl)
      have CK : Hid (∀ (x : Nat) (hx : x < ps.length) (hl : leafB ps x = true) (k : Nat) (hk : k ≤ crank ps ws d (x : Int)), ∃ c : Nat, (c : Int) = (cutT ps ws d).getD k 0 ∧ c < ps.length ∧ undB ps c x = decide (k = crank ps ws d (x : Int))) := Lib.hid (fun x hx hl k hk => by
        obtain ⟨c, h1, h2, h3⟩ := crank_und (ws := ws) gd hd hx hl hk
        refine ⟨c, h1, h2, ?_⟩
        unfold undB
        rw [h3]
        by_cases e : k = crank ps ws d (x : Int)
        · rw [if_pos e, decide_eq_true e]; rfl
        · rw [if_neg e, decide_eq_false e]; rfl)
      have TK := Lib.hid (fun k (hk : k < (endsT ps).length) => pacL_take (ps := ps) (ws := ws) (vs := vs) (d := d) hk)
      have TA : Hid (((endsT ps).take (endsT ps).length).map (fun e => vs.getD (crank ps ws d e) 0) = pacL ps ws vs d) := Lib.hid (by rw [List.take_of_length_le (Nat.le_refl _)]; rfl)
      have nd : ¬ d < 0 := by omega
      obtain ⟨F, hF⟩ : ∃ F : Int → Int, F = fun e => vs.getD (crank ps ws d e) 0 := ⟨_, rfl⟩
      have FE : Hid (∀ e, F e = vs.getD (crank ps ws d e) 0) := Lib.hid (fun e => by rw [hF])
      rw [← hF] at TK TA
      have TK2 : Hid (∀ k, k < (endsT ps).length → ((endsT ps).take (k + 1)).map F = ((endsT ps).take k).map F ++ [F ((endsT ps).getD k 0)]) := Lib.hid (fun k hk => by rw [FE.out]; exact TK.out k hk)
      obtain ⟨N, hN⟩ : ∃ N, N = cutT ps ws d := ⟨_, rfl⟩
      obtain ⟨E, hE⟩ : ∃ E, E = endsT ps := ⟨_, rfl⟩
      rw [← hN] at CU2 hcl NP PB CR CK
      rw [← hE] at EN2 hel EP EI TK2 TA
      clear hN hE hg gd hd CU EN UN hF TK
      go_enter Try.func33, Try.ntmps33
      go_wp2_with fail
      rw [← hwa]
      clear hwa
      refine (G.out _ HBA.out).mono ?_
      rintro e w1 ⟨rfl, b1⟩
      have HB1 := Lib.hid (HBA.out.trans (b1.mono HBA.out.size))
      have T2 := Lib.hid (T1.out.below b1 T1.out.lt)
      have OB := Lib.hid ((OA.out.below b1).wide b1.size (Nat.le_refl _))
      have EM2 : Hid (∀ w3, Below w1.heap.size w1 w3 → NewIntsB [] false w (.returned (.tuple #[.slice (some ⟨w.heap.size + 1, 0, none⟩) 0 0, .bool false])) w3) := Lib.hid (fun w3 hb => EMP.out w3 (b1.trans (hb.mono b1.size)))
      have sz1 : w.heap.size + 1 < w1.heap.size := Nat.lt_of_lt_of_le sza b1.size
      clear b1 x0 x1 EMP OA T1 HBA sza
      obtain ⟨x0, x1⟩ := T2.out.cells
      go_upto_region 4 with fail
      go_cut [9, 10] (fun sN sE wx => ∃ gN cN gE cE, sN = .slice (some ⟨gN, 0, none⟩) N.length cN ∧ sE = .slice (some ⟨gE, 0, none⟩) E.length cE ∧ Hid (PcSt w (.slice p1 ps.length c1) (.slice p2 ws.length c2) gN gE N E wx) ∧ Hid (Below w1.heap.size w1 wx) ∧ Hid (w1.heap.size ≤ gN ∧ w1.heap.size ≤ gE))
      case first =>
        have HE0 := Lib.hid (show MBt w w.heap.size (.slice p1 ps.length c1) (.slice p2 ws.length c2) w1 from ⟨T2.out, HB1.out⟩)
        have HD := Lib.hid HE0.out.drew
        have KC : Hid (∀ w', Hid (MBt w w.heap.size (.slice p1 ps.length c1) (.slice p2 ws.length c2) w') → w'.cell? ⟨w.heap.size, 0, none⟩ = some (.slice p1 ps.length c1) ∧ w'.cell? ⟨w.heap.size, 1, none⟩ = some (.slice p2 ws.length c2)) := Lib.hid (fun w' he => he.out.1.cells)
        have C1 : Hid (∀ w', Hid (MBt w w.heap.size (.slice p1 ps.length c1) (.slice p2 ws.length c2) w') → Calls Try.prog 86 #[.agg #[.slice p1 ps.length c1, .slice p2 ws.length c2], .int .i64 d] w' (NewInts N w')) := Lib.hid (fun w' he => CU2.out w' he.out.2)
        have C2 : Hid (∀ w', Hid (MBt w w.heap.size (.slice p1 ps.length c1) (.slice p2 ws.length c2) w') → Calls Try.prog 87 #[.agg #[.slice p1 ps.length c1, .slice p2 ws.length c2]] w' (NewInts E w')) := Lib.hid (fun w' he => EN2.out w' he.out.2)
        go_region_held3 (fun w' => w'.cell? ⟨w.heap.size, 0, none⟩ = some (.slice p1 ps.length c1) ∧ w'.cell? ⟨w.heap.size, 1, none⟩ = some (.slice p2 ws.length c2))
          (first | exact KC.out _ HD | exact KC.out _ (by assumption) | go_keep)
          (first
            | (go_at_call 86; (with_reducible refine (C1.out _ (by first | exact HD | assumption)).mono ?_); rintro e w8 ⟨u8, rfl, o8, b8⟩; (obtain ⟨gN, cN, rfl, hn1', hn2'⟩ := o8.shape NP); (have HE8 := Lib.hid (MBt.next (Hid.out (by first | exact HD | assumption)) b8)))
            | (go_at_call 87; (with_reducible refine (C2.out _ (by first | exact HE8)).mono ?_); rintro e w9 ⟨u9, rfl, o9, b9⟩; (obtain ⟨gE, cE, rfl, he1', he2'⟩ := o9.shape EP); (have HE9 := Lib.hid (MBt.next HE8.out b9))))
        all_goals
          go_wp2_with fail
          go_meet
          have c8 := undrew b8
          have z8 := c8.size
          have z9 := b9.size
          refine ⟨_, _, _, _, rfl, rfl, Lib.hid ⟨HE9.out.1, fun j hj => (b9.cell (p := ⟨gN, j, none⟩) hn2').trans (o8.cellGet hj), fun j hj => o9.cellGet hj, ⟨Nat.lt_of_lt_of_le hn2' z9, he2'⟩, HE9.out.2⟩, Lib.hid (c8.trans (b9.mono z8)), Lib.hid ⟨hn1', Nat.le_trans z8 he1'⟩⟩
      obtain ⟨gN, cN, gE, cE, rfl, rfl, HP3, HB3', HG3⟩ := hcut
      obtain ⟨w3, rfl⟩ : ∃ w3 : World, w3 = wc := ⟨_, rfl⟩
      have O3 := Lib.hid ((OB.out.below HB3'.out).wide HB3'.out.size (Nat.le_refl _))
      have FIN0 := Lib.hid (EM2.out _ HB3'.out)
      have NQ : Hid (w.heap.size + 1 ≠ gN ∧ w.heap.size + 1 ≠ gE) := Lib.hid (by have := HG3.out; omega)
      clear x0 x1 T2 HB1 OB EM2 CU2 EN2 G HB3' HG3
      obtain ⟨x0, x1⟩ := HP3.out.box.cells
      by_cases hlen : vs.length = N.length
      · have L1 := Lib.hid hlen
        rw [hlen]
        go_wp2_with fail
        go_loopw [11] (fun i wr => ∃ k : Nat, k ≤ N.length ∧ i = .int .i64 k ∧ Hid (∀ j, j < k → payOk (vs.getD j 0) = true) ∧ wr = w3) (fun i _ => N.length - (intOf i).toNat)
        case atStart => exact ⟨0, Nat.zero_le _, rfl, Lib.hid (fun j hj => by omega), rfl⟩
        case round =>
          obtain ⟨k, hk, rfl, HA9, rfl⟩ := hrel
          by_cases hlt : k < N.length
          · have hltv : k < vs.length := by have := L1.out; omega
            obtain ⟨b, off, rfl, hb, hc⟩ := E1.out.get hltv
            have hcw : wr.cell? ⟨b, off + k, none⟩ = some (.int .i64 (vs.getD k 0)) := by rw [HP3.out.bel.cell (p := ⟨b, off + k, none⟩) hb]; exact hc
            have i0 : (0 : Int) ≤ (k : Int) := by omega
            have i1 : (k : Int) < (N.length : Int) := by omega
            have FA := Lib.hid (BAD.out k hltv)
            have NX : Hid (payOk (vs.getD k 0) = true → ∀ j, j < k + 1 → payOk (vs.getD j 0) = true) := Lib.hid (fun h j hj => by
              rcases Nat.lt_or_ge j k with h' | h'
              · exact HA9.out j h'
              · obtain rfl : j = k := by omega
                exact h)
            obtain ⟨z, hz⟩ : ∃ z, z = vs.getD k 0 := ⟨_, rfl⟩
            rw [← hz] at hcw FA NX
            have C := Lib.hid (inS z (-999) 999 wr)
            have D : Hid (decide (-999 ≤ z ∧ z ≤ 999) = payOk z) := Lib.hid rfl
            rw [D.out] at C
            clear hc hz HA9 D
            obtain ⟨t, ht⟩ : ∃ t, t = payOk z := ⟨_, rfl⟩
            rw [← ht] at C FA NX
            clear ht
            cases t
            · have R := Lib.hid (FA.out rfl)
              have R1 := Lib.hid (NO.out R.out)
              have FIN : Hid (NewIntsB (ifPac ps ws vs d) (pacB ps ws vs d) w (.returned (.tuple #[.slice (some ⟨wr.heap.size, 0, none⟩) 0 0, .bool false])) (wr.alloc (.cells #[] 3))) := Lib.hid (by rw [R1.out, R.out]; exact newInts_emptyP HP3.out.bel rfl)
              clear FA NX R R1
              go_wp2_with fail
              refine C.out.mono ?_
              rintro e w2 ⟨rfl, rfl⟩
              go_wp2_with fail
              go_ret2
              exact FIN.out
            · have N2 := Lib.hid (NX.out rfl)
              clear FA NX
              go_wp2_with fail
              refine C.out.mono ?_
              rintro e w2 ⟨rfl, rfl⟩
              go_wp2_with fail
              go_roundw
              case rel => exact ⟨k + 1, by omega, by go_num, N2, by first | trivial | rfl⟩
              case measure => simp [intOf]; omega
          · obtain rfl : k = N.length := by omega
            have R : Hid (pacB ps ws vs d = true) := Lib.hid (by
              rw [PB.out, decide_eq_true L1.out, Bool.true_and, List.all_eq_true]
              intro z hz
              obtain ⟨i, hi, rfl⟩ := mem_getD hz
              exact HA9.out i (by have := L1.out; omega))
            have R1 := Lib.hid (YES.out R.out)
            have VB : Hid (∀ i, i < N.length → -999 ≤ vs.getD i 0 ∧ vs.getD i 0 ≤ 999) := Lib.hid (fun i hi => of_decide_eq_true (show payOk (vs.getD i 0) = true from HA9.out i hi))
            have NQ3 : Hid (∀ q, (Value.slice (some ⟨w.heap.size + 1, 0, none⟩) 0 0).ownBlock = some q → q ≠ gN ∧ q ≠ gE) := Lib.hid (fun q hq => by simp [Value.ownBlock] at hq; have := NQ.out; omega)
            have O4 : Hid (OwnV wr (w.heap.size + 1) wr.heap.size (.slice (some ⟨w.heap.size + 1, 0, none⟩) 0 0) ((E.take 0).map F)) := Lib.hid O3.out
            obtain ⟨i0, hi, hz0, hz1, hz2⟩ := info_parts intInfo
            clear HA9 BAD NO YES PB FIN0 O3 NQ
            go_wp2_with fail
            go_loopg [8, 12] E.length (fun gg o i wx => ∃ k : Nat, k ≤ E.length ∧ E.length - k ≤ gg ∧ i = .int .i64 k ∧ Hid (OwnV wx (w.heap.size + 1) wx.heap.size o ((E.take k).map F)) ∧ Hid (∀ q, o.ownBlock = some q → q ≠ gN ∧ q ≠ gE) ∧ Hid (PcSt w (.slice p1 ps.length c1) (.slice p2 ws.length c2) gN gE N E wx))
            case atStart => exact ⟨0, Nat.zero_le _, by omega, rfl, O4, NQ3, HP3⟩
            case round =>
              obtain ⟨k, hk, hgg, rfl, HO, HQ, HP⟩ := hrel
              clear O4 NQ3 HP3 x0 x1
              by_cases hlt : k < E.length
              · obtain ⟨e, he, hel2, hl⟩ := EI.out k hlt
                obtain ⟨hcr, _⟩ := CR.out e hel2 hl
                have CK2 := Lib.hid (CK.out e hel2 hl)
                have UN3 := Lib.hid (fun (c : Nat) w' hb => UN2.out c e hel2 w' hb)
                have i0' : (0 : Int) ≤ (k : Int) := by omega
                have i1' : (k : Int) < (E.length : Int) := by omega
                have TKK := Lib.hid (TK2.out k hlt)
                have FK : Hid (F (E.getD k 0) = vs.getD (crank ps ws d (e : Int)) 0) := Lib.hid (by rw [FE.out, ← he])
                rw [FK.out] at TKK
                obtain ⟨r, hr⟩ : ∃ r, r = crank ps ws d (e : Int) := ⟨_, rfl⟩
                rw [← hr] at hcr CK2 TKK
                have ED : Hid (E.getD k 0 = (e : Int)) := Lib.hid he.symm
                have MZ := (show k < E.length from hlt)
                clear he hr FK
                go_wp2_with fail
                go_loopg [13] (N.length + 1) (fun gg i wx => ∃ m : Nat, m ≤ r ∧ r - m + 1 ≤ gg ∧ i = .int .i64 m ∧ Hid (OwnV wx (w.heap.size + 1) wx.heap.size u8 ((E.take k).map F)) ∧ Hid (PcSt w (.slice p1 ps.length c1) (.slice p2 ws.length c2) gN gE N E wx))
                case atStart => exact ⟨0, Nat.zero_le _, by omega, rfl, HO, HP⟩
                case round =>
                  obtain ⟨m, hm, hgm, rfl, HO2, HP2⟩ := hrel
                  clear HO HP
                  obtain ⟨c, hc1, hc2, hc3⟩ := CK2.out m hm
                  have UN4 := Lib.hid (UN3.out c)
                  have KC : Hid (∀ w', Hid (PcSt w (.slice p1 ps.length c1) (.slice p2 ws.length c2) gN gE N E w') → w'.cell? ⟨w.heap.size, 0, none⟩ = some (.slice p1 ps.length c1) ∧ w'.cell? ⟨w.heap.size, 1, none⟩ = some (.slice p2 ws.length c2) ∧ w'.cell? ⟨gN, m, none⟩ = some (.int .i64 c) ∧ w'.cell? ⟨gE, k, none⟩ = some (.int .i64 e)) := Lib.hid (fun w' hs => ⟨hs.out.box.cells.1, hs.out.box.cells.2, by rw [hs.out.nd m (by omega), hc1], by rw [hs.out.ed k hlt, ED.out]⟩)
                  have CA : Hid (∀ w', Hid (PcSt w (.slice p1 ps.length c1) (.slice p2 ws.length c2) gN gE N E w') → Calls Try.prog 89 #[.agg #[.slice p1 ps.length c1, .slice p2 ws.length c2], .int .i64 c, .int .i64 e] w' (Gives (.bool (undB ps c e)) w')) := Lib.hid (fun w' hs => UN4.out w' hs.out.bel)
                  have HD := Lib.hid HP2.out.drew
                  have HW := Lib.hid hc3
                  rw [HW.out] at CA
                  have m0 : (0 : Int) ≤ (m : Int) := by omega
                  have m1 : (m : Int) < (N.length : Int) := by omega
                  have OD : Hid (∀ w8, Below wr.drew.heap.size wr.drew w8 → Hid (OwnV w8 (w.heap.size + 1) w8.heap.size u8 ((E.take k).map F))) := Lib.hid (fun w8 hb => Lib.hid ((HO2.out.below (undrew hb)).wide (undrew hb).size (Nat.le_refl _)))
                  clear hc1 hc3
                  by_cases hmr : m = r
                  · subst hmr
                    have DT : Hid (decide (m = m) = true) := Lib.hid (decide_eq_true rfl)
                    rw [DT.out] at CA
                    have VBM := VB.out m (by omega)
                    obtain ⟨b, off, rfl, hb, hc⟩ := E1.out.get (i := m) (by have := L1.out; omega)
                    have CV : Hid (∀ wx, Below w.heap.size w wx → wx.cell? ⟨b, off + m, none⟩ = some (.int .i64 (vs.getD m 0))) := Lib.hid (fun wx hbb => by rw [hbb.cell (p := ⟨b, off + m, none⟩) hb]; exact hc)
                    obtain ⟨z, hz⟩ : ∃ z, z = vs.getD m 0 := ⟨_, rfl⟩
                    rw [← hz] at CV TKK VBM
                    clear hc hz HO2
                    have LQ : ((E.take k).map F).length ≤ 24 := by rw [List.length_map, List.length_take]; omega
                    obtain ⟨L, hL⟩ : ∃ L, L = (E.take k).map F := ⟨_, rfl⟩
                    rw [← hL] at OD TKK LQ
                    clear hL
                    go_wp2_with fail
                    go_region_held3 (fun w' => w'.cell? ⟨w.heap.size, 0, none⟩ = some (.slice p1 ps.length c1) ∧ w'.cell? ⟨w.heap.size, 1, none⟩ = some (.slice p2 ws.length c2) ∧ w'.cell? ⟨gN, m, none⟩ = some (.int .i64 c) ∧ w'.cell? ⟨gE, k, none⟩ = some (.int .i64 e))
                      (first | exact KC.out _ HD | exact KC.out _ (by assumption) | go_keep)
                      (first
                        | (go_at_call 89; (with_reducible refine (CA.out _ (by first | exact HD | assumption)).mono ?_); rintro e w8 ⟨rfl, b8⟩; (have HE8 := Lib.hid (PcSt.next (Hid.out (by first | exact HD | assumption)) b8)); (have HO8 := OD.out _ b8); clear b8))
                    all_goals
                      have hcv := CV.out w8 HE8.out.bel
                      have hown := HO8.out.row
                      have hsz := HE8.out.box.lt
                      go_wp2_with (at_builtin; refine wpList_append_own_at _ rfl _ _ 22 rfl (w.heap.size + 1) 3 i0 (.int .i64 0) 1 8 Try.underlying22 hi hz0 hz1 hz2 rfl (by decide) _ L.length (L.map (.int .i64)) rfl (hown.alloc _) ⟨w8.heap.size, 0, none⟩ 1 1 [.int .i64 z] rfl rfl (cell_one_new _ _ _) (fun x hx => by simp at hx; subst hx; rfl) (by unfold maxLen; omega) (by omega) (by simp; omega) ?_; intro v' w4 hown3 hgrow3 hnil3 hloc3)
                      have own3 := Lib.hid (HO8.out.app (x := z) (by unfold InI64; omega) hown3)
                      rw [← TKK.out] at own3
                      have st3 := Lib.hid ((HE8.out.alloc (.cells #[.int .i64 z] 3)).grown hgrow3 (fun q hq => by have h1 := HQ.out q hq; have h2 := (hown.lt q hq).1; exact ⟨h1.1, h1.2, by omega⟩))
                      have q3 : Hid (∀ q, v'.ownBlock = some q → q ≠ gN ∧ q ≠ gE) := Lib.hid (fun q hq => by
                        rcases hloc3 with h | h
                        · exact HQ.out q (h.symm.trans hq)
                        · rw [h] at hq; simp at hq; have := HE8.out.lt; omega)
                      clear hown hown3 hgrow3 hnil3 hloc3 HE8 HO8
                      go_wp2_with fail
                      go_roundg (E.length - (k + 1))
                      case rel => exact ⟨k + 1, by omega, by omega, by go_num, own3, q3, st3⟩
                      case measure => omega
                  · have DT : Hid (decide (m = r) = false) := Lib.hid (decide_eq_false hmr)
                    rw [DT.out] at CA
                    clear HO2
                    go_wp2_with fail
                    go_region_held3 (fun w' => w'.cell? ⟨w.heap.size, 0, none⟩ = some (.slice p1 ps.length c1) ∧ w'.cell? ⟨w.heap.size, 1, none⟩ = some (.slice p2 ws.length c2) ∧ w'.cell? ⟨gN, m, none⟩ = some (.int .i64 c) ∧ w'.cell? ⟨gE, k, none⟩ = some (.int .i64 e))
                      (first | exact KC.out _ HD | exact KC.out _ (by assumption) | go_keep)
                      (first
                        | (go_at_call 89; (with_reducible refine (CA.out _ (by first | exact HD | assumption)).mono ?_); rintro e w8 ⟨rfl, b8⟩; (have HE8 := Lib.hid (PcSt.next (Hid.out (by first | exact HD | assumption)) b8)); (have HO8 := OD.out _ b8); clear b8))
                    all_goals
                      go_wp2_with fail
                      go_roundg (r - (m + 1) + 1)
                      case rel => exact ⟨m + 1, by omega, by omega, by go_num, HO8, HE8⟩
                      case measure => omega
              · obtain rfl : k = E.length := by omega
                rw [TA.out] at HO
                have FIN : Hid (∀ o, OwnV wr (w.heap.size + 1) wr.heap.size o (pacL ps ws vs d) → NewIntsB (ifPac ps ws vs d) (pacB ps ws vs d) w (.returned (.tuple #[o, .bool true])) wr) := Lib.hid (fun o ho => by
                  rw [R1.out, R.out]
                  exact ⟨_, rfl, ho.low (by omega), HP.out.bel⟩)
                clear R R1 TA TK2
                go_wp2
                go_ret2
                exact FIN.out _ HO.out
      · have R : Hid (pacB ps ws vs d = false) := Lib.hid (by rw [PB.out, decide_eq_false hlen]; rfl)
        have R1 := Lib.hid (NO.out R.out)
        have nb : ((vs.length : Int) != (N.length : Int)) = true := by rw [bne_iff_ne]; omega
        clear hlen
        go_wp2_with fail
        go_ret2
        rw [R1.out, R.out]
        exact FIN0.out
    · have PN : pacB ps ws vs d = false := by unfold pacB okD; rw [hg, decide_eq_false hd]; rfl
      have R1 := Lib.hid (ifPac_no PN)
      have R2 := Lib.hid PN
      have nd : d < 0 := by omega
      rw [R1.out, R2.out]
      clear hg PN CU EN UN hd
      go_enter Try.func33, Try.ntmps33
      go_wp2_with fail
      rw [← hwa]
      clear hwa
      refine (G.out _ HBA.out).mono ?_
      rintro e w1 ⟨rfl, b1⟩
      have FIN := Lib.hid (EMP.out _ b1)
      clear b1
      go_wp2_with fail
      go_ret2
      exact FIN.out
end Go.Proofs.Ytonlibncccljgaa
