/- IsPlan, KeptUnits, IsUpward, IsCentred in the program: what they answer. -/
import Derived.Test.YtligidmkhbcpmabEdgI
import Derived.Test.YtligidmkhbcpmabPlnV
namespace Go.Proofs.Ytligidmkhbcpmab
open Go.RowKit
set_option linter.unusedVariables false
theorem smT_take {zs : List Int} {n : Nat} (h : n ≤ zs.length) : ∀ k, k ≤ n → smT (zs.take n) k = smT zs k
  | 0, _ => rfl
  | k + 1, hk => by
    simp only [smT]
    rw [smT_take h k (by omega)]
    congr 1
    rw [List.getD_eq_getElem?_getD, List.getD_eq_getElem?_getD, List.getElem?_take, if_pos (by omega)]
theorem IntsV.takeTo {w : World} {B : Nat} {p : Option Addr} {c n : Nat} {zs : List Int} (h : IntsV w B (.slice p zs.length c) zs) (hn : n ≤ zs.length) : IntsV w B (.slice p n c) (zs.take n) := by
  obtain ⟨p', c', e, h1, h2, h3, h4⟩ := h
  injection e with e1 _ e2
  subst e1 e2
  have hl : (zs.take n).length = n := by rw [List.length_take]; omega
  refine ⟨p, c, by rw [hl], by rw [hl]; omega, by rw [hl]; omega, fun z hz => h3 z (List.mem_of_mem_take hz), fun i hi => ?_⟩
  rw [hl] at hi
  obtain ⟨b, off, a1, a2, a3⟩ := h4 i (by omega)
  refine ⟨b, off, a1, a2, ?_⟩
  rw [a3, List.getElem_take]
set_option maxRecDepth 100000 in
set_option maxHeartbeats 4000000 in
theorem isplI (ps qs : List Int) (R : Nat) (f : Nat → List Int) (v u t : Value) (w : World) (hp : ps.length ≤ 1048576) (hq : qs.length ≤ 1048576) (hR : R ≤ 1048576) (hf : ∀ i, i < R → (f i).length ≤ 1048576) (hv : IntsV w w.heap.size v ps) (hu : IntsV w w.heap.size u qs) (ht : TabV w w.heap.size t R f) :
    Calls Try.prog 16 #[v, u, t] w (Gives (isplV ps qs R f) w) := by
  have AL := Lib.hid (aliY ps qs v u w hp hq hv hu)
  have SQ := Lib.hid (fun w' (hb : Below w.heap.size w w') => squareY R f t ps.length 40 w' hR hf hp (ht.below hb |>.more hb.size))
  unfold aliV at AL
  unfold isplV isplB
  cases ha : aliB ps qs
  · rw [ha] at AL
    clear SQ ha
    generalize (sprB ps && sprB qs) = ok at *
    rw [Bool.false_and]
    obtain ⟨q1, c1, rfl, _⟩ := hv
    obtain ⟨q2, c2, rfl, _⟩ := hu
    obtain ⟨q3, c3, rfl, _⟩ := ht
    go_enter Try.func16, Try.ntmps16
    go_wp2_with fail
    refine AL.out.mono ?_
    rintro e w1 ⟨rfl, b1⟩
    have B1 := Lib.hid b1
    clear b1
    go_wp2_with fail
    go_ret2
    exact ⟨rfl, B1.out⟩
  · rw [ha] at AL
    have A := aliB_iff.1 ha
    rw [Bool.true_and]
    cases hs : sqB R f ps.length 40
    · rw [hs] at SQ
      have NO := Lib.hid (show plnB ps qs R f = false from plnB_no (fun p => by rw [sqB_iff.2 p.sq] at hs; cases hs))
      clear hs ha A
      generalize (sprB ps && sprB qs) = ok at *
      obtain ⟨q1, c1, rfl, _⟩ := hv
      obtain ⟨q2, c2, rfl, _⟩ := hu
      obtain ⟨q3, c3, rfl, _⟩ := ht
      go_enter Try.func16, Try.ntmps16
      go_wp2_with fail
      refine AL.out.mono ?_
      rintro e w1 ⟨rfl, b1⟩
      have B1 := Lib.hid b1
      clear b1
      go_wp2_with fail
      refine (SQ.out _ B1.out).mono ?_
      rintro e w2 ⟨rfl, b2⟩
      have B2 := bl_up' B1 b2
      clear b2
      go_wp2_with fail
      go_ret2
      exact ⟨by rw [NO.out]; rfl, B2.out⟩
    · rw [hs] at SQ
      have s := sqB_iff.1 hs
      have PE := Lib.hid (pln_edges A.len s)
      have n8 := A.p.n8
      have l2 : qs.length ≤ 8 := by have := A.q.n8; omega
      have EG := Lib.hid (fun w' (hb : Below w.heap.size w w') => edgesY R f ps.length t w' s n8 (ht.below hb |>.more hb.size))
      have E1 := Lib.hid (fun w' x y B C (hB : B ≤ w'.heap.size) (hC : C ≤ w'.heap.size) (hx : IntsV w' B x (erF f ps.length ps.length 0)) (hy : IntsV w' C y ps) => equalY (erF f ps.length ps.length 0) ps x y w' (by rw [er_len]; omega) hp (hx.more hB) (hy.more hC))
      have E2 := Lib.hid (fun w' x y B C (hB : B ≤ w'.heap.size) (hC : C ≤ w'.heap.size) (hx : IntsV w' B x (ecF f ps.length ps.length 0)) (hy : IntsV w' C y qs) => equalY (ecF f ps.length ps.length 0) qs x y w' (by rw [ec_len]; omega) hq (hx.more hB) (hy.more hC))
      have VP := Lib.hid (fun w' (hb : Below w.heap.size w w') => hv.below hb)
      have VQ := Lib.hid (fun w' (hb : Below w.heap.size w w') => hu.below hb)
      rw [PE.out]
      clear hs ha A s PE n8 l2
      generalize decide (erF f ps.length ps.length 0 = ps) = d1 at *
      generalize decide (ecF f ps.length ps.length 0 = qs) = d2 at *
      generalize (sprB ps && sprB qs) = ok at *
      obtain ⟨q1, c1, rfl, _⟩ := hv
      obtain ⟨q2, c2, rfl, _⟩ := hu
      obtain ⟨q3, c3, rfl, _⟩ := ht
      cases d1
      · go_enter Try.func16, Try.ntmps16
        go_wp2_with fail
        refine AL.out.mono ?_
        rintro e w1 ⟨rfl, b1⟩
        have B1 := Lib.hid b1
        clear b1
        go_wp2_with fail
        refine (SQ.out _ B1.out).mono ?_
        rintro e w2 ⟨rfl, b2⟩
        have B2 := bl_up' B1 b2
        clear b2
        go_wp2_with fail
        refine (EG.out _ B2.out).mono ?_
        rintro e w3 ⟨x3, y3, rfl, o3, p3, b3⟩
        have B3 := bl_up' B2 b3
        have O3 := Lib.hid o3
        have P3 := Lib.hid p3
        obtain ⟨qa, ca, rfl, _⟩ := o3.intsV
        obtain ⟨qb, cb, rfl, _⟩ := p3.intsV
        clear b3 o3 p3
        go_wp2_with fail
        refine (E1.out _ _ _ _ _ (Nat.le_refl _) B3.out.size O3.out.intsV (VP.out _ B3.out)).mono ?_
        rintro e w4 ⟨rfl, m, rfl⟩
        go_wp2_with fail
        go_ret2
        exact ⟨rfl, below_drewN B3.out _⟩
      · go_enter Try.func16, Try.ntmps16
        go_wp2_with fail
        refine AL.out.mono ?_
        rintro e w1 ⟨rfl, b1⟩
        have B1 := Lib.hid b1
        clear b1
        go_wp2_with fail
        refine (SQ.out _ B1.out).mono ?_
        rintro e w2 ⟨rfl, b2⟩
        have B2 := bl_up' B1 b2
        clear b2
        go_wp2_with fail
        refine (EG.out _ B2.out).mono ?_
        rintro e w3 ⟨x3, y3, rfl, o3, p3, b3⟩
        have B3 := bl_up' B2 b3
        have O3 := Lib.hid o3
        have P3 := Lib.hid p3
        obtain ⟨qa, ca, rfl, _⟩ := o3.intsV
        obtain ⟨qb, cb, rfl, _⟩ := p3.intsV
        clear b3 o3 p3
        go_wp2_with fail
        refine (E1.out _ _ _ _ _ (Nat.le_refl _) B3.out.size O3.out.intsV (VP.out _ B3.out)).mono ?_
        rintro e w4 ⟨rfl, m, rfl⟩
        go_wp2_with fail
        refine (E2.out (w3.drewN m) _ _ _ _ (Nat.le_refl _) B3.out.size P3.out.intsV (VQ.out _ (below_drewN B3.out _))).mono ?_
        rintro e w5 ⟨rfl, m2, rfl⟩
        go_wp2_with fail
        go_ret2
        exact ⟨rfl, by first | exact below_drewN B3.out _ | exact below_drewN (below_drewN B3.out _) _⟩
set_option maxRecDepth 100000 in
set_option maxHeartbeats 4000000 in
theorem kpuI (ps qs : List Int) (R : Nat) (f : Nat → List Int) (v u t : Value) (w : World) (hp : ps.length ≤ 1048576) (hq : qs.length ≤ 1048576) (hR : R ≤ 1048576) (hf : ∀ i, i < R → (f i).length ≤ 1048576) (hv : IntsV w w.heap.size v ps) (hu : IntsV w w.heap.size u qs) (ht : TabV w w.heap.size t R f) :
    Calls Try.prog 20 #[v, u, t] w (Gives (kpuV ps qs R f) w) := by
  have AL := Lib.hid (isplI ps qs R f v u t w hp hq hR hf hv hu ht)
  unfold isplV at AL
  cases ha : isplB ps qs R f
  · rw [show kpuV ps qs R f = .tuple #[.int .i64 0, .bool false] from if_neg (by rw [ha]; decide)]
    rw [ha] at AL
    clear ha
    generalize aliB ps qs = ok at *
    obtain ⟨q1, c1, rfl, _⟩ := hv
    obtain ⟨q2, c2, rfl, _⟩ := hu
    obtain ⟨q3, c3, rfl, _⟩ := ht
    go_enter Try.func20, Try.ntmps20
    go_wp2_with fail
    refine AL.out.mono ?_
    rintro e w1 ⟨rfl, b1⟩
    have B1 := Lib.hid b1
    clear b1
    go_wp2_with fail
    go_ret2
    exact ⟨rfl, B1.out⟩
  · rw [show kpuV ps qs R f = .tuple #[.int .i64 (dgT f R), .bool true] from if_pos ha]
    obtain ⟨A, P⟩ := isplB_iff.1 ha
    rw [ha] at AL
    clear ha
    have n8 := A.p.n8
    have hRn := P.sq.rows
    have SQL := Lib.hid P.sq.len
    have SQB := Lib.hid P.sq.bd
    obtain ⟨q1, c1, rfl, _⟩ := hv
    obtain ⟨q2, c2, rfl, _⟩ := hu
    obtain ⟨q3, c3, rfl, _, _, i3⟩ := ht
    have E1 := Lib.hid i3
    have HRN := Lib.hid hRn
    have R8 : R ≤ 8 := by omega
    have ST := Lib.hid (fun k => show dgT f (k + 1) = dgT f k + (f k).getD k 0 from rfl)
    have SB := Lib.hid (fun k (hk : k ≤ R) => dgT_bd (f := f) (m := 40) k (fun j hj => P.sq.bd j (by omega) j (by omega)))
    clear i3 A P hRn
    generalize aliB ps qs = ok at *
    go_enter Try.func20, Try.ntmps20
    go_wp2_with fail
    refine AL.out.mono ?_
    rintro e w1 ⟨rfl, b1⟩
    have B1 := Lib.hid b1
    clear b1
    go_wp2_with fail
    go_loopg [10, 24] R (fun gg s i wr => ∃ k : Nat, k ≤ R ∧ R - k ≤ gg ∧ i = .int .i64 k ∧ s = .int .i64 (dgT f k) ∧ Hid (Below w.heap.size w wr))
    case atStart => exact ⟨0, Nat.zero_le _, by omega, rfl, rfl, B1⟩
    case round =>
      clear B1
      obtain ⟨i, hi, hgg, rfl, rfl, HB⟩ := hrel
      by_cases hlt : i < R
      · obtain ⟨b, off, z, rfl, hb, hc, hz⟩ := E1.out i hlt
        have hcw : wr.cell? ⟨b, off + i, none⟩ = some z := by rw [HB.out.cell (p := ⟨b, off + i, none⟩) hb]; exact hc
        have j0 : (0 : Int) ≤ (i : Int) := by omega
        have j1 : (i : Int) < (R : Int) := by omega
        have FL := SQL.out i hlt
        obtain ⟨q4, d4, rfl, _, _, _, ir⟩ := hz
        obtain ⟨b2, off2, rfl, hb2, hc2⟩ := ir.get (i := i) (by have := HRN.out; omega)
        have hcw2 : wr.cell? ⟨b2, off2 + i, none⟩ = some (.int .i64 ((f i).getD i 0)) := by rw [HB.out.cell (p := ⟨b2, off2 + i, none⟩) hb2]; exact hc2
        have xb := SQB.out i hlt i (by have := HRN.out; omega)
        have sb := SB.out i hi
        have kb : i * 40 ≤ 320 := by omega
        have st := Lib.hid (ST.out i)
        have j2 : (i : Int) < ((f i).length : Int) := by have := HRN.out; omega
        obtain ⟨x, hx⟩ : ∃ x, x = (f i).getD i 0 := ⟨_, rfl⟩
        rw [← hx] at hcw2 xb st
        obtain ⟨S, hS⟩ : ∃ S, S = dgT f i := ⟨_, rfl⟩
        rw [← hS] at sb st ⊢
        have S1 : 0 ≤ S ∧ S ≤ 320 := by omega
        have FLH := Lib.hid FL
        obtain ⟨L, hL⟩ : ∃ L, L = (f i).length := ⟨_, rfl⟩
        rw [← hL] at hcw j2
        clear hc hc2 hx hS ir sb kb hb2 hb hL FL
        go_wp2_with fail
        go_roundg (R - (i + 1))
        case rel => exact ⟨i + 1, by omega, by omega, by go_num, by rw [st.out], HB⟩
        case measure => omega
      · have hkz : i = R := by omega
        have FIN := Lib.hid (show dgT f i = dgT f R by rw [hkz])
        clear hkz
        go_wp2_with fail
        go_ret2
        exact ⟨by rw [FIN.out]; rfl, HB.out⟩
set_option maxRecDepth 100000 in
set_option maxHeartbeats 4000000 in
theorem upwI (ps qs : List Int) (R : Nat) (f : Nat → List Int) (v u t : Value) (w : World) (hp : ps.length ≤ 1048576) (hq : qs.length ≤ 1048576) (hR : R ≤ 1048576) (hf : ∀ i, i < R → (f i).length ≤ 1048576) (hv : IntsV w w.heap.size v ps) (hu : IntsV w w.heap.size u qs) (ht : TabV w w.heap.size t R f) :
    Calls Try.prog 22 #[v, u, t] w (Gives (upwV ps qs R f) w) := by
  have AL := Lib.hid (isplI ps qs R f v u t w hp hq hR hf hv hu ht)
  unfold isplV at AL
  cases ha : isplB ps qs R f
  · rw [show upwV ps qs R f = .tuple #[.bool false, .bool false] from if_neg (by rw [ha]; decide)]
    rw [ha] at AL
    clear ha
    generalize aliB ps qs = ok at *
    obtain ⟨q1, c1, rfl, _⟩ := hv
    obtain ⟨q2, c2, rfl, _⟩ := hu
    obtain ⟨q3, c3, rfl, _⟩ := ht
    go_enter Try.func22, Try.ntmps22
    go_wp2_with fail
    refine AL.out.mono ?_
    rintro e w1 ⟨rfl, b1⟩
    have B1 := Lib.hid b1
    clear b1
    go_wp2_with fail
    go_ret2
    exact ⟨rfl, B1.out⟩
  · rw [show upwV ps qs R f = .tuple #[.bool (upwB R f), .bool true] from if_pos ha]
    obtain ⟨A, P⟩ := isplB_iff.1 ha
    rw [ha] at AL
    clear ha
    have n8 := A.p.n8
    have hRn := P.sq.rows
    have SQL := Lib.hid P.sq.len
    have SQB := Lib.hid P.sq.bd
    obtain ⟨q1, c1, rfl, _⟩ := hv
    obtain ⟨q2, c2, rfl, _⟩ := hu
    obtain ⟨q3, c3, rfl, _, _, i3⟩ := ht
    have E1 := Lib.hid i3
    have HRN := Lib.hid hRn
    have R8 : R ≤ 8 := by omega
    have SP := Lib.hid (fun i (hi : i < R) => smT_pos (zs := f i) i (fun k hk => (P.sq.bd i hi k (by omega)).1))
    have SB := Lib.hid (fun i (hi : i < R) => smT_in (zs := f i) (n := ps.length) (m := 40) (fun c hc => P.sq.bd i hi c hc) i (by omega))
    have TT := Lib.hid (fun i (hi : i < R) x B w' (h : IntsV w' B x ((f i).take i)) => totY ((f i).take i) x B w' (by rw [List.length_take]; omega) (fun k hk => by
      rw [List.length_take] at hk
      have := P.sq.bd i hi k (by omega)
      rw [List.getD_eq_getElem?_getD, List.getElem?_take, if_pos (by omega), ← List.getD_eq_getElem?_getD]; omega) h)
    have TL := Lib.hid (fun i (hi : i < R) => show ((f i).take i).length = i by rw [List.length_take, P.sq.len i hi]; omega)
    have TS := Lib.hid (fun i (hi : i < R) => smT_take (zs := f i) (n := i) (by rw [P.sq.len i hi]; omega) i (Nat.le_refl _))
    have YES := Lib.hid (fun (h : Upw R f) => upwB_yes h)
    have NO := Lib.hid (fun (h : ¬ Upw R f) => upwB_no h)
    clear i3 A P hRn
    generalize aliB ps qs = ok at *
    go_enter Try.func22, Try.ntmps22
    go_wp2_with fail
    refine AL.out.mono ?_
    rintro e w1 ⟨rfl, b1⟩
    have B1 := Lib.hid b1
    clear b1
    go_wp2_with fail
    go_loopg [23] R (fun gg i wr => ∃ k : Nat, k ≤ R ∧ R - k ≤ gg ∧ i = .int .i64 k ∧ Hid (∀ j, j < k → ∀ c, c < j → (f j).getD c 0 ≤ 0) ∧ Hid (Below w.heap.size w wr))
    case atStart => exact ⟨0, Nat.zero_le _, by omega, rfl, Lib.hid (fun j hj => by omega), B1⟩
    case round =>
      clear B1
      obtain ⟨i, hi, hgg, rfl, HL, HB⟩ := hrel
      by_cases hlt : i < R
      · obtain ⟨b, off, z, rfl, hb, hc, hz⟩ := E1.out i hlt
        have hcw : wr.cell? ⟨b, off + i, none⟩ = some z := by rw [HB.out.cell (p := ⟨b, off + i, none⟩) hb]; exact hc
        have j0 : (0 : Int) ≤ (i : Int) := by omega
        have j1 : (i : Int) < (R : Int) := by omega
        have FL := SQL.out i hlt
        have hzw := hz.below HB.out
        have sb := SB.out i hlt
        have kb : i * 40 ≤ 320 := by omega
        have sp := SP.out i hlt
        have T0 := TT.out i hlt
        rw [TL.out i hlt, TS.out i hlt] at T0
        obtain ⟨q4, d4, rfl, ld, md, _, ir⟩ := hz
        have tk := hzw.takeTo (n := i) (by have := HRN.out; omega)
        have T1 := Lib.hid (T0 _ _ wr tk)
        have NX : Hid (smT (f i) i ≤ 0 → ∀ j, j < i + 1 → ∀ c, c < j → (f j).getD c 0 ≤ 0) := Lib.hid (fun h j hj => by
          rcases Nat.lt_or_ge j i with c | c
          · exact HL.out j c
          · obtain rfl : j = i := by omega
            exact sp.1 h)
        have N2 := Lib.hid (fun (h : ¬ smT (f i) i ≤ 0) => NO.out (fun u => h (sp.2 (u i hlt))))
        have k2 : (i : Int) ≤ (d4 : Int) := by have := HRN.out; omega
        have k3 : i ≤ d4 := by have := HRN.out; omega
        have k4 : (d4 : Int) ≤ 9223372036854775807 ∨ True := Or.inr trivial
        obtain ⟨S, hS⟩ : ∃ S, S = smT (f i) i := ⟨_, rfl⟩
        rw [← hS] at sb T1 NX N2
        have S1 : 0 ≤ S ∧ S ≤ 320 := by omega
        obtain ⟨L, hL⟩ : ∃ L, L = (f i).length := ⟨_, rfl⟩
        have k5 : i ≤ L := by have := HRN.out; omega
        rw [← hL] at hcw ld
        clear hc hS ir sb kb hb hL FL tk T0 sp hzw HL k4
        by_cases hle : S ≤ 0
        · have N3 := Lib.hid (NX.out hle)
          have hnl : ¬ 0 < S := by omega
          clear NX N2 hle
          go_wp2_with fail
          refine T1.out.mono ?_
          rintro e w2 ⟨rfl, rfl⟩
          go_wp2_with fail
          go_roundg (R - (i + 1))
          case rel => exact ⟨i + 1, by omega, by omega, by go_num, N3, HB⟩
          case measure => omega
        · have N3 := Lib.hid (N2.out hle)
          have hnl : 0 < S := by omega
          clear NX N2 hle
          go_wp2_with fail
          refine T1.out.mono ?_
          rintro e w2 ⟨rfl, rfl⟩
          go_wp2_with fail
          go_ret2
          exact ⟨by rw [N3.out]; rfl, HB.out⟩
      · have FIN := Lib.hid (YES.out (fun j hj => HL.out j (by omega)))
        clear HL
        go_wp2_with fail
        go_ret2
        exact ⟨by rw [FIN.out]; rfl, HB.out⟩
set_option maxRecDepth 100000 in
set_option maxHeartbeats 4000000 in
theorem cenI (ps qs : List Int) (R : Nat) (f : Nat → List Int) (v u t : Value) (w : World) (hp : ps.length ≤ 1048576) (hq : qs.length ≤ 1048576) (hR : R ≤ 1048576) (hf : ∀ i, i < R → (f i).length ≤ 1048576) (hv : IntsV w w.heap.size v ps) (hu : IntsV w w.heap.size u qs) (ht : TabV w w.heap.size t R f) :
    Calls Try.prog 24 #[v, u, t] w (Gives (cenV ps qs R f) w) := by
  have AL := Lib.hid (isplI ps qs R f v u t w hp hq hR hf hv hu ht)
  unfold isplV at AL
  cases ha : isplB ps qs R f
  · rw [show cenV ps qs R f = .tuple #[.bool false, .bool false] from if_neg (by rw [ha]; decide)]
    rw [ha] at AL
    clear ha
    generalize aliB ps qs = ok at *
    obtain ⟨q1, c1, rfl, _⟩ := hv
    obtain ⟨q2, c2, rfl, _⟩ := hu
    obtain ⟨q3, c3, rfl, _⟩ := ht
    go_enter Try.func24, Try.ntmps24
    go_wp2_with fail
    refine AL.out.mono ?_
    rintro e w1 ⟨rfl, b1⟩
    have B1 := Lib.hid b1
    clear b1
    go_wp2_with fail
    go_ret2
    exact ⟨rfl, B1.out⟩
  · rw [show cenV ps qs R f = .tuple #[.bool (cenB R f ps.length), .bool true] from if_pos ha]
    obtain ⟨A, P⟩ := isplB_iff.1 ha
    rw [ha] at AL
    clear ha
    have n8 := A.p.n8
    have hRn := P.sq.rows
    have SQL := Lib.hid P.sq.len
    have SQB := Lib.hid P.sq.bd
    obtain ⟨q1, c1, rfl, _⟩ := hv
    obtain ⟨q2, c2, rfl, _⟩ := hu
    obtain ⟨q3, c3, rfl, _, _, i3⟩ := ht
    have E1 := Lib.hid i3
    have HRN := Lib.hid hRn
    have R8 : R ≤ 8 := by omega
    have ST := Lib.hid (fun i k => show dfT (f i) i (k + 1) = dfT (f i) i k + (f i).getD k 0 * ((k : Int) - (i : Int)) from rfl)
    have SB := Lib.hid (fun i (hi : i < R) k (hk : k ≤ ps.length) => df_bd (zs := f i) (n := ps.length) (s := i) n8 (by omega) (fun c hc => P.sq.bd i hi c hc) k hk)
    have YES := Lib.hid (fun (h : Cen R f ps.length) => cenB_yes h)
    have NO := Lib.hid (fun (h : ¬ Cen R f ps.length) => cenB_no h)
    clear i3 A P hRn
    obtain ⟨n, hn⟩ : ∃ n, n = ps.length := ⟨_, rfl⟩
    have HN := Lib.hid hn
    rw [← hn] at n8 SB YES NO SQB HRN SQL
    clear hn
    generalize aliB ps qs = ok at *
    go_enter Try.func24, Try.ntmps24
    go_wp2_with fail
    refine AL.out.mono ?_
    rintro e w1 ⟨rfl, b1⟩
    have B1 := Lib.hid b1
    clear b1
    go_wp2_with fail
    go_loopg [26] R (fun gg i wr => ∃ k : Nat, k ≤ R ∧ R - k ≤ gg ∧ i = .int .i64 k ∧ Hid (∀ j, j < k → dfT (f j) j n = 0) ∧ Hid (Below w.heap.size w wr))
    case atStart => exact ⟨0, Nat.zero_le _, by omega, rfl, Lib.hid (fun j hj => by omega), B1⟩
    case round =>
      clear B1
      obtain ⟨i, hi, hgg, rfl, HL, HB⟩ := hrel
      by_cases hlt : i < R
      · obtain ⟨b, off, z, rfl, hb, hc, hz⟩ := E1.out i hlt
        have hcw : wr.cell? ⟨b, off + i, none⟩ = some z := by rw [HB.out.cell (p := ⟨b, off + i, none⟩) hb]; exact hc
        have j0 : (0 : Int) ≤ (i : Int) := by omega
        have j1 : (i : Int) < (R : Int) := by omega
        have FL := SQL.out i hlt
        obtain ⟨q4, d4, rfl, _, _, _, ir⟩ := hz
        have E2 := Lib.hid ir
        have NX : Hid (dfT (f i) i n = 0 → ∀ j, j < i + 1 → dfT (f j) j n = 0) := Lib.hid (fun h j hj => by
          rcases Nat.lt_or_ge j i with c | c
          · exact HL.out j c
          · obtain rfl : j = i := by omega
            exact h)
        have N2 := Lib.hid (fun (h : ¬ dfT (f i) i n = 0) => NO.out (fun u => h (u i hlt)))
        rw [FL] at hcw
        have FLH := Lib.hid FL
        clear hc hb HL FL ir
        go_wp2_with fail
        go_loopg [12, 33] n (fun gg s t wr => ∃ k : Nat, k ≤ n ∧ n - k ≤ gg ∧ t = .int .i64 k ∧ s = .int .i64 (dfT (f i) i k) ∧ Hid (Below w.heap.size w wr))
        case atStart => exact ⟨0, Nat.zero_le _, by omega, rfl, rfl, HB⟩
        case round =>
          clear HB
          obtain ⟨k, hk, hgg2, rfl, rfl, HB⟩ := hrel
          have sb := SB.out i hlt k hk
          by_cases hlk : k < n
          · obtain ⟨b2, off2, rfl, hb2, hc2⟩ := E2.out.get (i := k) (by rw [FLH.out]; exact hlk)
            have hcw2 : wr.cell? ⟨b2, off2 + k, none⟩ = some (.int .i64 ((f i).getD k 0)) := by rw [HB.out.cell (p := ⟨b2, off2 + k, none⟩) hb2]; exact hc2
            have k0 : (0 : Int) ≤ (k : Int) := by omega
            have k1 : (k : Int) < (n : Int) := by omega
            have xb := SQB.out i hlt k hlk
            have st := Lib.hid (ST.out i k)
            have e1 : (f i).getD k 0 * ((k : Int) - (i : Int)) ≤ 320 ∧ -320 ≤ (f i).getD k 0 * ((k : Int) - (i : Int)) := by
              have s1 := SB.out i hlt k hk
              have s2 := SB.out i hlt (k + 1) (by omega)
              constructor
              · rcases Nat.lt_or_ge k i with c | c
                · have : (f i).getD k 0 * ((k : Int) - (i : Int)) ≤ 0 := Int.mul_nonpos_of_nonneg_of_nonpos xb.1 (by omega)
                  omega
                · have : (f i).getD k 0 * ((k : Int) - (i : Int)) ≤ 40 * 8 := Int.mul_le_mul xb.2 (by omega) (by omega) (by omega)
                  omega
              · rcases Nat.lt_or_ge k i with c | c
                · have h1 : (f i).getD k 0 * ((i : Int) - (k : Int)) ≤ 40 * 8 := Int.mul_le_mul xb.2 (by omega) (by omega) (by omega)
                  have h2 : (f i).getD k 0 * ((k : Int) - (i : Int)) = -((f i).getD k 0 * ((i : Int) - (k : Int))) := by rw [← Int.mul_neg, show -((i : Int) - (k : Int)) = (k : Int) - (i : Int) by omega]
                  omega
                · have := Int.mul_nonneg xb.1 (show (0:Int) ≤ (k : Int) - (i : Int) by omega); omega
            have WD : IntKind.i64.wrap ((k : Int) - (i : Int)) = (k : Int) - (i : Int) := IntWalk.i64_in _ (by omega)
            have WM : IntKind.i64.wrap ((f i).getD k 0 * ((k : Int) - (i : Int))) = (f i).getD k 0 * ((k : Int) - (i : Int)) := IntWalk.i64_in _ (by omega)
            obtain ⟨x, hx⟩ : ∃ x, x = (f i).getD k 0 := ⟨_, rfl⟩
            rw [← hx] at hcw2 xb st e1 WM
            obtain ⟨S, hS⟩ : ∃ S, S = dfT (f i) i k := ⟨_, rfl⟩
            rw [← hS] at sb st ⊢
            have S1 : -2560 ≤ S ∧ S ≤ 2560 := by omega
            have WS : IntKind.i64.wrap (S + x * ((k : Int) - (i : Int))) = S + x * ((k : Int) - (i : Int)) := IntWalk.i64_in _ (by omega)
            clear hc2 hx hS sb hb2 NX N2
            go_wp2_with fail
            go_roundg (n - (k + 1))
            case rel => exact ⟨k + 1, by omega, by omega, by go_num, by rw [st.out], HB⟩
            case measure => omega
          · have hkR : k = n := by omega
            rw [hkR] at sb ⊢
            clear hkR hlk hk
            generalize dfT (f i) i n = S at *
            have S1 : -2560 ≤ S ∧ S ≤ 2560 := by omega
            by_cases hz : S = 0
            · have N3 := Lib.hid (NX.out hz)
              subst hz
              clear NX N2
              go_wp2_with fail
              go_roundg (R - (i + 1))
              case rel => exact ⟨i + 1, by omega, by omega, by go_num, N3, HB⟩
              case measure => omega
            · have N3 := Lib.hid (N2.out hz)
              have hzb : ((S : Int) != 0) = true := by simpa using hz
              clear NX N2
              go_wp2_with fail
              go_ret2
              exact ⟨by rw [← HN.out, N3.out]; rfl, HB.out⟩
      · have FIN := Lib.hid (YES.out (fun j hj => HL.out j (by omega)))
        clear HL
        go_wp2_with fail
        go_ret2
        exact ⟨by rw [← HN.out, FIN.out]; rfl, HB.out⟩
end Go.Proofs.Ytligidmkhbcpmab
