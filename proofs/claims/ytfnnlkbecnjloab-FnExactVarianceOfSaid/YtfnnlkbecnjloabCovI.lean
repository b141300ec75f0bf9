/- CovarianceOf, in the program. -/
import Derived.Test.YtfnnlkbecnjloabPayP
import Derived.IntWalk
namespace Go.Proofs.Ytfnnlkbecnjloab
open Go.RowKit
set_option linter.unusedVariables false
set_option maxHeartbeats 2000000 in
/-- The part of both lists of pays. -/
theorem pay2Part (ps ws a b : List Int) (v1 v2 : Value) (w W0 : World) (B C Ma na C' Mb nb : Nat) (pa : Pay ps ws a) (pb : Pay ps ws b) (hbox : TBox W0 B v1 v2)
    (hm : MapI W0 Ma na (pairF (endsT ps) a (endsT ps).length)) (hc : VBox W0 C (.map (some Ma)) 67) (hm' : MapI W0 Mb nb (pairF (endsT ps) b (endsT ps).length)) (hc' : VBox W0 C' (.map (some Mb)) 67)
    (h : TreeV w w.heap.size (.agg #[v1, v2]) ps ws) (h0 : Below w.heap.size w W0) :
    PartI 82 #[.pointer (some ⟨B, 0, none⟩), .pointer (some ⟨C, 0, none⟩), .pointer (some ⟨C', 0, none⟩)] ps (valsT ps ws (prodL a b)) W0 := by
  intro W x hx hl hb
  rw [valsT_at hx, if_pos hl, prodL_at (by rw [pa.len]; exact (rank_end hx hl).1)]
  obtain ⟨x0, x1⟩ := (hbox.below hb hbox.lt).cells
  have y0 := (hc.below hb hc.lt).cell
  have y1 := (hc'.below hb hc'.lt).cell
  have HM := hm.below hb hm.lt
  have HM' := hm'.below hb hm'.lt
  have hn24 := pa.good.n24
  have RUN : ∀ k, (Instr.lookup 67 (.map (some Ma)) (.int .i64 (x : Int)) false).run Try.prog (W.drewN k) = .ok (.int .i64 (a.getD (rankL ps x) 0)) (W.drewN k) := fun k => by
    have := mapI_run (HM.drewN k) (z := (x : Int)) (inI64_nat (by omega))
    rwa [pa.look hx hl] at this
  have RUN' : ∀ k, (Instr.lookup 67 (.map (some Mb)) (.int .i64 (x : Int)) false).run Try.prog (W.drewN k) = .ok (.int .i64 (b.getD (rankL ps x) 0)) (W.drewN k) := fun k => by
    have := mapI_run (HM'.drewN k) (z := (x : Int)) (inI64_nat (by omega))
    rwa [pb.look hx hl] at this
  obtain ⟨_, _, e, _, ⟨p2, c2, e2, _, m2, _, i2⟩⟩ := h
  obtain ⟨_, rfl⟩ : v1 = v1 ∧ v2 = .slice p2 ws.length c2 := by simp at e; exact ⟨rfl, by rw [e.2, e2]⟩
  clear e e2
  obtain ⟨bb, off, rfl, hb2, hc2⟩ := IntsAt.get i2 (i := x) (by rw [pa.good.nw]; exact hx)
  have hb3 := h0.trans (hb.mono h0.size)
  have hcw : W.cell? ⟨bb, off + x, none⟩ = some (.int .i64 (ws.getD x 0)) := by rw [hb3.cell (p := ⟨bb, off + x, none⟩) hb2, hc2]
  have i0 : (0 : Int) ≤ (x : Int) := by omega
  have i1 : (x : Int) < (ws.length : Int) := by rw [pa.good.nw]; omega
  have AB := natAbs_mul_le (x := ws.getD x 0) (y := a.getD (rankL ps x) 0) (a := 20) (b := 999) (by have := pa.good.w_bd hx; omega) (pa.abs _)
  have AC := natAbs_mul_le (x := ws.getD x 0 * a.getD (rankL ps x) 0) (y := b.getD (rankL ps x) 0) (a := 19980) (b := 999) (by omega) (pb.abs _)
  unfold maxLen at m2
  generalize ws.getD x 0 = z at *
  generalize a.getD (rankL ps x) 0 = y at *
  generalize b.getD (rankL ps x) 0 = u at *
  clear hc2 i2 hb hb3 h0 hbox hl hx HM hm hc pa HM' hm' hc' pb
  have WR : IntKind.i64.wrap (z * y) = z * y := IntWalk.i64_in _ (by omega)
  have WS : IntKind.i64.wrap (z * y * u) = z * y * u := IntWalk.i64_in _ (by omega)
  clear AB AC
  have AS := Lib.hid (Int.mul_assoc z y u)
  show Calls _ _ #[.int .i64 x, .pointer (some ⟨B, 0, none⟩), .pointer (some ⟨C, 0, none⟩), .pointer (some ⟨C', 0, none⟩)] _ _
  go_enter Try.func82, Try.ntmps82
  go_wp2_with fail
  go_quiet (fail)
  go_wp2_with fail
  go_ret
  exact ⟨by rw [← AS.out]; rfl, below_drewN (Below.refl _ _) _⟩
set_option maxHeartbeats 1000000 in
/-- The part of the other list. -/
theorem pay3Part (ps ws vs : List Int) (v1 v2 : Value) (w W0 : World) (B C b n : Nat) (p : Pay ps ws vs) (hbox : TBox W0 B v1 v2) (hm : MapI W0 b n (pairF (endsT ps) vs (endsT ps).length)) (hc : VBox W0 C (.map (some b)) 67)
    (h : TreeV w w.heap.size (.agg #[v1, v2]) ps ws) (h0 : Below w.heap.size w W0) :
    PartI 84 #[.pointer (some ⟨B, 0, none⟩), .pointer (some ⟨C, 0, none⟩)] ps (valsT ps ws vs) W0 := by
  intro W x hx hl hb
  rw [valsT_at hx, if_pos hl]
  obtain ⟨x0, x1⟩ := (hbox.below hb hbox.lt).cells
  have y0 := (hc.below hb hc.lt).cell
  have HM := hm.below hb hm.lt
  have hn24 := p.good.n24
  have RUN : ∀ k, (Instr.lookup 67 (.map (some b)) (.int .i64 (x : Int)) false).run Try.prog (W.drewN k) = .ok (.int .i64 (vs.getD (rankL ps x) 0)) (W.drewN k) := fun k => by
    have := mapI_run (HM.drewN k) (z := (x : Int)) (inI64_nat (by omega))
    rwa [p.look hx hl] at this
  obtain ⟨_, _, e, _, ⟨p2, c2, e2, _, m2, _, i2⟩⟩ := h
  obtain ⟨_, rfl⟩ : v1 = v1 ∧ v2 = .slice p2 ws.length c2 := by simp at e; exact ⟨rfl, by rw [e.2, e2]⟩
  clear e e2
  obtain ⟨bb, off, rfl, hb2, hc2⟩ := IntsAt.get i2 (i := x) (by rw [p.good.nw]; exact hx)
  have hb3 := h0.trans (hb.mono h0.size)
  have hcw : W.cell? ⟨bb, off + x, none⟩ = some (.int .i64 (ws.getD x 0)) := by rw [hb3.cell (p := ⟨bb, off + x, none⟩) hb2, hc2]
  have i0 : (0 : Int) ≤ (x : Int) := by omega
  have i1 : (x : Int) < (ws.length : Int) := by rw [p.good.nw]; omega
  have AB := natAbs_mul_le (x := ws.getD x 0) (y := vs.getD (rankL ps x) 0) (a := 20) (b := 999) (by have := p.good.w_bd hx; omega) (p.abs _)
  unfold maxLen at m2
  generalize ws.getD x 0 = z at *
  generalize vs.getD (rankL ps x) 0 = y at *
  clear hc2 i2 hb hb3 h0 hbox hl hx HM hm hc p
  have WR : IntKind.i64.wrap (z * y) = z * y := IntWalk.i64_in _ (by omega)
  clear AB
  show Calls _ _ #[.int .i64 x, .pointer (some ⟨B, 0, none⟩), .pointer (some ⟨C, 0, none⟩)] _ _
  go_enter Try.func84, Try.ntmps84
  go_wp2_with fail
  go_quiet (fail)
  go_wp2_with fail
  go_ret
  exact ⟨rfl, below_drewN (Below.refl _ _) _⟩
/-- What stands between the calls of CovarianceOf. -/
def CBt (w : World) (B R Ma na : Nat) (fa : Int → Option Int) (Mb nb : Nat) (fb : Int → Option Int) (C1 C2 : Nat) (v1 v2 : Value) (w' : World) : Prop :=
  TBox w' B v1 v2 ∧ (MapI w' Ma na fa ∧ MapI w' Mb nb fb) ∧ (VBox w' C1 (.map (some Ma)) 67 ∧ VBox w' C2 (.map (some Mb)) 67) ∧ Below w.heap.size w w' ∧ PBox w' R 0 0
theorem CBt.next {w x y : World} {B R Ma na Mb nb C1 C2 : Nat} {fa fb : Int → Option Int} {v1 v2 : Value} (h : CBt w B R Ma na fa Mb nb fb C1 C2 v1 v2 x) (hb : Below x.heap.size x y) : CBt w B R Ma na fa Mb nb fb C1 C2 v1 v2 y :=
  ⟨h.1.below hb h.1.lt, ⟨h.2.1.1.next hb, h.2.1.2.next hb⟩, ⟨h.2.2.1.1.next hb, h.2.2.1.2.next hb⟩, h.2.2.2.1.trans (hb.mono h.2.2.2.1.size), h.2.2.2.2.below hb h.2.2.2.2.lt⟩
/-- The root of sums that go up. -/
def RootR (s : Int) (w : World) (e : Ending) (w' : World) : Prop := ∃ g n c, e = .returned (.slice (some ⟨g, 0, none⟩) n c) ∧ 0 < n ∧ g < w'.heap.size ∧ w'.cell? ⟨g, 0, none⟩ = some (.int .i64 s) ∧ Below w.heap.size w w'
theorem totI (ps ws vs : List Int) (B : Nat) (hB : B ≤ 998001) (v : Value) (g : Nat) (lb : Array Value) (w : World) (eg : ∀ args w, (callFunc g args).run Try.prog w = .ok (.enter g args) w) (gd : Good ps ws) (h : TreeV w w.heap.size v ps ws) (hb : ∀ i, (vs.getD i 0).natAbs ≤ B) (hp : PartI g lb ps (valsT ps ws vs) w) :
    Calls Try.prog 67 #[v, .func (.func g) #[] lb] w (RootR (totT ps ws vs) w) := by
  have h1 := gd.n1
  have h2 := gd.n24
  have h3 := valsT_sum (vs := vs) gd B hb
  have h4 : ps.length * (20 * B) ≤ 24 * (20 * B) := Nat.mul_le_mul_right _ gd.n24
  refine (sumUpI ps ws (valsT ps ws vs) v g lb w eg gd h (valsT_len _ _ _) (fun y hy hl => by rw [valsT_at hy, if_neg (by rw [hl]; simp)]) (by omega) hp).mono fun e w' ⟨u, he, o, b⟩ => ?_
  have hl : (upL ps (valsT ps ws vs) (ps.length - 1)).length = ps.length := by rw [upL_len, valsT_len]
  obtain ⟨g', cap, hu, _, h5⟩ := o.shape (by omega)
  rw [hu] at o he
  exact ⟨g', _, _, he, by omega, h5, o.cellGet (by omega), b⟩
/-- What CovarianceOf returns. -/
def covB (ps ws a b : List Int) : Bool := payB ps ws a && payB ps ws b
def covN (ps ws a b : List Int) : Int := totT ps ws (prodL a b) * (sumsT ps ws).getD 0 0 - totT ps ws a * totT ps ws b
def covD (ps ws : List Int) : Int := (sumsT ps ws).getD 0 0 * (sumsT ps ws).getD 0 0
def covV (ps ws a b : List Int) : Value := if covB ps ws a b = true then keptV (cutN (covN ps ws a b) (covD ps ws)) (cutD (covN ps ws a b) (covD ps ws)) else zeroP
theorem covV_form (ps ws a b : List Int) : ∃ p q ok, covV ps ws a b = .tuple #[.agg #[.int .i64 p, .int .i64 q], .bool ok] := by
  unfold covV zeroP
  split
  · exact keptV_form _ _
  · exact ⟨_, _, _, rfl⟩
theorem abs_mul_bd {x y : Int} {p q : Nat} (hx : x.natAbs ≤ p) (hy : y.natAbs ≤ q) : -((p * q : Nat) : Int) ≤ x * y ∧ x * y ≤ ((p * q : Nat) : Int) := by
  have := natAbs_mul_le hx hy
  omega
set_option maxRecDepth 100000 in
set_option maxHeartbeats 8000000 in
theorem covI (ps ws a b : List Int) (v ua ub : Value) (w : World) (hla : a.length ≤ 1048576) (hlb : b.length ≤ 1048576) (h : TreeV w w.heap.size v ps ws) (ha : IntsV w w.heap.size ua a) (hb0 : IntsV w w.heap.size ub b) :
    Calls Try.prog 46 #[v, ua, ub] w (Gives (covV ps ws a b) w) := by
  have TV := Lib.hid h
  have AV := Lib.hid ha
  have BV := Lib.hid hb0
  have EA := Lib.hid (fun w' (hb : Below w.heap.size w w') => paysI ps ws a v ua w' hla (h.boxed hb) ((ha.below hb).more hb.size))
  have EBS := Lib.hid (fun w' (hb : Below w.heap.size w w') => paysI ps ws b v ub w' hlb (h.boxed hb) ((hb0.below hb).more hb.size))
  obtain ⟨p1, c1, p2, c2, rfl⟩ := h.shape
  obtain ⟨qa, da, rfl, _⟩ := ha
  obtain ⟨qb, db, rfl, _⟩ := hb0
  clear h
  have B1 := ((Below.refl w.heap.size w).alloc (Nat.le_refl _) (.cells #[.slice p1 ps.length c1, .slice p2 ws.length c2] 29)).alloc (by simp) (.cells #[.int .i64 0, .int .i64 0] 26)
  have K0 := alloc_two w (.cells #[.slice p1 ps.length c1, .slice p2 ws.length c2] 29) (.cells #[.int .i64 0, .int .i64 0] 26)
  obtain ⟨wa, hwa⟩ : ∃ wa, wa = (w.alloc (.cells #[.slice p1 ps.length c1, .slice p2 ws.length c2] 29)).alloc (.cells #[.int .i64 0, .int .i64 0] 26) := ⟨_, rfl⟩
  rw [← hwa] at B1 K0
  have T1 := Lib.hid (show TBox wa w.heap.size (.slice p1 ps.length c1) (.slice p2 ws.length c2) from K0.1)
  have R1 := Lib.hid (show PBox wa (w.heap.size + 1) 0 0 from K0.2)
  have HBA := Lib.hid B1
  clear K0 B1
  obtain ⟨x0, x1⟩ := T1.out.cells
  have hmf : ∀ (fn : Fn) (first cap : Array Value) (w : World), (Instr.makeFunc fn first cap).run Try.prog w = .ok (.func fn first cap) w := fun _ _ _ _ => rfl
  go_enter Try.func46, Try.ntmps46
  go_wp2_with fail
  rw [← hwa]
  clear hwa
  refine (EA.out _ HBA.out).mono ?_
  rintro e w1 ⟨b1, hA⟩
  have HB1' := Lib.hid (HBA.out.trans (b1.mono HBA.out.size))
  have T2' := Lib.hid (T1.out.below b1 T1.out.lt)
  have R2' := Lib.hid (R1.out.below b1 R1.out.lt)
  clear b1 x0 x1 T1 R1
  rcases hA with ⟨hevA, Ma, na, rfl, hMa, hmapA⟩ | ⟨hevA, rfl⟩
  · have HMA := Lib.hid hmapA
    have VA := Lib.hid hevA
    clear hMa hmapA hevA
    obtain ⟨wb, hwb⟩ : ∃ wb, wb = w1.alloc (.cells #[.map (some Ma)] 67) := ⟨_, rfl⟩
    have bA : Below w1.heap.size w1 wb := by rw [hwb]; exact (Below.refl _ _).alloc (Nat.le_refl _) _
    have HV1 := Lib.hid (show VBox wb w1.heap.size (.map (some Ma)) 67 by rw [hwb]; exact alloc_heap _ _)
    have HB1 := Lib.hid (HB1'.out.trans (bA.mono HB1'.out.size))
    have T2 := Lib.hid (T2'.out.below bA T2'.out.lt)
    have R2 := Lib.hid (R2'.out.below bA R2'.out.lt)
    have BA := Lib.hid bA
    clear bA
    obtain ⟨x0, x1⟩ := T2.out.cells
    rw [hwb] at x0 x1
    go_wp2_with fail
    rw [← hwb]
    clear hwb x0 x1
    refine (EBS.out _ HB1.out).mono ?_
    rintro e w2 ⟨b2, hB⟩
    have HB2 := Lib.hid (HB1.out.trans (b2.mono HB1.out.size))
    have R3 := Lib.hid (R2.out.below b2 R2.out.lt)
    have HMA2 := Lib.hid ((HMA.out.next BA.out).next b2)
    have HV2 := Lib.hid (HV1.out.next b2)
    have T3 := Lib.hid (T2.out.below b2 T2.out.lt)
    clear b2 T2 HMA HV1
    rcases hB with ⟨hevB, Mb, nb, rfl, hMb, hmapB⟩ | ⟨hevB, rfl⟩
    · have HMB := Lib.hid hmapB
      have VB := Lib.hid hevB
      clear hMb hmapB hevB
      have PA := Lib.hid (payB_iff.1 VA.out)
      have PBB := Lib.hid (payB_iff.1 VB.out)
      obtain ⟨w3, hw3⟩ : ∃ w3, w3 = w2.alloc (.cells #[.map (some Mb)] 67) := ⟨_, rfl⟩
      have b3 : Below w2.heap.size w2 w3 := by rw [hw3]; exact (Below.refl _ _).alloc (Nat.le_refl _) _
      have HE3 := Lib.hid (show CBt w w.heap.size (w.heap.size + 1) Ma na (pairF (endsT ps) a (endsT ps).length) Mb nb (pairF (endsT ps) b (endsT ps).length) w1.heap.size w2.heap.size (.slice p1 ps.length c1) (.slice p2 ws.length c2) w3 from ⟨T3.out.below b3 T3.out.lt, ⟨HMA2.out.next b3, HMB.out.next b3⟩, ⟨HV2.out.next b3, by rw [hw3]; exact alloc_heap _ _⟩, HB2.out.trans (b3.mono HB2.out.size), R3.out.below b3 R3.out.lt⟩)
      clear b3 T3 HMA2 HMB HV2 R3
      have CV : Hid (covV ps ws a b = keptV (cutN (covN ps ws a b) (covD ps ws)) (cutD (covN ps ws a b) (covD ps ws))) := Lib.hid (by unfold covV covB; rw [if_pos (by rw [VA.out, VB.out]; rfl)])
      have CD : Hid (∀ w', Hid (CBt w w.heap.size (w.heap.size + 1) Ma na (pairF (endsT ps) a (endsT ps).length) Mb nb (pairF (endsT ps) b (endsT ps).length) w1.heap.size w2.heap.size (.slice p1 ps.length c1) (.slice p2 ws.length c2) w') → Calls Try.prog 73 #[.agg #[.slice p1 ps.length c1, .slice p2 ws.length c2]] w' (Gives (.int .i64 ((sumsT ps ws).getD 0 0)) w')) := Lib.hid (fun w' he => wtAllI ps ws _ w' PA.out.good (TV.out.boxed he.out.2.2.2.1))
      have S1 : Hid (∀ w', Hid (CBt w w.heap.size (w.heap.size + 1) Ma na (pairF (endsT ps) a (endsT ps).length) Mb nb (pairF (endsT ps) b (endsT ps).length) w1.heap.size w2.heap.size (.slice p1 ps.length c1) (.slice p2 ws.length c2) w') → Calls Try.prog 67 #[.agg #[.slice p1 ps.length c1, .slice p2 ws.length c2], .func (.func 82) #[] #[.pointer (some ⟨w.heap.size, 0, none⟩), .pointer (some ⟨w1.heap.size, 0, none⟩), .pointer (some ⟨w2.heap.size, 0, none⟩)]] w' (RootR (totT ps ws (prodL a b)) w')) := Lib.hid (fun w' he => totI ps ws (prodL a b) 998001 (by omega) _ _ _ w' (enters_of Try.func82 (by kernel_rfl) rfl) PA.out.good (TV.out.boxed he.out.2.2.2.1) (prod_abs PA.out PBB.out) (pay2Part ps ws a b _ _ w w' w.heap.size w1.heap.size Ma na w2.heap.size Mb nb PA.out PBB.out he.out.1 he.out.2.1.1 he.out.2.2.1.1 he.out.2.1.2 he.out.2.2.1.2 TV.out he.out.2.2.2.1))
      have S2 : Hid (∀ w', Hid (CBt w w.heap.size (w.heap.size + 1) Ma na (pairF (endsT ps) a (endsT ps).length) Mb nb (pairF (endsT ps) b (endsT ps).length) w1.heap.size w2.heap.size (.slice p1 ps.length c1) (.slice p2 ws.length c2) w') → Calls Try.prog 67 #[.agg #[.slice p1 ps.length c1, .slice p2 ws.length c2], .func (.func 83) #[] #[.pointer (some ⟨w.heap.size, 0, none⟩), .pointer (some ⟨w1.heap.size, 0, none⟩)]] w' (RootR (totT ps ws a) w')) := Lib.hid (fun w' he => totI ps ws a 999 (by omega) _ _ _ w' (enters_of Try.func83 (by kernel_rfl) rfl) PA.out.good (TV.out.boxed he.out.2.2.2.1) PA.out.abs (pay1Part ps ws a _ _ w w' w.heap.size w1.heap.size Ma na PA.out he.out.1 he.out.2.1.1 he.out.2.2.1.1 TV.out he.out.2.2.2.1))
      have S3 : Hid (∀ w', Hid (CBt w w.heap.size (w.heap.size + 1) Ma na (pairF (endsT ps) a (endsT ps).length) Mb nb (pairF (endsT ps) b (endsT ps).length) w1.heap.size w2.heap.size (.slice p1 ps.length c1) (.slice p2 ws.length c2) w') → Calls Try.prog 67 #[.agg #[.slice p1 ps.length c1, .slice p2 ws.length c2], .func (.func 84) #[] #[.pointer (some ⟨w.heap.size, 0, none⟩), .pointer (some ⟨w2.heap.size, 0, none⟩)]] w' (RootR (totT ps ws b) w')) := Lib.hid (fun w' he => totI ps ws b 999 (by omega) _ _ _ w' (enters_of Try.func84 (by kernel_rfl) rfl) PA.out.good (TV.out.boxed he.out.2.2.2.1) PBB.out.abs (pay3Part ps ws b _ _ w w' w.heap.size w2.heap.size Mb nb PBB.out he.out.1 he.out.2.1.2 he.out.2.2.1.2 TV.out he.out.2.2.2.1))
      have BP := totT_bd (vs := prodL a b) PA.out.good 998001 (prod_abs PA.out PBB.out)
      have BX := totT_bd (vs := a) PA.out.good 999 PA.out.abs
      have BY := totT_bd (vs := b) PA.out.good 999 PBB.out.abs
      have BS : 0 < (sumsT ps ws).getD 0 0 ∧ (sumsT ps ws).getD 0 0 ≤ 480 := by have := sumsT_root PA.out.good; have := sumsT_bd PA.out.good 0 (by have := PA.out.good.n1; omega); omega
      have QN : Hid (covN ps ws a b = totT ps ws (prodL a b) * (sumsT ps ws).getD 0 0 - totT ps ws a * totT ps ws b) := Lib.hid rfl
      have QD : Hid (covD ps ws = (sumsT ps ws).getD 0 0 * (sumsT ps ws).getD 0 0) := Lib.hid rfl
      rw [QN.out, QD.out] at CV
      clear QN QD
      obtain ⟨tp, e1⟩ : ∃ z, z = totT ps ws (prodL a b) := ⟨_, rfl⟩
      obtain ⟨ta, e2⟩ : ∃ z, z = totT ps ws a := ⟨_, rfl⟩
      obtain ⟨tb, e3⟩ : ∃ z, z = totT ps ws b := ⟨_, rfl⟩
      obtain ⟨sa, e4⟩ : ∃ z, z = (sumsT ps ws).getD 0 0 := ⟨_, rfl⟩
      rw [← e1] at S1 CV BP
      rw [← e2] at S2 CV BX
      rw [← e3] at S3 CV BY
      rw [← e4] at CD CV BS
      clear e1 e2 e3 e4
      have D1 := abs_mul_bd (x := tp) (y := sa) (p := 480 * 998001) (q := 480) (by omega) (by omega)
      have D2 := abs_mul_bd (x := ta) (y := tb) (p := 480 * 999) (q := 480 * 999) (by omega) (by omega)
      have D3 := abs_mul_bd (x := sa) (y := sa) (p := 480) (q := 480) (by omega) (by omega)
      have D4 : 0 < sa * sa := Int.mul_pos BS.1 BS.1
      have RC := Lib.hid (fun w' => reduceI_pos (tp * sa - ta * tb) (sa * sa) w' (by omega) (by omega))
      obtain ⟨pn, pd, ok, hK⟩ := keptV_form (cutN (tp * sa - ta * tb) (sa * sa)) (cutD (tp * sa - ta * tb) (sa * sa))
      rw [hK] at RC CV
      clear hK D4 BP BX BY BS
      obtain ⟨x0, x1⟩ := HE3.out.1.cells
      rw [hw3] at x0 x1
      go_wp2_with fail
      rw [← hw3]
      clear hw3 x0 x1
      refine (CD.out _ HE3).mono ?_
      rintro e w4 ⟨rfl, b4⟩
      have HE4 := Lib.hid (HE3.out.next b4)
      clear b4
      obtain ⟨x0, x1⟩ := HE4.out.1.cells
      go_wp2_with fail
      refine (S1.out _ HE4).mono ?_
      rintro e w5 ⟨g1, n1, k1, rfl, hn1, hg1, y1, b5⟩
      have HE5 := Lib.hid (HE4.out.next b5)
      have hn1' : (0 : Int) < (n1 : Int) := by omega
      clear b5 x0 x1
      obtain ⟨x0, x1⟩ := HE5.out.1.cells
      go_wp2_with fail
      refine (S2.out _ HE5).mono ?_
      rintro e w6 ⟨g2, n2, k2, rfl, hn2, hg2, y2, b6⟩
      have HE6 := Lib.hid (HE5.out.next b6)
      have hn2' : (0 : Int) < (n2 : Int) := by omega
      clear b6 x0 x1 y1 hg1
      obtain ⟨x0, x1⟩ := HE6.out.1.cells
      go_wp2_with fail
      refine (S3.out _ HE6).mono ?_
      rintro e w7 ⟨g3, n3, k3, rfl, hn3, hg3, y3, b7⟩
      have HE7 := Lib.hid (HE6.out.next b7)
      have hn3' : (0 : Int) < (n3 : Int) := by omega
      clear b7 x0 x1 y2 hg2
      go_wp2_with fail
      refine (RC.out _).mono ?_
      rintro e w8 ⟨rfl, b8⟩
      have HE8 := Lib.hid (HE7.out.next b8)
      obtain ⟨c0, c1, f0, f1⟩ := HE8.out.2.2.2.2.cells
      clear b8 y3 hg3
      go_wp2_with fail
      refine bodyPost_ret (v := .tuple #[.agg #[.int .i64 pn, .int .i64 pd], .bool ok]) (by simp [results, Try.results46, go_sem, *]) rfl ⟨by rw [CV.out], ?_⟩
      exact (HE8.out.2.2.2.1.setCell (p := ⟨w.heap.size + 1, 0, none⟩) (by simp) _).setCell (p := ⟨w.heap.size + 1, 1, none⟩) (by simp) _
    · have CV : Hid (covV ps ws a b = zeroP) := Lib.hid (by unfold covV covB; rw [hevB]; simp)
      clear hevB T3 HMA2 HV2
      obtain ⟨w3, hw3⟩ : ∃ w3, w3 = w2.alloc (.cells #[.map none] 67) := ⟨_, rfl⟩
      have b3 : Below w2.heap.size w2 w3 := by rw [hw3]; exact (Below.refl _ _).alloc (Nat.le_refl _) _
      have HB3 := Lib.hid (HB2.out.trans (b3.mono HB2.out.size))
      obtain ⟨c0, c1, f0, f1⟩ := (R3.out.below b3 R3.out.lt).cells
      rw [hw3] at c0 c1 f0 f1
      clear b3
      go_wp2_with fail
      rw [← hw3]
      rw [← hw3] at c0 c1
      clear hw3
      refine bodyPost_ret (v := .tuple #[.agg #[.int .i64 0, .int .i64 0], .bool false]) (by simp [results, Try.results46, go_sem, c0, c1]) rfl ⟨by rw [CV.out]; rfl, ?_⟩
      exact (HB3.out.setCell (p := ⟨w.heap.size + 1, 0, none⟩) (by simp) _).setCell (p := ⟨w.heap.size + 1, 1, none⟩) (by simp) _
  · have CV : Hid (covV ps ws a b = zeroP) := Lib.hid (by unfold covV covB; rw [hevA]; simp)
    clear hevA
    obtain ⟨wb, hwb⟩ : ∃ wb, wb = w1.alloc (.cells #[.map none] 67) := ⟨_, rfl⟩
    have bA : Below w1.heap.size w1 wb := by rw [hwb]; exact (Below.refl _ _).alloc (Nat.le_refl _) _
    have HV1 := Lib.hid (show VBox wb w1.heap.size (.map none) 67 by rw [hwb]; exact alloc_heap _ _)
    have HB1 := Lib.hid (HB1'.out.trans (bA.mono HB1'.out.size))
    have T2 := Lib.hid (T2'.out.below bA T2'.out.lt)
    have R2 := Lib.hid (R2'.out.below bA R2'.out.lt)
    have BA := Lib.hid bA
    clear bA
    obtain ⟨x0, x1⟩ := T2.out.cells
    rw [hwb] at x0 x1
    go_wp2_with fail
    rw [← hwb]
    clear hwb x0 x1
    refine (EBS.out _ HB1.out).mono ?_
    rintro e w2 ⟨b2, hB⟩
    have HB2 := Lib.hid (HB1.out.trans (b2.mono HB1.out.size))
    have R3 := Lib.hid (R2.out.below b2 R2.out.lt)
    clear b2 T2 HV1
    rcases hB with ⟨_, Mb, nb, rfl, _, _⟩ | ⟨_, rfl⟩
    · obtain ⟨w3, hw3⟩ : ∃ w3, w3 = w2.alloc (.cells #[.map (some Mb)] 67) := ⟨_, rfl⟩
      have b3 : Below w2.heap.size w2 w3 := by rw [hw3]; exact (Below.refl _ _).alloc (Nat.le_refl _) _
      have HB3 := Lib.hid (HB2.out.trans (b3.mono HB2.out.size))
      obtain ⟨c0, c1, f0, f1⟩ := (R3.out.below b3 R3.out.lt).cells
      rw [hw3] at c0 c1 f0 f1
      clear b3
      go_wp2_with fail
      rw [← hw3]
      rw [← hw3] at c0 c1
      clear hw3
      refine bodyPost_ret (v := .tuple #[.agg #[.int .i64 0, .int .i64 0], .bool false]) (by simp [results, Try.results46, go_sem, c0, c1]) rfl ⟨by rw [CV.out]; rfl, ?_⟩
      exact (HB3.out.setCell (p := ⟨w.heap.size + 1, 0, none⟩) (by simp) _).setCell (p := ⟨w.heap.size + 1, 1, none⟩) (by simp) _
    · obtain ⟨w3, hw3⟩ : ∃ w3, w3 = w2.alloc (.cells #[.map none] 67) := ⟨_, rfl⟩
      have b3 : Below w2.heap.size w2 w3 := by rw [hw3]; exact (Below.refl _ _).alloc (Nat.le_refl _) _
      have HB3 := Lib.hid (HB2.out.trans (b3.mono HB2.out.size))
      obtain ⟨c0, c1, f0, f1⟩ := (R3.out.below b3 R3.out.lt).cells
      rw [hw3] at c0 c1 f0 f1
      clear b3
      go_wp2_with fail
      rw [← hw3]
      rw [← hw3] at c0 c1
      clear hw3
      refine bodyPost_ret (v := .tuple #[.agg #[.int .i64 0, .int .i64 0], .bool false]) (by simp [results, Try.results46, go_sem, c0, c1]) rfl ⟨by rw [CV.out]; rfl, ?_⟩
      exact (HB3.out.setCell (p := ⟨w.heap.size + 1, 0, none⟩) (by simp) _).setCell (p := ⟨w.heap.size + 1, 1, none⟩) (by simp) _
end Go.Proofs.Ytfnnlkbecnjloab
