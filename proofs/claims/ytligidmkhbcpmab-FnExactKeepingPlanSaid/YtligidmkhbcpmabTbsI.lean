/- Shipments in the program: their memory, the empty plan, taking units. -/
import Derived.Test.YtligidmkhbcpmabEdgI
import Derived.Test.YtligidmkhbcpmabTabH
import Derived.Test.YtligidmkhbcpmabShpP
namespace Go.Proofs.Ytligidmkhbcpmab
open Go.RowKit
open Go.Deep
set_option linter.unusedVariables false
/-- A square table of a call's own, its rows in blocks of their own. -/
structure TabS (w : World) (lo hi go cap : Nat) (g c : Nat → Nat) (n : Nat) (f : Nat → List Int) : Prop where
  room : lo ≤ go ∧ go < hi ∧ hi ≤ w.heap.size
  capn : n ≤ cap ∧ n ≤ maxLen
  rows : ∀ i, i < n → lo ≤ g i ∧ g i < hi ∧ g i ≠ go
  ne : ∀ i j, i < n → j < n → i ≠ j → g i ≠ g j
  out : ∀ i, i < n → w.cell? ⟨go, i, none⟩ = some (.slice (some ⟨g i, 0, none⟩) n (c i))
  row : ∀ i, i < n → OwnV w (g i) (g i + 1) (.slice (some ⟨g i, 0, none⟩) n (c i)) (f i)
/-- The rows lie one behind the other. -/
def OrdS (go : Nat) (g : Nat → Nat) (n : Nat) : Prop := go < g 0 ∧ ∀ i, i + 1 < n → g i + 1 ≤ g (i + 1)
theorem TabS.alt {w w' : World} {lo hi go cap n lo' hi' : Nat} {g c : Nat → Nat} {f : Nat → List Int} (h : TabS w lo hi go cap g c n f) (ha : Alt lo' hi' w w') (hd : hi ≤ lo' ∨ hi' ≤ lo) : TabS w' lo hi go cap g c n f := by
  have r := h.room
  refine ⟨⟨r.1, r.2.1, Nat.le_trans r.2.2 ha.size⟩, h.capn, h.rows, h.ne, fun i hi => ?_, fun i hi => ?_⟩
  · rw [World.cell?_of_block (a := ⟨go, i, none⟩) (ha.block go (by omega) (by omega))]; exact h.out i hi
  · have q := h.rows i hi
    exact (h.row i hi).alt ha (by omega)
theorem TabS.below {w w' : World} {lo hi go cap n : Nat} {g c : Nat → Nat} {f : Nat → List Int} (h : TabS w lo hi go cap g c n f) (hb : Below hi w w') : TabS w' lo hi go cap g c n f := by
  have r := h.room
  refine ⟨⟨r.1, r.2.1, Nat.le_trans r.2.2 hb.size⟩, h.capn, h.rows, h.ne, fun i hi => ?_, fun i hi => ?_⟩
  · rw [hb.cell (p := ⟨go, i, none⟩) r.2.1]; exact h.out i hi
  · exact (h.row i hi).below (hb.mono (by have := h.rows i hi; omega))
theorem TabS.set {w : World} {lo hi go cap n : Nat} {g c : Nat → Nat} {f : Nat → List Int} (h : TabS w lo hi go cap g c n f) {t : Nat} (ht : t < n) (k : Nat) {x : Int} (hx : InI64 x) :
    TabS (w.setCell ⟨g t, k, none⟩ (.int .i64 x)) lo hi go cap g c n (updF f t ((f t).set k x)) := by
  have r := h.room
  have A := Alt.setC w (g t) k (.int .i64 x)
  have rt := h.rows t ht
  refine ⟨⟨r.1, r.2.1, Nat.le_trans r.2.2 A.size⟩, h.capn, h.rows, h.ne, fun i hi => ?_, fun i hi => ?_⟩
  · rw [World.cell?_of_block (a := ⟨go, i, none⟩) (A.block go (by omega) (by omega))]; exact h.out i hi
  · by_cases e : i = t
    · subst e
      rw [updF_at]
      exact (h.row i hi).setAt k hx
    · rw [updF_ne _ _ e]
      have := h.ne i t hi ht e
      exact (h.row i hi).alt A (by omega)
theorem TabS.setAlt {w : World} {lo hi go cap n : Nat} {g c : Nat → Nat} {f : Nat → List Int} (h : TabS w lo hi go cap g c n f) {t : Nat} (ht : t < n) (k : Nat) (x : Value) : Alt lo hi w (w.setCell ⟨g t, k, none⟩ x) :=
  (Alt.setC w (g t) k x).wide (h.rows t ht).1 (by have := h.rows t ht; omega)
theorem OwnG.tabS {w : World} {lo hi n : Nat} {v : Value} {f : Nat → List Int} (h : OwnG w lo hi v n f) (hn : 0 < n) (hl : ∀ i, i < n → (f i).length = n) :
    ∃ go cap g c, v = .slice (some ⟨go, 0, none⟩) n cap ∧ TabS w lo hi go cap g c n f ∧ OrdS go g n := by
  obtain ⟨go, cap, u, H, e, hc, hm, h1, h2, h3, h4, h5⟩ := h
  have mo := mono_to (R := n) (fun i hi' => (h5 i hi').2.1)
  have EX : ∀ i, ∃ g c, i < n → u i = .slice (some ⟨g, 0, none⟩) n c ∧ H i ≤ g ∧ g < H (i + 1) := fun i => by
    by_cases hi' : i < n
    · obtain ⟨g, c, e1, e2, e3⟩ := (h5 i hi').2.2.shape (by rw [hl i hi']; exact hn)
      rw [hl i hi'] at e1
      exact ⟨g, c, fun _ => ⟨e1, e2, e3⟩⟩
    · exact ⟨0, 0, fun c => absurd c hi'⟩
  have G := fun i => (EX i).choose_spec.choose_spec
  refine ⟨go, cap, fun i => (EX i).choose, fun i => (EX i).choose_spec.choose, e, ⟨⟨h1, ?_, h4⟩, ⟨hc, hm⟩, fun i hi' => ?_, fun i j hi' hj' hij => ?_, fun i hi' => ?_, fun i hi' => ?_⟩, ?_, fun i hi' => ?_⟩
  · have := mo n 0 (by omega) (Nat.le_refl _); omega
  · have a := G i hi'
    have b := mo i 0 (by omega) (by omega)
    have d := mo n (i + 1) (by omega) (Nat.le_refl _)
    refine ⟨?_, ?_, ?_⟩
    · have := a.2.1; omega
    · have := a.2.2; omega
    · have := a.2.1; omega
  · have a := G i hi'
    have b := G j hj'
    rcases Nat.lt_or_ge i j with q | q
    · have d := mo j (i + 1) (by omega) (by omega)
      have := a.2.2; have := b.2.1; omega
    · have d := mo i (j + 1) (by omega) (by omega)
      have := b.2.2; have := a.2.1; omega
  · rw [(h5 i hi').1]; exact congrArg some (G i hi').1
  · have r := (h5 i hi').2.2
    rw [(G i hi').1] at r
    exact r.tight
  · have a := (G 0 hn).2.1
    show go < (EX 0).choose
    omega
  · have a := (G i (by omega)).2.2
    have b := (G (i + 1) hi').2.1
    show (EX i).choose + 1 ≤ (EX (i + 1)).choose
    omega
theorem TabS.ownG {w : World} {lo hi go cap n : Nat} {g c : Nat → Nat} {f : Nat → List Int} (h : TabS w lo hi go cap g c n f) (hn : 0 < n) (od : OrdS go g n) : OwnG w lo hi (.slice (some ⟨go, 0, none⟩) n cap) n f := by
  have r := h.room
  refine ⟨go, cap, fun i => .slice (some ⟨g i, 0, none⟩) n (c i), fun i => if i < n then g i else hi, rfl, h.capn.1, h.capn.2, r.1, ?_, ?_, r.2.2, fun i hi' => ?_⟩
  · show go < if 0 < n then g 0 else hi
    rw [if_pos hn]; exact od.1
  · show (if n < n then g n else hi) ≤ hi
    rw [if_neg (Nat.lt_irrefl n)]; exact Nat.le_refl _
  · have q := h.rows i hi'
    show w.cell? ⟨go, i, none⟩ = some (.slice (some ⟨g i, 0, none⟩) n (c i)) ∧ (if i < n then g i else hi) ≤ (if i + 1 < n then g (i + 1) else hi) ∧ OwnV w (if i < n then g i else hi) (if i + 1 < n then g (i + 1) else hi) (.slice (some ⟨g i, 0, none⟩) n (c i)) (f i)
    rw [if_pos hi']
    by_cases e : i + 1 < n
    · have q2 := h.rows (i + 1) e
      have := od.2 i e
      rw [if_pos e]
      exact ⟨h.out i hi', by omega, (h.row i hi').wide this (by omega)⟩
    · rw [if_neg e]
      exact ⟨h.out i hi', by omega, (h.row i hi').wide (by omega) r.2.2⟩
/-- A shipment in memory. -/
structure ShpW (w : World) (gh ch gl cl lo hi go cap : Nat) (g c : Nat → Nat) (n : Nat) (S : Shp) : Prop where
  h : OwnV w gh (gh + 1) (.slice (some ⟨gh, 0, none⟩) n ch) S.h
  l : OwnV w gl (gl + 1) (.slice (some ⟨gl, 0, none⟩) n cl) S.l
  p : TabS w lo hi go cap g c n S.f
  d : gh + 1 ≤ gl ∧ gl + 1 ≤ lo
def shpV (gh ch gl cl go cap n : Nat) : Value := .agg #[.slice (some ⟨gh, 0, none⟩) n ch, .slice (some ⟨gl, 0, none⟩) n cl, .slice (some ⟨go, 0, none⟩) n cap]
theorem ShpW.below {w w' : World} {gh ch gl cl lo hi go cap n : Nat} {g c : Nat → Nat} {S : Shp} (s : ShpW w gh ch gl cl lo hi go cap g c n S) (hb : Below hi w w') : ShpW w' gh ch gl cl lo hi go cap g c n S := by
  have r := s.p.room
  have d := s.d
  exact ⟨s.h.below (hb.mono (by omega)), s.l.below (hb.mono (by omega)), s.p.below hb, d⟩
/-- The box of a shipment. -/
def SBox3 (w : World) (b : Nat) (v1 v2 v3 : Value) : Prop := w.heap[b]? = some (.cells #[v1, v2, v3] 53 (0, 0))
theorem SBox3.cells {w : World} {b : Nat} {v1 v2 v3 : Value} (h : SBox3 w b v1 v2 v3) : w.cell? ⟨b, 0, none⟩ = some v1 ∧ w.cell? ⟨b, 1, none⟩ = some v2 ∧ w.cell? ⟨b, 2, none⟩ = some v3 :=
  ⟨(cell_of_heap (o := 0) h rfl).1, (cell_of_heap (o := 1) h rfl).1, (cell_of_heap (o := 2) h rfl).1⟩
theorem SBox3.lt {w : World} {b : Nat} {v1 v2 v3 : Value} (h : SBox3 w b v1 v2 v3) : b < w.heap.size := by unfold SBox3 at h; exact (Array.getElem?_eq_some_iff.1 h).1
theorem SBox3.alt {w w' : World} {b lo hi : Nat} {v1 v2 v3 : Value} (h : SBox3 w b v1 v2 v3) (ha : Alt lo hi w w') (hd : hi ≤ b) : SBox3 w' b v1 v2 v3 := by
  have l := h.lt
  unfold SBox3 at h ⊢
  rw [ha.block b l (by omega)]; exact h
theorem alt_alloc (w : World) (ob : Obj) (lo hi : Nat) : Alt lo hi w (w.alloc ob) :=
  ⟨rfl, rfl, rfl, by simp, fun i hi' _ => ((Below.refl w.heap.size w).alloc (Nat.le_refl _) ob).block i hi'⟩
theorem alt_drewN {w w' : World} {lo hi : Nat} (h : Alt lo hi w w') (n : Nat) : Alt lo hi w (w'.drewN n) := ⟨h.os, h.tape, h.output, h.size, h.block⟩
set_option maxRecDepth 100000 in
set_option maxHeartbeats 8000000 in
theorem takeY (n : Nat) (S : Shp) (i k : Nat) (w : World) (gh ch gl cl lo hi go cap : Nat) (g c : Nat → Nat) (o : ShOk n S) (hin : i < n) (hkn : k < n) (h8 : n ≤ 8) (W : ShpW w gh ch gl cl lo hi go cap g c n S) :
    Calls Try.prog 57 #[shpV gh ch gl cl go cap n, .int .i64 i, .int .i64 k] w fun e w' => e = .returned (.tuple #[]) ∧ ShpW w' gh ch gl cl lo hi go cap g c n (tkT i k S) ∧ Alt gh hi w w' := by
  have A0 := alt_alloc w (.cells #[.slice (some ⟨gh, 0, none⟩) n ch, .slice (some ⟨gl, 0, none⟩) n cl, .slice (some ⟨go, 0, none⟩) n cap] 53) gh hi
  have W0 := W.below (((Below.refl w.heap.size w).alloc (Nat.le_refl _) (.cells #[.slice (some ⟨gh, 0, none⟩) n ch, .slice (some ⟨gl, 0, none⟩) n cl, .slice (some ⟨go, 0, none⟩) n cap] 53)).mono W.p.room.2.2)
  have X0 : SBox3 _ w.heap.size _ _ _ := alloc_heap w (.cells #[.slice (some ⟨gh, 0, none⟩) n ch, .slice (some ⟨gl, 0, none⟩) n cl, .slice (some ⟨go, 0, none⟩) n cap] 53)
  have RM := Lib.hid W.p.room
  have D := Lib.hid W.d
  obtain ⟨wa, hwa⟩ : ∃ wa, wa = w.alloc (.cells #[.slice (some ⟨gh, 0, none⟩) n ch, .slice (some ⟨gl, 0, none⟩) n cl, .slice (some ⟨go, 0, none⟩) n cap] 53) := ⟨_, rfl⟩
  rw [← hwa] at A0 W0 X0
  have AH := Lib.hid A0
  have WH := Lib.hid W0
  have XB := Lib.hid X0
  clear A0 W0 X0 W
  have i0 : (0 : Int) ≤ (i : Int) := by omega
  have i1 : (i : Int) < (n : Int) := by omega
  have k0 : (0 : Int) ≤ (k : Int) := by omega
  have k1 : (k : Int) < (n : Int) := by omega
  have hb := o.h0 i
  have lb := o.l0 k
  have fb := o.f0 i k hin hkn
  have ub := un_bd o i k
  have LH := Lib.hid (show (tkT i k S).h = S.h.set i (S.h.getD i 0 - unT S i k) from rfl)
  have LL := Lib.hid (show (tkT i k S).l = S.l.set k (S.l.getD k 0 - unT S i k) from rfl)
  have LF := Lib.hid (show (tkT i k S).f = updF S.f i ((S.f i).set k ((S.f i).getD k 0 + unT S i k)) from rfl)
  have MN : min (S.h.getD i 0) (S.l.getD k 0) = unT S i k := rfl
  have y1 := WH.out.h.cellGet (j := i) (by rw [o.hl]; exact hin)
  have y2 := WH.out.l.cellGet (j := k) (by rw [o.ll]; exact hkn)
  have OHL := Lib.hid o.hl
  have OLL := Lib.hid o.ll
  have OFL := Lib.hid (o.fl i hin)
  obtain ⟨x, hx⟩ : ∃ x, x = S.h.getD i 0 := ⟨_, rfl⟩
  rw [← hx] at y1 hb fb ub LH MN
  obtain ⟨y, hy⟩ : ∃ x, x = S.l.getD k 0 := ⟨_, rfl⟩
  rw [← hy] at y2 lb ub LL MN
  obtain ⟨z, hz⟩ : ∃ x, x = (S.f i).getD k 0 := ⟨_, rfl⟩
  rw [← hz] at fb LF
  obtain ⟨m, hm⟩ : ∃ x, x = unT S i k := ⟨_, rfl⟩
  rw [← hm] at ub LH LL LF MN
  have HXH := Lib.hid hx
  have HYH := Lib.hid hy
  have HZH := Lib.hid hz
  have MH := Lib.hid MN
  obtain ⟨x0, x1, x2⟩ := XB.out.cells
  clear hx hy hz hm o MN
  unfold shpV
  by_cases hyx : y < x
  · have EM : m = y := by omega
    have E1 : x - m = x - y := by omega
    have E2 : y - m = 0 := by omega
    have E3 : z + m = z + y := by omega
    have LH2 := Lib.hid LH.out
    have LL2 := Lib.hid LL.out
    have LF2 := Lib.hid LF.out
    rw [E1] at LH2
    rw [E2] at LL2
    rw [E3] at LF2
    clear EM E1 E2 E3 LH LL LF MH
    go_enter Try.func57, Try.ntmps57
    go_wp2_with fail
    rw [← hwa]
    clear hwa
    go_quiet (fail)
    obtain ⟨wq, hwq⟩ : ∃ wq, wq = wa.drewN nq := ⟨_, rfl⟩
    have BQ : Below wa.heap.size wa wq := by rw [hwq]; exact below_drewN (Below.refl _ _) _
    have AQ := Lib.hid (show Alt gh hi w wq by rw [hwq]; exact alt_drewN AH.out _)
    have WQ := WH.out.below (BQ.mono WH.out.p.room.2.2)
    have XQ : SBox3 wq w.heap.size _ _ _ := (BQ.block _ XB.out.lt).trans XB.out
    rw [← hwq]
    clear hwq BQ y1 y2 x0 x1 x2 AH WH XB
    obtain ⟨x0, x1, x2⟩ := XQ.cells
    have y1 := WQ.h.cellGet (j := i) (by rw [OHL.out]; exact hin)
    rw [← HXH.out] at y1
    have f1 := WQ.h.frozenGet i
    have H3 := Lib.hid (WQ.h.setAt i (x := x - y) (by unfold InI64; omega))
    rw [← LH2.out] at H3
    have A3 := Alt.setC wq gh i (.int .i64 (x - y))
    have L3 := Lib.hid (WQ.l.alt A3 (by have := D.out; omega))
    have P3 := Lib.hid (WQ.p.alt A3 (by have := D.out; omega))
    have B3 := Lib.hid (show SBox3 (wq.setCell ⟨gh, i, none⟩ (.int .i64 (x - y))) w.heap.size _ _ _ from XQ.alt A3 (by have := D.out; have := RM.out; omega))
    have T3 := Lib.hid (AQ.out.trans (A3.wide (lo' := gh) (hi' := hi) (by omega) (by have := D.out; have := RM.out; omega)))
    clear A3 WQ XQ AQ
    go_upto_region 3 with fail
    obtain ⟨w3, hw3⟩ : ∃ w3, w3 = wq.setCell ⟨gh, i, none⟩ (.int .i64 (x - y)) := ⟨_, rfl⟩
    rw [← hw3] at H3 L3 P3 B3 T3 ⊢
    clear hw3 x0 x1 x2 y1 f1
    obtain ⟨x0, x1, x2⟩ := B3.out.cells
    have y2 := L3.out.cellGet (j := k) (by rw [OLL.out]; exact hkn)
    rw [← HYH.out] at y2
    have f2 := L3.out.frozenGet k
    have L4 := Lib.hid (L3.out.setAt k (x := 0) (by unfold InI64; omega))
    rw [← LL2.out] at L4
    have A4 := Alt.setC w3 gl k (.int .i64 (0))
    have H4 := Lib.hid (H3.out.alt A4 (by have := D.out; omega))
    have P4 := Lib.hid (P3.out.alt A4 (by have := D.out; omega))
    have B4 := Lib.hid (show SBox3 (w3.setCell ⟨gl, k, none⟩ (.int .i64 (0))) w.heap.size _ _ _ from B3.out.alt A4 (by have := D.out; have := RM.out; omega))
    have T4 := Lib.hid (T3.out.trans (A4.wide (lo' := gh) (hi' := hi) (by have := D.out; omega) (by have := D.out; have := RM.out; omega)))
    clear A4 H3 L3 P3 B3 T3
    go_upto_region 4 with fail
    obtain ⟨w4, hw4⟩ : ∃ w4, w4 = w3.setCell ⟨gl, k, none⟩ (.int .i64 (0)) := ⟨_, rfl⟩
    rw [← hw4] at H4 L4 P4 B4 T4 ⊢
    clear hw4 x0 x1 x2 y2 f2
    obtain ⟨x0, x1, x2⟩ := B4.out.cells
    have y3 := P4.out.out i hin
    have y4 := (P4.out.row i hin).cellGet (j := k) (by rw [OFL.out]; exact hkn)
    rw [← HZH.out] at y4
    have f4 := (P4.out.row i hin).frozenGet k
    have P5 := Lib.hid (P4.out.set hin k (x := z + y) (by unfold InI64; omega))
    rw [← LF2.out] at P5
    have A5 := P4.out.setAlt hin k (.int .i64 (z + y))
    have H5 := Lib.hid (H4.out.alt A5 (by have := D.out; omega))
    have L5 := Lib.hid (L4.out.alt A5 (by have := D.out; omega))
    have T5 := Lib.hid (T4.out.trans (A5.wide (lo' := gh) (hi' := hi) (by have := D.out; omega) (by omega)))
    clear A5 H4 L4 P4 B4 T4
    go_wp2_with fail
    refine bodyPost_end (results_none (by rfl) _ _ _) rfl ?_
    exact ⟨rfl, ⟨H5.out, L5.out, P5.out, D.out⟩, T5.out⟩
  · have hxy : x ≤ y := by omega
    have EM : m = x := by omega
    have E1 : x - m = 0 := by omega
    have E2 : y - m = y - x := by omega
    have E3 : z + m = z + x := by omega
    have LH2 := Lib.hid LH.out
    have LL2 := Lib.hid LL.out
    have LF2 := Lib.hid LF.out
    rw [E1] at LH2
    rw [E2] at LL2
    rw [E3] at LF2
    clear EM E1 E2 E3 LH LL LF MH
    go_enter Try.func57, Try.ntmps57
    go_wp2_with fail
    rw [← hwa]
    clear hwa
    go_quiet (fail)
    obtain ⟨wq, hwq⟩ : ∃ wq, wq = wa.drewN nq := ⟨_, rfl⟩
    have BQ : Below wa.heap.size wa wq := by rw [hwq]; exact below_drewN (Below.refl _ _) _
    have AQ := Lib.hid (show Alt gh hi w wq by rw [hwq]; exact alt_drewN AH.out _)
    have WQ := WH.out.below (BQ.mono WH.out.p.room.2.2)
    have XQ : SBox3 wq w.heap.size _ _ _ := (BQ.block _ XB.out.lt).trans XB.out
    rw [← hwq]
    clear hwq BQ y1 y2 x0 x1 x2 AH WH XB
    obtain ⟨x0, x1, x2⟩ := XQ.cells
    have y1 := WQ.h.cellGet (j := i) (by rw [OHL.out]; exact hin)
    rw [← HXH.out] at y1
    have f1 := WQ.h.frozenGet i
    have H3 := Lib.hid (WQ.h.setAt i (x := 0) (by unfold InI64; omega))
    rw [← LH2.out] at H3
    have A3 := Alt.setC wq gh i (.int .i64 (0))
    have L3 := Lib.hid (WQ.l.alt A3 (by have := D.out; omega))
    have P3 := Lib.hid (WQ.p.alt A3 (by have := D.out; omega))
    have B3 := Lib.hid (show SBox3 (wq.setCell ⟨gh, i, none⟩ (.int .i64 (0))) w.heap.size _ _ _ from XQ.alt A3 (by have := D.out; have := RM.out; omega))
    have T3 := Lib.hid (AQ.out.trans (A3.wide (lo' := gh) (hi' := hi) (by omega) (by have := D.out; have := RM.out; omega)))
    clear A3 WQ XQ AQ
    go_upto_region 3 with fail
    obtain ⟨w3, hw3⟩ : ∃ w3, w3 = wq.setCell ⟨gh, i, none⟩ (.int .i64 (0)) := ⟨_, rfl⟩
    rw [← hw3] at H3 L3 P3 B3 T3 ⊢
    clear hw3 x0 x1 x2 y1 f1
    obtain ⟨x0, x1, x2⟩ := B3.out.cells
    have y2 := L3.out.cellGet (j := k) (by rw [OLL.out]; exact hkn)
    rw [← HYH.out] at y2
    have f2 := L3.out.frozenGet k
    have L4 := Lib.hid (L3.out.setAt k (x := y - x) (by unfold InI64; omega))
    rw [← LL2.out] at L4
    have A4 := Alt.setC w3 gl k (.int .i64 (y - x))
    have H4 := Lib.hid (H3.out.alt A4 (by have := D.out; omega))
    have P4 := Lib.hid (P3.out.alt A4 (by have := D.out; omega))
    have B4 := Lib.hid (show SBox3 (w3.setCell ⟨gl, k, none⟩ (.int .i64 (y - x))) w.heap.size _ _ _ from B3.out.alt A4 (by have := D.out; have := RM.out; omega))
    have T4 := Lib.hid (T3.out.trans (A4.wide (lo' := gh) (hi' := hi) (by have := D.out; omega) (by have := D.out; have := RM.out; omega)))
    clear A4 H3 L3 P3 B3 T3
    go_upto_region 4 with fail
    obtain ⟨w4, hw4⟩ : ∃ w4, w4 = w3.setCell ⟨gl, k, none⟩ (.int .i64 (y - x)) := ⟨_, rfl⟩
    rw [← hw4] at H4 L4 P4 B4 T4 ⊢
    clear hw4 x0 x1 x2 y2 f2
    obtain ⟨x0, x1, x2⟩ := B4.out.cells
    have y3 := P4.out.out i hin
    have y4 := (P4.out.row i hin).cellGet (j := k) (by rw [OFL.out]; exact hkn)
    rw [← HZH.out] at y4
    have f4 := (P4.out.row i hin).frozenGet k
    have P5 := Lib.hid (P4.out.set hin k (x := z + x) (by unfold InI64; omega))
    rw [← LF2.out] at P5
    have A5 := P4.out.setAlt hin k (.int .i64 (z + x))
    have H5 := Lib.hid (H4.out.alt A5 (by have := D.out; omega))
    have L5 := Lib.hid (L4.out.alt A5 (by have := D.out; omega))
    have T5 := Lib.hid (T4.out.trans (A5.wide (lo' := gh) (hi' := hi) (by have := D.out; omega) (by omega)))
    clear A5 H4 L4 P4 B4 T4
    go_wp2_with fail
    refine bodyPost_end (results_none (by rfl) _ _ _) rfl ?_
    exact ⟨rfl, ⟨H5.out, L5.out, P5.out, D.out⟩, T5.out⟩
end Go.Proofs.Ytligidmkhbcpmab
