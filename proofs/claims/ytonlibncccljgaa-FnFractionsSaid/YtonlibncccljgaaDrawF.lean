/- What the law of fractions draws. -/
import Derived.Test.YtonlibncccljgaaCurF
import Derived.Deep.RegionHeld3
import Derived.Deep.DeepCutAuto
namespace Go.Proofs.Ytonlibncccljgaa
open Go.RowKit
set_option linter.unusedVariables false
/-- What stands while two fractions are drawn. -/
structure FT (w : World) (R Q a : Nat) (p : Option Addr) (n c k : Nat) (wx : World) : Prop where
  cur : CurAt wx a p n c k
  byt : BytesAt wx a p n
  bel : Below w.heap.size w wx
  b1 : RB wx R 0 0
  b2 : RB wx Q 0 0
theorem FT.next {w wx wy : World} {R Q a n c k d : Nat} {p : Option Addr} (h : FT w R Q a p n c k wx) (q : CurPost wx a p n c k d wy) (h1 : R ≠ a) (h2 : Q ≠ a) (ha : w.heap.size ≤ a) : ∃ k', k' ≤ k + d ∧ FT w R Q a p n c k' wy := by
  obtain ⟨⟨k', hk, hc⟩, hg⟩ := q
  exact ⟨k', hk, hc, h.byt.turned (Nat.le_refl _) hg, h.bel.grown hg h.bel.size (fun q hq => by injection hq; omega), h.b1.grown hg h1, h.b2.grown hg h2⟩
theorem FT.alloc {w wx : World} {R Q a n c k : Nat} {p : Option Addr} (h : FT w R Q a p n c k wx) (o : Obj) : FT w R Q a p n c k (wx.alloc o) :=
  ⟨h.cur.alloc o, h.byt.alloc o, h.bel.alloc h.bel.size o, h.b1.below ((Below.refl _ _).alloc (Nat.le_refl _) o), h.b2.below ((Below.refl _ _).alloc (Nat.le_refl _) o)⟩
theorem RB.drew {w : World} {R : Nat} {a b : Int} (h : RB w R a b) : RB w.drew R a b := h
theorem fbelow_st {W w1 : World} {b o : Nat} (h : Below W.heap.size W w1) (hp : W.heap.size ≤ b) (v : Value) : Below W.heap.size W (w1.setCell ⟨b, o, none⟩ v) := h.setCell (p := ⟨b, o, none⟩) hp v
theorem new_cell' {w : World} {B : Nat} {xs : Array Value} {t : TypeId} {i : Nat} {v : Value} (hb : B = w.heap.size) (h : xs[i]? = some v) : (w.alloc (.cells xs t)).cell? ⟨B, i, none⟩ = some v := by
  subst hb; exact new_cell _ _ _ _ _ h
theorem RB.two {w : World} {R : Nat} {a b : Int} (h : RB w R a b) : w.cell? ⟨R, 0, none⟩ = some (.int .i64 a) ∧ w.cell? ⟨R, 1, none⟩ = some (.int .i64 b) := ⟨h.cells.1, h.cells.2.1⟩
/-- Two pairs. -/
def PairsEnd (e : Ending) : Prop := ∃ x y z t : Int, e = .returned (.tuple #[.agg #[.int .i64 x, .int .i64 y], .agg #[.int .i64 z, .int .i64 t]])
set_option maxRecDepth 100000 in
set_option maxHeartbeats 4000000 in
theorem drawAddF (n c : Nat) (p : Option Addr) (w : World) (hn : n ≤ 65536) (hB : BytesAt w w.heap.size p n) :
    Calls Try.prog 42 #[.slice p n c] w fun e w' => PairsEnd e ∧ Below w.heap.size w w' := by
  have BB := Lib.hid hB
  clear hB
  obtain ⟨R, hR⟩ : ∃ R, R = w.heap.size := ⟨_, rfl⟩
  obtain ⟨wb, hwb⟩ : ∃ wb, wb = ((w.alloc (.cells #[.int .i64 0, .int .i64 0] 55)).alloc (.cells #[.int .i64 0, .int .i64 0] 55)).alloc (.cells #[.slice p n c, .int .i64 0, .int .u64 0] 94) := ⟨_, rfl⟩
  have S : Hid (FT w R (R + 1) (R + 1 + 1) p n c 0 wb) := Lib.hid (by
    have e1 : (w.alloc (.cells #[.int .i64 0, .int .i64 0] 55)).heap.size = R + 1 := by rw [hR]; simp
    have e2 : ((w.alloc (.cells #[.int .i64 0, .int .i64 0] 55)).alloc (.cells #[.int .i64 0, .int .i64 0] 55)).heap.size = R + 1 + 1 := by rw [hR]; simp
    have h0 := RB.new w 0 0
    have h1 := RB.new (w.alloc (.cells #[.int .i64 0, .int .i64 0] 55)) 0 0
    have h2 := CurAt.new ((w.alloc (.cells #[.int .i64 0, .int .i64 0] 55)).alloc (.cells #[.int .i64 0, .int .i64 0] 55)) p n c
    rw [e1] at h1
    rw [e2] at h2
    rw [← hR] at h0
    rw [hwb]
    refine ⟨h2, ((((BB.out.alloc _).alloc _).alloc _).more (by omega)), ?_, ?_, ?_⟩
    · exact (((Below.refl _ _).alloc (Nat.le_refl _) _).alloc (by simp) _).alloc (by simp; omega) _
    · exact (h0.below ((Below.refl _ _).alloc (Nat.le_refl _) _)).below ((Below.refl _ _).alloc (Nat.le_refl _) _)
    · exact h1.below ((Below.refl _ _).alloc (Nat.le_refl _) _))
  have hRw : w.heap.size ≤ R := Nat.le_of_eq hR.symm
  go_enter Try.func42, Try.ntmps42
  go_wp2_with fail
  change Calls _ _ _ (((w.alloc (.cells #[.int .i64 0, .int .i64 0] 55)).alloc (.cells #[.int .i64 0, .int .i64 0] 55)).alloc (.cells #[.slice p n c, .int .i64 0, .int .u64 0] 94)) _
  rw [← hwb]
  clear hwb
  try rw [← hR]
  try clear hR
  refine (fraction_any (R + 1 + 1) n c 0 p _ (by omega) hn S.out.cur S.out.byt).mono ?_
  rintro e w1 ⟨⟨x1, y1, rfl⟩, hp⟩
  obtain ⟨k1, hk1, T⟩ := S.out.next hp (by omega) (by omega) (by omega)
  have S1 := Lib.hid T
  clear hp T S
  go_wp2_with fail
  refine (fraction_any (R + 1 + 1) n c k1 p _ (by omega) hn S1.out.cur S1.out.byt).mono ?_
  rintro e w2 ⟨⟨x2, y2, rfl⟩, hp⟩
  obtain ⟨k2, hk2, T⟩ := S1.out.next hp (by omega) (by omega) (by omega)
  have S2 := Lib.hid T
  clear hp T S1
  have FIN : Hid (Below w.heap.size w ((((w2.setCell ⟨R, 0, none⟩ (.int .i64 x1)).setCell ⟨R, 1, none⟩ (.int .i64 y1)).setCell ⟨R + 1, 0, none⟩ (.int .i64 x2)).setCell ⟨R + 1, 1, none⟩ (.int .i64 y2))) := Lib.hid ((((S2.out.bel.setCell (p := ⟨R, 0, none⟩) hRw _).setCell (p := ⟨R, 1, none⟩) hRw _).setCell (p := ⟨R + 1, 0, none⟩) (by show _ ≤ R + 1; omega) _).setCell (p := ⟨R + 1, 1, none⟩) (by show _ ≤ R + 1; omega) _)
  obtain ⟨t0, t1, f0, f1⟩ := S2.out.b1.cells
  obtain ⟨t2, t3, f2, f3⟩ := S2.out.b2.cells
  clear S2
  go_wp2_with fail
  refine bodyPost_ret (v := .tuple #[.agg #[.int .i64 x1, .int .i64 y1], .agg #[.int .i64 x2, .int .i64 y2]]) (by simp [results, Try.results42, go_sem, t0, t1, t2, t3]) rfl ⟨⟨_, _, _, _, rfl⟩, FIN.out⟩
set_option maxRecDepth 100000 in
set_option maxHeartbeats 4000000 in
theorem drawIsF (n c : Nat) (p : Option Addr) (w : World) (hn : n ≤ 65536) (hB : BytesAt w w.heap.size p n) :
    Calls Try.prog 54 #[.slice p n c] w fun e w' => APair e ∧ Below w.heap.size w w' := by
  have BB := Lib.hid hB
  clear hB
  obtain ⟨R, hR⟩ : ∃ R, R = w.heap.size := ⟨_, rfl⟩
  obtain ⟨wb, hwb⟩ : ∃ wb, wb = (w.alloc (.cells #[.int .i64 0, .int .i64 0] 55)).alloc (.cells #[.slice p n c, .int .i64 0, .int .u64 0] 94) := ⟨_, rfl⟩
  have S : Hid (FT w R R (R + 1) p n c 0 wb) := Lib.hid (by
    have e1 : (w.alloc (.cells #[.int .i64 0, .int .i64 0] 55)).heap.size = R + 1 := by rw [hR]; simp
    have h0 := RB.new w 0 0
    have h2 := CurAt.new (w.alloc (.cells #[.int .i64 0, .int .i64 0] 55)) p n c
    rw [e1] at h2
    rw [← hR] at h0
    rw [hwb]
    have h3 := h0.below ((Below.refl _ _).alloc (Nat.le_refl _) (.cells #[.slice p n c, .int .i64 0, .int .u64 0] 94))
    exact ⟨h2, (((BB.out.alloc _).alloc _).more (by omega)), ((Below.refl _ _).alloc (Nat.le_refl _) _).alloc (by simp) _, h3, h3⟩)
  have hRw : w.heap.size ≤ R := Nat.le_of_eq hR.symm
  go_enter Try.func54, Try.ntmps54
  go_wp2_with fail
  change Calls _ _ _ ((w.alloc (.cells #[.int .i64 0, .int .i64 0] 55)).alloc (.cells #[.slice p n c, .int .i64 0, .int .u64 0] 94)) _
  rw [← hwb]
  clear hwb
  try rw [← hR]
  try clear hR
  refine (fraction_any (R + 1) n c 0 p _ (by omega) hn S.out.cur S.out.byt).mono ?_
  rintro e w1 ⟨⟨x1, y1, rfl⟩, hp⟩
  obtain ⟨k1, hk1, T⟩ := S.out.next hp (by omega) (by omega) (by omega)
  have S1 := Lib.hid T
  clear hp T S
  have FIN : Hid (Below w.heap.size w ((w1.setCell ⟨R, 0, none⟩ (.int .i64 x1)).setCell ⟨R, 1, none⟩ (.int .i64 y1))) := Lib.hid ((S1.out.bel.setCell (p := ⟨R, 0, none⟩) hRw _).setCell (p := ⟨R, 1, none⟩) hRw _)
  obtain ⟨t0, t1, f0, f1⟩ := S1.out.b1.cells
  clear S1
  go_wp2_with fail
  refine bodyPost_ret (v := .agg #[.int .i64 x1, .int .i64 y1]) (by simp [results, Try.results54, go_sem, t0, t1]) rfl ⟨⟨_, _, rfl⟩, FIN.out⟩
set_option maxRecDepth 100000 in
set_option maxHeartbeats 4000000 in
theorem drawFracOf (n c : Nat) (p : Option Addr) (w : World) (hn : n ≤ 65536) (hB : BytesAt w w.heap.size p n) :
    Calls Try.prog 50 #[.slice p n c] w fun e w' => (∃ x y : Int, e = .returned (.tuple #[.int .i64 x, .int .i64 y])) ∧ Below w.heap.size w w' := by
  have BB := Lib.hid hB
  clear hB
  have C := Lib.hid (CurAt.new w p n c)
  go_enter Try.func50, Try.ntmps50
  go_wp2_with fail
  refine (among_any w.heap.size n c 0 p _ 9 9 _ (by omega) (by omega) (by omega) hn (C.out.alloc _) ((BB.out.alloc _).alloc _) (by simp) ?_).mono ?_
  · intro i hi
    have : i = 0 ∨ i = 1 ∨ i = 2 ∨ i = 3 ∨ i = 4 ∨ i = 5 ∨ i = 6 ∨ i = 7 ∨ i = 8 := by omega
    rcases this with rfl | rfl | rfl | rfl | rfl | rfl | rfl | rfl | rfl <;> exact ⟨_, new_cell' (by simp) rfl⟩
  rintro e w1 ⟨⟨z, rfl⟩, ⟨k1, hk1, hc1⟩, hg1⟩
  have C1 := Lib.hid hc1
  have G1 := Lib.hid (grown_then (grown_then (grown_alloc w (.cells #[.slice p n c, .int .i64 0, .int .u64 0] 94) (some w.heap.size)) (grown_alloc _ _ _)) hg1)
  have B1 := Lib.hid (BB.out.turned (Nat.le_refl _) G1.out)
  have hr1 := hc1.room
  clear hc1 hg1
  go_wp2_with fail
  refine (among_any w.heap.size n c k1 p _ 10 10 _ (by omega) (by omega) (by omega) hn (C1.out.alloc _) (B1.out.alloc _) (by omega) ?_).mono ?_
  · intro i hi
    have : i = 0 ∨ i = 1 ∨ i = 2 ∨ i = 3 ∨ i = 4 ∨ i = 5 ∨ i = 6 ∨ i = 7 ∨ i = 8 ∨ i = 9 := by omega
    rcases this with rfl | rfl | rfl | rfl | rfl | rfl | rfl | rfl | rfl | rfl <;> exact ⟨_, new_cell _ _ _ _ _ rfl⟩
  rintro e w2 ⟨⟨y, rfl⟩, hp⟩
  have G2 := Lib.hid (grown_then G1.out (grown_then (grown_alloc _ _ _) hp.2))
  clear hp
  go_wp2_with fail
  go_ret2
  exact ⟨⟨z, y, rfl⟩, below_of_grown G2.out (Nat.le_refl _)⟩
set_option maxRecDepth 100000 in
set_option maxHeartbeats 4000000 in
theorem drawCmpF (n c : Nat) (p : Option Addr) (w : World) (hn : n ≤ 65536) (hB : BytesAt w w.heap.size p n) :
    Calls Try.prog 47 #[.slice p n c] w fun e w' => PairsEnd e ∧ Below w.heap.size w w' := by
  have BB := Lib.hid hB
  clear hB
  obtain ⟨R, hR⟩ : ∃ R, R = w.heap.size := ⟨_, rfl⟩
  obtain ⟨wb, hwb⟩ : ∃ wb, wb = ((w.alloc (.cells #[.int .i64 0, .int .i64 0] 55)).alloc (.cells #[.int .i64 0, .int .i64 0] 55)).alloc (.cells #[.slice p n c, .int .i64 0, .int .u64 0] 94) := ⟨_, rfl⟩
  have S : Hid (FT w R (R + 1) (R + 1 + 1) p n c 0 wb) := Lib.hid (by
    have e1 : (w.alloc (.cells #[.int .i64 0, .int .i64 0] 55)).heap.size = R + 1 := by rw [hR]; simp
    have e2 : ((w.alloc (.cells #[.int .i64 0, .int .i64 0] 55)).alloc (.cells #[.int .i64 0, .int .i64 0] 55)).heap.size = R + 1 + 1 := by rw [hR]; simp
    have h0 := RB.new w 0 0
    have h1 := RB.new (w.alloc (.cells #[.int .i64 0, .int .i64 0] 55)) 0 0
    have h2 := CurAt.new ((w.alloc (.cells #[.int .i64 0, .int .i64 0] 55)).alloc (.cells #[.int .i64 0, .int .i64 0] 55)) p n c
    rw [e1] at h1
    rw [e2] at h2
    rw [← hR] at h0
    rw [hwb]
    refine ⟨h2, ((((BB.out.alloc _).alloc _).alloc _).more (by omega)), ?_, ?_, ?_⟩
    · exact (((Below.refl _ _).alloc (Nat.le_refl _) _).alloc (by simp) _).alloc (by simp; omega) _
    · exact (h0.below ((Below.refl _ _).alloc (Nat.le_refl _) _)).below ((Below.refl _ _).alloc (Nat.le_refl _) _)
    · exact h1.below ((Below.refl _ _).alloc (Nat.le_refl _) _))
  have hRw : w.heap.size ≤ R := Nat.le_of_eq hR.symm
  go_enter Try.func47, Try.ntmps47
  go_wp2_with fail
  change Calls _ _ _ (((w.alloc (.cells #[.int .i64 0, .int .i64 0] 55)).alloc (.cells #[.int .i64 0, .int .i64 0] 55)).alloc (.cells #[.slice p n c, .int .i64 0, .int .u64 0] 94)) _
  rw [← hwb]
  clear hwb
  try rw [← hR]
  try clear hR
  refine (fraction_any (R + 1 + 1) n c 0 p _ (by omega) hn S.out.cur S.out.byt).mono ?_
  rintro e w1 ⟨⟨x1, y1, rfl⟩, hp⟩
  obtain ⟨k1, hk1, T⟩ := S.out.next hp (by omega) (by omega) (by omega)
  have S1 := Lib.hid T
  clear hp T S
  have S1' := Lib.hid (S1.out.alloc (.cells #[.int .i64 x1, .int .i64 y1] 55))
  have HX := Lib.hid (RB.new w1 x1 y1)
  have hX : R + 1 + 1 < w1.heap.size := S1.out.cur.room
  obtain ⟨X, hXe⟩ : ∃ X, X = w1.heap.size := ⟨_, rfl⟩
  obtain ⟨wc, hwc⟩ : ∃ wc, wc = w1.alloc (.cells #[.int .i64 x1, .int .i64 y1] 55) := ⟨_, rfl⟩
  rw [← hwc] at S1' HX
  rw [← hXe] at HX hX
  clear S1
  go_wp2_with fail
  rw [← hwc, ← hXe]
  clear hwc hXe
  refine (one_any (R + 1 + 1) n c k1 p 4 _ (by omega) (by omega) (by omega) hn S1'.out.cur S1'.out.byt).mono ?_
  rintro e w2 ⟨⟨b, rfl⟩, hp⟩
  have HXa : RB w2 X x1 y1 := HX.out.grown hp.2 (by omega)
  have HX2 := Lib.hid (show RB w2.drew X x1 y1 from HXa)
  have HXb := Lib.hid HXa
  obtain ⟨k2, hk2, T⟩ := S1'.out.next hp (by omega) (by omega) (by omega)
  have S2 := Lib.hid T
  have n1 : X ≠ R := by omega
  have n2 : X ≠ R + 1 := by omega
  have n3 : R ≠ R + 1 := by omega
  have n4 : X ≠ R + 1 + 1 := by omega
  clear hp T S1' HX HXa
  cases b
  · go_wp2_with fail
    have S2d := Lib.hid (show FT w R (R + 1) (R + 1 + 1) p n c k2 w2.drew from ⟨S2.out.cur, S2.out.byt, below_drew S2.out.bel, S2.out.b1, S2.out.b2⟩)
    clear S2
    go_region_held3 (fun w' => w'.cell? ⟨X, 0, none⟩ = some (.int .i64 x1) ∧ w'.cell? ⟨X, 1, none⟩ = some (.int .i64 y1))
      (first | with_reducible exact HX2.out.two | with_reducible exact HX3.out.two | with_reducible exact (HX3.out.far n1).two | with_reducible exact ((HX3.out.far n1).far n2).two | go_keep)
      (first
        | (go_at_call 102; (with_reducible refine (fraction_any (R + 1 + 1) n c k2 p _ (by omega) hn S2d.out.cur S2d.out.byt).mono ?_); rintro e w3 ⟨⟨x3, y3, rfl⟩, hp⟩; (have HX3 := Lib.hid (HX2.out.grown hp.2 n4)); (obtain ⟨k3, hk3, T⟩ := S2d.out.next hp (by omega) (by omega) (by omega)); (have S3 := Lib.hid T); clear hp T; (obtain ⟨t0, t1, f0, f1⟩ := S3.out.b1.cells); (obtain ⟨t2, t3, f2, f3⟩ := S3.out.b2.cells)))
    all_goals
      have FIN : Hid (Below w.heap.size w ((((w3.setCell ⟨R, 0, none⟩ (.int .i64 x1)).setCell ⟨R, 1, none⟩ (.int .i64 y1)).setCell ⟨R + 1, 0, none⟩ (.int .i64 x3)).setCell ⟨R + 1, 1, none⟩ (.int .i64 y3))) := Lib.hid ((((S3.out.bel.setCell (p := ⟨R, 0, none⟩) hRw _).setCell (p := ⟨R, 1, none⟩) hRw _).setCell (p := ⟨R + 1, 0, none⟩) (by show _ ≤ R + 1; omega) _).setCell (p := ⟨R + 1, 1, none⟩) (by show _ ≤ R + 1; omega) _)
      clear S2d S3 HX2 HX3
      go_wp2_with fail
      refine bodyPost_ret (v := .tuple #[.agg #[.int .i64 x1, .int .i64 y1], .agg #[.int .i64 x3, .int .i64 y3]]) (by simp [results, Try.results47, go_sem, t0, t1, t2, t3]) rfl ⟨⟨_, _, _, _, rfl⟩, FIN.out⟩
  · go_wp2_with fail
    obtain ⟨t0, t1, f0, f1⟩ := S2.out.b1.cells
    obtain ⟨t2, t3, f2, f3⟩ := S2.out.b2.cells
    have hbel := S2.out.bel
    have hR1 : w.heap.size ≤ R + 1 := by omega
    clear S2
    go_region_held3 (fun w' => w'.cell? ⟨X, 0, none⟩ = some (.int .i64 x1) ∧ w'.cell? ⟨X, 1, none⟩ = some (.int .i64 y1))
      (first | (with_reducible refine RB.two ?_; (repeat' (first | with_reducible exact HXb.out | with_reducible refine RB.drew ?_ | with_reducible refine RB.far ?_ n1 | with_reducible refine RB.far ?_ n2)); done) | go_keep)
      (fail)
    all_goals
      go_wp2_with fail
      refine bodyPost_ret (v := .tuple #[.agg #[.int .i64 x1, .int .i64 y1], .agg #[.int .i64 x1, .int .i64 y1]]) (by simp [results, Try.results47, go_sem, t0, t1, t2, t3]) rfl ⟨⟨_, _, _, _, rfl⟩, ?_⟩
      repeat' (first | assumption | with_reducible refine fbelow_st ?_ ?_ _ | with_reducible refine below_drew ?_)
end Go.Proofs.Ytonlibncccljgaa
