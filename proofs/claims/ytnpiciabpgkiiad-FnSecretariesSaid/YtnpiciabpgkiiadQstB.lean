/- The searches over people, in the program: what stands while a mean is reckoned. -/
import Derived.Test.YtnpiciabpgkiiadQstI
import Derived.Deep.DeepCutAuto
import Derived.Deep.RegionHeld3
import Derived.Deep.LoopGhost
import Derived.IntWalk
import Derived.BigRegion
namespace Go.Proofs.Ytnpiciabpgkiiad
open Go.RowKit Go.Maps
set_option linter.unusedVariables false
/-- What the map keeps: the worth of each state. -/
def GQ (T : QTab) (k n : Nat) (v : Value) : Int × Int :=
  match v with
  | .agg cs => T.v k n ((intQ (cs.getD 0 undef)).getD 0).toNat ((intQ (cs.getD 1 undef)).getD 0).toNat
  | _ => (0, 1)
theorem GQ_mk (T : QTab) (k n c r : Nat) : GQ T k n (.agg #[.int .i64 c, .int .i64 r]) = T.v k n c r := rfl
/-- A search of a quest. -/
def srcV (TQ : TypeId) (n b : Nat) : Value := .agg #[.iface TQ (.agg #[.int .i64 n]), .map (some b)]
/-- What best and mean leave behind. -/
def QPost (v : Value) (w : World) (b m : Nat) (G : Value → Int × Int) (e : Ending) (w' : World) : Prop :=
  e = .returned v ∧ ∃ m', m' ≤ m ∧ MapQ 128 w' b m' G ∧ Alt b (b + 1) w w'
theorem Alt.of_below {b : Nat} {w w' : World} (h : Below w.heap.size w w') : Alt b (b + 1) w w' := ⟨h.os, h.tape, h.output, h.size, fun i hi _ => h.block i hi⟩
/-- What stands in the world while a search goes on: old blocks and those below N are as in wz, but for the map's. -/
structure MF (w0 wz : World) (b N m : Nat) (G : Value → Int × Int) (w' : World) : Prop where
  al : Alt b (b + 1) w0 w'
  keep : ∀ i, i < N → i ≠ b → w'.heap[i]? = wz.heap[i]?
  room : N ≤ w'.heap.size
  low : w0.heap.size ≤ N
  bl : b < w0.heap.size
  mp : MapQ 128 w' b m G
theorem MF.step {w0 wz w1 w2 : World} {b N m m' : Nat} {G : Value → Int × Int} (h : MF w0 wz b N m G w1) (ha : Alt b (b + 1) w1 w2) (hm : MapQ 128 w2 b m' G) : MF w0 wz b N m' G w2 :=
  ⟨h.al.trans ha, fun i hi hb => (ha.block i (Nat.lt_of_lt_of_le hi h.room) (by omega)).trans (h.keep i hi hb), Nat.le_trans h.room ha.size, h.low, h.bl, hm⟩
theorem MF.next {w0 wz w1 w2 : World} {b N m : Nat} {G : Value → Int × Int} (h : MF w0 wz b N m G w1) (hb : Below w1.heap.size w1 w2) : MF w0 wz b N m G w2 :=
  h.step (Alt.of_below hb) (h.mp.next hb)
theorem MF.alloc {w0 wz w1 : World} {b N m : Nat} {G : Value → Int × Int} (h : MF w0 wz b N m G w1) (o : Obj) : MF w0 wz b N m G (w1.alloc o) := h.next ((Below.refl _ _).alloc (Nat.le_refl _) o)
theorem MF.drew {w0 wz w1 : World} {b N m : Nat} {G : Value → Int × Int} (h : MF w0 wz b N m G w1) : MF w0 wz b N m G w1.drew := h.next (below_drew (Below.refl _ _))
theorem Alt.setNew {b g o : Nat} {w0 w1 : World} {v : Value} (h : Alt b (b + 1) w0 w1) (hg : w0.heap.size ≤ g) : Alt b (b + 1) w0 (w1.setCell ⟨g, o, none⟩ v) :=
  ⟨h.os, h.tape, h.output, Nat.le_trans h.size (by simp [World.setCell]), fun i hi ho => (heap_setCell_other w1 _ _ _ (by show i ≠ g; omega)).trans (h.block i hi ho)⟩
theorem MF.set {w0 wz w1 : World} {b N m g o : Nat} {G : Value → Int × Int} {v : Value} (h : MF w0 wz b N m G w1) (hg : N ≤ g) : MF w0 wz b N m G (w1.setCell ⟨g, o, none⟩ v) :=
  ⟨h.al.setNew (Nat.le_trans h.low hg), fun i hi hb => (heap_setCell_other w1 _ _ _ (by show i ≠ g; omega)).trans (h.keep i hi hb), Nat.le_trans h.room (by simp [World.setCell]), h.low, h.bl, h.mp.set (by have := h.bl; have := h.low; omega)⟩
theorem MF.cell {w0 wz w1 : World} {b N m i o : Nat} {G : Value → Int × Int} (h : MF w0 wz b N m G w1) (hi : i < N) (hb : i ≠ b) : w1.cell? ⟨i, o, none⟩ = wz.cell? ⟨i, o, none⟩ := World.cell?_of_block (w := wz) (h.keep i hi hb)
theorem MF.frozen {w0 wz w1 : World} {b N m i o : Nat} {G : Value → Int × Int} (h : MF w0 wz b N m G w1) (hi : i < N) (hb : i ≠ b) : w1.frozen? ⟨i, o, none⟩ = wz.frozen? ⟨i, o, none⟩ := World.frozen?_of_block (w := wz) (h.keep i hi hb)
/-- At the start. -/
theorem MF.start {w0 wz : World} {b m : Nat} {G : Value → Int × Int} (hz : Below w0.heap.size w0 wz) (hm : MapQ 128 w0 b m G) : MF w0 wz b wz.heap.size m G wz :=
  ⟨Alt.of_below hz, fun i _ _ => rfl, Nat.le_refl _, hz.size, hm.lt, hm.next hz⟩
theorem QBox.step {w1 w2 : World} {b R : Nat} {x y : Int} (h : QBox w1 R x y) (ha : Alt b (b + 1) w1 w2) (hb : R ≠ b) : QBox w2 R x y := (ha.block R h.lt (by omega)).trans h
/-- And the sum's box at N. -/
structure MS (w0 wz : World) (b N m : Nat) (G : Value → Int × Int) (x y : Int) (w' : World) : Prop where
  f : MF w0 wz b N m G w'
  q : QBox w' N x y
section
variable {w0 wz w1 w2 : World} {b N m m' g o : Nat} {G : Value → Int × Int} {x y : Int} {v : Value}
theorem MS.ne (h : MS w0 wz b N m G x y w1) : N ≠ b := by have := h.f.bl; have := h.f.low; omega
theorem MS.room (h : MS w0 wz b N m G x y w1) : N + 1 ≤ w1.heap.size := h.q.lt
theorem MS.step (h : MS w0 wz b N m G x y w1) (ha : Alt b (b + 1) w1 w2) (hm : MapQ 128 w2 b m' G) : MS w0 wz b N m' G x y w2 := ⟨h.f.step ha hm, h.q.step ha h.ne⟩
theorem MS.next (h : MS w0 wz b N m G x y w1) (hb : Below w1.heap.size w1 w2) : MS w0 wz b N m G x y w2 := h.step (Alt.of_below hb) (h.f.mp.next hb)
theorem MS.alloc (h : MS w0 wz b N m G x y w1) (ob : Obj) : MS w0 wz b N m G x y (w1.alloc ob) := h.next ((Below.refl _ _).alloc (Nat.le_refl _) ob)
theorem MS.drew (h : MS w0 wz b N m G x y w1) : MS w0 wz b N m G x y w1.drew := h.next (below_drew (Below.refl _ _))
theorem MS.set (h : MS w0 wz b N m G x y w1) (hg : N + 1 ≤ g) : MS w0 wz b N m G x y (w1.setCell ⟨g, o, none⟩ v) := ⟨h.f.set (by omega), h.q.far (by omega)⟩
theorem MS.put (h : MS w0 wz b N m G x y w1) (x' y' : Int) : MS w0 wz b N m G x' y' ((w1.setCell ⟨N, 0, none⟩ (.int .i64 x')).setCell ⟨N, 1, none⟩ (.int .i64 y')) := ⟨(h.f.set (Nat.le_refl _)).set (Nat.le_refl _), h.q.st x' y'⟩
end
theorem mul_bd9 {a b : Int} (h : -1000000000 ≤ a ∧ a ≤ 1000000000) (h' : 1 ≤ b ∧ b ≤ 1000000) : -1000000000000000 ≤ a * b ∧ a * b ≤ 1000000000000000 := by
  have e1 : a * b ≤ 1000000000 * b := Int.mul_le_mul_of_nonneg_right h.2 (by omega)
  have e2 : -1000000000 * b ≤ a * b := Int.mul_le_mul_of_nonneg_right h.1 (by omega)
  omega
theorem mul_bd6 {a b : Int} (h : 1 ≤ a ∧ a ≤ 1000000) (h' : 1 ≤ b ∧ b ≤ 1000000) : 1 ≤ a * b ∧ a * b ≤ 1000000000000 := by
  have e1 : a * b ≤ 1000000 * b := Int.mul_le_mul_of_nonneg_right h.2 (by omega)
  have e2 : 1 * b ≤ a * b := Int.mul_le_mul_of_nonneg_right h.1 (by omega)
  omega
theorem fr_bd {n d : Int} (h : isFr n d = true) : (-1000000000 ≤ n ∧ n ≤ 1000000000) ∧ (1 ≤ d ∧ d ≤ 1000000) := by
  have := ((isFr_iff n d).1 h).1
  omega
theorem fr_kept {n d : Int} (h : isFr n d = true) : keptV n d = .tuple #[.agg #[.int .i64 n, .int .i64 d], .bool true] := by
  unfold isFr at h
  simp only [Bool.and_eq_true] at h
  exact if_pos h.1
/-- One summand more: the call of reduce. -/
theorem stepI {T : QTab} {k n c i : Nat} (hq : QOk T k n) (hc : c < n) (hi : i < c + 1) (w : World) :
    Calls Try.prog 120 #[.int .i64 ((T.s n c i).1 * (T.v k n (c + 1) (i + 1)).2 + (T.v k n (c + 1) (i + 1)).1 * (T.s n c i).2), .int .i64 ((T.s n c i).2 * (T.v k n (c + 1) (i + 1)).2)] w (Gives (.tuple #[.agg #[.int .i64 (T.s n c (i + 1)).1, .int .i64 (T.s n c (i + 1)).2], .bool true]) w) := by
  obtain ⟨a1, a2⟩ := fr_bd (hq.fs c hc i (by omega))
  obtain ⟨b1, b2⟩ := fr_bd (hq.fv (c := c + 1) (r := i + 1) (by omega) (by omega))
  have p1 := mul_bd9 a1 b2
  have p2 := mul_bd9 b1 a2
  have p3 := mul_bd6 a2 b2
  have R := reduceI_any ((T.s n c i).1 * (T.v k n (c + 1) (i + 1)).2 + (T.v k n (c + 1) (i + 1)).1 * (T.s n c i).2) ((T.s n c i).2 * (T.v k n (c + 1) (i + 1)).2) w (by omega) (by omega)
  have e := hq.ss c hc i hi
  have f := hq.fs c hc (i + 1) (by omega)
  unfold qStep at e
  rw [Int.one_mul] at e
  rw [e] at f ⊢
  rw [fr_kept f] at R
  exact R
/-- The mean of the sum: the call of reduce. -/
theorem endI {T : QTab} {k n c : Nat} (hq : QOk T k n) (hn : n ≤ 10) (hc : c < n) (w : World) :
    Calls Try.prog 120 #[.int .i64 (T.s n c (c + 1)).1, .int .i64 ((T.s n c (c + 1)).2 * ((c : Int) + 1))] w (Gives (.tuple #[.agg #[.int .i64 (T.m n c).1, .int .i64 (T.m n c).2], .bool true]) w) := by
  obtain ⟨a1, a2⟩ := fr_bd (hq.fs c hc (c + 1) (by omega))
  have p3 := mul_bd6 a2 (b := (c : Int) + 1) (by omega)
  have R := reduceI_any (T.s n c (c + 1)).1 ((T.s n c (c + 1)).2 * ((c : Int) + 1)) w (by omega) (by omega)
  have e := hq.mm c hc
  have f := hq.fm c hc
  rw [e] at f ⊢
  rw [fr_kept f] at R
  exact R
set_option maxRecDepth 100000 in
set_option maxHeartbeats 4000000 in
theorem meanC (T : QTab) (k n c r : Nat) (hq : QOk T k n) (hn : n ≤ 10) (hc : c < n) (TQ : TypeId) (b q B cw m K : Nat) (w : World)
    (hm : MapQ 128 w b m (GQ T k n)) (hroom : m + (c + 1) * K ≤ maxLen) (hB : CB w B c r) (hBb : B ≠ b) (hqb : q ≠ b) (hql : q < w.heap.size) (hw : ∀ i, i < c + 1 → w.cell? ⟨q, i, none⟩ = some (.int .i64 1))
    (BC : ∀ (r' m : Nat) (w : World), r' ≤ c + 1 → MapQ 128 w b m (GQ T k n) → m + K ≤ maxLen →
      Calls Try.prog 138 #[srcV TQ n b, .agg #[.int .i64 ((c : Int) + 1), .int .i64 r']] w (QPost (.agg #[.int .i64 (T.v k n (c + 1) r').1, .int .i64 (T.v k n (c + 1) r').2]) w b (m + K) (GQ T k n))) :
    Calls Try.prog 208 #[srcV TQ n b, .agg #[.int .i64 0, .slice (some ⟨q, 0, none⟩) (c + 1) cw, .func (.func 300) #[] #[.pointer (some ⟨B, 0, none⟩)]]] w (QPost (.agg #[.int .i64 (T.m n c).1, .int .i64 (T.m n c).2]) w b (m + (c + 1) * K) (GQ T k n)) := by
  have hBl := hB.lt
  have hbl := hm.lt
  obtain ⟨wz, hwz⟩ : ∃ wz, wz = ((w.alloc (.cells #[.iface TQ (.agg #[.int .i64 n]), .map (some b)] 125)).alloc (.cells #[.int .i64 0, .slice (some ⟨q, 0, none⟩) (c + 1) cw, .func (.func 300) #[] #[.pointer (some ⟨B, 0, none⟩)]] 204)).alloc (.cells #[.int .i64 0, .int .i64 0] 39) := ⟨_, rfl⟩
  obtain ⟨k0, k1, k2⟩ := heap_three w (.cells #[.iface TQ (.agg #[.int .i64 n]), .map (some b)] 125) (.cells #[.int .i64 0, .slice (some ⟨q, 0, none⟩) (c + 1) cw, .func (.func 300) #[] #[.pointer (some ⟨B, 0, none⟩)]] 204) (.cells #[.int .i64 0, .int .i64 0] 39)
  have S3 : wz.heap.size = w.heap.size + 1 + 1 + 1 := by rw [hwz]; simp
  have BZ : Below w.heap.size w wz := by rw [hwz]; exact (((Below.refl w.heap.size w).alloc (Nat.le_refl _) _).alloc (by simp) _).alloc (by simp; omega) _
  rw [← hwz] at k0 k1 k2
  have M0 := MF.start BZ hm
  rw [S3] at M0
  have s0 := (cell_of_heap (o := 0) k0 rfl).1
  have s1 := (cell_of_heap (o := 1) k0 rfl).1
  have o0 := (cell_of_heap (o := 0) k1 rfl).1
  have o1 := (cell_of_heap (o := 1) k1 rfl).1
  have o2 := (cell_of_heap (o := 2) k1 rfl).1
  have T2 := Lib.hid (show QBox wz (w.heap.size + 1 + 1) 0 0 from k2)
  have HBz := Lib.hid (hB.below BZ hBl)
  have HWz := Lib.hid (fun i (hi : i < c + 1) => (BZ.cell (p := ⟨q, i, none⟩) hql).trans (hw i hi))
  clear k0 k1 k2
  obtain ⟨wa, hwa⟩ : ∃ wa, wa = wz.alloc (.cells #[.int .i64 0, .int .i64 1] 39) := ⟨_, rfl⟩
  have M1 := Lib.hid (show MF w wz b (w.heap.size + 1 + 1 + 1) m (GQ T k n) wa by rw [hwa]; exact M0.alloc _)
  have Q1 := Lib.hid (show QBox wa (w.heap.size + 1 + 1 + 1) 0 1 by rw [hwa, ← S3]; exact QBox.new _ _ _)
  have BZA : Below wz.heap.size wz wa := by rw [hwa]; exact (Below.refl _ _).alloc (Nat.le_refl _) _
  have oa1 := (M1.out.cell (i := w.heap.size + 1) (o := 1) (by omega) (by omega)).trans o1
  unfold srcV
  go_enter Try.func208, Try.ntmps208
  go_wp2_with fail
  rw [← hwz]
  rw [← hwa]
  have SV := Lib.hid (fun i (hi : i < c + 1) w => stepI hq hc hi w)
  have EV := Lib.hid (fun w => endI hq hn hc w)
  have SB := Lib.hid (fun i (hi : i < c + 2) => fr_bd (hq.fs c hc i hi))
  have VB := Lib.hid (fun i (hi : i < c + 1) => fr_bd (hq.fv (c := c + 1) (r := i + 1) (by omega) (by omega)))
  have Z0 : Hid (T.s n c 0 = (0, 1)) := Lib.hid (hq.s0 c hc)
  have NX := Lib.hid (fun i w h (hi : i < c + 1) => nextC B c r i w h (by omega) (by omega))
  have HS0 : Hid (∀ w', MF w wz b (w.heap.size + 1 + 1 + 1) m (GQ T k n) w' → True) := Lib.hid (fun _ _ => trivial)
  have cc : (c : Int) ≤ 10 := by omega
  have hbN : b ≠ w.heap.size ∧ b ≠ w.heap.size + 1 ∧ b ≠ w.heap.size + 1 + 1 ∧ b ≠ w.heap.size + 1 + 1 + 1 := by omega
  have CE : Hid (∀ w' m', MF w wz b (w.heap.size + 1 + 1 + 1) m' (GQ T k n) w' → (w'.cell? ⟨w.heap.size, 0, none⟩ = some (.iface TQ (.agg #[.int .i64 n])) ∧ w'.cell? ⟨w.heap.size, 1, none⟩ = some (.map (some b)) ∧ w'.cell? ⟨w.heap.size + 1, 2, none⟩ = some (.func (.func 300) #[] #[.pointer (some ⟨B, 0, none⟩)]))) := Lib.hid (fun w' m' h => ⟨(h.cell (by omega) (by omega)).trans s0, (h.cell (by omega) (by omega)).trans s1, (h.cell (by omega) (by omega)).trans o2⟩)
  have CO : Hid (∀ w' m', MF w wz b (w.heap.size + 1 + 1 + 1) m' (GQ T k n) w' → w'.cell? ⟨w.heap.size + 1, 0, none⟩ = some (.int .i64 0)) := Lib.hid (fun w' m' h => (h.cell (by omega) (by omega)).trans o0)
  have CW : Hid (∀ w' m', MF w wz b (w.heap.size + 1 + 1 + 1) m' (GQ T k n) w' → ∀ i, i < c + 1 → w'.cell? ⟨q, i, none⟩ = some (.int .i64 1)) := Lib.hid (fun w' m' h i hi => (h.cell (by omega) hqb).trans (HWz.out i hi))
  have CC : Hid (∀ w' m', MF w wz b (w.heap.size + 1 + 1 + 1) m' (GQ T k n) w' → CB w' B c r) := Lib.hid (fun w' m' h => (h.keep B (by omega) hBb).trans HBz.out)
  have CR : Hid (∀ w' m', MF w wz b (w.heap.size + 1 + 1 + 1) m' (GQ T k n) w' → QBox w' (w.heap.size + 1 + 1) 0 0) := Lib.hid (fun w' m' h => (h.keep _ (by omega) (by omega)).trans T2.out)
  have BCH := Lib.hid BC
  have HMX := Lib.hid hroom
  clear BC hroom hwz hwa s0 s1 o0 o1 o2 oa1 hw hB hm hq T2 HBz HWz BZ BZA M0 HS0
  go_loopg [6, 16] (c + 1) (fun gg s i wr => ∃ x m' : Nat, x ≤ c + 1 ∧ c + 1 - x ≤ gg ∧ i = .int .i64 x ∧ s = .int .i64 x ∧ m' ≤ m + x * K ∧ Hid (MS w wz b (w.heap.size + 1 + 1 + 1) m' (GQ T k n) (T.s n c x).1 (T.s n c x).2 wr))
  case atStart => exact ⟨0, m, by omega, by omega, rfl, rfl, by omega, Lib.hid ⟨M1.out, by rw [Z0.out]; exact Q1.out⟩⟩
  case round =>
    clear M1 Q1
    obtain ⟨x, m', hx, hgg, rfl, rfl, hm', HS⟩ := hrel
    by_cases hlt : x < c + 1
    · have hcw := CW.out _ _ HS.out.f x hlt
      have i0 : (0 : Int) ≤ (x : Int) := by omega
      have i1 : (x : Int) < (c : Int) + 1 := by omega
      have SVx := Lib.hid (SV.out x hlt)
      have sb := SB.out x (by omega)
      have vb := VB.out x hlt
      have BX : Hid (∀ w', Hid (MS w wz b (w.heap.size + 1 + 1 + 1) m' (GQ T k n) (T.s n c x).1 (T.s n c x).2 w') → Calls Try.prog 138 #[.agg #[.iface TQ (.agg #[.int .i64 n]), .map (some b)], .agg #[.int .i64 ((c : Int) + 1), .int .i64 ((x : Int) + 1)]] w' (fun e w'' => e = .returned (.agg #[.int .i64 (T.v k n (c + 1) (x + 1)).1, .int .i64 (T.v k n (c + 1) (x + 1)).2]) ∧ ∃ m3, m3 ≤ m' + K ∧ MS w wz b (w.heap.size + 1 + 1 + 1) m3 (GQ T k n) (T.s n c x).1 (T.s n c x).2 w'' ∧ Alt b (b + 1) w' w'')) := Lib.hid (fun w' h' => by
        have hk : x * K + K ≤ (c + 1) * K := by
          have := Nat.mul_le_mul_right K (show x + 1 ≤ c + 1 by omega)
          rw [Nat.succ_mul] at this
          exact this
        refine (BCH.out (x + 1) m' w' (by omega) h'.out.f.mp (by have := HMX.out; omega)).mono ?_
        rintro e w'' ⟨he, m3, hm3, hmq, hal⟩
        exact ⟨he, m3, hm3, h'.out.step hal hmq, hal⟩)
      have NXx : Hid (∀ w', Hid (MS w wz b (w.heap.size + 1 + 1 + 1) m' (GQ T k n) (T.s n c x).1 (T.s n c x).2 w') → Calls Try.prog 300 #[.int .i64 x, .pointer (some ⟨B, 0, none⟩)] w' (Gives (.agg #[.int .i64 ((c : Int) + 1), .int .i64 ((x : Int) + 1)]) w')) := Lib.hid (fun w' h' => NX.out x w' (CC.out _ _ h'.out.f) hlt)
      obtain ⟨t1, ht1⟩ : ∃ t1, t1 = (T.s n c (x + 1)).1 := ⟨_, rfl⟩
      obtain ⟨t2, ht2⟩ : ∃ t2, t2 = (T.s n c (x + 1)).2 := ⟨_, rfl⟩
      rw [← ht1, ← ht2] at SVx
      have HT := Lib.hid (And.intro ht1 ht2)
      clear ht1 ht2
      obtain ⟨v1, hv1⟩ : ∃ v1, v1 = (T.v k n (c + 1) (x + 1)).1 := ⟨_, rfl⟩
      obtain ⟨v2, hv2⟩ : ∃ v2, v2 = (T.v k n (c + 1) (x + 1)).2 := ⟨_, rfl⟩
      obtain ⟨s1, hs1⟩ : ∃ s1, s1 = (T.s n c x).1 := ⟨_, rfl⟩
      obtain ⟨s2, hs2⟩ : ∃ s2, s2 = (T.s n c x).2 := ⟨_, rfl⟩
      rw [← hv1, ← hv2] at SVx vb BX
      rw [← hs1, ← hs2] at SVx sb BX NXx HS
      clear hv1 hv2 hs1 hs2
      go_upto_region 5 with fail
      go_cut [9] (fun s9 wx => ∃ g m3, s9 = .pointer (some ⟨g, 0, none⟩) ∧ w.heap.size + 1 + 1 + 1 + 1 ≤ g ∧ m3 ≤ m' + K ∧ Hid (MS w wz b (w.heap.size + 1 + 1 + 1) m3 (GQ T k n) s1 s2 wx) ∧ Hid (QBox wx g v1 v2))
      case first =>
        have HD : Hid (MS w wz b (w.heap.size + 1 + 1 + 1) m' (GQ T k n) s1 s2 wr.drew) := Lib.hid HS.out.drew
        have HDA : Hid (MS w wz b (w.heap.size + 1 + 1 + 1) m' (GQ T k n) s1 s2 (wr.alloc (.cells #[.int .i64 0, .int .i64 0] 39)).drew) := Lib.hid (HS.out.alloc _).drew
        have KA : Hid (∀ (w' : World) (o : Obj), Hid (MS w wz b (w.heap.size + 1 + 1 + 1) m' (GQ T k n) s1 s2 w') → Hid (MS w wz b (w.heap.size + 1 + 1 + 1) m' (GQ T k n) s1 s2 (w'.alloc o))) := Lib.hid (fun w' o h => Lib.hid (h.out.alloc o))
        have KC : Hid (∀ (w' : World) (m9 : Nat), Hid (MS w wz b (w.heap.size + 1 + 1 + 1) m9 (GQ T k n) s1 s2 w') → w'.cell? ⟨w.heap.size, 0, none⟩ = some (.iface TQ (.agg #[.int .i64 n])) ∧ w'.cell? ⟨w.heap.size, 1, none⟩ = some (.map (some b)) ∧ w'.cell? ⟨w.heap.size + 1, 2, none⟩ = some (.func (.func 300) #[] #[.pointer (some ⟨B, 0, none⟩)])) := Lib.hid (fun w' m9 h => CE.out w' m9 h.out.f)
        have KB : Hid (∀ (w' : World) (m9 : Nat) (o : Obj), Hid (MS w wz b (w.heap.size + 1 + 1 + 1) m9 (GQ T k n) s1 s2 w') → (w'.alloc o).cell? ⟨w.heap.size, 0, none⟩ = some (.iface TQ (.agg #[.int .i64 n])) ∧ (w'.alloc o).cell? ⟨w.heap.size, 1, none⟩ = some (.map (some b)) ∧ (w'.alloc o).cell? ⟨w.heap.size + 1, 2, none⟩ = some (.func (.func 300) #[] #[.pointer (some ⟨B, 0, none⟩)])) := Lib.hid (fun w' m9 o h => CE.out _ m9 (h.out.alloc o).f)
        have KS : Hid (∀ (w' : World) (m9 g : Nat) (x y : Value), Hid (MS w wz b (w.heap.size + 1 + 1 + 1) m9 (GQ T k n) s1 s2 w') → w.heap.size + 1 + 1 + 1 + 1 ≤ g → ((w'.setCell ⟨g, 0, none⟩ x).setCell ⟨g, 1, none⟩ y).cell? ⟨w.heap.size, 0, none⟩ = some (.iface TQ (.agg #[.int .i64 n])) ∧ ((w'.setCell ⟨g, 0, none⟩ x).setCell ⟨g, 1, none⟩ y).cell? ⟨w.heap.size, 1, none⟩ = some (.map (some b)) ∧ ((w'.setCell ⟨g, 0, none⟩ x).setCell ⟨g, 1, none⟩ y).cell? ⟨w.heap.size + 1, 2, none⟩ = some (.func (.func 300) #[] #[.pointer (some ⟨B, 0, none⟩)])) := Lib.hid (fun w' m9 g x y h hg => CE.out _ m9 ((h.out.set hg).set hg).f)
        have hltr : w.heap.size + 1 + 1 + 1 + 1 ≤ wr.heap.size := HS.out.room
        have hbr : wr.heap.size ≠ b := by omega
        have HZ1 : Hid (QBox (wr.alloc (.cells #[.int .i64 0, .int .i64 0] 39)).drew wr.heap.size 0 0) := Lib.hid (QBox.new wr 0 0)
        go_region_held3 (fun w' => w'.cell? ⟨w.heap.size, 0, none⟩ = some (.iface TQ (.agg #[.int .i64 n])) ∧ w'.cell? ⟨w.heap.size, 1, none⟩ = some (.map (some b)) ∧ w'.cell? ⟨w.heap.size + 1, 2, none⟩ = some (.func (.func 300) #[] #[.pointer (some ⟨B, 0, none⟩)]))
          (first | exact KC.out _ _ HD | exact KC.out _ _ HDA | exact KC.out _ _ (by assumption) | exact KB.out _ _ _ (by assumption) | exact KS.out _ _ _ _ _ (by assumption) (by assumption) | go_keep)
          (first
            | (go_at_call 300; (with_reducible refine (NXx.out _ (by first | exact HD | exact HDA | assumption)).mono ?_); rintro e w8 ⟨rfl, b8⟩; (have HS8 := Lib.hid (MS.next (Hid.out (by first | exact HD | exact HDA | assumption)) b8)); (have hlt8 := HS8.out.room); (have hb8 : w8.heap.size ≠ b := by omega); (first | (have HZ8 := Lib.hid (QBox.step HZ1.out (Alt.of_below b8) hbr)) | skip))
            | (go_at_call 138; (with_reducible refine (BX.out _ (by first | assumption | exact KA.out _ _ (by assumption))).mono ?_); rintro e w9 ⟨rfl, m3, hm3, hs9, al9⟩; (have HS9 := Lib.hid hs9); (first | (have HZ9 := Lib.hid (QBox.step HZ8.out al9 hbr); (obtain ⟨⟨c0, c1⟩, f0, f1⟩ := HZ9.out.cells)) | (have HZ9 := Lib.hid (QBox.step (QBox.new _ 0 0) al9 hb8); (obtain ⟨⟨c0, c1⟩, f0, f1⟩ := HZ9.out.cells)) | skip)))
        all_goals
          go_wp2_with fail
          go_meet
          first
            | exact ⟨_, _, rfl, hltr, hm3, Lib.hid ((HS9.out.set hltr).set hltr), Lib.hid (HZ9.out.st v1 v2)⟩
            | exact ⟨_, _, rfl, hlt8, hm3, Lib.hid ((HS9.out.set hlt8).set hlt8), Lib.hid (HZ9.out.st v1 v2)⟩
            | exact ⟨_, _, rfl, HS9.out.room, hm3, Lib.hid (HS9.out.alloc _), Lib.hid (QBox.new w9 v1 v2)⟩
            | (trace_state; sorry)
      obtain ⟨g, m3, rfl, hg, hm3, HS3, HG⟩ := hcut
      obtain ⟨w3, rfl⟩ : ∃ w3 : World, w3 = wc := ⟨_, rfl⟩
      have hm4 : m3 ≤ m + (x + 1) * K := by rw [Nat.succ_mul]; omega
      clear hm3 hm' HS BX NXx hcw
      obtain ⟨⟨g0, g1⟩, _, _⟩ := HG.out.cells
      obtain ⟨⟨c0, c1⟩, f0, f1⟩ := HS3.out.q.cells
      obtain ⟨sa, sd⟩ := sb
      obtain ⟨va, vd⟩ := vb
      have p1 := mul_bd9 sa vd
      have p2 := mul_bd9 va sd
      have p3 := mul_bd6 sd vd
      have W1 : IntKind.i64.wrap (s1 * v2) = s1 * v2 := IntWalk.i64_in _ (by omega)
      have W2 : IntKind.i64.wrap (v1 * s2) = v1 * s2 := IntWalk.i64_in _ (by omega)
      have W3 : IntKind.i64.wrap (s2 * v2) = s2 * v2 := IntWalk.i64_in _ (by omega)
      have W4 : IntKind.i64.wrap (s1 * v2 + v1 * s2) = s1 * v2 + v1 * s2 := IntWalk.i64_in _ (by omega)
      have W5 : IntKind.i64.wrap (1 * v1) = v1 := by rw [Int.one_mul]; exact IntWalk.i64_in _ (by omega)
      have W6 : IntKind.i64.wrap v1 = v1 := IntWalk.i64_in _ (by omega)
      clear HG
      go_wp2_with fail
      refine (SVx.out _).mono ?_
      rintro e w4 ⟨rfl, b4⟩
      have HS4 := Lib.hid (HS3.out.next b4)
      clear b4 c0 c1 f0 f1 g0 g1 HS3
      obtain ⟨⟨c0, c1⟩, f0, f1⟩ := HS4.out.q.cells
      go_wp2_with fail
      go_roundg (c + 1 - (x + 1))
      case rel => exact ⟨x + 1, m3, by omega, by omega, by go_num, by go_num, hm4, Lib.hid (by rw [← HT.out.1, ← HT.out.2]; exact HS4.out.put _ _)⟩
      case measure => omega
    · have hxc : x = c + 1 := by omega
      have hxi : (x : Int) = (c : Int) + 1 := by omega
      rw [hxc] at HS hm'
      rw [hxi]
      obtain ⟨sa, sd⟩ := SB.out (c + 1) (by omega)
      have p3 := mul_bd6 sd (b := (c : Int) + 1) (by omega)
      have W3 : IntKind.i64.wrap ((T.s n c (c + 1)).2 * ((c : Int) + 1)) = (T.s n c (c + 1)).2 * ((c : Int) + 1) := IntWalk.i64_in _ (by omega)
      obtain ⟨s1, hs1⟩ : ∃ s1, s1 = (T.s n c (c + 1)).1 := ⟨_, rfl⟩
      obtain ⟨s2, hs2⟩ : ∃ s2, s2 = (T.s n c (c + 1)).2 := ⟨_, rfl⟩
      rw [← hs1, ← hs2] at EV HS
      rw [← hs1] at sa
      rw [← hs2] at sd p3 W3
      clear hxc hxi hs1 hs2 hgg hx SV SB VB NX CW CC BCH HMX hlt
      obtain ⟨⟨c0, c1⟩, _, _⟩ := HS.out.q.cells
      have o0 := CO.out _ _ HS.out.f
      have W1 : IntKind.i64.wrap s1 = s1 := IntWalk.i64_in _ (by omega)
      go_wp2_with fail
      refine (EV.out _).mono ?_
      rintro e w4 ⟨rfl, b4⟩
      have HS4 := Lib.hid (HS.out.next b4)
      have HS5 := Lib.hid (HS4.out.alloc (.cells #[.int .i64 (T.m n c).1, .int .i64 (T.m n c).2] 39))
      clear b4 c0 c1 o0
      obtain ⟨⟨c0, c1⟩, f0, f1⟩ := (CR.out _ _ HS5.out.f).cells
      go_wp2_with fail
      refine bodyPost_ret (v := .agg #[.int .i64 (T.m n c).1, .int .i64 (T.m n c).2]) (by simp [results, Try.results208, go_sem, c0, c1]) rfl ⟨rfl, m', hm', ?_, ?_⟩
      · exact (HS5.out.f.mp.set (by omega)).set (by omega)
      · exact (HS5.out.f.al.setNew (by omega)).setNew (by omega)
end Go.Proofs.Ytnpiciabpgkiiad
