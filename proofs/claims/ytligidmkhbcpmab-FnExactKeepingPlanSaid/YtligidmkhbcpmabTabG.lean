/- Tables as arguments: rows of any lengths, copied, measured, compared, marked. -/
import Derived.Test.YtligidmkhbcpmabPrm
import Derived.Test.YtligidmkhbcpmabOpen
import Derived.Deep.QuietTactic
import Derived.BigQuiet
import Derived.Deep.Slices
import Derived.Deep.LoopGhost
namespace Go.Proofs.Ytligidmkhbcpmab
open Go.RowKit Go.WideShapes Go.ChangeShapes Go.Joins Go.Deep
set_option linter.unusedVariables false
theorem quiet_add_draw {P : Program} {f : FuncId} {args : Array Value} {w : World} {a n : Nat} {v : Value}
    (h : Calls P f args (w.drewN (a + n)) fun e w' => e = .returned v ∧ ∃ m, w' = (w.drewN (a + n)).drewN m) :
    Calls P f args (w.drewN (a + n)) fun e w'' => e = .returned v ∧ ∃ m, w'' = w.drewN (a + m) :=
  h.mono fun _ _ ⟨he, m, hm⟩ => ⟨he, n + m, by rw [hm, World.drewN_drewN, Nat.add_assoc]⟩
/-- A value that is a slice of R slices of these ints. -/
def TabV (w : World) (B : Nat) (v : Value) (R : Nat) (f : Nat → List Int) : Prop :=
  ∃ p cap, v = .slice p R cap ∧ R ≤ cap ∧ R ≤ maxLen ∧ ∀ i, i < R → ∃ b off u, p = some ⟨b, off, none⟩ ∧ b < B ∧ w.cell? ⟨b, off + i, none⟩ = some u ∧ IntsV w B u (f i)
theorem TabV.below {w w' : World} {B R : Nat} {v : Value} {f : Nat → List Int} (h : TabV w B v R f) (hb : Below B w w') : TabV w' B v R f := by
  obtain ⟨p, cap, e, hc, hm, h⟩ := h
  refine ⟨p, cap, e, hc, hm, fun i hi => ?_⟩
  obtain ⟨b, off, u, h1, h2, h3, h4⟩ := h i hi
  exact ⟨b, off, u, h1, h2, by rw [hb.cell (p := ⟨b, off + i, none⟩) h2]; exact h3, h4.below hb⟩
theorem TabV.more {w : World} {B B' R : Nat} {v : Value} {f : Nat → List Int} (h : TabV w B v R f) (hB : B ≤ B') : TabV w B' v R f := by
  obtain ⟨p, cap, e, hc, hm, h⟩ := h
  refine ⟨p, cap, e, hc, hm, fun i hi => ?_⟩
  obtain ⟨b, off, u, h1, h2, h3, h4⟩ := h i hi
  exact ⟨b, off, u, h1, by omega, h3, h4.more hB⟩
theorem rowInfoG : (Try.prog.info? 22).map (fun i => (i.zero, i.size, i.bytes)) = some (some (.slice none 0 0), 1, 24) := by kernel_rfl
theorem ownsRow_belowG {w w' : World} {lo hi s n : Nat} {e : TypeId} {v : Value} {xs : List Value} (h : w.ownsRow lo e s v n xs) (hb : Below hi w w') (hl : ∀ q, v.ownBlock = some q → q < hi) : w'.ownsRow lo e s v n xs := by
  refine ⟨h.1, ?_⟩
  rcases h.2 with h0 | ⟨g, cap, cur, e1, a, hg, rest⟩
  · exact .inl h0
  · exact .inr ⟨g, cap, cur, e1, a, (hb.block g (hl g (by rw [e1]; rfl))).trans hg, rest⟩
/-- A table of a call's own: its rows lie one behind the other, each in memory of its own. -/
def OwnG (w : World) (lo hi : Nat) (v : Value) (R : Nat) (f : Nat → List Int) : Prop :=
  ∃ (go cap : Nat) (u : Nat → Value) (h : Nat → Nat), v = .slice (some ⟨go, 0, none⟩) R cap ∧ R ≤ cap ∧ R ≤ maxLen ∧ lo ≤ go ∧ go < h 0 ∧ h R ≤ hi ∧ hi ≤ w.heap.size ∧
    ∀ i, i < R → w.cell? ⟨go, i, none⟩ = some (u i) ∧ h i ≤ h (i + 1) ∧ OwnV w (h i) (h (i + 1)) (u i) (f i)
theorem mono_to {h : Nat → Nat} {R : Nat} (hm : ∀ i, i < R → h i ≤ h (i + 1)) : ∀ j i, i ≤ j → j ≤ R → h i ≤ h j
  | 0, i, hi, _ => by rw [show i = 0 by omega]; exact Nat.le_refl _
  | j + 1, i, hi, hj => by
    rcases Nat.lt_or_ge i (j + 1) with a | a
    · exact Nat.le_trans (mono_to hm j i (by omega) (by omega)) (hm j (by omega))
    · rw [show i = j + 1 by omega]; exact Nat.le_refl _
theorem OwnG.tabV {w : World} {lo hi R : Nat} {v : Value} {f : Nat → List Int} (h : OwnG w lo hi v R f) : TabV w hi v R f := by
  obtain ⟨go, cap, u, h, e, hc, hm, h1, h2, h3, h4, h5⟩ := h
  have mo := mono_to (R := R) (fun i hi' => (h5 i hi').2.1)
  refine ⟨_, cap, e, hc, hm, fun i hi' => ?_⟩
  obtain ⟨a, b, c⟩ := h5 i hi'
  have m1 := mo R (i + 1) (by omega) (Nat.le_refl _)
  have m2 := mo (i + 1) 0 (by omega) (by omega)
  exact ⟨go, 0, _, rfl, by omega, by rw [Nat.zero_add]; exact a, c.intsV.more (by omega)⟩
theorem OwnG.alt {w w' : World} {lo hi lo' hi' R : Nat} {v : Value} {f : Nat → List Int} (h : OwnG w lo hi v R f) (ha : Alt lo' hi' w w') (hd : hi ≤ lo' ∨ hi' ≤ lo) : OwnG w' lo hi v R f := by
  obtain ⟨go, cap, u, h, e, hc, hm, h1, h2, h3, h4, h5⟩ := h
  have mo := mono_to (R := R) (fun i hi' => (h5 i hi').2.1)
  have m0 := mo R 0 (by omega) (Nat.le_refl _)
  refine ⟨go, cap, u, h, e, hc, hm, h1, h2, h3, Nat.le_trans h4 ha.size, fun i hi' => ?_⟩
  obtain ⟨a, b, c⟩ := h5 i hi'
  have m1 := mo R (i + 1) (by omega) (Nat.le_refl _)
  have m2 := mo i 0 (by omega) (by omega)
  exact ⟨by rw [World.cell?_of_block (ha.block go (by omega) (by omega))]; exact a, b, c.alt ha (by omega)⟩
theorem OwnG.below {w w' : World} {lo hi R : Nat} {v : Value} {f : Nat → List Int} (h : OwnG w lo hi v R f) (hb : Below hi w w') : OwnG w' lo hi v R f := by
  obtain ⟨go, cap, u, h, e, hc, hm, h1, h2, h3, h4, h5⟩ := h
  have mo := mono_to (R := R) (fun i hi' => (h5 i hi').2.1)
  have m0 := mo R 0 (by omega) (Nat.le_refl _)
  refine ⟨go, cap, u, h, e, hc, hm, h1, h2, h3, Nat.le_trans h4 hb.size, fun i hi' => ?_⟩
  obtain ⟨a, b, c⟩ := h5 i hi'
  have m1 := mo R (i + 1) (by omega) (Nat.le_refl _)
  exact ⟨by rw [hb.cell (p := ⟨go, i, none⟩) (by show go < hi; omega)]; exact a, b, c.below (hb.mono (by omega))⟩
/-- A copy of a table in new memory. -/
def NewTabG (R : Nat) (f : Nat → List Int) (w : World) (e : Ending) (w' : World) : Prop :=
  ∃ v, e = .returned v ∧ OwnG w' w.heap.size w'.heap.size v R f ∧ Below w.heap.size w w'
/-- The values of the rows behind k rounds. -/
def rowsG (u : Nat → Value) (R k : Nat) : List Value := (List.range R).map fun i => if i < k then u i else .slice none 0 0
theorem rowsG_len (u : Nat → Value) (R k : Nat) : (rowsG u R k).length = R := by simp [rowsG]
theorem rowsG_zero (u : Nat → Value) (R : Nat) : rowsG u R 0 = List.replicate R (.slice none 0 0) := by
  unfold rowsG
  refine List.ext_getElem (by simp) (fun i h1 h2 => ?_)
  simp
theorem rowsG_at (u : Nat → Value) {R k i : Nat} (h : i < R) : (rowsG u R k)[i]? = some (if i < k then u i else .slice none 0 0) := by
  unfold rowsG; rw [List.getElem?_map, List.getElem?_range h]; rfl
def extV (u : Nat → Value) (k : Nat) (v : Value) : Nat → Value := fun i => if i < k then u i else v
def extN (h : Nat → Nat) (k b : Nat) : Nat → Nat := fun i => if i ≤ k then h i else b
theorem rowsG_set (u : Nat → Value) (R k : Nat) (v : Value) (h : k < R) : (rowsG u R k).set k v = rowsG (extV u k v) R (k + 1) := by
  refine List.ext_getElem (by simp [rowsG_len]) (fun i h1 h2 => ?_)
  rw [List.length_set, rowsG_len] at h1
  apply Option.some.inj
  rw [← List.getElem?_eq_getElem, ← List.getElem?_eq_getElem, rowsG_at _ h1, List.getElem?_set, rowsG_len, rowsG_at _ h1]
  unfold extV
  by_cases e : k = i
  · subst e; rw [if_pos rfl, if_pos h, if_pos (by omega), if_neg (by omega)]
  · rw [if_neg e]
    by_cases h3 : i < k
    · rw [if_pos h3, if_pos (by omega), if_pos h3]
    · rw [if_neg h3, if_neg (by omega)]
/-- The rows copied so far. -/
def DoneG (w : World) (g0 : Nat) (k : Nat) (u : Nat → Value) (h : Nat → Nat) (f : Nat → List Int) : Prop :=
  g0 < h 0 ∧ h k ≤ w.heap.size ∧ ∀ i, i < k → h i ≤ h (i + 1) ∧ OwnV w (h i) (h (i + 1)) (u i) (f i)
theorem DoneG.next {w w1 w2 : World} {g0 k : Nat} {u : Nat → Value} {h : Nat → Nat} {f : Nat → List Int} {v x : Value} (d : DoneG w g0 k u h f) (o1 : OwnV w1 w.heap.size w1.heap.size v (f k)) (b1 : Below w.heap.size w w1)
    (e2 : w2 = w1.setCell ⟨g0, k, none⟩ x) : DoneG w2 g0 (k + 1) (extV u k v) (extN h k w1.heap.size) f := by
  obtain ⟨d1, d2, d3⟩ := d
  have s1 := b1.size
  have s2 : w2.heap.size = w1.heap.size := by rw [e2]; simp [World.setCell]
  have mo := mono_to (R := k) (fun i hi' => (d3 i hi').1)
  have A : Alt g0 (g0 + 1) w1 w2 := by rw [e2]; exact Alt.setC w1 g0 k x
  have n0 : extN h k w1.heap.size 0 = h 0 := if_pos (Nat.zero_le _)
  have nk : extN h k w1.heap.size (k + 1) = w1.heap.size := if_neg (by omega)
  refine ⟨by rw [n0]; exact d1, by rw [nk, s2]; exact Nat.le_refl _, fun i hi => ?_⟩
  have ni : extN h k w1.heap.size i = h i := if_pos (by omega)
  rcases Nat.lt_or_ge i k with hlt | hge
  · have ni1 : extN h k w1.heap.size (i + 1) = h (i + 1) := if_pos (by omega)
    obtain ⟨a, c⟩ := d3 i hlt
    have m2 := mo i 0 (by omega) (by omega)
    have m3 := mo k (i + 1) (by omega) (by omega)
    rw [ni, ni1]
    refine ⟨a, ?_⟩
    rw [show extV u k v i = u i from if_pos hlt]
    exact (c.below (b1.mono (by omega))).alt A (by omega)
  · obtain rfl : i = k := by omega
    have m2 := mo i 0 (by omega) (by omega)
    rw [ni, nk]
    refine ⟨by omega, ?_⟩
    rw [show extV u i v i = v from if_neg (by omega)]
    exact (o1.low (by omega)).alt A (by omega)
set_option maxRecDepth 100000 in
set_option maxHeartbeats 2000000 in
theorem toSS (R : Nat) (f : Nat → List Int) (v : Value) (w : World) (hR : R ≤ 1048576) (hf : ∀ i, i < R → (f i).length ≤ 1048576) (h : TabV w w.heap.size v R f) :
    Calls Try.prog 15 #[v] w (NewTabG R f w) := by
  obtain ⟨p, cap, rfl, hc, hm, hS⟩ := h
  have S := Lib.hid hS
  have LE := Lib.hid hf
  clear hS hf
  obtain ⟨t0, hi, hz0, hz1, hz2⟩ := info_parts rowInfoG
  have c1 : t0.bytes * R ≤ 281474976710656 := by rw [hz2]; omega
  have c2 : R ≤ maxLen := by unfold maxLen; omega
  go_enter Try.func15, Try.ntmps15
  go_wp2_with (at_make; refine wpList_make_full _ rfl _ _ 23 rfl w.heap.size 22 t0 (.slice none 0 0) 1 Try.underlying23 hi hz0 hz1 .i64 .i64 _ _ R rfl rfl rfl rfl c1 c2 (Nat.le_refl _) ?_; intro w1 hown hg)
  have hb1 : Below w.heap.size w w1 := (Below.refl _ _).grown hg (Nat.le_refl _) (by simp)
  have hown1 : w1.ownsRow w.heap.size 22 1 (.slice (some ⟨w.heap.size, 0, none⟩) R R) R (rowsG (fun _ => .slice none 0 0) R 0) := by
    have h2 := hown
    rw [show (Value.slice none 0 0).cells = #[Value.slice none 0 0] from rfl, Nat.mul_one, toList_madeCells_one] at h2
    rw [rowsG_zero]
    exact h2
  have hlt1 : w.heap.size < w1.heap.size := (hown1.lt w.heap.size rfl).2
  have HO := Lib.hid hown1
  have HB := Lib.hid hb1
  have HD : Hid (DoneG w1 w.heap.size 0 (fun _ => .slice none 0 0) (fun _ => w1.heap.size) f) := Lib.hid ⟨hlt1, Nat.le_refl _, fun i hi => by omega⟩
  clear hown hg c1 hown1 hb1
  go_loopg [4] R (fun gg i wr => ∃ (k : Nat) (u : Nat → Value) (h : Nat → Nat), k ≤ R ∧ R - k ≤ gg ∧ i = .int .i64 k ∧ Hid (wr.ownsRow w.heap.size 22 1 (.slice (some ⟨w.heap.size, 0, none⟩) R R) R (rowsG u R k)) ∧ Hid (DoneG wr w.heap.size k u h f) ∧ Hid (Below w.heap.size w wr))
  case atStart => exact ⟨0, _, _, Nat.zero_le _, by omega, rfl, HO, HD, HB⟩
  case round =>
    clear HO HD HB hlt1
    obtain ⟨k, u, h, hk, hgg, rfl, HO, HD, HB⟩ := hrel
    by_cases hlt : k < R
    · obtain ⟨b, off, z, rfl, hB, hc0, hz⟩ := S.out k hlt
      have hcr : wr.cell? ⟨b, off + k, none⟩ = some z := by rw [HB.out.cell (p := ⟨b, off + k, none⟩) hB]; exact hc0
      have TI := Lib.hid (toI (f k) z wr (LE.out k hlt) ((hz.below HB.out).more HB.out.size))
      have i0 : (0 : Int) ≤ (k : Int) := by omega
      have i1 : (k : Int) < (R : Int) := by omega
      have GL := Lib.hid ((HO.out.lt w.heap.size rfl).2)
      clear hz hc0
      go_wp2_with fail
      refine TI.out.mono ?_
      rintro e w1 ⟨y, rfl, o1, b1⟩
      have hown := ownsRow_belowG HO.out b1 (fun q hq => (show w.heap.size = q by simpa [Value.ownBlock] using hq) ▸ GL.out)
      have hold : w1.cell? ⟨w.heap.size, k, none⟩ = some (.slice none 0 0) := by
        rw [hown.cellAt k (by omega), rowsG_at _ hlt, if_neg (by omega)]
      have hfz : w1.frozen? ⟨w.heap.size, k, none⟩ = false := hown.frozenAt k
      have HO2 : Hid ((w1.setCell ⟨w.heap.size, k, none⟩ y).ownsRow w.heap.size 22 1 (.slice (some ⟨w.heap.size, 0, none⟩) R R) R (rowsG (extV u k y) R (k + 1))) := Lib.hid (by
        rw [← rowsG_set _ _ _ _ hlt]; exact (hown.stored k y).1)
      have HD2 : Hid (DoneG (w1.setCell ⟨w.heap.size, k, none⟩ y) w.heap.size (k + 1) (extV u k y) (extN h k w1.heap.size) f) := Lib.hid (HD.out.next o1 b1 rfl)
      have HB2 := Lib.hid ((HB.out.trans (b1.mono HB.out.size)).setCell (p := ⟨w.heap.size, k, none⟩) (Nat.le_refl _) y)
      obtain ⟨q1, d1, rfl, _⟩ := o1.intsV
      clear o1 b1 hown HO HD HB
      go_wp2_with fail
      go_roundg (R - (k + 1))
      case rel => exact ⟨k + 1, _, _, by omega, by omega, by go_num, HO2, HD2, HB2⟩
      case measure => omega
    · have hkR : k = R := by omega
      have FIN : Hid (NewTabG R f w (.returned (.slice (some ⟨w.heap.size, 0, none⟩) R R)) wr) := Lib.hid ⟨_, rfl, ⟨w.heap.size, R, u, h, rfl, Nat.le_refl _, c2, Nat.le_refl _, HD.out.1, by rw [← hkR]; exact HD.out.2.1, Nat.le_refl _, fun i hi => ⟨by rw [HO.out.cellAt i (by omega), rowsG_at _ hi, if_pos (by omega)], HD.out.2.2 i (by omega)⟩⟩, HB.out⟩
      clear HO HD HB hkR
      go_wp2_with fail
      go_ret
      exact FIN.out
set_option maxRecDepth 100000 in
set_option maxHeartbeats 1000000 in
theorem eqTT (R : Nat) (f : Nat → List Int) (v u : Value) (B C : Nat) (w : World) (hp : TabV w B v R f) (hq : TabV w C u R f) :
    Calls Try.prog 18 #[v, u] w fun e w' => e = .returned (.bool true) ∧ Below w.heap.size w w' := by
  obtain ⟨p, c, rfl, _, hm, hp⟩ := hp
  obtain ⟨q, d, rfl, _, _, hq⟩ := hq
  have hn : R ≤ 9223372036854775807 := by unfold maxLen at hm; omega
  have P := Lib.hid hp
  have Q := Lib.hid hq
  clear hp hq hm
  go_enter Try.func18, Try.ntmps18
  go_wp2
  go_loopg [5] R (fun gg i wr => ∃ k : Nat, k ≤ R ∧ R - k ≤ gg ∧ i = .int .i64 k ∧ ∃ n, wr = w.drewN n)
  case atStart => exact ⟨0, Nat.zero_le _, by omega, rfl, 0, rfl⟩
  case round =>
    obtain ⟨k, hk, hgg, rfl, n, rfl⟩ := hrel
    by_cases hlt : k < R
    · obtain ⟨b, off, u1, rfl, _, hc, h1⟩ := P.out k hlt
      obtain ⟨b2, off2, u2, rfl, _, hc2, h2⟩ := Q.out k hlt
      have CE := Lib.hid (fun n' => eqI (f k) u1 u2 B C (w.drewN n') (h1.drewN n') (h2.drewN n'))
      obtain ⟨p1, d1, rfl, _⟩ := h1
      obtain ⟨p2, d2, rfl, _⟩ := h2
      have h0 : (0 : Int) ≤ (k : Int) := by omega
      have h1' : (k : Int) < (R : Int) := by omega
      go_wp2_with fail
      go_quiet ((go_at_call 17; exact quiet_add_draw (CE.out _)))
      go_wp2_with fail
      go_roundg (R - (k + 1))
      case rel => exact ⟨k + 1, by omega, by omega, by go_num, _, rfl⟩
      case measure => omega
    · go_wp2
      go_ret
      exact ⟨rfl, below_drewN (Below.refl _ _) n⟩
/-- The lengths of the first rows together. -/
def lenG (f : Nat → List Int) : Nat → Nat
  | 0 => 0
  | k + 1 => lenG f k + (f k).length
theorem lenG_le (f : Nat → List Int) : ∀ j i, i < j → (f i).length ≤ lenG f j
  | j + 1, i, h => by
    simp only [lenG]
    rcases Nat.lt_or_ge i j with a | a
    · have := lenG_le f j i a; omega
    · rw [show i = j by omega]; omega
theorem lenG_mono (f : Nat → List Int) : ∀ j i, i ≤ j → lenG f i ≤ lenG f j
  | 0, i, h => by rw [show i = 0 by omega]; exact Nat.le_refl _
  | j + 1, i, h => by
    rcases Nat.lt_or_ge i (j + 1) with a | a
    · have := lenG_mono f j i (by omega); simp only [lenG]; omega
    · rw [show i = j + 1 by omega]; exact Nat.le_refl _
/-- What is left of a size behind a table. -/
def LeftG (l0 : Int) (R : Nat) (f : Nat → List Int) (w : World) (e : Ending) (w' : World) : Prop :=
  ∃ l : Int, e = .returned (.int .i64 l) ∧ -1 ≤ l ∧ (0 ≤ l → l = l0 - R - lenG f R) ∧ w = w'
set_option maxRecDepth 100000 in
set_option maxHeartbeats 2000000 in
theorem szSS (R : Nat) (f : Nat → List Int) (v : Value) (B : Nat) (left : Int) (w : World) (hl : -1 ≤ left) (hl2 : left ≤ 1048576) (h : TabV w B v R f) :
    Calls Try.prog 12 #[v, .int .i64 left] w (LeftG left R f w) := by
  obtain ⟨p, cap, rfl, hc, hm, hS⟩ := h
  have hn : R ≤ 9223372036854775807 := by unfold maxLen at hm; omega
  by_cases h1 : left - (R : Int) < 0
  · clear hS hm hc
    go_enter Try.func12, Try.ntmps12
    go_wp2_with fail
    go_ret
    exact ⟨-1, rfl, by omega, fun h => by omega, rfl⟩
  · have S := Lib.hid hS
    clear hS hm hc
    go_enter Try.func12, Try.ntmps12
    go_wp2_with fail
    go_loopg [1, 5] R (fun gg l i wr => ∃ (k : Nat) (x : Int), k ≤ R ∧ R - k ≤ gg ∧ i = .int .i64 k ∧ l = .int .i64 x ∧ 0 ≤ x ∧ x ≤ 1048576 ∧ Hid (x = left - R - lenG f k) ∧ wr = w)
    case atStart => exact ⟨0, _, Nat.zero_le _, by omega, rfl, rfl, by omega, by omega, Lib.hid (by simp [lenG]), rfl⟩
    case round =>
      obtain ⟨k, x, hk, hgg, rfl, rfl, x0, x1, HX, rfl⟩ := hrel
      by_cases hlt : k < R
      · obtain ⟨b, off, z, rfl, hB, hc0, hz⟩ := S.out k hlt
        have SZ := Lib.hid (fun w' (e : w' = wr) => szI (f k) z B x w' (by omega) x1 (e ▸ hz))
        have i0 : (0 : Int) ≤ (k : Int) := by omega
        have i1 : (k : Int) < (R : Int) := by omega
        obtain ⟨q1, d1, rfl, _⟩ := hz
        by_cases h2 : x < (f k).length
        · simp only [if_pos h2] at SZ
          clear h2
          go_wp2_with fail
          refine (SZ.out _ rfl).mono ?_
          rintro e w1 ⟨rfl, rfl⟩
          go_wp2_with fail
          go_ret
          exact ⟨-1, rfl, by omega, fun h => by omega, rfl⟩
        · simp only [if_neg h2] at SZ
          have HX2 : Hid (x - (f k).length = left - R - lenG f (k + 1)) := Lib.hid (by have := HX.out; simp only [lenG]; omega)
          obtain ⟨y, hy⟩ : ∃ y, y = x - ((f k).length : Int) := ⟨_, rfl⟩
          have y0 : 0 ≤ y := by omega
          have y1 : y ≤ 1048576 := by omega
          have y2 : ¬ y < 0 := by omega
          rw [← hy] at SZ HX2
          clear h2 hy
          go_wp2_with fail
          refine (SZ.out _ rfl).mono ?_
          rintro e w1 ⟨rfl, rfl⟩
          go_wp2_with fail
          go_roundg (R - (k + 1))
          case rel => exact ⟨k + 1, _, by omega, by omega, by go_num, rfl, y0, y1, HX2, rfl⟩
          case measure => omega
      · have hkR : k = R := by omega
        have FIN : Hid (LeftG left R f wr (.returned (.int .i64 x)) wr) := Lib.hid ⟨x, rfl, by omega, fun _ => by rw [← hkR]; exact hkR ▸ HX.out, rfl⟩
        clear HX hkR
        go_wp2_with fail
        go_ret
        exact FIN.out
set_option maxRecDepth 100000 in
set_option maxHeartbeats 2000000 in
theorem markSS (R : Nat) (f : Nat → List Int) (v : Value) (lo hi k : Nat) (w : World) (hR : R ≤ 1048576) (hf : ∀ i, i < R → (f i).length ≤ 1048576) (hL : lenG f R ≤ 1048576) (hk : k ≤ 1000000) (h : OwnG w lo hi v R f) :
    Calls Try.prog 32 #[v, .int .i64 k] w fun e w' => e = .returned (.int .i64 ((k + lenG f R : Nat) : Int)) ∧ Alt lo hi w w' := by
  obtain ⟨go, cap, u, h, rfl, hc, hm, h1, h2, h3, h4, h5⟩ := h
  have mo := mono_to (R := R) (fun i hi' => (h5 i hi').2.1)
  have CELL : Hid (∀ i, i < R → w.cell? ⟨go, i, none⟩ = some (u i)) := Lib.hid (fun i hi' => (h5 i hi').1)
  have ROW : Hid (∀ i, i < R → OwnV w (h i) (h (i + 1)) (u i) (f i)) := Lib.hid (fun i hi' => (h5 i hi').2.2)
  have MO : Hid (∀ i, i < R → lo ≤ h i ∧ go < h i ∧ h (i + 1) ≤ hi ∧ h i ≤ h (i + 1)) := Lib.hid (fun i hi' => by
    have a := mo i 0 (by omega) (by omega)
    have b := mo R (i + 1) (by omega) (Nat.le_refl _)
    have c := (h5 i hi').2.1
    omega)
  have MJ : Hid (∀ i j, i < j → j < R → h (i + 1) ≤ h j) := Lib.hid (fun i j hij hj => mo j (i + 1) (by omega) (by omega))
  have LE := Lib.hid hf
  have LB : Hid (∀ i, i ≤ R → lenG f i ≤ 1048576) := Lib.hid (fun i hi' => Nat.le_trans (lenG_mono f R i hi') hL)
  have GO := Lib.hid h4
  clear h5 h2 h3 hm hc hf mo hL
  go_enter Try.func32, Try.ntmps32
  go_wp2
  go_loopg [1, 5] R (fun gg q i wr => ∃ j : Nat, j ≤ R ∧ R - j ≤ gg ∧ i = .int .i64 j ∧ q = .int .i64 ((k + lenG f j : Nat) : Int) ∧ Hid (∀ i, i < R → wr.cell? ⟨go, i, none⟩ = some (u i)) ∧ Hid (∀ i, j ≤ i → i < R → OwnV wr (h i) (h (i + 1)) (u i) (f i)) ∧ Hid (Alt lo hi w wr))
  case atStart => exact ⟨0, Nat.zero_le _, by omega, rfl, by simp only [lenG, Nat.add_zero], CELL, Lib.hid (fun i _ hi' => ROW.out i hi'), Lib.hid ⟨rfl, rfl, rfl, Nat.le_refl _, fun _ _ _ => rfl⟩⟩
  case round =>
    clear CELL ROW
    obtain ⟨j, hj, hgg, rfl, rfl, HC, HO, HA⟩ := hrel
    have lb := LB.out j hj
    by_cases hlt : j < R
    · have hcl := HC.out j hlt
      have oj := HO.out j (Nat.le_refl _) hlt
      have CM := Lib.hid (markI (f j) _ (h j) (h (j + 1)) (k + lenG f j) wr (LE.out j hlt) (by omega) oj)
      obtain ⟨g1, g2, g3, g4⟩ := MO.out j hlt
      have i0 : (0 : Int) ≤ (j : Int) := by omega
      have i1 : (j : Int) < (R : Int) := by omega
      have EK := Lib.hid (show k + lenG f j + (f j).length = k + lenG f (j + 1) by simp only [lenG]; omega)
      obtain ⟨kk, hkk⟩ : ∃ kk, kk = k + lenG f j := ⟨_, rfl⟩
      rw [← hkk] at CM EK ⊢
      obtain ⟨q1, d1, e1, _⟩ := oj.intsV
      rw [e1] at hcl CM
      clear oj hkk lb
      go_wp2_with fail
      refine CM.out.mono ?_
      rintro e w1 ⟨rfl, o1, a1⟩
      have HC1 : Hid (∀ i, i < R → w1.cell? ⟨go, i, none⟩ = some (u i)) := Lib.hid (fun i hi' => by
        rw [World.cell?_of_block (a1.block go (by have := GO.out; have := HA.out.size; omega) (by omega))]; exact HC.out i hi')
      have HO1 : Hid (∀ i, j + 1 ≤ i → i < R → OwnV w1 (h i) (h (i + 1)) (u i) (f i)) := Lib.hid (fun i x1 x2 => by
        have d := MJ.out j i (by omega) x2
        exact (HO.out i (by omega) x2).alt a1 (by omega))
      have HA1 := Lib.hid (HA.out.trans (a1.wide (lo' := lo) (hi' := hi) (by omega) (by omega)))
      clear o1 a1 HC HO HA e1
      go_wp2_with fail
      go_roundg (R - (j + 1))
      case rel => exact ⟨j + 1, by omega, by omega, by go_num, by rw [← EK.out]; rfl, HC1, HO1, HA1⟩
      case measure => omega
    · have hj2 : j = R := by omega
      have EQ := Lib.hid hj2
      clear hj2
      go_wp2_with fail
      go_ret
      exact ⟨by rw [EQ.out]; rfl, HA.out⟩
section
variable {H : Type} {enc : TypeId × Value → H} {W : World}
theorem addr_none {W : World} {a : Addr} {v : Value} (h : W.cell? (a.add 0) = some v) : ∃ b off, a = ⟨b, off, none⟩ := by
  obtain ⟨b, off, spot⟩ := a
  have hspot : spot = none := by simpa [Addr.add] using World.cell?_spot h
  subst hspot
  exact ⟨b, off, rfl⟩
theorem addr_add (b off i : Nat) : (⟨b, off, none⟩ : Addr).add i = ⟨b, off + i, none⟩ := by
  unfold Addr.add
  by_cases h0 : i = 0
  · subst h0; simp
  · simp [h0]
theorem rowCells : Try.prog.cellsOf 22 = 1 := by kernel_rfl
set_option maxRecDepth 100000 in
theorem tabV_arg {base : Nat} {v : Value} {d : DataW H} {p : List MemPlace} (hv : Value.okWide Try.prog W .any base 23 v) (h : DataW.Trod enc Try.prog W 0 (fun _ => true) true 23 v d p) : ∃ R f, TabV W W.heap.size v R f := by
  obtain ⟨fuel, hf⟩ := h
  obtain ⟨a, len, cap, rfl⟩ := okWide_slice Try.underlying23 hv
  have hf : DataW.trod enc Try.prog W 0 (fun _ => true) true fuel 23 [.slice a len cap] = some (d, p) := by simpa [Value.cells] using hf
  rcases open_slice1 Try.underlying23 rowCells hf with ⟨hcs, _⟩ | ⟨a', len', cap', m, n, V, D, Pl, hcs, _, hl, hm, hmm, _, hV⟩
  · simp at hcs
    obtain ⟨rfl, rfl, rfl⟩ := hcs
    exact ⟨0, fun _ => [], none, 0, rfl, Nat.le_refl _, Nat.zero_le _, fun i hi => by omega⟩
  · simp at hcs
    obtain ⟨rfl, rfl, rfl⟩ := hcs
    simp only [if_true] at hmm
    have EX : ∀ i, ∃ zs, i < m → W.cell? (a'.add i) = some (V i) ∧ IntsV W W.heap.size (V i) zs := fun i => by
      by_cases hi : i < m
      · obtain ⟨c1, c2⟩ := hV i hi
        obtain ⟨zs, hz⟩ := intsV_open c2
        exact ⟨zs, fun _ => ⟨c1, hz⟩⟩
      · exact ⟨[], fun h => absurd h hi⟩
    refine ⟨len, fun i => (EX i).choose, some a', cap, rfl, hl, Nat.le_trans hl hm, fun i hi => ?_⟩
    have c0 := (EX 0).choose_spec (by omega)
    have ci := (EX i).choose_spec (by omega)
    obtain ⟨b, off, rfl⟩ := addr_none c0.1
    have c2 := ci.1
    rw [addr_add] at c2
    exact ⟨b, off, V i, rfl, cell_room' c2, c2, ci.2⟩
end
end Go.Proofs.Ytligidmkhbcpmab
