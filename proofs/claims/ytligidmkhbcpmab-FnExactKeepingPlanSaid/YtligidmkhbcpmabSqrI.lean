/- Tables in the program: whether one is square, the sums of its rows and columns, whether it is a plan. -/
import Derived.Test.YtligidmkhbcpmabSprI
import Derived.Test.YtligidmkhbcpmabEdgP
import Derived.Test.YtligidmkhbcpmabTabG
namespace Go.Proofs.Ytligidmkhbcpmab
open Go.RowKit
set_option linter.unusedVariables false
/-- What is asked of a test of rows that is handed over. -/
def PredT (g : Nat) (lb : Array Value) (p : List Int → Bool) (R : Nat) (f : Nat → List Int) (w : World) : Prop :=
  ∀ (W : World) (i : Nat) (z : Value), i < R → Below w.heap.size w W → IntsV W W.heap.size z (f i) → Calls Try.prog g (#[z] ++ lb) W fun e w' => e = .returned (.bool (p (f i))) ∧ Below W.heap.size W w'
set_option maxHeartbeats 2000000 in
theorem indexT (R : Nat) (f : Nat → List Int) (v : Value) (g : Nat) (lb : Array Value) (p : List Int → Bool) (w : World) (eg : ∀ args w, (callFunc g args).run Try.prog w = .ok (.enter g args) w)
    (hn : R ≤ 1048576) (h : TabV w w.heap.size v R f) (hp : PredT g lb p R f w) :
    Calls Try.prog 81 #[v, .func (.func g) #[] lb] w fun e w' => ∃ k : Int, e = .returned (.int .i64 k) ∧ -1 ≤ k ∧ k ≤ 1048576 ∧ decide (0 ≤ k) = ((List.range R).any fun i => p (f i)) ∧ Below w.heap.size w w' := by
  obtain ⟨q, cq, rfl, lq, mq, iq⟩ := h
  have E1 := Lib.hid iq
  have PP := Lib.hid hp
  clear iq mq hp
  go_enter Try.func81, Try.ntmps81
  go_wp2
  go_loopw [8] (fun i wr => ∃ k : Nat, k ≤ R ∧ i = .int .i64 k ∧ Hid (∀ j, j < k → p (f j) = false) ∧ Hid (Below w.heap.size w wr)) (fun i _ => R - (intOf i).toNat)
  case atStart => exact ⟨0, Nat.zero_le _, rfl, Lib.hid (fun j hj => by omega), Lib.hid (Below.refl _ _)⟩
  case round =>
    obtain ⟨k, hk, rfl, HA, HB⟩ := hrel
    by_cases hlt : k < R
    · obtain ⟨b, off, z, rfl, hb, hc, hz⟩ := E1.out k hlt
      have hcw : wr.cell? ⟨b, off + k, none⟩ = some z := by rw [HB.out.cell (p := ⟨b, off + k, none⟩) hb]; exact hc
      have C := Lib.hid (PP.out wr k z hlt HB.out ((hz.below HB.out).more HB.out.size))
      have i0 : (0 : Int) ≤ (k : Int) := by omega
      have i1 : (k : Int) < (R : Int) := by omega
      have HIT := Lib.hid (anyR_hit (p := fun i => p (f i)) hlt)
      have NX : Hid (p (f k) = false → ∀ j, j < k + 1 → p (f j) = false) := Lib.hid (fun h j hj => by
        rcases Nat.lt_or_ge j k with h' | h'
        · exact HA.out j h'
        · obtain rfl : j = k := by omega
          exact h)
      obtain ⟨q1, d1, rfl, _⟩ := hz
      clear hc HA
      obtain ⟨t, ht⟩ : ∃ t, t = p (f k) := ⟨_, rfl⟩
      rw [← ht] at C NX
      have HIT2 := Lib.hid (fun (h : t = true) => HIT.out (by rw [← ht]; exact h))
      clear ht HIT
      cases t
      · have N2 := Lib.hid (NX.out rfl)
        clear HIT2 NX
        go_wp2_with (go_at_fn g; refine C.out.mono ?_; rintro e w1 ⟨rfl, b1⟩)
        have HB1 := Lib.hid (HB.out.trans (b1.mono HB.out.size))
        clear b1
        go_roundw
        case rel => exact ⟨k + 1, by omega, by go_num, N2, HB1⟩
        case measure => simp [intOf]; omega
      · have N2 := Lib.hid (HIT2.out rfl)
        clear HIT2 NX
        go_wp2_with (go_at_fn g; refine C.out.mono ?_; rintro e w1 ⟨rfl, b1⟩)
        have HB1 := Lib.hid (HB.out.trans (b1.mono HB.out.size))
        clear b1
        go_ret
        exact ⟨_, rfl, by omega, by omega, by rw [N2.out, decide_eq_true_iff]; omega, HB1.out⟩
    · have R2 := Lib.hid (anyR_miss (p := fun i => p (f i)) (R := R) (fun j hj => HA.out j (by omega)))
      clear HA
      go_wp2
      go_ret
      exact ⟨_, rfl, by omega, by omega, by rw [R2.out]; rfl, HB.out⟩
set_option maxHeartbeats 1000000 in
theorem containsT (R : Nat) (f : Nat → List Int) (v : Value) (g : Nat) (lb : Array Value) (p : List Int → Bool) (w : World) (eg : ∀ args w, (callFunc g args).run Try.prog w = .ok (.enter g args) w)
    (hn : R ≤ 1048576) (h : TabV w w.heap.size v R f) (hp : PredT g lb p R f w) :
    Calls Try.prog 71 #[v, .func (.func g) #[] lb] w (Gives (.bool ((List.range R).any fun i => p (f i))) w) := by
  have C := Lib.hid (indexT R f v g lb p w eg hn h hp)
  obtain ⟨q, cq, rfl, _⟩ := h
  clear hp
  go_enter Try.func71, Try.ntmps71
  go_wp2_with fail
  refine C.out.mono ?_
  rintro e w1 ⟨k, rfl, h1, h2, h3, b1⟩
  have HB := Lib.hid b1
  have H3 := Lib.hid h3
  clear b1 h3
  go_wp2_with fail
  go_ret
  exact ⟨congrArg (fun b => Ending.returned (.bool b)) H3.out, HB.out⟩
set_option maxHeartbeats 2000000 in
theorem rowPred (n : Nat) (m : Int) (R : Nat) (f : Nat → List Int) (w W0 : World) (A B : Nat) (hf : ∀ i, i < R → (f i).length ≤ 1048576) (hn : n ≤ 1048576) (ha : W0.cell? ⟨A, 0, none⟩ = some (.int .i64 n)) (hA : A < W0.heap.size) (hb : W0.cell? ⟨B, 0, none⟩ = some (.int .i64 m)) (hB : B < W0.heap.size) :
    PredT 69 #[.pointer (some ⟨A, 0, none⟩), .pointer (some ⟨B, 0, none⟩)] (fun zs => !rowB zs n m) R f W0 := by
  intro W i z hi hbl hz
  have x0 : W.cell? ⟨A, 0, none⟩ = some (.int .i64 n) := by rw [hbl.cell (p := ⟨A, 0, none⟩) hA]; exact ha
  have x1 : W.cell? ⟨B, 0, none⟩ = some (.int .i64 m) := by rw [hbl.cell (p := ⟨B, 0, none⟩) hB]; exact hb
  have F := Lib.hid (areFromY (f i) z 0 m W (hf i hi) hz)
  have hl := hf i hi
  have D : Hid (rowB (f i) n m = (decide ((f i).length = n) && fromB 0 m (f i))) := Lib.hid rfl
  obtain ⟨q1, d1, rfl, _⟩ := hz
  clear ha hb hbl
  show Calls _ _ #[.slice q1 (f i).length d1, .pointer (some ⟨A, 0, none⟩), .pointer (some ⟨B, 0, none⟩)] _ _
  generalize fromB 0 m (f i) = bb at *
  by_cases he : (f i).length = n
  · have R1 := Lib.hid (show (!rowB (f i) n m) = !bb by rw [D.out, decide_eq_true he, Bool.true_and])
    have hnb : (((f i).length : Int) != (n : Int)) = false := by simp [he]
    have R2 := Lib.hid he
    clear D
    generalize (f i).length = L at *
    clear he
    go_enter Try.func69, Try.ntmps69
    go_wp2_with fail
    refine F.out.mono ?_
    rintro e w1 ⟨rfl, b1⟩
    have B1 := Lib.hid b1
    clear b1
    go_wp2_with fail
    go_ret
    exact ⟨by rw [R1.out]; rfl, B1.out⟩
  · have R1 := Lib.hid (show (!rowB (f i) n m) = true by rw [D.out, decide_eq_false he]; rfl)
    have hnb : (((f i).length : Int) != (n : Int)) = true := by rw [bne_iff_ne]; omega
    clear D
    go_enter Try.func69, Try.ntmps69
    go_wp2_with fail
    go_ret
    exact ⟨ret_bY R1.out, Below.refl _ _⟩
set_option maxHeartbeats 2000000 in
theorem squareY (R : Nat) (f : Nat → List Int) (v : Value) (n : Nat) (m : Int) (w : World) (hR : R ≤ 1048576) (hf : ∀ i, i < R → (f i).length ≤ 1048576) (hn : n ≤ 1048576) (h : TabV w w.heap.size v R f) :
    Calls Try.prog 42 #[v, .int .i64 n, .int .i64 m] w (Gives (.bool (sqB R f n m)) w) := by
  have UV := Lib.hid (fun w' (hb : Below w.heap.size w w') => (h.below hb).more hb.size)
  obtain ⟨q, cq, rfl, _⟩ := h
  have B1 := ((Below.refl w.heap.size w).alloc (Nat.le_refl _) (.cells #[.int .i64 n] 3))
  have s1 : (w.alloc (.cells #[.int .i64 n] 3)).heap.size = w.heap.size + 1 := by simp
  have B2 := B1.alloc B1.size (.cells #[.int .i64 m] 3)
  have K1 := alloc_heap w (.cells #[.int .i64 n] 3)
  have K2 := alloc_heap (w.alloc (.cells #[.int .i64 n] 3)) (.cells #[.int .i64 m] 3)
  have B12 := ((Below.refl (w.heap.size + 1) (w.alloc (.cells #[.int .i64 n] 3))).alloc (by rw [s1]; exact Nat.le_refl _) (.cells #[.int .i64 m] 3))
  have x0 : ((w.alloc (.cells #[.int .i64 n] 3)).alloc (.cells #[.int .i64 m] 3)).cell? ⟨w.heap.size, 0, none⟩ = some (.int .i64 n) := by
    rw [B12.cell (p := ⟨w.heap.size, 0, none⟩) (by show w.heap.size < w.heap.size + 1; omega)]; exact (cell_of_heap (o := 0) K1 rfl).1
  have x1 : ((w.alloc (.cells #[.int .i64 n] 3)).alloc (.cells #[.int .i64 m] 3)).cell? ⟨w.heap.size + 1, 0, none⟩ = some (.int .i64 m) := by
    rw [← s1]; exact (cell_of_heap (o := 0) K2 rfl).1
  clear K1 K2 B12 s1
  have hmf : ∀ (fn : Fn) (first cap : Array Value) (w : World), (Instr.makeFunc fn first cap).run Try.prog w = .ok (.func fn first cap) w := fun _ _ _ _ => rfl
  obtain ⟨wa, hwa⟩ : ∃ wa, wa = (w.alloc (.cells #[.int .i64 n] 3)).alloc (.cells #[.int .i64 m] 3) := ⟨_, rfl⟩
  have hs : w.heap.size + 1 < wa.heap.size := by rw [hwa]; simp
  rw [← hwa] at B2 x0 x1
  have C := Lib.hid (containsT R f _ 69 #[.pointer (some ⟨w.heap.size, 0, none⟩), .pointer (some ⟨w.heap.size + 1, 0, none⟩)] (fun zs => !rowB zs n m) wa (enters_of Try.func69 (by kernel_rfl) rfl) hR (UV.out wa B2) (rowPred n m R f w wa w.heap.size (w.heap.size + 1) hf hn x0 (by omega) x1 hs))
  have HB := Lib.hid B2
  have AO := Lib.hid (fun h => sq_any (R := R) (f := f) (n := n) (m := m) h)
  have NO := Lib.hid (fun (h : R ≠ n) => sqB_no (R := R) (f := f) (n := n) (m := m) (fun s => h s.rows))
  clear B1 B2 UV
  generalize ((List.range R).any fun i => !rowB (f i) n m) = bb at *
  by_cases hl : R = n
  · have R1 := Lib.hid (AO.out hl)
    have hlb : ((R : Int) == (n : Int)) = true := by rw [beq_iff_eq]; omega
    clear AO NO hl
    go_enter Try.func42, Try.ntmps42
    go_wp2_with fail
    rw [← hwa]
    clear hwa
    go_wp2_with fail
    refine C.out.mono ?_
    rintro e w1 ⟨rfl, b1⟩
    have HB1 := Lib.hid (HB.out.trans (b1.mono HB.out.size))
    clear b1
    go_wp2_with fail
    go_ret
    exact ⟨by rw [R1.out]; rfl, HB1.out⟩
  · have R1 := Lib.hid (NO.out hl)
    have hlb : ((R : Int) == (n : Int)) = false := by rw [beq_eq_false_iff_ne]; omega
    clear AO NO hl
    go_enter Try.func42, Try.ntmps42
    go_wp2_with fail
    rw [← hwa]
    clear hwa
    go_wp2_with fail
    go_ret
    exact ⟨ret_bY R1.out, HB.out⟩
end Go.Proofs.Ytligidmkhbcpmab
