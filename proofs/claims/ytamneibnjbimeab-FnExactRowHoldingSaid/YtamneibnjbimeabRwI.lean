/- What rows of steps are worth, in the program. -/
import Derived.Test.YtamneibnjbimeabRwP
import Derived.Test.YtamneibnjbimeabRuiI
import Derived.Test.YtamneibnjbimeabProcI
import Derived.Deep.RegionHeld3
import Derived.Deep.DeepCutAuto
namespace Go.Proofs.Ytamneibnjbimeab
open Go.RowKit
set_option linter.unusedVariables false
theorem IntsV.tail {w : World} {B b off cap : Nat} {L : List Int} (h : IntsV w B (.slice (some ⟨b, off, none⟩) L.length cap) L) (hl : 1 ≤ L.length) :
    IntsV w B (.slice (some ⟨b, off + 1, none⟩) (L.length - 1) (cap - 1)) (L.drop 1) := by
  obtain ⟨p, c, e, h1, h2, h3, h4⟩ := h
  injection e with e1 e2 e3
  subst e1 e3
  refine ⟨_, _, by rw [List.length_drop], by rw [List.length_drop]; omega, by rw [List.length_drop]; omega, fun z hz => h3 z (List.mem_of_mem_drop hz), fun i hi => ?_⟩
  rw [List.length_drop] at hi
  obtain ⟨b', off', e, hb, hc⟩ := h4 (1 + i) (by omega)
  obtain ⟨rfl, rfl⟩ : b = b' ∧ off = off' := by simpa using e
  refine ⟨b, off + 1, rfl, hb, ?_⟩
  rw [Nat.add_assoc, hc, List.getElem_drop]
theorem IntsV.head {w : World} {B cap k : Nat} {p : Option Addr} {L : List Int} (h : IntsV w B (.slice p L.length cap) L) (hk : k ≤ L.length) :
    IntsV w B (.slice p k cap) (L.take k) := by
  obtain ⟨p', c, e, h1, h2, h3, h4⟩ := h
  injection e with e1 e2 e3
  subst e1 e3
  have hl : (L.take k).length = k := by rw [List.length_take]; omega
  refine ⟨_, _, by rw [hl], by omega, by omega, fun z hz => h3 z (List.mem_of_mem_take hz), fun i hi => ?_⟩
  rw [hl] at hi
  obtain ⟨b', off', e, hb, hc⟩ := h4 i (by omega)
  refine ⟨b', off', e, hb, ?_⟩
  rw [hc, List.getElem_take]
def rowV (n u d : Int) : Value := if rowOk n u d = true then .tuple #[.agg #[.int .i64 n, .int .i64 u, .int .i64 d], .bool true] else .tuple #[.agg #[.int .i64 0, .int .i64 0, .int .i64 0], .bool false]
set_option maxRecDepth 100000 in
set_option maxHeartbeats 2000000 in
theorem rowC (a b n : Int) (w : World) : Calls Try.prog 76 #[.int .i64 a, .int .i64 b, .int .i64 n] w (Gives (rowV a b n) w) := by
  have F := Lib.hid (fun w => fromI a 0 4 w)
  have G := Lib.hid (fun w => fromI b 1 9 w)
  have K := Lib.hid (fun w => fromI n 1 9 w)
  have FIN : Hid (∀ o, Below w.heap.size w (w.alloc o)) := Lib.hid (fun o => (Below.refl w.heap.size w).alloc (Nat.le_refl _) o)
  have ZERO : Hid (rowOk a b n = false → rowV a b n = .tuple #[.agg #[.int .i64 0, .int .i64 0, .int .i64 0], .bool false]) := Lib.hid (fun h => if_neg (by rw [h]; decide))
  by_cases h1 : 0 ≤ a ∧ a ≤ 4
  · rw [decide_eq_true h1] at F
    by_cases h2 : 1 ≤ b ∧ b ≤ 9
    · rw [decide_eq_true h2] at G
      by_cases h3 : 1 ≤ n ∧ n ≤ 9
      · rw [decide_eq_true h3] at K
        rw [show rowV a b n = .tuple #[.agg #[.int .i64 a, .int .i64 b, .int .i64 n], .bool true] from if_pos (decide_eq_true ⟨h1, h2, h3⟩)]
        clear h1 h2 h3
        go_enter Try.func76, Try.ntmps76
        go_wp2_with fail
        refine (F.out _).mono ?_
        rintro e w1 ⟨rfl, rfl⟩
        go_wp2_with fail
        refine (G.out _).mono ?_
        rintro e w2 ⟨rfl, rfl⟩
        go_wp2_with fail
        refine (K.out _).mono ?_
        rintro e w3 ⟨rfl, rfl⟩
        go_wp2_with fail
        refine bodyPost_ret (v := .tuple #[.agg #[.int .i64 a, .int .i64 b, .int .i64 n], .bool true]) (by simp [results, Try.results76, go_sem, *]) rfl ⟨rfl, ?_⟩
        exact FIN.out _
      · rw [decide_eq_false h3] at K
        rw [ZERO.out (by unfold rowOk; exact decide_eq_false (fun h => h3 h.2.2))]
        clear h1 h2 h3
        go_enter Try.func76, Try.ntmps76
        go_wp2_with fail
        refine (F.out _).mono ?_
        rintro e w1 ⟨rfl, rfl⟩
        go_wp2_with fail
        refine (G.out _).mono ?_
        rintro e w2 ⟨rfl, rfl⟩
        go_wp2_with fail
        refine (K.out _).mono ?_
        rintro e w3 ⟨rfl, rfl⟩
        go_wp2_with fail
        refine bodyPost_ret (v := .tuple #[.agg #[.int .i64 0, .int .i64 0, .int .i64 0], .bool false]) (by simp [results, Try.results76, go_sem, *]) rfl ⟨rfl, ?_⟩
        exact FIN.out _
    · rw [decide_eq_false h2] at G
      rw [ZERO.out (by unfold rowOk; exact decide_eq_false (fun h => h2 h.2.1))]
      clear h1 h2
      go_enter Try.func76, Try.ntmps76
      go_wp2_with fail
      refine (F.out _).mono ?_
      rintro e w1 ⟨rfl, rfl⟩
      go_wp2_with fail
      refine (G.out _).mono ?_
      rintro e w2 ⟨rfl, rfl⟩
      go_wp2_with fail
      refine bodyPost_ret (v := .tuple #[.agg #[.int .i64 0, .int .i64 0, .int .i64 0], .bool false]) (by simp [results, Try.results76, go_sem, *]) rfl ⟨rfl, ?_⟩
      exact FIN.out _
  · rw [decide_eq_false h1] at F
    rw [ZERO.out (by unfold rowOk; exact decide_eq_false (fun h => h1 h.1))]
    clear h1
    go_enter Try.func76, Try.ntmps76
    go_wp2_with fail
    refine (F.out _).mono ?_
    rintro e w1 ⟨rfl, rfl⟩
    go_wp2_with fail
    refine bodyPost_ret (v := .tuple #[.agg #[.int .i64 0, .int .i64 0, .int .i64 0], .bool false]) (by simp [results, Try.results76, go_sem, *]) rfl ⟨rfl, ?_⟩
    exact FIN.out _
/-- The value of a row's receiver. -/
def rwR (n u d : Nat) : Value := .agg #[.int .i64 (n : Int), .int .i64 (u : Int), .int .i64 (d : Int)]
/-- A row's box. -/
def RwB (w : World) (g : Nat) (n u d : Nat) : Prop := w.heap[g]? = some (.cells #[.int .i64 (n : Int), .int .i64 (u : Int), .int .i64 (d : Int)] 82 (0, 0))
theorem RwB.cells {w : World} {g n u d : Nat} (h : RwB w g n u d) : w.cell? ⟨g, 0, none⟩ = some (.int .i64 (n : Int)) ∧ w.cell? ⟨g, 1, none⟩ = some (.int .i64 (u : Int)) ∧ w.cell? ⟨g, 2, none⟩ = some (.int .i64 (d : Int)) :=
  ⟨(cell_of_heap (o := 0) h rfl).1, (cell_of_heap (o := 1) h rfl).1, (cell_of_heap (o := 2) h rfl).1⟩
theorem RwB.lt {w : World} {g n u d : Nat} (h : RwB w g n u d) : g < w.heap.size := (Array.getElem?_eq_some_iff.1 h).1
theorem RwB.next {w w1 : World} {g n u d : Nat} (h : RwB w g n u d) (hb : Below w.heap.size w w1) : RwB w1 g n u d := (hb.block g h.lt).trans h
set_option maxHeartbeats 2000000 in
theorem bhC (n u d : Nat) (x y : Int) (w : World) (hx : (x * d).natAbs ≤ 943839216) (hy : (y * u).natAbs ≤ 943839216) : Calls Try.prog 79 #[rwR n u d, .int .i64 x, .int .i64 y] w (Gives (.int .i64 (x * d + y * u)) w) := by
  have B1 := Lib.hid ((Below.refl w.heap.size w).alloc (Nat.le_refl _) (.cells #[.int .i64 (n : Int), .int .i64 (u : Int), .int .i64 (d : Int)] 82))
  have W1 : IntKind.i64.wrap (x * (d : Int)) = x * (d : Int) := IntWalk.i64_in _ (by omega)
  have W2 : IntKind.i64.wrap (y * (u : Int)) = y * (u : Int) := IntWalk.i64_in _ (by omega)
  have W3 : IntKind.i64.wrap (x * (d : Int) + y * (u : Int)) = x * (d : Int) + y * (u : Int) := IntWalk.i64_in _ (by omega)
  have b1 : -943839216 ≤ x * (d : Int) ∧ x * (d : Int) ≤ 943839216 := by omega
  have b2 : -943839216 ≤ y * (u : Int) ∧ y * (u : Int) ≤ 943839216 := by omega
  clear hx hy
  unfold rwR
  go_enter Try.func79, Try.ntmps79
  go_wp2
  go_ret
  exact ⟨rfl, B1.out⟩
set_option maxHeartbeats 2000000 in
theorem btC (n u d k : Nat) (w : World) (hu : 1 ≤ u ∧ u ≤ 9) (hd : 1 ≤ d ∧ d ≤ 9) (hk : k ≤ 4) : Calls Try.prog 74 #[rwR n u d, .int .i64 (k : Int)] w (Gives (.int .i64 ((u + d) ^ k : Nat)) w) := by
  have P := Lib.hid (fun w => powC (u + d) k w (by omega) (fun j hj => by have := pow18 (b := u + d) (k := j) (by omega) (by omega); omega) (by omega))
  rw [Int.natCast_add] at P
  generalize (u + d) ^ k = r at *
  have B1 := Lib.hid ((Below.refl w.heap.size w).alloc (Nat.le_refl _) (.cells #[.int .i64 (n : Int), .int .i64 (u : Int), .int .i64 (d : Int)] 82))
  obtain ⟨hu1, hu2⟩ := hu
  obtain ⟨hd1, hd2⟩ := hd
  unfold rwR
  go_enter Try.func74, Try.ntmps74
  go_wp2_with fail
  refine (P.out _).mono ?_
  rintro e w1 ⟨rfl, rfl⟩
  go_wp2_with fail
  go_ret
  exact ⟨rfl, B1.out⟩
set_option maxRecDepth 100000 in
set_option maxHeartbeats 4000000 in
theorem vtC (n u d : Nat) (hu : 1 ≤ u ∧ u ≤ 9) (hd : 1 ≤ d ∧ d ≤ 9) : ∀ (k : Nat) (L : List Int) (v : Value) (w : World), k ≤ 4 → L.length = k + 1 → withinB 999 L = true → IntsV w w.heap.size v L →
    Calls Try.prog 73 #[rwR n u d, v] w (Gives (.int .i64 (rvT u d k L)) w) := by
  intro k
  induction k with
  | zero =>
    intro L v w hk hl hw h
    obtain ⟨p, c, rfl, h1, h2, h3, h4⟩ := h
    obtain ⟨b, off, rfl, hb, hc⟩ := IntsAt.get h4 (i := 0) (by omega)
    have B1 := Lib.hid ((Below.refl w.heap.size w).alloc (Nat.le_refl _) (.cells #[.int .i64 (n : Int), .int .i64 (u : Int), .int .i64 (d : Int)] 82))
    have e1 : rvT u d 0 L = L.getD 0 0 := rfl
    rw [e1]
    rw [Nat.add_zero] at hc
    rw [hl]
    generalize L.getD 0 0 = z at *
    have bb : b ≠ w.heap.size := by omega
    clear h1 h2 h3 h4 hw e1 hl
    unfold rwR
    go_enter Try.func73, Try.ntmps73
    go_wp2
    go_ret
    exact ⟨rfl, B1.out⟩
  | succ k ih =>
    intro L v w hk hl hw h
    obtain ⟨p, c, rfl, h1, h2, h3, h4⟩ := h
    have hI : IntsV w w.heap.size (.slice p L.length c) L := ⟨p, c, rfl, h1, h2, h3, h4⟩
    obtain ⟨b, off, rfl, hb, hc⟩ := IntsAt.get h4 (i := 0) (by omega)
    have hT := hI.tail (by omega)
    have hH := hI.head (k := k + 1) (by omega)
    have C1 := Lib.hid (fun w' (hb : Below w.heap.size w w') => ih (L.drop 1) _ w' (by omega) (by rw [List.length_drop]; omega) (within_drop hw) ((hT.below hb).more hb.size))
    have C2 := Lib.hid (fun w' (hb : Below w.heap.size w w') => ih (L.take (k + 1)) _ w' (by omega) (by rw [List.length_take]; omega) (within_take _ hw) ((hH.below hb).more hb.size))
    obtain ⟨m1, m2⟩ := rv_parts (u := (u : Int)) (d := (d : Int)) (by omega) (by omega) hl (by omega) hw
    have C3 := Lib.hid (fun w => bhC n u d (rvT u d k (L.drop 1)) (rvT u d k (L.take (k + 1))) w m1 m2)
    have E := rv_succ u d k L
    rw [E]
    have z1 : L.length = k + 2 := hl
    rw [z1] at C1 h1 ⊢
    rw [show k + 2 - 1 = k + 1 from rfl] at C1
    generalize rvT u d k (L.drop 1) = x at *
    generalize rvT u d k (L.take (k + 1)) = y at *
    clear h2 h3 h4 hI hT hH hc hw E z1 hl m1 m2 ih hb
    have B1 := Lib.hid ((Below.refl w.heap.size w).alloc (Nat.le_refl _) (.cells #[.int .i64 (n : Int), .int .i64 (u : Int), .int .i64 (d : Int)] 82))
    have T1 := Lib.hid (show RwB (w.alloc (.cells #[.int .i64 (n : Int), .int .i64 (u : Int), .int .i64 (d : Int)] 82)) w.heap.size n u d from alloc_heap w _)
    obtain ⟨wa, hwa⟩ : ∃ wa, wa = w.alloc (.cells #[.int .i64 (n : Int), .int .i64 (u : Int), .int .i64 (d : Int)] 82) := ⟨_, rfl⟩
    rw [← hwa] at B1 T1
    have KA : Hid (∀ w', Hid (Below wa.heap.size wa w') → w'.cell? ⟨w.heap.size, 0, none⟩ = some (.int .i64 (n : Int)) ∧ w'.cell? ⟨w.heap.size, 1, none⟩ = some (.int .i64 (u : Int)) ∧ w'.cell? ⟨w.heap.size, 2, none⟩ = some (.int .i64 (d : Int))) := Lib.hid (fun w' hb => (T1.out.next hb.out).cells)
    have HD := Lib.hid (below_drew (Below.refl wa.heap.size wa))
    have D1 : Hid (∀ w', Hid (Below wa.heap.size wa w') → Below w.heap.size w w') := Lib.hid (fun w' hb => B1.out.trans (hb.out.mono B1.out.size))
    unfold rwR at C1 C2 C3 ⊢
    have k1 : (1 : Int) ≤ (k : Int) + 2 := by omega
    have k2 : ((k : Int) + 2) - 1 = (k : Int) + 1 := by omega
    have k3 : (k : Int) + 1 ≤ (c : Int) := by omega
    have k4 : (k : Int) + 2 ≤ (c : Int) := by omega
    have k5 : (0 : Int) ≤ (k : Int) + 1 := by omega
    have k6 : ¬ c = 1 := by omega
    have t1 : ((k : Int) + 1 == 0) = false := by simp; omega
    go_enter Try.func73, Try.ntmps73
    go_upto_region 4 with fail
    rw [← hwa]
    clear hwa
    go_region_held3 (fun w' => w'.cell? ⟨w.heap.size, 0, none⟩ = some (.int .i64 (n : Int)) ∧ w'.cell? ⟨w.heap.size, 1, none⟩ = some (.int .i64 (u : Int)) ∧ w'.cell? ⟨w.heap.size, 2, none⟩ = some (.int .i64 (d : Int)))
      (first | exact KA.out _ HE9 | exact KA.out _ HE8 | exact KA.out _ HE7 | exact KA.out _ HD)
      (first
        | (go_at_call 79; (with_reducible refine (C3.out _).mono ?_); rintro e w9 ⟨rfl, b9⟩; (have HE9 : Hid (Below wa.heap.size wa w9) := Lib.hid (HE8.out.trans (b9.mono HE8.out.size))))
        | (go_at_call 73; (with_reducible refine (C1.out _ (D1.out _ HD)).mono ?_); rintro e w7 ⟨rfl, b7⟩; (have HE7 : Hid (Below wa.heap.size wa w7) := Lib.hid (HD.out.trans (b7.mono HD.out.size))))
        | (go_at_call 73; (with_reducible refine (C2.out _ (D1.out _ HE7)).mono ?_); rintro e w8 ⟨rfl, b8⟩; (have HE8 : Hid (Below wa.heap.size wa w8) := Lib.hid (HE7.out.trans (b8.mono HE7.out.size)))))
    all_goals
      have FIN := Lib.hid (D1.out _ HE9)
      go_wp2_with fail
      go_ret
      exact ⟨rfl, FIN.out⟩
end Go.Proofs.Ytamneibnjbimeab
