/- What rows of steps are worth, in the program. -/
import Derived.Test.YtmidlabgmmejbabRwP
import Derived.Test.YtmidlabgmmejbabRuiI
import Derived.Test.YtmidlabgmmejbabProcI
import Derived.Deep.RegionHeld3
import Derived.Deep.DeepCutAuto
namespace Go.Proofs.Ytmidlabgmmejbab
open Go.RowKit
set_option linter.unusedVariables false
theorem IntsV.tail {w : World} {B b off cap : Nat} {L : List Int} (h : IntsV w B (.slice (some ⟨b, off, none⟩) L.length cap) L) (hl : 1 ≤ L.length) :
    IntsV w B (.slice (some ⟨b, off + 1, none⟩) (L.length - 1) (cap - 1)) (L.drop 1) := by
  obtain ⟨p, c, e, h1, h2, h3, h4⟩ := h
  injection e with e1 e2 e3
  subst e1 e3
  refine ⟨_, _, by rw [List.length_drop], by rw [List.length_drop]; omega, by rw [List.length_drop]; omega, fun z hz => h3 z (List.mem_of_mem_drop hz), fun i hi => ?_⟩
  rw [List.length_drop] at hi
  obtain ⟨b', off', e, hb, hc⟩ := h4 (1 + i) (by omega)
  obtain ⟨rfl, rfl⟩ : b = b' ∧ off = off' := by simpa using e
  refine ⟨b, off + 1, rfl, hb, ?_⟩
  rw [Nat.add_assoc, hc, List.getElem_drop]
theorem IntsV.head {w : World} {B cap k : Nat} {p : Option Addr} {L : List Int} (h : IntsV w B (.slice p L.length cap) L) (hk : k ≤ L.length) :
    IntsV w B (.slice p k cap) (L.take k) := by
  obtain ⟨p', c, e, h1, h2, h3, h4⟩ := h
  injection e with e1 e2 e3
  subst e1 e3
  have hl : (L.take k).length = k := by rw [List.length_take]; omega
  refine ⟨_, _, by rw [hl], by omega, by omega, fun z hz => h3 z (List.mem_of_mem_take hz), fun i hi => ?_⟩
  rw [hl] at hi
  obtain ⟨b', off', e, hb, hc⟩ := h4 i (by omega)
  refine ⟨b', off', e, hb, ?_⟩
  rw [hc, List.getElem_take]
def rowV (n u d : Int) : Value := if rowOk n u d = true then .tuple #[.agg #[.int .i64 n, .int .i64 u, .int .i64 d], .bool true] else .tuple #[.agg #[.int .i64 0, .int .i64 0, .int .i64 0], .bool false]
set_option maxRecDepth 100000 in
set_option maxHeartbeats 2000000 in
theorem rowC (a b n : Int) (w : World) : Calls Try.prog 110 #[.int .i64 a, .int .i64 b, .int .i64 n] w (Gives (rowV a b n) w) := by
  have F := Lib.hid (fun w => fromI a 0 4 w)
  have G := Lib.hid (fun w => fromI b 1 9 w)
  have K := Lib.hid (fun w => fromI n 1 9 w)
  have FIN : Hid (∀ o, Below w.heap.size w (w.alloc o)) := Lib.hid (fun o => (Below.refl w.heap.size w).alloc (Nat.le_refl _) o)
  have ZERO : Hid (rowOk a b n = false → rowV a b n = .tuple #[.agg #[.int .i64 0, .int .i64 0, .int .i64 0], .bool false]) := Lib.hid (fun h => if_neg (by rw [h]; decide))
  by_cases h1 : 0 ≤ a ∧ a ≤ 4
  · rw [decide_eq_true h1] at F
    by_cases h2 : 1 ≤ b ∧ b ≤ 9
    · rw [decide_eq_true h2] at G
      by_cases h3 : 1 ≤ n ∧ n ≤ 9
      · rw [decide_eq_true h3] at K
        rw [show rowV a b n = .tuple #[.agg #[.int .i64 a, .int .i64 b, .int .i64 n], .bool true] from if_pos (decide_eq_true ⟨h1, h2, h3⟩)]
        clear h1 h2 h3
        go_enter Try.func110, Try.ntmps110
        go_wp2_with fail
        refine (F.out _).mono ?_
        rintro e w1 ⟨rfl, rfl⟩
        go_wp2_with fail
        refine (G.out _).mono ?_
        rintro e w2 ⟨rfl, rfl⟩
        go_wp2_with fail
        refine (K.out _).mono ?_
        rintro e w3 ⟨rfl, rfl⟩
        go_wp2_with fail
        refine bodyPost_ret (v := .tuple #[.agg #[.int .i64 a, .int .i64 b, .int .i64 n], .bool true]) (by simp [results, Try.results110, go_sem, *]) rfl ⟨rfl, ?_⟩
        exact FIN.out _
      · rw [decide_eq_false h3] at K
        rw [ZERO.out (by unfold rowOk; exact decide_eq_false (fun h => h3 h.2.2))]
        clear h1 h2 h3
        go_enter Try.func110, Try.ntmps110
        go_wp2_with fail
        refine (F.out _).mono ?_
        rintro e w1 ⟨rfl, rfl⟩
        go_wp2_with fail
        refine (G.out _).mono ?_
        rintro e w2 ⟨rfl, rfl⟩
        go_wp2_with fail
        refine (K.out _).mono ?_
        rintro e w3 ⟨rfl, rfl⟩
        go_wp2_with fail
        refine bodyPost_ret (v := .tuple #[.agg #[.int .i64 0, .int .i64 0, .int .i64 0], .bool false]) (by simp [results, Try.results110, go_sem, *]) rfl ⟨rfl, ?_⟩
        exact FIN.out _
    · rw [decide_eq_false h2] at G
      rw [ZERO.out (by unfold rowOk; exact decide_eq_false (fun h => h2 h.2.1))]
      clear h1 h2
      go_enter Try.func110, Try.ntmps110
      go_wp2_with fail
      refine (F.out _).mono ?_
      rintro e w1 ⟨rfl, rfl⟩
      go_wp2_with fail
      refine (G.out _).mono ?_
      rintro e w2 ⟨rfl, rfl⟩
      go_wp2_with fail
      refine bodyPost_ret (v := .tuple #[.agg #[.int .i64 0, .int .i64 0, .int .i64 0], .bool false]) (by simp [results, Try.results110, go_sem, *]) rfl ⟨rfl, ?_⟩
      exact FIN.out _
  · rw [decide_eq_false h1] at F
    rw [ZERO.out (by unfold rowOk; exact decide_eq_false (fun h => h1 h.1))]
    clear h1
    go_enter Try.func110, Try.ntmps110
    go_wp2_with fail
    refine (F.out _).mono ?_
    rintro e w1 ⟨rfl, rfl⟩
    go_wp2_with fail
    refine bodyPost_ret (v := .tuple #[.agg #[.int .i64 0, .int .i64 0, .int .i64 0], .bool false]) (by simp [results, Try.results110, go_sem, *]) rfl ⟨rfl, ?_⟩
    exact FIN.out _
/-- The value of a row's receiver. -/
def rwR (n u d : Nat) : Value := .agg #[.int .i64 (n : Int), .int .i64 (u : Int), .int .i64 (d : Int)]
/-- A row's box. -/
def RwB (w : World) (g : Nat) (n u d : Nat) : Prop := w.heap[g]? = some (.cells #[.int .i64 (n : Int), .int .i64 (u : Int), .int .i64 (d : Int)] 126 (0, 0))
theorem RwB.cells {w : World} {g n u d : Nat} (h : RwB w g n u d) : w.cell? ⟨g, 0, none⟩ = some (.int .i64 (n : Int)) ∧ w.cell? ⟨g, 1, none⟩ = some (.int .i64 (u : Int)) ∧ w.cell? ⟨g, 2, none⟩ = some (.int .i64 (d : Int)) :=
  ⟨(cell_of_heap (o := 0) h rfl).1, (cell_of_heap (o := 1) h rfl).1, (cell_of_heap (o := 2) h rfl).1⟩
theorem RwB.lt {w : World} {g n u d : Nat} (h : RwB w g n u d) : g < w.heap.size := (Array.getElem?_eq_some_iff.1 h).1
theorem RwB.next {w w1 : World} {g n u d : Nat} (h : RwB w g n u d) (hb : Below w.heap.size w w1) : RwB w1 g n u d := (hb.block g h.lt).trans h
set_option maxHeartbeats 2000000 in
theorem bhC (n u d : Nat) (x y : Int) (w : World) (hx : (x * d).natAbs ≤ 943839216) (hy : (y * u).natAbs ≤ 943839216) : Calls Try.prog 114 #[rwR n u d, .int .i64 x, .int .i64 y] w (Gives (.int .i64 (x * d + y * u)) w) := by
  have B1 := Lib.hid ((Below.refl w.heap.size w).alloc (Nat.le_refl _) (.cells #[.int .i64 (n : Int), .int .i64 (u : Int), .int .i64 (d : Int)] 126))
  have W1 : IntKind.i64.wrap (x * (d : Int)) = x * (d : Int) := IntWalk.i64_in _ (by omega)
  have W2 : IntKind.i64.wrap (y * (u : Int)) = y * (u : Int) := IntWalk.i64_in _ (by omega)
  have W3 : IntKind.i64.wrap (x * (d : Int) + y * (u : Int)) = x * (d : Int) + y * (u : Int) := IntWalk.i64_in _ (by omega)
  have b1 : -943839216 ≤ x * (d : Int) ∧ x * (d : Int) ≤ 943839216 := by omega
  have b2 : -943839216 ≤ y * (u : Int) ∧ y * (u : Int) ≤ 943839216 := by omega
  clear hx hy
  unfold rwR
  go_enter Try.func114, Try.ntmps114
  go_wp2
  go_ret
  exact ⟨rfl, B1.out⟩
set_option maxHeartbeats 2000000 in
theorem btC (n u d k : Nat) (w : World) (hu : 1 ≤ u ∧ u ≤ 9) (hd : 1 ≤ d ∧ d ≤ 9) (hk : k ≤ 4) : Calls Try.prog 113 #[rwR n u d, .int .i64 (k : Int)] w (Gives (.int .i64 ((u + d) ^ k : Nat)) w) := by
  have P := Lib.hid (fun w => powC (u + d) k w (by omega) (fun j hj => by have := pow18 (b := u + d) (k := j) (by omega) (by omega); omega) (by omega))
  rw [Int.natCast_add] at P
  generalize (u + d) ^ k = r at *
  have B1 := Lib.hid ((Below.refl w.heap.size w).alloc (Nat.le_refl _) (.cells #[.int .i64 (n : Int), .int .i64 (u : Int), .int .i64 (d : Int)] 126))
  obtain ⟨hu1, hu2⟩ := hu
  obtain ⟨hd1, hd2⟩ := hd
  unfold rwR
  go_enter Try.func113, Try.ntmps113
  go_wp2_with fail
  refine (P.out _).mono ?_
  rintro e w1 ⟨rfl, rfl⟩
  go_wp2_with fail
  go_ret
  exact ⟨rfl, B1.out⟩
end Go.Proofs.Ytmidlabgmmejbab
