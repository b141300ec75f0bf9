/- Fractions in the program: lowest terms. -/
import Derived.Test.YtligidmkhbcpmacPrm
import Derived.Test.YtligidmkhbcpmacFracI
import Derived.WalkKit
import Derived.ProofKit
import Derived.Outline
import Derived.Below
import Derived.Lib.Hide
import Derived.WalkSmall
import Derived.WalkSpells
import Derived.WalkLawsBesides
import Derived.RegionTactic
import Derived.ChangeAlike
namespace Go.Proofs.Ytligidmkhbcpmac
open Go.RowKit
set_option linter.unusedVariables false
/-- The pair and true if it is in the bounds, else zeros and false. -/
def keptV (n d : Int) : Value := if inB n d then .tuple #[.agg #[.int .i64 n, .int .i64 d], .bool true] else .tuple #[.agg #[.int .i64 0, .int .i64 0], .bool false]
theorem tdiv_cutN {a b : Int} (h : b ≠ 0) : a.tdiv (gI a b) = cutN a b := by
  unfold cutN; exact Int.tdiv_eq_ediv_of_dvd (gI_dvd_l a b)
theorem tdiv_cutD {a b : Int} (h : b ≠ 0) : b.tdiv (gI a b) = cutD a b := by
  unfold cutD; exact Int.tdiv_eq_ediv_of_dvd (gI_dvd_r a b)
theorem heap_two (w : World) (a b : Obj) : ((w.alloc a).alloc b).heap[w.heap.size]? = some a ∧ ((w.alloc a).alloc b).heap[w.heap.size + 1]? = some b := by
  show ((w.heap.push a).push b)[w.heap.size]? = _ ∧ ((w.heap.push a).push b)[w.heap.size + 1]? = _
  refine ⟨?_, ?_⟩
  · rw [Array.getElem?_push, if_neg (by simp), Array.getElem?_push, if_pos rfl]
  · rw [Array.getElem?_push, if_pos (by simp)]
set_option maxHeartbeats 1000000 in
theorem reduceI_pos (a b : Int) (w : World) (ha : -4000000000000000000 ≤ a ∧ a ≤ 4000000000000000000) (hb : 0 < b ∧ b ≤ 4000000000000000000) :
    Calls Try.prog 199 #[.int .i64 a, .int .i64 b] w (Gives (keptV (cutN a b) (cutD a b)) w) := by
  have G := Lib.hid (fun w => gcdI a b w ha (by omega))
  have hg := gI_pos (a := a) (b := b) (by omega)
  have hn := tdiv_cutN (a := a) (b := b) (by omega)
  have hd := tdiv_cutD (a := a) (b := b) (by omega)
  have nb := abs_cutN (a := a) (b := b) 4000000000000000000 ha (by omega)
  have db := cutD_le (a := a) hb.1
  have dp := cutD_pos (a := a) hb.1
  have hgl : gI a b ≤ b := Int.le_of_dvd hb.1 (gI_dvd_r a b)
  generalize cutN a b = N at *
  generalize cutD a b = D at *
  generalize gI a b = g at *
  obtain ⟨ha1, ha2⟩ := ha
  obtain ⟨hb1, hb2⟩ := hb
  obtain ⟨nb1, nb2⟩ := nb
  have B1 := (Below.refl w.heap.size w).alloc (Nat.le_refl _) (.cells #[.int .i64 0, .int .i64 0] 26)
  go_enter Try.func199, Try.ntmps199
  go_wp2_with fail
  refine (G.out _).mono ?_
  rintro e w1 ⟨rfl, rfl⟩
  go_wp2_with fail
  go_region
  go_wp2_with fail
  obtain ⟨hh0, hh1⟩ := heap_two w (.cells #[.int .i64 0, .int .i64 0] 26) (.cells #[.int .i64 N, .int .i64 D] 26)
  have B2 : Below w.heap.size w ((w.alloc (.cells #[.int .i64 0, .int .i64 0] 26)).alloc (.cells #[.int .i64 N, .int .i64 D] 26)).drew := below_drew (B1.alloc (by simp) _)
  refine (inBI N D _).mono ?_
  rintro e w1 ⟨rfl, b1⟩
  have k0 := (b1.block w.heap.size (by show _ < ((w.heap.push _).push _).size; simp; omega)).trans hh0
  have k1 := (b1.block (w.heap.size + 1) (by show _ < ((w.heap.push _).push _).size; simp)).trans hh1
  obtain ⟨x00, y00⟩ := cell_of_heap (o := 0) k0 rfl
  obtain ⟨x01, y01⟩ := cell_of_heap (o := 1) k0 rfl
  obtain ⟨x10, _⟩ := cell_of_heap (o := 0) k1 rfl
  obtain ⟨x11, _⟩ := cell_of_heap (o := 1) k1 rfl
  have B3 := Lib.hid (B2.trans (b1.mono B2.size))
  clear B1 B2 b1 k0 k1 hh0 hh1
  cases hin : inB N D
  · have K := Lib.hid (show keptV N D = .tuple #[.agg #[.int .i64 0, .int .i64 0], .bool false] from by unfold keptV; rw [hin]; rfl)
    clear hin
    go_wp2_with fail
    refine bodyPost_ret (v := .tuple #[.agg #[.int .i64 0, .int .i64 0], .bool false]) (by simp [results, Try.results199, go_sem, x00, x01]) rfl ⟨by rw [K.out], ?_⟩
    exact (B3.out.setCell (p := ⟨w.heap.size, 0, none⟩) (Nat.le_refl _) _).setCell (p := ⟨w.heap.size, 1, none⟩) (Nat.le_refl _) _
  · have K := Lib.hid (show keptV N D = .tuple #[.agg #[.int .i64 N, .int .i64 D], .bool true] from by unfold keptV; rw [hin]; rfl)
    clear hin
    go_wp2_with fail
    refine bodyPost_ret (v := .tuple #[.agg #[.int .i64 N, .int .i64 D], .bool true]) (by simp [results, Try.results199, go_sem, x00, x01]) rfl ⟨by rw [K.out], ?_⟩
    exact (B3.out.setCell (p := ⟨w.heap.size, 0, none⟩) (Nat.le_refl _) _).setCell (p := ⟨w.heap.size, 1, none⟩) (Nat.le_refl _) _
set_option maxHeartbeats 1000000 in
theorem reduceI_neg (a b : Int) (w : World) (ha : -4000000000000000000 ≤ a ∧ a ≤ 4000000000000000000) (hb : b < 0 ∧ -4000000000000000000 ≤ b) :
    Calls Try.prog 199 #[.int .i64 a, .int .i64 b] w (Gives (keptV (cutN (-a) (-b)) (cutD (-a) (-b))) w) := by
  have G := Lib.hid (fun w => gcdI a b w ha (by omega))
  have hg := gI_pos (a := a) (b := b) (by omega)
  have hgn : gI (-a) (-b) = gI a b := by unfold gI; rw [Int.neg_gcd, Int.gcd_neg]
  have hn : a.tdiv (-(gI a b)) = cutN (-a) (-b) := by
    rw [Int.tdiv_neg, tdiv_cutN (by omega)]; unfold cutN; rw [hgn, Int.neg_ediv_of_dvd (gI_dvd_l a b)]
  have hd : b.tdiv (-(gI a b)) = cutD (-a) (-b) := by
    rw [Int.tdiv_neg, tdiv_cutD (by omega)]; unfold cutD; rw [hgn, Int.neg_ediv_of_dvd (gI_dvd_r a b)]
  have nb := abs_cutN (a := -a) (b := -b) 4000000000000000000 (by omega) (by omega)
  have db := cutD_le (a := -a) (b := -b) (by omega)
  have dp := cutD_pos (a := -a) (b := -b) (by omega)
  have hgl : gI a b ≤ -b := Int.le_of_dvd (by omega) ((Int.dvd_neg).2 (gI_dvd_r a b))
  generalize cutN (-a) (-b) = N at *
  generalize cutD (-a) (-b) = D at *
  generalize gI a b = g at *
  obtain ⟨ha1, ha2⟩ := ha
  obtain ⟨hb1, hb2⟩ := hb
  obtain ⟨nb1, nb2⟩ := nb
  clear hgn
  have B1 := (Below.refl w.heap.size w).alloc (Nat.le_refl _) (.cells #[.int .i64 0, .int .i64 0] 26)
  go_enter Try.func199, Try.ntmps199
  go_wp2_with fail
  refine (G.out _).mono ?_
  rintro e w1 ⟨rfl, rfl⟩
  go_wp2_with fail
  go_region
  go_wp2_with fail
  obtain ⟨hh0, hh1⟩ := heap_two w (.cells #[.int .i64 0, .int .i64 0] 26) (.cells #[.int .i64 N, .int .i64 D] 26)
  have B2 : Below w.heap.size w ((w.alloc (.cells #[.int .i64 0, .int .i64 0] 26)).alloc (.cells #[.int .i64 N, .int .i64 D] 26)).drew := below_drew (B1.alloc (by simp) _)
  refine (inBI N D _).mono ?_
  rintro e w1 ⟨rfl, b1⟩
  have k0 := (b1.block w.heap.size (by show _ < ((w.heap.push _).push _).size; simp; omega)).trans hh0
  have k1 := (b1.block (w.heap.size + 1) (by show _ < ((w.heap.push _).push _).size; simp)).trans hh1
  obtain ⟨x00, y00⟩ := cell_of_heap (o := 0) k0 rfl
  obtain ⟨x01, y01⟩ := cell_of_heap (o := 1) k0 rfl
  obtain ⟨x10, _⟩ := cell_of_heap (o := 0) k1 rfl
  obtain ⟨x11, _⟩ := cell_of_heap (o := 1) k1 rfl
  have B3 := Lib.hid (B2.trans (b1.mono B2.size))
  clear B1 B2 b1 k0 k1 hh0 hh1
  cases hin : inB N D
  · have K := Lib.hid (show keptV N D = .tuple #[.agg #[.int .i64 0, .int .i64 0], .bool false] from by unfold keptV; rw [hin]; rfl)
    clear hin
    go_wp2_with fail
    refine bodyPost_ret (v := .tuple #[.agg #[.int .i64 0, .int .i64 0], .bool false]) (by simp [results, Try.results199, go_sem, x00, x01]) rfl ⟨by rw [K.out], ?_⟩
    exact (B3.out.setCell (p := ⟨w.heap.size, 0, none⟩) (Nat.le_refl _) _).setCell (p := ⟨w.heap.size, 1, none⟩) (Nat.le_refl _) _
  · have K := Lib.hid (show keptV N D = .tuple #[.agg #[.int .i64 N, .int .i64 D], .bool true] from by unfold keptV; rw [hin]; rfl)
    clear hin
    go_wp2_with fail
    refine bodyPost_ret (v := .tuple #[.agg #[.int .i64 N, .int .i64 D], .bool true]) (by simp [results, Try.results199, go_sem, x00, x01]) rfl ⟨by rw [K.out], ?_⟩
    exact (B3.out.setCell (p := ⟨w.heap.size, 0, none⟩) (Nat.le_refl _) _).setCell (p := ⟨w.heap.size, 1, none⟩) (Nat.le_refl _) _
end Go.Proofs.Ytligidmkhbcpmac
