/- Rows of ints that a call appends to, beside boxes; results that are such rows. -/
import Derived.Test.YtligidmkhbcpmacPrm
import Derived.Test.YtligidmkhbcpmacIsTree
import Derived.Maps.AppendAt
namespace Go.Proofs.Ytligidmkhbcpmac
open Go.RowKit
set_option linter.unusedVariables false
theorem TBox.grown {w w3 : World} {B : Nat} {v1 v2 : Value} {r : Option Nat} {lo : Nat} (h : TBox w B v1 v2) (hg : w.grownBy w3 r) (hr : ∀ q, r = some q → lo ≤ q) (hB : B < lo) : TBox w3 B v1 v2 := by
  refine (hg.block B ?_ ?_).trans h
  · unfold TBox at h; exact (Array.getElem?_eq_some_iff.1 h).1
  · intro e; have := hr B e.symm; omega
theorem TBox.alloc {w : World} {B : Nat} {v1 v2 : Value} (h : TBox w B v1 v2) (o : Obj) : TBox (w.alloc o) B v1 v2 := by
  have hlt : B < w.heap.size := by unfold TBox at h; exact (Array.getElem?_eq_some_iff.1 h).1
  show (w.heap.push o)[B]? = _
  rw [Array.getElem?_push, if_neg (by omega)]; exact h
theorem TBox.lt {w : World} {B : Nat} {v1 v2 : Value} (h : TBox w B v1 v2) : B < w.heap.size := by unfold TBox at h; exact (Array.getElem?_eq_some_iff.1 h).1
/-- The children of a node among the nodes below k. -/
def kidsF (ps : List Int) (x : Int) (k : Nat) : List Int := nodesW (fun y => decide (x < (y : Int)) && ps.getD y 0 == x) k
theorem kidsF_low (ps : List Int) (x : Int) (k : Nat) (h : (k : Int) ≤ x + 1) : kidsF ps x k = [] := by
  unfold kidsF nodesW
  rw [List.map_eq_nil_iff, List.filter_eq_nil_iff]
  intro y hy
  rw [List.mem_range] at hy
  simp; omega
set_option maxRecDepth 100000 in
set_option maxHeartbeats 2000000 in
theorem kidsS (ps ws : List Int) (v : Value) (x : Nat) (w : World) (hn : ps.length ≤ 1048576) (hx : x ≤ 1048576) (h : TreeV w w.heap.size v ps ws) :
    Calls Try.prog 203 #[v, .int .i64 x] w (NewInts (kidsF ps x ps.length) w) := by
  obtain ⟨v1, v2, rfl, ⟨p1, c1, rfl, l1, m1, _, i1⟩, _⟩ := h
  have P1 := Lib.hid i1
  clear i1
  obtain ⟨i0, hi, hz0, hz1, hz2⟩ := info_parts intInfo
  have B1 := (Below.refl w.heap.size w).alloc (Nat.le_refl _) (.cells #[.slice p1 ps.length c1, v2] 29)
  have T1 : TBox (w.alloc (.cells #[.slice p1 ps.length c1, v2] 29)) w.heap.size (.slice p1 ps.length c1) v2 := alloc_heap w _
  have O1 := OwnV.empty (w.alloc (.cells #[.slice p1 ps.length c1, v2] 29)) (w.heap.size + 1) (by simp)
  have T2 := Lib.hid (T1.alloc (.cells #[] 3))
  have B2 := Lib.hid (B1.alloc (by simp) (.cells #[] 3))
  have O2 := Lib.hid O1
  rw [show (w.alloc (.cells #[.slice p1 ps.length c1, v2] 29)).heap.size = w.heap.size + 1 by simp] at O2
  have KL := Lib.hid (kidsF_low ps x (x + 1) (by omega))
  clear T1 O1 B1
  go_enter Try.func203, Try.ntmps203
  go_wp2
  go_loopw [5, 6] (fun o i wr => ∃ k : Nat, x + 1 ≤ k ∧ (k ≤ ps.length ∨ k = x + 1) ∧ i = .int .i64 k ∧ Hid (OwnV wr (w.heap.size + 1) wr.heap.size o (kidsF ps x k)) ∧ Hid (TBox wr w.heap.size (.slice p1 ps.length c1) v2) ∧ Hid (Below w.heap.size w wr)) (fun _ i _ => ps.length - (intOf i).toNat)
  case atStart => exact ⟨x + 1, by omega, .inr rfl, by go_num, Lib.hid (by rw [KL.out]; exact O2.out), T2, B2⟩
  case round =>
    obtain ⟨k, hk1, hk, rfl, HO, HT, HB⟩ := hrel
    obtain ⟨x0, x1⟩ := HT.out.cells
    clear T2 B2 O2 KL
    by_cases hlt : k < ps.length
    · obtain ⟨b, off, rfl, hb, hc⟩ := P1.out.get hlt
      have hcw : wr.cell? ⟨b, off + k, none⟩ = some (.int .i64 (ps.getD k 0)) := by rw [HB.out.cell (p := ⟨b, off + k, none⟩) hb]; exact hc
      obtain ⟨z, hz⟩ : ∃ z, z = ps.getD k 0 := ⟨_, rfl⟩
      rw [← hz] at hcw
      have Y : Hid (z = x → kidsF ps x (k + 1) = kidsF ps x k ++ [(k : Int)]) := Lib.hid (fun e => nodesW_yes (by rw [← hz, e]; simp; omega))
      have N : Hid (z ≠ x → kidsF ps x (k + 1) = kidsF ps x k) := Lib.hid (fun e => nodesW_no (by rw [← hz]; simp; exact fun _ => e))
      have i0' : (0 : Int) ≤ (k : Int) := by omega
      have i1 : (k : Int) < (ps.length : Int) := by omega
      have LL := nodesW_len (fun y => decide ((x : Int) < (y : Int)) && ps.getD y 0 == x) k
      change (kidsF ps x k).length ≤ k at LL
      clear hc hz
      by_cases hzx : z = x
      · have E := Lib.hid (Y.out hzx)
        have hzb : (z == (x : Int)) = true := by simpa using hzx
        clear Y N hzx
        obtain ⟨L, hL⟩ : ∃ L, L = kidsF ps x k := ⟨_, rfl⟩
        rw [← hL] at HO E LL
        clear hL
        have hown := HO.out.row
        have hsz := HT.out.lt
        go_wp2_with (at_builtin; refine wpList_append_own _ rfl _ _ 22 rfl (w.heap.size + 1) 3 i0 (.int .i64 0) 1 8 Try.underlying22 hi hz0 hz1 hz2 rfl (by decide) _ L.length (L.map (.int .i64)) rfl (hown.alloc _) ⟨wr.heap.size, 0, none⟩ 1 1 [.int .i64 k] rfl rfl (cell_one_new _ _ _) (fun x hx => by simp at hx; subst hx; rfl) (by unfold maxLen; omega) (by omega) (by simp; omega) ?_; intro v' w3 hown3 hgrow3 hnil3)
        have bel3 := Lib.hid ((HB.out.alloc HB.out.size _).grown hgrow3 (by simp; omega) (fun q hq => by have := (hown.lt q hq).1; omega))
        have own3 := Lib.hid (HO.out.app (inI64_nat (k := k) (by omega)) hown3)
        have box3 := Lib.hid ((HT.out.alloc _).grown hgrow3 (fun q hq => (hown.lt q hq).1) (by omega))
        clear hown hown3 hgrow3 hnil3
        go_roundw
        case rel => exact ⟨k + 1, by omega, .inl (by omega), by go_num, Lib.hid (by rw [E.out]; exact own3.out), box3, bel3⟩
        case measure => simp [intOf]; omega
      · have E := Lib.hid (N.out hzx)
        have hzb : (z == (x : Int)) = false := by simpa using hzx
        clear Y N hzx
        go_wp2
        go_roundw
        case rel => exact ⟨k + 1, by omega, .inl (by omega), by go_num, Lib.hid (by rw [E.out]; exact HO.out), HT, HB⟩
        case measure => simp [intOf]; omega
    · have E : Hid (kidsF ps x k = kidsF ps x ps.length) := Lib.hid (by
        rcases hk with h | h
        · rw [show k = ps.length by omega]
        · rw [kidsF_low ps x k (by omega), kidsF_low ps x ps.length (by omega)])
      have FIN : Hid (∀ o, OwnV wr (w.heap.size + 1) wr.heap.size o (kidsF ps x k) → NewInts (kidsF ps x ps.length) w (.returned o) wr) := Lib.hid (fun o h => ⟨o, rfl, by rw [← E.out]; exact h.low (by omega), HB.out⟩)
      clear E
      go_wp2
      go_ret
      exact FIN.out _ HO.out
end Go.Proofs.Ytligidmkhbcpmac
