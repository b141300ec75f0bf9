/- MoveApart in the model: what it answers. -/
import Derived.Test.YtligidmkhbcpmabSprM
import Derived.Test.YtligidmkhbcpmabMovP
import Derived.Maps.AppendAt
namespace Go.Proofs.Ytligidmkhbcpmab
open Go.RowKit
set_option linter.unusedVariables false
set_option maxHeartbeats 1000000 in
theorem ownZ (zs : List Int) (v : Value) (w : World) (hp : 0 < zs.length) (hn : zs.length ≤ 1048576) (h : IntsV w w.heap.size v zs) :
    Calls Try.prog 75 #[v] w (NewInts zs w) := by
  obtain ⟨p, cap, rfl, hc, hm, hz, hI⟩ := h
  obtain ⟨b, off, rfl, hb, _⟩ := hI.get hp
  have CE : ∀ j u, (zs.map (Value.int .i64))[j]? = some u → (w.alloc (.cells #[] 3)).cell? ((⟨b, off, none⟩ : Addr).add j) = some u := by
    intro j u hu
    rw [List.getElem?_map] at hu
    have hj : j < zs.length := by
      rcases Nat.lt_or_ge j zs.length with h' | h'
      · exact h'
      · rw [List.getElem?_eq_none h'] at hu; cases hu
    obtain ⟨b', off', e, hb', hc'⟩ := hI j hj
    obtain ⟨rfl, rfl⟩ : b = b' ∧ off = off' := by simpa using e
    rw [List.getElem?_eq_getElem hj] at hu
    rw [Addr.add_lit, World.cell?_alloc_lt _ _ _ (by exact hb'), hc']; exact hu
  have HZ := Lib.hid hz
  have HCE := Lib.hid CE
  clear hI hz CE
  obtain ⟨i0, hi, hz0, hz1, hz2⟩ := info_parts intInfo
  have B1 := Lib.hid ((Below.refl w.heap.size w).alloc (Nat.le_refl _) (.cells #[] 3))
  have O1 := Lib.hid (OwnV.empty w w.heap.size (Nat.le_refl _))
  go_enter Try.func75, Try.ntmps75
  go_wp2_with (at_builtin; refine wpList_append_own _ rfl _ _ 22 rfl w.heap.size 3 i0 (.int .i64 0) 1 8 Try.underlying22 hi hz0 hz1 hz2 rfl (by decide) _ 0 [] rfl O1.out.row ⟨b, off, none⟩ zs.length cap (zs.map (.int .i64)) rfl (by simp) HCE.out (fun u hu => by obtain ⟨z, _, rfl⟩ := List.mem_map.1 hu; rfl) (by unfold maxLen; omega) (by omega) (by simp) ?_; intro v' w3 hown3 hgrow3 hnil3)
  have FIN : Hid (NewInts zs w (.returned v') w3) := Lib.hid ⟨v', rfl, ⟨by simpa using hown3, fun q hq => (hown3.lt q hq).2, Nat.le_refl _, HZ.out⟩, B1.out.grown hgrow3 (by simp) (fun q hq => (O1.out.row.lt q hq).1)⟩
  clear hown3 hgrow3 hnil3
  go_ret
  exact FIN.out
end Go.Proofs.Ytligidmkhbcpmab
