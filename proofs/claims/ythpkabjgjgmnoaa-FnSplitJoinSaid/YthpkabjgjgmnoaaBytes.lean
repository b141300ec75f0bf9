/- The bytes that a law is handed: they stay where nothing is turned; the laws' size test. -/
import Derived.Test.YthpkabjgjgmnoaaCur
import Derived.WalkKit
import Derived.ProofKit
import Derived.Outline
import Derived.Lib.Hide
import Derived.OpenShut
import Derived.WalkSpells
import Derived.StillTailTactics
import Derived.Laws.IdiomStrings
import Derived.Laws.BitsAllLaws
namespace Go.Proofs.Ythpkabjgjgmnoaa
open Go.RowKit
set_option linter.unusedVariables false
theorem BytesAt.below {w w' : World} {B n : Nat} {p : Option Addr} (h : BytesAt w B p n) (hb : Below B w w') : BytesAt w' B p n := by
  intro i hi
  obtain ⟨b, off, z, e, hB, z0, z1, hc⟩ := h i hi
  exact ⟨b, off, z, e, hB, z0, z1, by rw [hb.cell (p := ⟨b, off + i, none⟩) hB]; exact hc⟩
theorem BytesAt.opened {W : World} {a : Addr} {len cap : Nat} {zs : List Int} (hl : len ≤ cap) (hz : zs.length = cap) (hc : ∀ i, i < zs.length → W.cell? (a.add i) = some (.int .u8 (zs.getD i 0))) (hw : ∀ z ∈ zs, (Lit.int .u8 z).wf = true) :
    BytesAt W W.heap.size (some a) len := by
  intro i hi
  have h := hc i (by omega)
  have h0 := hc 0 (by omega)
  obtain ⟨b, off, spot⟩ := a
  have hspot : spot = none := by simpa [Addr.add] using World.cell?_spot h0
  subst hspot
  have e : (⟨b, off, none⟩ : Addr).add i = ⟨b, off + i, none⟩ := by
    unfold Addr.add
    by_cases h0 : i = 0
    · subst h0; simp
    · simp [h0]
  rw [e] at h
  have hm : zs.getD i 0 ∈ zs := by
    rw [List.getD_eq_getElem?_getD, List.getElem?_eq_getElem (show i < zs.length by omega)]
    exact List.getElem_mem _
  have hb := bounds_u8 (hw _ hm)
  exact ⟨b, off, _, rfl, cell_room h, hb.1, hb.2, h⟩
theorem vBig_no (n c : Nat) (p : Option Addr) (w : World) (hn : n ≤ 65536) :
    Calls Try.prog 8 #[.slice p n c] w fun e w' => e = .returned (.bool false) ∧ w = w' := by
  have h : decide ((65536 : Int) < (n : Int)) = false := decide_eq_false (by omega)
  go_enter Try.func8, Try.ntmps8
  go_wp2_with fail
  go_ret
  exact ⟨rfl, rfl⟩
theorem vBig_yes (n c : Nat) (p : Option Addr) (w : World) (hn : 65536 < n) (hn2 : n ≤ maxLen) :
    Calls Try.prog 8 #[.slice p n c] w fun e w' => e = .returned (.bool true) ∧ w = w' := by
  have h : decide ((65536 : Int) < (n : Int)) = true := decide_eq_true (by omega)
  go_enter Try.func8, Try.ntmps8
  go_wp2_with fail
  go_ret
  exact ⟨rfl, rfl⟩
end Go.Proofs.Ythpkabjgjgmnoaa
