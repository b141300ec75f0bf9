/- Tables of a call's own: marked, and what the marks tell. -/
import Derived.Test.YtligidmkhbcpmabTabG
import Derived.Test.YtligidmkhbcpmabLawI
namespace Go.Proofs.Ytligidmkhbcpmab
open Go.RowKit Go.WideShapes Go.ChangeShapes Go.Joins Go.Deep
set_option linter.unusedVariables false
/-- A table that lies somewhere below a bound. -/
structure OldG (w : World) (lo hi : Nat) (v : Value) (R : Nat) (f : Nat → List Int) : Prop where
  tabV : TabV w hi v R f
  room : hi ≤ w.heap.size
theorem OldG.below {w w' : World} {lo hi R : Nat} {v : Value} {f : Nat → List Int} (h : OldG w lo hi v R f) (hb : Below hi w w') : OldG w' lo hi v R f := ⟨h.tabV.below hb, Nat.le_trans h.room hb.size⟩
theorem OldG.alt {w w' : World} {lo hi lo' hi' R : Nat} {v : Value} {f : Nat → List Int} (h : OldG w lo hi v R f) (ha : Alt lo' hi' w w') (hd : hi ≤ lo') : OldG w' lo hi v R f :=
  h.below ⟨ha.os, ha.tape, ha.output, ha.size, fun b hb => ha.block b (by have := h.room; omega) (by omega)⟩
/-- A table somewhere in new memory, and whether the call succeeded. -/
def NewOldB (R : Nat) (f : Nat → List Int) (ok : Bool) (w : World) (e : Ending) (w' : World) : Prop :=
  ∃ v, e = .returned (.tuple #[v, .bool ok]) ∧ OldG w' w.heap.size w'.heap.size v R f ∧ Below w.heap.size w w'
/-- A table of a call's own in new memory, and whether the call succeeded. -/
def NewTabB (R : Nat) (f : Nat → List Int) (ok : Bool) (w : World) (e : Ending) (w' : World) : Prop :=
  ∃ v, e = .returned (.tuple #[v, .bool ok]) ∧ OwnG w' w.heap.size w'.heap.size v R f ∧ Below w.heap.size w w'
/-- The marks of a table's rows. -/
def mkG (k : Nat) (f : Nat → List Int) (i : Nat) : List Int := marksI (k + lenG f i) (f i).length
set_option maxRecDepth 100000 in
set_option maxHeartbeats 2000000 in
theorem markST (R : Nat) (f : Nat → List Int) (v : Value) (lo hi k : Nat) (w : World) (hR : R ≤ 1048576) (hf : ∀ i, i < R → (f i).length ≤ 1048576) (hL : lenG f R ≤ 1048576) (hk : k ≤ 1000000) (h : OwnG w lo hi v R f) :
    Calls Try.prog 32 #[v, .int .i64 k] w fun e w' => e = .returned (.int .i64 ((k + lenG f R : Nat) : Int)) ∧ OwnG w' lo hi v R (mkG k f) ∧ Alt lo hi w w' := by
  obtain ⟨go, cap, u, h, rfl, hc, hm, h1, h2, h3, h4, h5⟩ := h
  have mo := mono_to (R := R) (fun i hi' => (h5 i hi').2.1)
  have CELL : Hid (∀ i, i < R → w.cell? ⟨go, i, none⟩ = some (u i)) := Lib.hid (fun i hi' => (h5 i hi').1)
  have ROW : Hid (∀ i, i < R → OwnV w (h i) (h (i + 1)) (u i) (f i)) := Lib.hid (fun i hi' => (h5 i hi').2.2)
  have MO : Hid (∀ i, i < R → lo ≤ h i ∧ go < h i ∧ h (i + 1) ≤ hi ∧ h i ≤ h (i + 1)) := Lib.hid (fun i hi' => by
    have a := mo i 0 (by omega) (by omega)
    have b := mo R (i + 1) (by omega) (Nat.le_refl _)
    have c := (h5 i hi').2.1
    omega)
  have MJ : Hid (∀ i j, i < j → j < R → h (i + 1) ≤ h j) := Lib.hid (fun i j hij hj => mo j (i + 1) (by omega) (by omega))
  have LE := Lib.hid hf
  have LB : Hid (∀ i, i ≤ R → lenG f i ≤ 1048576) := Lib.hid (fun i hi' => Nat.le_trans (lenG_mono f R i hi') hL)
  have GO := Lib.hid h4
  have FIN : Hid (∀ wr : World, (∀ i, i < R → wr.cell? ⟨go, i, none⟩ = some (u i)) → (∀ i, i < R → OwnV wr (h i) (h (i + 1)) (u i) (mkG k f i)) → Alt lo hi w wr → OwnG wr lo hi (.slice (some ⟨go, 0, none⟩) R cap) R (mkG k f)) :=
    Lib.hid (fun wr a b c => ⟨go, cap, u, h, rfl, hc, hm, h1, h2, h3, Nat.le_trans h4 c.size, fun i hi' => ⟨a i hi', (h5 i hi').2.1, b i hi'⟩⟩)
  clear h5 h2 h3 hm hc hf mo hL
  go_enter Try.func32, Try.ntmps32
  go_wp2
  go_loopg [1, 5] R (fun gg q i wr => ∃ j : Nat, j ≤ R ∧ R - j ≤ gg ∧ i = .int .i64 j ∧ q = .int .i64 ((k + lenG f j : Nat) : Int) ∧ Hid (∀ i, i < R → wr.cell? ⟨go, i, none⟩ = some (u i)) ∧ Hid (∀ i, j ≤ i → i < R → OwnV wr (h i) (h (i + 1)) (u i) (f i)) ∧ Hid (∀ i, i < j → OwnV wr (h i) (h (i + 1)) (u i) (mkG k f i)) ∧ Hid (Alt lo hi w wr))
  case atStart => exact ⟨0, Nat.zero_le _, by omega, rfl, by simp only [lenG, Nat.add_zero], CELL, Lib.hid (fun i _ hi' => ROW.out i hi'), Lib.hid (fun i hi' => by omega), Lib.hid ⟨rfl, rfl, rfl, Nat.le_refl _, fun _ _ _ => rfl⟩⟩
  case round =>
    clear CELL ROW
    obtain ⟨j, hj, hgg, rfl, rfl, HC, HO, HM, HA⟩ := hrel
    have lb := LB.out j hj
    by_cases hlt : j < R
    · have hcl := HC.out j hlt
      have oj := HO.out j (Nat.le_refl _) hlt
      have CM := Lib.hid (markI (f j) _ (h j) (h (j + 1)) (k + lenG f j) wr (LE.out j hlt) (by omega) oj)
      obtain ⟨g1, g2, g3, g4⟩ := MO.out j hlt
      have i0 : (0 : Int) ≤ (j : Int) := by omega
      have i1 : (j : Int) < (R : Int) := by omega
      have EK := Lib.hid (show k + lenG f j + (f j).length = k + lenG f (j + 1) by simp only [lenG]; omega)
      have EM := Lib.hid (show mkG k f j = marksI (k + lenG f j) (f j).length from rfl)
      obtain ⟨kk, hkk⟩ : ∃ kk, kk = k + lenG f j := ⟨_, rfl⟩
      rw [← hkk] at CM EK EM ⊢
      obtain ⟨uj, huj⟩ : ∃ uj, uj = u j := ⟨_, rfl⟩
      have UJ := Lib.hid huj
      rw [← huj] at hcl CM oj
      clear huj
      obtain ⟨q1, d1, e1, _⟩ := oj.intsV
      rw [e1] at hcl CM UJ
      clear oj hkk lb
      go_wp2_with fail
      refine CM.out.mono ?_
      rintro e w1 ⟨rfl, o1, a1⟩
      have HC1 : Hid (∀ i, i < R → w1.cell? ⟨go, i, none⟩ = some (u i)) := Lib.hid (fun i hi' => by
        rw [World.cell?_of_block (a1.block go (by have := GO.out; have := HA.out.size; omega) (by omega))]; exact HC.out i hi')
      have HO1 : Hid (∀ i, j + 1 ≤ i → i < R → OwnV w1 (h i) (h (i + 1)) (u i) (f i)) := Lib.hid (fun i x1 x2 => by
        have d := MJ.out j i (by omega) x2
        exact (HO.out i (by omega) x2).alt a1 (by omega))
      have HM1 : Hid (∀ i, i < j + 1 → OwnV w1 (h i) (h (i + 1)) (u i) (mkG k f i)) := Lib.hid (fun i x1 => by
        rcases Nat.lt_or_ge i j with c | c
        · have d := MJ.out i j c hlt
          exact (HM.out i c).alt a1 (by omega)
        · obtain rfl : i = j := by omega
          rw [← UJ.out, EM.out]; exact o1)
      have HA1 := Lib.hid (HA.out.trans (a1.wide (lo' := lo) (hi' := hi) (by omega) (by omega)))
      clear o1 a1 HC HO HM HA e1 UJ EM
      go_wp2_with fail
      go_roundg (R - (j + 1))
      case rel => exact ⟨j + 1, by omega, by omega, by go_num, by rw [← EK.out]; rfl, HC1, HO1, HM1, HA1⟩
      case measure => omega
    · have hj2 : j = R := by omega
      have EQ := Lib.hid hj2
      have RES := Lib.hid (FIN.out wr HC.out (fun i hi' => HM.out i (by omega)) HA.out)
      clear hj2
      go_wp2_with fail
      go_ret
      exact ⟨by rw [EQ.out]; rfl, RES.out, HA.out⟩
set_option maxRecDepth 100000 in
set_option maxHeartbeats 2000000 in
theorem heldST (R : Nat) (f : Nat → List Int) (v : Value) (B k : Nat) (w : World) (hR : R ≤ 1048576) (hf : ∀ i, i < R → (f i).length ≤ 1048576) (hL : lenG f R ≤ 1048576) (hk : k ≤ 1000000) (h : TabV w B v R (mkG k f)) :
    Calls Try.prog 33 #[v, .int .i64 k] w fun e w' => e = .returned (.int .i64 ((k + lenG f R : Nat) : Int)) ∧ Below w.heap.size w w' := by
  obtain ⟨p, cap, rfl, hc, hm, hS⟩ := h
  have hn : R ≤ 9223372036854775807 := by unfold maxLen at hm; omega
  have S := Lib.hid hS
  have LE := Lib.hid hf
  have LB : Hid (∀ i, i ≤ R → lenG f i ≤ 1048576) := Lib.hid (fun i hi' => Nat.le_trans (lenG_mono f R i hi') hL)
  clear hS hm hc hf hL
  go_enter Try.func33, Try.ntmps33
  go_wp2
  go_loopg [1, 5] R (fun gg q i wr => ∃ j : Nat, j ≤ R ∧ R - j ≤ gg ∧ i = .int .i64 j ∧ q = .int .i64 ((k + lenG f j : Nat) : Int) ∧ ∃ n, wr = w.drewN n)
  case atStart => exact ⟨0, Nat.zero_le _, by omega, rfl, by simp only [lenG, Nat.add_zero], 0, rfl⟩
  case round =>
    obtain ⟨j, hj, hgg, rfl, rfl, n, rfl⟩ := hrel
    have lb := LB.out j hj
    by_cases hlt : j < R
    · obtain ⟨b, off, u1, rfl, hbb, hcl0, hu⟩ := S.out j hlt
      have hcl : (w.drewN n).cell? ⟨b, off + j, none⟩ = some u1 := hcl0
      have lb2 := LB.out (j + 1) hlt
      have CM := Lib.hid (heldI (k + lenG f j) (f j).length u1 B (w.drewN n) (LE.out j hlt) (by omega) (hu.drewN n))
      have i0 : (0 : Int) ≤ (j : Int) := by omega
      have i1 : (j : Int) < (R : Int) := by omega
      have EK := Lib.hid (show k + lenG f j + (f j).length = k + lenG f (j + 1) by simp only [lenG]; omega)
      have n0 : ¬ ((k + lenG f j + (f j).length : Nat) : Int) < 0 := by omega
      have n1 : k + lenG f j + (f j).length ≤ 9000000 := by rw [EK.out]; omega
      obtain ⟨kk, hkk⟩ : ∃ kk, kk = k + lenG f j := ⟨_, rfl⟩
      rw [← hkk] at CM EK n0 n1 ⊢
      obtain ⟨m, hmm⟩ : ∃ m, m = kk + (f j).length := ⟨_, rfl⟩
      rw [← hmm] at CM EK n0 n1
      obtain ⟨q1, d1, rfl, _⟩ := hu
      clear hkk lb lb2 hmm hcl0
      go_wp2_with fail
      refine CM.out.mono ?_
      rintro e w1 ⟨rfl, n2, rfl⟩
      go_wp2_with fail
      go_roundg (R - (j + 1))
      case rel => exact ⟨j + 1, by omega, by omega, by go_num, by rw [← EK.out], by first | exact ⟨_, rfl⟩ | exact ⟨_, World.drewN_drewN _ _ _⟩⟩
      case measure => omega
    · have hj2 : j = R := by omega
      have EQ := Lib.hid hj2
      clear hj2
      go_wp2_with fail
      go_ret
      exact ⟨by rw [EQ.out]; rfl, below_drewN (Below.refl _ _) n⟩
end Go.Proofs.Ytligidmkhbcpmab
