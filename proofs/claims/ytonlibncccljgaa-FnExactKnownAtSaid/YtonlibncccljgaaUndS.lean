/- Whether a node lies on the way to another one, in the model. -/
import Derived.Test.YtonlibncccljgaaKnP
import Derived.Test.YtonlibncccljgaaLawT
import Derived.Test.YtonlibncccljgaaGoodS
import Derived.Deep.LoopGhost
namespace Go.Proofs.Ytonlibncccljgaa
open Go.RowKit
set_option linter.unusedVariables false
def undB (ps : List Int) (c x : Nat) : Bool := decide ((undT ps c).getD x 0 = 1)
theorem undB_low {ps : List Int} (hp : ParOk ps) (c : Nat) {x : Nat} (hx : x < ps.length) (h : x ≤ c) : undB ps c x = ((x : Int) == (c : Int)) := by
  unfold undB
  rw [und_low hp c hx h, Bool.eq_iff_iff, decide_eq_true_iff, beq_iff_eq]
  by_cases e : x = c
  · rw [if_pos e]; omega
  · rw [if_neg e]; omega
theorem undB_high {ps : List Int} (hp : ParOk ps) (c : Nat) {x : Nat} (hx : x < ps.length) (h : c < x) : undB ps c x = undB ps c (ps.getD x 0).toNat := by
  unfold undB
  rw [und_high hp c hx h]
set_option maxHeartbeats 2000000 in
theorem underS (ps ws : List Int) (v : Value) (c x : Nat) (w : World) (gd : Good ps ws) (hx : x < ps.length) (h : TreeV w w.heap.size v ps ws) :
    Calls Try.prog 89 #[v, .int .i64 c, .int .i64 x] w (Gives (.bool (undB ps c x)) w) := by
  have hn24 := gd.n24
  have hp := ParOk.of gd
  have GP := Lib.hid gd.par
  have LO := Lib.hid (fun (y : Nat) (hy : y < ps.length) (h : y ≤ c) => undB_low hp c hy h)
  have HI := Lib.hid (fun (y : Nat) (hy : y < ps.length) (h : c < y) => undB_high hp c hy h)
  obtain ⟨v1, v2, rfl, ⟨p1, c1, rfl, l1, m1, _, i1⟩, ⟨p2, c2, rfl, l2, m2, _, i2⟩⟩ := h
  have P1 := Lib.hid i1
  clear i1 i2 m1 m2 l1 l2 gd hp
  have B1 := (Below.refl w.heap.size w).alloc (Nat.le_refl _) (.cells #[.slice p1 ps.length c1, .slice p2 ws.length c2] 29)
  obtain ⟨wa, hwa⟩ : ∃ wa, wa = w.alloc (.cells #[.slice p1 ps.length c1, .slice p2 ws.length c2] 29) := ⟨_, rfl⟩
  have T1 : Hid (TBox wa w.heap.size (.slice p1 ps.length c1) (.slice p2 ws.length c2)) := Lib.hid (by rw [hwa]; exact alloc_heap w _)
  rw [← hwa] at B1
  have HBA := Lib.hid B1
  clear B1
  obtain ⟨x0, x1⟩ := T1.out.cells
  obtain ⟨R, hR⟩ : ∃ R, R = undB ps c x := ⟨_, rfl⟩
  have HR := Lib.hid hR.symm
  rw [← hR]
  clear hR
  go_enter Try.func89, Try.ntmps89
  go_wp2_with fail
  rw [← hwa]
  clear hwa
  go_loopg [2] (ps.length + 1) (fun gg i wr => ∃ y : Nat, y < ps.length ∧ y + 1 ≤ gg ∧ i = .int .i64 y ∧ Hid (undB ps c y = R) ∧ wr = wa)
  case atStart => exact ⟨x, hx, by omega, rfl, HR, rfl⟩
  case round =>
    obtain ⟨y, hy, hgy, rfl, HY, rfl⟩ := hrel
    by_cases hgt : c < y
    · have HI2 := HI.out y hy hgt
      obtain ⟨q1, q2⟩ := GP.out y (by omega) hy
      obtain ⟨j, hj⟩ : ∃ j : Nat, ps.getD y 0 = (j : Int) := ⟨(ps.getD y 0).toNat, by omega⟩
      have hjy : j < y := by omega
      have HJ : Hid (undB ps c j = R) := Lib.hid (by rw [← HY.out, HI2, hj, Int.toNat_natCast])
      obtain ⟨b, off, rfl, hb, hc⟩ := P1.out.get hy
      have hcw : wr.cell? ⟨b, off + y, none⟩ = some (.int .i64 j) := by rw [HBA.out.cell (p := ⟨b, off + y, none⟩) hb, hc, hj]
      have y0 : (0 : Int) ≤ (y : Int) := by omega
      have y1 : (y : Int) < (ps.length : Int) := by omega
      have hd : decide ((c : Int) < (y : Int)) = true := decide_eq_true (by omega)
      clear hc hj q1 q2 HI2 HY
      go_wp2_with fail
      go_roundg (j + 1)
      case rel => exact ⟨j, by omega, by omega, rfl, HJ, by first | trivial | rfl⟩
      case measure => omega
    · have LO2 := LO.out y hy (by omega)
      have R2 : Hid (R = ((y : Int) == (c : Int))) := Lib.hid (by rw [← HY.out, LO2])
      have hd : decide ((c : Int) < (y : Int)) = false := decide_eq_false (by omega)
      clear LO2 HY
      go_wp2_with fail
      go_ret
      exact ⟨ret_b R2.out, HBA.out⟩
end Go.Proofs.Ytonlibncccljgaa
