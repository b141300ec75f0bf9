/- The sum of 1 divided by the first numbers, and what is told by it, in the program and in the model. -/
import Derived.Test.YtagoodkaobcjaaaCrdP
import Derived.Test.YtagoodkaobcjaaaRes
import Derived.Test.YtagoodkaobcjaaaInS
import Derived.Test.YtagoodkaobcjaaaWlkI
import Derived.Test.YtagoodkaobcjaaaFracA
import Derived.Test.YtagoodkaobcjaaaFracU
import Derived.Test.YtagoodkaobcjaaaFracT
import Derived.Test.YtagoodkaobcjaaaFracK
import Derived.Deep.LoopGhost
import Derived.Deep.DeepCutAuto
namespace Go.Proofs.Ytagoodkaobcjaaa
open Go.RowKit
set_option linter.unusedVariables false
theorem fr_bd12 {n d : Int} (h : isFr n d = true) : (-1000000000 ≤ n ∧ n ≤ 1000000000) ∧ (1 ≤ d ∧ d ≤ 1000000) := by
  have := ((isFr_iff n d).1 h).1
  omega
theorem ha_addI {k : Nat} (hk : k < 12) (w : World) : Calls Try.prog 62 #[.agg #[.int .i64 (haP k).1, .int .i64 (haP k).2], .agg #[.int .i64 1, .int .i64 ((k : Int) + 1)]] w (Gives (.tuple #[.agg #[.int .i64 (haP (k + 1)).1, .int .i64 (haP (k + 1)).2], .bool true]) w) := by
  have A := addI (haP k).1 (haP k).2 1 ((k : Int) + 1) w
  have e : addV (haP k).1 (haP k).2 1 ((k : Int) + 1) = keptV (haP (k + 1)).1 (haP (k + 1)).2 := if_pos ⟨ha_fr k (by omega), ha_one k (by omega)⟩
  rw [e] at A
  unfold keptV at A
  rw [if_pos (fr_in (ha_fr (k + 1) (by omega)))] at A
  exact A
theorem ha_addS {k : Nat} (hk : k < 12) (w : World) : Calls Try.prog 61 #[.agg #[.int .i64 (haP k).1, .int .i64 (haP k).2], .agg #[.int .i64 1, .int .i64 ((k : Int) + 1)]] w (Gives (.agg #[.int .i64 (haP (k + 1)).1, .int .i64 (haP (k + 1)).2]) w) := by
  have a := fr_bd12 (ha_fr k (by omega))
  exact addS (haP k).1 (haP k).2 1 ((k : Int) + 1) w a.1 a.2 (by omega) (by omega)
set_option maxRecDepth 100000 in
set_option maxHeartbeats 4000000 in
theorem invC (N : Nat) (w : World) (hN : N ≤ 12) : Calls Try.prog 48 #[.int .i64 N] w (Gives (.agg #[.int .i64 (haP N).1, .int .i64 (haP N).2]) w) := by
  have B0 := Lib.hid (bl_self w (.cells #[.int .i64 0, .int .i64 0] 32))
  have RC := Lib.hid (fun w3 b => rs_cells (w := w) (w3 := w3) b)
  have RF := Lib.hid (fun w3 x y b => rs_fin (w := w) (w3 := w3) (x := x) (y := y) b)
  have AD := Lib.hid (fun k (hk : k < 12) w => ha_addI hk w)
  have H0 := Lib.hid (show haP 0 = (0, 1) from rfl)
  obtain ⟨H, hH⟩ : ∃ H : Nat → Int × Int, H = haP := ⟨_, rfl⟩
  rw [← hH] at AD H0 ⊢
  clear hH
  obtain ⟨wa, hwa⟩ : ∃ wa, wa = w.alloc (.cells #[.int .i64 0, .int .i64 0] 32) := ⟨_, rfl⟩
  rw [← hwa] at B0 RC RF
  have GT := Lib.hid (show wa.heap.size = w.heap.size + 1 by rw [hwa]; simp)
  have QN := QBox.new wa 0 1
  rw [GT.out] at QN
  have QN := Lib.hid QN
  have BN := Lib.hid ((Below.refl wa.heap.size wa).alloc (Nat.le_refl _) (.cells #[.int .i64 0, .int .i64 1] 32))
  go_enter Try.func48, Try.ntmps48
  go_wp2_with fail
  rw [← hwa]
  clear hwa
  go_wp2_with fail
  go_loopg [7] N (fun gg i wr => ∃ k : Nat, k ≤ N ∧ N - k ≤ gg ∧ i = .int .i64 (k : Int) ∧ Hid (QBox wr (w.heap.size + 1) (H k).1 (H k).2) ∧ Hid (Below wa.heap.size wa wr))
  case atStart => exact ⟨0, by omega, by omega, rfl, by rw [H0.out]; exact QN, BN⟩
  case round =>
    clear QN BN
    obtain ⟨k, hk, hgg, rfl, HQ, HB⟩ := hrel
    obtain ⟨⟨x0, x1⟩, y0, y1⟩ := HQ.out.cells
    by_cases hlt : k < N
    · have i1 : (k : Int) < (N : Int) := by omega
      have A1 := Lib.hid (fun w => AD.out k (by omega) w)
      have HQ0 := Lib.hid HQ.out
      obtain ⟨a, ha⟩ : ∃ a, a = H k := ⟨_, rfl⟩
      obtain ⟨b, hb2⟩ : ∃ b, b = H (k + 1) := ⟨_, rfl⟩
      have HB2 := Lib.hid hb2
      rw [← ha] at A1 x0 x1 HQ0
      rw [← hb2] at A1
      have hk12 : k ≤ 12 := by omega
      clear ha hb2 HQ
      go_wp2_with fail
      refine (A1.out _).mono ?_
      rintro e w2 ⟨rfl, b2⟩
      have s2 := b2.size
      have hlt2 := HQ0.out.lt
      have HQ1 := Lib.hid (HQ0.out.below b2 hlt2)
      obtain ⟨⟨z0, z1⟩, t0, t1⟩ := HQ1.out.cells
      have HB1 := Lib.hid (bl_then HB.out b2)
      clear b2 x0 x1 y0 y1 HB HQ0
      go_wp2_with fail
      go_roundg (N - (k + 1))
      case rel => exact ⟨k + 1, by omega, by omega, by go_num, by rw [← HB2.out]; exact Lib.hid (HQ1.out.st _ _), Lib.hid (bl_st HB1.out (Nat.le_of_eq GT.out) _ _)⟩
      case measure => omega
    · have hkN : k = N := by omega
      have i1 : ¬ (k : Int) < (N : Int) := by omega
      obtain ⟨⟨c0, f0⟩, c1, f1⟩ := RC.out _ HB.out
      have a1 := Lib.hid (show (H k).1 = (H N).1 by rw [hkN])
      have a2 := Lib.hid (show (H k).2 = (H N).2 by rw [hkN])
      rw [a1.out] at x0
      rw [a2.out] at x1
      obtain ⟨p, hp⟩ : ∃ p, p = (H N).1 := ⟨_, rfl⟩
      obtain ⟨q, hq⟩ : ∃ q, q = (H N).2 := ⟨_, rfl⟩
      rw [← hp] at x0
      rw [← hq] at x1
      have HP := Lib.hid hp
      have HQQ := Lib.hid hq
      clear hkN y0 y1 hp hq
      go_wp2_with fail
      refine bodyPost_ret (v := .agg #[.int .i64 p, .int .i64 q]) (by simp [results, Try.results48, go_sem, c0, c1]) rfl ⟨by rw [HP.out, HQQ.out], ?_⟩
      exact RF.out _ _ _ HB.out
set_option maxRecDepth 100000 in
set_option maxHeartbeats 4000000 in
theorem harS (N : Nat) (w : World) (hN : N ≤ 12) : Calls Try.prog 47 #[.int .i64 N] w (Gives (.agg #[.int .i64 (haP N).1, .int .i64 (haP N).2]) w) := by
  have B0 := Lib.hid (bl_self w (.cells #[.int .i64 0, .int .i64 0] 32))
  have RC := Lib.hid (fun w3 b => rs_cells (w := w) (w3 := w3) b)
  have RF := Lib.hid (fun w3 x y b => rs_fin (w := w) (w3 := w3) (x := x) (y := y) b)
  have AD := Lib.hid (fun k (hk : k < 12) w => ha_addS hk w)
  have H0 := Lib.hid (show haP 0 = (0, 1) from rfl)
  obtain ⟨H, hH⟩ : ∃ H : Nat → Int × Int, H = haP := ⟨_, rfl⟩
  rw [← hH] at AD H0 ⊢
  clear hH
  obtain ⟨wa, hwa⟩ : ∃ wa, wa = w.alloc (.cells #[.int .i64 0, .int .i64 0] 32) := ⟨_, rfl⟩
  rw [← hwa] at B0 RC RF
  have GT := Lib.hid (show wa.heap.size = w.heap.size + 1 by rw [hwa]; simp)
  have QN := QBox.new wa 0 1
  rw [GT.out] at QN
  have QN := Lib.hid QN
  have BN := Lib.hid ((Below.refl wa.heap.size wa).alloc (Nat.le_refl _) (.cells #[.int .i64 0, .int .i64 1] 32))
  go_enter Try.func47, Try.ntmps47
  go_wp2_with fail
  rw [← hwa]
  clear hwa
  go_wp2_with fail
  go_loopg [4] N (fun gg i wr => ∃ k : Nat, k ≤ N ∧ N - k ≤ gg ∧ i = .int .i64 ((k : Int) + 1) ∧ Hid (QBox wr (w.heap.size + 1) (H k).1 (H k).2) ∧ Hid (Below wa.heap.size wa wr))
  case atStart => exact ⟨0, by omega, by omega, rfl, by rw [H0.out]; exact QN, BN⟩
  case round =>
    clear QN BN
    obtain ⟨k, hk, hgg, rfl, HQ, HB⟩ := hrel
    obtain ⟨⟨x0, x1⟩, y0, y1⟩ := HQ.out.cells
    by_cases hlt : k < N
    · have i1 : (k : Int) + 1 ≤ (N : Int) := by omega
      have A1 := Lib.hid (fun w => AD.out k (by omega) w)
      have HQ0 := Lib.hid HQ.out
      obtain ⟨a, ha⟩ : ∃ a, a = H k := ⟨_, rfl⟩
      obtain ⟨b, hb2⟩ : ∃ b, b = H (k + 1) := ⟨_, rfl⟩
      have HB2 := Lib.hid hb2
      rw [← ha] at A1 x0 x1 HQ0
      rw [← hb2] at A1
      have hk12 : k ≤ 12 := by omega
      clear ha hb2 HQ
      go_wp2_with fail
      refine (A1.out _).mono ?_
      rintro e w2 ⟨rfl, b2⟩
      have s2 := b2.size
      have hlt2 := HQ0.out.lt
      have HQ1 := Lib.hid (HQ0.out.below b2 hlt2)
      obtain ⟨⟨z0, z1⟩, t0, t1⟩ := HQ1.out.cells
      have HB1 := Lib.hid (bl_then HB.out b2)
      clear b2 x0 x1 y0 y1 HB HQ0
      go_wp2_with fail
      go_roundg (N - (k + 1))
      case rel => exact ⟨k + 1, by omega, by omega, by go_num, by rw [← HB2.out]; exact Lib.hid (HQ1.out.st _ _), Lib.hid (bl_st HB1.out (Nat.le_of_eq GT.out) _ _)⟩
      case measure => omega
    · have hkN : k = N := by omega
      have i1 : ¬ (k : Int) + 1 ≤ (N : Int) := by omega
      obtain ⟨⟨c0, f0⟩, c1, f1⟩ := RC.out _ HB.out
      have a1 := Lib.hid (show (H k).1 = (H N).1 by rw [hkN])
      have a2 := Lib.hid (show (H k).2 = (H N).2 by rw [hkN])
      rw [a1.out] at x0
      rw [a2.out] at x1
      obtain ⟨p, hp⟩ : ∃ p, p = (H N).1 := ⟨_, rfl⟩
      obtain ⟨q, hq⟩ : ∃ q, q = (H N).2 := ⟨_, rfl⟩
      rw [← hp] at x0
      rw [← hq] at x1
      have HP := Lib.hid hp
      have HQQ := Lib.hid hq
      clear hkN y0 y1 hp hq
      go_wp2_with fail
      refine bodyPost_ret (v := .agg #[.int .i64 p, .int .i64 q]) (by simp [results, Try.results47, go_sem, c0, c1]) rfl ⟨by rw [HP.out, HQQ.out], ?_⟩
      exact RF.out _ _ _ HB.out
theorem cm_timesI {N : Nat} (hN : N ≤ 12) (w : World) : Calls Try.prog 50 #[.agg #[.int .i64 N, .int .i64 1], .agg #[.int .i64 (haP N).1, .int .i64 (haP N).2]] w (Gives (.tuple #[.agg #[.int .i64 (cmP N).1, .int .i64 (cmP N).2], .bool true]) w) := by
  have A := timesI (N : Int) 1 (haP N).1 (haP N).2 w
  have e : timesV (N : Int) 1 (haP N).1 (haP N).2 = keptV (cmP N).1 (cmP N).2 := if_pos ⟨ha_n N (by omega), ha_fr N (by omega)⟩
  rw [e] at A
  unfold keptV at A
  rw [if_pos (fr_in (cm_fr N (by omega)))] at A
  exact A
theorem cm_timesS {N : Nat} (hN : N ≤ 12) (w : World) : Calls Try.prog 49 #[.agg #[.int .i64 (haP N).1, .int .i64 (haP N).2], .agg #[.int .i64 N, .int .i64 1]] w (Gives (.agg #[.int .i64 (cmP N).1, .int .i64 (cmP N).2]) w) := by
  have a := fr_bd12 (ha_fr N (by omega))
  have A := timesS (haP N).1 (haP N).2 (N : Int) 1 w a.1 a.2 (by omega) (by omega) ((isFr_iff _ _).1 (ha_fr N (by omega))).2 ((isFr_iff _ _).1 (ha_n N (by omega))).2
  have c := cm_flip N (by omega)
  rw [c.1, c.2] at A
  exact A
def raV (n : Int) : Value := if 1 ≤ n ∧ n ≤ 12 then .tuple #[.agg #[.int .i64 (haP n.toNat).1, .int .i64 (haP n.toNat).2], .bool true] else .tuple #[.agg #[.int .i64 0, .int .i64 0], .bool false]
theorem raV_form (n : Int) : ∃ p q ok, raV n = .tuple #[.agg #[.int .i64 p, .int .i64 q], .bool ok] := by
  unfold raV; split <;> exact ⟨_, _, _, rfl⟩
def cmV (n : Int) : Value := if 1 ≤ n ∧ n ≤ 12 then .tuple #[.agg #[.int .i64 (cmP n.toNat).1, .int .i64 (cmP n.toNat).2], .bool true] else .tuple #[.agg #[.int .i64 0, .int .i64 0], .bool false]
theorem cmV_form (n : Int) : ∃ p q ok, cmV n = .tuple #[.agg #[.int .i64 p, .int .i64 q], .bool ok] := by
  unfold cmV; split <;> exact ⟨_, _, _, rfl⟩
set_option maxRecDepth 100000 in
set_option maxHeartbeats 2000000 in
theorem raC (n : Int) (w : World) : Calls Try.prog 24 #[.int .i64 n] w (Gives (raV n) w) := by
  have F := Lib.hid (fun w => fromI n 1 12 w)
  have B0 := Lib.hid (bl_self w (.cells #[.int .i64 0, .int .i64 0] 32))
  have RC := Lib.hid (fun w3 b => rs_cells (w := w) (w3 := w3) b)
  have RF := Lib.hid (fun w3 x y b => rs_fin (w := w) (w3 := w3) (x := x) (y := y) b)
  by_cases h : 1 ≤ n ∧ n ≤ 12
  · rw [decide_eq_true h] at F
    obtain ⟨N, rfl⟩ : ∃ N : Nat, n = N := ⟨n.toNat, by omega⟩
    have hN : N ≤ 12 := by omega
    rw [show raV N = .tuple #[.agg #[.int .i64 (haP N).1, .int .i64 (haP N).2], .bool true] from if_pos h]
    have IV := Lib.hid (fun w => invC N w hN)
    obtain ⟨p, hp⟩ : ∃ p, p = (haP N).1 := ⟨_, rfl⟩
    obtain ⟨q, hq⟩ : ∃ q, q = (haP N).2 := ⟨_, rfl⟩
    rw [← hp, ← hq]
    try rw [← hp] at IV
    try rw [← hq] at IV
    obtain ⟨Hn, hHn⟩ : ∃ Hn, Hn = haP N := ⟨_, rfl⟩
    try rw [← hHn] at IV
    clear h hp hq hHn
    obtain ⟨wa, hwa⟩ : ∃ wa, wa = w.alloc (.cells #[.int .i64 0, .int .i64 0] 32) := ⟨_, rfl⟩
    rw [← hwa] at B0 RC RF
    go_enter Try.func24, Try.ntmps24
    go_wp2_with fail
    rw [← hwa]
    clear hwa
    refine (F.out _).mono ?_
    rintro e w1 ⟨rfl, rfl⟩
    go_wp2_with fail
    refine (IV.out _).mono ?_
    rintro e w2 ⟨rfl, b2⟩
    have B1 := Lib.hid (bl_then B0.out b2)
    clear b2
    obtain ⟨⟨x0, y0⟩, x1, y1⟩ := RC.out _ B1.out
    go_wp2_with fail
    refine bodyPost_ret (v := .tuple #[.agg #[.int .i64 p, .int .i64 q], .bool true]) (by simp [results, Try.results24, go_sem, x0, x1]) rfl ⟨rfl, ?_⟩
    exact RF.out _ _ _ B1.out
  · rw [decide_eq_false h] at F
    rw [show raV n = .tuple #[.agg #[.int .i64 0, .int .i64 0], .bool false] from if_neg h]
    clear h
    go_enter Try.func24, Try.ntmps24
    go_wp2_with fail
    refine (F.out _).mono ?_
    rintro e w1 ⟨rfl, rfl⟩
    go_wp2_with fail
    refine bodyPost_ret (v := .tuple #[.agg #[.int .i64 0, .int .i64 0], .bool false]) (by simp [results, Try.results24, go_sem]) rfl ⟨rfl, ?_⟩
    first | exact RF.out _ _ _ B0.out | exact (Below.refl w.heap.size w).alloc (Nat.le_refl _) _
set_option maxRecDepth 100000 in
set_option maxHeartbeats 2000000 in
theorem raS (n : Int) (w : World) : Calls Try.prog 23 #[.int .i64 n] w (Gives (raV n) w) := by
  have F := Lib.hid (fun w => inS n 1 12 w)
  have B0 := Lib.hid (bl_self w (.cells #[.int .i64 0, .int .i64 0] 32))
  have RC := Lib.hid (fun w3 b => rs_cells (w := w) (w3 := w3) b)
  have RF := Lib.hid (fun w3 x y b => rs_fin (w := w) (w3 := w3) (x := x) (y := y) b)
  by_cases h : 1 ≤ n ∧ n ≤ 12
  · rw [decide_eq_true h] at F
    obtain ⟨N, rfl⟩ : ∃ N : Nat, n = N := ⟨n.toNat, by omega⟩
    have hN : N ≤ 12 := by omega
    rw [show raV N = .tuple #[.agg #[.int .i64 (haP N).1, .int .i64 (haP N).2], .bool true] from if_pos h]
    have IV := Lib.hid (fun w => harS N w hN)
    have KP := Lib.hid (fun w => keptS_yes (haP N).1 (haP N).2 w (ha_fr N (by omega)))
    obtain ⟨p, hp⟩ : ∃ p, p = (haP N).1 := ⟨_, rfl⟩
    obtain ⟨q, hq⟩ : ∃ q, q = (haP N).2 := ⟨_, rfl⟩
    rw [← hp, ← hq]
    try rw [← hp] at IV
    try rw [← hq] at IV
    try rw [← hp] at KP
    try rw [← hq] at KP
    obtain ⟨Hn, hHn⟩ : ∃ Hn, Hn = haP N := ⟨_, rfl⟩
    try rw [← hHn] at IV
    try rw [← hHn] at KP
    clear h hp hq hHn
    obtain ⟨wa, hwa⟩ : ∃ wa, wa = w.alloc (.cells #[.int .i64 0, .int .i64 0] 32) := ⟨_, rfl⟩
    rw [← hwa] at B0 RC RF
    go_enter Try.func23, Try.ntmps23
    go_wp2_with fail
    rw [← hwa]
    clear hwa
    refine (F.out _).mono ?_
    rintro e w1 ⟨rfl, rfl⟩
    go_wp2_with fail
    refine (IV.out _).mono ?_
    rintro e w2 ⟨rfl, b2⟩
    have B1 := Lib.hid (bl_then B0.out b2)
    clear b2
    go_wp2_with fail
    refine (KP.out _).mono ?_
    rintro e w3 ⟨rfl, b2⟩
    have B2 := Lib.hid (bl_then B1.out b2)
    clear b2
    obtain ⟨⟨x0, y0⟩, x1, y1⟩ := RC.out _ B2.out
    go_wp2_with fail
    refine bodyPost_ret (v := .tuple #[.agg #[.int .i64 p, .int .i64 q], .bool true]) (by simp [results, Try.results23, go_sem, x0, x1]) rfl ⟨rfl, ?_⟩
    exact RF.out _ _ _ B2.out
  · rw [decide_eq_false h] at F
    rw [show raV n = .tuple #[.agg #[.int .i64 0, .int .i64 0], .bool false] from if_neg h]
    clear h
    go_enter Try.func23, Try.ntmps23
    go_wp2_with fail
    refine (F.out _).mono ?_
    rintro e w1 ⟨rfl, rfl⟩
    go_wp2_with fail
    refine bodyPost_ret (v := .tuple #[.agg #[.int .i64 0, .int .i64 0], .bool false]) (by simp [results, Try.results23, go_sem]) rfl ⟨rfl, ?_⟩
    first | exact RF.out _ _ _ B0.out | exact (Below.refl w.heap.size w).alloc (Nat.le_refl _) _
set_option maxRecDepth 100000 in
set_option maxHeartbeats 2000000 in
theorem cmC (n : Int) (w : World) : Calls Try.prog 27 #[.int .i64 n] w (Gives (cmV n) w) := by
  have F := Lib.hid (fun w => fromI n 1 12 w)
  have B0 := Lib.hid (bl_self w (.cells #[.int .i64 0, .int .i64 0] 32))
  have RC := Lib.hid (fun w3 b => rs_cells (w := w) (w3 := w3) b)
  have RF := Lib.hid (fun w3 x y b => rs_fin (w := w) (w3 := w3) (x := x) (y := y) b)
  by_cases h : 1 ≤ n ∧ n ≤ 12
  · rw [decide_eq_true h] at F
    obtain ⟨N, rfl⟩ : ∃ N : Nat, n = N := ⟨n.toNat, by omega⟩
    have hN : N ≤ 12 := by omega
    rw [show cmV N = .tuple #[.agg #[.int .i64 (cmP N).1, .int .i64 (cmP N).2], .bool true] from if_pos h]
    have IV := Lib.hid (fun w => invC N w hN)
    have TM := Lib.hid (fun w => cm_timesI hN w)
    obtain ⟨p, hp⟩ : ∃ p, p = (cmP N).1 := ⟨_, rfl⟩
    obtain ⟨q, hq⟩ : ∃ q, q = (cmP N).2 := ⟨_, rfl⟩
    rw [← hp, ← hq]
    try rw [← hp] at IV
    try rw [← hq] at IV
    try rw [← hp] at TM
    try rw [← hq] at TM
    obtain ⟨Hn, hHn⟩ : ∃ Hn, Hn = haP N := ⟨_, rfl⟩
    try rw [← hHn] at IV
    try rw [← hHn] at TM
    clear h hp hq hHn
    obtain ⟨wa, hwa⟩ : ∃ wa, wa = w.alloc (.cells #[.int .i64 0, .int .i64 0] 32) := ⟨_, rfl⟩
    rw [← hwa] at B0 RC RF
    go_enter Try.func27, Try.ntmps27
    go_wp2_with fail
    rw [← hwa]
    clear hwa
    refine (F.out _).mono ?_
    rintro e w1 ⟨rfl, rfl⟩
    go_wp2_with fail
    refine (IV.out _).mono ?_
    rintro e w2 ⟨rfl, b2⟩
    have B1 := Lib.hid (bl_then B0.out b2)
    clear b2
    go_wp2_with fail
    refine (TM.out _).mono ?_
    rintro e w3 ⟨rfl, b2⟩
    have B2 := Lib.hid (bl_then B1.out b2)
    clear b2
    obtain ⟨⟨x0, y0⟩, x1, y1⟩ := RC.out _ B2.out
    go_wp2_with fail
    refine bodyPost_ret (v := .tuple #[.agg #[.int .i64 p, .int .i64 q], .bool true]) (by simp [results, Try.results27, go_sem, x0, x1]) rfl ⟨rfl, ?_⟩
    exact RF.out _ _ _ B2.out
  · rw [decide_eq_false h] at F
    rw [show cmV n = .tuple #[.agg #[.int .i64 0, .int .i64 0], .bool false] from if_neg h]
    clear h
    go_enter Try.func27, Try.ntmps27
    go_wp2_with fail
    refine (F.out _).mono ?_
    rintro e w1 ⟨rfl, rfl⟩
    go_wp2_with fail
    refine bodyPost_ret (v := .tuple #[.agg #[.int .i64 0, .int .i64 0], .bool false]) (by simp [results, Try.results27, go_sem]) rfl ⟨rfl, ?_⟩
    first | exact RF.out _ _ _ B0.out | exact (Below.refl w.heap.size w).alloc (Nat.le_refl _) _
set_option maxRecDepth 100000 in
set_option maxHeartbeats 2000000 in
theorem cmS (n : Int) (w : World) : Calls Try.prog 26 #[.int .i64 n] w (Gives (cmV n) w) := by
  have F := Lib.hid (fun w => inS n 1 12 w)
  have B0 := Lib.hid (bl_self w (.cells #[.int .i64 0, .int .i64 0] 32))
  have RC := Lib.hid (fun w3 b => rs_cells (w := w) (w3 := w3) b)
  have RF := Lib.hid (fun w3 x y b => rs_fin (w := w) (w3 := w3) (x := x) (y := y) b)
  by_cases h : 1 ≤ n ∧ n ≤ 12
  · rw [decide_eq_true h] at F
    obtain ⟨N, rfl⟩ : ∃ N : Nat, n = N := ⟨n.toNat, by omega⟩
    have hN : N ≤ 12 := by omega
    rw [show cmV N = .tuple #[.agg #[.int .i64 (cmP N).1, .int .i64 (cmP N).2], .bool true] from if_pos h]
    have IV := Lib.hid (fun w => harS N w hN)
    have TM := Lib.hid (fun w => cm_timesS hN w)
    have KP := Lib.hid (fun w => keptS_yes (cmP N).1 (cmP N).2 w (cm_fr N (by omega)))
    obtain ⟨p, hp⟩ : ∃ p, p = (cmP N).1 := ⟨_, rfl⟩
    obtain ⟨q, hq⟩ : ∃ q, q = (cmP N).2 := ⟨_, rfl⟩
    rw [← hp, ← hq]
    try rw [← hp] at IV
    try rw [← hq] at IV
    try rw [← hp] at TM
    try rw [← hq] at TM
    try rw [← hp] at KP
    try rw [← hq] at KP
    obtain ⟨Hn, hHn⟩ : ∃ Hn, Hn = haP N := ⟨_, rfl⟩
    try rw [← hHn] at IV
    try rw [← hHn] at TM
    try rw [← hHn] at KP
    clear h hp hq hHn
    obtain ⟨wa, hwa⟩ : ∃ wa, wa = w.alloc (.cells #[.int .i64 0, .int .i64 0] 32) := ⟨_, rfl⟩
    rw [← hwa] at B0 RC RF
    go_enter Try.func26, Try.ntmps26
    go_wp2_with fail
    rw [← hwa]
    clear hwa
    refine (F.out _).mono ?_
    rintro e w1 ⟨rfl, rfl⟩
    go_wp2_with fail
    refine (IV.out _).mono ?_
    rintro e w2 ⟨rfl, b2⟩
    have B1 := Lib.hid (bl_then B0.out b2)
    clear b2
    go_wp2_with fail
    refine (TM.out _).mono ?_
    rintro e w3 ⟨rfl, b2⟩
    have B2 := Lib.hid (bl_then B1.out b2)
    clear b2
    go_wp2_with fail
    refine (KP.out _).mono ?_
    rintro e w4 ⟨rfl, b2⟩
    have B3 := Lib.hid (bl_then B2.out b2)
    clear b2
    obtain ⟨⟨x0, y0⟩, x1, y1⟩ := RC.out _ B3.out
    go_wp2_with fail
    refine bodyPost_ret (v := .tuple #[.agg #[.int .i64 p, .int .i64 q], .bool true]) (by simp [results, Try.results26, go_sem, x0, x1]) rfl ⟨rfl, ?_⟩
    exact RF.out _ _ _ B3.out
  · rw [decide_eq_false h] at F
    rw [show cmV n = .tuple #[.agg #[.int .i64 0, .int .i64 0], .bool false] from if_neg h]
    clear h
    go_enter Try.func26, Try.ntmps26
    go_wp2_with fail
    refine (F.out _).mono ?_
    rintro e w1 ⟨rfl, rfl⟩
    go_wp2_with fail
    refine bodyPost_ret (v := .tuple #[.agg #[.int .i64 0, .int .i64 0], .bool false]) (by simp [results, Try.results26, go_sem]) rfl ⟨rfl, ?_⟩
    first | exact RF.out _ _ _ B0.out | exact (Below.refl w.heap.size w).alloc (Nat.le_refl _) _
end Go.Proofs.Ytagoodkaobcjaaa
