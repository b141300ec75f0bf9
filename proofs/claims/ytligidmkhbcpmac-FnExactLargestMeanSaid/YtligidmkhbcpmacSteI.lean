/- Fair and falling processes, in the program. -/
import Derived.Test.YtligidmkhbcpmacSteP
import Derived.Test.YtligidmkhbcpmacDriI
import Derived.Test.YtligidmkhbcpmacVBox
namespace Go.Proofs.Ytligidmkhbcpmac
open Go.RowKit
set_option linter.unusedVariables false
/-- What is asked of a test of pairs that is handed over. -/
def PredQ (g : Nat) (lb : Array Value) (A B : Nat → Int) (q : Nat → Bool) (n : Nat) (w : World) : Prop :=
  ∀ (W : World) (k : Nat), k < n → Below w.heap.size w W → Calls Try.prog g (#[.agg #[.int .i64 (A k), .int .i64 (B k)]] ++ lb) W fun e w' => e = .returned (.bool (q k)) ∧ Below W.heap.size W w'
set_option maxHeartbeats 2000000 in
theorem indexQ (n gm c : Nat) (A B : Nat → Int) (g : Nat) (lb : Array Value) (q : Nat → Bool) (w : World) (eg : ∀ args w, (callFunc g args).run Try.prog w = .ok (.enter g args) w)
    (hn : n ≤ 1048576) (hg : gm < w.heap.size) (hc : ∀ j, j < n → w.cell? ⟨gm, j * 2, none⟩ = some (.int .i64 (A j)) ∧ w.cell? ⟨gm, j * 2 + 1, none⟩ = some (.int .i64 (B j))) (hp : PredQ g lb A B q n w) :
    Calls Try.prog 246 #[.slice (some ⟨gm, 0, none⟩) n c, .func (.func g) #[] lb] w fun e w' => ∃ k : Int, e = .returned (.int .i64 k) ∧ -1 ≤ k ∧ k ≤ 1048576 ∧ decide (0 ≤ k) = (List.range n).any q ∧ Below w.heap.size w w' := by
  have E1 := Lib.hid hc
  have PP := Lib.hid hp
  have HG := Lib.hid hg
  clear hp hc hg
  go_enter Try.func246, Try.ntmps246
  go_wp2
  go_loopw [8] (fun i wr => ∃ k : Nat, k ≤ n ∧ i = .int .i64 k ∧ Hid (∀ j, j < k → q j = false) ∧ Hid (Below w.heap.size w wr)) (fun i _ => n - (intOf i).toNat)
  case atStart => exact ⟨0, Nat.zero_le _, rfl, Lib.hid (fun j hj => by omega), Lib.hid (Below.refl _ _)⟩
  case round =>
    obtain ⟨k, hk, rfl, HA, HB⟩ := hrel
    by_cases hlt : k < n
    · obtain ⟨e0, e1⟩ := E1.out k hlt
      have m0 : wr.cell? ⟨gm, k * 2, none⟩ = some (.int .i64 (A k)) := by rw [HB.out.cell (p := ⟨gm, k * 2, none⟩) HG.out]; exact e0
      have m1 : wr.cell? ⟨gm, k * 2 + 1, none⟩ = some (.int .i64 (B k)) := by rw [HB.out.cell (p := ⟨gm, k * 2 + 1, none⟩) HG.out]; exact e1
      have C := Lib.hid (PP.out wr k hlt HB.out)
      have i0 : (0 : Int) ≤ (k : Int) := by omega
      have i1 : (k : Int) < (n : Int) := by omega
      have HIT := Lib.hid (anyR_hit (p := q) hlt)
      have NX : Hid (q k = false → ∀ j, j < k + 1 → q j = false) := Lib.hid (fun h j hj => by
        rcases Nat.lt_or_ge j k with h' | h'
        · exact HA.out j h'
        · obtain rfl : j = k := by omega
          exact h)
      obtain ⟨a, ha⟩ : ∃ z, z = A k := ⟨_, rfl⟩
      obtain ⟨b, hb⟩ : ∃ z, z = B k := ⟨_, rfl⟩
      rw [← ha] at m0 C
      rw [← hb] at m1 C
      clear ha hb HA e0 e1
      obtain ⟨t, ht⟩ : ∃ t, t = q k := ⟨_, rfl⟩
      rw [← ht] at C HIT NX
      clear ht
      cases t
      · have N2 := Lib.hid (NX.out rfl)
        clear HIT NX
        go_wp2_with (go_at_fn g; refine C.out.mono ?_; rintro e w1 ⟨rfl, b1⟩)
        have HB1 := Lib.hid (HB.out.trans (b1.mono HB.out.size))
        clear b1
        go_roundw
        case rel => exact ⟨k + 1, by omega, by go_num, N2, HB1⟩
        case measure => simp [intOf]; omega
      · have N2 := Lib.hid (HIT.out rfl)
        clear HIT NX
        go_wp2_with (go_at_fn g; refine C.out.mono ?_; rintro e w1 ⟨rfl, b1⟩)
        have HB1 := Lib.hid (HB.out.trans (b1.mono HB.out.size))
        clear b1
        go_ret
        exact ⟨_, rfl, by omega, by omega, by rw [N2.out, decide_eq_true_iff]; omega, HB1.out⟩
    · have R := Lib.hid (anyR_miss (p := q) (n := n) (fun j hj => HA.out j (by omega)))
      clear HA
      go_wp2
      go_ret
      exact ⟨_, rfl, by omega, by omega, by rw [R.out]; rfl, HB.out⟩
set_option maxHeartbeats 1000000 in
theorem containsQ (n gm c : Nat) (A B : Nat → Int) (g : Nat) (lb : Array Value) (q : Nat → Bool) (w : World) (eg : ∀ args w, (callFunc g args).run Try.prog w = .ok (.enter g args) w)
    (hn : n ≤ 1048576) (hg : gm < w.heap.size) (hc : ∀ j, j < n → w.cell? ⟨gm, j * 2, none⟩ = some (.int .i64 (A j)) ∧ w.cell? ⟨gm, j * 2 + 1, none⟩ = some (.int .i64 (B j))) (hp : PredQ g lb A B q n w) :
    Calls Try.prog 244 #[.slice (some ⟨gm, 0, none⟩) n c, .func (.func g) #[] lb] w (Gives (.bool ((List.range n).any q)) w) := by
  have C := Lib.hid (indexQ n gm c A B g lb q w eg hn hg hc hp)
  clear hp hc
  go_enter Try.func244, Try.ntmps244
  go_wp2_with fail
  refine C.out.mono ?_
  rintro e w1 ⟨k, rfl, h1, h2, h3, b1⟩
  have HB := Lib.hid b1
  have H3 := Lib.hid h3
  clear b1 h3
  go_wp2_with fail
  go_ret
  exact ⟨ret_b H3.out.symm, HB.out⟩
/-- What is asked of the test of numerators. -/
def PredN (g : Nat) (p : Int → Bool) : Prop := ∀ (W : World) (z : Int), Calls Try.prog g #[.int .i64 z] W (Gives (.bool (p z)) W)
set_option maxHeartbeats 2000000 in
theorem notPred (g C n : Nat) (p : Int → Bool) (A B : Nat → Int) (W0 : World) (eg : ∀ args w, (callFunc g args).run Try.prog w = .ok (.enter g args) w) (hp : PredN g p) (hc : VBox W0 C (.func (.func g) #[] #[]) 107) :
    PredQ 243 #[.pointer (some ⟨C, 0, none⟩)] A B (fun k => !p (A k)) n W0 := by
  intro W k hk hb
  have P := Lib.hid (fun w => hp w (A k))
  have hcC : C < W.heap.size := Nat.lt_of_lt_of_le hc.lt hb.size
  have c0 : (W.alloc (.cells #[.int .i64 (A k), .int .i64 (B k)] 26)).cell? ⟨C, 0, none⟩ = some (.func (.func g) #[] #[]) := by
    rw [World.cell?_alloc_lt _ _ _ (by exact hcC)]; exact (hc.below hb hc.lt).cell
  have B1 := Lib.hid ((Below.refl W.heap.size W).alloc (Nat.le_refl _) (.cells #[.int .i64 (A k), .int .i64 (B k)] 26))
  show Calls _ _ #[.agg #[.int .i64 (A k), .int .i64 (B k)], .pointer (some ⟨C, 0, none⟩)] _ _
  have D : Hid ((fun k => !p (A k)) k = !p (A k)) := Lib.hid rfl
  rw [D.out]
  clear hp hc hb hk D
  obtain ⟨a, ha⟩ : ∃ z, z = A k := ⟨_, rfl⟩
  obtain ⟨b, hb⟩ : ∃ z, z = B k := ⟨_, rfl⟩
  rw [← ha, ← hb] at c0 B1 ⊢
  rw [← ha] at P
  clear ha hb
  obtain ⟨t, ht⟩ : ∃ t, t = p a := ⟨_, rfl⟩
  rw [← ht] at P ⊢
  clear ht
  go_enter Try.func243, Try.ntmps243
  go_wp2_with (go_at_fn g; refine (P.out _).mono ?_; rintro e w1 ⟨rfl, b1⟩)
  have HB1 := Lib.hid (B1.out.trans (b1.mono B1.out.size))
  clear b1
  go_ret
  exact ⟨rfl, HB1.out⟩
set_option maxRecDepth 100000 in
set_option maxHeartbeats 4000000 in
theorem havDI (ps ws zs : List Int) (fair : Bool) (v u : Value) (g : Nat) (w : World) (eg : ∀ args w, (callFunc g args).run Try.prog w = .ok (.enter g args) w) (hn9 : zs.length ≤ 1048576) (h : TreeV w w.heap.size v ps ws) (hu : IntsV w w.heap.size u zs) (hp : PredN g (steP fair)) :
    Calls Try.prog 233 #[v, u, .func (.func g) #[] #[]] w (Gives (steV ps ws zs fair) w) := by
  have DI := Lib.hid (fun w' (hb : Below w.heap.size w w') => driftsI ps ws zs v u w' hn9 (h.boxed hb) ((hu.below hb).more hb.size))
  obtain ⟨p1, c1, p2, c2, rfl⟩ := h.shape
  obtain ⟨q, d, rfl, _⟩ := hu
  clear h
  have PN := Lib.hid hp
  clear hp
  have B1 := ((Below.refl w.heap.size w).alloc (Nat.le_refl _) (.cells #[.slice p1 ps.length c1, .slice p2 ws.length c2] 29)).alloc (by simp) (.cells #[.func (.func g) #[] #[]] 107)
  have K0 := alloc_two w (.cells #[.slice p1 ps.length c1, .slice p2 ws.length c2] 29) (.cells #[.func (.func g) #[] #[]] 107)
  obtain ⟨wa, hwa⟩ : ∃ wa, wa = (w.alloc (.cells #[.slice p1 ps.length c1, .slice p2 ws.length c2] 29)).alloc (.cells #[.func (.func g) #[] #[]] 107) := ⟨_, rfl⟩
  rw [← hwa] at B1 K0
  have T1 := Lib.hid (show TBox wa w.heap.size (.slice p1 ps.length c1) (.slice p2 ws.length c2) from K0.1)
  have V1 := Lib.hid (show VBox wa (w.heap.size + 1) (.func (.func g) #[] #[]) 107 from K0.2)
  have HBA := Lib.hid B1
  clear K0 B1
  obtain ⟨x0, x1⟩ := T1.out.cells
  have hmf : ∀ (fn : Fn) (first cap : Array Value) (w : World), (Instr.makeFunc fn first cap).run Try.prog w = .ok (.func fn first cap) w := fun _ _ _ _ => rfl
  cases hpr : procB ps ws zs
  · rw [hpr] at DI
    have ML : driLen ps ws zs = 0 := by unfold driLen; rw [hpr]; rfl
    rw [ML] at DI
    have R := Lib.hid (steV_no (fair := fair) hpr)
    clear hpr ML
    go_enter Try.func233, Try.ntmps233
    go_wp2_with fail
    rw [← hwa]
    clear hwa
    refine (DI.out _ HBA.out).mono ?_
    rintro e w1 ⟨um, rfl, o1, b1⟩
    obtain ⟨pm, cm, rfl, _⟩ := o1.opened
    have HB1 := Lib.hid (HBA.out.trans (b1.mono HBA.out.size))
    clear b1 o1
    go_wp2_with fail
    go_ret2
    exact ⟨by rw [R.out]; rfl, HB1.out⟩
  · rw [hpr] at DI
    have PR := procB_iff.1 hpr
    have hn1 := PR.good.n1
    have hn24 := PR.good.n24
    have ML : driLen ps ws zs = ps.length := by unfold driLen; rw [if_pos hpr]
    have MS : drisL ps ws zs = prL (driA ps ws zs) (driB ps ws zs) ps.length := by unfold drisL; rw [if_pos hpr]
    rw [ML, MS] at DI
    have R := Lib.hid (steV_ok (fair := fair) hpr)
    have AN := Lib.hid (ste_any ps ws zs fair)
    clear hpr PR ML MS
    obtain ⟨A, hA⟩ : ∃ A, A = driA ps ws zs := ⟨_, rfl⟩
    obtain ⟨B, hB⟩ : ∃ B, B = driB ps ws zs := ⟨_, rfl⟩
    rw [← hA] at DI AN
    rw [← hB] at DI
    clear hA hB
    generalize steB ps ws zs fair = bb at *
    go_enter Try.func233, Try.ntmps233
    go_wp2_with fail
    rw [← hwa]
    clear hwa
    refine (DI.out _ HBA.out).mono ?_
    rintro e w1 ⟨um, rfl, o1, b1⟩
    obtain ⟨gm, cm, rfl, _, hgm⟩ := o1.shape hn1
    have HB1 := Lib.hid (HBA.out.trans (b1.mono HBA.out.size))
    have V2 := Lib.hid (V1.out.below b1 V1.out.lt)
    have DM : Hid (∀ j, j < ps.length → w1.cell? ⟨gm, j * 2, none⟩ = some (.int .i64 (A j)) ∧ w1.cell? ⟨gm, j * 2 + 1, none⟩ = some (.int .i64 (B j))) := Lib.hid (fun j hj => by
      have h0 := o1.cellGet (j := j * 2) (by omega)
      have h1 := o1.cellGet (j := j * 2 + 1) (by omega)
      rw [(prL_at A B hj).1] at h0
      rw [(prL_at A B hj).2] at h1
      exact ⟨h0, h1⟩)
    have CQ := Lib.hid (containsQ ps.length gm cm A B 243 #[.pointer (some ⟨w.heap.size + 1, 0, none⟩)] (fun k => !steP fair (A k)) w1 (enters_of Try.func243 (by kernel_rfl) rfl) (by omega) hgm DM.out (notPred g (w.heap.size + 1) ps.length (steP fair) A B w1 eg PN.out V2.out))
    rw [AN.out] at CQ
    clear b1 o1 x0 x1 T1 DI HBA hgm DM
    go_wp2_with fail
    refine CQ.out.mono ?_
    rintro e w2 ⟨rfl, b2⟩
    have HB2 := Lib.hid (HB1.out.trans (b2.mono HB1.out.size))
    clear b2
    go_wp2_with fail
    go_ret2
    exact ⟨by rw [R.out]; simp, HB2.out⟩
theorem eqPred : PredN 234 (steP true) := by
  intro W z
  have D : Hid (steP true z = (z == 0)) := Lib.hid rfl
  rw [D.out]
  go_enter Try.func234, Try.ntmps234
  go_wp2
  go_ret
  exact ⟨rfl, Below.refl _ _⟩
set_option maxHeartbeats 1000000 in
theorem isFairI (ps ws zs : List Int) (v u : Value) (w : World) (hn9 : zs.length ≤ 1048576) (h : TreeV w w.heap.size v ps ws) (hu : IntsV w w.heap.size u zs) :
    Calls Try.prog 204 #[v, u] w (Gives (steV ps ws zs true) w) := by
  have DI := Lib.hid (fun w' (hb : Below w.heap.size w w') => havDI ps ws zs true v u 234 w' (enters_of Try.func234 (by kernel_rfl) rfl) hn9 (h.boxed hb) ((hu.below hb).more hb.size) eqPred)
  obtain ⟨rx, ok, hK⟩ := steV_form ps ws zs true
  rw [hK] at DI ⊢
  clear hK
  obtain ⟨p1, c1, p2, c2, rfl⟩ := h.shape
  obtain ⟨q, d, rfl, _⟩ := hu
  clear h
  have B1 := Lib.hid ((Below.refl w.heap.size w).alloc (Nat.le_refl _) (.cells #[.slice p1 ps.length c1, .slice p2 ws.length c2] 29))
  go_enter Try.func204, Try.ntmps204
  go_wp2_with fail
  refine (DI.out _ B1.out).mono ?_
  rintro e w1 ⟨rfl, b1⟩
  have HB1 := Lib.hid (B1.out.trans (b1.mono B1.out.size))
  clear b1
  go_wp2_with fail
  go_ret2
  exact ⟨rfl, HB1.out⟩
end Go.Proofs.Ytligidmkhbcpmac
