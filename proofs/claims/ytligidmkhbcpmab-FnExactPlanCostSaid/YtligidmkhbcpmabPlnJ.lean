/- Costs and potentials in the program: what PlanCost and ArePotentials answer. -/
import Derived.Test.YtligidmkhbcpmabPlnI
namespace Go.Proofs.Ytligidmkhbcpmab
open Go.RowKit
set_option linter.unusedVariables false
def outW (m z : Int) : Bool := decide (z < -m) || decide (m < z)
theorem any_outW (m : Int) (zs : List Int) : zs.any (outW m) = !fromB (-m) m zs := by
  unfold fromB outW
  rw [List.not_all_eq_any_not]
  congr 1
  funext z
  rw [Bool.eq_iff_iff]
  simp
set_option maxHeartbeats 2000000 in
theorem outPredW (m : Int) (zs : List Int) (w W0 : World) (B : Nat) (hm : 0 ≤ m ∧ m ≤ 1000000) (hc : W0.cell? ⟨B, 0, none⟩ = some (.int .i64 m)) (hB : B < W0.heap.size) :
    PredY 73 #[.pointer (some ⟨B, 0, none⟩)] (outW m) zs W0 := by
  intro W z hz hb
  have x0 : W.cell? ⟨B, 0, none⟩ = some (.int .i64 m) := by rw [hb.cell (p := ⟨B, 0, none⟩) hB]; exact hc
  have D : Hid (outW m z = (decide (z < -m) || decide (m < z))) := Lib.hid rfl
  obtain ⟨m0, m1⟩ := hm
  clear hc hb hz
  show Calls _ _ #[.int .i64 z, .pointer (some ⟨B, 0, none⟩)] _ _
  by_cases h1 : z < -m
  · have R := Lib.hid (show outW m z = true by rw [D.out, decide_eq_true h1]; rfl)
    go_enter Try.func73, Try.ntmps73
    go_wp2
    go_ret
    exact ⟨ret_bY R.out, Below.refl _ _⟩
  · have R := Lib.hid (show outW m z = decide (m < z) by rw [D.out, decide_eq_false h1]; rfl)
    go_enter Try.func73, Try.ntmps73
    go_wp2
    go_ret
    exact ⟨ret_bY R.out, Below.refl _ _⟩
set_option maxHeartbeats 2000000 in
theorem withinY (zs : List Int) (v : Value) (n m : Int) (w : World) (hm : 0 ≤ m ∧ m ≤ 1000000) (hn : zs.length ≤ 1048576) (h : IntsV w w.heap.size v zs) :
    Calls Try.prog 52 #[v, .int .i64 n, .int .i64 m] w (Gives (.bool (decide ((zs.length : Int) = n) && fromB (-m) m zs)) w) := by
  have UV := Lib.hid (fun w' (hb : Below w.heap.size w w') => (h.below hb).more hb.size)
  obtain ⟨q, cq, rfl, _⟩ := h
  have B1 := (Below.refl w.heap.size w).alloc (Nat.le_refl _) (.cells #[.int .i64 m] 3)
  have K1 := alloc_heap w (.cells #[.int .i64 m] 3)
  obtain ⟨x0, _⟩ := cell_of_heap (o := 0) K1 rfl
  clear K1
  have hmf : ∀ (fn : Fn) (first cap : Array Value) (w : World), (Instr.makeFunc fn first cap).run Try.prog w = .ok (.func fn first cap) w := fun _ _ _ _ => rfl
  obtain ⟨wa, hwa⟩ : ∃ wa, wa = w.alloc (.cells #[.int .i64 m] 3) := ⟨_, rfl⟩
  have hs : w.heap.size < wa.heap.size := by rw [hwa]; simp
  rw [← hwa] at B1 x0
  have C := Lib.hid (containsY zs _ 73 #[.pointer (some ⟨w.heap.size, 0, none⟩)] (outW m) wa (enters_of Try.func73 (by kernel_rfl) rfl) hn (UV.out wa B1) (outPredW m zs w wa w.heap.size hm x0 hs))
  have HB := Lib.hid B1
  have AO := Lib.hid (any_outW m zs)
  by_cases hl : (zs.length : Int) = n
  · subst hl
    have R := Lib.hid (show (decide ((zs.length : Int) = (zs.length : Int)) && fromB (-m) m zs) = fromB (-m) m zs by rw [decide_eq_true rfl]; rfl)
    clear B1 UV
    generalize fromB (-m) m zs = bb at *
    go_enter Try.func52, Try.ntmps52
    go_wp2_with fail
    rw [← hwa]
    clear hwa
    refine C.out.mono ?_
    rintro e w1 ⟨rfl, b1⟩
    rw [AO.out]
    have HB1 := Lib.hid (HB.out.trans (b1.mono HB.out.size))
    clear b1
    go_wp2_with fail
    go_ret
    exact ⟨by rw [R.out]; simp, HB1.out⟩
  · have R := Lib.hid (show (decide ((zs.length : Int) = n) && fromB (-m) m zs) = false by rw [decide_eq_false hl]; rfl)
    have hlb : ((zs.length : Int) == n) = false := by simpa using hl
    clear B1 UV hl
    go_enter Try.func52, Try.ntmps52
    go_wp2_with fail
    rw [← hwa]
    clear hwa
    go_ret
    exact ⟨ret_bY R.out, HB.out⟩
set_option maxRecDepth 100000 in
set_option maxHeartbeats 4000000 in
theorem costY (R : Nat) (f : Nat → List Int) (c : Nat → List Int) (n : Nat) (v u : Value) (B C : Nat) (w : World) (s : Sqr R f n 40) (t : Sqr R c n 99) (hn : n ≤ 8) (hv : TabV w B v R f) (hu : TabV w C u R c) :
    Calls Try.prog 50 #[v, u] w fun e w' => e = .returned (.int .i64 (coT f c n R)) ∧ w = w' := by
  obtain ⟨q1, c1, rfl, _, _, i1⟩ := hv
  obtain ⟨q2, c2, rfl, _, _, i2⟩ := hu
  have E1 := Lib.hid i1
  have E2 := Lib.hid i2
  have hR := s.rows
  have FL := Lib.hid s.len
  have CL := Lib.hid t.len
  have FB := Lib.hid s.bd
  have CB := Lib.hid t.bd
  have SB := Lib.hid (fun i (hi : i ≤ R) => co_bd (f := f) (c := c) (n := n) hn i (fun j hj => s.bd j (by omega)) (fun j hj => t.bd j (by omega)))
  have RB := Lib.hid (fun i (hi : i < R) k (hk : k ≤ n) => rc_bd (zs := f i) (cs := c i) (n := n) (s.bd i hi) (t.bd i hi) k hk)
  have ST := Lib.hid (fun i k => show coT f c n i + rcT (f i) (c i) (k + 1) = coT f c n i + rcT (f i) (c i) k + (f i).getD k 0 * (c i).getD k 0 by simp only [rcT]; omega)
  have SN := Lib.hid (fun i => show coT f c n (i + 1) = coT f c n i + rcT (f i) (c i) n from rfl)
  have SZ := Lib.hid (fun i => show coT f c n i + rcT (f i) (c i) 0 = coT f c n i by simp [rcT])
  clear i1 i2 s t
  have R8 : R ≤ 8 := by omega
  clear hR
  go_enter Try.func50, Try.ntmps50
  go_wp2_with fail
  go_loopg [5, 12] R (fun gg t i wr => ∃ k : Nat, k ≤ R ∧ R - k ≤ gg ∧ i = .int .i64 k ∧ t = .int .i64 (coT f c n k) ∧ w = wr)
  case atStart => exact ⟨0, Nat.zero_le _, by omega, rfl, rfl, rfl⟩
  case round =>
    obtain ⟨i, hi, hgg, rfl, rfl, rfl⟩ := hrel
    by_cases hlt : i < R
    · obtain ⟨b, off, z, rfl, hb, hc, hz⟩ := E1.out i hlt
      obtain ⟨b2, off2, y, rfl, hb2, hc2, hy⟩ := E2.out i hlt
      have j0 : (0 : Int) ≤ (i : Int) := by omega
      have j1 : (i : Int) < (R : Int) := by omega
      have fl := FL.out i hlt
      have cl := CL.out i hlt
      obtain ⟨q4, d4, rfl, _, _, _, ir⟩ := hz
      obtain ⟨q5, d5, rfl, _, _, _, jr⟩ := hy
      rw [fl] at hc
      rw [cl] at hc2
      have E3 := Lib.hid ir
      have E4 := Lib.hid jr
      have HF := Lib.hid fl
      have HC := Lib.hid cl
      have sn := Lib.hid (SN.out i)
      have sz := Lib.hid (SZ.out i)
      have cb := SB.out i hi
      clear ir jr fl cl hb hb2
      go_wp2_with fail
      go_loopg [5, 19] n (fun gg t j wr => ∃ k : Nat, k ≤ n ∧ n - k ≤ gg ∧ j = .int .i64 k ∧ t = .int .i64 (coT f c n i + rcT (f i) (c i) k) ∧ w = wr)
      case atStart => exact ⟨0, Nat.zero_le _, by omega, rfl, by rw [sz.out], rfl⟩
      case round =>
        obtain ⟨k, hk, hgg2, rfl, rfl, rfl⟩ := hrel
        by_cases hlk : k < n
        · obtain ⟨b3, off3, rfl, hb3, hc3⟩ := E3.out.get (i := k) (by rw [HF.out]; exact hlk)
          obtain ⟨b4, off4, rfl, hb4, hc4⟩ := E4.out.get (i := k) (by rw [HC.out]; exact hlk)
          have k0 : (0 : Int) ≤ (k : Int) := by omega
          have k1 : (k : Int) < (n : Int) := by omega
          have xb := FB.out i hlt k hlk
          have yb := CB.out i hlt k hlk
          have rb := RB.out i hlt k hk
          have st := Lib.hid (ST.out i k)
          have kb : k * 3960 ≤ 31680 := by omega
          have ib : i * 31680 ≤ 253440 := by omega
          have e0 : 0 ≤ (f i).getD k 0 * (c i).getD k 0 := Int.mul_nonneg xb.1 yb.1
          have e1 : (f i).getD k 0 * (c i).getD k 0 ≤ 40 * 99 := Int.mul_le_mul xb.2 yb.2 yb.1 (by omega)
          obtain ⟨x, hx⟩ : ∃ x, x = (f i).getD k 0 := ⟨_, rfl⟩
          rw [← hx] at hc3 xb st e0 e1
          obtain ⟨z, hz⟩ : ∃ x, x = (c i).getD k 0 := ⟨_, rfl⟩
          rw [← hz] at hc4 yb st e0 e1
          obtain ⟨S, hS⟩ : ∃ S, S = coT f c n i + rcT (f i) (c i) k := ⟨_, rfl⟩
          have S1 : 0 ≤ S ∧ S ≤ 285120 := by omega
          rw [← hS] at st ⊢
          have WM : IntKind.i64.wrap (x * z) = x * z := IntWalk.i64_in _ (by omega)
          have WS : IntKind.i64.wrap (S + x * z) = S + x * z := IntWalk.i64_in _ (by omega)
          clear hx hz hS rb kb ib cb hb3 hb4
          go_wp2_with fail
          go_roundg (n - (k + 1))
          case rel => exact ⟨k + 1, by omega, by omega, by go_num, by rw [st.out], rfl⟩
          case measure => omega
        · have hkn : k = n := by omega
          have N1 := Lib.hid (show coT f c n (i + 1) = coT f c n i + rcT (f i) (c i) k by rw [sn.out, hkn])
          clear hkn
          go_wp2_with fail
          go_roundg (R - (i + 1))
          case rel => exact ⟨i + 1, by omega, by omega, by go_num, by rw [N1.out], rfl⟩
          case measure => omega
    · have hiR : i = R := by omega
      have FIN := Lib.hid (show coT f c n i = coT f c n R by rw [hiR])
      clear hiR
      go_wp2_with fail
      go_ret
      exact ⟨by rw [FIN.out]; rfl, rfl⟩
set_option maxRecDepth 100000 in
set_option maxHeartbeats 4000000 in
theorem pcoI (ps qs : List Int) (R : Nat) (f : Nat → List Int) (C : Nat) (c : Nat → List Int) (v u t x : Value) (w : World) (hp : ps.length ≤ 1048576) (hq : qs.length ≤ 1048576) (hR : R ≤ 1048576) (hf : ∀ i, i < R → (f i).length ≤ 1048576) (hC : C ≤ 1048576) (hcl : ∀ i, i < C → (c i).length ≤ 1048576) (hv : IntsV w w.heap.size v ps) (hu : IntsV w w.heap.size u qs) (ht : TabV w w.heap.size t R f) (hc : TabV w w.heap.size x C c) :
    Calls Try.prog 26 #[v, u, t, x] w (Gives (pcoV ps qs R f C c) w) := by
  have AL := Lib.hid (isplI ps qs R f v u t w hp hq hR hf hv hu ht)
  have SQ := Lib.hid (fun w' (hb : Below w.heap.size w w') => squareY C c x ps.length 99 w' hC hcl hp (hc.below hb |>.more hb.size))
  unfold isplV at AL
  cases ha : isplB ps qs R f
  · rw [show pcoV ps qs R f C c = .tuple #[.int .i64 0, .bool false] from if_neg (by rw [ha, Bool.false_and]; decide)]
    rw [ha] at AL
    clear ha SQ
    generalize aliB ps qs = ok at *
    obtain ⟨q1, c1, rfl, _⟩ := hv
    obtain ⟨q2, c2, rfl, _⟩ := hu
    obtain ⟨q3, c3, rfl, _⟩ := ht
    obtain ⟨q4, c4, rfl, _⟩ := hc
    go_enter Try.func26, Try.ntmps26
    go_wp2_with fail
    refine AL.out.mono ?_
    rintro e w1 ⟨rfl, b1⟩
    have B1 := Lib.hid b1
    clear b1
    go_wp2_with fail
    go_ret2
    exact ⟨rfl, B1.out⟩
  · rw [ha] at AL
    cases hs : sqB C c ps.length 99
    · rw [show pcoV ps qs R f C c = .tuple #[.int .i64 0, .bool false] from if_neg (by rw [ha, hs]; decide)]
      rw [hs] at SQ
      clear ha hs
      generalize aliB ps qs = ok at *
      obtain ⟨q1, c1, rfl, _⟩ := hv
      obtain ⟨q2, c2, rfl, _⟩ := hu
      obtain ⟨q3, c3, rfl, _⟩ := ht
      obtain ⟨q4, c4, rfl, _⟩ := hc
      go_enter Try.func26, Try.ntmps26
      go_wp2_with fail
      refine AL.out.mono ?_
      rintro e w1 ⟨rfl, b1⟩
      have B1 := Lib.hid b1
      clear b1
      go_wp2_with fail
      refine (SQ.out _ B1.out).mono ?_
      rintro e w2 ⟨rfl, b2⟩
      have B2 := bl_up' B1 b2
      clear b2
      go_wp2_with fail
      go_ret2
      exact ⟨rfl, B2.out⟩
    · rw [show pcoV ps qs R f C c = .tuple #[.int .i64 (coT f c ps.length R), .bool true] from if_pos (by rw [ha, hs]; decide)]
      rw [hs] at SQ
      obtain ⟨A, P⟩ := isplB_iff.1 ha
      have s9 := sqB_iff.1 hs
      have hCR : C = R := by have := P.sq.rows; have := s9.rows; omega
      subst hCR
      have CO := Lib.hid (fun w' (hb : Below w.heap.size w w') => costY C f c ps.length t x w.heap.size w.heap.size w' P.sq s9 A.p.n8 (ht.below hb) (hc.below hb))
      clear ha hs A P s9
      generalize coT f c ps.length C = X at *
      generalize aliB ps qs = ok at *
      obtain ⟨q1, c1, rfl, _⟩ := hv
      obtain ⟨q2, c2, rfl, _⟩ := hu
      obtain ⟨q3, c3, rfl, _⟩ := ht
      obtain ⟨q4, c4, rfl, _⟩ := hc
      go_enter Try.func26, Try.ntmps26
      go_wp2_with fail
      refine AL.out.mono ?_
      rintro e w1 ⟨rfl, b1⟩
      have B1 := Lib.hid b1
      clear b1
      go_wp2_with fail
      refine (SQ.out _ B1.out).mono ?_
      rintro e w2 ⟨rfl, b2⟩
      have B2 := bl_up' B1 b2
      clear b2
      go_wp2_with fail
      refine (CO.out _ B2.out).mono ?_
      rintro e w3 ⟨rfl, rfl⟩
      go_wp2_with fail
      go_ret2
      exact ⟨rfl, B2.out⟩
set_option maxRecDepth 100000 in
set_option maxHeartbeats 4000000 in
theorem potI (ps qs us ws : List Int) (C : Nat) (c : Nat → List Int) (v u t y x : Value) (w : World) (hp : ps.length ≤ 1048576) (hq : qs.length ≤ 1048576) (hus : us.length ≤ 1048576) (hws : ws.length ≤ 1048576) (hC : C ≤ 1048576) (hcl : ∀ i, i < C → (c i).length ≤ 1048576) (hv : IntsV w w.heap.size v ps) (hu : IntsV w w.heap.size u qs) (ht : IntsV w w.heap.size t us) (hy : IntsV w w.heap.size y ws) (hc : TabV w w.heap.size x C c) :
    Calls Try.prog 28 #[v, u, t, y, x] w (Gives (potV ps qs us ws C c) w) := by
  have AL := Lib.hid (aliY ps qs v u w hp hq hv hu)
  have SQ := Lib.hid (fun w' (hb : Below w.heap.size w w') => squareY C c x ps.length 99 w' hC hcl hp (hc.below hb |>.more hb.size))
  have WU := Lib.hid (fun w' (hb : Below w.heap.size w w') => withinY us t (ps.length : Int) 999 w' (by omega) hus ((ht.below hb).more hb.size))
  have WW := Lib.hid (fun w' (hb : Below w.heap.size w w') => withinY ws y (qs.length : Int) 999 w' (by omega) hws ((hy.below hb).more hb.size))
  have e1 : (decide ((us.length : Int) = (ps.length : Int)) && fromB (-999) 999 us) = (decide (us.length = ps.length) && fromB (-999) 999 us) := by
    congr 1; rw [Bool.eq_iff_iff, decide_eq_true_iff, decide_eq_true_iff]; omega
  have e2 : (decide ((ws.length : Int) = (qs.length : Int)) && fromB (-999) 999 ws) = (decide (ws.length = qs.length) && fromB (-999) 999 ws) := by
    congr 1; rw [Bool.eq_iff_iff, decide_eq_true_iff, decide_eq_true_iff]; omega
  rw [e1] at WU
  rw [e2] at WW
  clear e1 e2
  unfold aliV at AL
  cases ha : aliB ps qs
  · rw [show potV ps qs us ws C c = .tuple #[.bool false, .bool false] from if_neg (by unfold potOk; rw [ha]; simp)]
    rw [ha] at AL
    clear ha SQ WU WW
    generalize (sprB ps && sprB qs) = ok at *
    obtain ⟨q1, c1, rfl, _⟩ := hv
    obtain ⟨q2, c2, rfl, _⟩ := hu
    obtain ⟨q3, c3, rfl, _⟩ := ht
    obtain ⟨q4, c4, rfl, _⟩ := hy
    obtain ⟨q5, c5, rfl, _⟩ := hc
    go_enter Try.func28, Try.ntmps28
    go_wp2_with fail
    refine AL.out.mono ?_
    rintro e w1 ⟨rfl, b1⟩
    have B1 := Lib.hid b1
    clear b1
    go_wp2_with fail
    go_ret2
    exact ⟨rfl, B1.out⟩
  rw [ha] at AL
  cases h1 : (decide (us.length = ps.length) && fromB (-999) 999 us)
  · rw [show potV ps qs us ws C c = .tuple #[.bool false, .bool false] from if_neg (by unfold potOk; rw [ha, h1]; simp)]
    rw [h1] at WU
    clear ha h1 SQ WW
    generalize (sprB ps && sprB qs) = ok at *
    obtain ⟨q1, c1, rfl, _⟩ := hv
    obtain ⟨q2, c2, rfl, _⟩ := hu
    obtain ⟨q3, c3, rfl, _⟩ := ht
    obtain ⟨q4, c4, rfl, _⟩ := hy
    obtain ⟨q5, c5, rfl, _⟩ := hc
    go_enter Try.func28, Try.ntmps28
    go_wp2_with fail
    refine AL.out.mono ?_
    rintro e w1 ⟨rfl, b1⟩
    have B1 := Lib.hid b1
    clear b1
    go_wp2_with fail
    refine (WU.out _ B1.out).mono ?_
    rintro e w2 ⟨rfl, b2⟩
    have B2 := bl_up' B1 b2
    clear b2
    go_wp2_with fail
    go_ret2
    exact ⟨rfl, B2.out⟩
  rw [h1] at WU
  cases h2 : (decide (ws.length = qs.length) && fromB (-999) 999 ws)
  · rw [show potV ps qs us ws C c = .tuple #[.bool false, .bool false] from if_neg (by unfold potOk; rw [ha, h1, h2]; simp)]
    rw [h2] at WW
    clear ha h1 h2 SQ
    generalize (sprB ps && sprB qs) = ok at *
    obtain ⟨q1, c1, rfl, _⟩ := hv
    obtain ⟨q2, c2, rfl, _⟩ := hu
    obtain ⟨q3, c3, rfl, _⟩ := ht
    obtain ⟨q4, c4, rfl, _⟩ := hy
    obtain ⟨q5, c5, rfl, _⟩ := hc
    go_enter Try.func28, Try.ntmps28
    go_wp2_with fail
    refine AL.out.mono ?_
    rintro e w1 ⟨rfl, b1⟩
    have B1 := Lib.hid b1
    clear b1
    go_wp2_with fail
    refine (WU.out _ B1.out).mono ?_
    rintro e w2 ⟨rfl, b2⟩
    have B2 := bl_up' B1 b2
    clear b2
    go_wp2_with fail
    refine (WW.out _ B2.out).mono ?_
    rintro e w3 ⟨rfl, b3⟩
    have B3 := bl_up' B2 b3
    clear b3
    go_wp2_with fail
    go_ret2
    exact ⟨rfl, B3.out⟩
  rw [h2] at WW
  cases hs : sqB C c ps.length 99
  · rw [show potV ps qs us ws C c = .tuple #[.bool false, .bool false] from if_neg (by unfold potOk; rw [ha, h1, h2, hs]; simp)]
    rw [hs] at SQ
    clear ha h1 h2 hs
    generalize (sprB ps && sprB qs) = ok at *
    obtain ⟨q1, c1, rfl, _⟩ := hv
    obtain ⟨q2, c2, rfl, _⟩ := hu
    obtain ⟨q3, c3, rfl, _⟩ := ht
    obtain ⟨q4, c4, rfl, _⟩ := hy
    obtain ⟨q5, c5, rfl, _⟩ := hc
    go_enter Try.func28, Try.ntmps28
    go_wp2_with fail
    refine AL.out.mono ?_
    rintro e w1 ⟨rfl, b1⟩
    have B1 := Lib.hid b1
    clear b1
    go_wp2_with fail
    refine (WU.out _ B1.out).mono ?_
    rintro e w2 ⟨rfl, b2⟩
    have B2 := bl_up' B1 b2
    clear b2
    go_wp2_with fail
    refine (WW.out _ B2.out).mono ?_
    rintro e w3 ⟨rfl, b3⟩
    have B3 := bl_up' B2 b3
    clear b3
    go_wp2_with fail
    refine (SQ.out _ B3.out).mono ?_
    rintro e w4 ⟨rfl, b4⟩
    have B4 := bl_up' B3 b4
    clear b4
    go_wp2_with fail
    go_ret2
    exact ⟨rfl, B4.out⟩
  rw [hs] at SQ
  have RV := Lib.hid (show potV ps qs us ws C c = .tuple #[.bool (potB us ws C c ps.length), .bool true] from if_pos (by unfold potOk; rw [ha, h1, h2, hs]; rfl))
  rw [RV.out]
  clear RV
  have A := aliB_iff.1 ha
  have s9 := sqB_iff.1 hs
  rw [Bool.and_eq_true, decide_eq_true_iff] at h1 h2
  have hCn := s9.rows
  have n8 := A.p.n8
  have lu := h1.1
  have lw : ws.length = ps.length := by rw [h2.1, A.len]
  have UB := Lib.hid (fun i (hi : i < us.length) => from_at h1.2 hi)
  have WB := Lib.hid (fun i (hi : i < ws.length) => from_at h2.2 hi)
  have CL := Lib.hid s9.len
  have CB := Lib.hid s9.bd
  have YES := Lib.hid (fun (h : Pot us ws C c ps.length) => potB_yes h)
  have NO := Lib.hid (fun (h : ¬ Pot us ws C c ps.length) => potB_no h)
  have U2 := Lib.hid ht
  have W2 := Lib.hid hy
  have C2 := Lib.hid hc
  obtain ⟨n, hn⟩ : ∃ n, n = ps.length := ⟨_, rfl⟩
  have HN := Lib.hid hn
  have c8 : C ≤ 8 := by omega
  have lu1 : C ≤ us.length := by omega
  have lw1 : n ≤ ws.length := by omega
  have n8' : n ≤ 8 := by omega
  rw [← hn] at YES NO CL CB
  clear ha hs A s9 h1 h2 hCn lu lw hn n8
  generalize (sprB ps && sprB qs) = ok at *
  obtain ⟨q1, c1, rfl, _⟩ := hv
  obtain ⟨q2, c2, rfl, _⟩ := hu
  obtain ⟨q3, c3, rfl, _, _, _, iu⟩ := ht
  obtain ⟨q4, c4, rfl, _, _, _, iw⟩ := hy
  obtain ⟨q5, c5, rfl, _, _, ic⟩ := hc
  have EU := Lib.hid iu
  have EW := Lib.hid iw
  have EC := Lib.hid ic
  clear iu iw ic U2 W2 C2
  go_enter Try.func28, Try.ntmps28
  go_wp2_with fail
  refine AL.out.mono ?_
  rintro e w1 ⟨rfl, b1⟩
  have B1 := Lib.hid b1
  clear b1
  go_wp2_with fail
  refine (WU.out _ B1.out).mono ?_
  rintro e w2 ⟨rfl, b2⟩
  have B2 := bl_up' B1 b2
  clear b2
  go_wp2_with fail
  refine (WW.out _ B2.out).mono ?_
  rintro e w3 ⟨rfl, b3⟩
  have B3 := bl_up' B2 b3
  clear b3
  go_wp2_with fail
  refine (SQ.out _ B3.out).mono ?_
  rintro e w4 ⟨rfl, b4⟩
  have B4 := bl_up' B3 b4
  clear b4
  go_wp2_with fail
  go_loopg [49] C (fun gg i wr => ∃ k : Nat, k ≤ C ∧ C - k ≤ gg ∧ i = .int .i64 k ∧ Hid (∀ j, j < k → ∀ m, m < n → us.getD j 0 + ws.getD m 0 ≤ (c j).getD m 0) ∧ Hid (Below w.heap.size w wr))
  case atStart => exact ⟨0, Nat.zero_le _, by omega, rfl, Lib.hid (fun j hj => by omega), B4⟩
  case round =>
    clear B4 B1 B2 B3
    obtain ⟨i, hi, hgg, rfl, HL, HB⟩ := hrel
    by_cases hlt : i < C
    · obtain ⟨b, off, z, rfl, hb, hc, hz⟩ := EC.out i hlt
      have hcw : wr.cell? ⟨b, off + i, none⟩ = some z := by rw [HB.out.cell (p := ⟨b, off + i, none⟩) hb]; exact hc
      obtain ⟨b1, off1, rfl, hb1, hc1⟩ := EU.out.get (i := i) (by omega)
      have ub := UB.out i (by omega)
      have j0 : (0 : Int) ≤ (i : Int) := by omega
      have j1 : (i : Int) < (C : Int) := by omega
      have j2 : (i : Int) < (us.length : Int) := by omega
      have cl := CL.out i hlt
      obtain ⟨q6, d6, rfl, _, _, _, ir⟩ := hz
      rw [cl] at hcw
      have E3 := Lib.hid ir
      have HC := Lib.hid cl
      clear ir cl hb hc
      go_wp2_with fail
      go_loopg [56] n (fun gg j wr => ∃ k : Nat, k ≤ n ∧ n - k ≤ gg ∧ j = .int .i64 k ∧ Hid (∀ m, m < k → us.getD i 0 + ws.getD m 0 ≤ (c i).getD m 0) ∧ Hid (Below w.heap.size w wr))
      case atStart => exact ⟨0, Nat.zero_le _, by omega, rfl, Lib.hid (fun j hj => by omega), HB⟩
      case round =>
        clear HB
        obtain ⟨k, hk, hgg2, rfl, HK, HB⟩ := hrel
        by_cases hlk : k < n
        · obtain ⟨b3, off3, rfl, hb3, hc3⟩ := E3.out.get (i := k) (by rw [HC.out]; exact hlk)
          have hcw3 : wr.cell? ⟨b3, off3 + k, none⟩ = some (.int .i64 ((c i).getD k 0)) := by rw [HB.out.cell (p := ⟨b3, off3 + k, none⟩) hb3]; exact hc3
          have hcw1 : wr.cell? ⟨b1, off1 + i, none⟩ = some (.int .i64 (us.getD i 0)) := by rw [HB.out.cell (p := ⟨b1, off1 + i, none⟩) hb1]; exact hc1
          obtain ⟨b2, off2, rfl, hb2, hc2⟩ := EW.out.get (i := k) (by omega)
          have hcw2 : wr.cell? ⟨b2, off2 + k, none⟩ = some (.int .i64 (ws.getD k 0)) := by rw [HB.out.cell (p := ⟨b2, off2 + k, none⟩) hb2]; exact hc2
          have wb := WB.out k (by omega)
          have cb := CB.out i hlt k hlk
          have k0 : (0 : Int) ≤ (k : Int) := by omega
          have k1 : (k : Int) < (n : Int) := by omega
          have k2 : (k : Int) < (ws.length : Int) := by omega
          have NX : Hid (us.getD i 0 + ws.getD k 0 ≤ (c i).getD k 0 → ∀ m, m < k + 1 → us.getD i 0 + ws.getD m 0 ≤ (c i).getD m 0) := Lib.hid (fun h m hm => by
            rcases Nat.lt_or_ge m k with q | q
            · exact HK.out m q
            · obtain rfl : m = k := by omega
              exact h)
          have N2 := Lib.hid (fun (h : ¬ us.getD i 0 + ws.getD k 0 ≤ (c i).getD k 0) => NO.out (fun p => h (p i hlt k hlk)))
          obtain ⟨X, hX⟩ : ∃ x, x = us.getD i 0 := ⟨_, rfl⟩
          rw [← hX] at hcw1 ub NX N2
          have XE := Lib.hid hX
          obtain ⟨Y, hY⟩ : ∃ x, x = ws.getD k 0 := ⟨_, rfl⟩
          rw [← hY] at hcw2 wb NX N2
          obtain ⟨Z, hZ⟩ : ∃ x, x = (c i).getD k 0 := ⟨_, rfl⟩
          rw [← hZ] at hcw3 cb NX N2
          have WS : IntKind.i64.wrap (X + Y) = X + Y := IntWalk.i64_in _ (by omega)
          clear hX hY hZ hb2 hb3 hc2 hc3 HK
          by_cases hle : X + Y ≤ Z
          · have N3 := Lib.hid (NX.out hle)
            have hnl : ¬ Z < X + Y := by omega
            clear NX N2 hle
            go_wp2_with fail
            go_quiet (fail)
            go_wp2_with fail
            go_roundg (n - (k + 1))
            case rel => exact ⟨k + 1, by omega, by omega, by go_num, Lib.hid (by rw [← XE.out]; exact N3.out), by first | exact HB | exact Lib.hid (below_drewN HB.out _)⟩
            case measure => omega
          · have N3 := Lib.hid (N2.out hle)
            have hnl : Z < X + Y := by omega
            clear NX N2 hle
            go_wp2_with fail
            go_quiet (fail)
            go_wp2_with fail
            go_ret2
            exact ⟨by rw [← HN.out, N3.out]; rfl, by first | exact HB.out | exact below_drewN HB.out _⟩
        · have hkn : k = n := by omega
          have N1 : Hid (∀ j, j < i + 1 → ∀ m, m < n → us.getD j 0 + ws.getD m 0 ≤ (c j).getD m 0) := Lib.hid (fun j hj => by
            rcases Nat.lt_or_ge j i with q | q
            · exact HL.out j q
            · obtain rfl : j = i := by omega
              intro m hm; exact HK.out m (by omega))
          clear hkn HK HL
          go_wp2_with fail
          go_roundg (C - (i + 1))
          case rel => exact ⟨i + 1, by omega, by omega, by go_num, N1, HB⟩
          case measure => omega
    · have FIN := Lib.hid (YES.out (fun j hj => HL.out j (by omega)))
      clear HL
      go_wp2_with fail
      go_ret2
      exact ⟨by rw [← HN.out, FIN.out]; rfl, HB.out⟩
end Go.Proofs.Ytligidmkhbcpmab
