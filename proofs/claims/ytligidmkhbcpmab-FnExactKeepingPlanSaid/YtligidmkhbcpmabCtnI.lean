/- What lists of ints need in the program: tests that are handed over, bounds, sums, equal rows, copies. -/
import Derived.Test.YtligidmkhbcpmabSprP
import Derived.Test.YtligidmkhbcpmabPrm
import Derived.Deep.LoopGhost
import Derived.Lib.SliceRun
import Derived.Shelf.Abstract
import Derived.RegionTactic
import Derived.ChangeAlike
import Derived.Deep.RegionHeld3
import Derived.Deep.DeepCutAuto
namespace Go.Proofs.Ytligidmkhbcpmab
open Go.RowKit
set_option linter.unusedVariables false
theorem ret_bY {a b : Bool} (h : a = b) : Ending.returned (.bool b) = .returned (.bool a) := by rw [h]
theorem fromY (x a b : Int) (w : World) : Calls Try.prog 79 #[.int .i64 x, .int .i64 a, .int .i64 b] w fun e w' => e = .returned (.bool (decide (a ≤ x ∧ x ≤ b))) ∧ w = w' := by
  by_cases h1 : a ≤ x
  · by_cases h2 : x ≤ b
    · rw [decide_eq_true ⟨h1, h2⟩]
      go_enter Try.func79, Try.ntmps79
      go_wp2
      go_ret
      exact ⟨rfl, rfl⟩
    · rw [decide_eq_false (fun h => h2 h.2)]
      go_enter Try.func79, Try.ntmps79
      go_wp2
      go_ret
      exact ⟨rfl, rfl⟩
  · rw [decide_eq_false (fun h => h1 h.1)]
    go_enter Try.func79, Try.ntmps79
    go_wp2
    go_ret
    exact ⟨rfl, rfl⟩
/-- What is asked of a test of numbers that is handed over. -/
def PredY (g : Nat) (lb : Array Value) (p : Int → Bool) (zs : List Int) (w : World) : Prop :=
  ∀ (W : World) (z : Int), z ∈ zs → Below w.heap.size w W → Calls Try.prog g (#[.int .i64 z] ++ lb) W fun e w' => e = .returned (.bool (p z)) ∧ Below W.heap.size W w'
theorem any_hitY {p : Int → Bool} {zs : List Int} {k : Nat} (hk : k < zs.length) (h : p (zs.getD k 0) = true) : zs.any p = true := List.any_eq_true.2 ⟨_, getD_memV hk, h⟩
theorem any_missY {p : Int → Bool} {zs : List Int} (h : ∀ j, j < zs.length → p (zs.getD j 0) = false) : zs.any p = false := by
  rw [List.any_eq_false]
  intro z hz
  obtain ⟨i, hi, e⟩ := List.getElem_of_mem hz
  have := h i hi
  rw [List.getD_eq_getElem?_getD, List.getElem?_eq_getElem hi] at this
  rw [← e]; simpa using this
set_option maxHeartbeats 2000000 in
theorem indexY (zs : List Int) (v : Value) (g : Nat) (lb : Array Value) (p : Int → Bool) (w : World) (eg : ∀ args w, (callFunc g args).run Try.prog w = .ok (.enter g args) w)
    (hn : zs.length ≤ 1048576) (h : IntsV w w.heap.size v zs) (hp : PredY g lb p zs w) :
    Calls Try.prog 82 #[v, .func (.func g) #[] lb] w fun e w' => ∃ k : Int, e = .returned (.int .i64 k) ∧ -1 ≤ k ∧ k ≤ 1048576 ∧ decide (0 ≤ k) = zs.any p ∧ Below w.heap.size w w' := by
  obtain ⟨q, cq, rfl, lq, mq, zq, iq⟩ := h
  have E1 := Lib.hid iq
  have PP := Lib.hid hp
  clear iq zq mq hp
  go_enter Try.func82, Try.ntmps82
  go_wp2
  go_loopw [8] (fun i wr => ∃ k : Nat, k ≤ zs.length ∧ i = .int .i64 k ∧ Hid (∀ j, j < k → p (zs.getD j 0) = false) ∧ Hid (Below w.heap.size w wr)) (fun i _ => zs.length - (intOf i).toNat)
  case atStart => exact ⟨0, Nat.zero_le _, rfl, Lib.hid (fun j hj => by omega), Lib.hid (Below.refl _ _)⟩
  case round =>
    obtain ⟨k, hk, rfl, HA, HB⟩ := hrel
    by_cases hlt : k < zs.length
    · obtain ⟨b, off, rfl, hb, hc⟩ := E1.out.get hlt
      have hcw : wr.cell? ⟨b, off + k, none⟩ = some (.int .i64 (zs.getD k 0)) := by rw [HB.out.cell (p := ⟨b, off + k, none⟩) hb]; exact hc
      have C := Lib.hid (PP.out wr (zs.getD k 0) (getD_memV hlt) HB.out)
      have i0 : (0 : Int) ≤ (k : Int) := by omega
      have i1 : (k : Int) < (zs.length : Int) := by omega
      have HIT := Lib.hid (any_hitY (p := p) hlt)
      have NX : Hid (p (zs.getD k 0) = false → ∀ j, j < k + 1 → p (zs.getD j 0) = false) := Lib.hid (fun h j hj => by
        rcases Nat.lt_or_ge j k with h' | h'
        · exact HA.out j h'
        · obtain rfl : j = k := by omega
          exact h)
      obtain ⟨z, hz⟩ : ∃ z, z = zs.getD k 0 := ⟨_, rfl⟩
      rw [← hz] at hcw C HIT NX
      clear hc hz HA
      obtain ⟨t, ht⟩ : ∃ t, t = p z := ⟨_, rfl⟩
      rw [← ht] at C HIT NX
      clear ht
      cases t
      · have N2 := Lib.hid (NX.out rfl)
        clear HIT NX
        go_wp2_with (go_at_fn g; refine C.out.mono ?_; rintro e w1 ⟨rfl, b1⟩)
        have HB1 := Lib.hid (HB.out.trans (b1.mono HB.out.size))
        clear b1
        go_roundw
        case rel => exact ⟨k + 1, by omega, by go_num, N2, HB1⟩
        case measure => simp [intOf]; omega
      · have N2 := Lib.hid (HIT.out rfl)
        clear HIT NX
        go_wp2_with (go_at_fn g; refine C.out.mono ?_; rintro e w1 ⟨rfl, b1⟩)
        have HB1 := Lib.hid (HB.out.trans (b1.mono HB.out.size))
        clear b1
        go_ret
        exact ⟨_, rfl, by omega, by omega, by rw [N2.out, decide_eq_true_iff]; omega, HB1.out⟩
    · have R := Lib.hid (any_missY (p := p) (zs := zs) (fun j hj => HA.out j (by omega)))
      clear HA
      go_wp2
      go_ret
      exact ⟨_, rfl, by omega, by omega, by rw [R.out]; rfl, HB.out⟩
set_option maxHeartbeats 1000000 in
theorem containsY (zs : List Int) (v : Value) (g : Nat) (lb : Array Value) (p : Int → Bool) (w : World) (eg : ∀ args w, (callFunc g args).run Try.prog w = .ok (.enter g args) w)
    (hn : zs.length ≤ 1048576) (h : IntsV w w.heap.size v zs) (hp : PredY g lb p zs w) :
    Calls Try.prog 74 #[v, .func (.func g) #[] lb] w (Gives (.bool (zs.any p)) w) := by
  have C := Lib.hid (indexY zs v g lb p w eg hn h hp)
  obtain ⟨q, cq, rfl, _⟩ := h
  clear hp
  go_enter Try.func74, Try.ntmps74
  go_wp2_with fail
  refine C.out.mono ?_
  rintro e w1 ⟨k, rfl, h1, h2, h3, b1⟩
  have HB := Lib.hid b1
  have H3 := Lib.hid h3
  clear b1 h3
  go_wp2_with fail
  go_ret
  exact ⟨congrArg (fun b => Ending.returned (.bool b)) H3.out, HB.out⟩
set_option maxHeartbeats 2000000 in
theorem offPred (lo hi : Int) (zs : List Int) (w W0 : World) (A B : Nat) (ha : W0.cell? ⟨A, 0, none⟩ = some (.int .i64 lo)) (hA : A < W0.heap.size) (hb : W0.cell? ⟨B, 0, none⟩ = some (.int .i64 hi)) (hB : B < W0.heap.size) :
    PredY 80 #[.pointer (some ⟨A, 0, none⟩), .pointer (some ⟨B, 0, none⟩)] (offB lo hi) zs W0 := by
  intro W z hz hbl
  have x0 : W.cell? ⟨A, 0, none⟩ = some (.int .i64 lo) := by rw [hbl.cell (p := ⟨A, 0, none⟩) hA]; exact ha
  have x1 : W.cell? ⟨B, 0, none⟩ = some (.int .i64 hi) := by rw [hbl.cell (p := ⟨B, 0, none⟩) hB]; exact hb
  have F := Lib.hid (fun w => fromY z lo hi w)
  have D : Hid (offB lo hi z = !decide (lo ≤ z ∧ z ≤ hi)) := Lib.hid rfl
  clear ha hb hbl hz
  show Calls _ _ #[.int .i64 z, .pointer (some ⟨A, 0, none⟩), .pointer (some ⟨B, 0, none⟩)] _ _
  generalize decide (lo ≤ z ∧ z ≤ hi) = bb at *
  go_enter Try.func80, Try.ntmps80
  go_wp2_with fail
  refine (F.out _).mono ?_
  rintro e w1 ⟨rfl, rfl⟩
  go_wp2_with fail
  go_ret
  exact ⟨by rw [D.out]; rfl, Below.refl _ _⟩
set_option maxHeartbeats 2000000 in
theorem areFromY (zs : List Int) (v : Value) (lo hi : Int) (w : World) (hn : zs.length ≤ 1048576) (h : IntsV w w.heap.size v zs) :
    Calls Try.prog 70 #[v, .int .i64 lo, .int .i64 hi] w (Gives (.bool (fromB lo hi zs)) w) := by
  have UV := Lib.hid (fun w' (hb : Below w.heap.size w w') => (h.below hb).more hb.size)
  obtain ⟨q, cq, rfl, _⟩ := h
  have B1 := ((Below.refl w.heap.size w).alloc (Nat.le_refl _) (.cells #[.int .i64 lo] 3))
  have s1 : (w.alloc (.cells #[.int .i64 lo] 3)).heap.size = w.heap.size + 1 := by simp
  have B2 := B1.alloc B1.size (.cells #[.int .i64 hi] 3)
  have K1 := alloc_heap w (.cells #[.int .i64 lo] 3)
  have K2 := alloc_heap (w.alloc (.cells #[.int .i64 lo] 3)) (.cells #[.int .i64 hi] 3)
  have B12 := ((Below.refl (w.heap.size + 1) (w.alloc (.cells #[.int .i64 lo] 3))).alloc (by rw [s1]; exact Nat.le_refl _) (.cells #[.int .i64 hi] 3))
  have x0 : ((w.alloc (.cells #[.int .i64 lo] 3)).alloc (.cells #[.int .i64 hi] 3)).cell? ⟨w.heap.size, 0, none⟩ = some (.int .i64 lo) := by
    rw [B12.cell (p := ⟨w.heap.size, 0, none⟩) (by show w.heap.size < w.heap.size + 1; omega)]; exact (cell_of_heap (o := 0) K1 rfl).1
  have x1 : ((w.alloc (.cells #[.int .i64 lo] 3)).alloc (.cells #[.int .i64 hi] 3)).cell? ⟨w.heap.size + 1, 0, none⟩ = some (.int .i64 hi) := by
    rw [← s1]; exact (cell_of_heap (o := 0) K2 rfl).1
  clear K1 K2 B12 s1
  have hmf : ∀ (fn : Fn) (first cap : Array Value) (w : World), (Instr.makeFunc fn first cap).run Try.prog w = .ok (.func fn first cap) w := fun _ _ _ _ => rfl
  obtain ⟨wa, hwa⟩ : ∃ wa, wa = (w.alloc (.cells #[.int .i64 lo] 3)).alloc (.cells #[.int .i64 hi] 3) := ⟨_, rfl⟩
  have hs : w.heap.size + 1 < wa.heap.size := by rw [hwa]; simp
  rw [← hwa] at B2 x0 x1
  have C := Lib.hid (containsY zs _ 80 #[.pointer (some ⟨w.heap.size, 0, none⟩), .pointer (some ⟨w.heap.size + 1, 0, none⟩)] (offB lo hi) wa (enters_of Try.func80 (by kernel_rfl) rfl) hn (UV.out wa B2) (offPred lo hi zs w wa w.heap.size (w.heap.size + 1) x0 (by omega) x1 hs))
  have HB := Lib.hid B2
  have AO := Lib.hid (any_off lo hi zs)
  clear B1 B2 UV
  generalize fromB lo hi zs = bb at *
  go_enter Try.func70, Try.ntmps70
  go_wp2_with fail
  rw [← hwa]
  clear hwa
  refine C.out.mono ?_
  rintro e w1 ⟨rfl, b1⟩
  rw [AO.out]
  have HB1 := Lib.hid (HB.out.trans (b1.mono HB.out.size))
  clear b1
  go_wp2_with fail
  go_ret
  exact ⟨by simp, HB1.out⟩
set_option maxHeartbeats 2000000 in
theorem totY (zs : List Int) (v : Value) (B : Nat) (w : World) (hn : zs.length ≤ 1048576) (hb : ∀ i, i < zs.length → -1000000000 ≤ zs.getD i 0 ∧ zs.getD i 0 ≤ 1000000000) (h : IntsV w B v zs) :
    Calls Try.prog 46 #[v] w fun e w' => e = .returned (.int .i64 (smT zs zs.length)) ∧ w = w' := by
  obtain ⟨q, cq, rfl, lq, mq, zq, iq⟩ := h
  have E1 := Lib.hid iq
  have BD := Lib.hid hb
  have SB := Lib.hid (fun k hk => smT_bd (zs := zs) (B := 1000000000) (fun i hi => by have := hb i hi; omega) k hk)
  have ST := Lib.hid (fun k => show smT zs (k + 1) = smT zs k + zs.getD k 0 from rfl)
  clear iq zq mq lq hb
  go_enter Try.func46, Try.ntmps46
  go_wp2
  go_loopg [3, 8] zs.length (fun gg s i wr => ∃ k : Nat, k ≤ zs.length ∧ zs.length - k ≤ gg ∧ i = .int .i64 k ∧ s = .int .i64 (smT zs k) ∧ wr = w)
  case atStart => exact ⟨0, Nat.zero_le _, by omega, rfl, rfl, rfl⟩
  case round =>
    obtain ⟨k, hk, hgg, rfl, rfl, rfl⟩ := hrel
    by_cases hlt : k < zs.length
    · obtain ⟨b, off, rfl, hb, hc⟩ := E1.out.get hlt
      have i0 : (0 : Int) ≤ (k : Int) := by omega
      have i1 : (k : Int) < (zs.length : Int) := by omega
      have sb := SB.out k hk
      have zb := BD.out k hlt
      have st := Lib.hid (ST.out k)
      have kb : k * 1000000000 ≤ 1048576000000000 := by omega
      obtain ⟨z, hz⟩ : ∃ z, z = zs.getD k 0 := ⟨_, rfl⟩
      rw [← hz] at hc st zb
      obtain ⟨s, hs⟩ : ∃ s, s = smT zs k := ⟨_, rfl⟩
      rw [← hs] at sb st ⊢
      have sb1 : -1048576000000000 ≤ s ∧ s ≤ 1048576000000000 := by omega
      clear hz hs sb kb
      go_wp2_with fail
      go_roundg (zs.length - (k + 1))
      case rel => exact ⟨k + 1, by omega, by omega, by go_num, by rw [st.out], rfl⟩
      case measure => omega
    · have hkz : k = zs.length := by omega
      have FIN := Lib.hid (show smT zs k = smT zs zs.length by rw [hkz])
      clear hkz
      go_wp2_with fail
      go_ret
      exact ⟨by rw [FIN.out]; rfl, rfl⟩
theorem lst_ne {A B : List Int} {k : Nat} (hk : k < A.length) (h : A.getD k 0 ≠ B.getD k 0) : decide (A = B) = false := by
  rw [decide_eq_false_iff_not]
  intro e
  rw [e] at h
  exact h rfl
theorem lst_all {A B : List Int} (hl : A.length = B.length) (h : ∀ j, j < A.length → A.getD j 0 = B.getD j 0) : decide (A = B) = true := by
  rw [decide_eq_true_iff]
  apply List.ext_getElem hl
  intro i h1 h2
  have := h i h1
  rwa [List.getD_eq_getElem?_getD, List.getElem?_eq_getElem h1, List.getD_eq_getElem?_getD, List.getElem?_eq_getElem h2] at this
set_option maxRecDepth 100000 in
set_option maxHeartbeats 4000000 in
theorem equalY (A B : List Int) (v u : Value) (w : World) (ha : A.length ≤ 1048576) (hb : B.length ≤ 1048576) (hv : IntsV w w.heap.size v A) (hu : IntsV w w.heap.size u B) :
    Calls Try.prog 44 #[v, u] w fun e w' => e = .returned (.bool (decide (A = B))) ∧ ∃ m, w' = w.drewN m := by
  obtain ⟨q1, c1, rfl, _, _, _, i1⟩ := hv
  obtain ⟨q2, c2, rfl, _, _, _, i2⟩ := hu
  have E1 := Lib.hid i1
  have E2 := Lib.hid i2
  clear i1 i2
  by_cases hl : A.length = B.length
  · have HL := Lib.hid hl
    have le1 : A.length ≤ B.length := by omega
    have le2 : B.length ≤ A.length := by omega
    have hlb : ((A.length : Int) != (B.length : Int)) = false := by rw [bne_eq_false_iff_eq]; omega
    clear hl
    go_enter Try.func44, Try.ntmps44
    go_wp2_with fail
    go_loopw [13] (fun i wr => ∃ k : Nat, k ≤ A.length ∧ i = .int .i64 k ∧ Hid (∀ j, j < k → A.getD j 0 = B.getD j 0) ∧ ∃ m, wr = w.drewN m) (fun i _ => A.length - (intOf i).toNat)
    case atStart => exact ⟨0, Nat.zero_le _, rfl, Lib.hid (fun j hj => by omega), 0, rfl⟩
    case round =>
      obtain ⟨k, hk, rfl, HA, m, rfl⟩ := hrel
      by_cases hlt : k < A.length
      · obtain ⟨b, off, hq, hb1, hc⟩ := E1.out.get hlt
        subst hq
        obtain ⟨b', off', hq, hb2, hd⟩ := E2.out.get (i := k) (by omega)
        subst hq
        have NE := Lib.hid (fun h => lst_ne (A := A) (B := B) hlt h)
        have NX : Hid (A.getD k 0 = B.getD k 0 → ∀ j, j < k + 1 → A.getD j 0 = B.getD j 0) := Lib.hid (fun h j hj => by
          rcases Nat.lt_or_ge j k with h' | h'
          · exact HA.out j h'
          · obtain rfl : j = k := by omega
            exact h)
        have i0 : (0 : Int) ≤ (k : Int) := by omega
        have i1 : (k : Int) < (A.length : Int) := by omega
        have i2 : (k : Int) < (B.length : Int) := by omega
        obtain ⟨x, hx⟩ : ∃ x, x = A.getD k 0 := ⟨_, rfl⟩
        obtain ⟨y, hy⟩ : ∃ y, y = B.getD k 0 := ⟨_, rfl⟩
        rw [← hx] at hc NE NX
        rw [← hy] at hd NE NX
        clear hx hy HA
        by_cases h1 : x = y
        · have N2 := Lib.hid (NX.out h1)
          have hbe : (x != y) = false := by simp [h1]
          clear NX NE h1
          go_wp2_with fail
          first
            | (go_roundw
               case rel => exact ⟨k + 1, by omega, by go_num, N2, by first | exact ⟨_, rfl⟩ | exact ⟨_, World.drewN_drewN _ _ _⟩⟩
               case measure => simp [intOf]; omega)
            | (go_quiet (fail)
               go_wp2_with fail
               go_roundw
               case rel => exact ⟨k + 1, by omega, by go_num, N2, by first | exact ⟨_, rfl⟩ | exact ⟨_, World.drewN_drewN _ _ _⟩⟩
               case measure => simp [intOf]; omega)
        · have R := Lib.hid (NE.out h1)
          have hbe : (x != y) = true := by simpa using h1
          clear NX NE h1
          go_wp2_with fail
          first
            | (go_ret
               exact ⟨ret_bY R.out, by first | exact ⟨_, rfl⟩ | exact ⟨_, World.drewN_drewN _ _ _⟩⟩)
            | (go_quiet (fail)
               go_wp2_with fail
               go_ret
               exact ⟨ret_bY R.out, by first | exact ⟨_, rfl⟩ | exact ⟨_, World.drewN_drewN _ _ _⟩⟩)
      · have R := Lib.hid (lst_all HL.out (fun j hj => HA.out j (by omega)))
        clear HA
        go_wp2
        go_ret
        exact ⟨ret_bY R.out, m, rfl⟩
  · have R : Hid (decide (A = B) = false) := Lib.hid (by
      rw [decide_eq_false_iff_not]
      intro e
      rw [e] at hl
      exact hl rfl)
    have hlb : ((A.length : Int) != (B.length : Int)) = true := by rw [bne_iff_ne]; omega
    go_enter Try.func44, Try.ntmps44
    go_wp2
    go_ret
    exact ⟨ret_bY R.out, 0, rfl⟩
set_option maxRecDepth 100000 in
set_option maxHeartbeats 1000000 in
theorem cloneY (zs : List Int) (v : Value) (w : World) (hp : 0 < zs.length) (hn : zs.length ≤ 1048576) (h : IntsV w w.heap.size v zs) :
    Calls Try.prog 76 #[v] w (NewInts zs w) := by
  obtain ⟨p, cap, rfl, hc, hm, hz, hI⟩ := h
  obtain ⟨b, off, rfl, hb, _⟩ := hI.get hp
  have CE : ∀ j u, (zs.map (Value.int .i64))[j]? = some u → (w.alloc (.cells #[] 3)).cell? ((⟨b, off, none⟩ : Addr).add j) = some u := by
    intro j u hu
    rw [List.getElem?_map] at hu
    have hj : j < zs.length := by
      rcases Nat.lt_or_ge j zs.length with h' | h'
      · exact h'
      · rw [List.getElem?_eq_none h'] at hu; cases hu
    obtain ⟨b', off', e, hb', hc'⟩ := hI j hj
    obtain ⟨rfl, rfl⟩ : b = b' ∧ off = off' := by simpa using e
    rw [List.getElem?_eq_getElem hj] at hu
    rw [Addr.add_lit, World.cell?_alloc_lt _ _ _ (by exact hb'), hc']; exact hu
  have HZ := Lib.hid hz
  have HCE := Lib.hid CE
  clear hI hz CE
  obtain ⟨i0, hi, hz0, hz1, hz2⟩ := info_parts intInfo
  have B1 := Lib.hid ((Below.refl w.heap.size w).alloc (Nat.le_refl _) (.cells #[] 3))
  have O1 := Lib.hid (OwnV.empty w w.heap.size (Nat.le_refl _))
  have q22 : ∀ (w : World) (a : Option Addr) (n c n' c' : Nat), (binOp .eql 22 (.slice a n c) (.slice none n' c')).run Try.prog w = .ok (.bool a.isNone) w := fun w a n c n' c' => Lib.run_eql_slice_nil w _ _ a n c n' c' Try.underlying22
  go_enter Try.func76, Try.ntmps76
  go_wp2_with (at_builtin; refine wpList_append_own _ rfl _ _ 22 rfl w.heap.size 3 i0 (.int .i64 0) 1 8 Try.underlying22 hi hz0 hz1 hz2 rfl (by decide) _ 0 [] rfl O1.out.row ⟨b, off, none⟩ zs.length cap (zs.map (.int .i64)) rfl (by simp) HCE.out (fun u hu => by obtain ⟨z, _, rfl⟩ := List.mem_map.1 hu; rfl) (by unfold maxLen; omega) (by omega) (by simp) ?_; intro v' w3 hown3 hgrow3 hnil3)
  have FIN : Hid (NewInts zs w (.returned v') w3) := Lib.hid ⟨v', rfl, ⟨by simpa using hown3, fun q hq => (hown3.lt q hq).2, Nat.le_refl _, HZ.out⟩, B1.out.grown hgrow3 (by simp) (fun q hq => (O1.out.row.lt q hq).1)⟩
  clear hown3 hgrow3 hnil3
  go_ret
  exact FIN.out
end Go.Proofs.Ytligidmkhbcpmab
