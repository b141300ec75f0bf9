/- IsSpread, AreAlike, DistanceOf, IsAbove, EarthDistance, IsWider in the model: what they answer. -/
import Derived.Test.YtligidmkhbcpmaaSprM
import Derived.Test.YtligidmkhbcpmaaSprV
import Derived.Deep.QuietTactic
import Derived.BigQuiet
namespace Go.Proofs.Ytligidmkhbcpmaa
open Go.RowKit
set_option linter.unusedVariables false
set_option maxRecDepth 100000 in
set_option maxHeartbeats 2000000 in
theorem isSprS (zs : List Int) (v : Value) (w : World) (hn : zs.length ≤ 1048576) (h : IntsV w w.heap.size v zs) :
    Calls Try.prog 12 #[v] w (Gives (.bool (sprB zs)) w) := by
  have AL := Lib.hid (sprS zs v w.heap.size w hn h)
  obtain ⟨q1, c1, rfl, _⟩ := h
  go_enter Try.func12, Try.ntmps12
  go_wp2_with fail
  refine AL.out.mono ?_
  rintro e w1 ⟨rfl, b1⟩
  have B1 := Lib.hid b1
  clear b1
  go_wp2_with fail
  go_ret
  exact ⟨rfl, B1.out⟩
set_option maxRecDepth 100000 in
set_option maxHeartbeats 2000000 in
theorem areAliS (ps qs : List Int) (v u : Value) (w : World) (hp : ps.length ≤ 1048576) (hq : qs.length ≤ 1048576) (hv : IntsV w w.heap.size v ps) (hu : IntsV w w.heap.size u qs) :
    Calls Try.prog 16 #[v, u] w (Gives (aliV ps qs) w) := by
  have AL := Lib.hid (sprS ps v w.heap.size w hp hv)
  have AQ := Lib.hid (fun w' (hb : Below w.heap.size w w') => sprS qs u w.heap.size w' hq (hu.below hb))
  have AA := Lib.hid (fun w' (hb : Below w.heap.size w w') => aliS ps qs v u w.heap.size w.heap.size w' hp hq hb.size hb.size (hv.below hb) (hu.below hb))
  unfold aliV
  obtain ⟨q1, c1, rfl, _⟩ := hv
  obtain ⟨q2, c2, rfl, _⟩ := hu
  have NO1 := Lib.hid (fun (h : sprB ps = false) => show aliB ps qs = false by unfold aliB; rw [h]; rfl)
  have NO2 := Lib.hid (fun (h : sprB qs = false) => show aliB ps qs = false by unfold aliB; rw [h, Bool.and_false]; rfl)
  cases h1 : sprB ps
  · rw [h1] at AL
    rw [NO1.out h1]
    clear h1 NO1 NO2
    go_enter Try.func16, Try.ntmps16
    go_wp2_with fail
    refine AL.out.mono ?_
    rintro e w1 ⟨rfl, b1⟩
    have B1 := Lib.hid b1
    clear b1
    go_wp2_with fail
    go_ret2
    exact ⟨rfl, B1.out⟩
  · rw [h1] at AL
    cases h2 : sprB qs
    · rw [h2] at AQ
      rw [NO2.out h2]
      clear h1 h2 NO1 NO2
      go_enter Try.func16, Try.ntmps16
      go_wp2_with fail
      refine AL.out.mono ?_
      rintro e w1 ⟨rfl, b1⟩
      have B1 := Lib.hid b1
      clear b1
      go_wp2_with fail
      refine (AQ.out _ B1.out).mono ?_
      rintro e w2 ⟨rfl, b2⟩
      have B2 := bl_upS B1 b2
      clear b2
      go_wp2_with fail
      go_ret2
      exact ⟨rfl, B2.out⟩
    · rw [h2] at AQ
      clear h1 h2 NO1 NO2
      generalize aliB ps qs = X at *
      go_enter Try.func16, Try.ntmps16
      go_wp2_with fail
      refine AL.out.mono ?_
      rintro e w1 ⟨rfl, b1⟩
      have B1 := Lib.hid b1
      clear b1
      go_wp2_with fail
      refine (AQ.out _ B1.out).mono ?_
      rintro e w2 ⟨rfl, b2⟩
      have B2 := bl_upS B1 b2
      clear b2
      go_wp2_with fail
      refine (AA.out _ B2.out).mono ?_
      rintro e w3 ⟨rfl, b3⟩
      have B3 := bl_upS B2 b3
      clear b3
      go_wp2_with fail
      go_ret2
      exact ⟨rfl, B3.out⟩
set_option maxRecDepth 100000 in
set_option maxHeartbeats 4000000 in
theorem disS (ps qs : List Int) (v u : Value) (w : World) (hp : ps.length ≤ 1048576) (hq : qs.length ≤ 1048576) (hv : IntsV w w.heap.size v ps) (hu : IntsV w w.heap.size u qs) :
    Calls Try.prog 18 #[v, u] w (Gives (disV ps qs) w) := by
  have AL := Lib.hid (aliS ps qs v u w.heap.size w.heap.size w hp hq (Nat.le_refl _) (Nat.le_refl _) hv hu)
  cases ha : aliB ps qs
  · rw [show disV ps qs = .tuple #[.int .i64 0, .bool false] from if_neg (by rw [ha]; decide)]
    rw [ha] at AL
    obtain ⟨q1, c1, rfl, _⟩ := hv
    obtain ⟨q2, c2, rfl, _⟩ := hu
    clear ha
    go_enter Try.func18, Try.ntmps18
    go_wp2_with fail
    refine AL.out.mono ?_
    rintro e w1 ⟨rfl, b1⟩
    have B1 := Lib.hid b1
    clear b1
    go_wp2_with fail
    go_ret2
    exact ⟨rfl, B1.out⟩
  · rw [show disV ps qs = .tuple #[.int .i64 (exT ps qs ps.length), .bool true] from if_pos ha]
    have A := aliB_iff.1 ha
    rw [ha] at AL
    obtain ⟨q1, c1, rfl, _, _, _, iq⟩ := hv
    obtain ⟨q2, c2, rfl, _, _, _, ir⟩ := hu
    have E1 := Lib.hid iq
    have E2 := Lib.hid ir
    have PA := Lib.hid A.p
    have QA := Lib.hid A.q
    have HA := Lib.hid A
    have n8 := A.p.n8
    have l1 : ps.length ≤ qs.length := by have := A.len; omega
    have SB := Lib.hid (fun k hk => exT_bd (ps := ps) (qs := qs) (B := 40) (n := ps.length) (fun i hi => by have := A.p.bd i hi; have := A.q.bd i (by omega); omega) k hk)
    have ST := Lib.hid (fun k => show exT ps qs (k + 1) = exT ps qs k + max (ps.getD k 0 - qs.getD k 0) 0 by simp only [exT]; omega)
    have M := Lib.hid (fun a w => mostS a 0 w)
    clear iq ir A ha
    go_enter Try.func18, Try.ntmps18
    go_wp2_with fail
    refine AL.out.mono ?_
    rintro e w1 ⟨rfl, b1⟩
    have B1 := Lib.hid b1
    clear b1
    go_wp2_with fail
    go_loopg [6, 7] ps.length (fun gg s i wr => ∃ k : Nat, k ≤ ps.length ∧ ps.length - k ≤ gg ∧ i = .int .i64 k ∧ s = .int .i64 (exT ps qs k) ∧ Hid (Below w.heap.size w wr))
    case atStart => exact ⟨0, Nat.zero_le _, by omega, rfl, rfl, B1⟩
    case round =>
      clear B1
      obtain ⟨k, hk, hgg, rfl, rfl, HB⟩ := hrel
      by_cases hlt : k < ps.length
      · obtain ⟨b, off, rfl, hb, hc⟩ := E1.out.get hlt
        obtain ⟨b2, off2, rfl, hb2, hc2⟩ := E2.out.get (i := k) (by omega)
        have hcw : wr.cell? ⟨b, off + k, none⟩ = some (.int .i64 (ps.getD k 0)) := by rw [HB.out.cell (p := ⟨b, off + k, none⟩) hb]; exact hc
        have hcw2 : wr.cell? ⟨b2, off2 + k, none⟩ = some (.int .i64 (qs.getD k 0)) := by rw [HB.out.cell (p := ⟨b2, off2 + k, none⟩) hb2]; exact hc2
        have i0 : (0 : Int) ≤ (k : Int) := by omega
        have i1 : (k : Int) < (ps.length : Int) := by omega
        have i2 : (k : Int) < (qs.length : Int) := by omega
        have xb := PA.out.bd k hlt
        have yb := QA.out.bd k (by omega)
        have sb := SB.out k hk
        have st := Lib.hid (ST.out k)
        have kb : k * 40 ≤ 320 := by omega
        obtain ⟨x, hx⟩ : ∃ z, z = ps.getD k 0 := ⟨_, rfl⟩
        rw [← hx] at hcw st xb
        obtain ⟨y, hy⟩ : ∃ z, z = qs.getD k 0 := ⟨_, rfl⟩
        rw [← hy] at hcw2 st yb
        obtain ⟨s, hs⟩ : ∃ s, s = exT ps qs k := ⟨_, rfl⟩
        rw [← hs] at sb st ⊢
        have sb1 : 0 ≤ s ∧ s ≤ 320 := by omega
        have W1 : IntKind.i64.wrap (x - y) = x - y := IntWalk.i64_in _ (by omega)
        have M2 := Lib.hid (M.out (x - y))
        have m1 : 0 ≤ max (x - y) 0 ∧ max (x - y) 0 ≤ 40 := by omega
        obtain ⟨m, hm⟩ : ∃ m, m = max (x - y) 0 := ⟨_, rfl⟩
        rw [← hm] at m1 M2 st
        have W2 : IntKind.i64.wrap (s + m) = s + m := IntWalk.i64_in _ (by omega)
        clear hc hc2 hx hy hs sb kb hm M hb hb2
        go_wp2_with fail
        go_quiet ((go_at_call 39; first | exact quiet_left (M2.out _) | exact quiet_add_left (M2.out _)))
        go_wp2_with fail
        go_roundg (ps.length - (k + 1))
        case rel => exact ⟨k + 1, by omega, by omega, by go_num, by rw [st.out], Lib.hid (by first | exact below_drewN HB.out _ | exact HB.out)⟩
        case measure => omega
      · have hkz : k = ps.length := by omega
        have FIN := Lib.hid (show exT ps qs k = exT ps qs ps.length by rw [hkz])
        clear hkz
        go_wp2_with fail
        go_ret2
        exact ⟨by rw [FIN.out]; rfl, HB.out⟩
set_option maxRecDepth 100000 in
set_option maxHeartbeats 4000000 in
theorem abvS (ps qs : List Int) (v u : Value) (w : World) (hp : ps.length ≤ 1048576) (hq : qs.length ≤ 1048576) (hv : IntsV w w.heap.size v ps) (hu : IntsV w w.heap.size u qs) :
    Calls Try.prog 20 #[v, u] w (Gives (abvV ps qs) w) := by
  have AL := Lib.hid (aliS ps qs v u w.heap.size w.heap.size w hp hq (Nat.le_refl _) (Nat.le_refl _) hv hu)
  cases ha : aliB ps qs
  · rw [show abvV ps qs = .tuple #[.bool false, .bool false] from if_neg (by rw [ha]; decide)]
    rw [ha] at AL
    obtain ⟨q1, c1, rfl, _⟩ := hv
    obtain ⟨q2, c2, rfl, _⟩ := hu
    clear ha
    go_enter Try.func20, Try.ntmps20
    go_wp2_with fail
    refine AL.out.mono ?_
    rintro e w1 ⟨rfl, b1⟩
    have B1 := Lib.hid b1
    clear b1
    go_wp2_with fail
    go_ret2
    exact ⟨rfl, B1.out⟩
  · rw [show abvV ps qs = .tuple #[.bool (abvB ps qs), .bool true] from if_pos ha]
    have A := aliB_iff.1 ha
    rw [ha] at AL
    obtain ⟨q1, c1, rfl, _, _, _, iq⟩ := hv
    obtain ⟨q2, c2, rfl, _, _, _, ir⟩ := hu
    have E1 := Lib.hid iq
    have E2 := Lib.hid ir
    have PA := Lib.hid A.p
    have QA := Lib.hid A.q
    have HA := Lib.hid A
    have n8 := A.p.n8
    have l1 : ps.length ≤ qs.length := by have := A.len; omega
    have ST := Lib.hid (fun (zs : List Int) k => show smT zs (k + 1) = smT zs k + zs.getD k 0 from rfl)
    have YES := Lib.hid (fun h => (abv_iff A.len).2 h)
    have NO := Lib.hid (fun k (hk : k < ps.length) h => abv_no A.len hk h)
    clear iq ir A ha
    go_enter Try.func20, Try.ntmps20
    go_wp2_with fail
    refine AL.out.mono ?_
    rintro e w1 ⟨rfl, b1⟩
    have B1 := Lib.hid b1
    clear b1
    go_wp2_with fail
    go_loopg [6, 7, 8] ps.length (fun gg s t i wr => ∃ k : Nat, k ≤ ps.length ∧ ps.length - k ≤ gg ∧ i = .int .i64 k ∧ s = .int .i64 (smT ps k) ∧ t = .int .i64 (smT qs k) ∧ Hid (∀ j, j < k → smT ps (j + 1) ≤ smT qs (j + 1)) ∧ Hid (Below w.heap.size w wr))
    case atStart => exact ⟨0, Nat.zero_le _, by omega, rfl, rfl, rfl, Lib.hid (fun j hj => by omega), B1⟩
    case round =>
      clear B1
      obtain ⟨k, hk, hgg, rfl, rfl, rfl, HL, HB⟩ := hrel
      by_cases hlt : k < ps.length
      · obtain ⟨b, off, rfl, hb, hc⟩ := E1.out.get hlt
        obtain ⟨b2, off2, rfl, hb2, hc2⟩ := E2.out.get (i := k) (by omega)
        have hcw : wr.cell? ⟨b, off + k, none⟩ = some (.int .i64 (ps.getD k 0)) := by rw [HB.out.cell (p := ⟨b, off + k, none⟩) hb]; exact hc
        have hcw2 : wr.cell? ⟨b2, off2 + k, none⟩ = some (.int .i64 (qs.getD k 0)) := by rw [HB.out.cell (p := ⟨b2, off2 + k, none⟩) hb2]; exact hc2
        have i0 : (0 : Int) ≤ (k : Int) := by omega
        have i1 : (k : Int) < (ps.length : Int) := by omega
        have i2 : (k : Int) < (qs.length : Int) := by omega
        have xb := PA.out.bd k hlt
        have yb := QA.out.bd k (by omega)
        have s1 := PA.out.sm (k := k) (by omega)
        have s2 := QA.out.sm (k := k) (by omega)
        have t1 := ST.out ps k
        have t2 := ST.out qs k
        have NX : Hid (smT ps (k + 1) ≤ smT qs (k + 1) → ∀ j, j < k + 1 → smT ps (j + 1) ≤ smT qs (j + 1)) := Lib.hid (fun h j hj => by
          rcases Nat.lt_or_ge j k with c | c
          · exact HL.out j c
          · obtain rfl : j = k := by omega
            exact h)
        have N2 := Lib.hid (NO.out k hlt)
        have st1 := Lib.hid t1
        have st2 := Lib.hid t2
        rw [t1, t2] at NX N2
        obtain ⟨x, hx⟩ : ∃ z, z = ps.getD k 0 := ⟨_, rfl⟩
        rw [← hx] at hcw st1 xb NX N2
        obtain ⟨y, hy⟩ : ∃ z, z = qs.getD k 0 := ⟨_, rfl⟩
        rw [← hy] at hcw2 st2 yb NX N2
        obtain ⟨s, hs⟩ : ∃ s, s = smT ps k := ⟨_, rfl⟩
        rw [← hs] at s1 st1 NX N2 ⊢
        obtain ⟨t, ht⟩ : ∃ t, t = smT qs k := ⟨_, rfl⟩
        rw [← ht] at s2 st2 NX N2 ⊢
        clear hc hc2 hx hy hs ht hb hb2 HL t1 t2
        by_cases hle : s + x ≤ t + y
        · have N3 := Lib.hid (NX.out hle)
          clear NX N2
          go_wp2_with fail
          go_roundg (ps.length - (k + 1))
          case rel => exact ⟨k + 1, by omega, by omega, by go_num, by rw [st1.out], by rw [st2.out], N3, HB⟩
          case measure => omega
        · have N3 := Lib.hid (N2.out (by omega))
          have hgt : t + y < s + x := by omega
          clear NX N2 hle
          go_wp2_with fail
          go_ret2
          exact ⟨by rw [N3.out]; rfl, HB.out⟩
      · have FIN := Lib.hid (YES.out (fun j hj => HL.out j (by omega)))
        clear HL
        go_wp2_with fail
        go_ret2
        exact ⟨by rw [FIN.out]; rfl, HB.out⟩
set_option maxRecDepth 100000 in
set_option maxHeartbeats 4000000 in
theorem earthS (ps qs : List Int) (v u : Value) (B C : Nat) (w : World) (A : Ali ps qs) (hv : IntsV w B v ps) (hu : IntsV w C u qs) :
    Calls Try.prog 42 #[v, u] w fun e w' => e = .returned (.int .i64 (eaT ps qs ps.length)) ∧ ∃ m, w' = w.drewN m := by
  obtain ⟨q1, c1, rfl, _, _, _, iq⟩ := hv
  obtain ⟨q2, c2, rfl, _, _, _, ir⟩ := hu
  have E1 := Lib.hid iq
  have E2 := Lib.hid ir
  have PA := Lib.hid A.p
  have QA := Lib.hid A.q
  have n8 := A.p.n8
  have l1 : ps.length ≤ qs.length := by have := A.len; omega
  have ST := Lib.hid (fun (zs : List Int) k => show smT zs (k + 1) = smT zs k + zs.getD k 0 from rfl)
  have ET := Lib.hid (fun k => show eaT ps qs (k + 1) = eaT ps qs k + max (smT ps (k + 1) - smT qs (k + 1)) (-(smT ps (k + 1) - smT qs (k + 1))) from rfl)
  have EB := Lib.hid (fun k (hk : k ≤ ps.length) => show 0 ≤ eaT ps qs k ∧ eaT ps qs k ≤ ((k * 80 : Nat) : Int) by
    rw [ea_ex A.len k hk]
    have g1 := exT_bd (ps := totT ps) (qs := totT qs) (B := 40) (n := ps.length) (fun i hi => by have := totT_bd A.p i; have := totT_bd A.q i; omega) k hk
    have g2 := exT_bd (ps := totT qs) (qs := totT ps) (B := 40) (n := ps.length) (fun i hi => by have := totT_bd A.p i; have := totT_bd A.q i; omega) k hk
    omega)
  have M := Lib.hid (fun a b w => mostS a b w)
  clear iq ir A
  go_enter Try.func42, Try.ntmps42
  go_wp2_with fail
  go_loopg [5, 6, 7] ps.length (fun gg s t i wr => ∃ k : Nat, k ≤ ps.length ∧ ps.length - k ≤ gg ∧ i = .int .i64 k ∧ s = .int .i64 (eaT ps qs k) ∧ t = .int .i64 (smT ps k - smT qs k) ∧ ∃ n, wr = w.drewN n)
  case atStart => exact ⟨0, Nat.zero_le _, by omega, rfl, rfl, rfl, 0, rfl⟩
  case round =>
    obtain ⟨k, hk, hgg, rfl, rfl, rfl, n, rfl⟩ := hrel
    by_cases hlt : k < ps.length
    · obtain ⟨b, off, rfl, hb, hc⟩ := E1.out.get hlt
      obtain ⟨b2, off2, rfl, hb2, hc2⟩ := E2.out.get (i := k) (by omega)
      have i0 : (0 : Int) ≤ (k : Int) := by omega
      have i1 : (k : Int) < (ps.length : Int) := by omega
      have i2 : (k : Int) < (qs.length : Int) := by omega
      have xb := PA.out.bd k hlt
      have yb := QA.out.bd k (by omega)
      have s1 := PA.out.sm (k := k) (by omega)
      have s2 := QA.out.sm (k := k) (by omega)
      have sb := EB.out k hk
      have kb : k * 80 ≤ 640 := by omega
      have t1 := ST.out ps k
      have t2 := ST.out qs k
      have et := ET.out k
      have d1 : smT ps (k + 1) - smT qs (k + 1) = smT ps k - smT qs k + ps.getD k 0 - qs.getD k 0 := by omega
      have D1 := Lib.hid d1
      rw [d1] at et
      have st := Lib.hid et
      obtain ⟨x, hx⟩ : ∃ z, z = ps.getD k 0 := ⟨_, rfl⟩
      rw [← hx] at hc st xb D1
      obtain ⟨y, hy⟩ : ∃ z, z = qs.getD k 0 := ⟨_, rfl⟩
      rw [← hy] at hc2 st yb D1
      obtain ⟨s, hs⟩ : ∃ s, s = eaT ps qs k := ⟨_, rfl⟩
      rw [← hs] at sb st ⊢
      obtain ⟨t, ht⟩ : ∃ t, t = smT ps k - smT qs k := ⟨_, rfl⟩
      have tb : -40 ≤ t ∧ t ≤ 40 := by omega
      rw [← ht] at st D1 ⊢
      have sb1 : 0 ≤ s ∧ s ≤ 640 := by omega
      have W1 : IntKind.i64.wrap (t + x) = t + x := IntWalk.i64_in _ (by omega)
      have W2 : IntKind.i64.wrap (t + x - y) = t + x - y := IntWalk.i64_in _ (by omega)
      have M2 := Lib.hid (M.out (t + x - y) (-(t + x - y)))
      obtain ⟨z, hz⟩ : ∃ z, z = t + x - y := ⟨_, rfl⟩
      have zb : -80 ≤ z ∧ z ≤ 80 := by omega
      rw [← hz] at W2 st M2 D1
      have m1 : 0 ≤ max z (-z) ∧ max z (-z) ≤ 80 := by omega
      obtain ⟨m, hm⟩ : ∃ m, m = max z (-z) := ⟨_, rfl⟩
      rw [← hm] at m1 M2 st
      clear hx hy hs ht hm sb kb t1 t2 et d1 hb hb2 M s1 s2
      go_wp2_with fail
      go_quiet (fail)
      try rw [← hz]
      clear hz
      go_wp2_with fail
      refine (M2.out _).mono ?_
      rintro e w2 ⟨rfl, rfl⟩
      go_wp2_with fail
      go_roundg (ps.length - (k + 1))
      case rel => exact ⟨k + 1, by omega, by omega, by go_num, by rw [st.out], by rw [D1.out], by first | exact ⟨_, rfl⟩ | exact ⟨_, World.drewN_drewN _ _ _⟩⟩
      case measure => omega
    · have hkz : k = ps.length := by omega
      have FIN := Lib.hid (show eaT ps qs k = eaT ps qs ps.length by rw [hkz])
      clear hkz
      go_wp2_with fail
      go_ret
      exact ⟨by rw [FIN.out]; rfl, n, rfl⟩
set_option maxRecDepth 100000 in
set_option maxHeartbeats 4000000 in
theorem earS10 (ps qs : List Int) (v u : Value) (w : World) (hp : ps.length ≤ 1048576) (hq : qs.length ≤ 1048576) (hv : IntsV w w.heap.size v ps) (hu : IntsV w w.heap.size u qs) :
    Calls Try.prog 22 #[v, u] w (Gives (earV ps qs) w) := by
  have AL := Lib.hid (aliS ps qs v u w.heap.size w.heap.size w hp hq (Nat.le_refl _) (Nat.le_refl _) hv hu)
  cases ha : aliB ps qs
  · rw [show earV ps qs = .tuple #[.int .i64 0, .bool false] from if_neg (by rw [ha]; decide)]
    rw [ha] at AL
    obtain ⟨q1, c1, rfl, _⟩ := hv
    obtain ⟨q2, c2, rfl, _⟩ := hu
    clear ha
    go_enter Try.func22, Try.ntmps22
    go_wp2_with fail
    refine AL.out.mono ?_
    rintro e w1 ⟨rfl, b1⟩
    have B1 := Lib.hid b1
    clear b1
    go_wp2_with fail
    go_ret2
    exact ⟨rfl, B1.out⟩
  · rw [show earV ps qs = .tuple #[.int .i64 (eaT ps qs ps.length), .bool true] from if_pos ha]
    have EA := Lib.hid (fun w' (hb : Below w.heap.size w w') => earthS ps qs v u w.heap.size w.heap.size w' (aliB_iff.1 ha) (hv.below hb) (hu.below hb))
    rw [ha] at AL
    obtain ⟨q1, c1, rfl, _⟩ := hv
    obtain ⟨q2, c2, rfl, _⟩ := hu
    clear ha
    generalize eaT ps qs ps.length = X at *
    go_enter Try.func22, Try.ntmps22
    go_wp2_with fail
    refine AL.out.mono ?_
    rintro e w1 ⟨rfl, b1⟩
    have B1 := Lib.hid b1
    clear b1
    go_wp2_with fail
    refine (EA.out _ B1.out).mono ?_
    rintro e w2 ⟨rfl, m, rfl⟩
    go_wp2_with fail
    go_ret2
    exact ⟨rfl, below_drewN B1.out _⟩
set_option maxRecDepth 100000 in
set_option maxHeartbeats 4000000 in
theorem belowS (zs : List Int) (v : Value) (s : Nat) (B : Nat) (w : World) (p : Spr zs) (hs : s ≤ zs.length) (hv : IntsV w B v zs) :
    Calls Try.prog 43 #[v, .int .i64 s] w fun e w' => e = .returned (.int .i64 (blT zs s s)) ∧ w = w' := by
  obtain ⟨q1, c1, rfl, _, _, _, iq⟩ := hv
  have E1 := Lib.hid iq
  have PA := Lib.hid p
  have n8 := p.n8
  have ST := Lib.hid (fun k => show blT zs s (k + 1) = blT zs s k + zs.getD k 0 * ((s : Int) - (k : Int)) from rfl)
  have SB := Lib.hid (fun k (hk : k ≤ s) => bl_bd p s (by omega) k hk (by omega))
  clear iq p
  go_enter Try.func43, Try.ntmps43
  go_wp2_with fail
  go_loopg [5, 6] s (fun gg t i wr => ∃ k : Nat, k ≤ s ∧ s - k ≤ gg ∧ i = .int .i64 k ∧ t = .int .i64 (blT zs s k) ∧ w = wr)
  case atStart => exact ⟨0, Nat.zero_le _, by omega, rfl, rfl, rfl⟩
  case round =>
    obtain ⟨k, hk, hgg, rfl, rfl, rfl⟩ := hrel
    by_cases hlt : k < s
    · obtain ⟨b, off, rfl, hb, hc⟩ := E1.out.get (i := k) (by omega)
      have i0 : (0 : Int) ≤ (k : Int) := by omega
      have i1 : (k : Int) < (zs.length : Int) := by omega
      have i2 : (k : Int) < (s : Int) := by omega
      have xb := PA.out.bd k (by omega)
      have sb := SB.out k hk
      have st := Lib.hid (ST.out k)
      have kb : k * 320 ≤ 2560 := by omega
      have e0 : 0 ≤ zs.getD k 0 * ((s : Int) - (k : Int)) := Int.mul_nonneg xb.1 (by omega)
      have e1 : zs.getD k 0 * ((s : Int) - (k : Int)) ≤ 40 * 8 := Int.mul_le_mul xb.2 (by omega) (by omega) (by omega)
      have WM : IntKind.i64.wrap (zs.getD k 0 * ((s : Int) - (k : Int))) = zs.getD k 0 * ((s : Int) - (k : Int)) := IntWalk.i64_in _ (by omega)
      have WD : IntKind.i64.wrap ((s : Int) - (k : Int)) = (s : Int) - (k : Int) := IntWalk.i64_in _ (by omega)
      obtain ⟨x, hx⟩ : ∃ z, z = zs.getD k 0 := ⟨_, rfl⟩
      rw [← hx] at hc st xb e0 e1 WM
      obtain ⟨t, ht⟩ : ∃ t, t = blT zs s k := ⟨_, rfl⟩
      rw [← ht] at sb st ⊢
      have sb1 : 0 ≤ t ∧ t ≤ 2560 := by omega
      have W2 : IntKind.i64.wrap (t + x * ((s : Int) - (k : Int))) = t + x * ((s : Int) - (k : Int)) := IntWalk.i64_in _ (by omega)
      clear hx ht sb kb hb
      go_wp2_with fail
      go_roundg (s - (k + 1))
      case rel => exact ⟨k + 1, by omega, by omega, by go_num, by rw [st.out], rfl⟩
      case measure => omega
    · have hkz : k = s := by omega
      have FIN := Lib.hid (show blT zs s k = blT zs s s by rw [hkz])
      have i2 : ¬ (k : Int) < (s : Int) := by omega
      clear hkz
      go_wp2_with fail
      go_ret
      exact ⟨by rw [FIN.out]; rfl, rfl⟩
set_option maxRecDepth 100000 in
set_option maxHeartbeats 4000000 in
theorem momentS (zs : List Int) (v : Value) (B : Nat) (w : World) (hn : zs.length ≤ 8) (hb : ∀ i, i < zs.length → 0 ≤ zs.getD i 0 ∧ zs.getD i 0 ≤ 40) (hv : IntsV w B v zs) :
    Calls Try.prog 44 #[v] w fun e w' => e = .returned (.int .i64 (moT zs zs.length)) ∧ w = w' := by
  obtain ⟨q1, c1, rfl, _, _, _, iq⟩ := hv
  have E1 := Lib.hid iq
  have PA := Lib.hid hb
  have ST := Lib.hid (fun k => show moT zs (k + 1) = moT zs k + zs.getD k 0 * (k : Int) by simp only [moT]; rw [Int.mul_comm])
  have SB := Lib.hid (fun k (hk : k ≤ zs.length) => moT_bd (zs := zs) (B := 40) (N := 8) hn (fun i hi => hb i hi) k hk)
  clear iq hb
  go_enter Try.func44, Try.ntmps44
  go_wp2_with fail
  go_loopg [3, 4] zs.length (fun gg t i wr => ∃ k : Nat, k ≤ zs.length ∧ zs.length - k ≤ gg ∧ i = .int .i64 k ∧ t = .int .i64 (moT zs k) ∧ w = wr)
  case atStart => exact ⟨0, Nat.zero_le _, by omega, rfl, rfl, rfl⟩
  case round =>
    obtain ⟨k, hk, hgg, rfl, rfl, rfl⟩ := hrel
    by_cases hlt : k < zs.length
    · obtain ⟨b, off, rfl, hb, hc⟩ := E1.out.get (i := k) (by omega)
      have i0 : (0 : Int) ≤ (k : Int) := by omega
      have i1 : (k : Int) < (zs.length : Int) := by omega
      have xb := PA.out k (by omega)
      have sb := SB.out k hk
      have st := Lib.hid (ST.out k)
      have kb : k * (8 * 40) ≤ 2560 := by omega
      have e0 : 0 ≤ zs.getD k 0 * (k : Int) := Int.mul_nonneg xb.1 (by omega)
      have e1 : zs.getD k 0 * (k : Int) ≤ 40 * 8 := Int.mul_le_mul xb.2 (by omega) (by omega) (by omega)
      have WM : IntKind.i64.wrap (zs.getD k 0 * (k : Int)) = zs.getD k 0 * (k : Int) := IntWalk.i64_in _ (by omega)
      obtain ⟨x, hx⟩ : ∃ z, z = zs.getD k 0 := ⟨_, rfl⟩
      rw [← hx] at hc st xb e0 e1 WM
      obtain ⟨t, ht⟩ : ∃ t, t = moT zs k := ⟨_, rfl⟩
      rw [← ht] at sb st ⊢
      have sb1 : 0 ≤ t ∧ t ≤ 2560 := by omega
      have W2 : IntKind.i64.wrap (t + x * (k : Int)) = t + x * (k : Int) := IntWalk.i64_in _ (by omega)
      clear hx ht sb kb hb
      go_wp2_with fail
      go_roundg (zs.length - (k + 1))
      case rel => exact ⟨k + 1, by omega, by omega, by go_num, by rw [st.out], rfl⟩
      case measure => omega
    · have hkz : k = zs.length := by omega
      have FIN := Lib.hid (show moT zs k = moT zs zs.length by rw [hkz])
      clear hkz
      go_wp2_with fail
      go_ret
      exact ⟨by rw [FIN.out]; rfl, rfl⟩
set_option maxRecDepth 100000 in
set_option maxHeartbeats 4000000 in
theorem widS (ps qs : List Int) (v u : Value) (w : World) (hp : ps.length ≤ 1048576) (hq : qs.length ≤ 1048576) (hv : IntsV w w.heap.size v ps) (hu : IntsV w w.heap.size u qs) :
    Calls Try.prog 24 #[v, u] w (Gives (widV ps qs) w) := by
  have AL := Lib.hid (aliS ps qs v u w.heap.size w.heap.size w hp hq (Nat.le_refl _) (Nat.le_refl _) hv hu)
  cases ha : aliB ps qs
  · rw [show widV ps qs = .tuple #[.bool false, .bool false] from if_neg (by rw [ha]; decide)]
    rw [ha] at AL
    obtain ⟨q1, c1, rfl, _⟩ := hv
    obtain ⟨q2, c2, rfl, _⟩ := hu
    clear ha
    go_enter Try.func24, Try.ntmps24
    go_wp2_with fail
    refine AL.out.mono ?_
    rintro e w1 ⟨rfl, b1⟩
    have B1 := Lib.hid b1
    clear b1
    go_wp2_with fail
    go_ret2
    exact ⟨rfl, B1.out⟩
  · rw [show widV ps qs = .tuple #[.bool (widB ps qs), .bool true] from if_pos ha]
    have A := aliB_iff.1 ha
    have BP := Lib.hid (fun k (hk : k ≤ ps.length) w' (hb : Below w.heap.size w w') => belowS ps v k w.heap.size w' A.p hk (hv.below hb))
    have BQ := Lib.hid (fun k (hk : k ≤ qs.length) w' (hb : Below w.heap.size w w') => belowS qs u k w.heap.size w' A.q hk (hu.below hb))
    have MP := Lib.hid (fun w' (hb : Below w.heap.size w w') => momentS ps v w.heap.size w' A.p.n8 A.p.bd (hv.below hb))
    have MQ := Lib.hid (fun w' (hb : Below w.heap.size w w') => momentS qs u w.heap.size w' A.q.n8 A.q.bd (hu.below hb))
    rw [ha] at AL
    obtain ⟨q1, c1, rfl, _⟩ := hv
    obtain ⟨q2, c2, rfl, _⟩ := hu
    have n8 := A.p.n8
    have l1 : ps.length ≤ qs.length := by have := A.len; omega
    have YES := Lib.hid (fun h => wid_mo A h)
    have NO := Lib.hid (fun k (hk : k < ps.length) h => wid_no A hk h)
    clear A ha
    go_enter Try.func24, Try.ntmps24
    go_wp2_with fail
    refine AL.out.mono ?_
    rintro e w1 ⟨rfl, b1⟩
    have B1 := Lib.hid b1
    clear b1
    go_wp2_with fail
    go_loopg [6] ps.length (fun gg i wr => ∃ k : Nat, k ≤ ps.length ∧ ps.length - k ≤ gg ∧ i = .int .i64 k ∧ Hid (∀ j, j < k → blT qs j j ≤ blT ps j j) ∧ Hid (Below w.heap.size w wr))
    case atStart => exact ⟨0, Nat.zero_le _, by omega, rfl, Lib.hid (fun j hj => by omega), B1⟩
    case round =>
      clear B1
      obtain ⟨k, hk, hgg, rfl, HL, HB⟩ := hrel
      by_cases hlt : k < ps.length
      · have i1 : (k : Int) < (ps.length : Int) := by omega
        have C1 := Lib.hid (BP.out k hk wr HB.out)
        have C2 := Lib.hid (BQ.out k (by omega) wr HB.out)
        have NX : Hid (blT qs k k ≤ blT ps k k → ∀ j, j < k + 1 → blT qs j j ≤ blT ps j j) := Lib.hid (fun h j hj => by
          rcases Nat.lt_or_ge j k with c | c
          · exact HL.out j c
          · obtain rfl : j = k := by omega
            exact h)
        have N2 := Lib.hid (NO.out k hlt)
        generalize blT ps k k = X at *
        generalize blT qs k k = Y at *
        clear HL
        by_cases hle : Y ≤ X
        · have N3 := Lib.hid (NX.out hle)
          have hnl : ¬ X < Y := by omega
          clear NX N2 hle
          go_wp2_with fail
          refine C1.out.mono ?_
          rintro e w2 ⟨rfl, rfl⟩
          go_wp2_with fail
          refine C2.out.mono ?_
          rintro e w3 ⟨rfl, rfl⟩
          go_wp2_with fail
          go_roundg (ps.length - (k + 1))
          case rel => exact ⟨k + 1, by omega, by omega, by go_num, N3, HB⟩
          case measure => omega
        · have N3 := Lib.hid (N2.out (by omega))
          have hnl : X < Y := by omega
          clear NX N2 hle
          go_wp2_with fail
          refine C1.out.mono ?_
          rintro e w2 ⟨rfl, rfl⟩
          go_wp2_with fail
          refine C2.out.mono ?_
          rintro e w3 ⟨rfl, rfl⟩
          go_wp2_with fail
          go_ret2
          exact ⟨by rw [N3.out]; rfl, HB.out⟩
      · have FIN := Lib.hid (YES.out (fun j hj => HL.out j (by omega)))
        have C1 := Lib.hid (MP.out wr HB.out)
        have C2 := Lib.hid (MQ.out wr HB.out)
        clear HL
        generalize moT ps ps.length = X at *
        generalize moT qs qs.length = Y at *
        go_wp2_with fail
        refine C1.out.mono ?_
        rintro e w2 ⟨rfl, rfl⟩
        go_wp2_with fail
        refine C2.out.mono ?_
        rintro e w3 ⟨rfl, rfl⟩
        go_wp2_with fail
        go_ret2
        exact ⟨by rw [FIN.out]; first | rfl | simp, HB.out⟩
end Go.Proofs.Ytligidmkhbcpmaa
