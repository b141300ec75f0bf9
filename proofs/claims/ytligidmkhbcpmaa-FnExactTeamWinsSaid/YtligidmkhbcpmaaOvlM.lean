/- Words, overlaps and their sums, in the model. -/
import Derived.Test.YtligidmkhbcpmaaShwP
import Derived.Test.YtligidmkhbcpmaaInS
import Derived.Test.YtligidmkhbcpmaaRuiM
import Derived.Deep.QuietTactic
import Derived.BigQuiet
namespace Go.Proofs.Ytligidmkhbcpmaa
open Go.RowKit
set_option linter.unusedVariables false
/-- Numbers from a place of a block on. -/
structure SubB (W : World) (p : Option Addr) (L : List Int) : Prop where
  at_ : 0 < L.length → ∃ b off, p = some ⟨b, off, none⟩ ∧ b < W.heap.size ∧ ∀ j, j < L.length → W.cell? ⟨b, off + j, none⟩ = some (.int .i64 (L.getD j 0))
theorem SubB.of {w : World} {B : Nat} {q : Option Addr} {zs : List Int} (hB : B ≤ w.heap.size) (h : IntsAt w B q zs) : SubB w q zs := by
  refine ⟨fun h0 => ?_⟩
  obtain ⟨b, off, e, hb, _⟩ := h.get h0
  refine ⟨b, off, e, by omega, fun j hj => ?_⟩
  obtain ⟨b', off', e', hb', hc⟩ := h.get hj
  rw [e] at e'
  injection e' with e'
  injection e' with e1 e2
  subst e1; subst e2
  exact hc
theorem SubB.below {W W' : World} {p : Option Addr} {L : List Int} (h : SubB W p L) (hb : Below W.heap.size W W') : SubB W' p L := by
  refine ⟨fun h0 => ?_⟩
  obtain ⟨b, off, e, hlt, hc⟩ := h.at_ h0
  exact ⟨b, off, e, Nat.lt_of_lt_of_le hlt hb.size, fun j hj => (hb.cell (p := ⟨b, off + j, none⟩) hlt).trans (hc j hj)⟩
def sameB (a b : List Int) : Bool := decide (a = b)
set_option maxRecDepth 100000 in
set_option maxHeartbeats 4000000 in
theorem sameS (a b : List Int) (p q : Option Addr) (c d : Nat) (w : World) (hn : a.length ≤ 1000) (hl : a.length = b.length) (ha : SubB w p a) (hb : SubB w q b) :
    Calls Try.prog 69 #[.slice p a.length c, .slice q b.length d] w fun e w' => e = .returned (.bool (decide (a = b))) ∧ ∃ k, w' = w.drewN k := by
  have HA := Lib.hid ha
  have HB := Lib.hid hb
  have YES := Lib.hid (fun (h : ∀ i, i < a.length → a.getD i 0 = b.getD i 0) => show decide (a = b) = true from decide_eq_true (same_ext hl h))
  have NO := Lib.hid (fun i (hi : i < a.length) (h : a.getD i 0 ≠ b.getD i 0) => show decide (a = b) = false from decide_eq_false (fun e => h (by rw [e])))
  obtain ⟨r, hr⟩ : ∃ r, r = decide (a = b) := ⟨_, rfl⟩
  rw [← hr] at YES NO ⊢
  rw [← hl]
  obtain ⟨n, hN⟩ : ∃ n, n = a.length := ⟨_, rfl⟩
  have HN := Lib.hid hN
  have HL := Lib.hid hl
  rw [← hN] at hn YES NO ⊢
  clear ha hb hr hl hN
  go_enter Try.func69, Try.ntmps69
  go_wp2_with fail
  go_loopg [5] n (fun gg t wr => ∃ k : Nat, k ≤ n ∧ n - k ≤ gg ∧ t = .int .i64 k ∧ Hid (∀ i, i < k → a.getD i 0 = b.getD i 0) ∧ ∃ u, wr = w.drewN u)
  case atStart => exact ⟨0, by omega, by omega, rfl, Lib.hid (fun i hi => by omega), 0, rfl⟩
  case round =>
    obtain ⟨k, hk, hgg, rfl, HE, u, rfl⟩ := hrel
    by_cases hlt : k < n
    · have k1 : (k : Int) < (n : Int) := by omega
      have k2 : 0 ≤ (k : Int) := by omega
      obtain ⟨ba, oa, rfl, la, ca⟩ := HA.out.at_ (by rw [← HN.out]; omega)
      obtain ⟨bb, ob, rfl, lb, cb⟩ := HB.out.at_ (by rw [← HL.out, ← HN.out]; omega)
      have x0 := ca k (by rw [← HN.out]; exact hlt)
      have y0 := cb k (by rw [← HL.out, ← HN.out]; exact hlt)
      by_cases he : a.getD k 0 = b.getD k 0
      · have HE2 : Hid (∀ i, i < k + 1 → a.getD i 0 = b.getD i 0) := Lib.hid (fun i hi => by
          rcases Nat.lt_or_ge i k with h | h
          · exact HE.out i h
          · obtain rfl : i = k := by omega
            exact he)
        rw [he] at x0
        obtain ⟨y, hy⟩ : ∃ y, y = b.getD k 0 := ⟨_, rfl⟩
        rw [← hy] at x0 y0
        clear he hy ca cb
        go_wp2_with fail
        go_quiet (fail)
        go_wp2_with fail
        go_roundg (n - (k + 1))
        case rel => exact ⟨k + 1, by omega, by omega, by go_num, HE2, _, rfl⟩
        case measure => omega
      · have RF := Lib.hid (NO.out k hlt he)
        obtain ⟨x, hx⟩ : ∃ x, x = a.getD k 0 := ⟨_, rfl⟩
        obtain ⟨y, hy⟩ : ∃ y, y = b.getD k 0 := ⟨_, rfl⟩
        rw [← hx] at x0 he
        rw [← hy] at y0 he
        have t1 : (x != y) = true := by simpa using he
        have t2 : (x == y) = false := by simpa using he
        clear hx hy ca cb
        go_wp2_with fail
        go_quiet (fail)
        go_wp2_with fail
        go_ret
        first | exact ⟨by rw [RF.out]; rfl, _, rfl⟩ | exact ⟨by rw [RF.out]; rfl, _, World.drewN_drewN _ _ _⟩
    · have k1 : ¬ (k : Int) < (n : Int) := by omega
      have RT := Lib.hid (YES.out (fun i hi => HE.out i (by omega)))
      go_wp2_with fail
      go_ret
      exact ⟨by rw [RT.out]; rfl, _, rfl⟩
set_option maxRecDepth 100000 in
set_option maxHeartbeats 4000000 in
theorem throwsS (f : Int) (zs : List Int) (v : Value) (B : Nat) (w : World) (hf : InI64 f) (hn : zs.length ≤ 1048576) (h : IntsV w B v zs) :
    Calls Try.prog 49 #[.int .i64 f, v] w (QR (.bool (facOk f zs)) w) := by
  obtain ⟨q, cq, rfl, lq, mq, zq, iq⟩ := h
  have E1 := Lib.hid iq
  clear iq zq mq lq
  have I1 := Lib.hid (fun z w => inS z 0 (IntKind.i64.wrap (f - 1)) w)
  have I2 := Lib.hid (fun w => inS f 1 6 w)
  have WF := Lib.hid (fun (h : 1 ≤ f ∧ f ≤ 6) => show IntKind.i64.wrap (f - 1) = f - 1 from IntWalk.i64_in _ (by omega))
  have FN := Lib.hid (fun i (hi : i < zs.length) (h : ¬ (0 ≤ zs.getD i 0 ∧ zs.getD i 0 ≤ f - 1)) => show facOk f zs = false by unfold facOk; rw [fac_no hi h]; rfl)
  have FY := Lib.hid (fun (h : ∀ i, i < zs.length → 0 ≤ zs.getD i 0 ∧ zs.getD i 0 ≤ f - 1) => show facOk f zs = decide (1 ≤ f ∧ f ≤ 6) by unfold facOk; rw [fac_yes h, Bool.true_and])
  have FB := Lib.hid (fun (h : ¬ (1 ≤ f ∧ f ≤ 6)) => show facOk f zs = false by unfold facOk; rw [decide_eq_false h, Bool.and_false])
  have WG : Hid (f = -9223372036854775808 ∨ IntKind.i64.wrap (f - 1) = f - 1) := Lib.hid (by
    unfold InI64 at hf
    by_cases h : f = -9223372036854775808
    · exact .inl h
    · exact .inr (IntWalk.i64_in _ (by omega)))
  obtain ⟨g, hg⟩ : ∃ g, g = IntKind.i64.wrap (f - 1) := ⟨_, rfl⟩
  rw [← hg] at I1 WF WG
  have WR : IntKind.i64.wrap (f - 1) = g := hg.symm
  obtain ⟨r, hr⟩ : ∃ r, r = facOk f zs := ⟨_, rfl⟩
  rw [← hr] at FN FY FB ⊢
  clear hr hg hf
  obtain ⟨n, hN⟩ : ∃ n, n = zs.length := ⟨_, rfl⟩
  have HN := Lib.hid hN
  rw [← hN] at hn FN FY ⊢
  clear hN
  go_enter Try.func49, Try.ntmps49
  go_wp2_with fail
  go_loopg [5] n (fun gg t wr => ∃ k : Nat, k ≤ n ∧ n - k ≤ gg ∧ t = .int .i64 k ∧ Hid (∀ i, i < k → 0 ≤ zs.getD i 0 ∧ zs.getD i 0 ≤ g) ∧ w = wr)
  case atStart => exact ⟨0, by omega, by omega, rfl, Lib.hid (fun i hi => by omega), rfl⟩
  case round =>
    obtain ⟨k, hk, hgg, rfl, HE, rfl⟩ := hrel
    by_cases hlt : k < n
    · have k1 : (k : Int) < (n : Int) := by omega
      have k2 : 0 ≤ (k : Int) := by omega
      obtain ⟨b, off, rfl, hb, hc⟩ := E1.out.get (by rw [← HN.out]; exact hlt : k < zs.length)
      have IZ := Lib.hid (fun w => I1.out (zs.getD k 0) w)
      by_cases he : 0 ≤ zs.getD k 0 ∧ zs.getD k 0 ≤ g
      · rw [decide_eq_true he] at IZ
        have HE2 : Hid (∀ i, i < k + 1 → 0 ≤ zs.getD i 0 ∧ zs.getD i 0 ≤ g) := Lib.hid (fun i hi => by
          rcases Nat.lt_or_ge i k with h | h
          · exact HE.out i h
          · obtain rfl : i = k := by omega
            exact he)
        obtain ⟨z, hz⟩ : ∃ z, z = zs.getD k 0 := ⟨_, rfl⟩
        rw [← hz] at hc IZ
        clear he hz
        go_wp2_with fail
        refine (IZ.out _).mono ?_
        rintro e w1 ⟨rfl, rfl⟩
        go_wp2_with fail
        go_roundg (n - (k + 1))
        case rel => exact ⟨k + 1, by omega, by omega, by go_num, HE2, rfl⟩
        case measure => omega
      · rw [decide_eq_false he] at IZ
        have RF : Hid (r = false) := Lib.hid (by
          rcases WG.out with h | h
          · exact FB.out (by omega)
          · exact FN.out k hlt (by rw [← h]; exact he))
        obtain ⟨z, hz⟩ : ∃ z, z = zs.getD k 0 := ⟨_, rfl⟩
        rw [← hz] at hc IZ
        clear he hz
        go_wp2_with fail
        refine (IZ.out _).mono ?_
        rintro e w1 ⟨rfl, rfl⟩
        go_wp2_with fail
        go_ret
        exact ⟨by rw [RF.out]; rfl, rfl⟩
    · have k1 : ¬ (k : Int) < (n : Int) := by omega
      have RT : Hid (decide (1 ≤ f ∧ f ≤ 6) = r) := Lib.hid (by
        by_cases hf : 1 ≤ f ∧ f ≤ 6
        · have e := WF.out hf
          exact (FY.out (fun i hi => by have := HE.out i (by omega); rw [e] at this; exact this)).symm
        · rw [FB.out hf, decide_eq_false hf])
      rw [RT.out] at I2
      go_wp2_with fail
      refine (I2.out _).mono ?_
      rintro e w1 ⟨rfl, rfl⟩
      go_wp2_with fail
      go_ret
      exact ⟨rfl, rfl⟩
set_option maxRecDepth 100000 in
set_option maxHeartbeats 4000000 in
theorem wordS (f : Int) (zs : List Int) (v : Value) (B : Nat) (w : World) (hf : InI64 f) (hn : zs.length ≤ 1048576) (h : IntsV w B v zs) :
    Calls Try.prog 48 #[.int .i64 f, v] w (QR (.bool (wdOk f zs)) w) := by
  have TH := Lib.hid (throwsS f zs v B w hf hn h)
  obtain ⟨q, cq, rfl, _⟩ := h
  have I1 := Lib.hid (fun w => inS (zs.length : Int) 1 6 w)
  have e : decide (1 ≤ (zs.length : Int) ∧ (zs.length : Int) ≤ 6) = decide (1 ≤ zs.length ∧ zs.length ≤ 6) := by rw [decide_eq_decide]; omega
  rw [e] at I1
  unfold wdOk
  obtain ⟨r, hr⟩ : ∃ r, r = facOk f zs := ⟨_, rfl⟩
  rw [← hr] at TH ⊢
  obtain ⟨l, hl⟩ : ∃ l, l = decide (1 ≤ zs.length ∧ zs.length ≤ 6) := ⟨_, rfl⟩
  rw [← hl] at I1 ⊢
  clear hr hl e
  cases l
  · rw [Bool.false_and]
    go_enter Try.func48, Try.ntmps48
    go_wp2_with fail
    refine (I1.out _).mono ?_
    rintro e w1 ⟨rfl, rfl⟩
    go_wp2_with fail
    go_ret
    exact ⟨rfl, rfl⟩
  · rw [Bool.true_and]
    go_enter Try.func48, Try.ntmps48
    go_wp2_with fail
    refine (I1.out _).mono ?_
    rintro e w1 ⟨rfl, rfl⟩
    go_wp2_with fail
    refine TH.out.mono ?_
    rintro e w1 ⟨rfl, rfl⟩
    go_wp2_with fail
    go_ret
    exact ⟨rfl, rfl⟩
end Go.Proofs.Ytligidmkhbcpmaa
