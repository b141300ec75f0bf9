/- The nodes that a test takes, and ends, in the program. -/
import Derived.Test.YtligidmkhbcpmacGoodS
import Derived.Shelf.SlicesQ.IndexFunc
namespace Go.Proofs.Ytligidmkhbcpmac
open Go.RowKit
set_option linter.unusedVariables false
set_option maxHeartbeats 1000000 in
theorem isEndI (ps ws : List Int) (v : Value) (x : Nat) (w : World) (hx : x < ws.length) (h : TreeV w w.heap.size v ps ws) :
    Calls Try.prog 208 #[v, .int .i64 x] w fun e w' => e = .returned (.bool (decide (0 < ws.getD x 0))) ∧ Below w.heap.size w w' := by
  obtain ⟨v1, v2, rfl, _, ⟨p2, c2, rfl, l2, m2, _, i2⟩⟩ := h
  unfold maxLen at m2
  obtain ⟨b, off, rfl, hb, hc⟩ := IntsAt.get i2 hx
  clear i2
  have B1 := (Below.refl w.heap.size w).alloc (Nat.le_refl _) (.cells #[v1, .slice (some ⟨b, off, none⟩) ws.length c2] 29)
  have i0 : (0 : Int) ≤ (x : Int) := by omega
  have i1 : (x : Int) < (ws.length : Int) := by omega
  have bb : b ≠ w.heap.size := by omega
  generalize ws.getD x 0 = z at *
  go_enter Try.func208, Try.ntmps208
  go_wp2
  go_ret
  exact ⟨rfl, B1⟩
/-- What is asked of a test that is handed over: at each node it answers, in every world in which all that lay lies. -/
def PredI (g : Nat) (lb : Array Value) (p : Nat → Bool) (n : Nat) (w : World) : Prop :=
  ∀ (W : World) (x : Nat), x < n → Below w.heap.size w W → Calls Try.prog g (#[.int .i64 x] ++ lb) W fun e w' => e = .returned (.bool (p x)) ∧ Below W.heap.size W w'
set_option maxRecDepth 100000 in
set_option maxHeartbeats 2000000 in
theorem nodesI (ps ws : List Int) (v : Value) (g : Nat) (lb : Array Value) (p : Nat → Bool) (w : World) (eg : ∀ args w, (callFunc g args).run Try.prog w = .ok (.enter g args) w)
    (hn : ps.length ≤ 1048576) (h : TreeV w w.heap.size v ps ws) (hp : PredI g lb p ps.length w) :
    Calls Try.prog 230 #[v, .func (.func g) #[] lb] w (NewInts (nodesW p ps.length) w) := by
  obtain ⟨v1, v2, rfl, ⟨p1, c1, rfl, l1, m1, _, i1⟩, _⟩ := h
  clear i1
  have PP := Lib.hid hp
  clear hp
  obtain ⟨i0, hi, hz0, hz1, hz2⟩ := info_parts intInfo
  have B1 := (Below.refl w.heap.size w).alloc (Nat.le_refl _) (.cells #[.slice p1 ps.length c1, v2] 29)
  have O1 := OwnV.empty (w.alloc (.cells #[.slice p1 ps.length c1, v2] 29)) (w.heap.size + 1) (by simp)
  have B2 := Lib.hid (B1.alloc (by simp) (.cells #[] 3))
  have O2 := Lib.hid O1
  rw [show (w.alloc (.cells #[.slice p1 ps.length c1, v2] 29)).heap.size = w.heap.size + 1 by simp] at O2
  clear O1 B1
  go_enter Try.func230, Try.ntmps230
  go_wp2
  go_loopw [5, 11] (fun o i wr => ∃ k : Nat, k ≤ ps.length ∧ i = .int .i64 k ∧ Hid (OwnV wr (w.heap.size + 1) wr.heap.size o (nodesW p k)) ∧ Hid (Below w.heap.size w wr) ∧ Hid (w.heap.size + 1 ≤ wr.heap.size)) (fun _ i _ => ps.length - (intOf i).toNat)
  case atStart => exact ⟨0, Nat.zero_le _, rfl, O2, B2, Lib.hid (by simp)⟩
  case round =>
    obtain ⟨k, hk, rfl, HO, HB, HS⟩ := hrel
    clear B2 O2
    by_cases hlt : k < ps.length
    · have C := Lib.hid (PP.out wr k hlt HB.out)
      have Y := Lib.hid (nodesW_yes (p := p) (n := k))
      have N := Lib.hid (nodesW_no (p := p) (n := k))
      have LL := nodesW_len p k
      have hlt' : (k : Int) < (ps.length : Int) := by omega
      cases hpk : p k
      · have E := Lib.hid (N.out hpk)
        rw [hpk] at C
        clear Y N hpk
        go_wp2_with (go_at_fn g; refine C.out.mono ?_; rintro e w1 ⟨rfl, b1⟩)
        have HB1 := Lib.hid (HB.out.trans (b1.mono HB.out.size))
        have HO1 := Lib.hid (HO.out.below b1)
        have HO2 := Lib.hid (HO1.out.wide b1.size (Nat.le_refl _))
        have HS1 := Lib.hid (Nat.le_trans HS.out b1.size)
        clear b1
        go_roundw
        case rel => exact ⟨k + 1, by omega, by go_num, Lib.hid (by rw [E.out]; exact HO2.out), HB1, HS1⟩
        case measure => simp [intOf]; omega
      · have E := Lib.hid (Y.out hpk)
        rw [hpk] at C
        clear Y N hpk
        obtain ⟨L, hL⟩ : ∃ L, L = nodesW p k := ⟨_, rfl⟩
        rw [← hL] at HO E LL
        clear hL
        have lo : w.heap.size + 1 ≤ wr.heap.size := by have := HS.out; omega
        go_wp2_with (first
          | (go_at_fn g; refine C.out.mono ?_; rintro e w1 ⟨rfl, b1⟩; have HB1 := Lib.hid (HB.out.trans (b1.mono HB.out.size)); have HO2 := Lib.hid ((HO.out.below b1).wide b1.size (Nat.le_refl _)); have sz1 := b1.size; clear b1)
          | (at_builtin; refine wpList_append_own _ rfl _ _ 22 rfl (w.heap.size + 1) 3 i0 (.int .i64 0) 1 8 Try.underlying22 hi hz0 hz1 hz2 rfl (by decide) _ L.length (L.map (.int .i64)) rfl (HO2.out.row.alloc _) ⟨w1.heap.size, 0, none⟩ 1 1 [.int .i64 k] rfl rfl (cell_one_new _ _ _) (fun x hx => by simp at hx; subst hx; rfl) (by unfold maxLen; omega) (by omega) (by simp; omega) ?_; intro v' w3 hown3 hgrow3 hnil3))
        have own3 := Lib.hid (HO2.out.app (inI64_nat (k := k) (by omega)) hown3)
        have bel3 := Lib.hid ((HB1.out.alloc HB1.out.size _).grown hgrow3 (by simp; omega) (fun q hq => by have := (HO2.out.row.lt q hq).1; omega))
        have HS3 := Lib.hid (show w.heap.size + 1 ≤ w3.heap.size from by have := hgrow3.size; simp at this; omega)
        clear hown3 hgrow3 hnil3
        go_roundw
        case rel => exact ⟨k + 1, by omega, by go_num, Lib.hid (by rw [E.out]; exact own3.out), bel3, HS3⟩
        case measure => simp [intOf]; omega
    · obtain rfl : k = ps.length := by omega
      go_wp2
      go_ret
      exact ⟨_, rfl, HO.out.low (by omega), HB.out⟩
end Go.Proofs.Ytligidmkhbcpmac
