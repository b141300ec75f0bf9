/- Events in the model: whether a list is one, what it weighs, what two have in common. -/
import Derived.Test.YtfnnlkbecnjloabEvS
namespace Go.Proofs.Ytfnnlkbecnjloab
open Go.RowKit
set_option linter.unusedVariables false
theorem IntsAt.geti {w : World} {B : Nat} {p : Option Addr} {zs : List Int} (h : IntsAt w B p zs) {z : Int} (h0 : 0 ≤ z) (h1 : z < (zs.length : Int)) :
    ∃ b off, p = some ⟨b, off, none⟩ ∧ b < B ∧ w.cell? ⟨b, off + z.toNat, none⟩ = some (.int .i64 (zs.getD z.toNat 0)) := h.get (by omega)
theorem evB_split {ps ws evs : List Int} (g : goodT ps ws = true) (hr : riB ps.length evs = true) (hp : ∀ i, i < evs.length → poAt ws evs i = true) : evB ps ws evs = true := by
  unfold evB
  rw [g, Bool.true_and, List.all_eq_true]
  intro i hi
  have hi' := List.mem_range.1 hi
  unfold riB at hr
  rw [List.all_eq_true] at hr
  rw [evAt_parts, hr i hi, hp i hi']; rfl
theorem riB_in {n : Nat} {evs : List Int} (hr : riB n evs = true) {i : Nat} (hi : i < evs.length) : 0 ≤ evs.getD i 0 ∧ evs.getD i 0 < (n : Int) := by
  unfold riB at hr
  rw [List.all_eq_true] at hr
  have := hr i (List.mem_range.2 hi)
  unfold riAt at this
  rw [Bool.and_eq_true, decide_eq_true_iff] at this
  exact ⟨this.1.1, by omega⟩
theorem evB_noRise {ps ws evs : List Int} (hr : riB ps.length evs = false) : evB ps ws evs = false := by
  cases hb : evB ps ws evs
  · rfl
  · have e := evB_iff.1 hb
    have : riB ps.length evs = true := by
      unfold riB
      rw [List.all_eq_true]
      intro i hi
      have hi' := List.mem_range.1 hi
      have h1 := evAt_iff.2 ⟨⟨e.lo i hi', e.hi i hi'⟩, e.pos i hi', e.up i hi'⟩
      rw [evAt_parts, Bool.and_eq_true] at h1
      exact h1.1
    rw [hr] at this; cases this
set_option maxRecDepth 100000 in
set_option maxHeartbeats 4000000 in
theorem eventS (ps ws evs : List Int) (v u : Value) (w : World) (hl : evs.length ≤ 1048576) (h : TreeV w w.heap.size v ps ws) (hu : IntsV w w.heap.size u evs) :
    Calls Try.prog 69 #[v, u] w (Gives (.bool (evB ps ws evs)) w) := by
  have G := Lib.hid (fun w' (hb : Below w.heap.size w w') => goodS ps ws v w' (h.boxed hb))
  have RI := Lib.hid (fun (hn : ps.length ≤ 1048576) w' (hb : Below w.heap.size w w') => riseS evs ps.length u w.heap.size w' hl hn (hu.below hb))
  obtain ⟨v1, v2, rfl, ⟨p1, c1, rfl, l1, m1, _, i1⟩, ⟨p2, c2, rfl, l2, m2, _, i2⟩⟩ := h
  have P2 := Lib.hid i2
  clear i1 i2 m1 m2
  have B1 := (Below.refl w.heap.size w).alloc (Nat.le_refl _) (.cells #[.slice p1 ps.length c1, .slice p2 ws.length c2] 29)
  have T1 := Lib.hid (show TBox (w.alloc (.cells #[.slice p1 ps.length c1, .slice p2 ws.length c2] 29)) w.heap.size (.slice p1 ps.length c1) (.slice p2 ws.length c2) from alloc_heap w _)
  obtain ⟨wa, hwa⟩ : ∃ wa, wa = w.alloc (.cells #[.slice p1 ps.length c1, .slice p2 ws.length c2] 29) := ⟨_, rfl⟩
  rw [← hwa] at B1 T1
  have HBA := Lib.hid B1
  clear B1
  obtain ⟨x0, x1⟩ := T1.out.cells
  have UV := Lib.hid hu
  obtain ⟨q, cq, rfl, lq, mq, zq, iq⟩ := hu
  have E1 := Lib.hid iq
  clear iq zq mq
  cases hg : goodT ps ws
  · rw [hg] at G
    have R : Hid (evB ps ws evs = false) := Lib.hid (by unfold evB; rw [hg]; rfl)
    clear hg RI
    go_enter Try.func69, Try.ntmps69
    go_wp2_with fail
    rw [← hwa]
    clear hwa
    refine (G.out _ HBA.out).mono ?_
    rintro e w1 ⟨rfl, b1⟩
    have HB1 := Lib.hid (HBA.out.trans (b1.mono HBA.out.size))
    clear b1 x0 x1
    go_wp2_with fail
    go_ret
    exact ⟨ret_b R.out, HB1.out⟩
  · rw [hg] at G
    have gd := Good.of hg
    have hn1 := gd.n1
    have hn2 := gd.n24
    have hnw := Lib.hid gd.nw
    have RI2 := Lib.hid (RI.out (by omega))
    have GD := Lib.hid hg
    clear hg RI gd
    obtain ⟨rb, hrb⟩ : ∃ rb, rb = riB ps.length evs := ⟨_, rfl⟩
    rw [← hrb] at RI2
    have RB := Lib.hid hrb
    clear hrb
    cases rb
    · go_enter Try.func69, Try.ntmps69
      go_wp2_with fail
      rw [← hwa]
      clear hwa
      refine (G.out _ HBA.out).mono ?_
      rintro e w1 ⟨rfl, b1⟩
      have HB1 := Lib.hid (HBA.out.trans (b1.mono HBA.out.size))
      have T2 := Lib.hid (T1.out.below b1 T1.out.lt)
      clear b1 x0 x1
      obtain ⟨x0, x1⟩ := T2.out.cells
      go_wp2_with fail
      refine (RI2.out _ HB1.out).mono ?_
      rintro e w2 ⟨rfl, m, rfl⟩
      have HB2 := Lib.hid (below_drewN HB1.out m)
      go_wp2_with fail
      go_ret
      exact ⟨ret_b (evB_noRise RB.out.symm), HB2.out⟩
    · go_enter Try.func69, Try.ntmps69
      go_wp2_with fail
      rw [← hwa]
      clear hwa
      refine (G.out _ HBA.out).mono ?_
      rintro e w1 ⟨rfl, b1⟩
      have HB1 := Lib.hid (HBA.out.trans (b1.mono HBA.out.size))
      have T2 := Lib.hid (T1.out.below b1 T1.out.lt)
      clear b1 x0 x1
      obtain ⟨x0, x1⟩ := T2.out.cells
      go_wp2_with fail
      refine (RI2.out _ HB1.out).mono ?_
      rintro e w2 ⟨rfl, m, rfl⟩
      have HB2 := Lib.hid (below_drewN HB1.out m)
      have T3 : Hid (TBox (w1.drewN m) w.heap.size (.slice p1 ps.length c1) (.slice p2 ws.length c2)) := T2
      obtain ⟨wc, hwc⟩ : ∃ wc, wc = w1.drewN m := ⟨_, rfl⟩
      rw [← hwc] at HB2 T3
      clear x0 x1
      obtain ⟨x0, x1⟩ := T3.out.cells
      go_wp2
      rw [← hwc]
      clear hwc
      go_loopw [5] (fun i wr => ∃ k : Nat, k ≤ evs.length ∧ i = .int .i64 k ∧ Hid (∀ j, j < k → poAt ws evs j = true) ∧ ∃ n, wr = wc.drewN n) (fun i _ => evs.length - (intOf i).toNat)
      case atStart => exact ⟨0, Nat.zero_le _, rfl, Lib.hid (fun j hj => by omega), 0, rfl⟩
      case round =>
        obtain ⟨k, hk, rfl, HA, n, rfl⟩ := hrel
        by_cases hlt : k < evs.length
        · obtain ⟨b, off, rfl, hb, hc⟩ := E1.out.get hlt
          have hcw : wc.cell? ⟨b, off + k, none⟩ = some (.int .i64 (evs.getD k 0)) := by rw [HB2.out.cell (p := ⟨b, off + k, none⟩) hb]; exact hc
          obtain ⟨z0, z1⟩ := riB_in RB.out.symm hlt
          have NX : Hid (poAt ws evs k = true → ∀ j, j < k + 1 → poAt ws evs j = true) := Lib.hid (fun h j hj => by
            rcases Nat.lt_or_ge j k with h' | h'
            · exact HA.out j h'
            · obtain rfl : j = k := by omega
              exact h)
          have DEF : Hid (poAt ws evs k = decide (0 < ws.getD (evs.getD k 0).toNat 0)) := Lib.hid rfl
          have FA := Lib.hid (evB_false (ps := ps) (ws := ws) hlt)
          have PA := Lib.hid (evAt_parts ps ws evs k)
          obtain ⟨x, hx⟩ : ∃ x : Nat, (x : Int) = evs.getD k 0 := ⟨(evs.getD k 0).toNat, by omega⟩
          rw [← hx] at hcw DEF z0 z1
          have hxl : x < ws.length := by have := hnw.out; omega
          obtain ⟨b2, off2, rfl, hb2, hc2⟩ := P2.out.get hxl
          have hcx : wc.cell? ⟨b2, off2 + x, none⟩ = some (.int .i64 (ws.getD x 0)) := by rw [HB2.out.cell (p := ⟨b2, off2 + x, none⟩) hb2]; exact hc2
          rw [Int.toNat_natCast] at DEF
          have WB := Lib.hid ((Good.of GD.out).w_bd (x := x) (by have := hnw.out; omega))
          have i0 : (0 : Int) ≤ (k : Int) := by omega
          have i1 : (k : Int) < (evs.length : Int) := by omega
          have i2 : (x : Int) < (ws.length : Int) := by omega
          obtain ⟨y, hy⟩ : ∃ y, y = ws.getD x 0 := ⟨_, rfl⟩
          rw [← hy] at hcx DEF WB
          clear hc hc2 hx hy HA
          by_cases hy0 : y = 0
          · have R := Lib.hid (FA.out (by rw [PA.out, DEF.out, hy0]; simp))
            have hyb : (y == 0) = true := by simpa using hy0
            clear NX FA PA DEF hy0
            go_wp2_with fail
            go_quiet (fail)
            go_wp2_with fail
            go_ret
            exact ⟨ret_b R.out, below_drewN (below_drewN HB2.out _) _⟩
          · have R := Lib.hid (NX.out (by rw [DEF.out, decide_eq_true_iff]; have := WB.out; omega))
            have hyb : (y == 0) = false := by simpa using hy0
            clear NX FA PA DEF hy0
            go_wp2_with fail
            go_quiet (fail)
            go_wp2_with fail
            go_roundw
            case rel => exact ⟨k + 1, by omega, by go_num, R, _, rfl⟩
            case measure => simp [intOf]; omega
        · have R : Hid (evB ps ws evs = true) := Lib.hid (evB_split GD.out RB.out.symm (fun i hi => HA.out i (by omega)))
          clear HA
          go_wp2
          go_ret
          exact ⟨ret_b R.out, below_drewN HB2.out n⟩
end Go.Proofs.Ytfnnlkbecnjloab
