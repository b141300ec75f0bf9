/- A copy of a row, and the sums of the nodes, in the model. -/
import Derived.Test.YtligidmkhbcpmacSumI
import Derived.Test.YtligidmkhbcpmacDepthS
namespace Go.Proofs.Ytligidmkhbcpmac
open Go.RowKit
set_option linter.unusedVariables false
set_option maxHeartbeats 1000000 in
theorem ownS (zs : List Int) (v : Value) (w : World) (hp : 0 < zs.length) (hn : zs.length ≤ 1048576) (h : IntsV w w.heap.size v zs) :
    Calls Try.prog 118 #[v] w (NewInts zs w) := by
  obtain ⟨p, cap, rfl, hc, hm, hz, hI⟩ := h
  obtain ⟨b, off, rfl, hb, _⟩ := hI.get hp
  have CE : ∀ j u, (zs.map (Value.int .i64))[j]? = some u → (w.alloc (.cells #[] 3)).cell? ((⟨b, off, none⟩ : Addr).add j) = some u := by
    intro j u hu
    rw [List.getElem?_map] at hu
    have hj : j < zs.length := by
      rcases Nat.lt_or_ge j zs.length with h' | h'
      · exact h'
      · rw [List.getElem?_eq_none h'] at hu; cases hu
    obtain ⟨b', off', e, hb', hc'⟩ := hI j hj
    obtain ⟨rfl, rfl⟩ : b = b' ∧ off = off' := by simpa using e
    rw [List.getElem?_eq_getElem hj] at hu
    rw [Addr.add_lit, World.cell?_alloc_lt _ _ _ (by exact hb'), hc']; exact hu
  have HZ := Lib.hid hz
  have HCE := Lib.hid CE
  clear hI hz CE
  obtain ⟨i0, hi, hz0, hz1, hz2⟩ := info_parts intInfo
  have B1 := Lib.hid ((Below.refl w.heap.size w).alloc (Nat.le_refl _) (.cells #[] 3))
  have O1 := Lib.hid (OwnV.empty w w.heap.size (Nat.le_refl _))
  go_enter Try.func118, Try.ntmps118
  go_wp2_with (at_builtin; refine wpList_append_own _ rfl _ _ 22 rfl w.heap.size 3 i0 (.int .i64 0) 1 8 Try.underlying22 hi hz0 hz1 hz2 rfl (by decide) _ 0 [] rfl O1.out.row ⟨b, off, none⟩ zs.length cap (zs.map (.int .i64)) rfl (by simp) HCE.out (fun u hu => by obtain ⟨z, _, rfl⟩ := List.mem_map.1 hu; rfl) (by unfold maxLen; omega) (by omega) (by simp) ?_; intro v' w3 hown3 hgrow3 hnil3)
  have FIN : Hid (NewInts zs w (.returned v') w3) := Lib.hid ⟨v', rfl, ⟨by simpa using hown3, fun q hq => (hown3.lt q hq).2, Nat.le_refl _, HZ.out⟩, B1.out.grown hgrow3 (by simp) (fun q hq => (O1.out.row.lt q hq).1)⟩
  clear hown3 hgrow3 hnil3
  go_ret
  exact FIN.out
set_option maxRecDepth 100000 in
set_option maxHeartbeats 4000000 in
theorem sumsS (ps ws : List Int) (v : Value) (w : World) (gd : Good ps ws) (h : TreeV w w.heap.size v ps ws) :
    Calls Try.prog 157 #[v] w (NewInts (sumsT ps ws) w) := by
  have OW : Hid (∀ w' v2, Below w.heap.size w w' → IntsV w w.heap.size v2 ws → Calls Try.prog 118 #[v2] w' (NewInts ws w')) := Lib.hid (fun w' v2 hb h2 => ownS ws v2 w' (by have := gd.nw; have := gd.n1; omega) (by have := gd.nw; have := gd.n24; omega) ((h2.below hb).more hb.size))
  obtain ⟨v1, v2, rfl, ⟨p1, c1, rfl, l1, m1, _, i1⟩, i2⟩ := h
  have P1 := Lib.hid i1
  have OW2 := Lib.hid (fun w' hb => OW.out w' v2 hb i2)
  clear i1 i2 OW
  have hp : ParOk ps := gd.par
  have HP := Lib.hid hp
  have HL := Lib.hid gd.nw
  have hn := gd.n24
  have hn1 := gd.n1
  have UB := Lib.hid (fun m (hm : m + 1 ≤ ps.length) j (hj : j < ps.length) => show -480 ≤ (upL ps ws m).getD j 0 ∧ (upL ps ws m).getD j 0 ≤ 480 from by
    have h1 := (upL_abs hp gd.nw m hm).2 j hj
    have h2 := ws_abs gd
    omega)
  have GP := Lib.hid gd.par
  clear gd hp
  have B1 := (Below.refl w.heap.size w).alloc (Nat.le_refl _) (.cells #[.slice p1 ps.length c1, v2] 29)
  have T1 := Lib.hid (show TBox (w.alloc (.cells #[.slice p1 ps.length c1, v2] 29)) w.heap.size (.slice p1 ps.length c1) v2 from alloc_heap w _)
  have HB1 := Lib.hid B1
  go_enter Try.func157, Try.ntmps157
  go_wp2_with fail
  refine (OW2.out _ B1).mono ?_
  rintro e w1 ⟨u, rfl, o1, b1⟩
  have sz1 := b1.size
  simp at sz1
  have T2 := Lib.hid (T1.out.below b1 T1.out.lt)
  have B2 := Lib.hid (HB1.out.trans (b1.mono HB1.out.size))
  obtain ⟨g, cap, rfl, hg1, hg2⟩ := o1.shape (by have := HL.out; omega)
  simp at hg1
  have O2 := Lib.hid (o1.low (lo' := w.heap.size + 1) (by simp))
  rw [HL.out] at O2 ⊢
  clear b1 o1 B1 OW2 HB1 T1
  go_wp2_with fail
  go_loopw [4] (fun i wr => ∃ k : Nat, 1 ≤ k ∧ k ≤ ps.length ∧ i = .int .i64 ((k : Int) - 1) ∧ Hid (OwnV wr (w.heap.size + 1) wr.heap.size (.slice (some ⟨g, 0, none⟩) ps.length cap) (upL ps ws (ps.length - k))) ∧ Hid (TBox wr w.heap.size (.slice p1 ps.length c1) v2) ∧ Hid (Below w.heap.size w wr)) (fun i _ => (intOf i + 1).toNat)
  case atStart => exact ⟨ps.length, hn1, Nat.le_refl _, rfl, Lib.hid (by rw [Nat.sub_self]; exact O2.out), T2, B2⟩
  case round =>
    obtain ⟨k, hk1, hk, rfl, HO, HT, HB⟩ := hrel
    obtain ⟨x0, x1⟩ := HT.out.cells
    clear T2 B2 O2
    by_cases hk2 : k = 1
    · subst hk2
      have FIN : Hid (NewInts (sumsT ps ws) w (.returned (.slice (some ⟨g, 0, none⟩) ps.length cap)) wr) := Lib.hid ⟨_, rfl, HO.out.low (by omega), HB.out⟩
      clear HO
      go_wp2
      go_ret
      exact FIN.out
    · obtain ⟨x, rfl⟩ : ∃ x, k = x + 1 := ⟨k - 1, by omega⟩
      rw [show (((x + 1 : Nat) : Int) - 1) = (x : Int) by omega]
      have hx0 : 0 < x := by omega
      have hlt : x < ps.length := by omega
      obtain ⟨m, hm⟩ : ∃ m, m = ps.length - (x + 1) := ⟨_, rfl⟩
      rw [← hm] at HO
      have HM1 := Lib.hid (show m + 1 = ps.length - x by omega)
      obtain ⟨b, off, rfl, hb, hc⟩ := P1.out.get hlt
      obtain ⟨q1, q2⟩ := GP.out x (by omega) hlt
      obtain ⟨j, hj⟩ : ∃ j : Nat, ps.getD x 0 = (j : Int) := ⟨(ps.getD x 0).toNat, by omega⟩
      have hjx : j < x := by omega
      have hcw : wr.cell? ⟨b, off + x, none⟩ = some (.int .i64 j) := by rw [HB.out.cell (p := ⟨b, off + x, none⟩) hb, hc, hj]
      have LL : (upL ps ws m).length = ps.length := by rw [upL_len, HL.out]
      have RD : upL ps ws (m + 1) = (upL ps ws m).set j ((upL ps ws m).getD j 0 + (upL ps ws m).getD x 0) := by
        rw [upL, show ps.length - 1 - m = x by omega]; unfold addUp
        rw [if_neg (by omega), hj, show ((j : Int)).toNat = j by omega]
      have hdj := HO.out.cellGet (j := j) (by omega)
      have hdx := HO.out.cellGet (j := x) (by omega)
      have hfj := HO.out.frozenGet j
      obtain ⟨e1, e2⟩ := UB.out m (by omega) j (by omega)
      obtain ⟨e3, e4⟩ := UB.out m (by omega) x (by omega)
      obtain ⟨d1, hd1⟩ : ∃ d, d = (upL ps ws m).getD j 0 := ⟨_, rfl⟩
      obtain ⟨d2, hd2⟩ : ∃ d, d = (upL ps ws m).getD x 0 := ⟨_, rfl⟩
      rw [← hd1] at hdj RD e1 e2
      rw [← hd2] at hdx RD e3 e4
      have O3 := Lib.hid (HO.out.setAt j (x := d1 + d2) (by unfold InI64; omega))
      rw [← RD] at O3
      have T3 := Lib.hid (HT.out.set (g := g) (o := j) (x := .int .i64 (d1 + d2)) (by omega))
      have B3 := Lib.hid (HB.out.setCell (p := ⟨g, j, none⟩) (by simp; omega) (.int .i64 (d1 + d2)))
      have i0 : (0 : Int) ≤ (x : Int) := by omega
      have i1 : (x : Int) < (ps.length : Int) := by omega
      have j0 : (0 : Int) ≤ (j : Int) := by omega
      have j1 : (j : Int) < (ps.length : Int) := by omega
      have x0' : (0 : Int) < (x : Int) := by omega
      clear hd1 hd2 RD hj q1 q2 hc LL hm HO HT HB
      go_wp2_with fail
      go_region
      go_wp2_with fail
      go_roundw
      case rel => exact ⟨x, by omega, by omega, rfl, Lib.hid (by have h := O3.out.below (below_drew (Below.refl _ _)); rw [HM1.out] at h; simpa [World.setCell] using h), Lib.hid (show TBox _ _ _ _ from T3.out), Lib.hid (below_drew B3.out)⟩
      case measure => simp [intOf]
end Go.Proofs.Ytligidmkhbcpmac
