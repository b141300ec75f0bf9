/- The way from the root to a node, in the model, without WayTo. -/
import Derived.Test.YtagljebfbacdhaaWayP
import Derived.Test.YtagljebfbacdhaaDepthI
import Derived.Test.YtagljebfbacdhaaSumS
namespace Go.Proofs.Ytagljebfbacdhaa
open Go.RowKit
set_option linter.unusedVariables false
/-- One number in a new block. -/
theorem OwnV.single (w : World) (lo : Nat) (x : Int) (hlo : lo ≤ w.heap.size) (hx : InI64 x) : OwnV (w.alloc (.cells #[.int .i64 x] 3)) lo (w.alloc (.cells #[.int .i64 x] 3)).heap.size (.slice (some ⟨w.heap.size, 0, none⟩) 1 1) [x] := by
  refine ⟨⟨rfl, .inr ⟨w.heap.size, 1, #[.int .i64 x], rfl, hlo, alloc_heap w _, by simp, by unfold maxLen; omega, rfl, rfl⟩⟩, ?_, Nat.le_refl _, ?_⟩
  · intro q hq
    simp [Value.ownBlock] at hq
    subst hq
    simp
  · intro z hz; simp at hz; subst hz; exact hx
set_option maxHeartbeats 4000000 in
theorem wayS (ps ws : List Int) (v : Value) (k0 : Nat) (w : World) (gd : Good ps ws) (hk0 : k0 < ps.length) (h : TreeV w w.heap.size v ps ws) :
    Calls Try.prog 98 #[v, .int .i64 k0] w (NewInts (wayT ps (k0 : Int)) w) := by
  obtain ⟨v1, v2, rfl, ⟨p1, c1, rfl, l1, m1, _, i1⟩, ⟨p2, c2, rfl, l2, m2, _, i2⟩⟩ := h
  have P1 := Lib.hid i1
  clear i1 i2
  obtain ⟨i0, hi, hz0, hz1, hz2⟩ := info_parts intInfo
  have hn24 := gd.n24
  have GD := Lib.hid gd
  have HP := Lib.hid (ParOk.of gd)
  have WL := Lib.hid (wayA_len HP.out k0 hk0)
  have WI := Lib.hid (wayA_in HP.out k0 hk0)
  have WT : Hid (wayT ps (k0 : Int) = (wayA ps k0).reverse) := Lib.hid (by unfold wayT; rw [Int.toNat_natCast])
  have B1 := ((Below.refl w.heap.size w).alloc (Nat.le_refl _) (.cells #[.slice p1 ps.length c1, .slice p2 ws.length c2] 28)).alloc (by simp) (.cells #[.int .i64 (k0 : Int)] 3)
  have T1 := Lib.hid (TBox.alloc (show TBox (w.alloc (.cells #[.slice p1 ps.length c1, .slice p2 ws.length c2] 28)) w.heap.size (.slice p1 ps.length c1) (.slice p2 ws.length c2) from alloc_heap w _) (.cells #[.int .i64 (k0 : Int)] 3))
  have O1 := Lib.hid (OwnV.single (w.alloc (.cells #[.slice p1 ps.length c1, .slice p2 ws.length c2] 28)) (w.heap.size + 1) (k0 : Int) (by simp) (inI64_nat (by omega)))
  rw [show (w.alloc (.cells #[.slice p1 ps.length c1, .slice p2 ws.length c2] 28)).heap.size = w.heap.size + 1 by simp] at O1
  obtain ⟨wa, hwa⟩ : ∃ wa, wa = (w.alloc (.cells #[.slice p1 ps.length c1, .slice p2 ws.length c2] 28)).alloc (.cells #[.int .i64 (k0 : Int)] 3) := ⟨_, rfl⟩
  rw [← hwa] at B1 T1 O1
  have HBA := Lib.hid B1
  clear B1 gd
  obtain ⟨x0, x1⟩ := T1.out.cells
  go_enter Try.func98, Try.ntmps98
  go_wp2
  rw [← hwa]
  clear hwa x0 x1
  go_loopw [1, 5] (fun c o wr => ∃ y : Nat, c = .int .i64 y ∧ y < ps.length ∧ ∃ L : List Int, Hid (wayA ps k0 = L ++ wayA ps y) ∧ Hid (OwnV wr (w.heap.size + 1) wr.heap.size o ((y : Int) :: L.reverse)) ∧ Hid (TBox wr w.heap.size (.slice p1 ps.length c1) (.slice p2 ws.length c2)) ∧ Hid (Below w.heap.size w wr)) (fun c _ _ => (intOf c).toNat)
  case atStart => exact ⟨k0, rfl, hk0, [], Lib.hid (by simp), O1, T1, HBA⟩
  case round =>
    obtain ⟨y, rfl, hy1, L, HL, HO, HT, HB⟩ := hrel
    obtain ⟨x0, x1⟩ := HT.out.cells
    clear O1 T1 HBA
    rcases Nat.eq_zero_or_pos y with hy0 | hy0
    · subst hy0
      have FIN : Hid (∀ o, OwnV wr (w.heap.size + 1) wr.heap.size o (((0 : Nat) : Int) :: L.reverse) → NewInts (wayT ps (k0 : Int)) w (.returned o) wr) := Lib.hid (fun o ho => ⟨o, rfl, by
        rw [WT.out, HL.out, wayA_zero (by omega), List.reverse_append]
        exact ho.low (by omega), HB.out⟩)
      clear x0 x1
      go_wp2
      go_ret
      exact FIN.out _ HO.out
    · obtain ⟨b, off, rfl, hb, hc⟩ := P1.out.get hy1
      have hcw : wr.cell? ⟨b, off + y, none⟩ = some (.int .i64 (ps.getD y 0)) := by rw [HB.out.cell (p := ⟨b, off + y, none⟩) hb]; exact hc
      have BD := GD.out.p_bd hy1
      have ST := Lib.hid (wayA_step HP.out hy0 hy1)
      obtain ⟨j, hj⟩ : ∃ j : Nat, ps.getD y 0 = (j : Int) := ⟨(ps.getD y 0).toNat, by have := BD.2.2 hy0; omega⟩
      rw [hj, Int.toNat_natCast] at ST
      rw [hj] at hcw BD
      have hjy : j < y := by have := BD.2.1; omega
      have LL : L.length ≤ 24 := by
        have h1 := WL.out.1
        rw [HL.out, List.length_append] at h1
        omega
      have i0' : (0 : Int) ≤ (y : Int) := by omega
      have i1 : (y : Int) < (ps.length : Int) := by omega
      have y0 : (y : Int) > 0 := by omega
      obtain ⟨g, cap, hsh, hg1, hg2⟩ := HO.out.shape (by simp)
      obtain ⟨M, hM⟩ : ∃ M, M = (y : Int) :: L.reverse := ⟨_, rfl⟩
      have ML : M.length ≤ 30 := by rw [hM]; simp; omega
      have HMM := Lib.hid hM
      rw [← hM] at HO hsh
      clear hc hj hM
      subst hsh
      have OS := OwnV.single wr (w.heap.size + 1) (j : Int) (by have := HT.out.lt; omega) (inI64_nat (by omega))
      have CE : Hid (∀ i u, (M.map (Value.int .i64))[i]? = some u → (wr.alloc (.cells #[.int .i64 (j : Int)] 3)).cell? ((⟨g, 0, none⟩ : Addr).add i) = some u) := Lib.hid (by
        intro i u hu
        rw [List.getElem?_map] at hu
        have hi' : i < M.length := by
          rcases Nat.lt_or_ge i M.length with h' | h'
          · exact h'
          · rw [List.getElem?_eq_none h'] at hu; cases hu
        rw [Addr.add_lit, Nat.zero_add, World.cell?_alloc_lt _ _ _ (by exact hg2), HO.out.cellGet hi', List.getD_eq_getElem?_getD]
        rw [List.getElem?_eq_getElem hi'] at hu ⊢
        exact hu)
      have RW := Lib.hid OS.row
      have HG := Lib.hid hg2
      have hsz := HT.out.lt
      clear OS hg1 hg2
      go_wp2_with (at_builtin; refine wpList_append_own _ rfl _ _ 22 rfl (w.heap.size + 1) 3 i0 (.int .i64 0) 1 8 Try.underlying22 hi hz0 hz1 hz2 rfl (by decide) _ 1 [.int .i64 (j : Int)] rfl RW.out ⟨g, 0, none⟩ M.length cap (M.map (.int .i64)) rfl (by simp) CE.out (fun u hu => by obtain ⟨z, _, rfl⟩ := List.mem_map.1 hu; rfl) (by unfold maxLen; omega) (by omega) (by simp; omega) ?_; intro v' w3 hown3 hgrow3 hnil3)
      have bel3 := Lib.hid ((HB.out.alloc HB.out.size _).grown hgrow3 (by simp; omega) (fun q hq => by have := (RW.out.lt q hq).1; omega))
      have own3 : Hid (OwnV w3 (w.heap.size + 1) w3.heap.size v' ((j : Int) :: M)) := Lib.hid ⟨by
        have h := hown3
        rw [List.length_cons, Nat.add_comm M.length 1, List.map_cons]
        exact h, fun q hq => (hown3.lt q hq).2, Nat.le_refl _, fun z hz => by
          rcases List.mem_cons.1 hz with h' | h'
          · subst h'; exact inI64_nat (by omega)
          · exact HO.out.in64 z h'⟩
      have box3 := Lib.hid ((HT.out.alloc _).grown hgrow3 (fun q hq => (RW.out.lt q hq).1) (by omega))
      clear hown3 hgrow3 hnil3
      go_roundw
      case rel => exact ⟨j, rfl, by omega, L ++ [(y : Int)], Lib.hid (by rw [HL.out, ST.out]; simp), Lib.hid (by have := own3.out; rw [HMM.out] at this; simpa using this), box3, bel3⟩
      case measure => simp [intOf]; omega
end Go.Proofs.Ytagljebfbacdhaa
