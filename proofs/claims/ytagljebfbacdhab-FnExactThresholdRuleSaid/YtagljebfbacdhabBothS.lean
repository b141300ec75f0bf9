/- What two lists have in common, in the model. -/
import Derived.Test.YtagljebfbacdhabRise
namespace Go.Proofs.Ytagljebfbacdhab
open Go.RowKit
set_option linter.unusedVariables false
set_option maxHeartbeats 2000000 in
theorem bothS (a b : List Int) (v u : Value) (w : World) (hl : a.length ≤ 1048576) (hl2 : b.length ≤ 1048576) (hv : IntsV w w.heap.size v a) (hu : IntsV w w.heap.size u b) :
    Calls Try.prog 178 #[v, u] w (NewInts (bothL a b) w) := by
  have HS := Lib.hid (fun w' (hb : Below w.heap.size w w') z => hasS b z u w.heap.size w' hl2 (hu.below hb))
  have ZA := Lib.hid (show ∀ z ∈ a, InI64 z from by obtain ⟨_, _, _, _, _, h, _⟩ := hv; exact h)
  obtain ⟨q, cq, rfl, lq, mq, zq, iq⟩ := hv
  have E1 := Lib.hid iq
  clear iq zq mq
  obtain ⟨q2, cq2, rfl, _, _, _, _⟩ := hu
  obtain ⟨i0, hi, hz0, hz1, hz2⟩ := info_parts intInfo
  have O1 := OwnV.empty w w.heap.size (Nat.le_refl _)
  have B2 := Lib.hid ((Below.refl w.heap.size w).alloc (Nat.le_refl _) (.cells #[] 3))
  have O2 := Lib.hid O1
  clear O1
  go_enter Try.func178, Try.ntmps178
  go_wp2
  go_loopw [5, 6] (fun o i wr => ∃ k : Nat, k ≤ a.length ∧ i = .int .i64 k ∧ Hid (OwnV wr w.heap.size wr.heap.size o ((a.take k).filter (inL b))) ∧ Hid (Below w.heap.size w wr)) (fun _ i _ => a.length - (intOf i).toNat)
  case atStart => exact ⟨0, Nat.zero_le _, rfl, O2, B2⟩
  case round =>
    obtain ⟨k, hk, rfl, HO, HB⟩ := hrel
    clear B2 O2
    by_cases hlt : k < a.length
    · obtain ⟨bb, off, rfl, hb, hc⟩ := E1.out.get hlt
      have hcw : wr.cell? ⟨bb, off + k, none⟩ = some (.int .i64 (a.getD k 0)) := by rw [HB.out.cell (p := ⟨bb, off + k, none⟩) hb]; exact hc
      have HX := Lib.hid (show InI64 (a.getD k 0) from ZA.out _ (by rw [List.getD_eq_getElem?_getD, List.getElem?_eq_getElem hlt]; exact List.getElem_mem hlt))
      have FT := Lib.hid (filter_take (q := inL b) hlt)
      have i0' : (0 : Int) ≤ (k : Int) := by omega
      have i1 : (k : Int) < (a.length : Int) := by omega
      have LL : ((a.take k).filter (inL b)).length ≤ k := Nat.le_trans (List.length_filter_le _ _) (by simp; omega)
      obtain ⟨x, hx⟩ : ∃ x, x = a.getD k 0 := ⟨_, rfl⟩
      obtain ⟨L, hL⟩ : ∃ L, L = (a.take k).filter (inL b) := ⟨_, rfl⟩
      rw [← hx] at hcw FT HX
      rw [← hL] at FT HO LL
      have C := Lib.hid (HS.out wr HB.out x)
      clear hc hx hL
      obtain ⟨t, ht⟩ : ∃ t, t = inL b x := ⟨_, rfl⟩
      rw [← ht] at C FT
      clear ht
      cases t
      · have F := Lib.hid (show (a.take (k + 1)).filter (inL b) = L by rw [FT.out]; rfl)
        clear FT
        go_wp2_with fail
        refine C.out.mono ?_
        rintro e w1 ⟨rfl, m, rfl⟩
        have HB1 := Lib.hid (below_drewN HB.out m)
        have HO1 : Hid (OwnV (wr.drewN m) w.heap.size (wr.drewN m).heap.size _ L) := Lib.hid (HO.out.below (below_drewN (Below.refl _ _) m))
        clear HB HO
        go_wp2
        go_roundw
        case rel => exact ⟨k + 1, by omega, by go_num, by rw [F.out]; exact HO1, HB1⟩
        case measure => simp [intOf]; omega
      · have F := Lib.hid (show (a.take (k + 1)).filter (inL b) = L ++ [x] by rw [FT.out]; rfl)
        clear FT
        go_wp2_with fail
        refine C.out.mono ?_
        rintro e w1 ⟨rfl, m, rfl⟩
        have HB1 := Lib.hid (below_drewN HB.out m)
        have HO1 : Hid (OwnV (wr.drewN m) w.heap.size (wr.drewN m).heap.size _ L) := Lib.hid (HO.out.below (below_drewN (Below.refl _ _) m))
        have hcw' : (wr.drewN m).cell? ⟨bb, off + k, none⟩ = some (.int .i64 x) := hcw
        obtain ⟨wq, hwq⟩ : ∃ wq, wq = wr.drewN m := ⟨_, rfl⟩
        rw [← hwq] at HB1 HO1 hcw' ⊢
        clear HB HO hcw hwq
        have hown := HO1.out.row
        have hsz := HB1.out.size
        go_wp2_with (at_builtin; refine wpList_append_own _ rfl _ _ 22 rfl w.heap.size 3 i0 (.int .i64 0) 1 8 Try.underlying22 hi hz0 hz1 hz2 rfl (by decide) _ L.length (L.map (.int .i64)) rfl (hown.alloc _) ⟨wq.heap.size, 0, none⟩ 1 1 [.int .i64 x] rfl rfl (cell_one_new _ _ _) (fun x hx => by simp at hx; subst hx; rfl) (by unfold maxLen; omega) (by omega) (by simp; omega) ?_; intro v' w3 hown3 hgrow3 hnil3)
        have bel3 := Lib.hid ((HB1.out.alloc HB1.out.size _).grown hgrow3 (by simp; omega) (fun q hq => by have := (hown.lt q hq).1; omega))
        have own3 := Lib.hid (HO1.out.app HX.out hown3)
        clear hown hown3 hgrow3 hnil3
        go_roundw
        case rel => exact ⟨k + 1, by omega, by go_num, Lib.hid (by rw [F.out]; exact own3.out), bel3⟩
        case measure => simp [intOf]; omega
    · have R : Hid ((a.take k).filter (inL b) = bothL a b) := Lib.hid (by rw [List.take_of_length_le (by omega)]; rfl)
      rw [R.out] at HO
      go_wp2
      go_ret
      exact ⟨_, rfl, HO.out, HB.out⟩
end Go.Proofs.Ytagljebfbacdhab
