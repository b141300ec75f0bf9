/- The way from the root to a node. -/
import Derived.Test.YtfnnlkbecnjloaaShelf
import Derived.Test.YtfnnlkbecnjloaaNode
import Derived.Test.YtfnnlkbecnjloaaSumP
import Derived.Test.YtfnnlkbecnjloaaDepthI
import Derived.Test.YtfnnlkbecnjloaaKids
namespace Go.Proofs.Ytfnnlkbecnjloaa
open Go.RowKit
set_option linter.unusedVariables false
/-- The nodes from a node up to the root. -/
def wayU (ps : List Int) : Nat → Nat → List Int
  | 0, _ => []
  | f + 1, x => (x : Int) :: (if x = 0 then [] else wayU ps f (ps.getD x 0).toNat)
theorem wayU_fuel {ps : List Int} (hp : ParOk ps) : ∀ x, x < ps.length → ∀ f1 f2, x < f1 → x < f2 → wayU ps f1 x = wayU ps f2 x := by
  intro x
  induction x using Nat.strongRecOn with
  | ind x ih =>
    intro hl f1 f2 h1 h2
    obtain ⟨a, rfl⟩ : ∃ a, f1 = a + 1 := ⟨f1 - 1, by omega⟩
    obtain ⟨b, rfl⟩ : ∃ b, f2 = b + 1 := ⟨f2 - 1, by omega⟩
    rw [wayU, wayU]
    by_cases h : x = 0
    · rw [if_pos h, if_pos h]
    · rw [if_neg h, if_neg h]
      have hpl := par_lt hp (by omega) hl
      rw [ih _ hpl (by omega) a b (by omega) (by omega)]
def wayA (ps : List Int) (x : Nat) : List Int := wayU ps ps.length x
theorem wayA_zero {ps : List Int} (h : 0 < ps.length) : wayA ps 0 = [0] := by
  unfold wayA
  obtain ⟨m, hm⟩ : ∃ m, ps.length = m + 1 := ⟨ps.length - 1, by omega⟩
  rw [hm, wayU, if_pos rfl]; rfl
theorem wayA_step {ps : List Int} (hp : ParOk ps) {x : Nat} (h0 : 0 < x) (hx : x < ps.length) : wayA ps x = (x : Int) :: wayA ps (ps.getD x 0).toNat := by
  have hpl := par_lt hp h0 hx
  unfold wayA
  obtain ⟨m, hm⟩ : ∃ m, ps.length = m + 1 := ⟨ps.length - 1, by omega⟩
  have e : wayU ps ps.length x = (x : Int) :: (if x = 0 then [] else wayU ps m (ps.getD x 0).toNat) := by rw [hm, wayU]
  rw [e, if_neg (by omega), wayU_fuel hp _ (by omega) m ps.length (by omega) (by omega)]
theorem wayA_in {ps : List Int} (hp : ParOk ps) : ∀ x, x < ps.length → ∀ z ∈ wayA ps x, 0 ≤ z ∧ z ≤ (x : Int) := by
  intro x
  induction x using Nat.strongRecOn with
  | ind x ih =>
    intro hl z hz
    by_cases h : x = 0
    · subst h
      rw [wayA_zero (by omega)] at hz
      simp at hz
      omega
    · rw [wayA_step hp (by omega) hl] at hz
      have hpl := par_lt hp (by omega) hl
      rcases List.mem_cons.1 hz with h' | h'
      · omega
      · have := ih _ hpl (by omega) z h'; omega
theorem wayA_len {ps : List Int} (hp : ParOk ps) : ∀ x, x < ps.length → (wayA ps x).length ≤ x + 1 ∧ 0 < (wayA ps x).length := by
  intro x
  induction x using Nat.strongRecOn with
  | ind x ih =>
    intro hl
    by_cases h : x = 0
    · subst h; rw [wayA_zero (by omega)]; simp
    · rw [wayA_step hp (by omega) hl]
      have hpl := par_lt hp (by omega) hl
      have := ih _ hpl (by omega)
      rw [List.length_cons]; omega
/-- The way from the root. -/
def wayT (ps : List Int) (x : Int) : List Int := (wayA ps x.toNat).reverse
theorem OwnV.setMany {lo hi g cap n : Nat} : ∀ (xs : List Int) (o : Nat) (w : World) (zs : List Int), OwnV w lo hi (.slice (some ⟨g, 0, none⟩) n cap) zs → o + xs.length ≤ zs.length → (∀ x ∈ xs, InI64 x) →
    OwnV (w.setCells g o (xs.map (Value.int .i64))) lo hi (.slice (some ⟨g, 0, none⟩) n cap) (zs.take o ++ xs ++ zs.drop (o + xs.length)) := by
  intro xs
  induction xs with
  | nil => intro o w zs h _ _; simpa [World.setCells] using h
  | cons x xs ih =>
    intro o w zs h hl hx
    simp only [List.length_cons] at hl
    have h1 := h.setAt o (x := x) (hx x (by simp))
    have h2 := ih (o + 1) _ (zs.set o x) h1 (by simp; omega) (fun y hy => hx y (by simp [hy]))
    have e : (zs.set o x).take (o + 1) ++ xs ++ (zs.set o x).drop (o + 1 + xs.length) = zs.take o ++ (x :: xs) ++ zs.drop (o + (x :: xs).length) := by
      have ho : o < zs.length := by omega
      rw [List.take_succ_eq_append_getElem (by simp; omega), List.take_set_of_le (Nat.le_refl _), List.getElem_set_self, List.drop_set_of_lt (by omega)]
      simp [Nat.add_comm, Nat.add_left_comm]
    rw [e] at h2
    exact h2
theorem Alt.setMany {g : Nat} : ∀ (vs : List Value) (o : Nat) (w : World), Alt g (g + 1) w (w.setCells g o vs) := by
  intro vs
  induction vs with
  | nil => intro o w; exact ⟨rfl, rfl, rfl, Nat.le_refl _, fun _ _ _ => rfl⟩
  | cons v vs ih => intro o w; exact (Alt.setC w g o v).trans (ih (o + 1) _)
/-- A row turned round. -/
theorem revI (zs : List Int) (g cap : Nat) (lo hi : Nat) (w : World) (hn : zs.length ≤ 1048576) (h : OwnV w lo hi (.slice (some ⟨g, 0, none⟩) zs.length cap) zs) :
    Calls Try.prog 78 #[.slice (some ⟨g, 0, none⟩) zs.length cap] w fun e w' => e = .returned (.tuple #[]) ∧ OwnV w' lo hi (.slice (some ⟨g, 0, none⟩) zs.length cap) zs.reverse ∧ Alt lo hi w w' := by
  refine (Try.slices_Reverse_int_cells g 0 zs.length cap zs w (Nat.le_refl _) (by omega) (fun j hj => by rw [Nat.zero_add]; exact h.cellGet hj) (fun j hj => by rw [Nat.zero_add]; exact h.frozenGet j)).mono ?_
  rintro e w' ⟨rfl, q, rfl⟩
  have h1 : OwnV (w.drewN q) lo hi (.slice (some ⟨g, 0, none⟩) zs.length cap) zs := h.below (below_drewN (Below.refl _ _) q)
  have h2 := OwnV.setMany zs.reverse 0 (w.drewN q) zs h1 (by simp) (fun x hx => h.in64 x (List.mem_reverse.1 hx))
  rw [List.take_of_length_le (Nat.le_refl _)]
  have hg : lo ≤ g ∧ g < hi := by
    rcases h.row.2 with ⟨h1, _⟩ | ⟨g', cap', cur, h1, h2, _⟩
    · cases h1
    · injection h1 with h1 _ _; injection h1 with h1; injection h1 with h1
      subst h1
      exact ⟨h2, h.lt g rfl⟩
  refine ⟨rfl, by simpa using h2, ?_⟩
  have h3 : Alt lo hi w (w.drewN q) := ⟨rfl, rfl, rfl, Nat.le_refl _, fun _ _ _ => rfl⟩
  exact h3.trans ((Alt.setMany _ 0 _).wide hg.1 (by omega))
set_option maxHeartbeats 4000000 in
theorem wayI (ps ws : List Int) (v : Value) (x : Int) (w : World) (h : TreeV w w.heap.size v ps ws) :
    Calls Try.prog 48 #[v, .int .i64 x] w (NewIntsB (ifNode ps ws x (wayT ps x)) (nodeB ps ws x) w) := by
  have G := Lib.hid (fun w' (hb : Below w.heap.size w w') => isNodeI ps ws v x w' (h.boxed hb))
  obtain ⟨v1, v2, rfl, ⟨p1, c1, rfl, l1, m1, _, i1⟩, ⟨p2, c2, rfl, l2, m2, _, i2⟩⟩ := h
  have P1 := Lib.hid i1
  clear i1 i2
  obtain ⟨i0, hi, hz0, hz1, hz2⟩ := info_parts intInfo
  have B1 := (Below.refl w.heap.size w).alloc (Nat.le_refl _) (.cells #[.slice p1 ps.length c1, .slice p2 ws.length c2] 44)
  have T1 := Lib.hid (show TBox (w.alloc (.cells #[.slice p1 ps.length c1, .slice p2 ws.length c2] 44)) w.heap.size (.slice p1 ps.length c1) (.slice p2 ws.length c2) from alloc_heap w _)
  obtain ⟨wa, hwa⟩ : ∃ wa, wa = w.alloc (.cells #[.slice p1 ps.length c1, .slice p2 ws.length c2] 44) := ⟨_, rfl⟩
  rw [← hwa] at B1 T1
  have sz : wa.heap.size = w.heap.size + 1 := by rw [hwa]; simp
  have HBA := Lib.hid B1
  have SZ := Lib.hid sz
  clear B1 sz
  obtain ⟨x0, x1⟩ := T1.out.cells
  cases hg : nodeB ps ws x
  · rw [hg] at G
    have IG := Lib.hid (show ifNode ps ws x (wayT ps x) = [] from by unfold ifNode; rw [hg]; rfl)
    clear hg
    go_enter Try.func48, Try.ntmps48
    go_wp2_with fail
    rw [← hwa]
    clear hwa
    refine (G.out _ HBA.out).mono ?_
    rintro e w1 ⟨rfl, b1⟩
    have HB1 := Lib.hid (HBA.out.trans (b1.mono HBA.out.size))
    clear b1 x0 x1
    go_wp2_with fail
    go_ret2
    rw [IG.out]
    exact newInts_empty HB1.out
  · rw [hg] at G
    obtain ⟨gd, hx0, hx1⟩ := nodeB_true hg
    have IG := Lib.hid (show ifNode ps ws x (wayT ps x) = wayT ps x from by unfold ifNode; rw [hg]; rfl)
    have hn24 := gd.n24
    have hn1 := gd.n1
    have GD := Lib.hid gd
    have HP := Lib.hid (ParOk.of gd)
    obtain ⟨k0, rfl⟩ : ∃ k : Nat, x = (k : Int) := ⟨x.toNat, by omega⟩
    have hk0 : k0 < ps.length := by omega
    have WI := Lib.hid (wayA_in HP.out k0 hk0)
    have WL := Lib.hid (wayA_len HP.out k0 hk0)
    have WT : Hid (wayT ps (k0 : Int) = (wayA ps k0).reverse) := Lib.hid (by unfold wayT; rw [Int.toNat_natCast])
    clear hg gd
    go_enter Try.func48, Try.ntmps48
    go_wp2_with fail
    rw [← hwa]
    clear hwa
    refine (G.out _ HBA.out).mono ?_
    rintro e w1 ⟨rfl, b1⟩
    have HB1 := Lib.hid ((HBA.out.trans (b1.mono HBA.out.size)).alloc (Nat.le_trans HBA.out.size b1.size) (.cells #[] 3))
    have HT1 := Lib.hid ((T1.out.below b1 T1.out.lt).alloc (.cells #[] 3))
    have O1 := Lib.hid (OwnV.empty w1 (w.heap.size + 1) (by have := b1.size; have := SZ.out; omega))
    have S1 := Lib.hid (show w.heap.size + 1 ≤ w1.heap.size by have := b1.size; have := SZ.out; omega)
    clear b1 x0 x1 G T1
    obtain ⟨W1, hW1⟩ : ∃ W1, W1 = w1.alloc (.cells #[] 3) := ⟨_, rfl⟩
    rw [← hW1] at HB1 HT1 O1
    go_wp2
    rw [← hW1]
    clear hW1
    go_loopw [1, 6] (fun c o wr => ∃ y : Int, c = .int .i64 y ∧ -1 ≤ y ∧ y < (ps.length : Int) ∧ ∃ L : List Int, Hid (wayA ps k0 = L ++ (if 0 ≤ y then wayA ps y.toNat else [])) ∧ Hid (OwnV wr (w.heap.size + 1) wr.heap.size o L) ∧ Hid (TBox wr w.heap.size (.slice p1 ps.length c1) (.slice p2 ws.length c2)) ∧ Hid (Below w.heap.size w wr)) (fun c _ _ => (intOf c + 1).toNat)
    case atStart => exact ⟨(k0 : Int), rfl, by omega, by omega, [], Lib.hid (by rw [if_pos (by omega)]; simp), O1, HT1, HB1⟩
    case round =>
      obtain ⟨y, rfl, hy0, hy1, L, HL, HO, HT, HB⟩ := hrel
      obtain ⟨x0, x1⟩ := HT.out.cells
      clear O1 HT1 HB1
      by_cases hlt : 0 ≤ y
      · obtain ⟨yn, rfl⟩ : ∃ k : Nat, y = (k : Int) := ⟨y.toNat, by omega⟩
        have hyl : yn < ps.length := by omega
        obtain ⟨b, off, rfl, hb, hc⟩ := P1.out.get hyl
        have HC := Lib.hid hc
        have HBB := Lib.hid hb
        have BD := Lib.hid (GD.out.p_bd hyl)
        have ST : Hid (∃ T, wayA ps yn = (yn : Int) :: T ∧ T = (if 0 ≤ ps.getD yn 0 then wayA ps (ps.getD yn 0).toNat else [])) := Lib.hid (by
          rcases Nat.eq_zero_or_pos yn with h0 | h0
          · subst h0
            refine ⟨[], wayA_zero (by omega), ?_⟩
            have := of_decide_eq_true (by have := parAll GD.out 0 (by omega); rwa [parOk_zero] at this)
            rw [if_neg (by omega)]
          · refine ⟨_, wayA_step HP.out h0 hyl, ?_⟩
            have := BD.out.2.2 h0
            rw [if_pos this])
        rw [if_pos hlt, Int.toNat_natCast] at HL
        have LL : L.length ≤ 24 := by
          have h1 := WL.out.1
          rw [HL.out, List.length_append] at h1
          omega
        have i0' : (0 : Int) ≤ (yn : Int) := by omega
        have i1 : (yn : Int) < (ps.length : Int) := by omega
        have hown := HO.out.row
        have hsz := HT.out.lt
        obtain ⟨z, hz⟩ : ∃ z, z = ps.getD yn 0 := ⟨_, rfl⟩
        rw [← hz] at HC BD ST
        clear hc hz
        go_wp2_with (at_builtin; refine wpList_append_own _ rfl _ _ 39 rfl (w.heap.size + 1) 3 i0 (.int .i64 0) 1 8 Try.underlying39 hi hz0 hz1 hz2 rfl (by decide) _ L.length (L.map (.int .i64)) rfl (hown.alloc _) ⟨wr.heap.size, 0, none⟩ 1 1 [.int .i64 (yn : Int)] rfl rfl (cell_one_new _ _ _) (fun x hx => by simp at hx; subst hx; rfl) (by unfold maxLen; omega) (by omega) (by simp; omega) ?_; intro v' w3 hown3 hgrow3 hnil3; (have bel3 := Lib.hid ((HB.out.alloc HB.out.size _).grown hgrow3 (by simp; omega) (fun q hq => by have := (hown.lt q hq).1; omega))); (have own3 := Lib.hid (HO.out.app (inI64_nat (k := yn) (by omega)) hown3)); (have box3 := Lib.hid ((HT.out.alloc _).grown hgrow3 (fun q hq => (hown.lt q hq).1) (by omega))); (obtain ⟨y0, y1⟩ := box3.out.cells); (have hcw : w3.cell? ⟨b, off + yn, none⟩ = some (.int .i64 z) := by rw [bel3.out.cell (p := ⟨b, off + yn, none⟩) HBB.out]; exact HC.out); clear hown hown3 hgrow3 hnil3)
        go_roundw
        case rel => exact ⟨z, rfl, BD.out.1, by have := BD.out.2.1; omega, L ++ [(yn : Int)], Lib.hid (by
          obtain ⟨T, h1, h2⟩ := ST.out
          rw [HL.out, h1, ← h2]; simp), own3, box3, bel3⟩
        case measure => have := BD.out.2.1; simp [intOf]; omega
      · have hL : Hid (wayA ps k0 = L) := Lib.hid (by rw [HL.out, if_neg hlt]; simp)
        have hLl : 0 < L.length ∧ L.length ≤ 24 := by have h1 := WL.out; rw [hL.out] at h1; omega
        obtain ⟨g, cap, hsh, hg1, hg2⟩ := HO.out.shape hLl.1
        subst hsh
        have RV := Lib.hid (revI L g cap (w.heap.size + 1) wr.heap.size wr (by omega) HO.out)
        have HWR := Lib.hid (HT.out.lt)
        clear HO x0 x1
        go_wp2_with fail
        refine RV.out.mono ?_
        rintro e w4 ⟨rfl, o4, a4⟩
        have FIN : Hid (NewIntsB (wayT ps (k0 : Int)) true w (.returned (.tuple #[.slice (some ⟨g, 0, none⟩) L.length cap, .bool true])) w4) := Lib.hid ⟨_, rfl, by
          rw [WT.out, hL.out]
          exact (o4.wide a4.size (Nat.le_refl _)).low (by omega), HB.out.trans ((a4.below (by have := HWR.out; omega)).mono (by omega))⟩
        clear o4 a4
        go_wp2_with fail
        go_ret2
        rw [IG.out]
        exact FIN.out
end Go.Proofs.Ytfnnlkbecnjloaa
