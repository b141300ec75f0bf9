/- EntP, WayS, PassI, EntI, RulP, FwhI, Stpd, BesI, BothS, StopM, RulM, PutO, PickP, Bools, FirM, BesM, LawX, LooI, LooM in one text. -/
import Derived.Test.YtfpckfameebdnaaWayQ
import Derived.Test.YtfpckfameebdnaaProcI
import Derived.Test.YtfpckfameebdnaaPutP
import Derived.Test.YtfpckfameebdnaaEndsL
import Derived.Test.YtfpckfameebdnaaWayP
import Derived.Test.YtfpckfameebdnaaDepthI
import Derived.Test.YtfpckfameebdnaaSumS
import Derived.Test.YtfpckfameebdnaaLawT
import Derived.Test.YtfpckfameebdnaaPassP
import Derived.Test.YtfpckfameebdnaaVBox
import Derived.Test.YtfpckfameebdnaaStopP
import Derived.Test.YtfpckfameebdnaaLeaI
import Derived.Test.YtfpckfameebdnaaRise
import Derived.Test.YtfpckfameebdnaaPutS
import Derived.Test.YtfpckfameebdnaaRow
import Derived.Test.YtfpckfameebdnaaCapM
import Derived.Test.YtfpckfameebdnaaPay4
import Derived.Test.YtfpckfameebdnaaLawI
import Derived.Test.YtfpckfameebdnaaKid4
import Derived.Deep.RegionHeld3
import Derived.BigQuiet
import Derived.Deep.LoopGhost
import Derived.Deep.AppendLies
import Derived.BigRegion
import Derived.Deep.RegionLaw
import Derived.Deep.DeepCutAuto
namespace Go.Proofs.Ytfpckfameebdnaa
set_option linter.unusedVariables false
/-- Whether a node stops a way. -/
def hitB (ps zs : List Int) (lv : Int) (x : Nat) : Bool := decide (lv ≤ zs.getD x 0) || leafB ps x
def entS (ps zs : List Int) (lv : Int) : Int → Nat → Int := fun a x => if a = -1 ∧ hitB ps zs lv x = true then (x : Int) else a
/-- The first entry at or above a node, or -1. -/
def entT (ps zs : List Int) (lv : Int) : List Int := passT ps (-1) (entS ps zs lv)
theorem ent_bd {ps : List Int} (hp : ParOk ps) (zs : List Int) (lv : Int) : ∀ x, x < ps.length → -1 ≤ (entT ps zs lv).getD x 0 ∧ (entT ps zs lv).getD x 0 ≤ (x : Int) := by
  refine tree_ind hp (fun h => ?_) (fun x h0 hx ih => ?_)
  · unfold entT
    rw [passT_zero ps (-1) _ (by omega)]
    unfold entS
    split <;> simp
  · have hl := par_lt hp h0 hx
    unfold entT at ih ⊢
    rw [passT_step ps (-1) _ h0 hx hl]
    change -1 ≤ (if (passT ps (-1) (entS ps zs lv)).getD (ps.getD x 0).toNat 0 = -1 ∧ hitB ps zs lv x = true then (x : Int) else (passT ps (-1) (entS ps zs lv)).getD (ps.getD x 0).toNat 0) ∧ (if (passT ps (-1) (entS ps zs lv)).getD (ps.getD x 0).toNat 0 = -1 ∧ hitB ps zs lv x = true then (x : Int) else (passT ps (-1) (entS ps zs lv)).getD (ps.getD x 0).toNat 0) ≤ (x : Int)
    split <;> omega
theorem ent_step {ps : List Int} (hp : ParOk ps) (zs : List Int) (lv : Int) {x : Nat} (h0 : 0 < x) (hx : x < ps.length) : (entT ps zs lv).getD x 0 = entS ps zs lv ((entT ps zs lv).getD (ps.getD x 0).toNat 0) x := passT_step ps (-1) _ h0 hx (par_lt hp h0 hx)
theorem ent_zero {ps : List Int} (h : 0 < ps.length) (zs : List Int) (lv : Int) : (entT ps zs lv).getD 0 0 = entS ps zs lv (-1) 0 := passT_zero ps (-1) _ h
/-- What a first entry is. -/
theorem ent_self {ps : List Int} (hp : ParOk ps) (zs : List Int) (lv : Int) : ∀ x, x < ps.length → 0 ≤ (entT ps zs lv).getD x 0 → (entT ps zs lv).getD ((entT ps zs lv).getD x 0).toNat 0 = (entT ps zs lv).getD x 0 := by
  refine tree_ind hp (fun h h' => ?_) (fun x h0 hx ih h' => ?_)
  · have := (ent_bd hp zs lv 0 h).2
    have e : (entT ps zs lv).getD 0 0 = 0 := by omega
    rw [e, Int.toNat_zero, e]
  · have hs := ent_step hp zs lv h0 hx
    unfold entS at hs
    by_cases h : (entT ps zs lv).getD (ps.getD x 0).toNat 0 = -1 ∧ hitB ps zs lv x = true
    · rw [if_pos h] at hs
      rw [hs, Int.toNat_natCast, hs]
    · rw [if_neg h] at hs
      rw [hs] at h' ⊢
      exact ih h'
theorem ent_leaf {ps : List Int} (hp : ParOk ps) (zs : List Int) (lv : Int) {x : Nat} (hx : x < ps.length) (hl : leafB ps x = true) : 0 ≤ (entT ps zs lv).getD x 0 := by
  have hh : hitB ps zs lv x = true := by unfold hitB; rw [hl, Bool.or_true]
  rcases Nat.eq_zero_or_pos x with h | h
  · subst h
    rw [ent_zero hx]; unfold entS; rw [if_pos ⟨rfl, hh⟩]; omega
  · rw [ent_step hp zs lv h hx]
    unfold entS
    have := ent_bd hp zs lv (ps.getD x 0).toNat (by have := par_lt hp h hx; omega)
    split
    · omega
    · rename_i hn
      have : ¬ (entT ps zs lv).getD (ps.getD x 0).toNat 0 = -1 := fun e => hn ⟨e, hh⟩
      omega
/-- Each first entry is one on the way to an end. -/
theorem ent_down {ps ws : List Int} (g : Good ps ws) (zs : List Int) (lv : Int) : ∀ x, x < ps.length → 0 ≤ (entT ps zs lv).getD x 0 → ∃ e, e < ps.length ∧ leafB ps e = true ∧ (entT ps zs lv).getD e 0 = (entT ps zs lv).getD x 0 := by
  refine down_ind g (fun x hx hl h => ⟨x, hx, hl, rfl⟩) (fun x y hx hy h0 e ih h => ?_)
  have hs := ent_step (ParOk.of g) zs lv h0 hy
  rw [e] at hs
  unfold entS at hs
  rw [if_neg (by omega)] at hs
  obtain ⟨z, h1, h2, h3⟩ := ih (by rw [hs]; exact h)
  exact ⟨z, h1, h2, by rw [h3, hs]⟩
/-- The nodes of the stopping. -/
def entL (ps zs : List Int) (lv : Int) : List Int := nodesW (fun x => decide ((entT ps zs lv).getD x 0 = (x : Int))) ps.length
theorem ent_list {ps ws : List Int} (g : Good ps ws) (zs : List Int) (lv : Int) : entL ps zs lv = nodesW (fun x => inL ((endsT ps).map fun e => (entT ps zs lv).getD e.toNat 0) (x : Int)) ps.length := by
  refine nodesW_congr fun x hx => ?_
  have hp := ParOk.of g
  unfold inL
  rw [Bool.eq_iff_iff, decide_eq_true_iff, decide_eq_true_iff, List.mem_map]
  constructor
  · intro h
    obtain ⟨e, h1, h2, h3⟩ := ent_down g zs lv x hx (by omega)
    refine ⟨(e : Int), ?_, by rw [Int.toNat_natCast, h3, h]⟩
    rw [endsT_eq]
    unfold nodesW
    exact List.mem_map.2 ⟨e, List.mem_filter.2 ⟨List.mem_range.2 h1, h2⟩, rfl⟩
  · rintro ⟨e, he, h⟩
    obtain ⟨y, rfl, hy, hl⟩ := nodesW_mem he
    rw [Int.toNat_natCast] at h
    have h1 := ent_self hp zs lv y hy (ent_leaf hp zs lv hy hl)
    rw [h, Int.toNat_natCast] at h1
    exact h1
/-- The model's search finds it. -/
theorem ent_search {ps ws : List Int} (g : Good ps ws) (zs : List Int) (lv : Int) {x : Nat} (hx : x < ps.length) (hl : leafB ps x = true) {k : Nat} (hk : k < (wayT ps (x : Int)).length)
    (hb : ∀ j, j < k → zs.getD ((wayT ps (x : Int)).getD j 0).toNat 0 < lv) (he : k + 1 = (wayT ps (x : Int)).length ∨ lv ≤ zs.getD ((wayT ps (x : Int)).getD k 0).toNat 0) : (entT ps zs lv).getD x 0 = (wayT ps (x : Int)).getD k 0 := by
  have hp := ParOk.of g
  have w := way_all hp x hx
  obtain ⟨W, hW⟩ : ∃ W, W = wayT ps (x : Int) := ⟨_, rfl⟩
  have wl := w.len
  have wf := w.first
  have wla := w.last
  have wn := w.node
  have wp := w.par
  rw [← hW] at hk hb he wl wf wla wn wp ⊢
  have nl : ∀ j, j + 1 < W.length → leafB ps (W.getD j 0).toNat = false := fun j hj => by
    have h1 := wp j hj
    have h2 := wn (j + 1) hj
    have h3 := wn j (by omega)
    rw [leafB_false]
    exact ⟨(W.getD (j + 1) 0).toNat, by omega, by rw [h1.2]; omega⟩
  have before : ∀ j, j < k → (entT ps zs lv).getD (W.getD j 0).toNat 0 = -1 := by
    intro j
    induction j with
    | zero =>
      intro h
      have hh : hitB ps zs lv 0 = false := by
        unfold hitB
        have h1 := nl 0 (by omega)
        have h2 := hb 0 h
        rw [wf] at h1 h2
        rw [Int.toNat_zero] at h1 h2
        rw [h1, Bool.or_false, decide_eq_false_iff_not]; omega
      rw [wf, Int.toNat_zero, ent_zero (by omega)]
      unfold entS
      rw [hh, if_neg (by simp)]
    | succ j ih =>
      intro h
      have h1 := wp j (by omega)
      have h2 := wn (j + 1) (by omega)
      have hh : hitB ps zs lv (W.getD (j + 1) 0).toNat = false := by
        unfold hitB
        rw [nl (j + 1) (by omega), Bool.or_false, decide_eq_false_iff_not]
        have := hb (j + 1) h; omega
      rw [ent_step hp zs lv (by omega) (by omega), h1.2]
      unfold entS
      rw [hh, if_neg (by simp), ih (by omega)]
  have hit : hitB ps zs lv (W.getD k 0).toNat = true := by
    unfold hitB
    rcases he with h | h
    · rw [show k = W.length - 1 by omega, wla, Int.toNat_natCast, hl, Bool.or_true]
    · rw [decide_eq_true h, Bool.true_or]
  have at_k : (entT ps zs lv).getD (W.getD k 0).toNat 0 = W.getD k 0 := by
    have h2 := wn k hk
    rcases Nat.eq_zero_or_pos k with h | h
    · subst h
      rw [wf] at hit ⊢
      rw [Int.toNat_zero] at hit ⊢
      rw [ent_zero (by omega)]
      unfold entS
      rw [if_pos ⟨rfl, hit⟩]; rfl
    · have h1 := wp (k - 1) (by omega)
      rw [show k - 1 + 1 = k by omega] at h1
      rw [ent_step hp zs lv (by omega) (by omega), h1.2, before (k - 1) (by omega)]
      unfold entS
      rw [if_pos ⟨rfl, hit⟩]; omega
  have after : ∀ d, k + d < W.length → (entT ps zs lv).getD (W.getD (k + d) 0).toNat 0 = W.getD k 0 := by
    intro d
    induction d with
    | zero => intro _; exact at_k
    | succ d ih =>
      intro h
      have h1 := wp (k + d) (by omega)
      have h2 := wn (k + d + 1) (by omega)
      have h3 := wn k hk
      rw [show k + (d + 1) = k + d + 1 by omega, ent_step hp zs lv (by omega) (by omega), h1.2, ih (by omega)]
      unfold entS
      rw [if_neg (by omega)]
  have := after (W.length - 1 - k) (by omega)
  rw [show k + (W.length - 1 - k) = W.length - 1 by omega, wla, Int.toNat_natCast] at this
  exact this
end Go.Proofs.Ytfpckfameebdnaa
namespace Go.Proofs.Ytfpckfameebdnaa
open Go.RowKit
set_option linter.unusedVariables false
/-- One number in a new block. -/
theorem OwnV.single (w : World) (lo : Nat) (x : Int) (hlo : lo ≤ w.heap.size) (hx : InI64 x) : OwnV (w.alloc (.cells #[.int .i64 x] 3)) lo (w.alloc (.cells #[.int .i64 x] 3)).heap.size (.slice (some ⟨w.heap.size, 0, none⟩) 1 1) [x] := by
  refine ⟨⟨rfl, .inr ⟨w.heap.size, 1, #[.int .i64 x], rfl, hlo, alloc_heap w _, by simp, by unfold maxLen; omega, rfl, rfl⟩⟩, ?_, Nat.le_refl _, ?_⟩
  · intro q hq
    simp [Value.ownBlock] at hq
    subst hq
    simp
  · intro z hz; simp at hz; subst hz; exact hx
set_option maxHeartbeats 4000000 in
theorem wayS (ps ws : List Int) (v : Value) (k0 : Nat) (w : World) (gd : Good ps ws) (hk0 : k0 < ps.length) (h : TreeV w w.heap.size v ps ws) :
    Calls Try.prog 157 #[v, .int .i64 k0] w (NewInts (wayT ps (k0 : Int)) w) := by
  obtain ⟨v1, v2, rfl, ⟨p1, c1, rfl, l1, m1, _, i1⟩, ⟨p2, c2, rfl, l2, m2, _, i2⟩⟩ := h
  have P1 := Lib.hid i1
  clear i1 i2
  obtain ⟨i0, hi, hz0, hz1, hz2⟩ := info_parts intInfo
  have hn24 := gd.n24
  have GD := Lib.hid gd
  have HP := Lib.hid (ParOk.of gd)
  have WL := Lib.hid (wayA_len HP.out k0 hk0)
  have WI := Lib.hid (wayA_in HP.out k0 hk0)
  have WT : Hid (wayT ps (k0 : Int) = (wayA ps k0).reverse) := Lib.hid (by unfold wayT; rw [Int.toNat_natCast])
  have B1 := ((Below.refl w.heap.size w).alloc (Nat.le_refl _) (.cells #[.slice p1 ps.length c1, .slice p2 ws.length c2] 28)).alloc (by simp) (.cells #[.int .i64 (k0 : Int)] 3)
  have T1 := Lib.hid (TBox.alloc (show TBox (w.alloc (.cells #[.slice p1 ps.length c1, .slice p2 ws.length c2] 28)) w.heap.size (.slice p1 ps.length c1) (.slice p2 ws.length c2) from alloc_heap w _) (.cells #[.int .i64 (k0 : Int)] 3))
  have O1 := Lib.hid (OwnV.single (w.alloc (.cells #[.slice p1 ps.length c1, .slice p2 ws.length c2] 28)) (w.heap.size + 1) (k0 : Int) (by simp) (inI64_nat (by omega)))
  rw [show (w.alloc (.cells #[.slice p1 ps.length c1, .slice p2 ws.length c2] 28)).heap.size = w.heap.size + 1 by simp] at O1
  obtain ⟨wa, hwa⟩ : ∃ wa, wa = (w.alloc (.cells #[.slice p1 ps.length c1, .slice p2 ws.length c2] 28)).alloc (.cells #[.int .i64 (k0 : Int)] 3) := ⟨_, rfl⟩
  rw [← hwa] at B1 T1 O1
  have HBA := Lib.hid B1
  clear B1 gd
  obtain ⟨x0, x1⟩ := T1.out.cells
  go_enter Try.func157, Try.ntmps157
  go_wp2
  rw [← hwa]
  clear hwa x0 x1
  go_loopw [1, 5] (fun c o wr => ∃ y : Nat, c = .int .i64 y ∧ y < ps.length ∧ ∃ L : List Int, Hid (wayA ps k0 = L ++ wayA ps y) ∧ Hid (OwnV wr (w.heap.size + 1) wr.heap.size o ((y : Int) :: L.reverse)) ∧ Hid (TBox wr w.heap.size (.slice p1 ps.length c1) (.slice p2 ws.length c2)) ∧ Hid (Below w.heap.size w wr)) (fun c _ _ => (intOf c).toNat)
  case atStart => exact ⟨k0, rfl, hk0, [], Lib.hid (by simp), O1, T1, HBA⟩
  case round =>
    obtain ⟨y, rfl, hy1, L, HL, HO, HT, HB⟩ := hrel
    obtain ⟨x0, x1⟩ := HT.out.cells
    clear O1 T1 HBA
    rcases Nat.eq_zero_or_pos y with hy0 | hy0
    · subst hy0
      have FIN : Hid (∀ o, OwnV wr (w.heap.size + 1) wr.heap.size o (((0 : Nat) : Int) :: L.reverse) → NewInts (wayT ps (k0 : Int)) w (.returned o) wr) := Lib.hid (fun o ho => ⟨o, rfl, by
        rw [WT.out, HL.out, wayA_zero (by omega), List.reverse_append]
        exact ho.low (by omega), HB.out⟩)
      clear x0 x1
      go_wp2
      go_ret
      exact FIN.out _ HO.out
    · obtain ⟨b, off, rfl, hb, hc⟩ := P1.out.get hy1
      have hcw : wr.cell? ⟨b, off + y, none⟩ = some (.int .i64 (ps.getD y 0)) := by rw [HB.out.cell (p := ⟨b, off + y, none⟩) hb]; exact hc
      have BD := GD.out.p_bd hy1
      have ST := Lib.hid (wayA_step HP.out hy0 hy1)
      obtain ⟨j, hj⟩ : ∃ j : Nat, ps.getD y 0 = (j : Int) := ⟨(ps.getD y 0).toNat, by have := BD.2.2 hy0; omega⟩
      rw [hj, Int.toNat_natCast] at ST
      rw [hj] at hcw BD
      have hjy : j < y := by have := BD.2.1; omega
      have LL : L.length ≤ 24 := by
        have h1 := WL.out.1
        rw [HL.out, List.length_append] at h1
        omega
      have i0' : (0 : Int) ≤ (y : Int) := by omega
      have i1 : (y : Int) < (ps.length : Int) := by omega
      have y0 : (y : Int) > 0 := by omega
      obtain ⟨g, cap, hsh, hg1, hg2⟩ := HO.out.shape (by simp)
      obtain ⟨M, hM⟩ : ∃ M, M = (y : Int) :: L.reverse := ⟨_, rfl⟩
      have ML : M.length ≤ 30 := by rw [hM]; simp; omega
      have HMM := Lib.hid hM
      rw [← hM] at HO hsh
      clear hc hj hM
      subst hsh
      have OS := OwnV.single wr (w.heap.size + 1) (j : Int) (by have := HT.out.lt; omega) (inI64_nat (by omega))
      have CE : Hid (∀ i u, (M.map (Value.int .i64))[i]? = some u → (wr.alloc (.cells #[.int .i64 (j : Int)] 3)).cell? ((⟨g, 0, none⟩ : Addr).add i) = some u) := Lib.hid (by
        intro i u hu
        rw [List.getElem?_map] at hu
        have hi' : i < M.length := by
          rcases Nat.lt_or_ge i M.length with h' | h'
          · exact h'
          · rw [List.getElem?_eq_none h'] at hu; cases hu
        rw [Addr.add_lit, Nat.zero_add, World.cell?_alloc_lt _ _ _ (by exact hg2), HO.out.cellGet hi', List.getD_eq_getElem?_getD]
        rw [List.getElem?_eq_getElem hi'] at hu ⊢
        exact hu)
      have RW := Lib.hid OS.row
      have HG := Lib.hid hg2
      have hsz := HT.out.lt
      clear OS hg1 hg2
      go_wp2_with (at_builtin; refine wpList_append_own _ rfl _ _ 22 rfl (w.heap.size + 1) 3 i0 (.int .i64 0) 1 8 Try.underlying22 hi hz0 hz1 hz2 rfl (by decide) _ 1 [.int .i64 (j : Int)] rfl RW.out ⟨g, 0, none⟩ M.length cap (M.map (.int .i64)) rfl (by simp) CE.out (fun u hu => by obtain ⟨z, _, rfl⟩ := List.mem_map.1 hu; rfl) (by unfold maxLen; omega) (by omega) (by simp; omega) ?_; intro v' w3 hown3 hgrow3 hnil3)
      have bel3 := Lib.hid ((HB.out.alloc HB.out.size _).grown hgrow3 (by simp; omega) (fun q hq => by have := (RW.out.lt q hq).1; omega))
      have own3 : Hid (OwnV w3 (w.heap.size + 1) w3.heap.size v' ((j : Int) :: M)) := Lib.hid ⟨by
        have h := hown3
        rw [List.length_cons, Nat.add_comm M.length 1, List.map_cons]
        exact h, fun q hq => (hown3.lt q hq).2, Nat.le_refl _, fun z hz => by
          rcases List.mem_cons.1 hz with h' | h'
          · subst h'; exact inI64_nat (by omega)
          · exact HO.out.in64 z h'⟩
      have box3 := Lib.hid ((HT.out.alloc _).grown hgrow3 (fun q hq => (RW.out.lt q hq).1) (by omega))
      clear hown3 hgrow3 hnil3
      go_roundw
      case rel => exact ⟨j, rfl, by omega, L ++ [(y : Int)], Lib.hid (by rw [HL.out, ST.out]; simp), Lib.hid (by have := own3.out; rw [HMM.out] at this; simpa using this), box3, bel3⟩
      case measure => simp [intOf]; omega
end Go.Proofs.Ytfpckfameebdnaa
namespace Go.Proofs.Ytfpckfameebdnaa
open Go.RowKit
set_option linter.unusedVariables false
/-- What is asked of a step that is handed over: at each node it makes the node's number of what the node has from above. -/
def PassI (g : Nat) (lb : Array Value) (ps : List Int) (a0 : Int) (T : List Int) (w : World) : Prop :=
  ∀ (W : World) (x : Nat), x < ps.length → Below w.heap.size w W → Calls Try.prog g (#[.int .i64 (abv ps a0 T x), .int .i64 x] ++ lb) W fun e w' => e = .returned (.int .i64 (T.getD x 0)) ∧ Below W.heap.size W w'
theorem take_next {T : List Int} {k : Nat} (h : k < T.length) : T.take (k + 1) = T.take k ++ [T.getD k 0] := by
  rw [List.take_succ_eq_append_getElem h, List.getD_eq_getElem?_getD, List.getElem?_eq_getElem h]; rfl
theorem getD_take {T : List Int} {j k : Nat} (h : j < k) : (T.take k).getD j 0 = T.getD j 0 := by
  rw [List.getD_eq_getElem?_getD, List.getD_eq_getElem?_getD, List.getElem?_take, if_pos h]
set_option maxRecDepth 100000 in
set_option maxHeartbeats 4000000 in
theorem passI (ps ws T : List Int) (a0 : Int) (v : Value) (g : Nat) (lb : Array Value) (w : World) (eg : ∀ args w, (callFunc g args).run Try.prog w = .ok (.enter g args) w)
    (gd : Good ps ws) (h : TreeV w w.heap.size v ps ws) (hT : T.length = ps.length) (hI : ∀ i, i < T.length → InI64 (T.getD i 0)) (hp : PassI g lb ps a0 T w) :
    Calls Try.prog 95 #[v, .int .i64 a0, .func (.func g) #[] lb] w (NewInts T w) := by
  obtain ⟨v1, v2, rfl, ⟨p1, c1, rfl, l1, m1, _, i1⟩, ⟨p2, c2, rfl, l2, m2, _, i2⟩⟩ := h
  have P1 := Lib.hid i1
  clear i1 i2 m1 m2
  have PP := Lib.hid hp
  clear hp
  have hn := gd.n24
  have hn1 := gd.n1
  have GP := Lib.hid gd.par
  have HT := Lib.hid hT
  have II := Lib.hid hI
  clear gd hT hI
  obtain ⟨i0, hi, hz0, hz1, hz2⟩ := info_parts intInfo
  have B1 := (Below.refl w.heap.size w).alloc (Nat.le_refl _) (.cells #[.slice p1 ps.length c1, .slice p2 ws.length c2] 28)
  have T1 := Lib.hid (show TBox (w.alloc (.cells #[.slice p1 ps.length c1, .slice p2 ws.length c2] 28)) w.heap.size (.slice p1 ps.length c1) (.slice p2 ws.length c2) from alloc_heap w _)
  have sz : (w.alloc (.cells #[.slice p1 ps.length c1, .slice p2 ws.length c2] 28)).heap.size = w.heap.size + 1 := by simp
  obtain ⟨wa, hwa⟩ : ∃ wa, wa = w.alloc (.cells #[.slice p1 ps.length c1, .slice p2 ws.length c2] 28) := ⟨_, rfl⟩
  rw [← hwa] at B1 T1 sz
  have HBA := Lib.hid B1
  clear B1
  have C0 := Lib.hid (PP.out wa 0 (by omega) HBA.out)
  rw [show abv ps a0 T 0 = a0 from if_pos rfl] at C0
  obtain ⟨z0, hz⟩ : ∃ z, z = T.getD 0 0 := ⟨_, rfl⟩
  have Z0 := Lib.hid hz
  have ZI := Lib.hid (show InI64 z0 by rw [hz]; exact II.out 0 (by have := HT.out; omega))
  rw [← hz] at C0
  clear hz
  go_enter Try.func95, Try.ntmps95
  go_wp2_with (rw [← hwa]; clear hwa; go_at_fn g; refine C0.out.mono ?_; rintro e w1 ⟨rfl, b1⟩; (have s1 := b1.size); (have HB1 := Lib.hid ((HBA.out.trans (b1.mono HBA.out.size)).alloc (Nat.le_trans HBA.out.size s1) (.cells #[.int .i64 z0] 3))); (have HT1 := Lib.hid ((T1.out.below b1 T1.out.lt).alloc (.cells #[.int .i64 z0] 3))); (have O1 := Lib.hid (OwnV.single w1 (w.heap.size + 1) z0 (by omega) ZI.out)); clear b1)
  have TL := HT.out
  have ONE : Hid (T.take 1 = [z0]) := Lib.hid (by rw [take_next (by omega), Z0.out]; rfl)
  clear C0 HBA T1 Z0
  go_loopw [7, 8] (fun o i wr => ∃ k : Nat, 1 ≤ k ∧ k ≤ ps.length ∧ i = .int .i64 k ∧ Hid (OwnV wr (w.heap.size + 1) wr.heap.size o (T.take k)) ∧ Hid (TBox wr w.heap.size (.slice p1 ps.length c1) (.slice p2 ws.length c2)) ∧ Hid (Below w.heap.size w wr)) (fun _ i _ => ps.length - (intOf i).toNat)
  case atStart => exact ⟨1, Nat.le_refl _, hn1, rfl, Lib.hid (by rw [ONE.out]; exact O1.out), HT1, HB1⟩
  case round =>
    obtain ⟨k, hk1, hk, rfl, HO, HTW, HB⟩ := hrel
    obtain ⟨x0, x1⟩ := HTW.out.cells
    clear HT1 HB1 O1
    by_cases hlt : k < ps.length
    · obtain ⟨b, off, rfl, hb, hc⟩ := P1.out.get hlt
      obtain ⟨g1, g2⟩ := GP.out k (by omega) hlt
      obtain ⟨j, hj⟩ : ∃ j : Nat, ps.getD k 0 = (j : Int) := ⟨(ps.getD k 0).toNat, by omega⟩
      have hjk : j < k := by omega
      have hcw : wr.cell? ⟨b, off + k, none⟩ = some (.int .i64 j) := by rw [HB.out.cell (p := ⟨b, off + k, none⟩) hb, hc, hj]
      have LT : (T.take k).length = k := by rw [List.length_take]; omega
      obtain ⟨gb, cap, rfl, hg1, hg2⟩ := HO.out.shape (by omega)
      have hdj : wr.cell? ⟨gb, j, none⟩ = some (.int .i64 (T.getD j 0)) := by
        rw [HO.out.cellGet (by omega), getD_take hjk]
      have C := Lib.hid (PP.out wr k hlt HB.out)
      have AB : abv ps a0 T k = T.getD j 0 := by unfold abv; rw [if_neg (by omega), hj, Int.toNat_natCast]
      rw [AB] at C
      have SE := Lib.hid (take_next (T := T) (k := k) (by omega))
      have NI := Lib.hid (II.out k (by omega))
      obtain ⟨L, hL⟩ : ∃ L, L = T.take k := ⟨_, rfl⟩
      rw [← hL] at HO LT SE ⊢
      obtain ⟨tj, htj⟩ : ∃ t, t = T.getD j 0 := ⟨_, rfl⟩
      rw [← htj] at hdj C
      obtain ⟨tk, htk⟩ : ∃ t, t = T.getD k 0 := ⟨_, rfl⟩
      rw [← htk] at C SE NI
      have j0 : (0 : Int) ≤ (j : Int) := by omega
      have j1 : (j : Int) < (L.length : Int) := by omega
      have hsz := HTW.out.lt
      have le1 : L.length ≤ k := by omega
      have le2 : k ≤ L.length := by omega
      clear hc hL htj htk hj AB g1 g2 LT
      go_wp2_with (first
        | (go_at_fn g; refine C.out.mono ?_; rintro e w1 ⟨rfl, b1⟩; have HB1 := Lib.hid (HB.out.trans (b1.mono HB.out.size)); have HO2 := Lib.hid ((HO.out.below b1).wide b1.size (Nat.le_refl _)); have HT2 := Lib.hid (HTW.out.below b1 HTW.out.lt); have sz1 := b1.size; clear b1)
        | (at_builtin; refine wpList_append_own _ rfl _ _ 22 rfl (w.heap.size + 1) 3 i0 (.int .i64 0) 1 8 Try.underlying22 hi hz0 hz1 hz2 rfl (by decide) _ L.length (L.map (.int .i64)) rfl (HO2.out.row.alloc _) ⟨w1.heap.size, 0, none⟩ 1 1 [.int .i64 tk] rfl rfl (cell_one_new _ _ _) (fun x hx => by simp at hx; subst hx; rfl) (by unfold maxLen; omega) (by omega) (by simp; omega) ?_; intro v' w3 hown3 hgrow3 hnil3))
      have own3 := Lib.hid (HO2.out.app NI.out hown3)
      have bel3 := Lib.hid ((HB1.out.alloc HB1.out.size _).grown hgrow3 (by simp; omega) (fun q hq => by have := (HO2.out.row.lt q hq).1; omega))
      have box3 := Lib.hid ((HT2.out.alloc _).grown hgrow3 (fun q hq => (HO2.out.row.lt q hq).1) (by omega))
      clear hown3 hgrow3 hnil3
      go_roundw
      case rel => exact ⟨k + 1, by omega, by omega, by go_num, Lib.hid (by rw [SE.out]; exact own3.out), box3, bel3⟩
      case measure => simp [intOf]; omega
    · obtain rfl : k = ps.length := by omega
      rw [List.take_of_length_le (by omega)] at HO
      have FIN : Hid (∀ o, OwnV wr (w.heap.size + 1) wr.heap.size o T → NewInts T w (.returned o) wr) := Lib.hid (fun o h => ⟨o, rfl, h.low (by omega), HB.out⟩)
      go_wp2
      go_ret
      exact FIN.out _ HO.out
end Go.Proofs.Ytfpckfameebdnaa
namespace Go.Proofs.Ytfpckfameebdnaa
open Go.RowKit
set_option linter.unusedVariables false
theorem hb_nextE {wa a b : World} (h : Hid (Below wa.heap.size wa a)) (k : Below a.heap.size a b) : Hid (Below wa.heap.size wa b) := Lib.hid (h.out.trans (k.mono h.out.size))
theorem isEndE {ps ws : List Int} {v : Value} {x : Nat} {w : World} (gd : Good ps ws) (hx : x < ps.length) (h : TreeV w w.heap.size v ps ws) : Calls Try.prog 91 #[v, .int .i64 x] w (Gives (.bool (leafB ps x)) w) := by
  have := isEndI ps ws v x w (by rw [gd.nw]; exact hx) h
  rwa [show decide (0 < ws.getD x 0) = leafB ps x by rw [Bool.eq_iff_iff, decide_eq_true_iff]; exact gd.end_iff hx] at this
set_option maxHeartbeats 2000000 in
theorem entPart (ps ws zs : List Int) (lv : Int) (v1 v2 : Value) (w W0 : World) (C3 C4 C5 d : Nat) (q : Option Addr) (pr : Proc ps ws zs) (hI : IntsAt w w.heap.size q zs) (h : TreeV w w.heap.size (.agg #[v1, v2]) ps ws) (h0 : Below w.heap.size w W0)
    (h3 : TBox W0 C3 v1 v2) (h4 : VBox W0 C4 (.slice q zs.length d) 22) (h5 : VBox W0 C5 (.int .i64 lv) 3) :
    PassI 185 #[.pointer (some ⟨C4, 0, none⟩), .pointer (some ⟨C5, 0, none⟩), .pointer (some ⟨C3, 0, none⟩)] ps (-1) (entT ps zs lv) W0 := by
  intro W x hx hb
  have HT := Lib.hid (h3.below hb h3.lt)
  have HV4 := Lib.hid (h4.below hb h4.lt)
  have HV5 := Lib.hid (h5.below hb h5.lt)
  have hp := ParOk.of pr.good
  have AT := passT_at hp (-1) (entS ps zs lv) hx
  change (entT ps zs lv).getD x 0 = (if abv ps (-1) (entT ps zs lv) x = -1 ∧ hitB ps zs lv x = true then (x : Int) else abv ps (-1) (entT ps zs lv) x) at AT
  have HH : hitB ps zs lv x = (decide (lv ≤ zs.getD x 0) || leafB ps x) := rfl
  have hl := pr.len
  have hn24 := pr.good.n24
  obtain ⟨b, off, rfl, hb2, hc2⟩ := hI.get (i := x) (by omega)
  have hb3 := h0.trans (hb.mono h0.size)
  have hcw : W.cell? ⟨b, off + x, none⟩ = some (.int .i64 (zs.getD x 0)) := by rw [hb3.cell (p := ⟨b, off + x, none⟩) hb2, hc2]
  have hbW : b < W.heap.size := Nat.lt_of_lt_of_le hb2 hb3.size
  have i0 : (0 : Int) ≤ (x : Int) := by omega
  have i1 : (x : Int) < (zs.length : Int) := by omega
  have zl : zs.length ≤ 24 := by omega
  have IE : Hid (∀ w', Hid (Below W.heap.size W w') → Calls Try.prog 91 #[.agg #[v1, v2], .int .i64 x] w' (Gives (.bool (leafB ps x)) w')) := Lib.hid (fun w' hw => isEndE pr.good hx (h.boxed (hb3.trans (hw.out.mono hb3.size))))
  obtain ⟨a, ha⟩ : ∃ a, a = abv ps (-1) (entT ps zs lv) x := ⟨_, rfl⟩
  rw [← ha] at AT ⊢
  obtain ⟨z, hz⟩ : ∃ z, z = zs.getD x 0 := ⟨_, rfl⟩
  rw [← hz] at HH hcw
  rw [HH] at AT
  rw [AT]
  obtain ⟨lf, hlf⟩ : ∃ lf, lf = leafB ps x := ⟨_, rfl⟩
  rw [← hlf] at IE ⊢
  obtain ⟨x0, x1⟩ := HT.out.cells
  have y4 := HV4.out.cell
  have y5 := HV5.out.cell
  clear hb AT ha hz hc2 hb3 h0 hI hp pr hl hn24 hb2 HH h3 h4 h5 hlf h
  show Calls _ _ #[.int .i64 a, .int .i64 x, .pointer (some ⟨C4, 0, none⟩), .pointer (some ⟨C5, 0, none⟩), .pointer (some ⟨C3, 0, none⟩)] _ _
  by_cases h1 : a = -1
  · subst h1
    by_cases h2 : lv ≤ z
    · rw [if_pos ⟨rfl, by rw [decide_eq_true h2]; rfl⟩]
      go_enter Try.func185, Try.ntmps185
      go_wp2_with fail
      go_quiet (fail)
      go_wp2_with fail
      go_ret
      exact ⟨rfl, by first | exact below_drew (Below.refl _ _) | exact below_drewN (Below.refl _ _) _⟩
    · have KC : Hid (∀ w', Hid (Below W.heap.size W w') → w'.cell? ⟨C3, 0, none⟩ = some v1 ∧ w'.cell? ⟨C3, 1, none⟩ = some v2 ∧ w'.cell? ⟨C4, 0, none⟩ = some (.slice (some ⟨b, off, none⟩) zs.length d) ∧ w'.cell? ⟨C5, 0, none⟩ = some (.int .i64 lv) ∧ w'.cell? ⟨b, off + x, none⟩ = some (.int .i64 z)) := Lib.hid (fun w' hw => ⟨(HT.out.below hw.out HT.out.lt).cells.1, (HT.out.below hw.out HT.out.lt).cells.2, (HV4.out.below hw.out HV4.out.lt).cell, (HV5.out.below hw.out HV5.out.lt).cell, (hw.out.cell (p := ⟨b, off + x, none⟩) hbW).trans hcw⟩)
      have HD : Hid (Below W.heap.size W W.drew) := Lib.hid (below_drew (Below.refl _ _))
      have R : Hid ((if (-1 : Int) = -1 ∧ (decide (lv ≤ z) || lf) = true then (x : Int) else -1) = if lf = true then (x : Int) else -1) := Lib.hid (by rw [decide_eq_false h2]; simp)
      rw [R.out]
      have nlv : ¬ (z ≥ lv) := h2
      have nlv2 : decide (lv ≤ z) = false := decide_eq_false h2
      have nlv3 : z < lv := by omega
      cases lf
      · go_enter Try.func185, Try.ntmps185
        go_wp2_with fail
        go_region_with (first
            | (go_at_call 91; (with_reducible refine (IE.out _ (by first | exact HD | assumption)).mono ?_); rintro e w8 ⟨rfl, b8⟩; (have HE8 := hb_nextE (wa := W) (by first | exact HD | assumption) b8); clear b8))
        all_goals
          go_wp2_with fail
          go_ret
          exact ⟨rfl, HE8.out⟩
      · go_enter Try.func185, Try.ntmps185
        go_wp2_with fail
        go_region_with (first
            | (go_at_call 91; (with_reducible refine (IE.out _ (by first | exact HD | assumption)).mono ?_); rintro e w8 ⟨rfl, b8⟩; (have HE8 := hb_nextE (wa := W) (by first | exact HD | assumption) b8); clear b8))
        all_goals
          go_wp2_with fail
          go_ret
          exact ⟨rfl, HE8.out⟩
  · rw [if_neg (fun h => h1 h.1)]
    have nb : (a == -1) = false := by rw [beq_eq_false_iff_ne]; exact h1
    go_enter Try.func185, Try.ntmps185
    go_wp2_with fail
    go_quiet (fail)
    go_wp2_with fail
    go_ret
    exact ⟨rfl, by first | exact below_drew (Below.refl _ _) | exact below_drewN (Below.refl _ _) _⟩
theorem entPred (T : List Int) (W0 : World) (C gb cap n : Nat) (hn : n ≤ 1000000) (hg : gb < W0.heap.size) (hD : ∀ j, j < n → W0.cell? ⟨gb, j, none⟩ = some (.int .i64 (T.getD j 0)))
    (hc : VBox W0 C (.slice (some ⟨gb, 0, none⟩) n cap) 22) :
    PredI 186 #[.pointer (some ⟨C, 0, none⟩)] (fun x => decide (T.getD x 0 = (x : Int))) n W0 := by
  intro W x hx hb
  have y0 := (hc.below hb hc.lt).cell
  have hcx : W.cell? ⟨gb, x, none⟩ = some (.int .i64 (T.getD x 0)) := by rw [hb.cell (p := ⟨gb, x, none⟩) hg]; exact hD x hx
  have i0 : (0 : Int) ≤ (x : Int) := by omega
  have i1 : (x : Int) < (n : Int) := by omega
  dsimp only
  generalize T.getD x 0 = a at *
  clear hc hb hD
  show Calls _ _ #[.int .i64 (x : Int), .pointer (some ⟨C, 0, none⟩)] _ _
  have R : Hid (decide (a = (x : Int)) = (a == (x : Int))) := Lib.hid (by rw [Bool.eq_iff_iff, decide_eq_true_iff, beq_iff_eq])
  rw [R.out]
  go_enter Try.func186, Try.ntmps186
  go_wp2
  go_ret
  exact ⟨rfl, Below.refl _ _⟩
/-- What FirstEntry returns. -/
def ifEnt (ps ws zs L : List Int) : List Int := if procB ps ws zs = true then L else []
theorem ent_len (ps ws zs : List Int) (lv : Int) : (ifEnt ps ws zs (entL ps zs lv)).length ≤ 1048576 := by
  unfold ifEnt
  split
  · rename_i h
    have h1 := (procB_iff.1 h).good.n24
    have h2 := nodesW_len (fun x => decide ((entT ps zs lv).getD x 0 = (x : Int))) ps.length
    unfold entL
    omega
  · simp
set_option maxRecDepth 100000 in
set_option maxHeartbeats 4000000 in
theorem entI (ps ws zs : List Int) (lv : Int) (v u : Value) (w : World) (hn1 : zs.length ≤ 1048576) (h : TreeV w w.heap.size v ps ws) (hu : IntsV w w.heap.size u zs) :
    Calls Try.prog 153 #[v, u, .int .i64 lv] w (NewIntsB (ifEnt ps ws zs (entL ps zs lv)) (procB ps ws zs) w) := by
  have PC := Lib.hid (fun w' (hb : Below w.heap.size w w') => procI ps ws zs v u w' hn1 (h.boxed hb) ((hu.below hb).more hb.size))
  have TV := Lib.hid (fun w' (hb : Below w.heap.size w w') => h.boxed hb)
  have TH := Lib.hid h
  obtain ⟨p1, c1, p2, c2, rfl⟩ := h.shape
  obtain ⟨q, d, rfl, _, _, _, j1⟩ := hu
  have Q1 := Lib.hid j1
  clear h j1
  have hmf : ∀ (fn : Fn) (first cap : Array Value) (w : World), (Instr.makeFunc fn first cap).run Try.prog w = .ok (.func fn first cap) w := fun _ _ _ _ => rfl
  have B1 := (((Below.refl w.heap.size w).alloc (Nat.le_refl _) (.cells #[.slice p1 ps.length c1, .slice p2 ws.length c2] 28)).alloc (by simp) (.cells #[.slice q zs.length d] 22)).alloc (by simp; omega) (.cells #[.int .i64 lv] 3)
  have K0 := heap_three w (.cells #[.slice p1 ps.length c1, .slice p2 ws.length c2] 28) (.cells #[.slice q zs.length d] 22) (.cells #[.int .i64 lv] 3)
  obtain ⟨x0, x1⟩ := (show TBox _ w.heap.size (.slice p1 ps.length c1) (.slice p2 ws.length c2) from K0.1).cells
  have x2 := (show VBox _ (w.heap.size + 1) (.slice q zs.length d) 22 from K0.2.1).cell
  obtain ⟨wa, hwa⟩ : ∃ wa, wa = ((w.alloc (.cells #[.slice p1 ps.length c1, .slice p2 ws.length c2] 28)).alloc (.cells #[.slice q zs.length d] 22)).alloc (.cells #[.int .i64 lv] 3) := ⟨_, rfl⟩
  rw [← hwa] at B1 K0
  have T1 := Lib.hid (show TBox wa w.heap.size (.slice p1 ps.length c1) (.slice p2 ws.length c2) from K0.1)
  have V1 := Lib.hid (show VBox wa (w.heap.size + 1) (.slice q zs.length d) 22 from K0.2.1)
  have V2 := Lib.hid (show VBox wa (w.heap.size + 1 + 1) (.int .i64 lv) 3 from K0.2.2)
  have HBA := Lib.hid B1
  clear K0 B1
  cases hp : procB ps ws zs
  · rw [hp] at PC
    have IS := Lib.hid (show ifEnt ps ws zs (entL ps zs lv) = [] by unfold ifEnt; rw [hp]; rfl)
    rw [IS.out]
    clear hp TV
    go_enter Try.func153, Try.ntmps153
    go_wp2_with fail
    rw [← hwa]
    clear hwa
    refine (PC.out _ HBA.out).mono ?_
    rintro e w1 ⟨rfl, b1⟩
    have HB1 := Lib.hid (HBA.out.trans (b1.mono HBA.out.size))
    clear b1
    go_wp2_with fail
    go_ret2
    exact newInts_empty HB1.out
  · rw [hp] at PC
    have IS := Lib.hid (show ifEnt ps ws zs (entL ps zs lv) = entL ps zs lv by unfold ifEnt; rw [hp]; rfl)
    have PR := Lib.hid (procB_iff.1 hp)
    have hn24 := PR.out.good.n24
    have hn0 := PR.out.good.n1
    have TL : Hid ((entT ps zs lv).length = ps.length) := Lib.hid (passT_len _ _ _)
    rw [IS.out]
    clear hp
    go_enter Try.func153, Try.ntmps153
    go_wp2_with fail
    rw [← hwa]
    clear hwa
    refine (PC.out _ HBA.out).mono ?_
    rintro e w1 ⟨rfl, b1⟩
    have HB1 := Lib.hid (HBA.out.trans (b1.mono HBA.out.size))
    have HT1 := Lib.hid (T1.out.below b1 T1.out.lt)
    have HV1 := Lib.hid (V1.out.below b1 V1.out.lt)
    have HV2 := Lib.hid (V2.out.below b1 V2.out.lt)
    clear b1 x0 x1 x2
    obtain ⟨x0, x1⟩ := HT1.out.cells
    have P := Lib.hid (passI ps ws (entT ps zs lv) (-1) _ 185 #[.pointer (some ⟨w.heap.size + 1, 0, none⟩), .pointer (some ⟨w.heap.size + 1 + 1, 0, none⟩), .pointer (some ⟨w.heap.size, 0, none⟩)] w1 (enters_of Try.func185 (by kernel_rfl) rfl) PR.out.good (TV.out w1 HB1.out) TL.out (fun i hi => by have := ent_bd (ParOk.of PR.out.good) zs lv i (by have := TL.out; omega); have := TL.out; unfold InI64; omega) (entPart ps ws zs lv _ _ w w1 _ _ _ d q PR.out Q1.out TH.out HB1.out HT1.out HV1.out HV2.out))
    go_wp2_with fail
    refine P.out.mono ?_
    rintro e w3 ⟨u3, rfl, o3, b3⟩
    obtain ⟨gb, cb, rfl, _, hg2⟩ := o3.shape (by have := TL.out; omega)
    have DC := Lib.hid (fun j (hj : j < ps.length) => o3.cellGet (j := j) (by have := TL.out; omega))
    rw [TL.out]
    have HB3 := Lib.hid (HB1.out.trans (b3.mono HB1.out.size))
    have HT3 := Lib.hid (HT1.out.below b3 HT1.out.lt)
    have HB4 := Lib.hid (HB3.out.alloc HB3.out.size (.cells #[.slice (some ⟨gb, 0, none⟩) ps.length cb] 22))
    have HT4 := Lib.hid (HT3.out.alloc (.cells #[.slice (some ⟨gb, 0, none⟩) ps.length cb] 22))
    have HV4 := Lib.hid (show VBox (w3.alloc (.cells #[.slice (some ⟨gb, 0, none⟩) ps.length cb] 22)) w3.heap.size (.slice (some ⟨gb, 0, none⟩) ps.length cb) 22 from alloc_heap w3 _)
    have DC4 : Hid (∀ j, j < ps.length → (w3.alloc (.cells #[.slice (some ⟨gb, 0, none⟩) ps.length cb] 22)).cell? ⟨gb, j, none⟩ = some (.int .i64 ((entT ps zs lv).getD j 0))) := Lib.hid (fun j hj => by rw [World.cell?_alloc_lt _ _ _ (by exact hg2)]; exact DC.out j hj)
    have HG4 : Hid (gb < (w3.alloc (.cells #[.slice (some ⟨gb, 0, none⟩) ps.length cb] 22)).heap.size) := Lib.hid (by simp; omega)
    clear b3 o3 hg2 DC x0 x1
    obtain ⟨x0, x1⟩ := HT4.out.cells
    obtain ⟨C, hC⟩ : ∃ C, C = w3.heap.size := ⟨_, rfl⟩
    obtain ⟨w4, hw4⟩ : ∃ w4, w4 = w3.alloc (.cells #[.slice (some ⟨gb, 0, none⟩) ps.length cb] 22) := ⟨_, rfl⟩
    rw [← hw4] at HB4 HT4 HV4 DC4 HG4
    rw [← hC] at HV4
    have A := Lib.hid (nodesI ps ws _ 186 #[.pointer (some ⟨C, 0, none⟩)] (fun x => decide ((entT ps zs lv).getD x 0 = (x : Int))) w4 (enters_of Try.func186 (by kernel_rfl) rfl) (by omega) (TV.out w4 HB4.out) (entPred (entT ps zs lv) w4 C gb cb ps.length (by omega) HG4.out DC4.out HV4.out))
    change Hid (Calls _ _ _ _ (NewInts (entL ps zs lv) w4)) at A
    go_wp2_with fail
    rw [← hw4, ← hC]
    clear hw4 hC x0 x1
    refine A.out.mono ?_
    rintro e w5 ⟨u5, rfl, o5, b5⟩
    have FIN := Lib.hid (newInts_back HB4.out o5 b5)
    clear o5 b5
    go_wp2_with fail
    go_ret2
    exact FIN.out
end Go.Proofs.Ytfpckfameebdnaa
namespace Go.Proofs.Ytfpckfameebdnaa
set_option linter.unusedVariables false
def fstS (p : Nat → Bool) : Int → Nat → Int := fun a x => if a = -1 ∧ p x = true then (x : Int) else a
/-- The first node at or above a node that a test takes, or -1. -/
def fstT (ps : List Int) (p : Nat → Bool) : List Int := passT ps (-1) (fstS p)
theorem fst_zero {ps : List Int} (h : 0 < ps.length) (p : Nat → Bool) : (fstT ps p).getD 0 0 = fstS p (-1) 0 := passT_zero ps (-1) _ h
theorem fst_step {ps : List Int} (hp : ParOk ps) (p : Nat → Bool) {x : Nat} (h0 : 0 < x) (hx : x < ps.length) : (fstT ps p).getD x 0 = fstS p ((fstT ps p).getD (ps.getD x 0).toNat 0) x := passT_step ps (-1) _ h0 hx (par_lt hp h0 hx)
theorem fst_bd {ps : List Int} (hp : ParOk ps) (p : Nat → Bool) : ∀ x, x < ps.length → -1 ≤ (fstT ps p).getD x 0 ∧ (fstT ps p).getD x 0 ≤ (x : Int) := by
  refine tree_ind hp (fun h => ?_) (fun x h0 hx ih => ?_)
  · rw [fst_zero h]
    unfold fstS
    split <;> simp
  · have hl := par_lt hp h0 hx
    rw [fst_step hp p h0 hx]
    unfold fstS
    split <;> omega
theorem fst_congr {ps : List Int} (hp : ParOk ps) {p q : Nat → Bool} (h : ∀ x, x < ps.length → p x = q x) : ∀ x, x < ps.length → (fstT ps p).getD x 0 = (fstT ps q).getD x 0 := by
  refine tree_ind hp (fun h0 => ?_) (fun x h0 hx ih => ?_)
  · rw [fst_zero h0, fst_zero h0]
    unfold fstS
    rw [h 0 h0]
  · rw [fst_step hp p h0 hx, fst_step hp q h0 hx, ih]
    unfold fstS
    rw [h x hx]
/-- What a first node is. -/
theorem fst_self {ps : List Int} (hp : ParOk ps) (p : Nat → Bool) : ∀ x, x < ps.length → 0 ≤ (fstT ps p).getD x 0 → (fstT ps p).getD ((fstT ps p).getD x 0).toNat 0 = (fstT ps p).getD x 0 := by
  refine tree_ind hp (fun h h' => ?_) (fun x h0 hx ih h' => ?_)
  · have := (fst_bd hp p 0 h).2
    have e : (fstT ps p).getD 0 0 = 0 := by omega
    rw [e, Int.toNat_zero, e]
  · have hs := fst_step hp p h0 hx
    unfold fstS at hs
    by_cases h : (fstT ps p).getD (ps.getD x 0).toNat 0 = -1 ∧ p x = true
    · rw [if_pos h] at hs
      rw [hs, Int.toNat_natCast, hs]
    · rw [if_neg h] at hs
      rw [hs] at h' ⊢
      exact ih h'
theorem fst_hit {ps : List Int} (hp : ParOk ps) (p : Nat → Bool) : ∀ x, x < ps.length → 0 ≤ (fstT ps p).getD x 0 → p ((fstT ps p).getD x 0).toNat = true := by
  refine tree_ind hp (fun h h' => ?_) (fun x h0 hx ih h' => ?_)
  · have hs := fst_zero h p
    unfold fstS at hs
    by_cases h1 : p 0 = true
    · rw [if_pos ⟨rfl, h1⟩] at hs
      rw [hs, Int.toNat_natCast]; exact h1
    · rw [if_neg (fun h => h1 h.2)] at hs
      omega
  · have hs := fst_step hp p h0 hx
    unfold fstS at hs
    by_cases h : (fstT ps p).getD (ps.getD x 0).toNat 0 = -1 ∧ p x = true
    · rw [if_pos h] at hs
      rw [hs, Int.toNat_natCast]; exact h.2
    · rw [if_neg h] at hs
      rw [hs] at h' ⊢
      exact ih h'
theorem fst_leaf {ps : List Int} (hp : ParOk ps) {p : Nat → Bool} {x : Nat} (hx : x < ps.length) (hh : p x = true) : 0 ≤ (fstT ps p).getD x 0 := by
  rcases Nat.eq_zero_or_pos x with h | h
  · subst h
    rw [fst_zero hx]; unfold fstS; rw [if_pos ⟨rfl, hh⟩]; omega
  · rw [fst_step hp p h hx]
    unfold fstS
    have := fst_bd hp p (ps.getD x 0).toNat (by have := par_lt hp h hx; omega)
    split
    · omega
    · rename_i hn
      have : ¬ (fstT ps p).getD (ps.getD x 0).toNat 0 = -1 := fun e => hn ⟨e, hh⟩
      omega
/-- Each first node is one on the way to an end. -/
theorem fst_down {ps ws : List Int} (g : Good ps ws) (p : Nat → Bool) : ∀ x, x < ps.length → 0 ≤ (fstT ps p).getD x 0 → ∃ e, e < ps.length ∧ leafB ps e = true ∧ (fstT ps p).getD e 0 = (fstT ps p).getD x 0 := by
  refine down_ind g (fun x hx hl h => ⟨x, hx, hl, rfl⟩) (fun x y hx hy h0 e ih h => ?_)
  have hs := fst_step (ParOk.of g) p h0 hy
  rw [e] at hs
  unfold fstS at hs
  rw [if_neg (by omega)] at hs
  obtain ⟨z, h1, h2, h3⟩ := ih (by rw [hs]; exact h)
  exact ⟨z, h1, h2, by rw [h3, hs]⟩
/-- The nodes that are first on their way. -/
def fstL (ps : List Int) (p : Nat → Bool) : List Int := nodesW (fun x => decide ((fstT ps p).getD x 0 = (x : Int))) ps.length
theorem fstL_congr {ps : List Int} (hp : ParOk ps) {p q : Nat → Bool} (h : ∀ x, x < ps.length → p x = q x) : fstL ps p = fstL ps q := nodesW_congr fun x hx => by rw [fst_congr hp h x hx]
theorem ent_fst (ps zs : List Int) (lv : Int) : entL ps zs lv = fstL ps (hitB ps zs lv) := rfl
def fstC (ps : List Int) (p : Nat → Bool) : List Int := (endsT ps).map fun e => (fstT ps p).getD e.toNat 0
theorem fstC_len (ps : List Int) (p : Nat → Bool) : (fstC ps p).length = (endsT ps).length := by simp [fstC]
theorem fstC_at (ps : List Int) (p : Nat → Bool) {k x : Nat} (hk : k < (endsT ps).length) (hx : (x : Int) = (endsT ps).getD k 0) : (fstC ps p).getD k 0 = (fstT ps p).getD x 0 := by
  have e : (endsT ps).getD k 0 = (endsT ps)[k] := by rw [List.getD_eq_getElem?_getD, List.getElem?_eq_getElem hk]; rfl
  unfold fstC
  rw [List.getD_eq_getElem?_getD, List.getElem?_map, List.getElem?_eq_getElem hk]
  show (fstT ps p).getD ((endsT ps)[k]).toNat 0 = _
  rw [← e, ← hx, Int.toNat_natCast]
theorem fst_list {ps ws : List Int} (g : Good ps ws) {p : Nat → Bool} (hl : ∀ x, x < ps.length → leafB ps x = true → 0 ≤ (fstT ps p).getD x 0) : fstL ps p = nodesW (fun x => inL (fstC ps p) (x : Int)) ps.length := by
  refine nodesW_congr fun x hx => ?_
  have hp := ParOk.of g
  unfold inL fstC
  rw [Bool.eq_iff_iff, decide_eq_true_iff, decide_eq_true_iff, List.mem_map]
  constructor
  · intro h
    obtain ⟨e, h1, h2, h3⟩ := fst_down g p x hx (by omega)
    refine ⟨(e : Int), ?_, by rw [Int.toNat_natCast, h3, h]⟩
    rw [endsT_eq]
    unfold nodesW
    exact List.mem_map.2 ⟨e, List.mem_filter.2 ⟨List.mem_range.2 h1, h2⟩, rfl⟩
  · rintro ⟨e, he, h⟩
    obtain ⟨y, rfl, hy, hy2⟩ := nodesW_mem he
    rw [Int.toNat_natCast] at h
    have h1 := fst_self hp p y hy (hl y hy hy2)
    rw [h, Int.toNat_natCast] at h1
    exact h1
/-- The search on the way. -/
def fstF (p : Nat → Bool) : Int → Int → Int := fun a z => if a = -1 ∧ p z.toNat = true then z else a
theorem fold_keep {p : Nat → Bool} {L : List Int} : ∀ {a : Int}, a ≠ -1 → L.foldl (fstF p) a = a := by
  induction L with
  | nil => intro a _; rfl
  | cons b t ih =>
    intro a ha
    rw [List.foldl_cons, show fstF p a b = a by unfold fstF; rw [if_neg (fun h => ha h.1)]]
    exact ih ha
theorem fold_none {p : Nat → Bool} {L : List Int} (h : ∀ j, j < L.length → p (L.getD j 0).toNat = false) (a : Int) : L.foldl (fstF p) a = a := by
  induction L generalizing a with
  | nil => rfl
  | cons b t ih =>
    have h0 := h 0 (by simp)
    simp only [List.getD_cons_zero] at h0
    rw [List.foldl_cons, show fstF p a b = a by unfold fstF; rw [h0, if_neg (by simp)]]
    exact ih (fun j hj => by have := h (j + 1) (by simpa using hj); simpa using this) a
theorem fold_found {p : Nat → Bool} {L : List Int} : ∀ {k : Nat}, k < L.length → (∀ j, j < k → p (L.getD j 0).toNat = false) → p (L.getD k 0).toNat = true → L.getD k 0 ≠ -1 → L.foldl (fstF p) (-1) = L.getD k 0 := by
  induction L with
  | nil => intro k hk; simp at hk
  | cons b t ih =>
    intro k hk hb he hn
    rw [List.foldl_cons]
    cases k with
    | zero =>
      simp only [List.getD_cons_zero] at he hn ⊢
      rw [show fstF p (-1) b = b by unfold fstF; rw [if_pos ⟨rfl, he⟩]]
      exact fold_keep hn
    | succ k =>
      have h0 := hb 0 (by omega)
      simp only [List.getD_cons_zero] at h0
      rw [show fstF p (-1) b = -1 by unfold fstF; rw [h0, if_neg (by simp)]]
      have := ih (k := k) (by simpa using hk) (fun j hj => by have := hb (j + 1) (by omega); simpa using this) (by simpa using he) (by simpa using hn)
      simpa using this
theorem fst_way {ps : List Int} (hp : ParOk ps) (p : Nat → Bool) {x : Nat} (hx : x < ps.length) : (fstT ps p).getD x 0 = (wayT ps (x : Int)).foldl (fstF p) (-1) := (fold_way hp (-1) (fstF p) x hx).symm
theorem fst_search {ps : List Int} (hp : ParOk ps) {p : Nat → Bool} {x : Nat} (hx : x < ps.length) {k : Nat} (hk : k < (wayT ps (x : Int)).length)
    (hb : ∀ j, j < k → p ((wayT ps (x : Int)).getD j 0).toNat = false) (he : p ((wayT ps (x : Int)).getD k 0).toNat = true) : (fstT ps p).getD x 0 = (wayT ps (x : Int)).getD k 0 := by
  rw [fst_way hp p hx]
  have := (way_all hp x hx).node k hk
  exact fold_found hk hb he (by omega)
theorem fst_none {ps : List Int} (hp : ParOk ps) {p : Nat → Bool} {x : Nat} (hx : x < ps.length) (hb : ∀ j, j < (wayT ps (x : Int)).length → p ((wayT ps (x : Int)).getD j 0).toNat = false) : (fstT ps p).getD x 0 = -1 := by
  rw [fst_way hp p hx]
  exact fold_none hb _
theorem cnt_zero {ps : List Int} (ss : List Int) (h : 0 < ps.length) : (cntT ps ss).getD 0 0 = if inL ss ((0 : Nat) : Int) = true then 0 + 1 else 0 := passT_zero ps 0 _ h
theorem cnt_step {ps : List Int} (hp : ParOk ps) (ss : List Int) {x : Nat} (h0 : 0 < x) (hx : x < ps.length) : (cntT ps ss).getD x 0 = if inL ss (x : Int) = true then (cntT ps ss).getD (ps.getD x 0).toNat 0 + 1 else (cntT ps ss).getD (ps.getD x 0).toNat 0 := passT_step ps 0 _ h0 hx (par_lt hp h0 hx)
theorem nod_zero {ps : List Int} (ss : List Int) (h : 0 < ps.length) : (nodT ps ss).getD 0 0 = if inL ss ((0 : Nat) : Int) = true then ((0 : Nat) : Int) else -1 := passT_zero ps (-1) _ h
theorem nod_step {ps : List Int} (hp : ParOk ps) (ss : List Int) {x : Nat} (h0 : 0 < x) (hx : x < ps.length) : (nodT ps ss).getD x 0 = if inL ss (x : Int) = true then (x : Int) else (nodT ps ss).getD (ps.getD x 0).toNat 0 := passT_step ps (-1) _ h0 hx (par_lt hp h0 hx)
/-- The first node of a list on the way. -/
def frsT (ps ss : List Int) : List Int := fstT ps (fun x => inL ss (x : Int))
theorem frs_zero {ps : List Int} (ss : List Int) (h : 0 < ps.length) : (frsT ps ss).getD 0 0 = if inL ss ((0 : Nat) : Int) = true then ((0 : Nat) : Int) else -1 := by
  unfold frsT
  rw [fst_zero h]
  unfold fstS
  by_cases h1 : inL ss ((0 : Nat) : Int) = true
  · rw [if_pos ⟨rfl, h1⟩, if_pos h1]
  · rw [if_neg (fun h => h1 h.2), if_neg h1]
theorem frs_step {ps : List Int} (hp : ParOk ps) (ss : List Int) {x : Nat} (h0 : 0 < x) (hx : x < ps.length) : (frsT ps ss).getD x 0 = if (frsT ps ss).getD (ps.getD x 0).toNat 0 = -1 ∧ inL ss (x : Int) = true then (x : Int) else (frsT ps ss).getD (ps.getD x 0).toNat 0 := fst_step hp _ h0 hx
theorem frs_nod {ps : List Int} (hp : ParOk ps) (ss : List Int) : ∀ x, x < ps.length → ((cntT ps ss).getD x 0 ≤ 1 → (frsT ps ss).getD x 0 = (nodT ps ss).getD x 0) ∧ ((cntT ps ss).getD x 0 = 0 → (nodT ps ss).getD x 0 = -1) := by
  refine tree_ind hp (fun h => ?_) (fun x h0 hx ih => ?_)
  · rw [frs_zero ss h, nod_zero ss h, cnt_zero ss h]
    refine ⟨fun _ => rfl, fun h => ?_⟩
    split at h
    · omega
    · rename_i h1; rw [if_neg h1]
  · have hl := par_lt hp h0 hx
    have b := cnt_bd ss hp (ps.getD x 0).toNat (by omega)
    rw [frs_step hp ss h0 hx, nod_step hp ss h0 hx, cnt_step hp ss h0 hx]
    obtain ⟨i1, i2⟩ := ih
    by_cases h : inL ss (x : Int) = true
    · simp only [h, if_true, and_true]
      refine ⟨fun hc => ?_, fun hc => by omega⟩
      have e0 : (cntT ps ss).getD (ps.getD x 0).toNat 0 = 0 := by omega
      rw [if_pos (by rw [i1 (by omega), i2 e0])]
    · simp only [h, if_false, and_false, Bool.false_eq_true]
      exact ⟨i1, i2⟩
theorem Stop.frs {ps ws ss : List Int} (s : Stop ps ws ss) {x : Nat} (hx : x < ps.length) : (frsT ps ss).getD x 0 = (nodT ps ss).getD x 0 := (frs_nod (ParOk.of s.good) ss x hx).1 (s.up x hx)
theorem nod_self {ps : List Int} (hp : ParOk ps) {ss : List Int} {x : Nat} (hx : x < ps.length) (h : inL ss (x : Int) = true) : (nodT ps ss).getD x 0 = (x : Int) := by
  rcases Nat.eq_zero_or_pos x with e | e
  · subst e; rw [nod_zero ss hx, if_pos h]
  · rw [nod_step hp ss e hx, if_pos h]
theorem frs_cnt {ps : List Int} (hp : ParOk ps) {ss : List Int} (hs : ∀ x : Nat, x < ps.length → inL ss (x : Int) = true → (frsT ps ss).getD x 0 = (x : Int)) : ∀ x, x < ps.length → (cntT ps ss).getD x 0 = if (frsT ps ss).getD x 0 < 0 then 0 else 1 := by
  refine tree_ind hp (fun h => ?_) (fun x h0 hx ih => ?_)
  · rw [cnt_zero ss h, frs_zero ss h]
    by_cases h1 : inL ss ((0 : Nat) : Int) = true
    · rw [if_pos h1, if_pos h1, if_neg (by omega)]; rfl
    · rw [if_neg h1, if_neg h1, if_pos (by omega)]
  · have hl := par_lt hp h0 hx
    have b := fst_bd hp (fun x => inL ss (x : Int)) (ps.getD x 0).toNat (by omega)
    have hb : -1 ≤ (frsT ps ss).getD (ps.getD x 0).toNat 0 ∧ (frsT ps ss).getD (ps.getD x 0).toNat 0 ≤ (((ps.getD x 0).toNat : Nat) : Int) := b
    by_cases h : inL ss (x : Int) = true
    · have e := hs x hx h
      have f := frs_step hp ss h0 hx
      rw [cnt_step hp ss h0 hx, if_pos h, ih, e]
      rw [e] at f
      by_cases h1 : (frsT ps ss).getD (ps.getD x 0).toNat 0 = -1
      · rw [if_pos (by omega), if_neg (by omega)]; rfl
      · rw [if_neg (fun h => h1 h.1)] at f
        omega
    · have f := frs_step hp ss h0 hx
      rw [if_neg (fun k => h k.2)] at f
      rw [cnt_step hp ss h0 hx, if_neg h, ih, f]
theorem stop_of {ps ws ss : List Int} (g : Good ps ws) (hr : riB ps.length ss = true) (he : ∀ x : Nat, x < ps.length → leafB ps x = true → 0 ≤ (frsT ps ss).getD x 0) (hs : ∀ x : Nat, x < ps.length → inL ss (x : Int) = true → (frsT ps ss).getD x 0 = (x : Int)) : Stop ps ws ss := by
  refine ⟨g, hr, fun x hx hl => ?_⟩
  have := he x hx hl
  rw [frs_cnt (ParOk.of g) hs x hx, if_neg (by omega)]
theorem Stop.leaf0 {ps ws ss : List Int} (s : Stop ps ws ss) {x : Nat} (hx : x < ps.length) (hl : leafB ps x = true) : 0 ≤ (frsT ps ss).getD x 0 := by
  rw [s.frs hx]; exact (s.end_ hx hl).2.1
theorem Stop.self {ps ws ss : List Int} (s : Stop ps ws ss) {x : Nat} (hx : x < ps.length) (h : inL ss (x : Int) = true) : (frsT ps ss).getD x 0 = (x : Int) := by
  rw [s.frs hx]; exact nod_self (ParOk.of s.good) hx h
/-- The model's tests. -/
theorem rule_no_end {ps ws ss : List Int} {x : Nat} (hx : x < ps.length) (hl : leafB ps x = true) (h : (frsT ps ss).getD x 0 < 0) : stopB ps ws ss = false := by
  cases hb : stopB ps ws ss
  · rfl
  · have := (stopB_iff.1 hb).leaf0 hx hl; omega
theorem rule_no_rise {ps ws ss : List Int} (h : riB ps.length ss = false) : stopB ps ws ss = false := by
  cases hb : stopB ps ws ss
  · rfl
  · rw [(stopB_iff.1 hb).rise] at h; cases h
theorem inL_at {l : List Int} {i : Nat} (hi : i < l.length) : inL l (l.getD i 0) = true := by
  unfold inL
  rw [decide_eq_true_iff, List.getD_eq_getElem?_getD, List.getElem?_eq_getElem hi]
  exact List.getElem_mem hi
theorem rule_no_node {ps ws ss : List Int} {i x : Nat} (hi : i < ss.length) (hx : x < ps.length) (e : ss.getD i 0 = (x : Int)) (h : (frsT ps ss).getD x 0 ≠ (x : Int)) : stopB ps ws ss = false := by
  cases hb : stopB ps ws ss
  · rfl
  · exact absurd ((stopB_iff.1 hb).self hx (by rw [← e]; exact inL_at hi)) h
theorem rule_yes {ps ws ss : List Int} (g : Good ps ws) (hr : riB ps.length ss = true) (he : ∀ k, k < (endsT ps).length → 0 ≤ (frsT ps ss).getD ((endsT ps).getD k 0).toNat 0) (hs : ∀ i, i < ss.length → (frsT ps ss).getD (ss.getD i 0).toNat 0 = ss.getD i 0) : stopB ps ws ss = true := by
  refine stopB_iff.2 (stop_of g hr (fun x hx hl => ?_) (fun x hx h => ?_))
  · have hm : (x : Int) ∈ endsT ps := by
      rw [endsT_eq]
      unfold nodesW
      exact List.mem_map.2 ⟨x, List.mem_filter.2 ⟨List.mem_range.2 hx, hl⟩, rfl⟩
    obtain ⟨k, hk, e⟩ := mem_getD hm
    have := he k hk
    rw [e, Int.toNat_natCast] at this
    exact this
  · unfold inL at h
    rw [decide_eq_true_iff] at h
    obtain ⟨i, hi, e⟩ := mem_getD h
    have := hs i hi
    rw [e, Int.toNat_natCast] at this
    exact this
theorem rule_at {n : Nat} {ss : List Int} (hr : riB n ss = true) {i : Nat} (hi : i < ss.length) : 0 ≤ ss.getD i 0 ∧ ss.getD i 0 < (n : Int) := by
  refine (rise_up hr).2 _ ?_
  rw [List.getD_eq_getElem?_getD, List.getElem?_eq_getElem hi]
  exact List.getElem_mem hi
end Go.Proofs.Ytfpckfameebdnaa
namespace Go.Proofs.Ytfpckfameebdnaa
open Go.RowKit
set_option linter.unusedVariables false
def mkT (p : Nat → Bool) (n : Nat) : List Int := (List.range n).map fun y => if p y = true then 1 else 0
theorem mkT_len (p : Nat → Bool) (n : Nat) : (mkT p n).length = n := by simp [mkT]
theorem mkT_at {p : Nat → Bool} {n y : Nat} (hy : y < n) : (mkT p n).getD y 0 = if p y = true then 1 else 0 := by
  unfold mkT
  rw [List.getD_eq_getElem?_getD, List.getElem?_map, List.getElem?_range hy]; rfl
theorem mkT_proc {ps ws : List Int} (g : Good ps ws) (p : Nat → Bool) : procB ps ws (mkT p ps.length) = true := by
  refine procB_iff.2 ⟨g, mkT_len _ _, fun i hi => ?_⟩
  rw [mkT_len] at hi
  rw [mkT_at hi]
  split <;> omega
theorem mkT_first {ps ws : List Int} (g : Good ps ws) {p : Nat → Bool} (hl : ∀ x, x < ps.length → leafB ps x = true → p x = true) : entL ps (mkT p ps.length) 1 = fstL ps p := by
  rw [ent_fst]
  refine fstL_congr (ParOk.of g) (fun x hx => ?_)
  unfold hitB
  rw [mkT_at hx]
  cases hp : p x
  · cases h2 : leafB ps x
    · simp
    · rw [hl x hx h2] at hp; cases hp
  · simp
theorem mkT_first2 {ps ws : List Int} (g : Good ps ws) (p : Nat → Bool) : entL ps (mkT p ps.length) 1 = fstL ps (fun x => p x || leafB ps x) := by
  rw [ent_fst]
  refine fstL_congr (ParOk.of g) (fun x hx => ?_)
  unfold hitB
  rw [mkT_at hx]
  cases hp : p x <;> simp
set_option maxRecDepth 100000 in
set_option maxHeartbeats 8000000 in
theorem fwhI2 (ps ws zs : List Int) (g : Value) (f : Nat) (lb : Array Value) (p : Nat → Bool) (w : World) (eg : ∀ args w, (callFunc f args).run Try.prog w = .ok (.enter f args) w)
    (pr : Proc ps ws zs) (h : Game w w.heap.size g ps ws zs) (hp : PredI f lb p ps.length w) :
    Calls Try.prog 82 #[g, .func (.func f) #[] lb] w (NewInts (fstL ps (fun x => p x || leafB ps x)) w) := by
  have gd := pr.good
  have hn24 := gd.n24
  have hn0 := gd.n1
  have SL := Lib.hid (sumsT_len gd.nw)
  have PP := Lib.hid hp
  have TP := Lib.hid (mkT_proc gd p)
  have TF := Lib.hid (mkT_first2 gd p)
  have TL := Lib.hid (mkT_len p ps.length)
  have TA := Lib.hid (fun (y : Nat) (hy : y < ps.length) => mkT_at (p := p) hy)
  obtain ⟨v1, v2, us, uz, rfl, h1, h2, h3⟩ := h
  have EC := Lib.hid (fun w' u (hb : Below w.heap.size w w') (hu : IntsV w' w'.heap.size u (mkT p ps.length)) => entI ps ws (mkT p ps.length) 1 _ u w' (by rw [mkT_len]; omega) (h1.boxed hb) hu)
  have IF : ifEnt ps ws (mkT p ps.length) (entL ps (mkT p ps.length) 1) = fstL ps (fun x => p x || leafB ps x) := by unfold ifEnt; rw [TP.out, TF.out]; rfl
  rw [IF, TP.out] at EC
  obtain ⟨R, hR⟩ : ∃ R, R = fstL ps (fun x => p x || leafB ps x) := ⟨_, rfl⟩
  rw [← hR] at EC ⊢
  clear hR
  obtain ⟨p1, c1, p2, c2, hs⟩ := h1.shape
  injection hs with hs
  injection hs with hs
  injection hs with hs1 hs
  injection hs with hs2 hs
  subst hs1; subst hs2
  clear hs
  obtain ⟨p3, c3, rfl, _⟩ := h2
  obtain ⟨p4, c4, rfl, _⟩ := h3
  obtain ⟨T, hT⟩ : ∃ T, T = mkT p ps.length := ⟨_, rfl⟩
  rw [← hT] at EC TL TA
  obtain ⟨sn, hsn⟩ : ∃ sn, sn = (sumsT ps ws).length := ⟨_, rfl⟩
  have sl1 : sn ≤ ps.length := by rw [hsn, SL.out]; exact Nat.le_refl _
  have sl2 : ps.length ≤ sn := by rw [hsn, SL.out]; exact Nat.le_refl _
  have SNE : Hid (sn = ps.length) := Lib.hid (by rw [hsn, SL.out])
  rw [← hsn]
  clear hT hsn IF TP TF h1 hp gd pr SL
  have B1 := (Below.refl w.heap.size w).alloc (Nat.le_refl _) (.cells #[.slice p1 ps.length c1, .slice p2 ws.length c2, .slice p3 sn c3, .slice p4 zs.length c4] 73)
  have R1 := show GBox (w.alloc (.cells #[.slice p1 ps.length c1, .slice p2 ws.length c2, .slice p3 sn c3, .slice p4 zs.length c4] 73)) w.heap.size _ _ _ _ from alloc_heap w _
  obtain ⟨x0, x1, x2, x3⟩ := R1.cells
  obtain ⟨wa, hwa⟩ : ∃ wa, wa = w.alloc (.cells #[.slice p1 ps.length c1, .slice p2 ws.length c2, .slice p3 sn c3, .slice p4 zs.length c4] 73) := ⟨_, rfl⟩
  have sz : wa.heap.size = w.heap.size + 1 := by rw [hwa]; simp
  rw [← hwa] at B1 R1
  have HB2 := Lib.hid B1
  have HT2 := Lib.hid R1
  have SZ := Lib.hid sz
  clear B1 R1 sz
  obtain ⟨i0, hi, hz0, hz1, hz2⟩ := info_parts intInfo
  have c1' : i0.bytes * sn ≤ 281474976710656 := by rw [hz2]; omega
  have c2' : sn ≤ maxLen := by unfold maxLen; omega
  go_enter Try.func82, Try.ntmps82
  go_wp2_with (at_make; refine wpList_make_full _ rfl _ _ 22 rfl (w.heap.size + 1) 3 i0 (.int .i64 0) 1 Try.underlying22 hi hz0 hz1 .i64 .i64 _ _ sn rfl rfl rfl rfl c1' c2' (by simp) ?_; intro w3 hown hg2)
  rw [← hwa] at hg2
  have hown1 : w3.ownsRow (w.heap.size + 1) 3 1 (.slice (some ⟨w.heap.size + 1, 0, none⟩) sn sn) sn (List.replicate sn (.int .i64 0)) := by
    have h2 := hown
    rw [show (Value.int .i64 0).cells = #[Value.int .i64 0] from rfl, Nat.mul_one, toList_madeCells_one] at h2
    simpa using h2
  have O2 := OwnV.made hown1
  have Z0 : Hid (midL (List.replicate sn 0) T ps.length 0 = List.replicate sn 0) := Lib.hid (midL_zero (by rw [List.length_replicate, SNE.out]))
  rw [← Z0.out] at O2
  have HO2 := Lib.hid O2
  have BW := Lib.hid ((Below.refl wa.heap.size wa).grown hg2 (Nat.le_refl _) (fun q hq => by simp at hq))
  have ZB := Lib.hid (fun (y : Nat) (hy : y < ps.length) => show (List.replicate sn (0 : Int)).getD y 0 = 0 from by rw [List.getD_eq_getElem?_getD, List.getElem?_replicate]; split <;> rfl)
  clear hown hown1 hg2 c1' c2' hi hz0 hz1 hz2 hwa O2 x0 x1 x2 x3 Z0
  obtain ⟨Z, hZ⟩ : ∃ Z : List Int, Z = List.replicate sn 0 := ⟨_, rfl⟩
  rw [← hZ] at HO2 ZB
  clear hZ
  go_wp2_with fail
  go_loopw [15] (fun i wr => ∃ k : Nat, k ≤ ps.length ∧ i = .int .i64 k ∧ Hid (OwnV wr (w.heap.size + 1) wr.heap.size (.slice (some ⟨w.heap.size + 1, 0, none⟩) sn sn) (midL Z T ps.length k)) ∧ Hid (Below wa.heap.size wa wr)) (fun i _ => ps.length - (intOf i).toNat)
  case atStart => exact ⟨0, Nat.zero_le _, rfl, HO2, BW⟩
  case round =>
    obtain ⟨k, hk, rfl, HO, HB⟩ := hrel
    have HBX := Lib.hid (HB2.out.trans (HB.out.mono HB2.out.size))
    have HTX := Lib.hid (HT2.out.below HB.out HT2.out.lt)
    obtain ⟨x0, x1, x2, x3⟩ := HTX.out.cells
    clear HO2 BW
    by_cases hlt : k < ps.length
    · have C := Lib.hid (PP.out wr k hlt HBX.out)
      have ta := TA.out k hlt
      have zb := ZB.out k hlt
      have se := midL_set (A := Z) (B := T) hlt
      have sm := midL_same (A := Z) (B := T) hlt
      have i0' : (0 : Int) ≤ (k : Int) := by omega
      have i1' : (k : Int) < (ps.length : Int) := by omega
      have i2' : (k : Int) < (sn : Int) := by omega
      cases hpk : p k
      · rw [hpk] at C ta
        have SM := Lib.hid (sm (by rw [ta, zb]; rfl))
        clear hpk ta zb se sm
        go_wp2_with (go_at_fn f; refine C.out.mono ?_; rintro e w4 ⟨rfl, b4⟩)
        have HB4 := Lib.hid (HB.out.trans (b4.mono HB.out.size))
        have HO4 := Lib.hid ((HO.out.below b4).wide b4.size (Nat.le_refl _))
        clear b4
        go_roundw
        case rel => exact ⟨k + 1, by omega, by go_num, Lib.hid (by rw [SM.out]; exact HO4.out), HB4⟩
        case measure => simp [intOf]; omega
      · rw [hpk] at C ta
        rw [ta] at se
        have SE := Lib.hid (show (midL Z T ps.length k).set k 1 = midL Z T ps.length (k + 1) from se)
        clear hpk ta zb se sm
        go_wp2_with (go_at_fn f; refine C.out.mono ?_; rintro e w4 ⟨rfl, b4⟩; (have HB4 := Lib.hid (HB.out.trans (b4.mono HB.out.size))); (have HO4 := Lib.hid ((HO.out.below b4).wide b4.size (Nat.le_refl _))); clear b4; (have hold := HO4.out.cellGet (j := k) (by rw [midL_len]; exact hlt)); (have hfz := HO4.out.frozenGet k))
        have O5 := Lib.hid (HO4.out.setAt k (x := 1) (by unfold InI64; omega))
        rw [SE.out] at O5
        have B5 := Lib.hid (HB4.out.setCell (p := ⟨w.heap.size + 1, k, none⟩) (by simp; have := SZ.out; omega) (.int .i64 1))
        clear HO4 HB4 HO HB
        go_roundw
        case rel => exact ⟨k + 1, by omega, by go_num, Lib.hid (by have h := O5.out; simpa [World.setCell] using h), B5⟩
        case measure => simp [intOf]; omega
    · have hkn : k = ps.length := by omega
      have HOT : OwnV wr (w.heap.size + 1) wr.heap.size (.slice (some ⟨w.heap.size + 1, 0, none⟩) sn sn) T := by have h := HO.out; rw [hkn, midL_all TL.out] at h; exact h
      have IV := Lib.hid HOT.intsV
      have C := Lib.hid (EC.out wr _ HBX.out IV.out)
      have i2' : ¬ (k : Int) < (sn : Int) := by omega
      clear HO HOT hkn
      go_wp2_with fail
      refine C.out.mono ?_
      rintro e w4 ⟨u4, rfl, o4, b4⟩
      have FIN : Hid (NewInts R w (.returned u4) w4) := Lib.hid ⟨_, rfl, o4.low HBX.out.size, HBX.out.trans (b4.mono HBX.out.size)⟩
      clear o4 b4
      go_wp2_with fail
      go_ret
      exact FIN.out
theorem fwhI (ps ws zs : List Int) (g : Value) (f : Nat) (lb : Array Value) (p : Nat → Bool) (w : World) (eg : ∀ args w, (callFunc f args).run Try.prog w = .ok (.enter f args) w)
    (pr : Proc ps ws zs) (hlf : ∀ x, x < ps.length → leafB ps x = true → p x = true) (h : Game w w.heap.size g ps ws zs) (hp : PredI f lb p ps.length w) :
    Calls Try.prog 82 #[g, .func (.func f) #[] lb] w (NewInts (fstL ps p) w) := by
  have h2 := fwhI2 ps ws zs g f lb p w eg pr h hp
  rwa [fstL_congr (ParOk.of pr.good) (q := p) (fun x hx => by
    cases hl : leafB ps x
    · simp
    · rw [hlf x hx hl]; rfl)] at h2
end Go.Proofs.Ytfpckfameebdnaa
namespace Go.Proofs.Ytfpckfameebdnaa
open Go.RowKit
set_option linter.unusedVariables false
def paidB (ps ws zs C : List Int) (x : Nat) : Bool := decide ((sumsT ps ws).getD x 0 * zs.getD x 0 = C.getD x 0)
set_option maxRecDepth 100000 in
set_option maxHeartbeats 4000000 in
theorem paidPred (ps ws zs C : List Int) (B B1 : Nat) (p1 p2 p3 p4 q : Option Addr) (c1 c2 n3 c3 c4 cap : Nat) (W0 : World) (pr : Proc ps ws zs) (hC : C.length = ps.length)
    (hg : Game W0 W0.heap.size (.agg #[.slice p1 ps.length c1, .slice p2 ws.length c2, .slice p3 n3 c3, .slice p4 zs.length c4]) ps ws zs) (hb : GBox W0 B (.slice p1 ps.length c1) (.slice p2 ws.length c2) (.slice p3 n3 c3) (.slice p4 zs.length c4))
    (hc : VBox W0 B1 (.slice q C.length cap) 22) (hI : IntsAt W0 W0.heap.size q C) :
    PredI 154 #[.pointer (some ⟨B, 0, none⟩), .pointer (some ⟨B1, 0, none⟩)] (paidB ps ws zs C) ps.length W0 := by
  intro W x hx hbl
  have HR := Lib.hid (hb.below hbl hb.lt)
  have HV := Lib.hid (hc.below hbl hc.lt)
  obtain ⟨bc, oc, hq, hbc, hcc⟩ := hI.get (i := x) (by omega)
  subst hq
  have hcx : W.cell? ⟨bc, oc + x, none⟩ = some (.int .i64 (C.getD x 0)) := by rw [hbl.cell (p := ⟨bc, oc + x, none⟩) hbc]; exact hcc
  have hbw : bc < W.heap.size := Nat.lt_of_lt_of_le hbc hbl.size
  have CP := Lib.hid (fun w' (hw : Hid (Below W.heap.size W w')) => paidI ps ws zs _ x w' pr hx (hg.boxed (hbl.trans (hw.out.mono hbl.size))))
  have cl1 : C.length ≤ ps.length := by omega
  have cl2 : ps.length ≤ C.length := by omega
  obtain ⟨cn, hcn⟩ : ∃ cn, cn = C.length := ⟨_, rfl⟩
  rw [← hcn] at HV cl1 cl2
  have i0 : (0 : Int) ≤ (x : Int) := by omega
  have i1 : (x : Int) < (cn : Int) := by omega
  unfold paidB
  obtain ⟨c, hc9⟩ : ∃ c, c = C.getD x 0 := ⟨_, rfl⟩
  obtain ⟨o, ho9⟩ : ∃ o, o = (sumsT ps ws).getD x 0 * zs.getD x 0 := ⟨_, rfl⟩
  rw [← hc9] at hcx ⊢
  rw [← ho9] at CP ⊢
  have KC : Hid (∀ w', Hid (Below W.heap.size W w') → w'.cell? ⟨B, 0, none⟩ = some (.slice p1 ps.length c1) ∧ w'.cell? ⟨B, 1, none⟩ = some (.slice p2 ws.length c2) ∧ w'.cell? ⟨B, 2, none⟩ = some (.slice p3 n3 c3) ∧ w'.cell? ⟨B, 3, none⟩ = some (.slice p4 zs.length c4) ∧ w'.cell? ⟨B1, 0, none⟩ = some (.slice (some ⟨bc, oc, none⟩) cn cap) ∧ w'.cell? ⟨bc, oc + x, none⟩ = some (.int .i64 c)) := Lib.hid (fun w' hw => by
    obtain ⟨a0, a1, a2, a3⟩ := (HR.out.below hw.out HR.out.lt).cells
    exact ⟨a0, a1, a2, a3, (HV.out.below hw.out HV.out.lt).cell, (hw.out.cell (p := ⟨bc, oc + x, none⟩) hbw).trans hcx⟩)
  have HD : Hid (Below W.heap.size W W.drew) := Lib.hid (below_drew (Below.refl _ _))
  have R : Hid (decide (o = c) = (o == c)) := Lib.hid (by rw [Bool.eq_iff_iff, decide_eq_true_iff, beq_iff_eq])
  rw [R.out]
  clear hg hb hc hI hbl hcc hbc hcn hc9 ho9 hC pr HR HV hcx
  show Calls _ _ #[.int .i64 (x : Int), .pointer (some ⟨B, 0, none⟩), .pointer (some ⟨B1, 0, none⟩)] _ _
  go_enter Try.func154, Try.ntmps154
  go_upto_region 1 with fail
  go_region_held3 (fun w' => w'.cell? ⟨B, 0, none⟩ = some (.slice p1 ps.length c1) ∧ w'.cell? ⟨B, 1, none⟩ = some (.slice p2 ws.length c2) ∧ w'.cell? ⟨B, 2, none⟩ = some (.slice p3 n3 c3) ∧ w'.cell? ⟨B, 3, none⟩ = some (.slice p4 zs.length c4) ∧ w'.cell? ⟨B1, 0, none⟩ = some (.slice (some ⟨bc, oc, none⟩) cn cap) ∧ w'.cell? ⟨bc, oc + x, none⟩ = some (.int .i64 c))
    (first | with_reducible exact KC.out _ HB7 | with_reducible exact KC.out _ HD | go_keep)
    (first
      | (go_at_call 84; (with_reducible refine (CP.out _ HD).mono ?_); rintro e w7 ⟨rfl, b7⟩; (have HB7 : Hid (Below W.heap.size W w7) := Lib.hid (HD.out.trans (b7.mono HD.out.size))); clear b7))
  all_goals
    go_wp2_with fail
    go_ret
    exact ⟨rfl, HB7.out⟩
set_option maxRecDepth 100000 in
set_option maxHeartbeats 4000000 in
theorem stpdI (ps ws zs C : List Int) (g u : Value) (w : World) (pr : Proc ps ws zs) (hC : C.length = ps.length) (hlf : ∀ x, x < ps.length → leafB ps x = true → paidB ps ws zs C x = true) (h : Game w w.heap.size g ps ws zs) (hu : IntsV w w.heap.size u C) :
    Calls Try.prog 88 #[g, u] w (NewInts (fstL ps (paidB ps ws zs C)) w) := by
  have HG := Lib.hid h
  obtain ⟨p1, c1, p2, c2, p3, n3, c3, p4, c4, rfl⟩ := h.parts
  obtain ⟨q, cap, rfl, _, _, _, j1⟩ := hu
  have J := Lib.hid j1
  have B1 := ((Below.refl w.heap.size w).alloc (Nat.le_refl _) (.cells #[.slice p1 ps.length c1, .slice p2 ws.length c2, .slice p3 n3 c3, .slice p4 zs.length c4] 73)).alloc (by simp) (.cells #[.slice q C.length cap] 22)
  have K0 := alloc_two w (.cells #[.slice p1 ps.length c1, .slice p2 ws.length c2, .slice p3 n3 c3, .slice p4 zs.length c4] 73) (.cells #[.slice q C.length cap] 22)
  have hmf : ∀ (fn : Fn) (first cap : Array Value) (w : World), (Instr.makeFunc fn first cap).run Try.prog w = .ok (.func fn first cap) w := fun _ _ _ _ => rfl
  obtain ⟨wa, hwa⟩ : ∃ wa, wa = (w.alloc (.cells #[.slice p1 ps.length c1, .slice p2 ws.length c2, .slice p3 n3 c3, .slice p4 zs.length c4] 73)).alloc (.cells #[.slice q C.length cap] 22) := ⟨_, rfl⟩
  rw [← hwa] at B1 K0
  have HBA := Lib.hid B1
  have R1 := Lib.hid (show GBox wa w.heap.size (.slice p1 ps.length c1) (.slice p2 ws.length c2) (.slice p3 n3 c3) (.slice p4 zs.length c4) from K0.1)
  have V1 := Lib.hid (show VBox wa (w.heap.size + 1) (.slice q C.length cap) 22 from K0.2)
  have PP := paidPred ps ws zs C w.heap.size (w.heap.size + 1) p1 p2 p3 p4 q c1 c2 n3 c3 c4 cap wa pr hC (HG.out.boxed HBA.out) R1.out V1.out ((J.out.below HBA.out).more HBA.out.size)
  have CF := Lib.hid (fwhI ps ws zs _ 154 #[.pointer (some ⟨w.heap.size, 0, none⟩), .pointer (some ⟨w.heap.size + 1, 0, none⟩)] (paidB ps ws zs C) wa (enters_of Try.func154 (by kernel_rfl) rfl) pr hlf (HG.out.boxed HBA.out) PP)
  obtain ⟨k0, k1, k2, k3⟩ := R1.out.cells
  generalize fstL ps (paidB ps ws zs C) = R at *
  clear B1 K0 PP h j1 hlf pr hC
  go_enter Try.func88, Try.ntmps88
  go_wp2_with fail
  rw [← hwa]
  refine CF.out.mono ?_
  rintro e w4 ⟨u4, rfl, o4, b4⟩
  have FIN : Hid (NewInts R w (.returned u4) w4) := Lib.hid ⟨_, rfl, o4.low HBA.out.size, HBA.out.trans (b4.mono HBA.out.size)⟩
  clear o4 b4
  go_wp2_with fail
  go_ret
  exact FIN.out
end Go.Proofs.Ytfpckfameebdnaa
namespace Go.Proofs.Ytfpckfameebdnaa
open Go.RowKit
set_option linter.unusedVariables false
def besT (ps ws zs : List Int) : List Int := fstL ps (paidB ps ws zs (capT ps (ownT (sumsT ps ws) zs ps.length)))
theorem bes_leaf (ps ws zs : List Int) : ∀ x, x < ps.length → leafB ps x = true → paidB ps ws zs (capT ps (ownT (sumsT ps ws) zs ps.length)) x = true := fun x hx hl => by
  unfold paidB
  rw [decide_eq_true_iff, ← ownT_at (n := ps.length) hx]
  exact (capN_leaf hx hl 24).symm
theorem bes_len (ps ws zs : List Int) : (ifLea ps ws zs (besT ps ws zs)).length ≤ 1048576 := by
  unfold ifLea
  split
  · rename_i h
    have := (procB_iff.1 h).good.n24
    have h2 := nodesW_len (fun x => decide ((fstT ps (paidB ps ws zs (capT ps (ownT (sumsT ps ws) zs ps.length)))).getD x 0 = (x : Int))) ps.length
    unfold besT fstL
    omega
  · simp
end Go.Proofs.Ytfpckfameebdnaa
namespace Go.Proofs.Ytfpckfameebdnaa
open Go.RowKit
set_option linter.unusedVariables false
set_option maxHeartbeats 2000000 in
theorem bothS (a b : List Int) (v u : Value) (w : World) (hl : a.length ≤ 1048576) (hl2 : b.length ≤ 1048576) (hv : IntsV w w.heap.size v a) (hu : IntsV w w.heap.size u b) :
    Calls Try.prog 176 #[v, u] w (NewInts (bothL a b) w) := by
  have HS := Lib.hid (fun w' (hb : Below w.heap.size w w') z => hasS b z u w.heap.size w' hl2 (hu.below hb))
  have ZA := Lib.hid (show ∀ z ∈ a, InI64 z from by obtain ⟨_, _, _, _, _, h, _⟩ := hv; exact h)
  obtain ⟨q, cq, rfl, lq, mq, zq, iq⟩ := hv
  have E1 := Lib.hid iq
  clear iq zq mq
  obtain ⟨q2, cq2, rfl, _, _, _, _⟩ := hu
  obtain ⟨i0, hi, hz0, hz1, hz2⟩ := info_parts intInfo
  have O1 := OwnV.empty w w.heap.size (Nat.le_refl _)
  have B2 := Lib.hid ((Below.refl w.heap.size w).alloc (Nat.le_refl _) (.cells #[] 3))
  have O2 := Lib.hid O1
  clear O1
  go_enter Try.func176, Try.ntmps176
  go_wp2
  go_loopw [5, 6] (fun o i wr => ∃ k : Nat, k ≤ a.length ∧ i = .int .i64 k ∧ Hid (OwnV wr w.heap.size wr.heap.size o ((a.take k).filter (inL b))) ∧ Hid (Below w.heap.size w wr)) (fun _ i _ => a.length - (intOf i).toNat)
  case atStart => exact ⟨0, Nat.zero_le _, rfl, O2, B2⟩
  case round =>
    obtain ⟨k, hk, rfl, HO, HB⟩ := hrel
    clear B2 O2
    by_cases hlt : k < a.length
    · obtain ⟨bb, off, rfl, hb, hc⟩ := E1.out.get hlt
      have hcw : wr.cell? ⟨bb, off + k, none⟩ = some (.int .i64 (a.getD k 0)) := by rw [HB.out.cell (p := ⟨bb, off + k, none⟩) hb]; exact hc
      have HX := Lib.hid (show InI64 (a.getD k 0) from ZA.out _ (by rw [List.getD_eq_getElem?_getD, List.getElem?_eq_getElem hlt]; exact List.getElem_mem hlt))
      have FT := Lib.hid (filter_take (q := inL b) hlt)
      have i0' : (0 : Int) ≤ (k : Int) := by omega
      have i1 : (k : Int) < (a.length : Int) := by omega
      have LL : ((a.take k).filter (inL b)).length ≤ k := Nat.le_trans (List.length_filter_le _ _) (by simp; omega)
      obtain ⟨x, hx⟩ : ∃ x, x = a.getD k 0 := ⟨_, rfl⟩
      obtain ⟨L, hL⟩ : ∃ L, L = (a.take k).filter (inL b) := ⟨_, rfl⟩
      rw [← hx] at hcw FT HX
      rw [← hL] at FT HO LL
      have C := Lib.hid (HS.out wr HB.out x)
      clear hc hx hL
      obtain ⟨t, ht⟩ : ∃ t, t = inL b x := ⟨_, rfl⟩
      rw [← ht] at C FT
      clear ht
      cases t
      · have F := Lib.hid (show (a.take (k + 1)).filter (inL b) = L by rw [FT.out]; rfl)
        clear FT
        go_wp2_with fail
        refine C.out.mono ?_
        rintro e w1 ⟨rfl, m, rfl⟩
        have HB1 := Lib.hid (below_drewN HB.out m)
        have HO1 : Hid (OwnV (wr.drewN m) w.heap.size (wr.drewN m).heap.size _ L) := Lib.hid (HO.out.below (below_drewN (Below.refl _ _) m))
        clear HB HO
        go_wp2
        go_roundw
        case rel => exact ⟨k + 1, by omega, by go_num, by rw [F.out]; exact HO1, HB1⟩
        case measure => simp [intOf]; omega
      · have F := Lib.hid (show (a.take (k + 1)).filter (inL b) = L ++ [x] by rw [FT.out]; rfl)
        clear FT
        go_wp2_with fail
        refine C.out.mono ?_
        rintro e w1 ⟨rfl, m, rfl⟩
        have HB1 := Lib.hid (below_drewN HB.out m)
        have HO1 : Hid (OwnV (wr.drewN m) w.heap.size (wr.drewN m).heap.size _ L) := Lib.hid (HO.out.below (below_drewN (Below.refl _ _) m))
        have hcw' : (wr.drewN m).cell? ⟨bb, off + k, none⟩ = some (.int .i64 x) := hcw
        obtain ⟨wq, hwq⟩ : ∃ wq, wq = wr.drewN m := ⟨_, rfl⟩
        rw [← hwq] at HB1 HO1 hcw' ⊢
        clear HB HO hcw hwq
        have hown := HO1.out.row
        have hsz := HB1.out.size
        go_wp2_with (at_builtin; refine wpList_append_own _ rfl _ _ 22 rfl w.heap.size 3 i0 (.int .i64 0) 1 8 Try.underlying22 hi hz0 hz1 hz2 rfl (by decide) _ L.length (L.map (.int .i64)) rfl (hown.alloc _) ⟨wq.heap.size, 0, none⟩ 1 1 [.int .i64 x] rfl rfl (cell_one_new _ _ _) (fun x hx => by simp at hx; subst hx; rfl) (by unfold maxLen; omega) (by omega) (by simp; omega) ?_; intro v' w3 hown3 hgrow3 hnil3)
        have bel3 := Lib.hid ((HB1.out.alloc HB1.out.size _).grown hgrow3 (by simp; omega) (fun q hq => by have := (hown.lt q hq).1; omega))
        have own3 := Lib.hid (HO1.out.app HX.out hown3)
        clear hown hown3 hgrow3 hnil3
        go_roundw
        case rel => exact ⟨k + 1, by omega, by go_num, Lib.hid (by rw [F.out]; exact own3.out), bel3⟩
        case measure => simp [intOf]; omega
    · have R : Hid ((a.take k).filter (inL b) = bothL a b) := Lib.hid (by rw [List.take_of_length_le (by omega)]; rfl)
      rw [R.out] at HO
      go_wp2
      go_ret
      exact ⟨_, rfl, HO.out, HB.out⟩
end Go.Proofs.Ytfpckfameebdnaa
namespace Go.Proofs.Ytfpckfameebdnaa
open Go.RowKit
set_option linter.unusedVariables false
theorem NewInts.after {zs : List Int} {w w1 w2 : World} {e : Ending} (h : NewInts zs w1 e w2) (hb : Below w.heap.size w w1) : NewInts zs w e w2 := by
  obtain ⟨v, e, o, b⟩ := h
  exact ⟨v, e, o.low hb.size, hb.trans (b.mono hb.size)⟩
set_option maxHeartbeats 2000000 in
theorem onS (ps ws ss : List Int) (v u : Value) (x : Nat) (w : World) (gd : Good ps ws) (hx : x < ps.length) (hl : ss.length ≤ 1048576) (h : TreeV w w.heap.size v ps ws) (hu : IntsV w w.heap.size u ss) :
    Calls Try.prog 138 #[v, u, .int .i64 x] w (NewInts (onW ps ss x) w) := by
  have WY := Lib.hid (fun w' (hb : Below w.heap.size w w') => wayS ps ws v x w' gd hx (h.boxed hb))
  have WL : Hid ((wayT ps (x : Int)).length ≤ 1048576) := Lib.hid (by
    unfold wayT
    rw [List.length_reverse, Int.toNat_natCast]
    have := (wayA_len (ParOk.of gd) x hx).1
    have := gd.n24
    omega)
  have BO := Lib.hid (fun w1 u1 (b1 : Below w.heap.size w w1) (h1 : IntsV w1 w1.heap.size u1 (wayT ps (x : Int))) => bothS ss (wayT ps (x : Int)) u u1 w1 hl WL.out ((hu.below b1).more b1.size) h1)
  rw [on_way] at BO
  obtain ⟨p1, c1, p2, c2, rfl⟩ := h.shape
  obtain ⟨q, cq, rfl, _⟩ := hu
  clear h gd
  have B1 := Lib.hid ((Below.refl w.heap.size w).alloc (Nat.le_refl _) (.cells #[.slice p1 ps.length c1, .slice p2 ws.length c2] 28))
  go_enter Try.func138, Try.ntmps138
  go_wp2_with fail
  refine (WY.out _ B1.out).mono ?_
  rintro e w1 ⟨u1, rfl, o1, b1⟩
  have HB1 := Lib.hid (B1.out.trans (b1.mono B1.out.size))
  have B := Lib.hid (BO.out w1 u1 HB1.out o1.intsV)
  clear o1 b1
  go_wp2_with fail
  refine B.out.mono ?_
  rintro e w2 ⟨u2, rfl, o2, b2⟩
  have FIN := Lib.hid (NewInts.after ⟨u2, rfl, o2, b2⟩ HB1.out)
  clear o2 b2
  go_wp2_with fail
  go_ret
  exact FIN.out
theorem stop_no_end {ps ws ss : List Int} (hg : goodT ps ws = true) {k : Nat} (hk : k < (endsT ps).length) (h : (onW ps ss ((endsT ps).getD k 0).toNat).length ≠ 1) : stopB ps ws ss = false := by
  cases hr : riB ps.length ss
  · unfold stopB; rw [hr]; simp
  · rw [stop_ends hg hr]
    cases ha : (endsT ps).all fun e => decide ((onW ps ss e.toNat).length = 1)
    · rfl
    · rw [List.all_eq_true] at ha
      have hm : (endsT ps).getD k 0 ∈ endsT ps := by rw [List.getD_eq_getElem?_getD, List.getElem?_eq_getElem hk]; exact List.getElem_mem hk
      exact absurd (of_decide_eq_true (ha _ hm)) h
theorem stop_all_ends {ps ws ss : List Int} (hg : goodT ps ws = true) (h : ∀ k, k < (endsT ps).length → (onW ps ss ((endsT ps).getD k 0).toNat).length = 1) : stopB ps ws ss = riB ps.length ss := by
  cases hr : riB ps.length ss
  · unfold stopB; rw [hr]; simp
  · rw [stop_ends hg hr, List.all_eq_true]
    intro e he
    obtain ⟨i, hi, rfl⟩ := mem_getD he
    exact decide_eq_true (h i hi)
theorem ends_node {ps : List Int} {k : Nat} (hk : k < (endsT ps).length) : ∃ x : Nat, (endsT ps).getD k 0 = (x : Int) ∧ x < ps.length ∧ leafB ps x = true := by
  have hm : (endsT ps).getD k 0 ∈ endsT ps := by rw [List.getD_eq_getElem?_getD, List.getElem?_eq_getElem hk]; exact List.getElem_mem hk
  exact nodesW_mem hm
set_option maxRecDepth 100000 in
set_option maxHeartbeats 4000000 in
theorem stopS (ps ws ss : List Int) (v u : Value) (w : World) (gd : Good ps ws) (hl : ss.length ≤ 1048576) (h : TreeV w w.heap.size v ps ws) (hu : IntsV w w.heap.size u ss) :
    Calls Try.prog 142 #[v, u] w (Gives (.bool (stopB ps ws ss)) w) := by
  have EN := Lib.hid (fun w' (hb : Below w.heap.size w w') => endsS ps ws v w' (h.boxed hb) gd.n24 (parAll gd))
  have ON := Lib.hid (fun w' (hb : Below w.heap.size w w') (x : Nat) (hx : x < ps.length) => onS ps ws ss v u x w' gd hx hl (h.boxed hb) ((hu.below hb).more hb.size))
  have RI := Lib.hid (fun w' (hb : Below w.heap.size w w') => riseS ss ps.length u w.heap.size w' hl (by have := gd.n24; omega) (hu.below hb))
  have hg : goodT ps ws = true := (goodT_iff _ _).2 gd
  have NO := Lib.hid (fun k hk h => stop_no_end (ps := ps) (ws := ws) (ss := ss) hg (k := k) hk h)
  have ALL := Lib.hid (stop_all_ends (ps := ps) (ws := ws) (ss := ss) hg)
  have NODE := Lib.hid (fun k hk => ends_node (ps := ps) (k := k) hk)
  have OL := Lib.hid (fun (x : Nat) (hx : x < ps.length) => show (onW ps ss x).length ≤ 1048576 from Nat.le_trans (by unfold onW; exact List.length_filter_le _ _) hl)
  have EP := ends_pos gd
  have hn := gd.n24
  have hel := Nat.le_trans (ends_le ps) hn
  obtain ⟨p1, c1, p2, c2, rfl⟩ := h.shape
  obtain ⟨q, cq, rfl, _⟩ := hu
  clear h gd hg
  have B1 := (Below.refl w.heap.size w).alloc (Nat.le_refl _) (.cells #[.slice p1 ps.length c1, .slice p2 ws.length c2] 28)
  have T1 := Lib.hid (show TBox (w.alloc (.cells #[.slice p1 ps.length c1, .slice p2 ws.length c2] 28)) w.heap.size (.slice p1 ps.length c1) (.slice p2 ws.length c2) from alloc_heap w _)
  obtain ⟨wa, hwa⟩ : ∃ wa, wa = w.alloc (.cells #[.slice p1 ps.length c1, .slice p2 ws.length c2] 28) := ⟨_, rfl⟩
  rw [← hwa] at B1 T1
  have HBA := Lib.hid B1
  clear B1
  obtain ⟨x0, x1⟩ := T1.out.cells
  obtain ⟨E, hE⟩ : ∃ E, E = endsT ps := ⟨_, rfl⟩
  rw [← hE] at EN NO ALL NODE EP hel
  clear hE
  go_enter Try.func142, Try.ntmps142
  go_wp2_with fail
  rw [← hwa]
  clear hwa
  refine (EN.out _ HBA.out).mono ?_
  rintro e w1 ⟨ue, rfl, o1, b1⟩
  obtain ⟨g, ce, rfl, hg1, hg2⟩ := o1.shape EP
  have HB1 := Lib.hid (HBA.out.trans (b1.mono HBA.out.size))
  have HT1 := Lib.hid (T1.out.below b1 T1.out.lt)
  have DC := Lib.hid (fun j (hj : j < E.length) => o1.cellGet hj)
  have G2 := Lib.hid hg2
  clear b1 x0 x1 o1 hg1 hg2 EN T1 HBA
  go_wp2
  go_loopw [6] (fun i wr => ∃ k : Nat, k ≤ E.length ∧ i = .int .i64 k ∧ Hid (∀ j, j < k → (onW ps ss (E.getD j 0).toNat).length = 1) ∧ Hid (Below w1.heap.size w1 wr)) (fun i _ => E.length - (intOf i).toNat)
  case atStart => exact ⟨0, Nat.zero_le _, rfl, Lib.hid (fun j hj => by omega), Lib.hid (Below.refl _ _)⟩
  case round =>
    obtain ⟨k, hk, rfl, HA, HB⟩ := hrel
    have HBW := Lib.hid (HB1.out.trans (HB.out.mono HB1.out.size))
    have HTW := Lib.hid (HT1.out.below HB.out HT1.out.lt)
    obtain ⟨x0, x1⟩ := HTW.out.cells
    by_cases hlt : k < E.length
    · obtain ⟨x, hx, hxl, _⟩ := NODE.out k hlt
      have hce : wr.cell? ⟨g, k, none⟩ = some (.int .i64 x) := by rw [HB.out.cell (p := ⟨g, k, none⟩) G2.out, DC.out k hlt, hx]
      have C : Hid (∀ w', Hid (Below w1.heap.size w1 w') → Calls Try.prog 138 #[.agg #[.slice p1 ps.length c1, .slice p2 ws.length c2], .slice q ss.length cq, .int .i64 x] w' (NewInts (onW ps ss x) w')) := Lib.hid (fun w' hb => ON.out w' (hb_full HB1 hb) x hxl)
      have HDC : Hid (w1.cell? ⟨g, k, none⟩ = some (.int .i64 x)) := Lib.hid (by rw [DC.out k hlt, hx])
      have i0 : (0 : Int) ≤ (k : Int) := by omega
      have i1 : (k : Int) < (E.length : Int) := by omega
      have NX : Hid ((onW ps ss x).length = 1 → ∀ j, j < k + 1 → (onW ps ss (E.getD j 0).toNat).length = 1) := Lib.hid (fun h j hj => by
        rcases Nat.lt_or_ge j k with h' | h'
        · exact HA.out j h'
        · obtain rfl : j = k := by omega
          rw [hx, Int.toNat_natCast]; exact h)
      have NK : Hid ((onW ps ss x).length ≠ 1 → stopB ps ws ss = false) := Lib.hid (fun h => NO.out k hlt (by rw [hx, Int.toNat_natCast]; exact h))
      have ol := OL.out x hxl
      obtain ⟨L, hL⟩ : ∃ L, L = onW ps ss x := ⟨_, rfl⟩
      rw [← hL] at C NX NK ol
      clear hx hL HA
      have KC : Hid (∀ w', Hid (Below w1.heap.size w1 w') → w'.cell? ⟨w.heap.size, 0, none⟩ = some (.slice p1 ps.length c1) ∧ w'.cell? ⟨w.heap.size, 1, none⟩ = some (.slice p2 ws.length c2) ∧ w'.cell? ⟨g, k, none⟩ = some (.int .i64 x)) := Lib.hid (fun w' hb => ⟨(HT1.out.below hb.out HT1.out.lt).cells.1, (HT1.out.below hb.out HT1.out.lt).cells.2, by rw [hb.out.cell (p := ⟨g, k, none⟩) G2.out]; exact HDC.out⟩)
      have HD : Hid (Below w1.heap.size w1 wr.drew) := Lib.hid (below_drew HB.out)
      go_wp2_with fail
      go_region_held3 (fun w' => w'.cell? ⟨w.heap.size, 0, none⟩ = some (.slice p1 ps.length c1) ∧ w'.cell? ⟨w.heap.size, 1, none⟩ = some (.slice p2 ws.length c2) ∧ w'.cell? ⟨g, k, none⟩ = some (.int .i64 x))
        (first | exact KC.out _ HD | exact KC.out _ (by assumption) | go_keep)
        (first
          | (go_at_call 138; (with_reducible refine (C.out _ (by first | exact HD | assumption)).mono ?_); rintro e w2 ⟨u2, rfl, o2, b2⟩; (obtain ⟨q2, d2, rfl, _⟩ := o2.intsV); (have HB2 := hb_next (wa := w1) (by first | exact HD | assumption) b2); clear b2 o2))
      all_goals
        have HBX := Lib.hid (hb_full (wa := w1) HB1 HB2)
        clear HD HB HBW
        by_cases h1 : L.length = 1
        · have N2 := Lib.hid (NX.out h1)
          have hne : ((L.length : Int) != 1) = false := by simp; omega
          clear NX NK
          go_wp2_with fail
          go_roundw
          case rel => exact ⟨k + 1, by omega, by go_num, N2, HB2⟩
          case measure => simp [intOf]; omega
        · have R := Lib.hid (NK.out h1)
          have hne : ((L.length : Int) != 1) = true := by simp; omega
          clear NX NK
          go_wp2_with fail
          go_ret
          exact ⟨ret_b R.out, HBX.out⟩
    · have R := Lib.hid (ALL.out (fun j hj => HA.out j (by omega)))
      have C := Lib.hid (RI.out wr HBW.out)
      generalize riB ps.length ss = rb at *
      clear HA
      go_wp2_with fail
      refine C.out.mono ?_
      rintro e w2 ⟨rfl, m, rfl⟩
      have HB2 := Lib.hid (below_drewN HBW.out m)
      go_wp2_with fail
      go_ret
      exact ⟨ret_b R.out, HB2.out⟩
/-- What IsStopping returns. -/
def stopV (ps ws ss : List Int) : Value := .tuple #[.bool (stopB ps ws ss), .bool (goodT ps ws)]
theorem stopV_form (ps ws ss : List Int) : ∃ rx ok, stopV ps ws ss = .tuple #[.bool rx, .bool ok] := ⟨_, _, rfl⟩
set_option maxHeartbeats 2000000 in
theorem isStopM (ps ws ss : List Int) (v u : Value) (w : World) (hl : ss.length ≤ 1048576) (h : TreeV w w.heap.size v ps ws) (hu : IntsV w w.heap.size u ss) :
    Calls Try.prog 67 #[v, u] w (Gives (stopV ps ws ss) w) := by
  have G := Lib.hid (fun w' (hb : Below w.heap.size w w') => goodS ps ws v w' (h.boxed hb))
  have SS := Lib.hid (fun (gd : Good ps ws) w' (hb : Below w.heap.size w w') => stopS ps ws ss v u w' gd hl (h.boxed hb) ((hu.below hb).more hb.size))
  obtain ⟨p1, c1, p2, c2, rfl⟩ := h.shape
  obtain ⟨q, cq, rfl, _⟩ := hu
  clear h
  have B1 := Lib.hid ((Below.refl w.heap.size w).alloc (Nat.le_refl _) (.cells #[.slice p1 ps.length c1, .slice p2 ws.length c2] 28))
  have T1 := Lib.hid (show TBox (w.alloc (.cells #[.slice p1 ps.length c1, .slice p2 ws.length c2] 28)) w.heap.size (.slice p1 ps.length c1) (.slice p2 ws.length c2) from alloc_heap w _)
  obtain ⟨wa, hwa⟩ : ∃ wa, wa = w.alloc (.cells #[.slice p1 ps.length c1, .slice p2 ws.length c2] 28) := ⟨_, rfl⟩
  rw [← hwa] at B1 T1
  obtain ⟨x0, x1⟩ := T1.out.cells
  have D : Hid (stopV ps ws ss = .tuple #[.bool (stopB ps ws ss), .bool (goodT ps ws)]) := Lib.hid rfl
  cases hg : goodT ps ws
  · have R : Hid (stopV ps ws ss = .tuple #[.bool false, .bool false]) := Lib.hid (by rw [D.out, hg]; unfold stopB; rw [hg]; rfl)
    rw [hg] at G
    clear hg D
    go_enter Try.func67, Try.ntmps67
    go_wp2_with fail
    rw [← hwa]
    clear hwa
    refine (G.out _ B1.out).mono ?_
    rintro e w1 ⟨rfl, b1⟩
    have HB1 := Lib.hid (B1.out.trans (b1.mono B1.out.size))
    obtain ⟨y0, y1⟩ := (T1.out.below b1 T1.out.lt).cells
    clear b1
    go_wp2_with fail
    go_ret2
    rw [R.out]
    exact ⟨rfl, HB1.out⟩
  · have S2 := Lib.hid (SS.out (Good.of hg))
    rw [hg] at G D
    clear hg SS
    generalize stopB ps ws ss = bb at *
    go_enter Try.func67, Try.ntmps67
    go_wp2_with fail
    rw [← hwa]
    clear hwa
    refine (G.out _ B1.out).mono ?_
    rintro e w1 ⟨rfl, b1⟩
    have HB1 := Lib.hid (B1.out.trans (b1.mono B1.out.size))
    obtain ⟨y0, y1⟩ := (T1.out.below b1 T1.out.lt).cells
    clear b1
    go_wp2_with fail
    refine (S2.out _ HB1.out).mono ?_
    rintro e w2 ⟨rfl, b2⟩
    have HB2 := Lib.hid (HB1.out.trans (b2.mono HB1.out.size))
    clear b2
    go_wp2_with fail
    go_ret2
    rw [D.out]
    exact ⟨rfl, HB2.out⟩
end Go.Proofs.Ytfpckfameebdnaa
namespace Go.Proofs.Ytfpckfameebdnaa
open Go.RowKit
set_option linter.unusedVariables false
set_option maxRecDepth 100000 in
set_option maxHeartbeats 4000000 in
theorem stop4S (ps ws ss : List Int) (v u : Value) (x : Nat) (w : World) (gd : Good ps ws) (hx : x < ps.length) (hl : ss.length ≤ 1048576) (h : TreeV w w.heap.size v ps ws) (hu : IntsV w w.heap.size u ss) :
    Calls Try.prog 152 #[v, u, .int .i64 x] w (Gives (.int .i64 ((frsT ps ss).getD x 0)) w) := by
  have WY := Lib.hid (fun w' (hb : Below w.heap.size w w') => wayS ps ws v x w' gd hx (h.boxed hb))
  have HS := Lib.hid (fun w' (hb : Below w.heap.size w w') z => hasS ss z u w.heap.size w' hl (hu.below hb))
  have W := way_all (ParOk.of gd) x hx
  have FS := Lib.hid (fun (k : Nat) hk hb he => fst_search (ParOk.of gd) (p := fun y => inL ss (y : Int)) hx (k := k) hk hb he)
  have FN := Lib.hid (fun hb => fst_none (ParOk.of gd) (p := fun y => inL ss (y : Int)) hx hb)
  have hn24 := gd.n24
  obtain ⟨L, hL⟩ : ∃ L, L = wayT ps (x : Int) := ⟨_, rfl⟩
  have WP : 0 < L.length ∧ L.length ≤ 24 := by rw [hL]; have := W.len; omega
  have WN : Hid (∀ j, j < L.length → 0 ≤ L.getD j 0 ∧ L.getD j 0 < (ps.length : Int)) := Lib.hid (fun j hj => by rw [hL] at hj ⊢; have := W.node j hj; omega)
  obtain ⟨R, hR⟩ : ∃ R, R = (frsT ps ss).getD x 0 := ⟨_, rfl⟩
  change Hid (∀ k : Nat, k < (wayT ps (x : Int)).length → (∀ j, j < k → inL ss ((((wayT ps (x : Int)).getD j 0).toNat : Nat) : Int) = false) → inL ss ((((wayT ps (x : Int)).getD k 0).toNat : Nat) : Int) = true → (frsT ps ss).getD x 0 = (wayT ps (x : Int)).getD k 0) at FS
  change Hid ((∀ j, j < (wayT ps (x : Int)).length → inL ss ((((wayT ps (x : Int)).getD j 0).toNat : Nat) : Int) = false) → (frsT ps ss).getD x 0 = -1) at FN
  rw [← hL] at WY FS FN
  rw [← hR] at FS FN ⊢
  obtain ⟨p1, c1, p2, c2, rfl⟩ := h.shape
  obtain ⟨q, d, rfl, _⟩ := hu
  clear h gd hL hR W
  have B1 := (Below.refl w.heap.size w).alloc (Nat.le_refl _) (.cells #[.slice p1 ps.length c1, .slice p2 ws.length c2] 28)
  have T1 := Lib.hid (show TBox (w.alloc (.cells #[.slice p1 ps.length c1, .slice p2 ws.length c2] 28)) w.heap.size (.slice p1 ps.length c1) (.slice p2 ws.length c2) from alloc_heap w _)
  obtain ⟨x0, x1⟩ := T1.out.cells
  obtain ⟨wa, hwa⟩ : ∃ wa, wa = w.alloc (.cells #[.slice p1 ps.length c1, .slice p2 ws.length c2] 28) := ⟨_, rfl⟩
  rw [← hwa] at B1 T1
  have HBA := Lib.hid B1
  clear B1
  go_enter Try.func152, Try.ntmps152
  go_wp2_with fail
  rw [← hwa]
  clear hwa x0 x1
  refine (WY.out _ HBA.out).mono ?_
  rintro e w1 ⟨uw, rfl, o1, b1⟩
  obtain ⟨g, ce, rfl, hg1, hg2⟩ := o1.shape WP.1
  have HB1 := Lib.hid (HBA.out.trans (b1.mono HBA.out.size))
  have DC := Lib.hid (fun j (hj : j < L.length) => o1.cellGet (j := j) hj)
  have HG := Lib.hid hg2
  obtain ⟨wp0, wp1⟩ := WP
  clear b1 o1 hg1 hg2 T1 HBA WY
  go_wp2
  go_loopw [8] (fun i wr => ∃ k : Nat, k ≤ L.length ∧ i = .int .i64 k ∧ Hid (∀ j, j < k → inL ss (((L.getD j 0).toNat : Nat) : Int) = false) ∧ ∃ n, wr = w1.drewN n) (fun i _ => L.length - (intOf i).toNat)
  case atStart => exact ⟨0, Nat.zero_le _, rfl, Lib.hid (fun j hj => by omega), 0, rfl⟩
  case round =>
    obtain ⟨k, hk, rfl, HA, n, rfl⟩ := hrel
    by_cases hlt : k < L.length
    · have hce : w1.cell? ⟨g, k, none⟩ = some (.int .i64 (L.getD k 0)) := DC.out k hlt
      obtain ⟨n0, n1⟩ := WN.out k hlt
      obtain ⟨y, hy⟩ : ∃ y : Nat, (y : Int) = L.getD k 0 := ⟨(L.getD k 0).toNat, by omega⟩
      have FK := Lib.hid (FS.out k hlt HA.out)
      have NX : Hid (inL ss (y : Int) = false → ∀ j, j < k + 1 → inL ss (((L.getD j 0).toNat : Nat) : Int) = false) := Lib.hid (fun h j hj => by
        rcases Nat.lt_or_ge j k with h' | h'
        · exact HA.out j h'
        · obtain rfl : j = k := by omega
          rw [← hy, Int.toNat_natCast]; exact h)
      rw [← hy] at hce FK n0 n1
      rw [Int.toNat_natCast] at FK
      have C := Lib.hid (HS.out (w1.drewN n) (below_drewN HB1.out n) (y : Int))
      have i0 : (0 : Int) ≤ (k : Int) := by omega
      have i1 : (k : Int) < (L.length : Int) := by omega
      clear hy HA
      obtain ⟨t, ht⟩ : ∃ t, t = inL ss (y : Int) := ⟨_, rfl⟩
      rw [← ht] at C FK NX
      clear ht
      cases t
      · have N2 := Lib.hid (NX.out rfl)
        clear NX FK
        go_wp2_with fail
        refine C.out.mono ?_
        rintro e w2 ⟨rfl, m, rfl⟩
        go_wp2_with fail
        go_roundw
        case rel => exact ⟨k + 1, by omega, by go_num, N2, _, rfl⟩
        case measure => simp [intOf]; omega
      · have RR := Lib.hid (FK.out rfl)
        clear NX FK
        have hce2 : ∀ m : Nat, ((w1.drewN n).drewN m).cell? ⟨g, k, none⟩ = some (.int .i64 (y : Int)) := fun m => hce
        go_wp2_with fail
        refine C.out.mono ?_
        rintro e w2 ⟨rfl, m, rfl⟩
        have hce3 := hce2 m
        go_wp2_with fail
        go_ret
        rw [RR.out]
        exact ⟨rfl, below_drewN HB1.out (n + m)⟩
    · have RR : Hid (R = -1) := Lib.hid (FN.out (fun j hj => HA.out j (by omega)))
      clear HA
      go_wp2_with fail
      go_ret
      rw [RR.out]
      exact ⟨rfl, below_drewN HB1.out n⟩
end Go.Proofs.Ytfpckfameebdnaa
namespace Go.Proofs.Ytfpckfameebdnaa
open Go.RowKit
set_option linter.unusedVariables false
theorem putO (l : List Int) (n : Int) (b cq lo : Nat) (w : World) (hl : l.length ≤ 1000) (hn : InI64 n) (hlo : lo ≤ w.heap.size) (ho : OwnV w lo w.heap.size (.slice (some ⟨b, 0, none⟩) l.length cq) l) :
    Calls Try.prog 151 #[.slice (some ⟨b, 0, none⟩) l.length cq, .int .i64 n] w (fun e w' => ∃ g c, e = .returned (.slice (some ⟨g, 0, none⟩) (putL l n).length c) ∧ OwnV w' lo w'.heap.size (.slice (some ⟨g, 0, none⟩) (putL l n).length c) (putL l n) ∧ Below w.heap.size w w') := by
  refine (putS l n b 0 cq w hl hn ho.intsV).mono ?_
  rintro e w' ⟨b11, ⟨rfl, hsame⟩ | ⟨g, c, rfl, o⟩⟩
  · exact ⟨b, cq, by rw [hsame], by rw [hsame]; exact (ho.below b11).wide b11.size (Nat.le_refl _), b11⟩
  · exact ⟨g, c, rfl, o.low hlo, b11⟩
end Go.Proofs.Ytfpckfameebdnaa
namespace Go.Proofs.Ytfpckfameebdnaa
set_option linter.unusedVariables false
theorem put_take {C : List Int} {n k x : Nat} (hk : k < C.length) (hx : C.getD k 0 = (x : Int)) (h : x < n) : putL (nodesW (fun y => inL (C.take k) (y : Int)) n) (x : Int) = nodesW (fun y => inL (C.take (k + 1)) (y : Int)) n := by
  rw [put_nodes _ h]
  refine nodesW_congr fun y hy => ?_
  rw [inL_take hk, hx]
  by_cases e : y = x
  · subst e; simp
  · have : ¬ (y : Int) = (x : Int) := by omega
    rw [if_neg this, decide_eq_false e, Bool.or_false]
/-- One of two numbers. -/
def oneOf (lt : Bool) (a b : Int) : Int := if lt = true then (if b < a then a else b) else (if a < b then a else b)
/-- The nodes chosen at the ends. -/
def pickC (ps a b : List Int) (lt : Bool) : List Int := (endsT ps).map fun e => oneOf lt ((nodT ps a).getD e.toNat 0) ((nodT ps b).getD e.toNat 0)
def pickT (ps a b : List Int) (lt : Bool) : List Int := nodesW (fun x => inL (pickC ps a b lt) (x : Int)) ps.length
theorem pickC_len (ps a b : List Int) (lt : Bool) : (pickC ps a b lt).length = (endsT ps).length := by simp [pickC]
theorem pickC_at (ps a b : List Int) (lt : Bool) {k : Nat} (hk : k < (endsT ps).length) : (pickC ps a b lt).getD k 0 = oneOf lt ((nodT ps a).getD ((endsT ps).getD k 0).toNat 0) ((nodT ps b).getD ((endsT ps).getD k 0).toNat 0) := by
  unfold pickC
  have e : (endsT ps).getD k 0 = (endsT ps)[k] := by rw [List.getD_eq_getElem?_getD, List.getElem?_eq_getElem hk]; rfl
  rw [e, List.getD_eq_getElem?_getD, List.getElem?_map, List.getElem?_eq_getElem hk]
  rfl
theorem pickC_in {ps ws a b : List Int} (sa : Stop ps ws a) (sb : Stop ps ws b) (lt : Bool) {k : Nat} (hk : k < (endsT ps).length) : ∃ x : Nat, (pickC ps a b lt).getD k 0 = (x : Int) ∧ x < ps.length := by
  obtain ⟨e, h1, h2, h3⟩ := ends_in hk
  rw [pickC_at ps a b lt hk, ← h1, Int.toNat_natCast]
  have ha := (sa.end_ h2 h3).2
  have hb := (sb.end_ h2 h3).2
  unfold oneOf
  split
  · split
    · exact ⟨((nodT ps a).getD e 0).toNat, by omega, by omega⟩
    · exact ⟨((nodT ps b).getD e 0).toNat, by omega, by omega⟩
  · split
    · exact ⟨((nodT ps a).getD e 0).toNat, by omega, by omega⟩
    · exact ⟨((nodT ps b).getD e 0).toNat, by omega, by omega⟩
/-- Two stoppings of a valid tree. -/
def twoB (ps ws a b : List Int) : Bool := stopB ps ws a && stopB ps ws b
def ifTwo (ps ws a b L : List Int) : List Int := if twoB ps ws a b = true then L else []
theorem pick_len (ps ws a b : List Int) (lt : Bool) : (ifTwo ps ws a b (pickT ps a b lt)).length ≤ 1048576 := by
  unfold ifTwo
  split
  · rename_i h
    unfold twoB at h
    rw [Bool.and_eq_true] at h
    have := (stopB_iff.1 h.1).good.n24
    have := nodesW_len (fun x => inL (pickC ps a b lt) (x : Int)) ps.length
    unfold pickT
    omega
  · simp
end Go.Proofs.Ytfpckfameebdnaa
namespace Go.Proofs.Ytfpckfameebdnaa
open Go.RowKit
set_option linter.unusedVariables false
def bolL (p : Nat → Bool) (n : Nat) : List Value := (List.range n).map fun x => Value.bool (p x)
theorem bolL_len (p : Nat → Bool) (n : Nat) : (bolL p n).length = n := by simp [bolL]
theorem bolL_succ (p : Nat → Bool) (n : Nat) : bolL p (n + 1) = bolL p n ++ [Value.bool (p n)] := by unfold bolL; rw [List.range_succ, List.map_append]; rfl
theorem bolL_at (p : Nat → Bool) {n j : Nat} (h : j < n) : (bolL p n)[j]? = some (Value.bool (p j)) := by unfold bolL; rw [List.getElem?_map, List.getElem?_range h]; rfl
theorem boolInfo : (Try.prog.info? 4).map (fun i => (i.zero, i.size, i.bytes)) = some (some (.bool false), 1, 1) := by kernel_rfl
structure OwnB (w : World) (lo hi : Nat) (v : Value) (p : Nat → Bool) (n : Nat) : Prop where
  row : w.ownsRow lo 4 1 v n (bolL p n)
  lt : ∀ q, v.ownBlock = some q → q < hi
  room : hi ≤ w.heap.size
/-- A value that is a slice of these bools. -/
def BoolsV (w : World) (B : Nat) (v : Value) (p : Nat → Bool) (n : Nat) : Prop := ∃ q cap, v = .slice q n cap ∧ ∀ i, i < n → ∃ b off, q = some ⟨b, off, none⟩ ∧ b < B ∧ w.cell? ⟨b, off + i, none⟩ = some (.bool (p i))
theorem OwnB.below {w w' : World} {lo hi n : Nat} {v : Value} {p : Nat → Bool} (h : OwnB w lo hi v p n) (hb : Below hi w w') : OwnB w' lo hi v p n := by
  refine ⟨?_, h.lt, Nat.le_trans h.room hb.size⟩
  refine ⟨h.row.1, ?_⟩
  rcases h.row.2 with hn | ⟨g, cap, cur, h1, hb', hg, rest⟩
  · exact .inl hn
  · refine .inr ⟨g, cap, cur, h1, hb', ?_, rest⟩
    rw [hb.block g (h.lt g (by rw [h1]; simp [Value.ownBlock]))]; exact hg
theorem OwnB.wide {w : World} {lo hi hi' n : Nat} {v : Value} {p : Nat → Bool} (h : OwnB w lo hi v p n) (h2 : hi ≤ hi') (hr : hi' ≤ w.heap.size) : OwnB w lo hi' v p n :=
  ⟨h.row, fun q hq => by have := h.lt q hq; omega, hr⟩
theorem OwnB.boolsV {w : World} {lo hi n : Nat} {v : Value} {p : Nat → Bool} (h : OwnB w lo hi v p n) : BoolsV w hi v p n := by
  rcases h.row.2 with ⟨h1, h2⟩ | ⟨g, cap, cur, h1, hb, hg, hc, hm, _⟩
  · subst h2
    exact ⟨none, 0, h1, fun i hi => by omega⟩
  · subst h1
    refine ⟨_, cap, rfl, fun i hi => ⟨g, 0, rfl, h.lt g (by simp [Value.ownBlock]), ?_⟩⟩
    rw [Nat.zero_add, h.row.cellAt i (by omega), bolL_at p hi]
theorem OwnB.empty (p : Nat → Bool) (w : World) (lo : Nat) (hlo : lo ≤ w.heap.size) : OwnB (w.alloc (.cells #[] 4)) lo (w.alloc (.cells #[] 4)).heap.size (.slice (some ⟨w.heap.size, 0, none⟩) 0 0) p 0 := by
  refine ⟨⟨rfl, .inr ⟨w.heap.size, 0, #[], rfl, hlo, alloc_heap w _, by simp, by unfold maxLen; omega, rfl, rfl⟩⟩, ?_, Nat.le_refl _⟩
  intro q hq
  simp [Value.ownBlock] at hq
  subst hq
  simp
theorem OwnB.app {wr w3 : World} {lo k : Nat} {o v' : Value} {p : Nat → Bool} (h : OwnB wr lo wr.heap.size o p k)
    (hown : w3.ownsRow lo 4 1 v' (k + 1) (bolL p k ++ [.bool (p k)])) : OwnB w3 lo w3.heap.size v' p (k + 1) := by
  refine ⟨?_, fun q hq => (hown.lt q hq).2, Nat.le_refl _⟩
  rw [bolL_succ]; exact hown
theorem BoolsV.below {w w' : World} {B n : Nat} {v : Value} {p : Nat → Bool} (h : BoolsV w B v p n) (hb : Below B w w') : BoolsV w' B v p n := by
  obtain ⟨q, cap, e, h⟩ := h
  refine ⟨q, cap, e, fun i hi => ?_⟩
  obtain ⟨b, off, e2, hB, hc⟩ := h i hi
  exact ⟨b, off, e2, hB, by rw [hb.cell (p := ⟨b, off + i, none⟩) hB]; exact hc⟩
theorem BoolsV.more {w : World} {B B' n : Nat} {v : Value} {p : Nat → Bool} (h : BoolsV w B v p n) (hB : B ≤ B') : BoolsV w B' v p n := by
  obtain ⟨q, cap, e, h⟩ := h
  refine ⟨q, cap, e, fun i hi => ?_⟩
  obtain ⟨b, off, e2, hb, hc⟩ := h i hi
  exact ⟨b, off, e2, by omega, hc⟩
theorem bool_one_new (w : World) (v : Value) : ∀ (j : Nat) (u : Value), [v][j]? = some u → (w.alloc (.cells #[v] 4)).cell? ((⟨w.heap.size, 0, none⟩ : Addr).add j) = some u := by
  intro j u hu
  obtain ⟨hj, hu⟩ := List.getElem?_eq_some_iff.1 hu
  have hj0 : j = 0 := by simpa using hj
  subst hj0
  rw [Addr.add_lit, Nat.zero_add]
  have hh := alloc_heap w (.cells #[v] 4)
  refine (cell_of_heap (o := 0) hh ?_).1
  simpa using hu
end Go.Proofs.Ytfpckfameebdnaa
namespace Go.Proofs.Ytfpckfameebdnaa
open Go.RowKit
set_option linter.unusedVariables false
theorem inL_nodes {p : Nat → Bool} {n x : Nat} (hx : x < n) : inL (nodesW p n) (x : Int) = p x := by
  unfold inL nodesW
  rw [Bool.eq_iff_iff, decide_eq_true_iff, List.mem_map]
  constructor
  · rintro ⟨y, hy, e⟩
    obtain rfl : y = x := by omega
    exact (List.mem_filter.1 hy).2
  · intro h
    exact ⟨x, List.mem_filter.2 ⟨List.mem_range.2 hx, h⟩, rfl⟩
theorem frs_nodes {ps : List Int} (hp : ParOk ps) (p : Nat → Bool) {x : Nat} (hx : x < ps.length) : (frsT ps (nodesW p ps.length)).getD x 0 = (fstT ps p).getD x 0 := fst_congr hp (fun y hy => inL_nodes hy) x hx
set_option maxRecDepth 100000 in
set_option maxHeartbeats 8000000 in
theorem first4S (ps ws : List Int) (p : Nat → Bool) (v u : Value) (w : World) (gd : Good ps ws) (hlf : ∀ x, x < ps.length → leafB ps x = true → p x = true) (h : TreeV w w.heap.size v ps ws) (hu : BoolsV w w.heap.size u p ps.length) :
    Calls Try.prog 78 #[v, u] w (NewInts (fstL ps p) w) := by
  have EN := Lib.hid (fun w' (hb : Below w.heap.size w w') => endsS ps ws v w' (h.boxed hb) gd.n24 (parAll gd))
  have nwl : (nodesW p ps.length).length ≤ ps.length := nodesW_len _ _
  have SA := Lib.hid (fun (x : Nat) (hx : x < ps.length) u1 w' (hb : Below w.heap.size w w') (hv : IntsV w' w'.heap.size u1 (nodesW p ps.length)) => stop4S ps ws (nodesW p ps.length) v u1 x w' gd hx (by have := gd.n24; omega) (h.boxed hb) hv)
  have hn24 := gd.n24
  have hn0 := gd.n1
  have EP := ends_pos gd
  have hel := Nat.le_trans (ends_le ps) hn24
  have EI := Lib.hid (fun i (hi : i < (endsT ps).length) => ends_in hi)
  have FN := Lib.hid (fun (x : Nat) (hx : x < ps.length) => frs_nodes (ParOk.of gd) p hx)
  have FL : ∀ x, x < ps.length → leafB ps x = true → 0 ≤ (fstT ps p).getD x 0 := fun x hx hl => fst_leaf (ParOk.of gd) hx (hlf x hx hl)
  have FLH := Lib.hid FL
  have FB := Lib.hid (fun (x : Nat) (hx : x < ps.length) => fst_bd (ParOk.of gd) p x hx)
  have PA := Lib.hid (fun k (x : Nat) (hk : k < (endsT ps).length) (hx : (x : Int) = (endsT ps).getD k 0) => fstC_at ps p hk hx)
  obtain ⟨C, hC⟩ : ∃ C, C = fstC ps p := ⟨_, rfl⟩
  have CLN : Hid (C.length = (endsT ps).length) := Lib.hid (by rw [hC, fstC_len])
  have PT := Lib.hid (fun (k x : Nat) (hk : k < C.length) (hx : C.getD k 0 = (x : Int)) (h : x < ps.length) => put_take hk hx h)
  have Z0 : Hid (nodesW (fun y => inL (C.take 0) (y : Int)) ps.length = []) := Lib.hid (by
    rw [List.take_zero]
    unfold nodesW
    rw [List.map_eq_nil_iff, List.filter_eq_nil_iff]
    intro y _
    unfold inL; simp)
  have ALL : Hid (∀ k, C.length ≤ k → nodesW (fun y => inL (C.take k) (y : Int)) ps.length = fstL ps p) := Lib.hid (fun k hk => by rw [List.take_of_length_le hk, hC, fst_list gd FL])
  have NL := Lib.hid (fun k => nodesW_len (fun y => inL (C.take k) (y : Int)) ps.length)
  rw [← hC] at PA
  obtain ⟨i0, hi, hz0, hz1, hz2⟩ := info_parts intInfo
  obtain ⟨p1, c1, p2, c2, rfl⟩ := h.shape
  obtain ⟨qb, db, rfl, jb⟩ := hu
  have BQ := Lib.hid jb
  clear h gd hC FL jb hlf
  have T0 := (TBox.alloc (show TBox (w.alloc (.cells #[.slice p1 ps.length c1, .slice p2 ws.length c2] 28)) w.heap.size (.slice p1 ps.length c1) (.slice p2 ws.length c2) from alloc_heap w _) (.cells #[] 3)).alloc (.cells #[] 3)
  have B1 := (((Below.refl w.heap.size w).alloc (Nat.le_refl _) (.cells #[.slice p1 ps.length c1, .slice p2 ws.length c2] 28)).alloc (by simp) (.cells #[] 3)).alloc (by simp; omega) (.cells #[] 3)
  have O1 := OwnV.empty (w.alloc (.cells #[.slice p1 ps.length c1, .slice p2 ws.length c2] 28)) w.heap.size (by simp)
  have O1' := O1.below ((Below.refl ((w.alloc (.cells #[.slice p1 ps.length c1, .slice p2 ws.length c2] 28)).alloc (.cells #[] 3)).heap.size _).alloc (Nat.le_refl _) (.cells #[] 3))
  have O2 := OwnV.empty ((w.alloc (.cells #[.slice p1 ps.length c1, .slice p2 ws.length c2] 28)).alloc (.cells #[] 3)) (w.heap.size + 2) (by simp)
  have z1 : (w.alloc (.cells #[.slice p1 ps.length c1, .slice p2 ws.length c2] 28)).heap.size = w.heap.size + 1 := by simp
  have z2 : ((w.alloc (.cells #[.slice p1 ps.length c1, .slice p2 ws.length c2] 28)).alloc (.cells #[] 3)).heap.size = w.heap.size + 2 := by simp
  rw [z1, z2] at O1'
  rw [z2] at O2
  clear O1
  obtain ⟨wa, hwa⟩ : ∃ wa, wa = ((w.alloc (.cells #[.slice p1 ps.length c1, .slice p2 ws.length c2] 28)).alloc (.cells #[] 3)).alloc (.cells #[] 3) := ⟨_, rfl⟩
  have sz : wa.heap.size = w.heap.size + 3 := by rw [hwa]; simp
  rw [← hwa] at B1 T0 O1' O2
  have T1 := Lib.hid T0
  have HBA := Lib.hid B1
  have P1 := Lib.hid O1'
  have S1 := Lib.hid O2
  have SZ := Lib.hid sz
  clear B1 T0 O1' O2 sz z1 z2
  obtain ⟨x0, x1⟩ := T1.out.cells
  obtain ⟨E, hE⟩ : ∃ E, E = endsT ps := ⟨_, rfl⟩
  rw [← hE] at EN EP hel EI CLN PA
  clear hE
  go_enter Try.func78, Try.ntmps78
  go_wp2_with fail
  rw [← hwa]
  clear hwa
  refine (EN.out _ HBA.out).mono ?_
  rintro e w2 ⟨ue, rfl, o2, b2⟩
  obtain ⟨g, ce, rfl, hg1, hg2⟩ := o2.shape EP
  have HB2 := Lib.hid (HBA.out.trans (b2.mono HBA.out.size))
  have HT2 := Lib.hid (T1.out.below b2 T1.out.lt)
  have HP2 := Lib.hid (P1.out.below (b2.mono (by have := SZ.out; omega)))
  have HS2 := Lib.hid ((S1.out.below b2).wide b2.size (Nat.le_refl _))
  have DC := Lib.hid (fun j (hj : j < E.length) => o2.cellGet (j := j) hj)
  have HG := Lib.hid hg2
  have HG1 := Lib.hid (show w.heap.size + 3 ≤ g from by have := SZ.out; omega)
  have SZ2 := Lib.hid (show w.heap.size + 3 ≤ w2.heap.size from by have := SZ.out; have := b2.size; omega)
  clear b2 o2 x0 x1 hg1 hg2 T1 P1 S1 HBA EN SZ
  go_wp2
  go_loopw [6, 8] (fun o i wr => ∃ k : Nat, k ≤ ps.length ∧ i = .int .i64 k ∧ Hid (OwnV wr (w.heap.size + 2) wr.heap.size o (nodesW p k)) ∧ Hid (Below (w.heap.size + 2) w2 wr) ∧ Hid (∀ q, o.ownBlock = some q → q = w.heap.size + 2 ∨ w2.heap.size ≤ q) ∧ Hid (wr.heap[g]? = w2.heap[g]?)) (fun _ i _ => ps.length - (intOf i).toNat)
  case atStart => exact ⟨0, Nat.zero_le _, rfl, HS2, Lib.hid (Below.refl _ _), Lib.hid (fun q hq => by simp [Value.ownBlock] at hq; omega), Lib.hid rfl⟩
  case round =>
    obtain ⟨k, hk, rfl, HO, HB, HL, HGB⟩ := hrel
    have HBW := Lib.hid (HB2.out.trans (HB.out.mono (by omega)))
    by_cases hlt : k < ps.length
    · obtain ⟨b, off, rfl, hb, hc⟩ := BQ.out k hlt
      have hcw : wr.cell? ⟨b, off + k, none⟩ = some (.bool (p k)) := by rw [HBW.out.cell (p := ⟨b, off + k, none⟩) hb]; exact hc
      have Y := Lib.hid (nodesW_yes (p := p) (n := k))
      have N := Lib.hid (nodesW_no (p := p) (n := k))
      have LL := nodesW_len p k
      have i0' : (0 : Int) ≤ (k : Int) := by omega
      have i1' : (k : Int) < (ps.length : Int) := by omega
      clear hc
      cases hpk : p k
      · have EE := Lib.hid (N.out hpk)
        rw [hpk] at hcw
        clear Y N hpk
        go_wp2_with fail
        go_roundw
        case rel => exact ⟨k + 1, by omega, by go_num, Lib.hid (by rw [EE.out]; exact HO.out), HB, HL, HGB⟩
        case measure => simp [intOf]; omega
      · have EE := Lib.hid (Y.out hpk)
        rw [hpk] at hcw
        clear Y N hpk
        obtain ⟨L, hL⟩ : ∃ L, L = nodesW p k := ⟨_, rfl⟩
        rw [← hL] at HO EE LL
        clear hL
        have hown := HO.out.row
        have hsz := HB.out.size
        have sz2 := SZ2.out
        have hgl := HG.out
        have hgl1 := HG1.out
        go_wp2_with (at_builtin; refine wpList_append_own_at _ rfl _ _ 22 rfl (w.heap.size + 2) 3 i0 (.int .i64 0) 1 8 Try.underlying22 hi hz0 hz1 hz2 rfl (by decide) _ L.length (L.map (.int .i64)) rfl (hown.alloc _) ⟨wr.heap.size, 0, none⟩ 1 1 [.int .i64 k] rfl rfl (cell_one_new _ _ _) (fun x hx => by simp at hx; subst hx; rfl) (by unfold maxLen; omega) (by omega) (by simp; omega) ?_; intro v' w3 hown3 hgrow3 hnil3 hloc3)
        have bel3 := Lib.hid ((HB.out.alloc (by omega) _).grown hgrow3 (by simp; omega) (fun q hq => by have := (hown.lt q hq).1; omega))
        have own3 := Lib.hid (HO.out.app (inI64_nat (k := k) (by omega)) hown3)
        have loc3 : Hid (∀ q, v'.ownBlock = some q → q = w.heap.size + 2 ∨ w2.heap.size ≤ q) := Lib.hid (fun q hq => by
          rcases hloc3 with h | h
          · exact HL.out q (h.symm.trans hq)
          · rw [h] at hq; simp at hq; omega)
        have hgb3 : Hid (w3.heap[g]? = w2.heap[g]?) := Lib.hid (by
          rw [hgrow3.block g (by simp; omega) (fun e => by have := HL.out g e.symm; omega), ← HGB.out]
          show (wr.heap.push _)[g]? = _
          rw [Array.getElem?_push, if_neg (by omega)])
        clear hown hown3 hgrow3 hnil3 hloc3
        go_roundw
        case rel => exact ⟨k + 1, by omega, by go_num, Lib.hid (by rw [EE.out]; exact own3.out), bel3, loc3, hgb3⟩
        case measure => simp [intOf]; omega
    · obtain rfl : k = ps.length := by omega
      have HG3 : Hid (g < wr.heap.size) := Lib.hid (Nat.lt_of_lt_of_le HG.out HB.out.size)
      have DC3 : Hid (∀ j, j < E.length → wr.cell? ⟨g, j, none⟩ = some (.int .i64 (E.getD j 0))) := Lib.hid (fun j hj => by
        have := DC.out j hj
        unfold World.cell? at this ⊢
        rw [HGB.out]; exact this)
      have HT3 := Lib.hid (HT2.out.below HB.out (by omega))
      have HP3 := Lib.hid ((HP2.out.below HB.out).wide (by have := HB.out.size; have := SZ2.out; omega) (Nat.le_refl _))
      obtain ⟨qs, cs, ho, js⟩ := HO.out.intsV
      subst ho
      have HSV := Lib.hid HO.out.intsV
      obtain ⟨w3, hw3⟩ : ∃ w3, w3 = wr := ⟨_, rfl⟩
      rw [← hw3] at HG3 DC3 HT3 HP3 HSV HBW ⊢
      obtain ⟨nl, hnl⟩ : ∃ nl, nl = (nodesW p ps.length).length := ⟨_, rfl⟩
      rw [← hnl] at HSV ⊢
      clear HO HB HL HGB js hw3 hnl HP2 HT2 HS2 DC HB2 BQ
      go_wp2_with fail
      go_loopg [5, 9] E.length (fun gg o i wq => ∃ k : Nat, k ≤ E.length ∧ E.length - k ≤ gg ∧ i = .int .i64 k ∧ (∃ go co, o = .slice (some ⟨go, 0, none⟩) (nodesW (fun y => inL (C.take k) (y : Int)) ps.length).length co) ∧ Hid (OwnV wq w.heap.size wq.heap.size o (nodesW (fun y => inL (C.take k) (y : Int)) ps.length)) ∧ Hid (Below w3.heap.size w3 wq))
      case atStart => exact ⟨0, Nat.zero_le _, by omega, rfl, ⟨_, _, by rw [Z0.out]; rfl⟩, Lib.hid (by rw [Z0.out]; exact HP3.out), Lib.hid (Below.refl _ _)⟩
      case round =>
        obtain ⟨k, hk, hgg, rfl, ⟨go, co, rfl⟩, HO, HB⟩ := hrel
        have HBX := Lib.hid (HBW.out.trans (HB.out.mono HBW.out.size))
        have HT := Lib.hid (HT3.out.below HB.out HT3.out.lt)
        by_cases hlt : k < E.length
        · obtain ⟨x, hx, hxl, hxf⟩ := EI.out k hlt
          have hce := (HB.out.cell (p := ⟨g, k, none⟩) HG3.out).trans (DC3.out k hlt)
          rw [← hx] at hce
          have pa := PA.out k x hlt hx
          have fl := FLH.out x hxl hxf
          have fb := FB.out x hxl
          obtain ⟨y, hy⟩ : ∃ y : Nat, (fstT ps p).getD x 0 = (y : Int) := ⟨((fstT ps p).getD x 0).toNat, by omega⟩
          have hyl : y < ps.length := by omega
          rw [hy] at pa
          have PUT := Lib.hid (PT.out k y (by have := CLN.out; omega) pa hyl)
          have hgw : g < wr.heap.size := Nat.lt_of_lt_of_le HG3.out HB.out.size
          have CA : Hid (∀ w', Hid (Below wr.heap.size wr w') → Calls Try.prog 152 #[.agg #[.slice p1 ps.length c1, .slice p2 ws.length c2], .slice qs nl cs, .int .i64 (x : Int)] w' (Gives (.int .i64 (y : Int)) w')) := Lib.hid (fun w' hb => by rw [← hy, ← FN.out x hxl]; exact SA.out x hxl _ w' (hb_full HBX hb) ((HSV.out.below (HB.out.trans (hb.out.mono HB.out.size))).more (Nat.le_trans HB.out.size hb.out.size)))
          have KC : Hid (∀ w', Hid (Below wr.heap.size wr w') → w'.cell? ⟨w.heap.size, 0, none⟩ = some (.slice p1 ps.length c1) ∧ w'.cell? ⟨w.heap.size, 1, none⟩ = some (.slice p2 ws.length c2) ∧ w'.cell? ⟨g, k, none⟩ = some (.int .i64 (x : Int))) := Lib.hid (fun w' hb => ⟨(HT.out.below hb.out HT.out.lt).cells.1, (HT.out.below hb.out HT.out.lt).cells.2, (hb.out.cell (p := ⟨g, k, none⟩) hgw).trans hce⟩)
          have HD : Hid (Below wr.heap.size wr wr.drew) := Lib.hid (below_drew (Below.refl _ _))
          obtain ⟨x0, x1⟩ := HT.out.cells
          have i3 : (0 : Int) ≤ (k : Int) := by omega
          have i4 : (k : Int) < (E.length : Int) := by omega
          have LLE : (nodesW (fun y => inL (C.take k) (y : Int)) ps.length).length ≤ 24 := Nat.le_trans (NL.out k) hn24
          have IY : InI64 (y : Int) := inI64_nat (by omega)
          obtain ⟨LL, hLL⟩ : ∃ LL, LL = nodesW (fun y => inL (C.take k) (y : Int)) ps.length := ⟨_, rfl⟩
          rw [← hLL] at HO PUT LLE
          have CP : Hid (∀ w', Hid (Below wr.heap.size wr w') → Calls Try.prog 151 #[.slice (some ⟨go, 0, none⟩) LL.length co, .int .i64 (y : Int)] w' (fun e w'' => ∃ g3 c3, e = .returned (.slice (some ⟨g3, 0, none⟩) (nodesW (fun y => inL (C.take (k + 1)) (y : Int)) ps.length).length c3) ∧ OwnV w'' w.heap.size w''.heap.size (.slice (some ⟨g3, 0, none⟩) (nodesW (fun y => inL (C.take (k + 1)) (y : Int)) ps.length).length c3) (nodesW (fun y => inL (C.take (k + 1)) (y : Int)) ps.length) ∧ Below w'.heap.size w' w'')) := Lib.hid (fun w' hb => by
            rw [← PUT.out]
            exact putO LL (y : Int) go co w.heap.size w' (by omega) IY (hb_full HBX hb).size ((HO.out.below hb.out).wide hb.out.size (Nat.le_refl _)))
          obtain ⟨L2, hL2⟩ : ∃ L2, L2 = nodesW (fun y => inL (C.take (k + 1)) (y : Int)) ps.length := ⟨_, rfl⟩
          rw [← hL2] at CP
          rw [← hLL]
          clear hx hce pa hy hLL PUT fl fb
          go_wp2_with fail
          go_region_held3 (fun w' => w'.cell? ⟨w.heap.size, 0, none⟩ = some (.slice p1 ps.length c1) ∧ w'.cell? ⟨w.heap.size, 1, none⟩ = some (.slice p2 ws.length c2) ∧ w'.cell? ⟨g, k, none⟩ = some (.int .i64 (x : Int)))
            (first | with_reducible exact KC.out _ HB8 | with_reducible exact KC.out _ HB7 | with_reducible exact KC.out _ HD | go_keep)
            (first
              | (go_at_call 152; (with_reducible refine (CA.out _ HD).mono ?_); rintro e w7 ⟨rfl, b7⟩; (have HB7 := hb_next (wa := wr) HD b7); clear b7)
              | (go_at_call 151; (with_reducible refine (CP.out _ HB7).mono ?_); rintro e w8 ⟨g3, c3, rfl, o8, b8⟩; (have HB8 := hb_next (wa := wr) HB7 b8); (have HO8 := Lib.hid o8); clear o8 b8))
          all_goals
            have HBY := Lib.hid (HB.out.trans (HB8.out.mono HB.out.size))
            go_wp2_with fail
            go_roundg (E.length - (k + 1))
            case rel => exact ⟨k + 1, by omega, by omega, by go_num, ⟨_, _, by rw [← hL2]⟩, Lib.hid (by rw [← hL2]; exact HO8.out), HBY⟩
            case measure => omega
        · have FIN : Hid (NewInts (fstL ps p) w (.returned (.slice (some ⟨go, 0, none⟩) (nodesW (fun y => inL (C.take k) (y : Int)) ps.length).length co)) wr) := Lib.hid ⟨_, rfl, by have h := HO.out; rwa [ALL.out k (by have := CLN.out; omega)] at h ⊢, HBX.out⟩
          go_wp2
          go_ret
          exact FIN.out
end Go.Proofs.Ytfpckfameebdnaa
namespace Go.Proofs.Ytfpckfameebdnaa
open Go.RowKit
set_option linter.unusedVariables false
theorem hb_nextB {wa a b : World} (h : Hid (Below wa.heap.size wa a)) (k : Below a.heap.size a b) : Hid (Below wa.heap.size wa b) := Lib.hid (h.out.trans (k.mono h.out.size))
theorem ne_grownB {w w3 : World} {r : Option Nat} {g : Nat} (hg : w.grownBy w3 r) (hs : g < w.heap.size) (hne : ∀ q, r = some q → q ≠ g) (o : Nat) : w3.cell? ⟨g, o, none⟩ = w.cell? ⟨g, o, none⟩ :=
  World.cell?_of_block (hg.block g hs (fun e => hne g e.symm rfl))
/-- What the three rows are behind the statement. -/
structure BesR (w1 : World) (n : Nat) (S P : List Int) (p : Nat → Bool) (gs gp go : Nat) (wx : World) : Prop where
  out : OwnB wx w1.heap.size wx.heap.size (.slice (some ⟨go, 0, none⟩) 0 0) p 0
  su : ∀ j, j < n → wx.cell? ⟨gs, j, none⟩ = some (.int .i64 (S.getD j 0))
  pr : ∀ j, j < n → wx.cell? ⟨gp, j, none⟩ = some (.int .i64 (P.getD j 0))
  ne : gs ≠ go ∧ gp ≠ go ∧ gs < wx.heap.size ∧ gp < wx.heap.size
  bel : Below w1.heap.size w1 wx
end Go.Proofs.Ytfpckfameebdnaa
namespace Go.Proofs.Ytfpckfameebdnaa
open Go.RowKit
set_option linter.unusedVariables false
end Go.Proofs.Ytfpckfameebdnaa
namespace Go.Proofs.Ytfpckfameebdnaa
open Go.RowKit
set_option linter.unusedVariables false
def looT (ps ws zs : List Int) (k : Nat) : List Int := fstL ps (paidB ps ws zs (capN ps (ownT (sumsT ps ws) zs ps.length) k))
def looOk (ps ws zs : List Int) (kk : Int) : Bool := procB ps ws zs && decide (0 ≤ kk ∧ kk ≤ 24)
def ifLoo (ps ws zs : List Int) (kk : Int) : List Int := if looOk ps ws zs kk = true then looT ps ws zs kk.toNat else []
theorem loo_leaf (ps ws zs : List Int) (k : Nat) : ∀ x, x < ps.length → leafB ps x = true → paidB ps ws zs (capN ps (ownT (sumsT ps ws) zs ps.length) k) x = true := fun x hx hl => by
  unfold paidB
  rw [decide_eq_true_iff, ← ownT_at (n := ps.length) hx]
  exact (capN_leaf hx hl k).symm
theorem loo_len (ps ws zs : List Int) (kk : Int) : (ifLoo ps ws zs kk).length ≤ 1048576 := by
  unfold ifLoo
  split
  · rename_i h
    unfold looOk at h
    rw [Bool.and_eq_true] at h
    have := (procB_iff.1 h.1).good.n24
    unfold looT fstL
    exact Nat.le_trans (nodesW_len _ _) (by omega)
  · simp
set_option maxRecDepth 100000 in
set_option maxHeartbeats 4000000 in
theorem looI (ps ws zs : List Int) (kk : Int) (v u : Value) (w : World) (hn1 : zs.length ≤ 1048576) (h : TreeV w w.heap.size v ps ws) (hu : IntsV w w.heap.size u zs) :
    Calls Try.prog 23 #[v, u, .int .i64 kk] w (NewIntsB (ifLoo ps ws zs kk) (looOk ps ws zs kk) w) := by
  have GC := Lib.hid (fun w' (hb : Below w.heap.size w w') => gameI ps ws zs v u w' hn1 (h.boxed hb) ((hu.below hb).more hb.size))
  obtain ⟨p1, c1, p2, c2, rfl⟩ := h.shape
  obtain ⟨q, d, rfl, _⟩ := hu
  clear h
  have B1 := (Below.refl w.heap.size w).alloc (Nat.le_refl _) (.cells #[.slice p1 ps.length c1, .slice p2 ws.length c2] 28)
  have T1 := Lib.hid (show TBox (w.alloc (.cells #[.slice p1 ps.length c1, .slice p2 ws.length c2] 28)) w.heap.size (.slice p1 ps.length c1) (.slice p2 ws.length c2) from alloc_heap w _)
  obtain ⟨x0, x1⟩ := T1.out.cells
  obtain ⟨wa, hwa⟩ : ∃ wa, wa = w.alloc (.cells #[.slice p1 ps.length c1, .slice p2 ws.length c2] 28) := ⟨_, rfl⟩
  rw [← hwa] at B1 T1
  have HBA := Lib.hid B1
  clear B1
  have GC2 := Lib.hid (GC.out wa HBA.out)
  cases hp : procB ps ws zs
  · have IS := Lib.hid (show ifLoo ps ws zs kk = [] by unfold ifLoo looOk; rw [hp]; rfl)
    have IK := Lib.hid (show looOk ps ws zs kk = false by unfold looOk; rw [hp]; rfl)
    rw [IS.out, IK.out]
    have G3 : Hid (Calls Try.prog 79 #[.agg #[.slice p1 ps.length c1, .slice p2 ws.length c2], .slice q zs.length d] wa (Gives (.tuple #[noGame, .bool false]) wa)) := Lib.hid (GC2.out.mono (fun e w1 hh => by
      obtain ⟨hb, ⟨_, h2⟩ | ⟨h1, _⟩⟩ := hh
      · exact ⟨h2, hb⟩
      · rw [hp] at h1; cases h1))
    clear hp GC GC2
    unfold noGame at G3
    go_enter Try.func23, Try.ntmps23
    go_wp2_with fail
    rw [← hwa]
    clear hwa x0 x1
    refine G3.out.mono ?_
    rintro e w1 ⟨rfl, b1⟩
    have HB1 := HBA.out.trans (b1.mono HBA.out.size)
    have HB2 := Lib.hid (HB1.alloc HB1.size (.cells #[.slice none 0 0, .slice none 0 0, .slice none 0 0, .slice none 0 0] 73))
    clear b1 HB1
    go_wp2_with fail
    go_ret2
    exact newInts_emptyG HB2.out (by simp)
  · have PR := Lib.hid (procB_iff.1 hp)
    have G3 : Hid (Calls Try.prog 79 #[.agg #[.slice p1 ps.length c1, .slice p2 ws.length c2], .slice q zs.length d] wa (fun e w' => ∃ g, e = .returned (.tuple #[g, .bool true]) ∧ Game w' w'.heap.size g ps ws zs ∧ Below wa.heap.size wa w')) := Lib.hid (GC2.out.mono (fun e w1 hh => by
      obtain ⟨hb, ⟨h1, _⟩ | ⟨_, g, h2, h3⟩⟩ := hh
      · rw [hp] at h1; cases h1
      · exact ⟨g, h2, h3, hb⟩))
    by_cases hk : 0 ≤ kk ∧ kk ≤ 24
    · obtain ⟨K, rfl⟩ : ∃ K : Nat, kk = K := ⟨kk.toNat, by omega⟩
      have hK24 : K ≤ 24 := by omega
      have IS := show ifLoo ps ws zs K = looT ps ws zs K by unfold ifLoo looOk; rw [hp, decide_eq_true hk]; rfl
      have IK := show looOk ps ws zs K = true by unfold looOk; rw [hp, decide_eq_true hk]; rfl
      rw [IS, IK]
      clear IS IK
      have LE := Lib.hid (fun g w1 (hg : Game w1 w1.heap.size g ps ws zs) w2 (hb : Below w1.heap.size w1 w2) => capsI ps ws zs K g w2 (by omega) PR.out (hg.boxed hb))
      have SP := Lib.hid (fun g w1 (hg : Game w1 w1.heap.size g ps ws zs) w2 u (hb : Below w1.heap.size w1 w2) (hv : IntsV w2 w2.heap.size u (capN ps (ownT (sumsT ps ws) zs ps.length) K)) => stpdI ps ws zs (capN ps (ownT (sumsT ps ws) zs ps.length) K) g u w2 PR.out (capN_len (ownT_len _ _ _) K) (loo_leaf ps ws zs K) (hg.boxed hb) hv)
      clear hp GC GC2 hk
      obtain ⟨R, hR⟩ : ∃ R, R = looT ps ws zs K := ⟨_, rfl⟩
      change Hid (∀ g w1, Game w1 w1.heap.size g ps ws zs → ∀ w2 u, Below w1.heap.size w1 w2 → IntsV w2 w2.heap.size u (capN ps (ownT (sumsT ps ws) zs ps.length) K) → Calls Try.prog 88 #[g, u] w2 (NewInts (looT ps ws zs K) w2)) at SP
      rw [← hR] at SP ⊢
      obtain ⟨C, hC⟩ : ∃ C, C = capN ps (ownT (sumsT ps ws) zs ps.length) K := ⟨_, rfl⟩
      rw [← hC] at LE SP
      clear hR hC
      go_enter Try.func23, Try.ntmps23
      go_wp2_with fail
      rw [← hwa]
      clear hwa x0 x1
      refine G3.out.mono ?_
      rintro e w1 ⟨g, rfl, hg, b1⟩
      have HB1 := HBA.out.trans (b1.mono HBA.out.size)
      obtain ⟨P1, C1, P2, C2, P3, N3, C3, P4, C4, rfl⟩ := hg.parts
      have HG := Lib.hid hg
      have HB2 := Lib.hid (HB1.alloc HB1.size (.cells #[.slice P1 ps.length C1, .slice P2 ws.length C2, .slice P3 N3 C3, .slice P4 zs.length C4] 73))
      have BW := Lib.hid ((Below.refl w1.heap.size w1).alloc (Nat.le_refl _) (.cells #[.slice P1 ps.length C1, .slice P2 ws.length C2, .slice P3 N3 C3, .slice P4 zs.length C4] 73))
      have R1 := Lib.hid (show GBox (w1.alloc (.cells #[.slice P1 ps.length C1, .slice P2 ws.length C2, .slice P3 N3 C3, .slice P4 zs.length C4] 73)) w1.heap.size (.slice P1 ps.length C1) (.slice P2 ws.length C2) (.slice P3 N3 C3) (.slice P4 zs.length C4) from alloc_heap w1 _)
      obtain ⟨y0, y1, y2, y3⟩ := R1.out.cells
      clear b1 HB1 hg
      obtain ⟨wb, hwb⟩ : ∃ wb, wb = w1.alloc (.cells #[.slice P1 ps.length C1, .slice P2 ws.length C2, .slice P3 N3 C3, .slice P4 zs.length C4] 73) := ⟨_, rfl⟩
      rw [← hwb] at HB2 BW R1
      have KC : Hid (∀ w', Hid (Below wb.heap.size wb w') → w'.cell? ⟨w1.heap.size, 0, none⟩ = some (.slice P1 ps.length C1) ∧ w'.cell? ⟨w1.heap.size, 1, none⟩ = some (.slice P2 ws.length C2) ∧ w'.cell? ⟨w1.heap.size, 2, none⟩ = some (.slice P3 N3 C3) ∧ w'.cell? ⟨w1.heap.size, 3, none⟩ = some (.slice P4 zs.length C4)) := Lib.hid (fun w' hb => (R1.out.below hb.out R1.out.lt).cells)
      have LE2 := Lib.hid (fun w' (hb : Hid (Below wb.heap.size wb w')) => LE.out _ w1 HG.out w' (BW.out.trans (hb.out.mono BW.out.size)))
      have SP2 := Lib.hid (fun w' u (hb : Hid (Below wb.heap.size wb w')) hv => SP.out _ w1 HG.out w' u (BW.out.trans (hb.out.mono BW.out.size)) hv)
      have HD : Hid (Below wb.heap.size wb wb.drew) := Lib.hid (below_drew (Below.refl _ _))
      go_upto_region 4 with fail
      rw [← hwb]
      clear hwb y0 y1 y2 y3 LE SP
      go_region_held3 (fun w' => w'.cell? ⟨w1.heap.size, 0, none⟩ = some (.slice P1 ps.length C1) ∧ w'.cell? ⟨w1.heap.size, 1, none⟩ = some (.slice P2 ws.length C2) ∧ w'.cell? ⟨w1.heap.size, 2, none⟩ = some (.slice P3 N3 C3) ∧ w'.cell? ⟨w1.heap.size, 3, none⟩ = some (.slice P4 zs.length C4))
        (first | with_reducible exact KC.out _ HB8 | with_reducible exact KC.out _ HB7 | with_reducible exact KC.out _ HD | go_keep)
        (first
          | (go_at_call 89; (with_reducible refine (LE2.out _ HD).mono ?_); rintro e w7 ⟨u7, rfl, o7, b7⟩; (have HB7 : Hid (Below wb.heap.size wb w7) := Lib.hid (HD.out.trans (b7.mono HD.out.size))); (have IV7 := Lib.hid o7.intsV); clear o7 b7)
          | (go_at_call 88; (with_reducible refine (SP2.out _ _ HB7 IV7.out).mono ?_); rintro e w8 ⟨u8, rfl, o8, b8⟩; (have HB8 : Hid (Below wb.heap.size wb w8) := Lib.hid (HB7.out.trans (b8.mono HB7.out.size))); (have HO8 := Lib.hid (o8.low (Nat.le_trans HB2.out.size HB7.out.size))); clear o8 b8))
      all_goals
        have FIN : Hid (NewIntsB R true w (.returned (.tuple #[u8, .bool true])) w8) := Lib.hid ⟨_, rfl, HO8.out, HB2.out.trans (HB8.out.mono HB2.out.size)⟩
        go_wp2_with fail
        go_ret2
        exact FIN.out
    · have IS := Lib.hid (show ifLoo ps ws zs kk = [] by unfold ifLoo looOk; rw [decide_eq_false hk, Bool.and_false]; rfl)
      have IK := Lib.hid (show looOk ps ws zs kk = false by unfold looOk; rw [decide_eq_false hk, Bool.and_false])
      rw [IS.out, IK.out]
      clear hp GC GC2
      rcases (show kk < 0 ∨ 0 ≤ kk by omega) with hk1 | hk1
      · clear hk
        go_enter Try.func23, Try.ntmps23
        go_wp2_with fail
        rw [← hwa]
        clear hwa x0 x1
        refine G3.out.mono ?_
        rintro e w1 ⟨g, rfl, hg, b1⟩
        obtain ⟨P1, C1, P2, C2, P3, N3, C3, P4, C4, rfl⟩ := hg.parts
        have HB1 := HBA.out.trans (b1.mono HBA.out.size)
        have HB2 := Lib.hid (HB1.alloc HB1.size (.cells #[.slice P1 ps.length C1, .slice P2 ws.length C2, .slice P3 N3 C3, .slice P4 zs.length C4] 73))
        clear b1 HB1 hg
        go_wp2_with fail
        go_ret2
        exact newInts_emptyG HB2.out (by simp)
      · have hk2 : 24 < kk := by omega
        have hk3 : ¬ kk < 0 := by omega
        clear hk
        go_enter Try.func23, Try.ntmps23
        go_wp2_with fail
        rw [← hwa]
        clear hwa x0 x1
        refine G3.out.mono ?_
        rintro e w1 ⟨g, rfl, hg, b1⟩
        obtain ⟨P1, C1, P2, C2, P3, N3, C3, P4, C4, rfl⟩ := hg.parts
        have HB1 := HBA.out.trans (b1.mono HBA.out.size)
        have HB2 := Lib.hid (HB1.alloc HB1.size (.cells #[.slice P1 ps.length C1, .slice P2 ws.length C2, .slice P3 N3 C3, .slice P4 zs.length C4] 73))
        clear b1 HB1 hg
        go_wp2_with fail
        go_ret2
        exact newInts_emptyG HB2.out (by simp)
end Go.Proofs.Ytfpckfameebdnaa
namespace Go.Proofs.Ytfpckfameebdnaa
open Go.RowKit
set_option linter.unusedVariables false
theorem lt_of_heap {w : World} {g : Nat} {o : Obj} (h : w.heap[g]? = some o) : g < w.heap.size := (Array.getElem?_eq_some_iff.1 h).1
theorem keep_alloc {w : World} {g : Nat} {o o' : Obj} (h : w.heap[g]? = some o) : (w.alloc o').heap[g]? = some o := by
  have := lt_of_heap h
  show (w.heap.push o')[g]? = _
  rw [Array.getElem?_push, if_neg (by omega)]; exact h
theorem keep_below {w w1 : World} {g : Nat} {o : Obj} (b : Below w.heap.size w w1) (h : w.heap[g]? = some o) : w1.heap[g]? = some o := (b.block g (lt_of_heap h)).trans h
theorem keep_cell {w : World} {a : Addr} {v : Value} {o : Obj} (h : w.cell? a = some v) : (w.alloc o).cell? a = some v := by
  rw [World.cell?_alloc_some w a o (by rw [h]; rfl)]; exact h
theorem OwnV.of_heap {w : World} {lo g : Nat} (h : w.heap[g]? = some (.cells #[] 3 (0, 0))) (hlo : lo ≤ g) : OwnV w lo w.heap.size (.slice (some ⟨g, 0, none⟩) 0 0) [] := by
  have hg := lt_of_heap h
  refine ⟨⟨rfl, .inr ⟨g, 0, #[], rfl, hlo, h, by simp, by unfold maxLen; omega, rfl, rfl⟩⟩, ?_, Nat.le_refl _, by intro z hz; cases hz⟩
  intro q hq
  have : g = q := by simpa [Value.ownBlock] using hq
  omega
theorem OwnB.of_heap {w : World} {lo g : Nat} (p : Nat → Bool) (h : w.heap[g]? = some (.cells #[] 4 (0, 0))) (hlo : lo ≤ g) : OwnB w lo w.heap.size (.slice (some ⟨g, 0, none⟩) 0 0) p 0 := by
  have hg := lt_of_heap h
  refine ⟨⟨rfl, .inr ⟨g, 0, #[], rfl, hlo, h, by simp, by unfold maxLen; omega, rfl, rfl⟩⟩, ?_, Nat.le_refl _⟩
  intro q hq
  have : g = q := by simpa [Value.ownBlock] using hq
  omega
/-- What the rows are behind the first statement. -/
structure LooR (w1 : World) (n : Nat) (S : List Int) (gs gn gb : Nat) (wx : World) : Prop where
  su : ∀ j, j < n → wx.cell? ⟨gs, j, none⟩ = some (.int .i64 (S.getD j 0))
  nh : wx.heap[gn]? = some (.cells #[] 3 (0, 0))
  bh : wx.heap[gb]? = some (.cells #[] 4 (0, 0))
  ne : gs ≠ gn ∧ gs ≠ gb ∧ gn ≠ gb
  lo : w1.heap.size ≤ gs ∧ w1.heap.size ≤ gn ∧ w1.heap.size ≤ gb ∧ gs < wx.heap.size
  bel : Below w1.heap.size w1 wx
theorem ne_grownL {w w3 : World} {r : Option Nat} {g : Nat} (hg : w.grownBy w3 r) (hs : g < w.heap.size) (hne : ∀ q, r = some q → q ≠ g) : w3.heap[g]? = w.heap[g]? := hg.block g hs (fun e => hne g e.symm rfl)
set_option maxRecDepth 100000 in
set_option maxHeartbeats 16000000 in
theorem looM (ps ws zs : List Int) (ki : Int) (v u : Value) (w : World) (hn1 : zs.length ≤ 1048576) (h : TreeV w w.heap.size v ps ws) (hu : IntsV w w.heap.size u zs) :
    Calls Try.prog 22 #[v, u, .int .i64 ki] w (NewIntsB (ifLoo ps ws zs ki) (looOk ps ws zs ki) w) := by
  have PC := Lib.hid (fun w' (hb : Below w.heap.size w w') => pays4 ps ws zs v u w' hn1 (h.boxed hb) ((hu.below hb).more hb.size))
  have IN := Lib.hid (fun w' => inS ki 0 24 w')
  have SUS := Lib.hid (fun (pr : Proc ps ws zs) w' (hb : Below w.heap.size w w') => sumsS ps ws v w' pr.good (h.boxed hb))
  have FIS := Lib.hid (fun (pr : Proc ps ws zs) (K : Nat) w' u1 (hb : Below w.heap.size w w') (hq : BoolsV w' w'.heap.size u1 (paidB ps ws zs (capN ps (ownT (sumsT ps ws) zs ps.length) K)) ps.length) => first4S ps ws (paidB ps ws zs (capN ps (ownT (sumsT ps ws) zs ps.length) K)) v u1 w' pr.good (loo_leaf ps ws zs K) (h.boxed hb) hq)
  have KDS := Lib.hid (fun (pr : Proc ps ws zs) (j x : Nat) (hx : x < ps.length) w' u1 (hb : Below w.heap.size w w') (hq : IntsV w' w'.heap.size u1 (capN ps (ownT (sumsT ps ws) zs ps.length) j)) => kids4S ps ws (capN ps (ownT (sumsT ps ws) zs ps.length) j) v u1 x w' pr.good hx (capN_len (ownT_len _ _ _) j) (fun y hy => by have := cap_small pr j hy; omega) (h.boxed hb) hq)
  obtain ⟨v1, v2, rfl, ⟨p1, c1, rfl, l1, m1, _, i1⟩, ⟨p2, c2, rfl, l2, m2, _, i2⟩⟩ := h
  have W2 := Lib.hid i2
  obtain ⟨q, cq, rfl, _, _, _, j1⟩ := hu
  have Q1 := Lib.hid j1
  clear j1 i1 i2 m1 m2 l1 l2
  have B1 := (Below.refl w.heap.size w).alloc (Nat.le_refl _) (.cells #[.slice p1 ps.length c1, .slice p2 ws.length c2] 28)
  have T1 := Lib.hid (show TBox (w.alloc (.cells #[.slice p1 ps.length c1, .slice p2 ws.length c2] 28)) w.heap.size (.slice p1 ps.length c1) (.slice p2 ws.length c2) from alloc_heap w _)
  obtain ⟨x0, x1⟩ := T1.out.cells
  obtain ⟨wa, hwa⟩ : ∃ wa, wa = w.alloc (.cells #[.slice p1 ps.length c1, .slice p2 ws.length c2] 28) := ⟨_, rfl⟩
  rw [← hwa] at B1 T1
  have HBA := Lib.hid B1
  clear B1
  cases hp : procB ps ws zs
  · rw [hp] at PC
    have IS := show ifLoo ps ws zs ki = [] by unfold ifLoo looOk; rw [hp]; rfl
    have IK := show looOk ps ws zs ki = false by unfold looOk; rw [hp]; rfl
    rw [IS, IK]
    clear hp SUS FIS KDS IS IK
    go_enter Try.func22, Try.ntmps22
    go_wp2_with fail
    rw [← hwa]
    clear hwa x0 x1
    refine (PC.out _ HBA.out).mono ?_
    rintro e w1 ⟨rfl, b1⟩
    have HB1 := Lib.hid (HBA.out.trans (b1.mono HBA.out.size))
    clear b1
    go_wp2_with fail
    go_ret2
    exact newInts_empty HB1.out
  · by_cases hk : 0 ≤ ki ∧ ki ≤ 24
    · obtain ⟨K, rfl⟩ : ∃ K : Nat, ki = K := ⟨ki.toNat, by omega⟩
      have hK24 : K ≤ 24 := by omega
      have IS := show ifLoo ps ws zs K = looT ps ws zs K by unfold ifLoo looOk; rw [hp, decide_eq_true hk]; rfl
      have IK := show looOk ps ws zs K = true by unfold looOk; rw [hp, decide_eq_true hk]; rfl
      rw [IS, IK]
      rw [decide_eq_true hk] at IN
      have PR := procB_iff.1 hp
      have SU2 := Lib.hid (SUS.out PR)
      have FI2 := Lib.hid (FIS.out PR K)
      have KD2 := Lib.hid (KDS.out PR)
      have hn24 := PR.good.n24
      have hn0 := PR.good.n1
      have NW := Lib.hid PR.good.nw
      have ZL := Lib.hid PR.len
      have SL : Hid ((sumsT ps ws).length = ps.length) := Lib.hid (sumsT_len PR.good.nw)
      have OS := Lib.hid (fun (x : Nat) (hx : x < ps.length) => own_small PR hx)
      have WB := Lib.hid (fun (x : Nat) (hx : x < ps.length) => PR.good.end_iff hx)
      have WD := Lib.hid (fun (x : Nat) (hx : x < ps.length) => PR.good.w_bd hx)
      have OL := ownT_len (sumsT ps ws) zs ps.length
      have OA := Lib.hid (fun (x : Nat) (hx : x < ps.length) => ownT_at (su := sumsT ps ws) (zs := zs) hx)
      have DB := Lib.hid (fun (j x : Nat) (hx : x < ps.length) => cap_small PR j hx)
      have KB := Lib.hid (fun (j x : Nat) => show -11508480 ≤ kidT ps (capN ps (ownT (sumsT ps ws) zs ps.length) j) x ∧ kidT ps (capN ps (ownT (sumsT ps ws) zs ps.length) j) x ≤ 11508480 from kid_small PR j x (Nat.le_refl ps.length))
      have DL := Lib.hid (fun (j : Nat) => capN_len (ps := ps) OL j)
      have DLF := Lib.hid (fun (j x : Nat) (hx : x < ps.length) (hl : leafB ps x = true) => capN_leaf (own := ownT (sumsT ps ws) zs ps.length) hx hl j)
      have DIN := Lib.hid (fun (j x : Nat) (hx : x < ps.length) (hl : leafB ps x = false) => show (capN ps (ownT (sumsT ps ws) zs ps.length) (j + 1)).getD x 0 = max ((ownT (sumsT ps ws) zs ps.length).getD x 0) (kidT ps (capN ps (ownT (sumsT ps ws) zs ps.length) j) x) from capS_inner hx hl)
      have D0 : Hid (capN ps (ownT (sumsT ps ws) zs ps.length) 0 = ownT (sumsT ps ws) zs ps.length) := Lib.hid rfl
      have PX : Hid (∀ x, x < ps.length → paidB ps ws zs (capN ps (ownT (sumsT ps ws) zs ps.length) K) x = ((capN ps (ownT (sumsT ps ws) zs ps.length) K).getD x 0 == (ownT (sumsT ps ws) zs ps.length).getD x 0)) := Lib.hid (fun x hx => by
        unfold paidB
        rw [OA.out x hx, Bool.eq_iff_iff, decide_eq_true_iff, beq_iff_eq]
        exact ⟨fun h => h.symm, fun h => h.symm⟩)
      change Hid (∀ w' u1, Below w.heap.size w w' → BoolsV w' w'.heap.size u1 (paidB ps ws zs (capN ps (ownT (sumsT ps ws) zs ps.length) K)) ps.length → Calls Try.prog 78 #[.agg #[.slice p1 ps.length c1, .slice p2 ws.length c2], u1] w' (NewInts (looT ps ws zs K) w')) at FI2
      rw [hp] at PC
      clear hp SUS FIS KDS PR IS IK hk
      obtain ⟨R, hR⟩ : ∃ R, R = looT ps ws zs K := ⟨_, rfl⟩
      rw [← hR] at FI2 ⊢
      obtain ⟨Kp, hKp⟩ : ∃ Kp, Kp = paidB ps ws zs (capN ps (ownT (sumsT ps ws) zs ps.length) K) := ⟨_, rfl⟩
      rw [← hKp] at FI2 PX
      obtain ⟨S, hS⟩ : ∃ S, S = sumsT ps ws := ⟨_, rfl⟩
      rw [← hS] at SU2 SL OS OA OL DB KB DL DLF DIN D0 PX KD2
      obtain ⟨O, hO⟩ : ∃ O, O = ownT S zs ps.length := ⟨_, rfl⟩
      rw [← hO] at OA OL DB KB DL DLF DIN D0 PX KD2
      obtain ⟨E, hE⟩ : ∃ E : Nat → Nat → Int, E = fun j x => kidT ps (capN ps O j) x := ⟨_, rfl⟩
      have ED : ∀ j x, kidT ps (capN ps O j) x = E j x := fun j x => by rw [hE]
      simp only [ED] at KB DIN KD2
      obtain ⟨D, hD⟩ : ∃ D : Nat → List Int, D = fun j => capN ps O j := ⟨_, rfl⟩
      have DD : ∀ j, capN ps O j = D j := fun j => by rw [hD]
      simp only [DD] at DB DL DLF DIN D0 PX KD2
      obtain ⟨n, hn⟩ : ∃ n, n = ps.length := ⟨_, rfl⟩
      rw [← hn] at SL T1 hn24 hn0 hwa SU2 FI2 PC x0 ZL OS OA OL DB DL DLF DIN PX KD2 WB WD NW ⊢
      have le1 : zs.length ≤ n := by have := ZL.out; omega
      have le2 : n ≤ zs.length := by have := ZL.out; omega
      have OLH := Lib.hid OL
      have OI64 : Hid (∀ z ∈ O, InI64 z) := Lib.hid (fun z hz => by
        obtain ⟨y, hy, rfl⟩ := List.mem_iff_getElem.1 hz
        have h1 := OA.out y (by omega)
        have h2 := OS.out y (by omega)
        rw [List.getD_eq_getElem?_getD, List.getElem?_eq_getElem hy] at h1
        simp only [Option.getD_some] at h1
        unfold InI64; omega)
      have TK := Lib.hid (fun k (hk : k < n) => show O.take (k + 1) = O.take k ++ [S.getD k 0 * zs.getD k 0] from by
        rw [← OA.out k hk, List.take_succ_eq_append_getElem (by omega), List.getD_eq_getElem?_getD, List.getElem?_eq_getElem (by omega)]; rfl)
      clear hR hKp hS hO hE ED hD DD hn OL
      obtain ⟨i0, hi, hz0, hz1, hz2⟩ := info_parts intInfo
      obtain ⟨j0, hj, hy0, hy1, hy2⟩ := info_parts boolInfo
      go_enter Try.func22, Try.ntmps22
      go_wp2_with fail
      rw [← hwa]
      clear hwa x0 x1
      refine (PC.out _ HBA.out).mono ?_
      rintro e w1 ⟨rfl, b1⟩
      have HB1 := Lib.hid (HBA.out.trans (b1.mono HBA.out.size))
      have HT1 := Lib.hid (T1.out.below b1 T1.out.lt)
      clear b1 T1 HBA PC
      obtain ⟨x0, x1⟩ := HT1.out.cells
      go_wp2_with fail
      refine (IN.out _).mono ?_
      rintro e wz ⟨rfl, rfl⟩
      go_wp2_with fail
      refine (SU2.out w1 HB1.out).mono ?_
      rintro e w9 ⟨u9, rfl, o9, b9⟩
      obtain ⟨gs, cs, rfl, hs1, hs2⟩ := o9.shape (by rw [SL.out]; exact hn0)
      rw [SL.out]
      have z9 := b9.size
      have HT9 := HT1.out.below b9 HT1.out.lt
      obtain ⟨w3, hw3⟩ : ∃ w3, w3 = (w9.alloc (.cells #[] 3)).alloc (.cells #[] 4) := ⟨_, rfl⟩
      have s3 : w3.heap.size = w9.heap.size + 2 := by rw [hw3]; simp
      have R3 : LooR w1 n S gs w9.heap.size (w9.heap.size + 1) w3 := by
        have k2 := alloc_heap (w9.alloc (.cells #[] 3)) (.cells #[] 4)
        rw [show (w9.alloc (.cells #[] 3)).heap.size = w9.heap.size + 1 by simp] at k2
        rw [hw3]
        refine ⟨fun j hj => keep_cell (keep_cell (o9.cellGet (by rw [SL.out]; exact hj))), keep_alloc (alloc_heap w9 _), k2, by omega, ?_, ?_⟩
        · simp; omega
        · exact (b9.alloc b9.size _).alloc (by simp; omega) _
      have T3 := Lib.hid (show TBox w3 w.heap.size (.slice p1 n c1) (.slice p2 ws.length c2) by rw [hw3]; exact (HT9.alloc _).alloc _)
      have B3 := Lib.hid (HB1.out.trans (R3.bel.mono HB1.out.size))
      have S3 := Lib.hid R3.su
      have O3 := Lib.hid (show OwnV w3 w1.heap.size w3.heap.size (.slice (some ⟨w9.heap.size, 0, none⟩) (O.take 0).length 0) (O.take 0) from OwnV.of_heap R3.nh R3.lo.2.1)
      obtain ⟨gn, hgn⟩ : ∃ g, g = w9.heap.size := ⟨_, rfl⟩
      obtain ⟨gb, hgb⟩ : ∃ g, g = w9.heap.size + 1 := ⟨_, rfl⟩
      have H3 := Lib.hid (show w3.heap[gb]? = some (.cells #[] 4 (0, 0)) by rw [hgb]; exact R3.bh)
      have NE : Hid (gs ≠ gn ∧ gn ≠ gb ∧ gs ≠ gb) := Lib.hid (by omega)
      have L3 : Hid (w1.heap.size ≤ w3.heap.size ∧ gs < w3.heap.size ∧ w1.heap.size ≤ gb) := Lib.hid (by omega)
      have W1L : w.heap.size < w1.heap.size := HT1.out.lt
      rw [← hgn] at O3
      have G9 : (w9.alloc (.cells #[] 3)).heap.size = gb := by simp; omega
      clear o9 b9 HT9 R3 SU2 HT1 HB1 x0 x1 IN
      go_wp2_with fail
      rw [← hw3]
      rw [← hgb, ← hgn]
      clear hw3 hgn hgb G9 z9 s3 hs1 hs2
      go_loopg [9, 11] n (fun gg o i wr => ∃ k g c : Nat, k ≤ n ∧ n - k ≤ gg ∧ i = .int .i64 k ∧ o = .slice (some ⟨g, 0, none⟩) (O.take k).length c ∧ Hid (OwnV wr w1.heap.size wr.heap.size (.slice (some ⟨g, 0, none⟩) (O.take k).length c) (O.take k)) ∧ Hid (gs ≠ g ∧ g ≠ gb ∧ gs ≠ gb) ∧ Hid (∀ j, j < n → wr.cell? ⟨gs, j, none⟩ = some (.int .i64 (S.getD j 0))) ∧ Hid (wr.heap[gb]? = some (.cells #[] 4 (0, 0))) ∧ Hid (w1.heap.size ≤ wr.heap.size ∧ gs < wr.heap.size ∧ w1.heap.size ≤ gb) ∧ Hid (TBox wr w.heap.size (.slice p1 n c1) (.slice p2 ws.length c2)) ∧ Hid (Below w.heap.size w wr))
      case atStart => exact ⟨0, gn, 0, Nat.zero_le _, by omega, rfl, rfl, O3, NE, S3, H3, L3, T3, B3⟩
      case round =>
        clear O3 NE S3 H3 L3 T3 B3
        obtain ⟨k, go, co, hk, hgg, rfl, rfl, HO, HQ, HS, HH, HL, HT, HB⟩ := hrel
        obtain ⟨x0, x1⟩ := HT.out.cells
        by_cases hlt : k < n
        · obtain ⟨bz, oz, hqz, hbz, hcz⟩ := Q1.out.get (i := k) (by omega)
          subst hqz
          have hz_k : wr.cell? ⟨bz, oz + k, none⟩ = some (.int .i64 (zs.getD k 0)) := by rw [HB.out.cell (p := ⟨bz, oz + k, none⟩) hbz, hcz]
          have hdk := HS.out k hlt
          have ob := OS.out k hlt
          have E := Lib.hid (TK.out k hlt)
          obtain ⟨dk, hdk2⟩ : ∃ t, t = S.getD k 0 := ⟨_, rfl⟩
          obtain ⟨zk, hzk⟩ : ∃ t, t = zs.getD k 0 := ⟨_, rfl⟩
          rw [← hdk2] at hdk ob E
          rw [← hzk] at hz_k ob E
          have lk : (O.take k).length = k := by rw [List.length_take, OLH.out]; omega
          obtain ⟨L, hL⟩ : ∃ L, L = O.take k := ⟨_, rfl⟩
          rw [← hL] at HO E lk ⊢
          have IX := Lib.hid (show InI64 (dk * zk) by unfold InI64; omega)
          have i0' : (0 : Int) ≤ (k : Int) := by omega
          have i1' : (k : Int) < (n : Int) := by omega
          have i2' : (k : Int) < (zs.length : Int) := by omega
          have le5 : L.length ≤ k := by omega
          have le6 : k ≤ L.length := by omega
          have WE : Hid ((IntKind.i64.wrap (dk * zk)) = dk * zk) := Lib.hid (by rw [IntWalk.i64_in _ (by omega)])
          have hl1 := HL.out
          have hsz := HT.out.lt
          clear ob lk hcz hdk2 hzk hbz hL
          have HOD := Lib.hid ((HO.out.below (below_drew (Below.refl _ _))).wide (Below.size (below_drew (Below.refl wr.heap.size wr))) (Nat.le_refl _))
          have hsd : w1.heap.size ≤ wr.drew.heap.size := hl1.1
          have HOA : Hid ((wr.alloc (.cells #[.int .i64 (IntKind.i64.wrap (dk * zk))] 3)).drew.ownsRow w1.heap.size 3 1 (.slice (some ⟨go, 0, none⟩) L.length co) L.length (L.map (.int .i64))) := Lib.hid (HO.out.row.alloc _)
          have HNA : Hid (∀ j u, [Value.int .i64 (IntKind.i64.wrap (dk * zk))][j]? = some u → (wr.alloc (.cells #[.int .i64 (IntKind.i64.wrap (dk * zk))] 3)).drew.cell? ((⟨wr.heap.size, 0, none⟩ : Addr).add j) = some u) := Lib.hid (cell_one_new wr _ 3)
          go_wp2_with fail
          go_region_law (refine step_append_lies _ rfl _ _ 22 rfl w1.heap.size 3 i0 (.int .i64 0) 1 8 Try.underlying22 hi hz0 hz1 hz2 rfl (by decide) _ L.length (L.map (.int .i64)) rfl HOA.out ⟨wr.heap.size, 0, none⟩ 1 1 [.int .i64 (IntKind.i64.wrap (dk * zk))] rfl rfl HNA.out (fun u hu => by simp at hu; subst hu; rfl) (by omega) (by unfold maxLen; omega) (by omega) (by simp; omega) _ rfl ?_; intro g4 cap4 w4 hown3 hgrow3 hat3 hlt3)
          all_goals
            rw [WE.out] at hown3 hgrow3
            have own3 := Lib.hid (HOD.out.app IX.out hown3)
            have bel3 := Lib.hid ((below_drew (HB.out.alloc HB.out.size _)).grown hgrow3 (by simp; omega) (fun q hq => by have := (HOA.out.lt q hq).1; omega))
            have box3 := Lib.hid (((HT.out.alloc (.cells #[.int .i64 (dk * zk)] 3)).below (below_drew (Below.refl _ _)) (HT.out.alloc (.cells #[.int .i64 (dk * zk)] 3)).lt).grown hgrow3 (fun q hq => (HOA.out.lt q hq).1) (by omega))
            have gbl : gb < wr.heap.size := lt_of_heap HH.out
            have q3 : Hid (gs ≠ g4 ∧ g4 ≠ gb ∧ gs ≠ gb) := Lib.hid (by
              rcases hat3 with h | h
              · have h' : (some go : Option Nat) = some g4 := h
                injection h' with h'; have := HQ.out; omega
              · simp at h; have := HQ.out; omega)
            have hne : ∀ q, (some go : Option Nat) = some q → q ≠ gs ∧ q ≠ gb := fun q hq => by injection hq with hq; have := HQ.out; omega
            have d3 : Hid (∀ j, j < n → w4.cell? ⟨gs, j, none⟩ = some (.int .i64 (S.getD j 0))) := Lib.hid (fun j hj => by
              rw [ne_grownB hgrow3 (by simp; omega) (fun q hq => (hne q hq).1)]
              show (wr.alloc _).cell? _ = _
              rw [World.cell?_alloc_lt _ _ _ (by exact hl1.2.1)]; exact HS.out j hj)
            have h3 : Hid (w4.heap[gb]? = some (.cells #[] 4 (0, 0))) := Lib.hid (by
              rw [ne_grownL hgrow3 (by simp; omega) (fun q hq => (hne q hq).2)]
              exact keep_alloc HH.out)
            have l3 : Hid (w1.heap.size ≤ w4.heap.size ∧ gs < w4.heap.size ∧ w1.heap.size ≤ gb) := Lib.hid (by have := hgrow3.size; simp at this; omega)
            clear hown3 hgrow3 hat3 hlt3 hne
            go_wp2_with fail
            go_roundg (n - (k + 1))
            case rel => exact ⟨k + 1, _, _, by omega, by omega, by go_num, by rw [E.out]; simp; rfl, Lib.hid (by rw [E.out]; simpa using own3.out), q3, d3, h3, l3, box3, bel3⟩
            case measure => omega
        · have hkn : k = n := by omega
          have HOT := HO.out
          rw [List.take_of_length_le (by rw [OLH.out]; omega)] at HOT ⊢
          have OI := HOT.intsV
          have HGO : go < wr.heap.size := HOT.lt go rfl
          have OC := fun j (hj : j < n) => HOT.cellGet (j := j) (by rw [OLH.out]; exact hj)
          have CO := Lib.hid (ownS O _ wr (by rw [OLH.out]; omega) (by rw [OLH.out]; omega) OI)
          obtain ⟨ol, hol⟩ : ∃ ol, ol = O.length := ⟨_, rfl⟩
          have ol1 : ol ≤ n := by rw [hol, OLH.out]; exact Nat.le_refl _
          have ol2 : n ≤ ol := by rw [hol, OLH.out]; exact Nat.le_refl _
          rw [← hol] at CO OI ⊢
          have HOL := Lib.hid hol
          clear hol
          have i2' : ¬ (k : Int) < (zs.length : Int) := by omega
          have gbl : gb < wr.heap.size := lt_of_heap HH.out
          clear HOT HO hkn
          go_wp2_with fail
          refine CO.out.mono ?_
          rintro e w4 ⟨uo, rfl, o4, b4⟩
          obtain ⟨gw, cw, rfl, hw1, hw2⟩ := o4.shape (by rw [OLH.out]; exact hn0)
          have T4 := Lib.hid (HT.out.below b4 HT.out.lt)
          have B4 := Lib.hid (HB.out.trans (b4.mono HB.out.size))
          have H4 : Hid (w4.heap[gb]? = some (.cells #[] 4 (0, 0))) := Lib.hid (keep_below b4 HH.out)
          have I4 : Hid (IntsV w4 w4.heap.size (.slice (some ⟨go, 0, none⟩) ol co) (D 0)) := Lib.hid (by rw [D0.out]; exact (OI.below b4).more b4.size)
          have C4 : Hid (∀ j, j < n → w4.cell? ⟨go, j, none⟩ = some (.int .i64 ((D 0).getD j 0))) := Lib.hid (fun j hj => by rw [D0.out]; exact (b4.cell (p := ⟨go, j, none⟩) HGO).trans (OC j hj))
          have OW4 := Lib.hid o4.intsV
          have OC4 := Lib.hid (fun j (hj : j < n) => o4.cellGet (j := j) (by rw [OLH.out]; exact hj))
          have GW := Lib.hid (show gw < w4.heap.size ∧ gb ≠ gw ∧ gb < w4.heap.size ∧ w1.heap.size ≤ gb ∧ w1.heap.size ≤ w4.heap.size by have := b4.size; have := HL.out; omega)
          have NG : Hid (go ≠ gb ∧ go < w4.heap.size) := Lib.hid (by have := HQ.out; have := b4.size; omega)
          rw [← HOL.out]
          rw [← HOL.out] at OW4
          clear o4 b4 OI OC HQ HS HH HL HT HB CO HGO x0 x1 gbl hw1 hw2
          go_wp2_with fail
          go_loopg [9, 13] K (fun gg o i wq => ∃ j g c : Nat, j ≤ K ∧ K - j ≤ gg ∧ i = .int .i64 j ∧ o = .slice (some ⟨g, 0, none⟩) ol c ∧ Hid (IntsV wq wq.heap.size (.slice (some ⟨g, 0, none⟩) ol c) (D j)) ∧ Hid (∀ y, y < n → wq.cell? ⟨g, y, none⟩ = some (.int .i64 ((D j).getD y 0))) ∧ Hid (g ≠ gb ∧ g < wq.heap.size) ∧ Hid (Below w4.heap.size w4 wq))
          case atStart => exact ⟨0, go, co, Nat.zero_le _, by omega, rfl, rfl, I4, C4, NG, Lib.hid (Below.refl _ _)⟩
          case round =>
            clear I4 C4 NG
            obtain ⟨wq, rfl⟩ : ∃ wq : World, wq = wr := ⟨_, rfl⟩
            obtain ⟨j, gN, cN, hj', hgg2, rfl, rfl, HI, HC, HN, HBq⟩ := hrel
            have HTq := Lib.hid (T4.out.below HBq.out T4.out.lt)
            by_cases hjl : j < K
            · have CO := Lib.hid (ownS O (.slice (some ⟨gw, 0, none⟩) ol cw) wq (by rw [OLH.out]; omega) (by rw [OLH.out]; omega) ((OW4.out.below HBq.out).more HBq.out.size))
              go_wp2_with fail
              refine CO.out.mono ?_
              rintro e w6 ⟨ux, rfl, o6, b6⟩
              obtain ⟨gx, cx, rfl, hx1, hx2⟩ := o6.shape (by rw [OLH.out]; exact hn0)
              have M0 : Hid (midL O (D (j + 1)) n 0 = O) := Lib.hid (midL_zero OLH.out)
              have O6 : Hid (OwnV w6 wq.heap.size w6.heap.size (.slice (some ⟨gx, 0, none⟩) ol cx) (midL O (D (j + 1)) n 0)) := Lib.hid (by rw [M0.out, HOL.out]; exact o6)
              have B6 := Lib.hid b6
              have HX := Lib.hid hx1
              rw [← HOL.out]
              clear o6 b6 hx1 hx2 CO M0
              go_wp2_with fail
              go_loopg [15] n (fun gg i wx => ∃ x : Nat, x ≤ n ∧ n - x ≤ gg ∧ i = .int .i64 x ∧ Hid (OwnV wx wq.heap.size wx.heap.size (.slice (some ⟨gx, 0, none⟩) ol cx) (midL O (D (j + 1)) n x)) ∧ Hid (Below wq.heap.size wq wx))
              case atStart => exact ⟨0, Nat.zero_le _, by omega, rfl, O6, B6⟩
              case round =>
                clear O6 B6
                obtain ⟨wx, rfl⟩ : ∃ wx : World, wx = wr := ⟨_, rfl⟩
                obtain ⟨x, hx, hgg3, rfl, HO, HB⟩ := hrel
                have HTX := Lib.hid (HTq.out.below HB.out HTq.out.lt)
                obtain ⟨x0, x1⟩ := HTX.out.cells
                by_cases hlt2 : x < n
                · have HBW := Lib.hid (HBq.out.trans (HB.out.mono HBq.out.size))
                  have HBV := Lib.hid (B4.out.trans (HBW.out.mono B4.out.size))
                  obtain ⟨b2, o2, hq2, hb2, hc2⟩ := W2.out.get (i := x) (by have := NW.out; omega)
                  subst hq2
                  have hcw : wx.cell? ⟨b2, o2 + x, none⟩ = some (.int .i64 (ws.getD x 0)) := by rw [HBV.out.cell (p := ⟨b2, o2 + x, none⟩) hb2]; exact hc2
                  have wb := WB.out x hlt2
                  have wd := WD.out x hlt2
                  have se := midL_set (A := O) (B := D (j + 1)) hlt2
                  have sm := midL_same (A := O) (B := D (j + 1)) hlt2
                  have i0' : (0 : Int) ≤ (x : Int) := by omega
                  have i1' : (x : Int) < (n : Int) := by omega
                  have i2'' : (x : Int) < (ol : Int) := by omega
                  have i3' : (x : Int) < (ws.length : Int) := by have := NW.out; omega
                  obtain ⟨wk, hwk⟩ : ∃ wk, wk = ws.getD x 0 := ⟨_, rfl⟩
                  rw [← hwk] at hcw wb wd
                  clear hc2 hwk
                  by_cases h1 : wk = 0
                  · subst h1
                    have hl : leafB ps x = false := by
                      cases hl : leafB ps x
                      · rfl
                      · have := wb.2 hl; omega
                    have din := DIN.out j x hlt2 hl
                    have db := DB.out (j + 1) x hlt2
                    have kb := KB.out j x
                    have CK := Lib.hid (fun w' (hb : Hid (Below wx.heap.size wx w')) => KD2.out j x hlt2 w' _ (HBV.out.trans (hb.out.mono HBV.out.size)) ((HI.out.below (HB.out.trans (hb.out.mono HB.out.size))).more (HB.out.trans (hb.out.mono HB.out.size)).size))
                    have cx5 := HO.out.cellGet (j := x) (by rw [midL_len]; exact hlt2)
                    rw [midL_at hlt2, if_neg (by omega)] at cx5
                    have gl1 : gx < wx.heap.size := HO.out.lt gx rfl
                    have hxl := HX.out
                    obtain ⟨od, hod⟩ : ∃ t, t = O.getD x 0 := ⟨_, rfl⟩
                    obtain ⟨kk, hkk⟩ : ∃ t, t = E j x := ⟨_, rfl⟩
                    obtain ⟨nv, hnv⟩ : ∃ t, t = (D (j + 1)).getD x 0 := ⟨_, rfl⟩
                    rw [← hod] at cx5 din
                    rw [← hkk] at din CK kb
                    rw [← hnv] at din se db
                    have HMAX := Lib.hid (show (if kk < od then od else kk) = nv from by rw [din]; omega)
                    have HSE := Lib.hid se
                    have HD0 : Hid (Below wx.heap.size wx wx) := Lib.hid (Below.refl _ _)
                    have HD : Hid (Below wx.heap.size wx wx.drew) := Lib.hid (below_drew (Below.refl _ _))
                    have KX : Hid (∀ w', Hid (Below wx.heap.size wx w') → w'.cell? ⟨w.heap.size, 0, none⟩ = some (.slice p1 n c1) ∧ w'.cell? ⟨w.heap.size, 1, none⟩ = some (.slice (some ⟨b2, o2, none⟩) ws.length c2) ∧ w'.cell? ⟨gx, x, none⟩ = some (.int .i64 od) ∧ w'.frozen? ⟨gx, x, none⟩ = false) := Lib.hid (fun w' hb => ⟨(HTX.out.below hb.out HTX.out.lt).cells.1, (HTX.out.below hb.out HTX.out.lt).cells.2, (hb.out.cell (p := ⟨gx, x, none⟩) gl1).trans cx5, (HO.out.below hb.out).frozenGet x⟩)
                    have FIN : Hid (∀ w', Hid (Below wx.heap.size wx w') → Hid (OwnV (w'.setCell ⟨gx, x, none⟩ (.int .i64 nv)) wq.heap.size (w'.setCell ⟨gx, x, none⟩ (.int .i64 nv)).heap.size (.slice (some ⟨gx, 0, none⟩) ol cx) (midL O (D (j + 1)) n (x + 1))) ∧ Hid (Below wq.heap.size wq (w'.setCell ⟨gx, x, none⟩ (.int .i64 nv)))) := Lib.hid (fun w' hb => by
                      have h1 := ((HO.out.below hb.out).wide hb.out.size (Nat.le_refl _)).setAt x (x := nv) (by unfold InI64; omega)
                      rw [HSE.out] at h1
                      have hs : (w'.setCell ⟨gx, x, none⟩ (.int .i64 nv)).heap.size = w'.heap.size := by simp [World.setCell]
                      rw [hs]
                      exact ⟨Lib.hid h1, Lib.hid ((HB.out.trans (hb.out.mono HB.out.size)).setCell (p := ⟨gx, x, none⟩) hxl _)⟩)
                    clear hod hkk hnv din se sm wb wd db hl
                    obtain ⟨y0, y1, y2, y3⟩ := KX.out wx HD0
                    clear x0 x1
                    go_wp2_with fail
                    go_region_with (first
                      | (go_at_call 77; (with_reducible refine (CK.out _ HD).mono ?_); rintro e w7 ⟨rfl, b7⟩; (have HB7 := hb_nextB HD b7); (obtain ⟨z0, z1, z2, z3⟩ := KX.out w7 HB7); clear b7)
                      | (go_at_call 87; (with_reducible refine (moreC _ _ _).mono ?_); rintro e w8 ⟨rfl, rfl⟩; rw [HMAX.out]))
                    all_goals
                      obtain ⟨F1, F2⟩ := FIN.out _ HB7
                      go_wp2_with fail
                      go_roundg (n - (x + 1))
                      case rel => exact ⟨x + 1, by omega, by omega, by go_num, F1, F2⟩
                      case measure => omega
                  · have hl : leafB ps x = true := wb.1 (by omega)
                    have SM := Lib.hid (sm (by
                      rw [DLF.out (j + 1) x hlt2 hl]))
                    have hw0 : (wk == 0) = false := by simp [h1]
                    clear hl se sm wb wd
                    go_wp2_with fail
                    go_roundg (n - (x + 1))
                    case rel => exact ⟨x + 1, by omega, by omega, by go_num, Lib.hid (by rw [SM.out]; exact HO.out), HB⟩
                    case measure => omega
                · have hxn : x = n := by omega
                  have HO2 := HO.out
                  rw [hxn, midL_all (DL.out (j + 1))] at HO2
                  have HI2 := Lib.hid HO2.intsV
                  have HC2 := Lib.hid (fun y (hy : y < n) => HO2.cellGet (j := y) (by rw [DL.out]; exact hy))
                  have HN2 : Hid (gx ≠ gb ∧ gx < wx.heap.size) := Lib.hid (by have := HX.out; have := GW.out; have := HBq.out.size; have := HO2.lt gx rfl; omega)
                  have HBW := Lib.hid (HBq.out.trans (HB.out.mono HBq.out.size))
                  have i2'' : ¬ (x : Int) < (ol : Int) := by omega
                  clear HO HO2 HB hxn
                  go_wp2_with fail
                  go_roundg (K - (j + 1))
                  case rel => exact ⟨j + 1, _, _, by omega, by omega, by go_num, rfl, HI2, HC2, HN2, HBW⟩
                  case measure => omega
            · obtain rfl : j = K := by omega
              have H5 : wq.heap[gb]? = some (.cells #[] 4 (0, 0)) := (HBq.out.block gb (by have := GW.out; omega)).trans H4.out
              have O5 := Lib.hid (OwnB.of_heap (lo := w1.heap.size) Kp H5 (by have := GW.out; omega))
              have S5 : Hid (∀ y, y < n → wq.cell? ⟨gw, y, none⟩ = some (.int .i64 (O.getD y 0))) := Lib.hid (fun y hy => (HBq.out.cell (p := ⟨gw, y, none⟩) (by have := GW.out; show gw < _; omega)).trans (OC4.out y hy))
              have N5 : Hid (gb ≠ gw ∧ gb ≠ gN) := Lib.hid (by have := GW.out; have := HN.out; omega)
              have G5 : Hid (gw < wq.heap.size ∧ gN < wq.heap.size) := Lib.hid (by have := GW.out; have := HN.out; have := HBq.out.size; omega)
              have B5 := Lib.hid (B4.out.trans (HBq.out.mono B4.out.size))
              have L5 : Hid (w1.heap.size ≤ wq.heap.size) := Lib.hid (by have := GW.out; have := HBq.out.size; omega)
              clear H5 HI HN HBq H4 OW4 OC4 T4 B4
              go_wp2_with fail
              go_loopg [10, 16] n (fun gg o i wr => ∃ k g c : Nat, k ≤ n ∧ n - k ≤ gg ∧ i = .int .i64 k ∧ o = .slice (some ⟨g, 0, none⟩) k c ∧ Hid (OwnB wr w1.heap.size wr.heap.size (.slice (some ⟨g, 0, none⟩) k c) Kp k) ∧ Hid (g ≠ gw ∧ g ≠ gN) ∧ Hid (∀ y, y < n → wr.cell? ⟨gw, y, none⟩ = some (.int .i64 (O.getD y 0))) ∧ Hid (∀ y, y < n → wr.cell? ⟨gN, y, none⟩ = some (.int .i64 ((D j).getD y 0))) ∧ Hid (gw < wr.heap.size ∧ gN < wr.heap.size) ∧ Hid (TBox wr w.heap.size (.slice p1 n c1) (.slice p2 ws.length c2)) ∧ Hid (Below w.heap.size w wr) ∧ Hid (w1.heap.size ≤ wr.heap.size))
              case atStart => exact ⟨0, gb, 0, Nat.zero_le _, by omega, rfl, rfl, O5, N5, S5, HC, G5, HTq, B5, L5⟩
              case round =>
                clear O5 N5 S5 HC G5 HTq B5 L5
                obtain ⟨wy, rfl⟩ : ∃ wy : World, wy = wr := ⟨_, rfl⟩
                obtain ⟨k, go, co, hk, hgg, rfl, rfl, HO, HQ, HS, HP, HG, HT, HB, HL⟩ := hrel
                obtain ⟨x0, x1⟩ := HT.out.cells
                by_cases hlt : k < n
                · have hp := HP.out k hlt
                  have hs := HS.out k hlt
                  have px := PX.out k hlt
                  obtain ⟨pk, hpk⟩ : ∃ z, z = (D j).getD k 0 := ⟨_, rfl⟩
                  obtain ⟨sk, hsk⟩ : ∃ z, z = O.getD k 0 := ⟨_, rfl⟩
                  rw [← hpk] at hp px
                  rw [← hsk] at hs px
                  have WE : Hid ((pk == sk) = Kp k) := Lib.hid px.symm
                  have i0' : (0 : Int) ≤ (k : Int) := by omega
                  have i1' : (k : Int) < (ol : Int) := by omega
                  have hsz := HT.out.lt
                  have hgl := HG.out
                  have hl1 := HL.out
                  have HOD : Hid (OwnB wy.drew w1.heap.size wy.drew.heap.size (.slice (some ⟨go, 0, none⟩) k co) Kp k) := Lib.hid ((HO.out.below (below_drew (Below.refl _ _))).wide (Below.size (below_drew (Below.refl wy.heap.size wy))) (Nat.le_refl _))
                  have hsd : w1.heap.size ≤ wy.drew.heap.size := hl1
                  have HOA : Hid ((wy.alloc (.cells #[.bool (pk == sk)] 4)).drew.ownsRow w1.heap.size 4 1 (.slice (some ⟨go, 0, none⟩) k co) k (bolL Kp k)) := Lib.hid (HO.out.row.alloc _)
                  have HNA : Hid (∀ j u, [Value.bool (pk == sk)][j]? = some u → (wy.alloc (.cells #[.bool (pk == sk)] 4)).drew.cell? ((⟨wy.heap.size, 0, none⟩ : Addr).add j) = some u) := Lib.hid (bool_one_new wy _)
                  clear hpk hsk px
                  go_wp2_with fail
                  go_region_law (refine step_append_lies _ rfl _ _ 69 rfl w1.heap.size 4 j0 (.bool false) 1 1 Try.underlying69 hj hy0 hy1 hy2 rfl (by decide) _ k (bolL Kp k) rfl HOA.out ⟨wy.heap.size, 0, none⟩ 1 1 [.bool (pk == sk)] rfl rfl HNA.out (fun u hu => by simp at hu; subst hu; rfl) (by omega) (by unfold maxLen; omega) (by omega) (by simp; omega) _ rfl ?_; intro g4 cap4 w5 hown3 hgrow3 hat3 hlt3)
                  all_goals
                    rw [WE.out] at hown3 hgrow3
                    have own3 := Lib.hid (HOD.out.app hown3)
                    have bel3 := Lib.hid ((below_drew (HB.out.alloc HB.out.size _)).grown hgrow3 (by simp; omega) (fun q hq => by have := (HOA.out.lt q hq).1; omega))
                    have box3 := Lib.hid (((HT.out.alloc (.cells #[.bool (Kp k)] 4)).below (below_drew (Below.refl _ _)) (HT.out.alloc (.cells #[.bool (Kp k)] 4)).lt).grown hgrow3 (fun q hq => (HOA.out.lt q hq).1) (by omega))
                    have q3 : Hid (g4 ≠ gw ∧ g4 ≠ gN) := Lib.hid (by
                      rcases hat3 with h | h
                      · have h' : (some go : Option Nat) = some g4 := h
                        injection h' with h'; have := HQ.out; omega
                      · simp at h; omega)
                    have hne : ∀ q, (some go : Option Nat) = some q → q ≠ gw ∧ q ≠ gN := fun q hq => by injection hq with hq; have := HQ.out; omega
                    have s3 : Hid (∀ y, y < n → w5.cell? ⟨gw, y, none⟩ = some (.int .i64 (O.getD y 0))) := Lib.hid (fun y hy => by
                      rw [ne_grownB hgrow3 (by simp; omega) (fun q hq => (hne q hq).1)]
                      show (wy.alloc _).cell? _ = _
                      rw [World.cell?_alloc_lt _ _ _ (by exact hgl.1)]; exact HS.out y hy)
                    have p3 : Hid (∀ y, y < n → w5.cell? ⟨gN, y, none⟩ = some (.int .i64 ((D j).getD y 0))) := Lib.hid (fun y hy => by
                      rw [ne_grownB hgrow3 (by simp; omega) (fun q hq => (hne q hq).2)]
                      show (wy.alloc _).cell? _ = _
                      rw [World.cell?_alloc_lt _ _ _ (by exact hgl.2)]; exact HP.out y hy)
                    have g3 : Hid (gw < w5.heap.size ∧ gN < w5.heap.size) := Lib.hid (by have := hgrow3.size; simp at this; omega)
                    have l3 : Hid (w1.heap.size ≤ w5.heap.size) := Lib.hid (by have := hgrow3.size; simp at this; omega)
                    clear hown3 hgrow3 hat3 hlt3 hne
                    go_wp2_with fail
                    go_roundg (n - (k + 1))
                    case rel => exact ⟨k + 1, _, _, by omega, by omega, by go_num, rfl, own3, q3, s3, p3, g3, box3, bel3, l3⟩
                    case measure => omega
                · obtain rfl : k = n := by omega
                  have C := Lib.hid (FI2.out wy _ HB.out HO.out.boolsV)
                  have i1' : ¬ (k : Int) < (ol : Int) := by omega
                  clear HO HQ HS HP HG HL
                  go_wp2_with fail
                  refine C.out.mono ?_
                  rintro e w5 ⟨u5, rfl, o5, b5⟩
                  have FIN := Lib.hid (newInts_back HB.out o5 b5)
                  clear o5 b5
                  go_wp2_with fail
                  go_ret2
                  exact FIN.out
    · have IS := show ifLoo ps ws zs ki = [] by unfold ifLoo looOk; rw [decide_eq_false hk, Bool.and_false]; rfl
      have IK := show looOk ps ws zs ki = false by unfold looOk; rw [decide_eq_false hk, Bool.and_false]
      rw [IS, IK]
      rw [decide_eq_false hk] at IN
      rw [hp] at PC
      clear hp SUS FIS KDS IS IK hk
      go_enter Try.func22, Try.ntmps22
      go_wp2_with fail
      rw [← hwa]
      clear hwa x0 x1
      refine (PC.out _ HBA.out).mono ?_
      rintro e w1 ⟨rfl, b1⟩
      have HB1 := Lib.hid (HBA.out.trans (b1.mono HBA.out.size))
      clear b1
      go_wp2_with fail
      refine (IN.out _).mono ?_
      rintro e wz ⟨rfl, rfl⟩
      go_wp2_with fail
      go_ret2
      exact newInts_empty HB1.out
end Go.Proofs.Ytfpckfameebdnaa
