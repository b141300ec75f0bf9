/- Pays of ends, in the program. -/
import Derived.Test.YtagljebfbacdhabEndsL
import Derived.Test.YtagljebfbacdhabMaps
import Derived.Test.YtagljebfbacdhabLawT
import Derived.Test.YtagljebfbacdhabDepthI
namespace Go.Proofs.Ytagljebfbacdhab
open Go.RowKit
set_option linter.unusedVariables false
theorem ne_grownP {w w3 : World} {r : Option Nat} {g : Nat} (hg : w.grownBy w3 r) (hs : g < w.heap.size) (hne : ∀ q, r = some q → q ≠ g) (o : Nat) : w3.cell? ⟨g, o, none⟩ = w.cell? ⟨g, o, none⟩ := by
  have h := hg.block g hs (fun e => hne g e.symm rfl)
  unfold World.cell?
  rw [h]
def payOk (z : Int) : Bool := decide (-999 ≤ z ∧ z ≤ 999)
/-- Pays of a valid tree. -/
def payB (ps ws vs : List Int) : Bool := goodT ps ws && (decide (vs.length = (endsT ps).length) && vs.all payOk)
structure Pay (ps ws vs : List Int) : Prop where
  good : Good ps ws
  len : vs.length = (endsT ps).length
  bd : ∀ i, i < vs.length → -999 ≤ vs.getD i 0 ∧ vs.getD i 0 ≤ 999
theorem payB_iff {ps ws vs : List Int} : payB ps ws vs = true ↔ Pay ps ws vs := by
  unfold payB
  rw [Bool.and_eq_true, Bool.and_eq_true, decide_eq_true_iff, List.all_eq_true]
  constructor
  · rintro ⟨a, b, c⟩
    refine ⟨Good.of a, b, fun i hi => ?_⟩
    have := c (vs.getD i 0) (by rw [List.getD_eq_getElem?_getD, List.getElem?_eq_getElem hi]; exact List.getElem_mem hi)
    exact of_decide_eq_true this
  · intro p
    refine ⟨(goodT_iff _ _).2 p.good, p.len, fun z hz => ?_⟩
    obtain ⟨i, hi, rfl⟩ := mem_getD hz
    exact decide_eq_true (p.bd i hi)
theorem payB_no {ps ws vs : List Int} {i : Nat} (hi : i < vs.length) (h : payOk (vs.getD i 0) = false) : payB ps ws vs = false := by
  cases hb : payB ps ws vs
  · rfl
  · have := decide_eq_true ((payB_iff.1 hb).bd i hi)
    unfold payOk at h
    rw [this] at h; cases h
/-- The pay of each end. -/
def pairF (es vs : List Int) : Nat → Int → Option Int
  | 0 => fun _ => none
  | k + 1 => putF (pairF es vs k) (es.getD k 0) (some (vs.getD k 0))
theorem pairF_at {es vs : List Int} (hs : es.Pairwise (· < ·)) : ∀ k, k ≤ es.length → ∀ j, j < k → pairF es vs k (es.getD j 0) = some (vs.getD j 0) := by
  intro k
  induction k with
  | zero => intro _ j hj; omega
  | succ k ih =>
    intro hk j hj
    rw [pairF]
    unfold putF
    by_cases h : j = k
    · subst h; rw [if_pos rfl]
    · have hlt : es.getD j 0 < es.getD k 0 := by
        have := List.pairwise_iff_getElem.1 hs j k (by omega) (by omega) (by omega)
        rwa [List.getD_eq_getElem?_getD, List.getD_eq_getElem?_getD, List.getElem?_eq_getElem (by omega : j < es.length), List.getElem?_eq_getElem (by omega : k < es.length)]
      rw [if_neg (by omega)]
      exact ih (by omega) j (by omega)
theorem isPayI (z : Int) (w : World) : Calls Try.prog 186 #[.int .i64 z] w fun e w' => e = .returned (.bool (payOk z)) ∧ w = w' := by
  have D : Hid (payOk z = decide (-999 ≤ z ∧ z ≤ 999)) := Lib.hid rfl
  by_cases h1 : -999 ≤ z
  · by_cases h2 : z ≤ 999
    · rw [D.out, decide_eq_true ⟨h1, h2⟩]
      go_enter Try.func186, Try.ntmps186
      go_wp2
      go_ret
      exact ⟨rfl, rfl⟩
    · rw [D.out, decide_eq_false (fun h => h2 h.2)]
      go_enter Try.func186, Try.ntmps186
      go_wp2
      go_ret
      exact ⟨rfl, rfl⟩
  · rw [D.out, decide_eq_false (fun h => h1 h.1)]
    go_enter Try.func186, Try.ntmps186
    go_wp2
    go_ret
    exact ⟨rfl, rfl⟩
/-- What paysByEnd returns. -/
def NewPays (ps ws vs : List Int) (w : World) (e : Ending) (w' : World) : Prop :=
  Below w.heap.size w w' ∧ ((payB ps ws vs = true ∧ ∃ b n, e = .returned (.tuple #[.map (some b), .bool true]) ∧ w.heap.size ≤ b ∧ MapI w' b n (pairF (endsT ps) vs (endsT ps).length)) ∨ (payB ps ws vs = false ∧ e = .returned (.tuple #[.map none, .bool false])))
set_option maxRecDepth 100000 in
set_option maxHeartbeats 4000000 in
theorem paysI (ps ws vs : List Int) (v u : Value) (w : World) (hl9 : vs.length ≤ 1048576) (h : TreeV w w.heap.size v ps ws) (hu : IntsV w w.heap.size u vs) :
    Calls Try.prog 145 #[v, u] w (NewPays ps ws vs w) := by
  have EN := Lib.hid (fun w' (hb : Below w.heap.size w w') => endsI ps ws v w' (h.boxed hb))
  obtain ⟨p1, c1, p2, c2, rfl⟩ := h.shape
  clear h
  obtain ⟨q, cq, rfl, lq, mq, zq, iq⟩ := hu
  have E1 := Lib.hid iq
  have Z1 := Lib.hid zq
  clear iq zq mq
  have B1 := (Below.refl w.heap.size w).alloc (Nat.le_refl _) (.cells #[.slice p1 ps.length c1, .slice p2 ws.length c2] 28)
  have T1 := Lib.hid (show TBox (w.alloc (.cells #[.slice p1 ps.length c1, .slice p2 ws.length c2] 28)) w.heap.size (.slice p1 ps.length c1) (.slice p2 ws.length c2) from alloc_heap w _)
  obtain ⟨wa, hwa⟩ : ∃ wa, wa = w.alloc (.cells #[.slice p1 ps.length c1, .slice p2 ws.length c2] 28) := ⟨_, rfl⟩
  rw [← hwa] at B1 T1
  have HBA := Lib.hid B1
  clear B1
  obtain ⟨x0, x1⟩ := T1.out.cells
  cases hg : goodT ps ws
  · have IE : ifGood ps ws (endsT ps) = [] := by unfold ifGood; rw [hg]; rfl
    rw [hg, IE] at EN
    have R : Hid (payB ps ws vs = false) := Lib.hid (by unfold payB; rw [hg]; rfl)
    clear hg IE
    go_enter Try.func145, Try.ntmps145
    go_wp2_with fail
    rw [← hwa]
    clear hwa
    refine (EN.out _ HBA.out).mono ?_
    rintro e w1 ⟨ue, rfl, o1, b1⟩
    have HB1 := Lib.hid (HBA.out.trans (b1.mono HBA.out.size))
    clear b1 x0 x1 o1
    go_wp2_with fail
    go_ret2
    exact ⟨HB1.out, .inr ⟨R.out, rfl⟩⟩
  · have IE : ifGood ps ws (endsT ps) = endsT ps := by unfold ifGood; rw [hg]; rfl
    rw [hg, IE] at EN
    have gd := Good.of hg
    have hn24 := gd.n24
    have hel := Nat.le_trans (ends_le ps) hn24
    have EP := ends_pos gd
    have EI := Lib.hid (fun i (hi : i < (endsT ps).length) => ends_in hi)
    have PB : Hid (payB ps ws vs = (decide (vs.length = (endsT ps).length) && vs.all payOk)) := Lib.hid (by unfold payB; rw [hg]; rfl)
    have RES : Hid (∀ (w' : World) (b n : Nat), Below w.heap.size w w' → payB ps ws vs = true → w.heap.size ≤ b → MapI w' b n (pairF (endsT ps) vs (endsT ps).length) → NewPays ps ws vs w (.returned (.tuple #[.map (some b), .bool true])) w') := Lib.hid (fun w' b n hb hp h1 hm => ⟨hb, .inl ⟨hp, b, n, rfl, h1, hm⟩⟩)
    obtain ⟨E, hE⟩ : ∃ E, E = endsT ps := ⟨_, rfl⟩
    rw [← hE] at EN hel EI EP PB RES
    clear hE IE hg gd
    go_enter Try.func145, Try.ntmps145
    go_wp2_with fail
    rw [← hwa]
    clear hwa
    refine (EN.out _ HBA.out).mono ?_
    rintro e w1 ⟨ue, rfl, o1, b1⟩
    obtain ⟨g, ce, rfl, hg1, hg2⟩ := o1.shape EP
    have HB1 := Lib.hid (HBA.out.trans (b1.mono HBA.out.size))
    have DC := Lib.hid (fun j (hj : j < E.length) => o1.cellGet hj)
    have G2 := Lib.hid hg2
    clear b1 x0 x1 o1 hg1 hg2 EN
    by_cases hlen : vs.length = E.length
    · have L1 := Lib.hid hlen
      rw [hlen]
      have HB2 := Lib.hid (HB1.out.alloc HB1.out.size (.map #[] 0))
      have HM2 := Lib.hid (MapI.made w1)
      have D2 : Hid (∀ j, j < E.length → (w1.alloc (.map #[] 0)).cell? ⟨g, j, none⟩ = some (.int .i64 (E.getD j 0))) := Lib.hid (fun j hj => by rw [World.cell?_alloc_lt _ _ _ (by exact G2.out)]; exact DC.out j hj)
      obtain ⟨M, hM⟩ : ∃ M, M = w1.heap.size := ⟨_, rfl⟩
      have MW : Hid (w.heap.size ≤ M) := Lib.hid (by rw [hM]; exact HB1.out.size)
      have MG : Hid (g < M) := Lib.hid (by rw [hM]; exact G2.out)
      obtain ⟨wb, hwb⟩ : ∃ wb, wb = w1.alloc (.map #[] 0) := ⟨_, rfl⟩
      rw [← hwb] at HB2 HM2 D2
      rw [← hM] at HM2
      clear HB1 DC G2 hlen
      have hmm := @run_makeMap Try.prog
      go_wp2
      rw [← hwb, ← hM]
      clear hwb hM
      go_loopw [28] (fun i wr => ∃ k : Nat, k ≤ E.length ∧ i = .int .i64 k ∧ Hid (MapI wr M k (pairF E vs k)) ∧ Hid (∀ j, j < E.length → wr.cell? ⟨g, j, none⟩ = some (.int .i64 (E.getD j 0))) ∧ Hid (Below w.heap.size w wr) ∧ Hid (∀ j, j < k → payOk (vs.getD j 0) = true)) (fun i _ => E.length - (intOf i).toNat)
      case atStart => exact ⟨0, Nat.zero_le _, rfl, HM2, D2, HB2, Lib.hid (fun j hj => by omega)⟩
      case round =>
        obtain ⟨k, hk, rfl, HM, HD, HB, HA⟩ := hrel
        clear HM2 D2 HB2
        by_cases hlt : k < E.length
        · have hce := HD.out k hlt
          have hltv : k < vs.length := by have := L1.out; omega
          obtain ⟨b, off, rfl, hb, hc⟩ := E1.out.get hltv
          have hcw : wr.cell? ⟨b, off + k, none⟩ = some (.int .i64 (vs.getD k 0)) := by rw [HB.out.cell (p := ⟨b, off + k, none⟩) hb]; exact hc
          obtain ⟨xn, hxn, hxl, _⟩ := EI.out k hlt
          have i0 : (0 : Int) ≤ (k : Int) := by omega
          have i1 : (k : Int) < (E.length : Int) := by omega
          have FA := Lib.hid (payB_no (ps := ps) (ws := ws) hltv)
          have NX : Hid (payOk (vs.getD k 0) = true → ∀ j, j < k + 1 → payOk (vs.getD j 0) = true) := Lib.hid (fun h j hj => by
            rcases Nat.lt_or_ge j k with h' | h'
            · exact HA.out j h'
            · obtain rfl : j = k := by omega
              exact h)
          have PF : Hid (putF (pairF E vs k) (E.getD k 0) (some (vs.getD k 0)) = pairF E vs (k + 1)) := Lib.hid rfl
          have HZ := Lib.hid (show InI64 (vs.getD k 0) from Z1.out _ (by rw [List.getD_eq_getElem?_getD, List.getElem?_eq_getElem hltv]; exact List.getElem_mem hltv))
          obtain ⟨z, hz⟩ : ∃ z, z = vs.getD k 0 := ⟨_, rfl⟩
          rw [← hz] at hcw FA NX PF HZ
          rw [← hxn] at hce PF
          have C := Lib.hid (isPayI z wr)
          clear hc hz hxn HA
          obtain ⟨t, ht⟩ : ∃ t, t = payOk z := ⟨_, rfl⟩
          rw [← ht] at C FA NX
          clear ht
          cases t
          · have R := Lib.hid (FA.out rfl)
            clear FA NX PF
            go_wp2_with fail
            refine C.out.mono ?_
            rintro e w2 ⟨rfl, rfl⟩
            go_wp2
            go_ret2
            exact ⟨HB.out, .inr ⟨R.out, rfl⟩⟩
          · have N2 := Lib.hid (NX.out rfl)
            clear FA NX
            go_wp2_with fail
            refine C.out.mono ?_
            rintro e w2 ⟨rfl, rfl⟩
            go_wp2_with (at_mapUpdate; refine mapI_put _ rfl _ _ _ _ rfl Try.underlying85 M k _ rfl HM.out (by unfold maxLen; omega) (xn : Int) z rfl rfl (inI64_nat (by omega)) HZ.out ?_; intro w3 h3 g3)
            have A1 : Hid (MapI w3 M (k + 1) (pairF E vs (k + 1))) := Lib.hid (by rw [← PF.out]; exact h3)
            have A2 : Hid (∀ j, j < E.length → w3.cell? ⟨g, j, none⟩ = some (.int .i64 (E.getD j 0))) := Lib.hid (fun j hj => by
              rw [ne_grownP g3 (by have := HM.out.lt; have := MG.out; omega) (fun q hq => by injection hq; have := MG.out; omega)]; exact HD.out j hj)
            have A3 := Lib.hid (HB.out.grown g3 HB.out.size (fun q hq => by injection hq; have := MW.out; omega))
            clear h3 g3
            go_roundw
            case rel => exact ⟨k + 1, by omega, by go_num, A1, A2, A3, N2⟩
            case measure => simp [intOf]; omega
        · have hk2 : k = E.length := by omega
          have FIN : Hid (NewPays ps ws vs w (.returned (.tuple #[.map (some M), .bool true])) wr) := Lib.hid (RES.out wr M k HB.out (by
            rw [PB.out, decide_eq_true L1.out, Bool.true_and, List.all_eq_true]
            intro z hz
            obtain ⟨i, hi, rfl⟩ := mem_getD hz
            exact HA.out i (by have := L1.out; omega)) MW.out (by have h := HM.out; rwa [hk2] at h ⊢))
          clear HA HM hk2
          go_wp2
          go_ret2
          exact FIN.out
    · have R : Hid (payB ps ws vs = false) := Lib.hid (by rw [PB.out, decide_eq_false hlen]; rfl)
      have nb : ((vs.length : Int) != (E.length : Int)) = true := by rw [bne_iff_ne]; omega
      clear hlen
      go_wp2_with fail
      go_ret2
      exact ⟨HB1.out, .inr ⟨R.out, rfl⟩⟩
end Go.Proofs.Ytagljebfbacdhab
