/- PutO, Bools, FirM in one text. -/
import Derived.Test.YtagljebfbacdhaaPutS
import Derived.Test.YtagljebfbacdhaaRow
import Derived.Test.YtagljebfbacdhaaRulM
import Derived.Test.YtagljebfbacdhaaPickP
import Derived.Deep.LoopGhost
namespace Go.Proofs.Ytagljebfbacdhaa
open Go.RowKit
set_option linter.unusedVariables false
theorem putO (l : List Int) (n : Int) (b cq lo : Nat) (w : World) (hl : l.length ≤ 1000) (hn : InI64 n) (hlo : lo ≤ w.heap.size) (ho : OwnV w lo w.heap.size (.slice (some ⟨b, 0, none⟩) l.length cq) l) :
    Calls Try.prog 76 #[.slice (some ⟨b, 0, none⟩) l.length cq, .int .i64 n] w (fun e w' => ∃ g c, e = .returned (.slice (some ⟨g, 0, none⟩) (putL l n).length c) ∧ OwnV w' lo w'.heap.size (.slice (some ⟨g, 0, none⟩) (putL l n).length c) (putL l n) ∧ Below w.heap.size w w') := by
  refine (putS l n b 0 cq w hl hn ho.intsV).mono ?_
  rintro e w' ⟨b11, ⟨rfl, hsame⟩ | ⟨g, c, rfl, o⟩⟩
  · exact ⟨b, cq, by rw [hsame], by rw [hsame]; exact (ho.below b11).wide b11.size (Nat.le_refl _), b11⟩
  · exact ⟨g, c, rfl, o.low hlo, b11⟩
end Go.Proofs.Ytagljebfbacdhaa
namespace Go.Proofs.Ytagljebfbacdhaa
open Go.RowKit
set_option linter.unusedVariables false
def bolL (p : Nat → Bool) (n : Nat) : List Value := (List.range n).map fun x => Value.bool (p x)
theorem bolL_len (p : Nat → Bool) (n : Nat) : (bolL p n).length = n := by simp [bolL]
theorem bolL_succ (p : Nat → Bool) (n : Nat) : bolL p (n + 1) = bolL p n ++ [Value.bool (p n)] := by unfold bolL; rw [List.range_succ, List.map_append]; rfl
theorem bolL_at (p : Nat → Bool) {n j : Nat} (h : j < n) : (bolL p n)[j]? = some (Value.bool (p j)) := by unfold bolL; rw [List.getElem?_map, List.getElem?_range h]; rfl
theorem boolInfo : (Try.prog.info? 4).map (fun i => (i.zero, i.size, i.bytes)) = some (some (.bool false), 1, 1) := by kernel_rfl
structure OwnB (w : World) (lo hi : Nat) (v : Value) (p : Nat → Bool) (n : Nat) : Prop where
  row : w.ownsRow lo 4 1 v n (bolL p n)
  lt : ∀ q, v.ownBlock = some q → q < hi
  room : hi ≤ w.heap.size
/-- A value that is a slice of these bools. -/
def BoolsV (w : World) (B : Nat) (v : Value) (p : Nat → Bool) (n : Nat) : Prop := ∃ q cap, v = .slice q n cap ∧ ∀ i, i < n → ∃ b off, q = some ⟨b, off, none⟩ ∧ b < B ∧ w.cell? ⟨b, off + i, none⟩ = some (.bool (p i))
theorem OwnB.below {w w' : World} {lo hi n : Nat} {v : Value} {p : Nat → Bool} (h : OwnB w lo hi v p n) (hb : Below hi w w') : OwnB w' lo hi v p n := by
  refine ⟨?_, h.lt, Nat.le_trans h.room hb.size⟩
  refine ⟨h.row.1, ?_⟩
  rcases h.row.2 with hn | ⟨g, cap, cur, h1, hb', hg, rest⟩
  · exact .inl hn
  · refine .inr ⟨g, cap, cur, h1, hb', ?_, rest⟩
    rw [hb.block g (h.lt g (by rw [h1]; simp [Value.ownBlock]))]; exact hg
theorem OwnB.wide {w : World} {lo hi hi' n : Nat} {v : Value} {p : Nat → Bool} (h : OwnB w lo hi v p n) (h2 : hi ≤ hi') (hr : hi' ≤ w.heap.size) : OwnB w lo hi' v p n :=
  ⟨h.row, fun q hq => by have := h.lt q hq; omega, hr⟩
theorem OwnB.boolsV {w : World} {lo hi n : Nat} {v : Value} {p : Nat → Bool} (h : OwnB w lo hi v p n) : BoolsV w hi v p n := by
  rcases h.row.2 with ⟨h1, h2⟩ | ⟨g, cap, cur, h1, hb, hg, hc, hm, _⟩
  · subst h2
    exact ⟨none, 0, h1, fun i hi => by omega⟩
  · subst h1
    refine ⟨_, cap, rfl, fun i hi => ⟨g, 0, rfl, h.lt g (by simp [Value.ownBlock]), ?_⟩⟩
    rw [Nat.zero_add, h.row.cellAt i (by omega), bolL_at p hi]
theorem OwnB.empty (p : Nat → Bool) (w : World) (lo : Nat) (hlo : lo ≤ w.heap.size) : OwnB (w.alloc (.cells #[] 4)) lo (w.alloc (.cells #[] 4)).heap.size (.slice (some ⟨w.heap.size, 0, none⟩) 0 0) p 0 := by
  refine ⟨⟨rfl, .inr ⟨w.heap.size, 0, #[], rfl, hlo, alloc_heap w _, by simp, by unfold maxLen; omega, rfl, rfl⟩⟩, ?_, Nat.le_refl _⟩
  intro q hq
  simp [Value.ownBlock] at hq
  subst hq
  simp
theorem OwnB.app {wr w3 : World} {lo k : Nat} {o v' : Value} {p : Nat → Bool} (h : OwnB wr lo wr.heap.size o p k)
    (hown : w3.ownsRow lo 4 1 v' (k + 1) (bolL p k ++ [.bool (p k)])) : OwnB w3 lo w3.heap.size v' p (k + 1) := by
  refine ⟨?_, fun q hq => (hown.lt q hq).2, Nat.le_refl _⟩
  rw [bolL_succ]; exact hown
theorem BoolsV.below {w w' : World} {B n : Nat} {v : Value} {p : Nat → Bool} (h : BoolsV w B v p n) (hb : Below B w w') : BoolsV w' B v p n := by
  obtain ⟨q, cap, e, h⟩ := h
  refine ⟨q, cap, e, fun i hi => ?_⟩
  obtain ⟨b, off, e2, hB, hc⟩ := h i hi
  exact ⟨b, off, e2, hB, by rw [hb.cell (p := ⟨b, off + i, none⟩) hB]; exact hc⟩
theorem BoolsV.more {w : World} {B B' n : Nat} {v : Value} {p : Nat → Bool} (h : BoolsV w B v p n) (hB : B ≤ B') : BoolsV w B' v p n := by
  obtain ⟨q, cap, e, h⟩ := h
  refine ⟨q, cap, e, fun i hi => ?_⟩
  obtain ⟨b, off, e2, hb, hc⟩ := h i hi
  exact ⟨b, off, e2, by omega, hc⟩
theorem bool_one_new (w : World) (v : Value) : ∀ (j : Nat) (u : Value), [v][j]? = some u → (w.alloc (.cells #[v] 4)).cell? ((⟨w.heap.size, 0, none⟩ : Addr).add j) = some u := by
  intro j u hu
  obtain ⟨hj, hu⟩ := List.getElem?_eq_some_iff.1 hu
  have hj0 : j = 0 := by simpa using hj
  subst hj0
  rw [Addr.add_lit, Nat.zero_add]
  have hh := alloc_heap w (.cells #[v] 4)
  refine (cell_of_heap (o := 0) hh ?_).1
  simpa using hu
end Go.Proofs.Ytagljebfbacdhaa
namespace Go.Proofs.Ytagljebfbacdhaa
open Go.RowKit
set_option linter.unusedVariables false
theorem inL_nodes {p : Nat → Bool} {n x : Nat} (hx : x < n) : inL (nodesW p n) (x : Int) = p x := by
  unfold inL nodesW
  rw [Bool.eq_iff_iff, decide_eq_true_iff, List.mem_map]
  constructor
  · rintro ⟨y, hy, e⟩
    obtain rfl : y = x := by omega
    exact (List.mem_filter.1 hy).2
  · intro h
    exact ⟨x, List.mem_filter.2 ⟨List.mem_range.2 hx, h⟩, rfl⟩
theorem frs_nodes {ps : List Int} (hp : ParOk ps) (p : Nat → Bool) {x : Nat} (hx : x < ps.length) : (frsT ps (nodesW p ps.length)).getD x 0 = (fstT ps p).getD x 0 := fst_congr hp (fun y hy => inL_nodes hy) x hx
set_option maxRecDepth 100000 in
set_option maxHeartbeats 8000000 in
theorem first4S (ps ws : List Int) (p : Nat → Bool) (v u : Value) (w : World) (gd : Good ps ws) (hlf : ∀ x, x < ps.length → leafB ps x = true → p x = true) (h : TreeV w w.heap.size v ps ws) (hu : BoolsV w w.heap.size u p ps.length) :
    Calls Try.prog 69 #[v, u] w (NewInts (fstL ps p) w) := by
  have EN := Lib.hid (fun w' (hb : Below w.heap.size w w') => endsS ps ws v w' (h.boxed hb) gd.n24 (parAll gd))
  have nwl : (nodesW p ps.length).length ≤ ps.length := nodesW_len _ _
  have SA := Lib.hid (fun (x : Nat) (hx : x < ps.length) u1 w' (hb : Below w.heap.size w w') (hv : IntsV w' w'.heap.size u1 (nodesW p ps.length)) => stop4S ps ws (nodesW p ps.length) v u1 x w' gd hx (by have := gd.n24; omega) (h.boxed hb) hv)
  have hn24 := gd.n24
  have hn0 := gd.n1
  have EP := ends_pos gd
  have hel := Nat.le_trans (ends_le ps) hn24
  have EI := Lib.hid (fun i (hi : i < (endsT ps).length) => ends_in hi)
  have FN := Lib.hid (fun (x : Nat) (hx : x < ps.length) => frs_nodes (ParOk.of gd) p hx)
  have FL : ∀ x, x < ps.length → leafB ps x = true → 0 ≤ (fstT ps p).getD x 0 := fun x hx hl => fst_leaf (ParOk.of gd) hx (hlf x hx hl)
  have FLH := Lib.hid FL
  have FB := Lib.hid (fun (x : Nat) (hx : x < ps.length) => fst_bd (ParOk.of gd) p x hx)
  have PA := Lib.hid (fun k (x : Nat) (hk : k < (endsT ps).length) (hx : (x : Int) = (endsT ps).getD k 0) => fstC_at ps p hk hx)
  obtain ⟨C, hC⟩ : ∃ C, C = fstC ps p := ⟨_, rfl⟩
  have CLN : Hid (C.length = (endsT ps).length) := Lib.hid (by rw [hC, fstC_len])
  have PT := Lib.hid (fun (k x : Nat) (hk : k < C.length) (hx : C.getD k 0 = (x : Int)) (h : x < ps.length) => put_take hk hx h)
  have Z0 : Hid (nodesW (fun y => inL (C.take 0) (y : Int)) ps.length = []) := Lib.hid (by
    rw [List.take_zero]
    unfold nodesW
    rw [List.map_eq_nil_iff, List.filter_eq_nil_iff]
    intro y _
    unfold inL; simp)
  have ALL : Hid (∀ k, C.length ≤ k → nodesW (fun y => inL (C.take k) (y : Int)) ps.length = fstL ps p) := Lib.hid (fun k hk => by rw [List.take_of_length_le hk, hC, fst_list gd FL])
  have NL := Lib.hid (fun k => nodesW_len (fun y => inL (C.take k) (y : Int)) ps.length)
  rw [← hC] at PA
  obtain ⟨i0, hi, hz0, hz1, hz2⟩ := info_parts intInfo
  obtain ⟨p1, c1, p2, c2, rfl⟩ := h.shape
  obtain ⟨qb, db, rfl, jb⟩ := hu
  have BQ := Lib.hid jb
  clear h gd hC FL jb hlf
  have T0 := (TBox.alloc (show TBox (w.alloc (.cells #[.slice p1 ps.length c1, .slice p2 ws.length c2] 28)) w.heap.size (.slice p1 ps.length c1) (.slice p2 ws.length c2) from alloc_heap w _) (.cells #[] 3)).alloc (.cells #[] 3)
  have B1 := (((Below.refl w.heap.size w).alloc (Nat.le_refl _) (.cells #[.slice p1 ps.length c1, .slice p2 ws.length c2] 28)).alloc (by simp) (.cells #[] 3)).alloc (by simp; omega) (.cells #[] 3)
  have O1 := OwnV.empty (w.alloc (.cells #[.slice p1 ps.length c1, .slice p2 ws.length c2] 28)) w.heap.size (by simp)
  have O1' := O1.below ((Below.refl ((w.alloc (.cells #[.slice p1 ps.length c1, .slice p2 ws.length c2] 28)).alloc (.cells #[] 3)).heap.size _).alloc (Nat.le_refl _) (.cells #[] 3))
  have O2 := OwnV.empty ((w.alloc (.cells #[.slice p1 ps.length c1, .slice p2 ws.length c2] 28)).alloc (.cells #[] 3)) (w.heap.size + 2) (by simp)
  have z1 : (w.alloc (.cells #[.slice p1 ps.length c1, .slice p2 ws.length c2] 28)).heap.size = w.heap.size + 1 := by simp
  have z2 : ((w.alloc (.cells #[.slice p1 ps.length c1, .slice p2 ws.length c2] 28)).alloc (.cells #[] 3)).heap.size = w.heap.size + 2 := by simp
  rw [z1, z2] at O1'
  rw [z2] at O2
  clear O1
  obtain ⟨wa, hwa⟩ : ∃ wa, wa = ((w.alloc (.cells #[.slice p1 ps.length c1, .slice p2 ws.length c2] 28)).alloc (.cells #[] 3)).alloc (.cells #[] 3) := ⟨_, rfl⟩
  have sz : wa.heap.size = w.heap.size + 3 := by rw [hwa]; simp
  rw [← hwa] at B1 T0 O1' O2
  have T1 := Lib.hid T0
  have HBA := Lib.hid B1
  have P1 := Lib.hid O1'
  have S1 := Lib.hid O2
  have SZ := Lib.hid sz
  clear B1 T0 O1' O2 sz z1 z2
  obtain ⟨x0, x1⟩ := T1.out.cells
  obtain ⟨E, hE⟩ : ∃ E, E = endsT ps := ⟨_, rfl⟩
  rw [← hE] at EN EP hel EI CLN PA
  clear hE
  go_enter Try.func69, Try.ntmps69
  go_wp2_with fail
  rw [← hwa]
  clear hwa
  refine (EN.out _ HBA.out).mono ?_
  rintro e w2 ⟨ue, rfl, o2, b2⟩
  obtain ⟨g, ce, rfl, hg1, hg2⟩ := o2.shape EP
  have HB2 := Lib.hid (HBA.out.trans (b2.mono HBA.out.size))
  have HT2 := Lib.hid (T1.out.below b2 T1.out.lt)
  have HP2 := Lib.hid (P1.out.below (b2.mono (by have := SZ.out; omega)))
  have HS2 := Lib.hid ((S1.out.below b2).wide b2.size (Nat.le_refl _))
  have DC := Lib.hid (fun j (hj : j < E.length) => o2.cellGet (j := j) hj)
  have HG := Lib.hid hg2
  have HG1 := Lib.hid (show w.heap.size + 3 ≤ g from by have := SZ.out; omega)
  have SZ2 := Lib.hid (show w.heap.size + 3 ≤ w2.heap.size from by have := SZ.out; have := b2.size; omega)
  clear b2 o2 x0 x1 hg1 hg2 T1 P1 S1 HBA EN SZ
  go_wp2
  go_loopw [6, 8] (fun o i wr => ∃ k : Nat, k ≤ ps.length ∧ i = .int .i64 k ∧ Hid (OwnV wr (w.heap.size + 2) wr.heap.size o (nodesW p k)) ∧ Hid (Below (w.heap.size + 2) w2 wr) ∧ Hid (∀ q, o.ownBlock = some q → q = w.heap.size + 2 ∨ w2.heap.size ≤ q) ∧ Hid (wr.heap[g]? = w2.heap[g]?)) (fun _ i _ => ps.length - (intOf i).toNat)
  case atStart => exact ⟨0, Nat.zero_le _, rfl, HS2, Lib.hid (Below.refl _ _), Lib.hid (fun q hq => by simp [Value.ownBlock] at hq; omega), Lib.hid rfl⟩
  case round =>
    obtain ⟨k, hk, rfl, HO, HB, HL, HGB⟩ := hrel
    have HBW := Lib.hid (HB2.out.trans (HB.out.mono (by omega)))
    by_cases hlt : k < ps.length
    · obtain ⟨b, off, rfl, hb, hc⟩ := BQ.out k hlt
      have hcw : wr.cell? ⟨b, off + k, none⟩ = some (.bool (p k)) := by rw [HBW.out.cell (p := ⟨b, off + k, none⟩) hb]; exact hc
      have Y := Lib.hid (nodesW_yes (p := p) (n := k))
      have N := Lib.hid (nodesW_no (p := p) (n := k))
      have LL := nodesW_len p k
      have i0' : (0 : Int) ≤ (k : Int) := by omega
      have i1' : (k : Int) < (ps.length : Int) := by omega
      clear hc
      cases hpk : p k
      · have EE := Lib.hid (N.out hpk)
        rw [hpk] at hcw
        clear Y N hpk
        go_wp2_with fail
        go_roundw
        case rel => exact ⟨k + 1, by omega, by go_num, Lib.hid (by rw [EE.out]; exact HO.out), HB, HL, HGB⟩
        case measure => simp [intOf]; omega
      · have EE := Lib.hid (Y.out hpk)
        rw [hpk] at hcw
        clear Y N hpk
        obtain ⟨L, hL⟩ : ∃ L, L = nodesW p k := ⟨_, rfl⟩
        rw [← hL] at HO EE LL
        clear hL
        have hown := HO.out.row
        have hsz := HB.out.size
        have sz2 := SZ2.out
        have hgl := HG.out
        have hgl1 := HG1.out
        go_wp2_with (at_builtin; refine wpList_append_own_at _ rfl _ _ 22 rfl (w.heap.size + 2) 3 i0 (.int .i64 0) 1 8 Try.underlying22 hi hz0 hz1 hz2 rfl (by decide) _ L.length (L.map (.int .i64)) rfl (hown.alloc _) ⟨wr.heap.size, 0, none⟩ 1 1 [.int .i64 k] rfl rfl (cell_one_new _ _ _) (fun x hx => by simp at hx; subst hx; rfl) (by unfold maxLen; omega) (by omega) (by simp; omega) ?_; intro v' w3 hown3 hgrow3 hnil3 hloc3)
        have bel3 := Lib.hid ((HB.out.alloc (by omega) _).grown hgrow3 (by simp; omega) (fun q hq => by have := (hown.lt q hq).1; omega))
        have own3 := Lib.hid (HO.out.app (inI64_nat (k := k) (by omega)) hown3)
        have loc3 : Hid (∀ q, v'.ownBlock = some q → q = w.heap.size + 2 ∨ w2.heap.size ≤ q) := Lib.hid (fun q hq => by
          rcases hloc3 with h | h
          · exact HL.out q (h.symm.trans hq)
          · rw [h] at hq; simp at hq; omega)
        have hgb3 : Hid (w3.heap[g]? = w2.heap[g]?) := Lib.hid (by
          rw [hgrow3.block g (by simp; omega) (fun e => by have := HL.out g e.symm; omega), ← HGB.out]
          show (wr.heap.push _)[g]? = _
          rw [Array.getElem?_push, if_neg (by omega)])
        clear hown hown3 hgrow3 hnil3 hloc3
        go_roundw
        case rel => exact ⟨k + 1, by omega, by go_num, Lib.hid (by rw [EE.out]; exact own3.out), bel3, loc3, hgb3⟩
        case measure => simp [intOf]; omega
    · obtain rfl : k = ps.length := by omega
      have HG3 : Hid (g < wr.heap.size) := Lib.hid (Nat.lt_of_lt_of_le HG.out HB.out.size)
      have DC3 : Hid (∀ j, j < E.length → wr.cell? ⟨g, j, none⟩ = some (.int .i64 (E.getD j 0))) := Lib.hid (fun j hj => by
        have := DC.out j hj
        unfold World.cell? at this ⊢
        rw [HGB.out]; exact this)
      have HT3 := Lib.hid (HT2.out.below HB.out (by omega))
      have HP3 := Lib.hid ((HP2.out.below HB.out).wide (by have := HB.out.size; have := SZ2.out; omega) (Nat.le_refl _))
      obtain ⟨qs, cs, ho, js⟩ := HO.out.intsV
      subst ho
      have HSV := Lib.hid HO.out.intsV
      obtain ⟨w3, hw3⟩ : ∃ w3, w3 = wr := ⟨_, rfl⟩
      rw [← hw3] at HG3 DC3 HT3 HP3 HSV HBW ⊢
      obtain ⟨nl, hnl⟩ : ∃ nl, nl = (nodesW p ps.length).length := ⟨_, rfl⟩
      rw [← hnl] at HSV ⊢
      clear HO HB HL HGB js hw3 hnl HP2 HT2 HS2 DC HB2 BQ
      go_wp2_with fail
      go_loopg [5, 9] E.length (fun gg o i wq => ∃ k : Nat, k ≤ E.length ∧ E.length - k ≤ gg ∧ i = .int .i64 k ∧ (∃ go co, o = .slice (some ⟨go, 0, none⟩) (nodesW (fun y => inL (C.take k) (y : Int)) ps.length).length co) ∧ Hid (OwnV wq w.heap.size wq.heap.size o (nodesW (fun y => inL (C.take k) (y : Int)) ps.length)) ∧ Hid (Below w3.heap.size w3 wq))
      case atStart => exact ⟨0, Nat.zero_le _, by omega, rfl, ⟨_, _, by rw [Z0.out]; rfl⟩, Lib.hid (by rw [Z0.out]; exact HP3.out), Lib.hid (Below.refl _ _)⟩
      case round =>
        obtain ⟨k, hk, hgg, rfl, ⟨go, co, rfl⟩, HO, HB⟩ := hrel
        have HBX := Lib.hid (HBW.out.trans (HB.out.mono HBW.out.size))
        have HT := Lib.hid (HT3.out.below HB.out HT3.out.lt)
        by_cases hlt : k < E.length
        · obtain ⟨x, hx, hxl, hxf⟩ := EI.out k hlt
          have hce := (HB.out.cell (p := ⟨g, k, none⟩) HG3.out).trans (DC3.out k hlt)
          rw [← hx] at hce
          have pa := PA.out k x hlt hx
          have fl := FLH.out x hxl hxf
          have fb := FB.out x hxl
          obtain ⟨y, hy⟩ : ∃ y : Nat, (fstT ps p).getD x 0 = (y : Int) := ⟨((fstT ps p).getD x 0).toNat, by omega⟩
          have hyl : y < ps.length := by omega
          rw [hy] at pa
          have PUT := Lib.hid (PT.out k y (by have := CLN.out; omega) pa hyl)
          have hgw : g < wr.heap.size := Nat.lt_of_lt_of_le HG3.out HB.out.size
          have CA : Hid (∀ w', Hid (Below wr.heap.size wr w') → Calls Try.prog 78 #[.agg #[.slice p1 ps.length c1, .slice p2 ws.length c2], .slice qs nl cs, .int .i64 (x : Int)] w' (Gives (.int .i64 (y : Int)) w')) := Lib.hid (fun w' hb => by rw [← hy, ← FN.out x hxl]; exact SA.out x hxl _ w' (hb_full HBX hb) ((HSV.out.below (HB.out.trans (hb.out.mono HB.out.size))).more (Nat.le_trans HB.out.size hb.out.size)))
          have KC : Hid (∀ w', Hid (Below wr.heap.size wr w') → w'.cell? ⟨w.heap.size, 0, none⟩ = some (.slice p1 ps.length c1) ∧ w'.cell? ⟨w.heap.size, 1, none⟩ = some (.slice p2 ws.length c2) ∧ w'.cell? ⟨g, k, none⟩ = some (.int .i64 (x : Int))) := Lib.hid (fun w' hb => ⟨(HT.out.below hb.out HT.out.lt).cells.1, (HT.out.below hb.out HT.out.lt).cells.2, (hb.out.cell (p := ⟨g, k, none⟩) hgw).trans hce⟩)
          have HD : Hid (Below wr.heap.size wr wr.drew) := Lib.hid (below_drew (Below.refl _ _))
          obtain ⟨x0, x1⟩ := HT.out.cells
          have i3 : (0 : Int) ≤ (k : Int) := by omega
          have i4 : (k : Int) < (E.length : Int) := by omega
          have LLE : (nodesW (fun y => inL (C.take k) (y : Int)) ps.length).length ≤ 24 := Nat.le_trans (NL.out k) hn24
          have IY : InI64 (y : Int) := inI64_nat (by omega)
          obtain ⟨LL, hLL⟩ : ∃ LL, LL = nodesW (fun y => inL (C.take k) (y : Int)) ps.length := ⟨_, rfl⟩
          rw [← hLL] at HO PUT LLE
          have CP : Hid (∀ w', Hid (Below wr.heap.size wr w') → Calls Try.prog 76 #[.slice (some ⟨go, 0, none⟩) LL.length co, .int .i64 (y : Int)] w' (fun e w'' => ∃ g3 c3, e = .returned (.slice (some ⟨g3, 0, none⟩) (nodesW (fun y => inL (C.take (k + 1)) (y : Int)) ps.length).length c3) ∧ OwnV w'' w.heap.size w''.heap.size (.slice (some ⟨g3, 0, none⟩) (nodesW (fun y => inL (C.take (k + 1)) (y : Int)) ps.length).length c3) (nodesW (fun y => inL (C.take (k + 1)) (y : Int)) ps.length) ∧ Below w'.heap.size w' w'')) := Lib.hid (fun w' hb => by
            rw [← PUT.out]
            exact putO LL (y : Int) go co w.heap.size w' (by omega) IY (hb_full HBX hb).size ((HO.out.below hb.out).wide hb.out.size (Nat.le_refl _)))
          obtain ⟨L2, hL2⟩ : ∃ L2, L2 = nodesW (fun y => inL (C.take (k + 1)) (y : Int)) ps.length := ⟨_, rfl⟩
          rw [← hL2] at CP
          rw [← hLL]
          clear hx hce pa hy hLL PUT fl fb
          go_wp2_with fail
          go_region_held3 (fun w' => w'.cell? ⟨w.heap.size, 0, none⟩ = some (.slice p1 ps.length c1) ∧ w'.cell? ⟨w.heap.size, 1, none⟩ = some (.slice p2 ws.length c2) ∧ w'.cell? ⟨g, k, none⟩ = some (.int .i64 (x : Int)))
            (first | with_reducible exact KC.out _ HB8 | with_reducible exact KC.out _ HB7 | with_reducible exact KC.out _ HD | go_keep)
            (first
              | (go_at_call 78; (with_reducible refine (CA.out _ HD).mono ?_); rintro e w7 ⟨rfl, b7⟩; (have HB7 := hb_next (wa := wr) HD b7); clear b7)
              | (go_at_call 76; (with_reducible refine (CP.out _ HB7).mono ?_); rintro e w8 ⟨g3, c3, rfl, o8, b8⟩; (have HB8 := hb_next (wa := wr) HB7 b8); (have HO8 := Lib.hid o8); clear o8 b8))
          all_goals
            have HBY := Lib.hid (HB.out.trans (HB8.out.mono HB.out.size))
            go_wp2_with fail
            go_roundg (E.length - (k + 1))
            case rel => exact ⟨k + 1, by omega, by omega, by go_num, ⟨_, _, by rw [← hL2]⟩, Lib.hid (by rw [← hL2]; exact HO8.out), HBY⟩
            case measure => omega
        · have FIN : Hid (NewInts (fstL ps p) w (.returned (.slice (some ⟨go, 0, none⟩) (nodesW (fun y => inL (C.take k) (y : Int)) ps.length).length co)) wr) := Lib.hid ⟨_, rfl, by have h := HO.out; rwa [ALL.out k (by have := CLN.out; omega)] at h ⊢, HBX.out⟩
          go_wp2
          go_ret
          exact FIN.out
end Go.Proofs.Ytagljebfbacdhaa
