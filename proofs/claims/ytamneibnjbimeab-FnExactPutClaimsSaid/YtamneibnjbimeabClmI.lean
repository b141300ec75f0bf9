/- Claims that are made of the prices of ends, in the program. -/
import Derived.Test.YtamneibnjbimeabMktI
import Derived.Test.YtamneibnjbimeabVBox
import Derived.Test.YtamneibnjbimeabAtI
import Derived.Test.YtamneibnjbimeabWthP
namespace Go.Proofs.Ytamneibnjbimeab
open Go.RowKit
set_option linter.unusedVariables false
/-- What is asked of a function of prices that is handed over. -/
def ClaimF (g : Nat) (lb : Array Value) (f : Int → Int) (w : World) : Prop :=
  ∀ (W : World) (z : Int), 0 ≤ z → z ≤ 20 → Below w.heap.size w W → Calls Try.prog g (#[.int .i64 z] ++ lb) W fun e w' => e = .returned (.int .i64 (f z)) ∧ Below W.heap.size W w'
def strikeB (s : Int) : Bool := decide (0 ≤ s ∧ s ≤ 20)
def ifC (ps ws cs : List Int) (s : Int) (L : List Int) : List Int := if (goodM ps ws cs && strikeB s) = true then L else []
theorem ifC_len (ps ws cs : List Int) (s : Int) (f : Int → Int) : (ifC ps ws cs s (endP ps cs f)).length ≤ 1048576 := by
  unfold ifC
  split
  · rename_i h
    rw [Bool.and_eq_true] at h
    unfold endP
    rw [List.length_map]
    have := (goodM_iff.1 h.1).good.n24
    have := ends_le ps
    omega
  · simp
set_option maxRecDepth 100000 in
set_option maxHeartbeats 2000000 in
theorem claimPred (ps ws cs : List Int) (f : Int → Int) (p1 p2 p3 : Option Addr) (c1 c2 c3 : Nat) (g : Nat) (lb : Array Value) (W0 : World) (A C : Nat) (eg : ∀ args w, (callFunc g args).run Try.prog w = .ok (.enter g args) w) (mk : Mkt ps ws cs)
    (kb : KBox W0 A (.slice p1 ps.length c1) (.slice p2 ws.length c2) (.slice p3 cs.length c3)) (vb : VBox W0 C (.func (.func g) #[] lb) 74) (hu : IntsV W0 W0.heap.size (.slice p3 cs.length c3) cs) (hf : ClaimF g lb f W0) :
    EndI 101 #[.pointer (some ⟨C, 0, none⟩), .pointer (some ⟨A, 0, none⟩)] (endsT ps) (fun z => f (cs.getD z.toNat 0)) W0 := by
  intro W z hz hb
  obtain ⟨x, rfl, hx, _⟩ := nodesW_mem (p := leafB ps) (n := ps.length) hz
  have hx2 : x < cs.length := by have := mk.len; omega
  have hsz := hb.size
  have bd := mk.bd x hx2
  have KB := Lib.hid (kb.below hb kb.lt)
  have VB := Lib.hid (vb.below hb vb.lt)
  obtain ⟨_, _, e, _, _, _, i3⟩ := hu
  injection e with e e2 e3
  subst e
  subst e3
  obtain ⟨b, off, rfl, hbb, hc⟩ := IntsAt.get i3 hx2
  have HC : Hid (W.cell? ⟨b, off + x, none⟩ = some (.int .i64 (cs.getD x 0))) := Lib.hid (by
    rw [hb.cell (p := ⟨b, off + x, none⟩) hbb]; exact hc)
  have CF := Lib.hid (fun w1 (h1 : Below W.heap.size W w1) => hf w1 (cs.getD x 0) bd.1 bd.2 (hb.trans (h1.mono hb.size)))
  have i0 : (0 : Int) ≤ (x : Int) := by omega
  have i1 : (x : Int) < (cs.length : Int) := by omega
  dsimp only
  rw [Int.toNat_natCast]
  clear kb vb i3 e2 hc hb hf mk hz
  obtain ⟨z, hz⟩ : ∃ z, z = cs.getD x 0 := ⟨_, rfl⟩
  rw [← hz] at HC CF ⊢
  clear hz bd
  obtain ⟨y, hy⟩ : ∃ y, y = f z := ⟨_, rfl⟩
  rw [← hy] at CF ⊢
  clear hy
  have K8 : Hid (∀ w', Below W.heap.size W w' → w'.cell? ⟨A, 2, none⟩ = some (.slice (some ⟨b, off, none⟩) cs.length c3) ∧ w'.cell? ⟨C, 0, none⟩ = some (.func (.func g) #[] lb) ∧ w'.cell? ⟨b, off + x, none⟩ = some (.int .i64 z) ∧ Below W.heap.size W w') := Lib.hid (fun w' h => ⟨(KB.out.below h KB.out.lt).cells.2.2, (VB.out.below h VB.out.lt).cell, (h.cell (p := ⟨b, off + x, none⟩) (show b < W.heap.size by omega)).trans HC.out, h⟩)
  show Calls _ _ #[.int .i64 x, .pointer (some ⟨C, 0, none⟩), .pointer (some ⟨A, 0, none⟩)] _ _
  go_enter Try.func101, Try.ntmps101
  go_upto_region 1 with fail
  go_region_held3 (fun w' => w'.cell? ⟨A, 2, none⟩ = some (.slice (some ⟨b, off, none⟩) cs.length c3) ∧ w'.cell? ⟨C, 0, none⟩ = some (.func (.func g) #[] lb) ∧ w'.cell? ⟨b, off + x, none⟩ = some (.int .i64 z) ∧ Below W.heap.size W w')
    (first | exact K8.out _ hb9 | exact K8.out _ (below_drew (Below.refl _ _)))
    (first | (go_at_fn g; (refine (CF.out _ (below_drew (Below.refl W.heap.size W))).mono ?_); rintro e w9 ⟨rfl, b9⟩; (have hb9 := (below_drew (Below.refl W.heap.size W)).trans b9)))
  all_goals
    go_wp2_with fail
    go_ret
    exact ⟨rfl, by assumption⟩
set_option maxRecDepth 100000 in
set_option maxHeartbeats 4000000 in
theorem claimsI (ps ws cs : List Int) (st : Int) (f : Int → Int) (v : Value) (g : Nat) (lb : Array Value) (w : World) (eg : ∀ args w, (callFunc g args).run Try.prog w = .ok (.enter g args) w) (hn : cs.length ≤ 1048576) (h : MktV w w.heap.size v ps ws cs)
    (hI : strikeB st = true → ∀ z, 0 ≤ z → z ≤ 20 → InI64 (f z)) (hf : strikeB st = true → ClaimF g lb f w) :
    Calls Try.prog 61 #[v, .int .i64 st, .func (.func g) #[] lb] w (NewIntsB (ifC ps ws cs st (endP ps cs f)) (goodM ps ws cs && strikeB st) w) := by
  have G := Lib.hid (fun w' (hb : Below w.heap.size w w') => isMktI ps ws cs v w' hn (h.boxed hb))
  have F := Lib.hid (fun w => fromI st 0 20 w)
  have HV := Lib.hid h
  have HF := Lib.hid hf
  have HI := Lib.hid hI
  obtain ⟨p1, c1, p2, c2, p3, c3, rfl⟩ := h.shape
  clear h hf hI
  have hmf : ∀ (fn : Fn) (first cap : Array Value) (w : World), (Instr.makeFunc fn first cap).run Try.prog w = .ok (.func fn first cap) w := fun _ _ _ _ => rfl
  obtain ⟨wa, hwa⟩ : ∃ wa, wa = (w.alloc (.cells #[.slice p1 ps.length c1, .slice p2 ws.length c2, .slice p3 cs.length c3] 32)).alloc (.cells #[.func (.func g) #[] lb] 74) := ⟨_, rfl⟩
  obtain ⟨k1, k2⟩ := alloc_two w (.cells #[.slice p1 ps.length c1, .slice p2 ws.length c2, .slice p3 cs.length c3] 32) (.cells #[.func (.func g) #[] lb] 74)
  have B1 : Below w.heap.size w wa := by rw [hwa]; exact ((Below.refl w.heap.size w).alloc (Nat.le_refl _) _).alloc (by simp) _
  have T1 := Lib.hid (show KBox wa w.heap.size (.slice p1 ps.length c1) (.slice p2 ws.length c2) (.slice p3 cs.length c3) by rw [hwa]; exact k1)
  have T2 := Lib.hid (show VBox wa (w.heap.size + 1) (.func (.func g) #[] lb) 74 by rw [hwa]; exact k2)
  have HBA := Lib.hid B1
  clear k1 k2 B1
  have D : Hid (ifC ps ws cs st (endP ps cs f) = if (goodM ps ws cs && strikeB st) = true then endP ps cs f else []) := Lib.hid rfl
  have DS : Hid (strikeB st = decide (0 ≤ st ∧ st ≤ 20)) := Lib.hid rfl
  obtain ⟨x0, x1, x2⟩ := T1.out.cells
  cases hg : goodM ps ws cs
  · rw [hg, Bool.false_and, if_neg (by decide)] at D
    rw [hg] at G
    rw [D.out, Bool.false_and]
    clear hg D
    go_enter Try.func61, Try.ntmps61
    go_wp2_with fail
    rw [← hwa]
    clear hwa
    refine (G.out _ HBA.out).mono ?_
    rintro e w1 ⟨rfl, b1⟩
    have HB1 := Lib.hid (HBA.out.trans (b1.mono HBA.out.size))
    clear b1
    go_wp2_with fail
    go_ret2
    exact newInts_empty HB1.out
  · have MK := Lib.hid (goodM_iff.1 hg)
    rw [hg, Bool.true_and] at D
    rw [hg] at G
    rw [Bool.true_and]
    clear hg
    rw [← DS.out] at F
    cases hs : strikeB st
    · rw [hs, if_neg (by decide)] at D
      rw [hs] at F
      rw [D.out]
      clear hs D DS
      go_enter Try.func61, Try.ntmps61
      go_wp2_with fail
      rw [← hwa]
      clear hwa
      refine (G.out _ HBA.out).mono ?_
      rintro e w1 ⟨rfl, b1⟩
      have HB1 := Lib.hid (HBA.out.trans (b1.mono HBA.out.size))
      clear b1
      go_wp2_with fail
      refine (F.out _).mono ?_
      rintro e w2 ⟨rfl, rfl⟩
      go_wp2_with fail
      go_ret2
      exact newInts_empty HB1.out
    · have HF := Lib.hid (HF.out hs)
      have HI := Lib.hid (HI.out hs)
      rw [hs, if_pos rfl] at D
      rw [hs] at F
      obtain ⟨L, hL⟩ : ∃ L, L = endP ps cs f := ⟨_, rfl⟩
      rw [D.out, ← hL]
      have LH := Lib.hid hL
      clear hs D DS hL
      go_enter Try.func61, Try.ntmps61
      go_wp2_with fail
      rw [← hwa]
      clear hwa
      refine (G.out _ HBA.out).mono ?_
      rintro e w1 ⟨rfl, b1⟩
      have HB1 := Lib.hid (HBA.out.trans (b1.mono HBA.out.size))
      have U1 := Lib.hid (T1.out.below b1 T1.out.lt)
      have U2 := Lib.hid (T2.out.below b1 T2.out.lt)
      obtain ⟨y0, y1, y2⟩ := U1.out.cells
      clear b1 x0 x1 x2
      go_wp2_with fail
      refine (F.out _).mono ?_
      rintro e w2 ⟨rfl, rfl⟩
      have AE := Lib.hid (atEndsI ps ws (fun z => f (cs.getD z.toNat 0)) _ 101 #[.pointer (some ⟨w.heap.size + 1, 0, none⟩), .pointer (some ⟨w.heap.size, 0, none⟩)] w1 (enters_of Try.func101 (by kernel_rfl) rfl) MK.out.good ((HV.out.boxed HB1.out).tree.1)
        (fun z hz => by
          obtain ⟨x, rfl, hx, _⟩ := nodesW_mem (p := leafB ps) (n := ps.length) hz
          rw [Int.toNat_natCast]
          have := MK.out.bd x (by have := MK.out.len; omega)
          exact HI.out _ this.1 this.2)
        (claimPred ps ws cs f p1 p2 p3 c1 c2 c3 g lb w1 w.heap.size (w.heap.size + 1) eg MK.out U1.out U2.out (HV.out.boxed HB1.out).tree.2 (fun W z a b hb => HF.out W z a b (HB1.out.trans (hb.mono HB1.out.size)))))
      have DE : Hid (endP ps cs f = (endsT ps).map fun z => f (cs.getD z.toNat 0)) := Lib.hid rfl
      rw [← DE.out, ← LH.out] at AE
      clear DE LH T1 T2 U1 U2 MK HI HF HV eg
      go_wp2_with fail
      refine AE.out.mono ?_
      rintro e w3 ⟨u, rfl, o3, b3⟩
      have FIN : Hid (NewIntsB L true w (.returned (.tuple #[u, .bool true])) w3) := Lib.hid ⟨_, rfl, o3.low HB1.out.size, HB1.out.trans (b3.mono HB1.out.size)⟩
      clear o3 b3
      go_wp2_with fail
      go_ret2
      exact FIN.out
set_option maxHeartbeats 2000000 in
theorem callF (B : Nat) (st : Int) (w : World) (hs : strikeB st = true) (hv : VBox w B (.int .i64 st) 3) : ClaimF 95 #[.pointer (some ⟨B, 0, none⟩)] (fun z => max 0 (z - st)) w := by
  intro W z h0 h1 hb
  have c := (hv.below hb hv.lt).cell
  obtain ⟨hs0, hs1⟩ : 0 ≤ st ∧ st ≤ 20 := of_decide_eq_true hs
  show Calls _ _ #[.int .i64 z, .pointer (some ⟨B, 0, none⟩)] W (fun e w' => e = .returned (.int .i64 (max 0 (z - st))) ∧ Below W.heap.size W w')
  clear hv hb hs
  go_enter Try.func95, Try.ntmps95
  go_wp2
  go_ret
  exact ⟨rfl, Below.refl _ _⟩
set_option maxHeartbeats 4000000 in
theorem callI (ps ws cs : List Int) (st : Int) (v : Value) (w : World) (hn : cs.length ≤ 1048576) (h : MktV w w.heap.size v ps ws cs) :
    Calls Try.prog 46 #[v, .int .i64 st] w (NewIntsB (ifC ps ws cs st (endP ps cs fun z => max 0 (z - st))) (goodM ps ws cs && strikeB st) w) := by
  have HV := Lib.hid h
  obtain ⟨p1, c1, p2, c2, p3, c3, rfl⟩ := h.shape
  clear h
  have hmf : ∀ (fn : Fn) (first cap : Array Value) (w : World), (Instr.makeFunc fn first cap).run Try.prog w = .ok (.func fn first cap) w := fun _ _ _ _ => rfl
  obtain ⟨wa, hwa⟩ : ∃ wa, wa = (w.alloc (.cells #[.slice p1 ps.length c1, .slice p2 ws.length c2, .slice p3 cs.length c3] 32)).alloc (.cells #[.int .i64 st] 3) := ⟨_, rfl⟩
  obtain ⟨k1, k2⟩ := alloc_two w (.cells #[.slice p1 ps.length c1, .slice p2 ws.length c2, .slice p3 cs.length c3] 32) (.cells #[.int .i64 st] 3)
  have B1 : Below w.heap.size w wa := by rw [hwa]; exact ((Below.refl w.heap.size w).alloc (Nat.le_refl _) _).alloc (by simp) _
  have T1 := Lib.hid (show KBox wa w.heap.size (.slice p1 ps.length c1) (.slice p2 ws.length c2) (.slice p3 cs.length c3) by rw [hwa]; exact k1)
  have T2 := Lib.hid (show VBox wa (w.heap.size + 1) (.int .i64 st) 3 by rw [hwa]; exact k2)
  have HBA := Lib.hid B1
  clear k1 k2 B1
  have C := Lib.hid (claimsI ps ws cs st (fun z => max 0 (z - st)) _ 95 #[.pointer (some ⟨w.heap.size + 1, 0, none⟩)] wa (enters_of Try.func95 (by kernel_rfl) rfl) hn (HV.out.boxed HBA.out) (fun hs z h0 h1 => by (obtain ⟨a, b⟩ : 0 ≤ st ∧ st ≤ 20 := of_decide_eq_true hs); unfold InI64; omega) (fun hs => callF _ st wa hs T2.out))
  obtain ⟨L, hL⟩ : ∃ L, L = ifC ps ws cs st (endP ps cs fun z => max 0 (z - st)) := ⟨_, rfl⟩
  obtain ⟨ok, hok⟩ : ∃ ok, ok = (goodM ps ws cs && strikeB st) := ⟨_, rfl⟩
  rw [← hL, ← hok] at C ⊢
  clear hL hok HV
  obtain ⟨x0, x1, x2⟩ := T1.out.cells
  have x3 := T2.out.cell
  go_enter Try.func46, Try.ntmps46
  go_wp2_with fail
  rw [← hwa]
  clear hwa
  refine C.out.mono ?_
  rintro e w1 ⟨u, rfl, o1, b1⟩
  have FIN : Hid (NewIntsB L ok w (.returned (.tuple #[u, .bool ok])) w1) := Lib.hid ⟨_, rfl, o1.low HBA.out.size, HBA.out.trans (b1.mono HBA.out.size)⟩
  clear o1 b1
  go_wp2_with fail
  go_ret2
  exact FIN.out
set_option maxHeartbeats 2000000 in
theorem putF (B : Nat) (st : Int) (w : World) (hs : strikeB st = true) (hv : VBox w B (.int .i64 st) 3) : ClaimF 62 #[.pointer (some ⟨B, 0, none⟩)] (fun z => max 0 (st - z)) w := by
  intro W z h0 h1 hb
  have c := (hv.below hb hv.lt).cell
  obtain ⟨hs0, hs1⟩ : 0 ≤ st ∧ st ≤ 20 := of_decide_eq_true hs
  show Calls _ _ #[.int .i64 z, .pointer (some ⟨B, 0, none⟩)] W (fun e w' => e = .returned (.int .i64 (max 0 (st - z))) ∧ Below W.heap.size W w')
  clear hv hb hs
  go_enter Try.func62, Try.ntmps62
  go_wp2
  go_ret
  exact ⟨rfl, Below.refl _ _⟩
set_option maxHeartbeats 4000000 in
theorem putI (ps ws cs : List Int) (st : Int) (v : Value) (w : World) (hn : cs.length ≤ 1048576) (h : MktV w w.heap.size v ps ws cs) :
    Calls Try.prog 15 #[v, .int .i64 st] w (NewIntsB (ifC ps ws cs st (endP ps cs fun z => max 0 (st - z))) (goodM ps ws cs && strikeB st) w) := by
  have HV := Lib.hid h
  obtain ⟨p1, c1, p2, c2, p3, c3, rfl⟩ := h.shape
  clear h
  have hmf : ∀ (fn : Fn) (first cap : Array Value) (w : World), (Instr.makeFunc fn first cap).run Try.prog w = .ok (.func fn first cap) w := fun _ _ _ _ => rfl
  obtain ⟨wa, hwa⟩ : ∃ wa, wa = (w.alloc (.cells #[.slice p1 ps.length c1, .slice p2 ws.length c2, .slice p3 cs.length c3] 32)).alloc (.cells #[.int .i64 st] 3) := ⟨_, rfl⟩
  obtain ⟨k1, k2⟩ := alloc_two w (.cells #[.slice p1 ps.length c1, .slice p2 ws.length c2, .slice p3 cs.length c3] 32) (.cells #[.int .i64 st] 3)
  have B1 : Below w.heap.size w wa := by rw [hwa]; exact ((Below.refl w.heap.size w).alloc (Nat.le_refl _) _).alloc (by simp) _
  have T1 := Lib.hid (show KBox wa w.heap.size (.slice p1 ps.length c1) (.slice p2 ws.length c2) (.slice p3 cs.length c3) by rw [hwa]; exact k1)
  have T2 := Lib.hid (show VBox wa (w.heap.size + 1) (.int .i64 st) 3 by rw [hwa]; exact k2)
  have HBA := Lib.hid B1
  clear k1 k2 B1
  have C := Lib.hid (claimsI ps ws cs st (fun z => max 0 (st - z)) _ 62 #[.pointer (some ⟨w.heap.size + 1, 0, none⟩)] wa (enters_of Try.func62 (by kernel_rfl) rfl) hn (HV.out.boxed HBA.out) (fun hs z h0 h1 => by (obtain ⟨a, b⟩ : 0 ≤ st ∧ st ≤ 20 := of_decide_eq_true hs); unfold InI64; omega) (fun hs => putF _ st wa hs T2.out))
  obtain ⟨L, hL⟩ : ∃ L, L = ifC ps ws cs st (endP ps cs fun z => max 0 (st - z)) := ⟨_, rfl⟩
  obtain ⟨ok, hok⟩ : ∃ ok, ok = (goodM ps ws cs && strikeB st) := ⟨_, rfl⟩
  rw [← hL, ← hok] at C ⊢
  clear hL hok HV
  obtain ⟨x0, x1, x2⟩ := T1.out.cells
  have x3 := T2.out.cell
  go_enter Try.func15, Try.ntmps15
  go_wp2_with fail
  rw [← hwa]
  clear hwa
  refine C.out.mono ?_
  rintro e w1 ⟨u, rfl, o1, b1⟩
  have FIN : Hid (NewIntsB L ok w (.returned (.tuple #[u, .bool ok])) w1) := Lib.hid ⟨_, rfl, o1.low HBA.out.size, HBA.out.trans (b1.mono HBA.out.size)⟩
  clear o1 b1
  go_wp2_with fail
  go_ret2
  exact FIN.out
set_option maxHeartbeats 4000000 in
theorem shareI (ps ws cs : List Int) (v : Value) (w : World) (hn : cs.length ≤ 1048576) (h : MktV w w.heap.size v ps ws cs) :
    Calls Try.prog 49 #[v] w (NewIntsB (ifM ps ws cs (endP ps cs id)) (goodM ps ws cs) w) := by
  have HV := Lib.hid h
  have EQ : Hid (ifC ps ws cs 0 (endP ps cs fun z => max 0 (z - 0)) = ifM ps ws cs (endP ps cs id)) := Lib.hid (by
    unfold ifC ifM strikeB
    rw [decide_eq_true (by omega), Bool.and_true]
    split
    · rename_i hg
      have mk := goodM_iff.1 hg
      unfold endP
      refine List.map_congr_left fun z hz => ?_
      obtain ⟨x, rfl, hx, _⟩ := nodesW_mem (p := leafB ps) (n := ps.length) hz
      rw [Int.toNat_natCast]
      have := mk.bd x (by have := mk.len; omega)
      show max 0 (cs.getD x 0 - 0) = cs.getD x 0
      omega
    · rfl)
  have EK : Hid ((goodM ps ws cs && strikeB 0) = goodM ps ws cs) := Lib.hid (by unfold strikeB; rw [decide_eq_true (by omega), Bool.and_true])
  have C := Lib.hid (fun w' (hb : Below w.heap.size w w') => callI ps ws cs 0 v w' hn (HV.out.boxed hb))
  rw [EQ.out, EK.out] at C
  obtain ⟨p1, c1, p2, c2, p3, c3, rfl⟩ := h.shape
  clear h EQ EK HV
  obtain ⟨L, hL⟩ : ∃ L, L = ifM ps ws cs (endP ps cs id) := ⟨_, rfl⟩
  obtain ⟨ok, hok⟩ : ∃ ok, ok = goodM ps ws cs := ⟨_, rfl⟩
  rw [← hL, ← hok] at C ⊢
  clear hL hok
  have B1 := Lib.hid ((Below.refl w.heap.size w).alloc (Nat.le_refl _) (.cells #[.slice p1 ps.length c1, .slice p2 ws.length c2, .slice p3 cs.length c3] 32))
  have T1 := Lib.hid (show KBox (w.alloc (.cells #[.slice p1 ps.length c1, .slice p2 ws.length c2, .slice p3 cs.length c3] 32)) w.heap.size (.slice p1 ps.length c1) (.slice p2 ws.length c2) (.slice p3 cs.length c3) from alloc_heap w _)
  obtain ⟨x0, x1, x2⟩ := T1.out.cells
  go_enter Try.func49, Try.ntmps49
  go_wp2_with fail
  refine (C.out _ B1.out).mono ?_
  rintro e w1 ⟨u, rfl, o1, b1⟩
  have FIN : Hid (NewIntsB L ok w (.returned (.tuple #[u, .bool ok])) w1) := Lib.hid ⟨_, rfl, o1.low B1.out.size, B1.out.trans (b1.mono B1.out.size)⟩
  clear o1 b1
  go_wp2_with fail
  go_ret2
  exact FIN.out
end Go.Proofs.Ytamneibnjbimeab
