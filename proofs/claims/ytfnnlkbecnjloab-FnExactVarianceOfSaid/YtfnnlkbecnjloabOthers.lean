/- OtherEnds, in the program and in the model. -/
import Derived.Test.YtfnnlkbecnjloabEvW
import Derived.Test.YtfnnlkbecnjloabEvN
namespace Go.Proofs.Ytfnnlkbecnjloab
open Go.RowKit
set_option linter.unusedVariables false
/-- What a function returns that asks for an event. -/
def ifEv (ps ws evs zs : List Int) : List Int := if evB ps ws evs = true then zs else []
theorem others_good {ps ws evs : List Int} (g : Good ps ws) : nodesW (fun x => decide (0 < ws.getD x 0) && !inL evs (x : Int)) ps.length = othersT ps evs := by
  unfold othersT
  refine nodesW_congr (fun x hx => ?_)
  have h := g.end_iff hx
  cases hl : leafB ps x
  · rw [hl] at h
    have : ¬ 0 < ws.getD x 0 := fun e => by have := h.1 e; cases this
    rw [decide_eq_false this]
  · rw [hl] at h
    have : 0 < ws.getD x 0 := h.2 rfl
    rw [decide_eq_true this]
theorem othersPred (ps ws : List Int) (v1 v2 : Value) (w W0 : World) (B C b n : Nat) (f : Int → Bool) (hn : ps.length ≤ 1000000) (hw : ws.length = ps.length) (hbox : TBox W0 B v1 v2) (hm : MapB W0 b n f) (hc : VBox W0 C (.map (some b)) 73)
    (h : TreeV w w.heap.size (.agg #[v1, v2]) ps ws) (h0 : Below w.heap.size w W0) :
    PredI 78 #[.pointer (some ⟨B, 0, none⟩), .pointer (some ⟨C, 0, none⟩)] (fun x => decide (0 < ws.getD x 0) && !f (x : Int)) ps.length W0 := by
  intro W x hx hb
  dsimp only
  have hbW := h0.trans (hb.mono h0.size)
  have IE := Lib.hid (isEndI ps ws _ x W (by omega) (h.boxed hbW))
  have HM := Lib.hid (hm.below hb hm.lt)
  have HC := Lib.hid (hc.below hb hc.lt)
  obtain ⟨x0, x1⟩ := (hbox.below hb hbox.lt).cells
  obtain ⟨p1, c1, p2, c2, hsh⟩ := h.shape
  obtain ⟨rfl, rfl⟩ : v1 = .slice p1 ps.length c1 ∧ v2 = .slice p2 ws.length c2 := by simp at hsh; exact hsh
  clear hsh h h0 hb hbW hbox hm hc hw
  show Calls _ _ #[.int .i64 x, .pointer (some ⟨B, 0, none⟩), .pointer (some ⟨C, 0, none⟩)] _ _
  obtain ⟨d, hd⟩ : ∃ d, d = decide (0 < ws.getD x 0) := ⟨_, rfl⟩
  rw [← hd] at IE ⊢
  clear hd
  cases d
  · go_enter Try.func78, Try.ntmps78
    go_wp2_with fail
    refine IE.out.mono ?_
    rintro e w1 ⟨rfl, b1⟩
    have HB1 := Lib.hid b1
    clear b1
    go_wp2_with fail
    go_ret
    exact ⟨rfl, HB1.out⟩
  · go_enter Try.func78, Try.ntmps78
    go_wp2_with fail
    refine IE.out.mono ?_
    rintro e w1 ⟨rfl, b1⟩
    have HB1 := Lib.hid b1
    have HM1 := Lib.hid (HM.out.next b1)
    have y0 := (HC.out.next b1).cell
    clear b1 x0 x1
    go_wp2_with (at_lookup; refine mapB_getW _ rfl _ _ _ rfl Try.underlying73 b n f rfl HM1.out (x : Int) rfl (inI64_nat (by omega)) ?_)
    go_ret
    exact ⟨by simp, HB1.out⟩
set_option maxHeartbeats 2000000 in
theorem othersI (ps ws evs : List Int) (v u : Value) (w : World) (hl : evs.length ≤ 1048576) (h : TreeV w w.heap.size v ps ws) (hu : IntsV w w.heap.size u evs) :
    Calls Try.prog 38 #[v, u] w (NewIntsB (ifEv ps ws evs (othersT ps evs)) (evB ps ws evs) w) := by
  have TV := Lib.hid h
  have ES := Lib.hid (fun w' (hb : Below w.heap.size w w') => endSetI ps ws evs v u w' hl (h.boxed hb) ((hu.below hb).more hb.size))
  obtain ⟨p1, c1, p2, c2, rfl⟩ := h.shape
  obtain ⟨q, cq, rfl, _⟩ := hu
  clear h
  have B1 := (Below.refl w.heap.size w).alloc (Nat.le_refl _) (.cells #[.slice p1 ps.length c1, .slice p2 ws.length c2] 29)
  have T1 := Lib.hid (show TBox (w.alloc (.cells #[.slice p1 ps.length c1, .slice p2 ws.length c2] 29)) w.heap.size (.slice p1 ps.length c1) (.slice p2 ws.length c2) from alloc_heap w _)
  obtain ⟨wa, hwa⟩ : ∃ wa, wa = w.alloc (.cells #[.slice p1 ps.length c1, .slice p2 ws.length c2] 29) := ⟨_, rfl⟩
  rw [← hwa] at B1 T1
  have HBA := Lib.hid B1
  clear B1
  obtain ⟨x0, x1⟩ := T1.out.cells
  have hmf : ∀ (fn : Fn) (first cap : Array Value) (w : World), (Instr.makeFunc fn first cap).run Try.prog w = .ok (.func fn first cap) w := fun _ _ _ _ => rfl
  go_enter Try.func38, Try.ntmps38
  go_wp2_with fail
  rw [← hwa]
  clear hwa
  refine (ES.out _ HBA.out).mono ?_
  rintro e w1 ⟨b1, ⟨hev, M, n, rfl, hM, hmap⟩ | ⟨hev, rfl⟩⟩
  · have EV := Lib.hid (evB_iff.1 hev)
    have IG := Lib.hid (show ifEv ps ws evs (othersT ps evs) = othersT ps evs from by unfold ifEv; rw [hev]; rfl)
    have HEV := Lib.hid hev
    have HB1 := HBA.out.trans (b1.mono HBA.out.size)
    have hT1 := T1.out.below b1 T1.out.lt
    obtain ⟨wb, hwb⟩ : ∃ wb, wb = w1.alloc (.cells #[.map (some M)] 73) := ⟨_, rfl⟩
    have hA : Below w1.heap.size w1 wb := by rw [hwb]; exact (Below.refl _ _).alloc (Nat.le_refl _) _
    have HVB : Hid (VBox wb w1.heap.size (.map (some M)) 73) := Lib.hid (by rw [hwb]; exact alloc_heap w1 _)
    have HMB := Lib.hid (hmap.next hA)
    have HTB := Lib.hid (hT1.below hA hT1.lt)
    have HBB := Lib.hid (HB1.trans (hA.mono HB1.size))
    have hn24 := EV.out.good.n24
    have PR := othersPred ps ws _ _ w wb w.heap.size w1.heap.size M n (inL evs) (by omega) EV.out.good.nw HTB.out HMB.out HVB.out TV.out HBB.out
    have C := Lib.hid (nodesI ps ws _ 78 #[.pointer (some ⟨w.heap.size, 0, none⟩), .pointer (some ⟨w1.heap.size, 0, none⟩)] _ wb (enters_of Try.func78 (by kernel_rfl) rfl) (by omega) (TV.out.boxed HBB.out) PR)
    rw [others_good EV.out.good] at C
    clear b1 hM hmap HB1 hT1 hA PR hev x0 x1
    obtain ⟨x0, x1⟩ := HTB.out.cells
    rw [hwb] at x0 x1
    go_wp2_with fail
    rw [← hwb]
    clear hwb
    refine C.out.mono ?_
    rintro e w2 ⟨u, rfl, o2, b2⟩
    have FIN := Lib.hid (newInts_back HBB.out o2 b2)
    clear o2 b2
    go_wp2_with fail
    go_ret2
    rw [IG.out, HEV.out]
    exact FIN.out
  · have IG := Lib.hid (show ifEv ps ws evs (othersT ps evs) = [] from by unfold ifEv; rw [hev]; rfl)
    have HEV := Lib.hid hev
    have HB1 := HBA.out.trans (b1.mono HBA.out.size)
    obtain ⟨wb, hwb⟩ : ∃ wb, wb = w1.alloc (.cells #[.map none] 73) := ⟨_, rfl⟩
    have hA : Below w1.heap.size w1 wb := by rw [hwb]; exact (Below.refl _ _).alloc (Nat.le_refl _) _
    have HBB := Lib.hid (HB1.trans (hA.mono HB1.size))
    have SZ : Hid (wb.heap.size = w1.heap.size + 1) := Lib.hid (by rw [hwb]; simp)
    clear b1 hev x0 x1 HB1 hA
    go_wp2_with fail
    rw [← hwb]
    clear hwb
    go_ret2
    rw [IG.out, HEV.out]
    rw [show w1.heap.size + 1 = wb.heap.size from SZ.out.symm]
    exact newInts_empty HBB.out
end Go.Proofs.Ytfnnlkbecnjloab
