/- Chances of events, in the program. -/
import Derived.Test.YtfnnlkbecnjloabEvW
import Derived.Test.YtfnnlkbecnjloabChance
namespace Go.Proofs.Ytfnnlkbecnjloab
open Go.RowKit
set_option linter.unusedVariables false
theorem wtI (ps ws : List Int) (v : Value) (M n : Nat) (f : Int → Bool) (w : World) (gd : Good ps ws) (h : TreeV w w.heap.size v ps ws) (hm : MapB w M n f) :
    Calls Try.prog 72 #[v, .map (some M)] w (Gives (.int .i64 (heavyT ps ws (fun x => f (x : Int)))) w) := by
  have hn24 := gd.n24
  have TV := Lib.hid h
  obtain ⟨p1, c1, p2, c2, rfl⟩ := h.shape
  have B1 := ((Below.refl w.heap.size w).alloc (Nat.le_refl _) (.cells #[.slice p1 ps.length c1, .slice p2 ws.length c2] 29)).alloc (by simp) (.cells #[.map (some M)] 73)
  have K0 := alloc_two w (.cells #[.slice p1 ps.length c1, .slice p2 ws.length c2] 29) (.cells #[.map (some M)] 73)
  obtain ⟨wa, hwa⟩ : ∃ wa, wa = (w.alloc (.cells #[.slice p1 ps.length c1, .slice p2 ws.length c2] 29)).alloc (.cells #[.map (some M)] 73) := ⟨_, rfl⟩
  rw [← hwa] at B1 K0
  have T1 : TBox wa w.heap.size (.slice p1 ps.length c1) (.slice p2 ws.length c2) := K0.1
  have V1 : VBox wa (w.heap.size + 1) (.map (some M)) 73 := K0.2
  have hmf : ∀ (fn : Fn) (first cap : Array Value) (w : World), (Instr.makeFunc fn first cap).run Try.prog w = .ok (.func fn first cap) w := fun _ _ _ _ => rfl
  have C := Lib.hid (whereI ps ws _ 102 #[.pointer (some ⟨w.heap.size + 1, 0, none⟩)] _ wa (enters_of Try.func102 (by kernel_rfl) rfl) gd (h.boxed B1) (inPred wa M n (w.heap.size + 1) ps.length f (by omega) (hm.next B1) V1))
  have HB := Lib.hid B1
  clear gd h hm K0 B1 V1
  obtain ⟨x0, x1⟩ := T1.cells
  clear T1
  go_enter Try.func72, Try.ntmps72
  go_wp2_with fail
  rw [← hwa]
  clear hwa
  refine C.out.mono ?_
  rintro e w1 ⟨rfl, b1⟩
  have HB1 := Lib.hid (HB.out.trans (b1.mono HB.out.size))
  clear b1
  go_wp2_with fail
  go_ret
  exact ⟨rfl, HB1.out⟩
theorem alloc_three (w : World) (a b c : Obj) : (((w.alloc a).alloc b).alloc c).heap[w.heap.size]? = some a ∧ (((w.alloc a).alloc b).alloc c).heap[w.heap.size + 1]? = some b ∧ (((w.alloc a).alloc b).alloc c).heap[w.heap.size + 1 + 1]? = some c := heap_three w a b c
theorem wtBothI (ps ws : List Int) (v : Value) (M n M' n' : Nat) (f f' : Int → Bool) (w : World) (gd : Good ps ws) (h : TreeV w w.heap.size v ps ws) (hm : MapB w M n f) (hm' : MapB w M' n' f') :
    Calls Try.prog 75 #[v, .map (some M), .map (some M')] w (Gives (.int .i64 (heavyT ps ws (fun x => f (x : Int) && f' (x : Int)))) w) := by
  have hn24 := gd.n24
  obtain ⟨p1, c1, p2, c2, rfl⟩ := h.shape
  have B1 := (((Below.refl w.heap.size w).alloc (Nat.le_refl _) (.cells #[.slice p1 ps.length c1, .slice p2 ws.length c2] 29)).alloc (by simp) (.cells #[.map (some M)] 73)).alloc (by simp; omega) (.cells #[.map (some M')] 73)
  have K0 := heap_three w (.cells #[.slice p1 ps.length c1, .slice p2 ws.length c2] 29) (.cells #[.map (some M)] 73) (.cells #[.map (some M')] 73)
  obtain ⟨wa, hwa⟩ : ∃ wa, wa = ((w.alloc (.cells #[.slice p1 ps.length c1, .slice p2 ws.length c2] 29)).alloc (.cells #[.map (some M)] 73)).alloc (.cells #[.map (some M')] 73) := ⟨_, rfl⟩
  rw [← hwa] at B1 K0
  have T1 : TBox wa w.heap.size (.slice p1 ps.length c1) (.slice p2 ws.length c2) := K0.1
  have V1 : VBox wa (w.heap.size + 1) (.map (some M)) 73 := K0.2.1
  have V2 : VBox wa (w.heap.size + 1 + 1) (.map (some M')) 73 := K0.2.2
  have hmf : ∀ (fn : Fn) (first cap : Array Value) (w : World), (Instr.makeFunc fn first cap).run Try.prog w = .ok (.func fn first cap) w := fun _ _ _ _ => rfl
  have C := Lib.hid (whereI ps ws _ 104 #[.pointer (some ⟨w.heap.size + 1, 0, none⟩), .pointer (some ⟨w.heap.size + 1 + 1, 0, none⟩)] _ wa (enters_of Try.func104 (by kernel_rfl) rfl) gd (h.boxed B1) (bothPred wa M n (w.heap.size + 1) M' n' (w.heap.size + 1 + 1) ps.length f f' (by omega) (hm.next B1) V1 (hm'.next B1) V2))
  have HB := Lib.hid B1
  clear gd h hm hm' K0 B1 V1 V2
  obtain ⟨x0, x1⟩ := T1.cells
  clear T1
  go_enter Try.func75, Try.ntmps75
  go_wp2_with fail
  rw [← hwa]
  clear hwa
  refine C.out.mono ?_
  rintro e w1 ⟨rfl, b1⟩
  have HB1 := Lib.hid (HB.out.trans (b1.mono HB.out.size))
  clear b1
  go_wp2_with fail
  go_ret
  exact ⟨rfl, HB1.out⟩
theorem wtAllI (ps ws : List Int) (v : Value) (w : World) (gd : Good ps ws) (h : TreeV w w.heap.size v ps ws) :
    Calls Try.prog 73 #[v] w (Gives (.int .i64 ((sumsT ps ws).getD 0 0)) w) := by
  rw [← heavy_all gd]
  obtain ⟨p1, c1, p2, c2, rfl⟩ := h.shape
  have B1 := (Below.refl w.heap.size w).alloc (Nat.le_refl _) (.cells #[.slice p1 ps.length c1, .slice p2 ws.length c2] 29)
  obtain ⟨wa, hwa⟩ : ∃ wa, wa = w.alloc (.cells #[.slice p1 ps.length c1, .slice p2 ws.length c2] 29) := ⟨_, rfl⟩
  have T1 : TBox wa w.heap.size (.slice p1 ps.length c1) (.slice p2 ws.length c2) := by rw [hwa]; exact alloc_heap w _
  rw [← hwa] at B1
  have C := Lib.hid (whereI ps ws _ 103 #[] _ wa (enters_of Try.func103 (by kernel_rfl) rfl) gd (h.boxed B1) (allPred wa ps.length))
  have HB := Lib.hid B1
  clear gd h B1
  obtain ⟨x0, x1⟩ := T1.cells
  clear T1
  go_enter Try.func73, Try.ntmps73
  go_wp2_with fail
  rw [← hwa]
  clear hwa
  refine C.out.mono ?_
  rintro e w1 ⟨rfl, b1⟩
  have HB1 := Lib.hid (HB.out.trans (b1.mono HB.out.size))
  clear b1
  go_wp2_with fail
  go_ret
  exact ⟨rfl, HB1.out⟩
/-- What stands between the calls of a function of two events. -/
def ESt (w : World) (B R M n : Nat) (f : Int → Bool) (M' n' : Nat) (f' : Int → Bool) (v1 v2 : Value) (w' : World) : Prop := TBox w' B v1 v2 ∧ (MapB w' M n f ∧ MapB w' M' n' f') ∧ Below w.heap.size w w' ∧ PBox w' R 0 0
theorem ESt.next {w a b : World} {B R M n M' n' : Nat} {f f' : Int → Bool} {v1 v2 : Value} (h : ESt w B R M n f M' n' f' v1 v2 a) (hb : Below a.heap.size a b) : ESt w B R M n f M' n' f' v1 v2 b :=
  ⟨h.1.below hb h.1.lt, ⟨h.2.1.1.next hb, h.2.1.2.next hb⟩, h.2.2.1.trans (hb.mono h.2.2.1.size), h.2.2.2.below hb h.2.2.2.lt⟩
theorem ESt.drew {w a : World} {B R M n M' n' : Nat} {f f' : Int → Bool} {v1 v2 : Value} (h : ESt w B R M n f M' n' f' v1 v2 a) : ESt w B R M n f M' n' f' v1 v2 a.drew := h.next (below_drew (Below.refl _ _))
/-- What EventChance returns. -/
def evChV (ps ws evs : List Int) : Value := if evB ps ws evs = true then .tuple #[.agg #[.int .i64 (cutN (heavyT ps ws (fun x => inL evs (x : Int))) ((sumsT ps ws).getD 0 0)), .int .i64 (cutD (heavyT ps ws (fun x => inL evs (x : Int))) ((sumsT ps ws).getD 0 0))], .bool true] else zeroP
theorem evChV_form (ps ws evs : List Int) : ∃ p q ok, evChV ps ws evs = .tuple #[.agg #[.int .i64 p, .int .i64 q], .bool ok] := by
  unfold evChV zeroP
  split <;> exact ⟨_, _, _, rfl⟩
set_option maxRecDepth 100000 in
set_option maxHeartbeats 4000000 in
theorem evChI (ps ws evs : List Int) (v u : Value) (w : World) (hl : evs.length ≤ 1048576) (h : TreeV w w.heap.size v ps ws) (hu : IntsV w w.heap.size u evs) :
    Calls Try.prog 34 #[v, u] w (Gives (evChV ps ws evs) w) := by
  have TV := Lib.hid h
  have ES := Lib.hid (fun w' (hb : Below w.heap.size w w') => endSetI ps ws evs v u w' hl (h.boxed hb) ((hu.below hb).more hb.size))
  obtain ⟨p1, c1, p2, c2, rfl⟩ := h.shape
  obtain ⟨q, cq, rfl, _⟩ := hu
  clear h
  have B1 := ((Below.refl w.heap.size w).alloc (Nat.le_refl _) (.cells #[.slice p1 ps.length c1, .slice p2 ws.length c2] 29)).alloc (by simp) (.cells #[.int .i64 0, .int .i64 0] 26)
  have K0 := alloc_two w (.cells #[.slice p1 ps.length c1, .slice p2 ws.length c2] 29) (.cells #[.int .i64 0, .int .i64 0] 26)
  obtain ⟨wa, hwa⟩ : ∃ wa, wa = (w.alloc (.cells #[.slice p1 ps.length c1, .slice p2 ws.length c2] 29)).alloc (.cells #[.int .i64 0, .int .i64 0] 26) := ⟨_, rfl⟩
  rw [← hwa] at B1 K0
  have T1 := Lib.hid (show TBox wa w.heap.size (.slice p1 ps.length c1) (.slice p2 ws.length c2) from K0.1)
  have R1 := Lib.hid (show PBox wa (w.heap.size + 1) 0 0 from K0.2)
  have HBA := Lib.hid B1
  clear K0 B1
  obtain ⟨x0, x1⟩ := T1.out.cells
  go_enter Try.func34, Try.ntmps34
  go_wp2_with fail
  rw [← hwa]
  clear hwa
  refine (ES.out _ HBA.out).mono ?_
  rintro e w1 ⟨b1, ⟨hev, M, n, rfl, hM, hmap⟩ | ⟨hev, rfl⟩⟩
  · have EV := Lib.hid (evB_iff.1 hev)
    have HE1 := Lib.hid (show ESt w w.heap.size (w.heap.size + 1) M n (inL evs) M n (inL evs) (.slice p1 ps.length c1) (.slice p2 ws.length c2) w1 from ⟨T1.out.below b1 T1.out.lt, ⟨hmap, hmap⟩, HBA.out.trans (b1.mono HBA.out.size), R1.out.below b1 R1.out.lt⟩)
    have CV : Hid (evChV ps ws evs = keptV (cutN (heavyT ps ws (fun x => inL evs (x : Int))) ((sumsT ps ws).getD 0 0)) (cutD (heavyT ps ws (fun x => inL evs (x : Int))) ((sumsT ps ws).getD 0 0))) := Lib.hid (by
      unfold evChV
      rw [if_pos hev, kept_small (by have := heavy_bd EV.out.good (fun x => inL evs (x : Int)); omega) (by have := sumsT_root EV.out.good; have := sumsT_bd EV.out.good 0 (by have := EV.out.good.n1; omega); omega)])
    have CW : Hid (∀ w', Hid (ESt w w.heap.size (w.heap.size + 1) M n (inL evs) M n (inL evs) (.slice p1 ps.length c1) (.slice p2 ws.length c2) w') → Calls Try.prog 72 #[.agg #[.slice p1 ps.length c1, .slice p2 ws.length c2], .map (some M)] w' (Gives (.int .i64 (heavyT ps ws (fun x => inL evs (x : Int)))) w')) := Lib.hid (fun w' he => wtI ps ws _ M n (inL evs) w' EV.out.good (TV.out.boxed he.out.2.2.1) he.out.2.1.1)
    have CA : Hid (∀ w', Hid (ESt w w.heap.size (w.heap.size + 1) M n (inL evs) M n (inL evs) (.slice p1 ps.length c1) (.slice p2 ws.length c2) w') → Calls Try.prog 73 #[.agg #[.slice p1 ps.length c1, .slice p2 ws.length c2]] w' (Gives (.int .i64 ((sumsT ps ws).getD 0 0)) w')) := Lib.hid (fun w' he => wtAllI ps ws _ w' EV.out.good (TV.out.boxed he.out.2.2.1))
    have RC := Lib.hid (fun w' => reduceI_pos (heavyT ps ws (fun x => inL evs (x : Int))) ((sumsT ps ws).getD 0 0) w' (by have := heavy_bd EV.out.good (fun x => inL evs (x : Int)); omega) (by have := sumsT_root EV.out.good; have := sumsT_bd EV.out.good 0 (by have := EV.out.good.n1; omega); omega))
    obtain ⟨ha, hha⟩ : ∃ ha, ha = heavyT ps ws (fun x => inL evs (x : Int)) := ⟨_, rfl⟩
    obtain ⟨sa, hsa⟩ : ∃ sa, sa = (sumsT ps ws).getD 0 0 := ⟨_, rfl⟩
    obtain ⟨pn, pd, ok, hK⟩ := keptV_form (cutN ha sa) (cutD ha sa)
    rw [← hha] at CW RC CV
    rw [← hsa] at CA RC CV
    rw [hK] at RC CV
    have KC : Hid (∀ w', Hid (ESt w w.heap.size (w.heap.size + 1) M n (inL evs) M n (inL evs) (.slice p1 ps.length c1) (.slice p2 ws.length c2) w') → w'.cell? ⟨w.heap.size, 0, none⟩ = some (.slice p1 ps.length c1) ∧ w'.cell? ⟨w.heap.size, 1, none⟩ = some (.slice p2 ws.length c2)) := Lib.hid (fun w' he => he.out.1.cells)
    have hgR : w.heap.size ≠ w.heap.size + 1 := by omega
    have HD := Lib.hid HE1.out.drew
    clear b1 hM hmap hev x0 x1 hha hsa hK ES T1 R1
    obtain ⟨x0, x1⟩ := KC.out _ HE1
    go_wp2_with fail
    go_region_held3 (fun w' => w'.cell? ⟨w.heap.size, 0, none⟩ = some (.slice p1 ps.length c1) ∧ w'.cell? ⟨w.heap.size, 1, none⟩ = some (.slice p2 ws.length c2))
      (first | exact KC.out _ HD | exact KC.out _ (by assumption) | exact ⟨(far2 hgR).trans z0, (far2 hgR).trans z1⟩ | go_keep)
      (first
        | (go_at_call 72; (with_reducible refine (CW.out _ (by assumption)).mono ?_); rintro e w8 ⟨rfl, b8⟩; (have HE8 := Lib.hid (ESt.next (Hid.out (by assumption)) b8)); clear b8)
        | (go_at_call 73; (with_reducible refine (CA.out _ (by assumption)).mono ?_); rintro e w8 ⟨rfl, b8⟩; (have HE8 := Lib.hid (ESt.next (Hid.out (by assumption)) b8)); clear b8)
        | (go_at_call 57; (with_reducible refine (RC.out _).mono ?_); rintro e w9 ⟨rfl, b9⟩; (have HE9 : Hid (ESt w w.heap.size (w.heap.size + 1) M n (inL evs) M n (inL evs) (.slice p1 ps.length c1) (.slice p2 ws.length c2) w9) := Lib.hid (ESt.next (Hid.out (by assumption)) b9)); (have HB9 := Lib.hid HE9.out.2.2.1); (obtain ⟨z0, z1⟩ := HE9.out.1.cells); (obtain ⟨c0, c1, f0, f1⟩ := HE9.out.2.2.2.cells); clear b9))
    all_goals
      go_wp2_with fail
      refine bodyPost_ret (v := .tuple #[.agg #[.int .i64 pn, .int .i64 pd], .bool ok]) (by simp [results, Try.results34, go_sem, *]) rfl ⟨by rw [CV.out], ?_⟩
      exact (HB9.out.setCell (p := ⟨w.heap.size + 1, 0, none⟩) (by simp) _).setCell (p := ⟨w.heap.size + 1, 1, none⟩) (by simp) _
  · have CV : Hid (evChV ps ws evs = zeroP) := Lib.hid (by unfold evChV; rw [hev]; simp)
    have HB1 := Lib.hid (HBA.out.trans (b1.mono HBA.out.size))
    obtain ⟨c0, c1, f0, f1⟩ := (R1.out.below b1 R1.out.lt).cells
    clear b1 hev x0 x1
    go_wp2_with fail
    refine bodyPost_ret (v := .tuple #[.agg #[.int .i64 0, .int .i64 0], .bool false]) (by simp [results, Try.results34, go_sem, c0, c1]) rfl ⟨by rw [CV.out]; rfl, ?_⟩
    exact (HB1.out.setCell (p := ⟨w.heap.size + 1, 0, none⟩) (by simp) _).setCell (p := ⟨w.heap.size + 1, 1, none⟩) (by simp) _
end Go.Proofs.Ytfnnlkbecnjloab
