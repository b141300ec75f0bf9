/- Games in the program. -/
import Derived.Test.YtfpckfameebdnaaCapP
import Derived.Test.YtfpckfameebdnaaPBox
import Derived.Test.YtfpckfameebdnaaVBox
import Derived.Test.YtfpckfameebdnaaEnds
import Derived.BigQuiet
import Derived.IntWalk
namespace Go.Proofs.Ytfpckfameebdnaa
open Go.RowKit
set_option linter.unusedVariables false
theorem newInts_emptyG {w w1 : World} (hb : Below w.heap.size w w1) {g : Nat} (hg : g = w1.heap.size) : NewIntsB [] false w (.returned (.tuple #[.slice (some ⟨g, 0, none⟩) 0 0, .bool false])) (w1.alloc (.cells #[] 3)) := by
  subst hg; exact newInts_empty hb
/-- A box of a game. -/
def GBox (w : World) (B : Nat) (a b c d : Value) : Prop := w.heap[B]? = some (.cells #[a, b, c, d] 73 (0, 0))
theorem GBox.below {w w1 : World} {R C : Nat} {a b c d : Value} (h : GBox w R a b c d) (hb : Below C w w1) (hR : R < C) : GBox w1 R a b c d := (hb.block R hR).trans h
theorem GBox.lt {w : World} {R : Nat} {a b c d : Value} (h : GBox w R a b c d) : R < w.heap.size := by unfold GBox at h; exact (Array.getElem?_eq_some_iff.1 h).1
theorem GBox.cells {w : World} {R : Nat} {a b c d : Value} (h : GBox w R a b c d) : w.cell? ⟨R, 0, none⟩ = some a ∧ w.cell? ⟨R, 1, none⟩ = some b ∧ w.cell? ⟨R, 2, none⟩ = some c ∧ w.cell? ⟨R, 3, none⟩ = some d :=
  ⟨(cell_of_heap (o := 0) h rfl).1, (cell_of_heap (o := 1) h rfl).1, (cell_of_heap (o := 2) h rfl).1, (cell_of_heap (o := 3) h rfl).1⟩
theorem GBox.thaw {w : World} {R : Nat} {a b c d : Value} (h : GBox w R a b c d) : w.frozen? ⟨R, 0, none⟩ = false ∧ w.frozen? ⟨R, 1, none⟩ = false ∧ w.frozen? ⟨R, 2, none⟩ = false ∧ w.frozen? ⟨R, 3, none⟩ = false :=
  ⟨(cell_of_heap (o := 0) h rfl).2, (cell_of_heap (o := 1) h rfl).2, (cell_of_heap (o := 2) h rfl).2, (cell_of_heap (o := 3) h rfl).2⟩
/-- A value that is the game of a tree and payments. -/
def Game (w : World) (B : Nat) (g : Value) (ps ws zs : List Int) : Prop := ∃ v1 v2 us u, g = .agg #[v1, v2, us, u] ∧ TreeV w B (.agg #[v1, v2]) ps ws ∧ IntsV w B us (sumsT ps ws) ∧ IntsV w B u zs
theorem Game.boxed {w : World} {g : Value} {ps ws zs : List Int} (h : Game w w.heap.size g ps ws zs) {w1 : World} (hb : Below w.heap.size w w1) : Game w1 w1.heap.size g ps ws zs := by
  obtain ⟨v1, v2, us, u, e, h1, h2, h3⟩ := h
  exact ⟨v1, v2, us, u, e, h1.boxed hb, (h2.below hb).more hb.size, (h3.below hb).more hb.size⟩
theorem alt_setCell (w : World) (b o : Nat) (v : Value) : Alt b (b + 1) w (w.setCell ⟨b, o, none⟩ v) :=
  ⟨rfl, rfl, rfl, by simp [World.setCell], fun i _ hi => Below.heap_setCell _ _ _ _ (by simp; omega)⟩
def noGame : Value := .agg #[.slice none 0 0, .slice none 0 0, .slice none 0 0, .slice none 0 0]
/-- What gameOf answers. -/
def GameRes (ps ws zs : List Int) (w : World) (e : Ending) (w' : World) : Prop :=
  Below w.heap.size w w' ∧ ((procB ps ws zs = false ∧ e = .returned (.tuple #[noGame, .bool false])) ∨ (procB ps ws zs = true ∧ ∃ g, e = .returned (.tuple #[g, .bool true]) ∧ Game w' w'.heap.size g ps ws zs))
set_option maxRecDepth 100000 in
set_option maxHeartbeats 4000000 in
theorem gameI (ps ws zs : List Int) (v u : Value) (w : World) (hn1 : zs.length ≤ 1048576) (h : TreeV w w.heap.size v ps ws) (hu : IntsV w w.heap.size u zs) :
    Calls Try.prog 79 #[v, u] w (GameRes ps ws zs w) := by
  have PC := Lib.hid (fun w' (hb : Below w.heap.size w w') => procI ps ws zs v u w' hn1 (h.boxed hb) ((hu.below hb).more hb.size))
  have SU := Lib.hid (fun w' (hb : Below w.heap.size w w') => sumsI ps ws v w' (h.boxed hb))
  have TV := Lib.hid (fun w' (hb : Below w.heap.size w w') => h.boxed hb)
  have UV := Lib.hid (fun w' (hb : Below w.heap.size w w') => (hu.below hb).more hb.size)
  obtain ⟨p1, c1, p2, c2, rfl⟩ := h.shape
  obtain ⟨q, d, rfl, _⟩ := hu
  clear h
  have B1 := ((Below.refl w.heap.size w).alloc (Nat.le_refl _) (.cells #[.slice p1 ps.length c1, .slice p2 ws.length c2] 28)).alloc (by simp) (.cells #[.slice none 0 0, .slice none 0 0, .slice none 0 0, .slice none 0 0] 73)
  have K0 := alloc_two w (.cells #[.slice p1 ps.length c1, .slice p2 ws.length c2] 28) (.cells #[.slice none 0 0, .slice none 0 0, .slice none 0 0, .slice none 0 0] 73)
  obtain ⟨wa, hwa⟩ : ∃ wa, wa = (w.alloc (.cells #[.slice p1 ps.length c1, .slice p2 ws.length c2] 28)).alloc (.cells #[.slice none 0 0, .slice none 0 0, .slice none 0 0, .slice none 0 0] 73) := ⟨_, rfl⟩
  rw [← hwa] at B1 K0
  have T1 := Lib.hid (show TBox wa w.heap.size (.slice p1 ps.length c1) (.slice p2 ws.length c2) from K0.1)
  have R1 := Lib.hid (show GBox wa (w.heap.size + 1) (.slice none 0 0) (.slice none 0 0) (.slice none 0 0) (.slice none 0 0) from K0.2)
  have HBA := Lib.hid B1
  clear K0 B1
  obtain ⟨x0, x1⟩ := T1.out.cells
  cases hp : procB ps ws zs
  · rw [hp] at PC
    have HP := Lib.hid hp
    clear hp SU TV UV
    go_enter Try.func79, Try.ntmps79
    go_wp2_with fail
    rw [← hwa]
    clear hwa
    refine (PC.out _ HBA.out).mono ?_
    rintro e w1 ⟨rfl, b1⟩
    have HB1 := Lib.hid (HBA.out.trans (b1.mono HBA.out.size))
    have HR := R1.out.below b1 R1.out.lt
    obtain ⟨k0, k1, k2, k3⟩ := HR.cells
    obtain ⟨f0, f1, f2, f3⟩ := HR.thaw
    clear b1 HR
    go_wp2_with fail
    refine bodyPost_ret (v := .tuple #[noGame, .bool false]) (by simp [results, Try.results79, go_sem, k0, k1, k2, k3, noGame]) rfl ⟨?_, .inl ⟨HP.out, rfl⟩⟩
    exact (((HB1.out.setCell (p := ⟨w.heap.size + 1, 0, none⟩) (by simp) _).setCell (p := ⟨w.heap.size + 1, 1, none⟩) (by simp) _).setCell (p := ⟨w.heap.size + 1, 2, none⟩) (by simp) _).setCell (p := ⟨w.heap.size + 1, 3, none⟩) (by simp) _
  · have PR := procB_iff.1 hp
    have gd := PR.good
    have hg : goodT ps ws = true := (goodT_iff _ _).2 gd
    rw [hg, show ifGood ps ws (sumsT ps ws) = sumsT ps ws by unfold ifGood; rw [hg]; rfl] at SU
    have HP := Lib.hid hp
    rw [hp] at PC
    clear hp PR gd hg
    go_enter Try.func79, Try.ntmps79
    go_wp2_with fail
    rw [← hwa]
    clear hwa
    refine (PC.out _ HBA.out).mono ?_
    rintro e w1 ⟨rfl, b1⟩
    have HB1 := Lib.hid (HBA.out.trans (b1.mono HBA.out.size))
    have HT1 := Lib.hid (T1.out.below b1 T1.out.lt)
    have HR1 := Lib.hid (R1.out.below b1 R1.out.lt)
    clear b1 x0 x1
    obtain ⟨x0, x1⟩ := HT1.out.cells
    go_wp2_with fail
    refine (SU.out _ HB1.out).mono ?_
    rintro e w2 ⟨us, rfl, o2, b2⟩
    have HB2 := Lib.hid (HB1.out.trans (b2.mono HB1.out.size))
    have HT2 := Lib.hid (HT1.out.below b2 HT1.out.lt)
    have HR2 := HR1.out.below b2 HR1.out.lt
    clear x0 x1
    obtain ⟨x0, x1⟩ := HT2.out.cells
    obtain ⟨k0, k1, k2, k3⟩ := HR2.cells
    obtain ⟨f0, f1, f2, f3⟩ := HR2.thaw
    have HO2 := Lib.hid o2
    have L1 := Lib.hid (show w.heap.size + 1 + 1 ≤ w1.heap.size from HR1.out.lt)
    obtain ⟨qs, ds, rfl, _⟩ := o2.intsV
    have FIN : Hid (∀ w3, Below w.heap.size w w3 → Alt (w.heap.size + 1) (w.heap.size + 1 + 1) w2 w3 → Game w3 w3.heap.size (.agg #[.slice p1 ps.length c1, .slice p2 ws.length c2, .slice qs (sumsT ps ws).length ds, .slice q zs.length d]) ps ws zs) := Lib.hid (fun w3 hb ha => ⟨_, _, _, _, rfl, TV.out w3 hb, (HO2.out.alt ha (.inr L1.out)).intsV.more ha.size, UV.out w3 hb⟩)
    obtain ⟨sn, hsn⟩ : ∃ sn, sn = (sumsT ps ws).length := ⟨_, rfl⟩
    rw [← hsn] at FIN ⊢
    clear o2 hsn HR2 b2 HO2
    go_wp2_with fail
    refine bodyPost_ret (v := .tuple #[.agg #[.slice p1 ps.length c1, .slice p2 ws.length c2, .slice qs sn ds, .slice q zs.length d], .bool true]) (by simp [results, Try.results79, go_sem, *]) rfl ?_
    have A4 := (((alt_setCell w2 (w.heap.size + 1) 0 (.slice p1 ps.length c1)).trans (alt_setCell _ (w.heap.size + 1) 1 (.slice p2 ws.length c2))).trans (alt_setCell _ (w.heap.size + 1) 2 (.slice qs sn ds))).trans (alt_setCell _ (w.heap.size + 1) 3 (.slice q zs.length d))
    have B4 := (((HB2.out.setCell (p := ⟨w.heap.size + 1, 0, none⟩) (by simp) (.slice p1 ps.length c1)).setCell (p := ⟨w.heap.size + 1, 1, none⟩) (by simp) (.slice p2 ws.length c2)).setCell (p := ⟨w.heap.size + 1, 2, none⟩) (by simp) (.slice qs sn ds)).setCell (p := ⟨w.heap.size + 1, 3, none⟩) (by simp) (.slice q zs.length d)
    exact ⟨B4, .inr ⟨HP.out, _, rfl, FIN.out _ B4 A4⟩⟩
set_option maxRecDepth 100000 in
set_option maxHeartbeats 2000000 in
theorem paidI (ps ws zs : List Int) (g : Value) (x : Nat) (w : World) (pr : Proc ps ws zs) (hx : x < ps.length) (h : Game w w.heap.size g ps ws zs) :
    Calls Try.prog 84 #[g, .int .i64 x] w (Gives (.int .i64 ((sumsT ps ws).getD x 0 * zs.getD x 0)) w) := by
  have os := own_small pr hx
  have sl := sumsT_len pr.good.nw
  have zl := pr.len
  have hn24 := pr.good.n24
  obtain ⟨v1, v2, us, u, rfl, h1, h2, h3⟩ := h
  obtain ⟨p1, c1, p2, c2, hs⟩ := h1.shape
  injection hs with hs
  injection hs with hs
  injection hs with hs1 hs
  injection hs with hs2 hs
  subst hs1; subst hs2
  clear hs
  obtain ⟨p3, c3, rfl, _, _, _, j3⟩ := h2
  obtain ⟨p4, c4, rfl, _, _, _, j4⟩ := h3
  obtain ⟨b3, o3, hq3, hb3, hc3⟩ := j3.get (i := x) (by omega)
  obtain ⟨b4, o4, hq4, hb4, hc4⟩ := j4.get (i := x) (by omega)
  subst hq3; subst hq4
  have B1 := (Below.refl w.heap.size w).alloc (Nat.le_refl _) (.cells #[.slice p1 ps.length c1, .slice p2 ws.length c2, .slice (some ⟨b3, o3, none⟩) (sumsT ps ws).length c3, .slice (some ⟨b4, o4, none⟩) zs.length c4] 73)
  have R1 := show GBox (w.alloc (.cells #[.slice p1 ps.length c1, .slice p2 ws.length c2, .slice (some ⟨b3, o3, none⟩) (sumsT ps ws).length c3, .slice (some ⟨b4, o4, none⟩) zs.length c4] 73)) w.heap.size _ _ _ _ from alloc_heap w _
  have i0 : (0 : Int) ≤ (x : Int) := by omega
  have i1 : (x : Int) < ((sumsT ps ws).length : Int) := by omega
  have i2 : (x : Int) < (zs.length : Int) := by omega
  obtain ⟨c0, c1', c2', c3'⟩ := R1.cells
  have hk3 := (B1.cell (p := ⟨b3, o3 + x, none⟩) hb3).trans hc3
  have hk4 := (B1.cell (p := ⟨b4, o4 + x, none⟩) hb4).trans hc4
  obtain ⟨a, ha⟩ : ∃ a, a = (sumsT ps ws).getD x 0 := ⟨_, rfl⟩
  obtain ⟨c, hcc⟩ : ∃ c, c = zs.getD x 0 := ⟨_, rfl⟩
  obtain ⟨sn, hsn⟩ : ∃ sn, sn = (sumsT ps ws).length := ⟨_, rfl⟩
  rw [← ha] at hk3 os ⊢
  rw [← hcc] at hk4 os ⊢
  rw [← hsn] at i1 hk3 hk4 c0 c1' c2' c3' B1 R1 ⊢
  obtain ⟨wa, hwa⟩ : ∃ wa, wa = w.alloc (.cells #[.slice p1 ps.length c1, .slice p2 ws.length c2, .slice (some ⟨b3, o3, none⟩) sn c3, .slice (some ⟨b4, o4, none⟩) zs.length c4] 73) := ⟨_, rfl⟩
  rw [← hwa] at B1 R1 hk3 hk4 c0 c1' c2' c3'
  have HB := Lib.hid B1
  have WR : IntKind.i64.wrap (a * c) = a * c := IntWalk.i64_in _ (by omega)
  clear j3 j4 hc3 hc4 h1 ha hcc hsn R1 B1 pr sl zl
  go_enter Try.func84, Try.ntmps84
  go_upto_region 1 with fail
  rw [← hwa]
  clear hwa
  go_region
  go_wp2_with fail
  go_ret
  exact ⟨rfl, by first | exact below_drew HB.out | exact below_drewN HB.out _⟩
end Go.Proofs.Ytfpckfameebdnaa
