/- DoCover in the program. -/
import Derived.Test.YtfpckfameebdnaaDcoP
namespace Go.Proofs.Ytfpckfameebdnaa
open Go.RowKit
set_option linter.unusedVariables false
set_option maxRecDepth 100000 in
set_option maxHeartbeats 4000000 in
theorem dcoI (ps ws zs cs : List Int) (v u cv : Value) (w : World) (hn1 : zs.length ≤ 1048576) (hn2 : cs.length ≤ 1048576) (h : TreeV w w.heap.size v ps ws) (hu : IntsV w w.heap.size u zs) (hc : IntsV w w.heap.size cv cs) :
    Calls Try.prog 25 #[v, u, cv] w (Gives (.tuple #[.bool (dcoB ps ws zs cs), .bool (procB ps ws zs)]) w) := by
  have GC := Lib.hid (fun w' (hb : Below w.heap.size w w') => gameI ps ws zs v u w' hn1 (h.boxed hb) ((hu.below hb).more hb.size))
  obtain ⟨p1, c1, p2, c2, rfl⟩ := h.shape
  have AW := Lib.hid (fun w' (hb : Below w.heap.size w w') => withinIB cs cv (zs.length : Int) 1000000000 w' (by omega) hn2 ((hc.below hb).more hb.size))
  have CV := Lib.hid (fun w' (hb : Below w.heap.size w w') => (hc.below hb).more hb.size)
  obtain ⟨q, d, rfl, _⟩ := hu
  obtain ⟨qc, dc, rfl, _, _, _, jc⟩ := hc
  have C1 := Lib.hid jc
  clear jc
  have hTV := h
  clear h
  have B1 := (Below.refl w.heap.size w).alloc (Nat.le_refl _) (.cells #[.slice p1 ps.length c1, .slice p2 ws.length c2] 28)
  have T1 := Lib.hid (show TBox (w.alloc (.cells #[.slice p1 ps.length c1, .slice p2 ws.length c2] 28)) w.heap.size (.slice p1 ps.length c1) (.slice p2 ws.length c2) from alloc_heap w _)
  obtain ⟨x0, x1⟩ := T1.out.cells
  obtain ⟨wa, hwa⟩ : ∃ wa, wa = w.alloc (.cells #[.slice p1 ps.length c1, .slice p2 ws.length c2] 28) := ⟨_, rfl⟩
  rw [← hwa] at B1 T1
  have HBA := Lib.hid B1
  have TVA := Lib.hid (hTV.boxed B1)
  clear B1 hTV
  have GC2 := Lib.hid (GC.out wa HBA.out)
  cases hp : procB ps ws zs
  · have IS := Lib.hid (show dcoB ps ws zs cs = false by unfold dcoB; rw [hp]; rfl)
    rw [IS.out]
    have G3 : Hid (Calls Try.prog 79 #[.agg #[.slice p1 ps.length c1, .slice p2 ws.length c2], .slice q zs.length d] wa (Gives (.tuple #[noGame, .bool false]) wa)) := Lib.hid (GC2.out.mono (fun e w1 hh => by
      obtain ⟨hb, ⟨_, h2⟩ | ⟨h1, _⟩⟩ := hh
      · exact ⟨h2, hb⟩
      · rw [hp] at h1; cases h1))
    clear hp GC GC2 AW CV
    unfold noGame at G3
    go_enter Try.func25, Try.ntmps25
    go_wp2_with fail
    rw [← hwa]
    clear hwa x0 x1
    refine G3.out.mono ?_
    rintro e w1 ⟨rfl, b1⟩
    have HB1 := HBA.out.trans (b1.mono HBA.out.size)
    have HB2 := Lib.hid (HB1.alloc HB1.size (.cells #[.slice none 0 0, .slice none 0 0, .slice none 0 0, .slice none 0 0] 73))
    clear b1 HB1
    go_wp2_with fail
    go_ret2
    exact ⟨rfl, HB2.out⟩
  · have PR := Lib.hid (procB_iff.1 hp)
    have G3 : Hid (Calls Try.prog 79 #[.agg #[.slice p1 ps.length c1, .slice p2 ws.length c2], .slice q zs.length d] wa (fun e w' => ∃ g, e = .returned (.tuple #[g, .bool true]) ∧ Game w' w'.heap.size g ps ws zs ∧ Below wa.heap.size wa w')) := Lib.hid (GC2.out.mono (fun e w1 hh => by
      obtain ⟨hb, ⟨h1, _⟩ | ⟨_, g, h2, h3⟩⟩ := hh
      · rw [hp] at h1; cases h1
      · exact ⟨g, h2, h3, hb⟩))
    have GO := Lib.hid (fun g w1 (hg : Game w1 w1.heap.size g ps ws zs) w2 u (hb : Below w1.heap.size w1 w2) (hC : cs.length = ps.length) (hbd : ∀ y, y < ps.length → (cs.getD y 0).natAbs ≤ 1000000000) (hv : IntsV w2 w2.heap.size u cs) => goingI ps ws zs cs 0 g u w2 PR.out hC hbd (hg.boxed hb) hv)
    have PD := Lib.hid (fun g w1 (hg : Game w1 w1.heap.size g ps ws zs) w2 (x : Nat) (hx : x < ps.length) (hb : Below w1.heap.size w1 w2) => paidI ps ws zs g x w2 PR.out hx (hg.boxed hb))
    have IE := Lib.hid (fun w2 (x : Nat) (hx : x < ps.length) (hb : Below wa.heap.size wa w2) => isEndC (x := x) PR.out.good hx (TVA.out.boxed hb))
    have OS := Lib.hid (fun (x : Nat) (hx : x < ps.length) => own_small PR.out hx)
    have ZL := Lib.hid PR.out.len
    have HP := Lib.hid hp
    have hn24 := PR.out.good.n24
    have hn0 := PR.out.good.n1
    clear hp GC GC2
    go_enter Try.func25, Try.ntmps25
    go_wp2_with fail
    rw [← hwa]
    clear hwa x0 x1
    refine G3.out.mono ?_
    rintro e w1 ⟨g, rfl, hg, b1⟩
    have HB1 := HBA.out.trans (b1.mono HBA.out.size)
    obtain ⟨P1, C1', P2, C2, P3, N3, C3, P4, C4, rfl⟩ := hg.parts
    have HG := Lib.hid hg
    have HB2 := Lib.hid (HB1.alloc HB1.size (.cells #[.slice P1 ps.length C1', .slice P2 ws.length C2, .slice P3 N3 C3, .slice P4 zs.length C4] 73))
    have BW := Lib.hid ((Below.refl w1.heap.size w1).alloc (Nat.le_refl _) (.cells #[.slice P1 ps.length C1', .slice P2 ws.length C2, .slice P3 N3 C3, .slice P4 zs.length C4] 73))
    have R1 := Lib.hid (show GBox (w1.alloc (.cells #[.slice P1 ps.length C1', .slice P2 ws.length C2, .slice P3 N3 C3, .slice P4 zs.length C4] 73)) w1.heap.size (.slice P1 ps.length C1') (.slice P2 ws.length C2) (.slice P3 N3 C3) (.slice P4 zs.length C4) from alloc_heap w1 _)
    obtain ⟨y0, y1, y2, y3⟩ := R1.out.cells
    have b1' := b1
    clear b1 HB1 hg
    obtain ⟨wb, hwb⟩ : ∃ wb, wb = w1.alloc (.cells #[.slice P1 ps.length C1', .slice P2 ws.length C2, .slice P3 N3 C3, .slice P4 zs.length C4] 73) := ⟨_, rfl⟩
    rw [← hwb] at HB2 BW R1
    have T2 := Lib.hid (T1.out.below (b1'.trans (BW.out.mono b1'.size)) T1.out.lt)
    have KC : Hid (∀ w', Hid (Below wb.heap.size wb w') → (w'.cell? ⟨w1.heap.size, 0, none⟩ = some (.slice P1 ps.length C1') ∧ w'.cell? ⟨w1.heap.size, 1, none⟩ = some (.slice P2 ws.length C2) ∧ w'.cell? ⟨w1.heap.size, 2, none⟩ = some (.slice P3 N3 C3) ∧ w'.cell? ⟨w1.heap.size, 3, none⟩ = some (.slice P4 zs.length C4)) ∧ w'.cell? ⟨w.heap.size, 0, none⟩ = some (.slice p1 ps.length c1) ∧ w'.cell? ⟨w.heap.size, 1, none⟩ = some (.slice p2 ws.length c2)) := Lib.hid (fun w' hb => ⟨(R1.out.below hb.out R1.out.lt).cells, (T2.out.below hb.out T2.out.lt).cells⟩)
    have HAB := Lib.hid (b1'.trans (BW.out.mono b1'.size))
    have PD2 := Lib.hid (fun w' (x : Nat) (hx : x < ps.length) (hb : Hid (Below wb.heap.size wb w')) => PD.out _ w1 HG.out w' x hx (BW.out.trans (hb.out.mono BW.out.size)))
    have IE2 := Lib.hid (fun w' (x : Nat) (hx : x < ps.length) (hb : Hid (Below wb.heap.size wb w')) => IE.out w' x hx (HAB.out.trans (hb.out.mono HAB.out.size)))
    have GO2 := Lib.hid (fun w' (hb : Hid (Below wb.heap.size wb w')) hC hbd hv => GO.out _ w1 HG.out w' (.slice qc cs.length dc) (BW.out.trans (hb.out.mono BW.out.size)) hC hbd hv)
    have AW2 := Lib.hid (AW.out wb HB2.out)
    clear PD IE GO AW
    go_wp2_with fail
    rw [← hwb]
    clear hwb y0 y1 y2 y3 b1'
    refine AW2.out.mono ?_
    rintro e w2 ⟨rfl, b2⟩
    have HB3 : Hid (Below wb.heap.size wb w2) := Lib.hid b2
    obtain ⟨⟨y0, y1, y2, y3⟩, x0, x1⟩ := KC.out w2 HB3
    clear b2 AW2
    cases hw : (decide ((cs.length : Int) = (zs.length : Int)) && withinB 1000000000 cs)
    · have IS := Lib.hid (show dcoB ps ws zs cs = false by unfold dcoB; rw [hw]; simp)
      have FIN := Lib.hid (HB2.out.trans (HB3.out.mono HB2.out.size))
      clear hw
      go_wp2_with fail
      go_ret2
      exact ⟨by rw [IS.out]; rfl, FIN.out⟩
    · have HW := Lib.hid hw
      have cl : cs.length = ps.length := by
        rw [Bool.and_eq_true, decide_eq_true_iff] at hw
        have := ZL.out
        omega
      have cbd : ∀ y, y < ps.length → (cs.getD y 0).natAbs ≤ 1000000000 := fun y hy => by
        rw [Bool.and_eq_true] at hw
        have := within_at hw.2 (i := y) (by omega)
        omega
      have CBD := Lib.hid cbd
      have CL1 : cs.length ≤ ps.length := by omega
      have CL2 : ps.length ≤ cs.length := by omega
      have GC3 := Lib.hid (GO2.out w2 HB3 cl cbd (CV.out w2 (HB2.out.trans (HB3.out.mono HB2.out.size))))
      clear hw cl cbd GO2 CV
      go_wp2_with fail
      refine GC3.out.mono ?_
      rintro e w3 ⟨ug, rfl, o3, b3⟩
      obtain ⟨gg, cg, rfl, hg1, hg2⟩ := o3.shape (by rw [gonL_len]; omega)
      have HB4 : Hid (Below wb.heap.size wb w3) := Lib.hid (HB3.out.trans (b3.mono HB3.out.size))
      have DC : Hid (∀ y, y < ps.length → w3.cell? ⟨gg, y, none⟩ = some (.int .i64 (kidT ps cs y))) := Lib.hid (fun y hy => by
        have := o3.cellGet (j := y) (by rw [gonL_len]; exact hy)
        rwa [gonL_all hy] at this)
      have GG := Lib.hid hg2
      have GLN := gonL_len ps cs ps.length
      obtain ⟨gn, hgn⟩ : ∃ gn, gn = (gonL ps cs ps.length).length := ⟨_, rfl⟩
      have gl1 : gn ≤ ps.length := by omega
      have gl2 : ps.length ≤ gn := by omega
      rw [← hgn]
      clear o3 b3 hg1 hg2 hgn GLN x0 x1 y0 y1 y2 y3 GC3
      have KX := Lib.hid (fun (x : Nat) (hx : x < ps.length) => show dcoX ps ws zs cs x = (decide ((sumsT ps ws).getD x 0 * zs.getD x 0 ≤ cs.getD x 0) && (leafB ps x || decide (kidT ps cs x ≤ cs.getD x 0))) from rfl)
      have A0 : Hid (∀ x, x < 0 → dcoX ps ws zs cs x = true) := Lib.hid (fun x hx => by omega)
      go_wp2_with fail
      go_loopg [34] ps.length (fun gq i wr => ∃ k : Nat, k ≤ ps.length ∧ ps.length - k ≤ gq ∧ i = .int .i64 k ∧ Hid (∀ x, x < k → dcoX ps ws zs cs x = true) ∧ Hid (Below w3.heap.size w3 wr))
      case atStart => exact ⟨0, Nat.zero_le _, by omega, rfl, A0, Lib.hid (Below.refl _ _)⟩
      case round =>
        clear A0
        obtain ⟨k, hk, hgq, rfl, HA, HB⟩ := hrel
        have HBX : Hid (Below wb.heap.size wb wr) := Lib.hid (HB4.out.trans (HB.out.mono HB4.out.size))
        obtain ⟨⟨y0, y1, y2, y3⟩, x0, x1⟩ := KC.out wr HBX
        by_cases hlt : k < ps.length
        · obtain ⟨bz, oz, hqz, hbz, hcz⟩ := C1.out.get (i := k) (by omega)
          subst hqz
          have hck : wr.cell? ⟨bz, oz + k, none⟩ = some (.int .i64 (cs.getD k 0)) := by
            rw [(HB2.out.trans (HBX.out.mono HB2.out.size)).cell (p := ⟨bz, oz + k, none⟩) hbz]; exact hcz
          have P1 := Lib.hid (PD2.out wr k hlt HBX)
          have os := OS.out k hlt
          have cb := CBD.out k hlt
          have NO := Lib.hid (fun h => dco_no (ps := ps) (ws := ws) (zs := zs) (cs := cs) hlt h)
          have kx := KX.out k hlt
          have i0 : (0 : Int) ≤ (k : Int) := by omega
          have i1 : (k : Int) < (ps.length : Int) := by omega
          have i2 : (k : Int) < (cs.length : Int) := by omega
          have i3 : (k : Int) < (gn : Int) := by omega
          have dk := DC.out k hlt
          obtain ⟨o, ho⟩ : ∃ o, o = (sumsT ps ws).getD k 0 * zs.getD k 0 := ⟨_, rfl⟩
          obtain ⟨c, hcc⟩ : ∃ c, c = cs.getD k 0 := ⟨_, rfl⟩
          obtain ⟨kk, hkk⟩ : ∃ kk, kk = kidT ps cs k := ⟨_, rfl⟩
          rw [← ho] at P1 os kx
          rw [← hcc] at hck kx cb
          rw [← hkk] at kx dk
          clear ho hcc hkk hcz hbz
          by_cases h1 : c < o
          · have R := Lib.hid (NO.out (by rw [kx, decide_eq_false (by omega)]; rfl))
            clear NO kx cb os
            go_wp2_with fail
            refine P1.out.mono ?_
            rintro e w4 ⟨rfl, b4⟩
            have FIN := Lib.hid (HB2.out.trans ((HBX.out.trans (b4.mono HBX.out.size)).mono HB2.out.size))
            clear b4
            go_wp2_with fail
            go_ret2
            exact ⟨by rw [R.out]; rfl, FIN.out⟩
          · have E1 := Lib.hid (fun w' (hb : Hid (Below wb.heap.size wb w')) => IE2.out w' k hlt hb)
            have h1' : o ≤ c := by omega
            cases hl : leafB ps k
            · rw [hl] at E1 kx
              by_cases h2 : c < kk
              · have R := Lib.hid (NO.out (by rw [kx, decide_eq_false (show ¬ kk ≤ c by omega)]; simp))
                clear NO kx cb os hl
                go_wp2_with fail
                refine P1.out.mono ?_
                rintro e w4 ⟨rfl, b4⟩
                have HB5 : Hid (Below wb.heap.size wb w4) := Lib.hid (HBX.out.trans (b4.mono HBX.out.size))
                have HB6 := Lib.hid (HB.out.trans (b4.mono HB.out.size))
                clear b4 x0 x1 y0 y1 y2 y3
                obtain ⟨⟨y0, y1, y2, y3⟩, x0, x1⟩ := KC.out w4 HB5
                go_wp2_with fail
                refine (E1.out w4 HB5).mono ?_
                rintro e w5 ⟨rfl, b5⟩
                have HB7 : Hid (Below wb.heap.size wb w5) := Lib.hid (HB5.out.trans (b5.mono HB5.out.size))
                have HB8 := HB6.out.trans (b5.mono HB6.out.size)
                have dk5 := (HB8.cell (p := ⟨gg, k, none⟩) GG.out).trans dk
                have FIN := Lib.hid (HB2.out.trans (HB7.out.mono HB2.out.size))
                clear b5 HB8
                go_wp2_with fail
                go_ret2
                exact ⟨by rw [R.out]; rfl, FIN.out⟩
              · have NX : Hid (∀ x, x < k + 1 → dcoX ps ws zs cs x = true) := Lib.hid (fun x hx => by
                  rcases Nat.lt_or_ge x k with h' | h'
                  · exact HA.out x h'
                  · obtain rfl : x = k := by omega
                    rw [kx, decide_eq_true h1', decide_eq_true (show kk ≤ c by omega)]; rfl)
                have h2' : kk ≤ c := by omega
                clear NO kx cb os hl HA
                go_wp2_with fail
                refine P1.out.mono ?_
                rintro e w4 ⟨rfl, b4⟩
                have HB5 : Hid (Below wb.heap.size wb w4) := Lib.hid (HBX.out.trans (b4.mono HBX.out.size))
                have HB6 := Lib.hid (HB.out.trans (b4.mono HB.out.size))
                clear b4 x0 x1 y0 y1 y2 y3
                obtain ⟨⟨y0, y1, y2, y3⟩, x0, x1⟩ := KC.out w4 HB5
                go_wp2_with fail
                refine (E1.out w4 HB5).mono ?_
                rintro e w5 ⟨rfl, b5⟩
                have HB8 := Lib.hid (HB6.out.trans (b5.mono HB6.out.size))
                have dk5 := (HB8.out.cell (p := ⟨gg, k, none⟩) GG.out).trans dk
                clear b5
                go_wp2_with fail
                go_roundg (ps.length - (k + 1))
                case rel => exact ⟨k + 1, by omega, by omega, by go_num, NX, HB8⟩
                case measure => omega
            · rw [hl] at E1 kx
              have NX : Hid (∀ x, x < k + 1 → dcoX ps ws zs cs x = true) := Lib.hid (fun x hx => by
                rcases Nat.lt_or_ge x k with h' | h'
                · exact HA.out x h'
                · obtain rfl : x = k := by omega
                  rw [kx, decide_eq_true h1']; rfl)
              clear NO kx cb os hl HA
              go_wp2_with fail
              refine P1.out.mono ?_
              rintro e w4 ⟨rfl, b4⟩
              have HB5 : Hid (Below wb.heap.size wb w4) := Lib.hid (HBX.out.trans (b4.mono HBX.out.size))
              have HB6 := Lib.hid (HB.out.trans (b4.mono HB.out.size))
              clear b4 x0 x1 y0 y1 y2 y3
              obtain ⟨⟨y0, y1, y2, y3⟩, x0, x1⟩ := KC.out w4 HB5
              go_wp2_with fail
              refine (E1.out w4 HB5).mono ?_
              rintro e w5 ⟨rfl, b5⟩
              have HB8 := Lib.hid (HB6.out.trans (b5.mono HB6.out.size))
              clear b5
              go_wp2_with fail
              go_roundg (ps.length - (k + 1))
              case rel => exact ⟨k + 1, by omega, by omega, by go_num, NX, HB8⟩
              case measure => omega
        · have R := Lib.hid (dco_yes HP.out HW.out (fun x hx => HA.out x (by omega)))
          have FIN := Lib.hid (HB2.out.trans (HBX.out.mono HB2.out.size))
          have i3 : ¬ (k : Int) < (cs.length : Int) := by omega
          clear HA
          go_wp2_with fail
          go_ret2
          exact ⟨by rw [R.out]; rfl, FIN.out⟩
end Go.Proofs.Ytfpckfameebdnaa
