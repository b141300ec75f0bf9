/- EnvelopeOf in the model. -/
import Derived.Test.YtagljebfbacdhaaEnvI
import Derived.Test.YtagljebfbacdhaaCapM
import Derived.Test.YtagljebfbacdhaaFracC
import Derived.Test.YtagljebfbacdhaaPay4
import Derived.Test.YtagljebfbacdhaaOwnP
import Derived.Deep.RegionHeld3
import Derived.Deep.LoopGhost
import Derived.Deep.AppendLies
import Derived.BigRegion
import Derived.Deep.RegionLaw
import Derived.Deep.DeepCutAuto
namespace Go.Proofs.Ytagljebfbacdhaa
open Go.RowKit
set_option linter.unusedVariables false
theorem ne_grownV {w w3 : World} {r : Option Nat} {g : Nat} (hg : w.grownBy w3 r) (hs : g < w.heap.size) (hne : ∀ q, r = some q → q ≠ g) (o : Nat) : w3.cell? ⟨g, o, none⟩ = w.cell? ⟨g, o, none⟩ := by
  have h := hg.block g hs (fun e => hne g e.symm rfl)
  unfold World.cell?
  rw [h]
theorem hb_nextV {wa a b : World} (h : Hid (Below wa.heap.size wa a)) (k : Below a.heap.size a b) : Hid (Below wa.heap.size wa b) := Lib.hid (h.out.trans (k.mono h.out.size))
/-- What the two rows are behind the statement. -/
structure EnvR (w1 : World) (n : Nat) (S P : List Int) (gs gp : Nat) (wx : World) : Prop where
  su : ∀ j, j < n → wx.cell? ⟨gs, j, none⟩ = some (.int .i64 (S.getD j 0))
  pr : ∀ j, j < n → wx.cell? ⟨gp, j, none⟩ = some (.int .i64 (P.getD j 0))
  ne : w1.heap.size ≤ gs ∧ w1.heap.size ≤ gp ∧ gs < wx.heap.size ∧ gp < wx.heap.size
  bel : Below w1.heap.size w1 wx
set_option maxRecDepth 100000 in
set_option maxHeartbeats 8000000 in
theorem envM (ps ws zs : List Int) (v u : Value) (w : World) (hn1 : zs.length ≤ 1048576) (h : TreeV w w.heap.size v ps ws) (hu : IntsV w w.heap.size u zs) :
    Calls Try.prog 25 #[v, u] w (NewQB (envLen ps ws zs) (envL ps ws zs) (procB ps ws zs) w) := by
  have PC := Lib.hid (fun w' (hb : Below w.heap.size w w') => pays4 ps ws zs v u w' hn1 (h.boxed hb) ((hu.below hb).more hb.size))
  have CPS := Lib.hid (fun (pr : Proc ps ws zs) w' (hb : Below w.heap.size w w') => show Calls Try.prog 58 #[v, u] w' (NewInts (capW ps ws zs) w') from caps4S ps ws zs v u w' pr (h.boxed hb) ((hu.below hb).more hb.size))
  have SUS := Lib.hid (fun (pr : Proc ps ws zs) w' (hb : Below w.heap.size w w') => sumsS ps ws v w' pr.good (h.boxed hb))
  obtain ⟨p1, c1, p2, c2, rfl⟩ := h.shape
  obtain ⟨q, cq, rfl, _⟩ := hu
  clear h
  have B1 := ((Below.refl w.heap.size w).alloc (Nat.le_refl _) (.cells #[.slice p1 ps.length c1, .slice p2 ws.length c2] 28)).alloc (by simp) (.cells #[] 34)
  have T0 := TBox.alloc (show TBox (w.alloc (.cells #[.slice p1 ps.length c1, .slice p2 ws.length c2] 28)) w.heap.size (.slice p1 ps.length c1) (.slice p2 ws.length c2) from alloc_heap w _) (.cells #[] 34)
  have O0 := OwnQ.empty (w.alloc (.cells #[.slice p1 ps.length c1, .slice p2 ws.length c2] 28)) (w.heap.size + 1) (by simp)
  rw [show (w.alloc (.cells #[.slice p1 ps.length c1, .slice p2 ws.length c2] 28)).heap.size = w.heap.size + 1 by simp] at O0
  obtain ⟨wa, hwa⟩ : ∃ wa, wa = (w.alloc (.cells #[.slice p1 ps.length c1, .slice p2 ws.length c2] 28)).alloc (.cells #[] 34) := ⟨_, rfl⟩
  have sz : wa.heap.size = w.heap.size + 2 := by rw [hwa]; simp
  rw [← hwa] at B1 T0 O0
  have HBA := Lib.hid B1
  have T1 := Lib.hid T0
  have O1 := Lib.hid O0
  have SZ := Lib.hid sz
  clear B1 T0 O0 sz
  obtain ⟨x0, x1⟩ := T1.out.cells
  cases hp : procB ps ws zs
  · have ML : Hid (envLen ps ws zs = 0) := Lib.hid (by unfold envLen; rw [hp]; rfl)
    have ME : Hid (envL ps ws zs = []) := Lib.hid (by unfold envL; rw [hp]; rfl)
    rw [hp] at PC
    rw [ML.out, ME.out]
    clear hp CPS SUS
    go_enter Try.func25, Try.ntmps25
    go_wp2_with fail
    rw [← hwa]
    clear hwa x0 x1
    refine (PC.out _ HBA.out).mono ?_
    rintro e w1 ⟨rfl, b1⟩
    have FIN : Hid (NewQB 0 [] false w (.returned (.tuple #[.slice (some ⟨w.heap.size + 1, 0, none⟩) 0 0, .bool false])) w1) := Lib.hid ⟨_, rfl, ((O1.out.below b1).wide b1.size (Nat.le_refl _)).low (by omega), HBA.out.trans (b1.mono HBA.out.size)⟩
    clear b1
    go_wp2_with fail
    go_ret2
    exact FIN.out
  · have ML : Hid (envLen ps ws zs = ps.length) := Lib.hid (by unfold envLen; rw [if_pos hp])
    have ME : Hid (envL ps ws zs = prL (envN ps ws zs) (envD ps ws zs) ps.length) := Lib.hid (by unfold envL; rw [if_pos hp])
    have PR := procB_iff.1 hp
    have CP2 := Lib.hid (CPS.out PR)
    have SU2 := Lib.hid (SUS.out PR)
    have hn24 := PR.good.n24
    have hn0 := PR.good.n1
    have SL : Hid ((sumsT ps ws).length = ps.length) := Lib.hid (sumsT_len PR.good.nw)
    have PL : Hid ((capW ps ws zs).length = ps.length) := Lib.hid (capW_len ps ws zs)
    have BD := Lib.hid (fun x (hx : x < ps.length) => env_bd PR (x := x) hx)
    have RC : Hid (∀ (x : Nat) (w' : World), x < ps.length → Calls Try.prog 60 #[.int .i64 ((capW ps ws zs).getD x 0), .int .i64 ((sumsT ps ws).getD x 0)] w' (Gives (.agg #[.int .i64 (envN ps ws zs x), .int .i64 (envD ps ws zs x)]) w')) := Lib.hid (fun x w' hx => by
      have h1 := capW_bd PR hx
      have h2 := sums_pos PR.good x hx
      have h3 := (sumsT_bd PR.good x hx).2
      exact cutS _ _ w' (by omega) (by omega))
    rw [hp] at PC
    rw [ML.out, ME.out]
    clear hp CPS SUS PR ML ME
    obtain ⟨n, hn⟩ : ∃ n, n = ps.length := ⟨_, rfl⟩
    obtain ⟨S, hS⟩ : ∃ S, S = sumsT ps ws := ⟨_, rfl⟩
    obtain ⟨P, hP⟩ : ∃ P, P = capW ps ws zs := ⟨_, rfl⟩
    obtain ⟨A, hA⟩ : ∃ A, A = envN ps ws zs := ⟨_, rfl⟩
    obtain ⟨B, hB⟩ : ∃ B, B = envD ps ws zs := ⟨_, rfl⟩
    rw [← hn] at SL PL BD RC T1 hn24 hn0 hwa SU2 CP2 PC x0 ⊢
    rw [← hS] at SL RC SU2
    rw [← hP] at PL RC CP2
    rw [← hA] at BD RC ⊢
    rw [← hB] at BD RC ⊢
    clear hn hS hP hA hB
    go_enter Try.func25, Try.ntmps25
    go_wp2_with fail
    rw [← hwa]
    clear hwa x0 x1
    refine (PC.out _ HBA.out).mono ?_
    rintro e w1 ⟨rfl, b1⟩
    have HB1 := Lib.hid (HBA.out.trans (b1.mono HBA.out.size))
    have HT1 := Lib.hid (T1.out.below b1 T1.out.lt)
    have HO1 := Lib.hid ((O1.out.below b1).wide b1.size (Nat.le_refl _))
    have SZ1 := Lib.hid (show w.heap.size + 2 ≤ w1.heap.size from by have := SZ.out; have := b1.size; omega)
    obtain ⟨x0, x1⟩ := HT1.out.cells
    clear b1 T1 O1 HBA SZ PC
    go_upto_region 4 with fail
    go_cut [7, 8] (fun cv sv wx => ∃ gp cp gs cs, cv = .slice (some ⟨gp, 0, none⟩) n cp ∧ sv = .slice (some ⟨gs, 0, none⟩) n cs ∧ Hid (EnvR w1 n S P gs gp wx))
    case first =>
      have HD : Hid (Below w1.heap.size w1 w1.drew) := Lib.hid (below_drew (Below.refl _ _))
      have KC : Hid (∀ w', Hid (Below w1.heap.size w1 w') → w'.cell? ⟨w.heap.size, 0, none⟩ = some (.slice p1 n c1) ∧ w'.cell? ⟨w.heap.size, 1, none⟩ = some (.slice p2 ws.length c2)) := Lib.hid (fun w' hb => (HT1.out.below hb.out HT1.out.lt).cells)
      have CS : Hid (∀ w', Hid (Below w1.heap.size w1 w') → Calls Try.prog 59 #[.agg #[.slice p1 n c1, .slice p2 ws.length c2]] w' (NewInts S w')) := Lib.hid (fun w' hb => SU2.out w' (HB1.out.trans (hb.out.mono HB1.out.size)))
      have CT : Hid (∀ w', Hid (Below w1.heap.size w1 w') → Calls Try.prog 58 #[.agg #[.slice p1 n c1, .slice p2 ws.length c2], .slice q zs.length cq] w' (NewInts P w')) := Lib.hid (fun w' hb => CP2.out w' (HB1.out.trans (hb.out.mono HB1.out.size)))
      go_region_held3 (fun w' => w'.cell? ⟨w.heap.size, 0, none⟩ = some (.slice p1 n c1) ∧ w'.cell? ⟨w.heap.size, 1, none⟩ = some (.slice p2 ws.length c2))
        (first | with_reducible exact KC.out _ HE9 | with_reducible exact KC.out _ HE8 | with_reducible exact KC.out _ HD | go_keep)
        (first
          | (go_at_call 58; (with_reducible refine (CT.out _ HD).mono ?_); rintro e w8 ⟨u8, rfl, o8, b8⟩; (obtain ⟨gp, cp, rfl, hp1, hp2⟩ := o8.shape (by rw [PL.out]; exact hn0)); (have HE8 := hb_nextV HD b8))
          | (go_at_call 59; (with_reducible refine (CS.out _ HE8).mono ?_); rintro e w9 ⟨u9, rfl, o9, b9⟩; (obtain ⟨gs, cs, rfl, hs1, hs2⟩ := o9.shape (by rw [SL.out]; exact hn0)); (have HE9 := hb_nextV HE8 b9)))
      all_goals
        go_wp2_with fail
        go_meet
        refine ⟨_, _, _, _, by rw [PL.out], by rw [SL.out], Lib.hid ⟨fun j hj => o9.cellGet (by rw [SL.out]; exact hj), fun j hj => (b9.cell (p := ⟨gp, j, none⟩) hp2).trans (o8.cellGet (by rw [PL.out]; exact hj)), ?_, HE9.out⟩⟩
        have e1 : w1.drew.heap.size = w1.heap.size := rfl
        have e2 := b8.size
        have e3 := b9.size
        omega
    obtain ⟨gp, cp, gs, cs, rfl, rfl, hT⟩ := hcut
    obtain ⟨w3, rfl⟩ : ∃ w3 : World, w3 = wc := ⟨_, rfl⟩
    have S3 := Lib.hid hT.out.su
    have P3 := Lib.hid hT.out.pr
    have NE := hT.out.ne
    have BX := hT.out.bel
    have O3 := Lib.hid ((HO1.out.below BX).wide BX.size (Nat.le_refl _))
    have T3 := Lib.hid (HT1.out.below BX HT1.out.lt)
    have B3 := Lib.hid (HB1.out.trans (BX.mono HB1.out.size))
    have G3 : Hid (gs < w3.heap.size ∧ gp < w3.heap.size) := Lib.hid ⟨NE.2.2.1, NE.2.2.2⟩
    have NO : Hid (∀ q, (Value.slice (some ⟨w.heap.size + 1, 0, none⟩) 0 0).ownBlock = some q → q ≠ gs ∧ q ≠ gp) := Lib.hid (fun q hq => by simp [Value.ownBlock] at hq; have := SZ1.out; omega)
    clear hT NE BX HT1 HB1 HO1 SU2 CP2 x0 x1
    obtain ⟨i0, hif, hz0, hz1, hz2⟩ := info_parts pairInfo
    have ZL := Lib.hid (fun k => prL_len A B k)
    have ZS : Hid (∀ k, prL A B (k + 1) = prL A B k ++ [A k, B k]) := Lib.hid (fun k => rfl)
    go_wp2_with fail
    go_loopg [6, 9] n (fun gg o i wr => ∃ k : Nat, k ≤ n ∧ n - k ≤ gg ∧ i = .int .i64 k ∧ Hid (OwnQ wr (w.heap.size + 1) wr.heap.size o k (prL A B k)) ∧ Hid (∀ q, o.ownBlock = some q → q ≠ gs ∧ q ≠ gp) ∧ Hid (∀ j, j < n → wr.cell? ⟨gs, j, none⟩ = some (.int .i64 (S.getD j 0))) ∧ Hid (∀ j, j < n → wr.cell? ⟨gp, j, none⟩ = some (.int .i64 (P.getD j 0))) ∧ Hid (gs < wr.heap.size ∧ gp < wr.heap.size) ∧ Hid (w.heap.size < wr.heap.size) ∧ Hid (Below w.heap.size w wr))
    case atStart => exact ⟨0, Nat.zero_le _, by omega, rfl, O3, NO, S3, P3, G3, Lib.hid T3.out.lt, B3⟩
    case round =>
      obtain ⟨k, hk, hgg, rfl, HO, HQ, HS, HP, HG, HZ, HB⟩ := hrel
      clear O3 NO S3 P3 G3 T3 B3
      by_cases hlt : k < n
      · have hp := HP.out k hlt
        have hs := HS.out k hlt
        have RK := Lib.hid (fun w' => RC.out k w' hlt)
        have bd := BD.out k hlt
        have se := ZS.out k
        obtain ⟨pk, hpk⟩ : ∃ z, z = P.getD k 0 := ⟨_, rfl⟩
        obtain ⟨sk, hsk⟩ : ∃ z, z = S.getD k 0 := ⟨_, rfl⟩
        rw [← hpk] at hp RK
        rw [← hsk] at hs RK
        obtain ⟨mn, hmn⟩ : ∃ z, z = A k := ⟨_, rfl⟩
        obtain ⟨md, hmd⟩ : ∃ z, z = B k := ⟨_, rfl⟩
        rw [← hmn] at RK se bd
        rw [← hmd] at RK se bd
        have SE := Lib.hid se
        have IN : Hid (InI64 mn ∧ InI64 md) := Lib.hid (by unfold InI64; omega)
        have i0' : (0 : Int) ≤ (k : Int) := by omega
        have i1' : (k : Int) < (n : Int) := by omega
        obtain ⟨L, hL⟩ : ∃ L, L = prL A B k := ⟨_, rfl⟩
        rw [← hL] at HO SE
        have HD : Hid (Below wr.heap.size wr wr.drew) := Lib.hid (below_drew (Below.refl _ _))
        have hsz := HZ.out
        clear hpk hsk hmn hmd hL se bd
        go_wp2_with fail
        go_region_law (first
          | (go_simp; go_at_call 60; (with_reducible refine (RK.out _).mono ?_); rintro e w9 ⟨rfl, b9⟩; (have c9 := undrew b9); (have HO9 := Lib.hid ((HO.out.below c9).wide c9.size (Nat.le_refl _))); (have HOA := Lib.hid (HO9.out.row.alloc (.cells #[.int .i64 mn, .int .i64 md] 34))); (have HNA := Lib.hid (cell_two_new w9 (.int .i64 mn) (.int .i64 md) 34)); (have hsz9 : w.heap.size < w9.heap.size := Nat.lt_of_lt_of_le hsz c9.size); (have C9 := Lib.hid c9); clear c9 b9)
          | (refine step_append_lies _ rfl _ _ 39 rfl (w.heap.size + 1) 34 i0 (.agg #[.int .i64 0, .int .i64 0]) 2 16 Try.underlying39 hif hz0 hz1 hz2 rfl (by decide) u6 k (L.map (.int .i64)) rfl HOA.out ⟨w9.heap.size, 0, none⟩ 1 1 [.int .i64 mn, .int .i64 md] rfl rfl HNA.out (fun u hu => by simp at hu; rcases hu with rfl | rfl <;> rfl) (by omega) (by unfold maxLen; omega) (by omega) (by simp; omega) _ rfl ?_; intro g4 cap4 w4 hown3 hgrow3 hat3 hlt3))
        all_goals
          have own3 := Lib.hid (HO9.out.app IN.out.1 IN.out.2 hown3)
          have bel3 := Lib.hid (((HB.out.trans (C9.out.mono HB.out.size)).alloc (by have := HB.out.size; have := C9.out.size; omega) (.cells #[.int .i64 mn, .int .i64 md] 34)).grown hgrow3 (by simp; omega) (fun q hq => by have := (HOA.out.lt q hq).1; omega))
          have q3 : Hid (∀ q, (Value.slice (some ⟨g4, 0, none⟩) (k + 1) cap4).ownBlock = some q → q ≠ gs ∧ q ≠ gp) := Lib.hid (fun q hq => by
            rcases hat3 with h | h
            · have : g4 = q := by simpa [Value.ownBlock] using hq
              subst this
              exact HQ.out _ h
            · have : g4 = q := by simpa [Value.ownBlock] using hq
              have h2 := HG.out
              have h3 := C9.out.size
              simp at h
              omega)
          have s3 : Hid (∀ j, j < n → w4.cell? ⟨gs, j, none⟩ = some (.int .i64 (S.getD j 0))) := Lib.hid (fun j hj => by
            rw [ne_grownV hgrow3 (by have := HG.out; have := C9.out.size; simp; omega) (fun q hq => (HQ.out q hq).1), World.cell?_alloc_lt _ _ _ (by have := HG.out; have := C9.out.size; show gs < _; omega), C9.out.cell (p := ⟨gs, j, none⟩) HG.out.1]; exact HS.out j hj)
          have p3 : Hid (∀ j, j < n → w4.cell? ⟨gp, j, none⟩ = some (.int .i64 (P.getD j 0))) := Lib.hid (fun j hj => by
            rw [ne_grownV hgrow3 (by have := HG.out; have := C9.out.size; simp; omega) (fun q hq => (HQ.out q hq).2), World.cell?_alloc_lt _ _ _ (by have := HG.out; have := C9.out.size; show gp < _; omega), C9.out.cell (p := ⟨gp, j, none⟩) HG.out.2]; exact HP.out j hj)
          have g3 : Hid (gs < w4.heap.size ∧ gp < w4.heap.size) := Lib.hid (by have h1 := hgrow3.size; simp at h1; have := HG.out; have := C9.out.size; omega)
          have z3 : Hid (w.heap.size < w4.heap.size) := Lib.hid (by have h1 := hgrow3.size; simp at h1; omega)
          clear hown3 hgrow3 hat3 hlt3 HO9 HOA HNA hsz9 C9 HO HQ HS HP HG HZ HB HD RK
          go_wp2_with fail
          go_roundg (n - (k + 1))
          case rel => exact ⟨k + 1, by omega, by omega, by go_num, Lib.hid (by rw [SE.out]; exact own3.out), q3, s3, p3, g3, z3, bel3⟩
          case measure => omega
      · obtain rfl : k = n := by omega
        have FIN : Hid (∀ o, OwnQ wr (w.heap.size + 1) wr.heap.size o k (prL A B k) → NewQB k (prL A B k) true w (.returned (.tuple #[o, .bool true])) wr) := Lib.hid (fun o ho => ⟨o, rfl, ho.low (by omega), HB.out⟩)
        go_wp2
        go_ret2
        exact FIN.out _ HO.out
end Go.Proofs.Ytagljebfbacdhaa
