/- MeansOf in the model. -/
import Derived.Test.YtonlibncccljgaaMeanP
import Derived.Test.YtonlibncccljgaaFracC
import Derived.Test.YtonlibncccljgaaPayS
import Derived.Test.YtonlibncccljgaaTotS
import Derived.Test.YtonlibncccljgaaSumS
import Derived.Test.YtonlibncccljgaaMBt
import Derived.Test.YtonlibncccljgaaOwnP
import Derived.Deep.RegionHeld3
import Derived.Deep.LoopGhost
import Derived.Deep.AppendLies
import Derived.BigRegion
import Derived.Deep.RegionLaw
import Derived.Deep.DeepCutAuto
namespace Go.Proofs.Ytonlibncccljgaa
open Go.RowKit
set_option linter.unusedVariables false
/-- What the three rows are behind the first statement. -/
structure MeanR (w : World) (p1 p2 : Option Addr) (c1 c2 n n2 : Nat) (S P : List Int) (go gs gp : Nat) (wx : World) : Prop where
  out : OwnQ wx (w.heap.size + 1) wx.heap.size (.slice (some ⟨go, 0, none⟩) 0 0) 0 []
  su : ∀ j, j < n → wx.cell? ⟨gs, j, none⟩ = some (.int .i64 (S.getD j 0))
  pr : ∀ j, j < n → wx.cell? ⟨gp, j, none⟩ = some (.int .i64 (P.getD j 0))
  ne : gs ≠ go ∧ gp ≠ go ∧ gs < wx.heap.size ∧ gp < wx.heap.size
  box : TBox wx w.heap.size (.slice p1 n c1) (.slice p2 n2 c2)
  bel : Below w.heap.size w wx
set_option maxRecDepth 100000 in
set_option maxHeartbeats 8000000 in
theorem l2MeansS (ps ws vs : List Int) (v u : Value) (w : World) (p : Pay ps ws vs) (h : TreeV w w.heap.size v ps ws) (hu : IntsV w w.heap.size u vs) :
    Calls Try.prog 116 #[v, u] w (NewQ ps.length (prL (meanN ps ws vs) (meanD ps ws vs) ps.length) w) := by
  have SU := Lib.hid (fun w' (hb : Below w.heap.size w w') => sumsS ps ws v w' p.good (h.boxed hb))
  have TO := Lib.hid (fun w' (hb : Below w.heap.size w w') => totS ps ws vs 999 (by omega) v u w' p.good p.len p.abs (h.boxed hb) ((hu.below hb).more hb.size))
  have PE : Hid (upL ps (valsT ps ws vs) (ps.length - 1) = prodT ps ws vs) := Lib.hid rfl
  rw [PE.out] at TO
  have hn24 := p.good.n24
  have hn1 := p.good.n1
  obtain ⟨p1, c1, p2, c2, rfl⟩ := h.shape
  obtain ⟨q, cq, rfl, _⟩ := hu
  clear h PE
  have SL : Hid ((sumsT ps ws).length = ps.length) := Lib.hid (sumsT_len p.good.nw)
  have PL : Hid ((prodT ps ws vs).length = ps.length) := Lib.hid (prodT_len ps ws vs)
  have BD := Lib.hid (fun x (hx : x < ps.length) => mean_bd p hx)
  have RC : Hid (∀ (x : Nat) (w' : World), x < ps.length → Calls Try.prog 109 #[.int .i64 ((prodT ps ws vs).getD x 0), .int .i64 ((sumsT ps ws).getD x 0)] w' (Gives (.agg #[.int .i64 (meanN ps ws vs x), .int .i64 (meanD ps ws vs x)]) w')) := Lib.hid (fun x w' hx => by
    have h1 := prod_bd p hx
    have h2 := sums_pos p.good x hx
    have h3 := (sumsT_bd p.good x hx).2
    exact cutS _ _ w' (by omega) (by omega))
  have B1 := (Below.refl w.heap.size w).alloc (Nat.le_refl _) (.cells #[.slice p1 ps.length c1, .slice p2 ws.length c2] 29)
  obtain ⟨wa, hwa⟩ : ∃ wa, wa = w.alloc (.cells #[.slice p1 ps.length c1, .slice p2 ws.length c2] 29) := ⟨_, rfl⟩
  have T1 : Hid (TBox wa w.heap.size (.slice p1 ps.length c1) (.slice p2 ws.length c2)) := Lib.hid (by rw [hwa]; exact alloc_heap w _)
  have sz : wa.heap.size = w.heap.size + 1 := by rw [hwa]; simp
  rw [← hwa] at B1
  have HBA := Lib.hid B1
  have SZ := Lib.hid sz
  clear B1 sz p
  obtain ⟨x0, x1⟩ := T1.out.cells
  obtain ⟨n, hn⟩ : ∃ n, n = ps.length := ⟨_, rfl⟩
  obtain ⟨S, hS⟩ : ∃ S, S = sumsT ps ws := ⟨_, rfl⟩
  obtain ⟨P, hP⟩ : ∃ P, P = prodT ps ws vs := ⟨_, rfl⟩
  obtain ⟨A, hA⟩ : ∃ A, A = meanN ps ws vs := ⟨_, rfl⟩
  obtain ⟨B, hB⟩ : ∃ B, B = meanD ps ws vs := ⟨_, rfl⟩
  rw [← hn] at SL PL BD RC T1 hn24 hn1 hwa SU TO x0 ⊢
  rw [← hS] at SL RC SU
  rw [← hP] at PL RC TO
  rw [← hA] at BD RC ⊢
  rw [← hB] at BD RC ⊢
  clear hn hS hP hA hB
  go_enter Try.func116, Try.ntmps116
  go_upto_region 1 with fail
  rw [← hwa]
  clear hwa
  go_cut [5, 6, 7] (fun o s t wx => ∃ go gs gp cs cp, o = .slice (some ⟨go, 0, none⟩) 0 0 ∧ s = .slice (some ⟨gs, 0, none⟩) n cs ∧ t = .slice (some ⟨gp, 0, none⟩) n cp ∧ Hid (MeanR w p1 p2 c1 c2 n ws.length S P go gs gp wx))
  case first =>
    have HE0 := Lib.hid (show MBt w w.heap.size (.slice p1 n c1) (.slice p2 ws.length c2) wa from ⟨T1.out, HBA.out⟩)
    have HD := Lib.hid HE0.out.drew
    have KC : Hid (∀ w', Hid (MBt w w.heap.size (.slice p1 n c1) (.slice p2 ws.length c2) w') → w'.cell? ⟨w.heap.size, 0, none⟩ = some (.slice p1 n c1) ∧ w'.cell? ⟨w.heap.size, 1, none⟩ = some (.slice p2 ws.length c2)) := Lib.hid (fun w' he => he.out.1.cells)
    have KM : Hid (∀ w', Hid (MBt w w.heap.size (.slice p1 n c1) (.slice p2 ws.length c2) w') → Hid (MBt w w.heap.size (.slice p1 n c1) (.slice p2 ws.length c2) (w'.alloc (.cells #[] 55)))) := Lib.hid (fun w' he => Lib.hid (he.out.next ((Below.refl _ _).alloc (Nat.le_refl _) _)))
    have HDM := Lib.hid (KM.out _ HE0).out.drew
    have CS : Hid (∀ w', Hid (MBt w w.heap.size (.slice p1 n c1) (.slice p2 ws.length c2) w') → Calls Try.prog 98 #[.agg #[.slice p1 n c1, .slice p2 ws.length c2]] w' (NewInts S w')) := Lib.hid (fun w' he => SU.out w' he.out.2)
    have CT : Hid (∀ w', Hid (MBt w w.heap.size (.slice p1 n c1) (.slice p2 ws.length c2) w') → Calls Try.prog 139 #[.agg #[.slice p1 n c1, .slice p2 ws.length c2], .slice q vs.length cq] w' (NewInts P w')) := Lib.hid (fun w' he => TO.out w' he.out.2)
    have CA : Hid (∀ (w8 w9 : World) (gs cs gp cp : Nat), Below (wa.alloc (.cells #[] 55)).drew.heap.size (wa.alloc (.cells #[] 55)).drew w8 → OwnV w8 (wa.alloc (.cells #[] 55)).drew.heap.size w8.heap.size (.slice (some ⟨gs, 0, none⟩) S.length cs) S → (wa.alloc (.cells #[] 55)).drew.heap.size ≤ gs → gs < w8.heap.size → Below w8.heap.size w8 w9 → OwnV w9 w8.heap.size w9.heap.size (.slice (some ⟨gp, 0, none⟩) P.length cp) P → w8.heap.size ≤ gp → gp < w9.heap.size → Hid (MBt w w.heap.size (.slice p1 n c1) (.slice p2 ws.length c2) w9) → MeanR w p1 p2 c1 c2 n ws.length S P wa.heap.size gs gp w9) := Lib.hid (by
      intro w8 w9 gs cs gp cp b8 o8 hs1 hs2 b9 o9 hp1 hp2 he
      have e1 : (wa.alloc (.cells #[] 55)).drew.heap.size = wa.heap.size + 1 := by show (wa.alloc _).heap.size = _; simp
      have c8 := undrew b8
      have c9 := c8.trans (b9.mono c8.size)
      have z8 := b8.size
      have z9 := b9.size
      exact ⟨((OwnQ.empty wa (w.heap.size + 1) (by rw [SZ.out]; exact Nat.le_refl _)).below c9).wide c9.size (Nat.le_refl _), fun j hj => (b9.cell (p := ⟨gs, j, none⟩) hs2).trans (o8.cellGet (by rw [SL.out]; exact hj)), fun j hj => o9.cellGet (by rw [PL.out]; exact hj), by omega, he.out.1, he.out.2⟩)
    have CB : Hid (∀ (w8 w9 : World) (gs cs gp cp : Nat), Below wa.drew.heap.size wa.drew w8 → OwnV w8 wa.drew.heap.size w8.heap.size (.slice (some ⟨gs, 0, none⟩) S.length cs) S → wa.drew.heap.size ≤ gs → gs < w8.heap.size → Below (w8.alloc (.cells #[] 55)).heap.size (w8.alloc (.cells #[] 55)) w9 → OwnV w9 (w8.alloc (.cells #[] 55)).heap.size w9.heap.size (.slice (some ⟨gp, 0, none⟩) P.length cp) P → (w8.alloc (.cells #[] 55)).heap.size ≤ gp → gp < w9.heap.size → Hid (MBt w w.heap.size (.slice p1 n c1) (.slice p2 ws.length c2) w9) → MeanR w p1 p2 c1 c2 n ws.length S P w8.heap.size gs gp w9) := Lib.hid (by
      intro w8 w9 gs cs gp cp b8 o8 hs1 hs2 b9 o9 hp1 hp2 he
      have e1 : (w8.alloc (.cells #[] 55)).heap.size = w8.heap.size + 1 := by simp
      have e2 : wa.drew.heap.size = w.heap.size + 1 := SZ.out
      have z8 := b8.size
      have z9 := b9.size
      have b9' : Below w8.heap.size w8 w9 := ((Below.refl w8.heap.size w8).alloc (Nat.le_refl _) _).trans (b9.mono (by omega))
      exact ⟨((OwnQ.empty w8 (w.heap.size + 1) (by omega)).below b9).wide b9.size (Nat.le_refl _), fun j hj => (b9'.cell (p := ⟨gs, j, none⟩) hs2).trans (o8.cellGet (by rw [SL.out]; exact hj)), fun j hj => o9.cellGet (by rw [PL.out]; exact hj), by omega, he.out.1, he.out.2⟩)
    have CC : Hid (∀ (w8 w9 : World) (gs cs gp cp : Nat), Below wa.drew.heap.size wa.drew w8 → OwnV w8 wa.drew.heap.size w8.heap.size (.slice (some ⟨gs, 0, none⟩) S.length cs) S → wa.drew.heap.size ≤ gs → gs < w8.heap.size → Below w8.heap.size w8 w9 → OwnV w9 w8.heap.size w9.heap.size (.slice (some ⟨gp, 0, none⟩) P.length cp) P → w8.heap.size ≤ gp → gp < w9.heap.size → Hid (MBt w w.heap.size (.slice p1 n c1) (.slice p2 ws.length c2) w9) → MeanR w p1 p2 c1 c2 n ws.length S P w9.heap.size gs gp (w9.alloc (.cells #[] 55))) := Lib.hid (by
      intro w8 w9 gs cs gp cp b8 o8 hs1 hs2 b9 o9 hp1 hp2 he
      have e1 : (w9.alloc (.cells #[] 55)).heap.size = w9.heap.size + 1 := by simp
      have e2 : wa.drew.heap.size = w.heap.size + 1 := SZ.out
      have z8 := b8.size
      have z9 := b9.size
      have he2 := KM.out _ he
      exact ⟨OwnQ.empty w9 (w.heap.size + 1) (by omega), fun j hj => by rw [World.cell?_alloc_lt _ _ _ (by show gs < _; omega)]; exact (b9.cell (p := ⟨gs, j, none⟩) hs2).trans (o8.cellGet (by rw [SL.out]; exact hj)), fun j hj => by rw [World.cell?_alloc_lt _ _ _ (by exact hp2)]; exact o9.cellGet (by rw [PL.out]; exact hj), by omega, he2.out.1, he2.out.2⟩)
    go_region_held3 (fun w' => w'.cell? ⟨w.heap.size, 0, none⟩ = some (.slice p1 n c1) ∧ w'.cell? ⟨w.heap.size, 1, none⟩ = some (.slice p2 ws.length c2))
      (first | exact KC.out _ HD | exact KC.out _ HDM | exact KC.out _ (by assumption) | exact KC.out _ (KM.out _ (by assumption)) | go_keep)
      (first
        | (go_at_call 98; (with_reducible refine (CS.out _ (by first | exact HD | exact HDM | assumption)).mono ?_); rintro e w8 ⟨u8, rfl, o8, b8⟩; (obtain ⟨gs, cs, rfl, hs1, hs2⟩ := o8.shape (by rw [SL.out]; exact hn1)); (have HE8 := Lib.hid (MBt.next (Hid.out (by first | exact HD | exact HDM | assumption)) b8)))
        | (go_at_call 139; (with_reducible refine (CT.out _ (by first | exact HE8 | exact KM.out _ HE8)).mono ?_); rintro e w9 ⟨u9, rfl, o9, b9⟩; (obtain ⟨gp, cp, rfl, hp1, hp2⟩ := o9.shape (by rw [PL.out]; exact hn1)); (have HE9 := Lib.hid (MBt.next (Hid.out (by first | exact HE8 | exact KM.out _ HE8)) b9))))
    all_goals
      go_wp2_with fail
      go_meet
      refine ⟨_, _, _, _, _, rfl, by rw [SL.out], by rw [PL.out], Lib.hid ?_⟩
      first
        | exact CA.out _ _ _ _ _ _ b8 o8 hs1 hs2 b9 o9 hp1 hp2 HE9
        | exact CB.out _ _ _ _ _ _ b8 o8 hs1 hs2 b9 o9 hp1 hp2 HE9
        | exact CC.out _ _ _ _ _ _ b8 o8 hs1 hs2 b9 o9 hp1 hp2 HE9
  obtain ⟨go, gs, gp, cs, cp, rfl, rfl, rfl, hT⟩ := hcut
  obtain ⟨w3, rfl⟩ : ∃ w3 : World, w3 = wc := ⟨_, rfl⟩
  have O3 := Lib.hid hT.out.out
  have S3 := Lib.hid hT.out.su
  have P3 := Lib.hid hT.out.pr
  have NE := hT.out.ne
  have T3 := Lib.hid hT.out.box
  have B3 := Lib.hid hT.out.bel
  have G3 : Hid (gs < w3.heap.size ∧ gp < w3.heap.size) := Lib.hid ⟨NE.2.2.1, NE.2.2.2⟩
  have NO : Hid (∀ q, (Value.slice (some ⟨go, 0, none⟩) 0 0).ownBlock = some q → q ≠ gs ∧ q ≠ gp) := Lib.hid (fun q hq => by simp [Value.ownBlock] at hq; omega)
  clear hT NE T1 HBA SU TO x0 x1
  obtain ⟨i0, hif, hz0, hz1, hz2⟩ := info_parts pairInfo
  have ZL := Lib.hid (fun k => prL_len A B k)
  have ZS : Hid (∀ k, prL A B (k + 1) = prL A B k ++ [A k, B k]) := Lib.hid (fun k => rfl)
  go_wp2_with fail
  go_loopg [5, 8] n (fun gg o i wr => ∃ k : Nat, k ≤ n ∧ n - k ≤ gg ∧ i = .int .i64 k ∧ Hid (OwnQ wr (w.heap.size + 1) wr.heap.size o k (prL A B k)) ∧ Hid (∀ q, o.ownBlock = some q → q ≠ gs ∧ q ≠ gp) ∧ Hid (∀ j, j < n → wr.cell? ⟨gs, j, none⟩ = some (.int .i64 (S.getD j 0))) ∧ Hid (∀ j, j < n → wr.cell? ⟨gp, j, none⟩ = some (.int .i64 (P.getD j 0))) ∧ Hid (gs < wr.heap.size ∧ gp < wr.heap.size) ∧ Hid (w.heap.size < wr.heap.size) ∧ Hid (Below w.heap.size w wr))
  case atStart => exact ⟨0, Nat.zero_le _, by omega, rfl, O3, NO, S3, P3, G3, Lib.hid T3.out.lt, B3⟩
  case round =>
    obtain ⟨k, hk, hgg, rfl, HO, HQ, HS, HP, HG, HZ, HB⟩ := hrel
    clear O3 NO S3 P3 G3 T3 B3
    by_cases hlt : k < n
    · have hp := HP.out k hlt
      have hs := HS.out k hlt
      have RK := Lib.hid (fun w' => RC.out k w' hlt)
      have bd := BD.out k hlt
      have se := ZS.out k
      obtain ⟨pk, hpk⟩ : ∃ z, z = P.getD k 0 := ⟨_, rfl⟩
      obtain ⟨sk, hsk⟩ : ∃ z, z = S.getD k 0 := ⟨_, rfl⟩
      rw [← hpk] at hp RK
      rw [← hsk] at hs RK
      obtain ⟨mn, hmn⟩ : ∃ z, z = A k := ⟨_, rfl⟩
      obtain ⟨md, hmd⟩ : ∃ z, z = B k := ⟨_, rfl⟩
      rw [← hmn] at RK se bd
      rw [← hmd] at RK se bd
      have SE := Lib.hid se
      have IN : Hid (InI64 mn ∧ InI64 md) := Lib.hid (by unfold InI64; omega)
      have i0' : (0 : Int) ≤ (k : Int) := by omega
      have i1' : (k : Int) < (n : Int) := by omega
      obtain ⟨L, hL⟩ : ∃ L, L = prL A B k := ⟨_, rfl⟩
      rw [← hL] at HO SE
      have HD : Hid (Below wr.heap.size wr wr.drew) := Lib.hid (below_drew (Below.refl _ _))
      have hsz := HZ.out
      clear hpk hsk hmn hmd hL se bd
      go_wp2_with fail
      go_region_law (first
        | (go_simp; go_at_call 109; (with_reducible refine (RK.out _).mono ?_); rintro e w9 ⟨rfl, b9⟩; (have c9 := undrew b9); (have HO9 := Lib.hid ((HO.out.below c9).wide c9.size (Nat.le_refl _))); (have HOA := Lib.hid (HO9.out.row.alloc (.cells #[.int .i64 mn, .int .i64 md] 55))); (have HNA := Lib.hid (cell_two_new w9 (.int .i64 mn) (.int .i64 md) 55)); (have hsz9 : w.heap.size < w9.heap.size := Nat.lt_of_lt_of_le hsz c9.size); (have C9 := Lib.hid c9); clear c9 b9)
        | (refine step_append_lies _ rfl _ _ 26 rfl (w.heap.size + 1) 55 i0 (.agg #[.int .i64 0, .int .i64 0]) 2 16 Try.underlying26 hif hz0 hz1 hz2 rfl (by decide) u5 k (L.map (.int .i64)) rfl HOA.out ⟨w9.heap.size, 0, none⟩ 1 1 [.int .i64 mn, .int .i64 md] rfl rfl HNA.out (fun u hu => by simp at hu; rcases hu with rfl | rfl <;> rfl) (by omega) (by unfold maxLen; omega) (by omega) (by simp; omega) _ rfl ?_; intro g4 cap4 w4 hown3 hgrow3 hat3 hlt3))
      all_goals
        have own3 := Lib.hid (HO9.out.app IN.out.1 IN.out.2 hown3)
        have bel3 := Lib.hid (((HB.out.trans (C9.out.mono HB.out.size)).alloc (by have := HB.out.size; have := C9.out.size; omega) (.cells #[.int .i64 mn, .int .i64 md] 55)).grown hgrow3 (by simp; omega) (fun q hq => by have := (HOA.out.lt q hq).1; omega))
        have q3 : Hid (∀ q, (Value.slice (some ⟨g4, 0, none⟩) (k + 1) cap4).ownBlock = some q → q ≠ gs ∧ q ≠ gp) := Lib.hid (fun q hq => by
          rcases hat3 with h | h
          · have : g4 = q := by simpa [Value.ownBlock] using hq
            subst this
            exact HQ.out _ h
          · have : g4 = q := by simpa [Value.ownBlock] using hq
            have h2 := HG.out
            have h3 := C9.out.size
            simp at h
            omega)
        have s3 : Hid (∀ j, j < n → w4.cell? ⟨gs, j, none⟩ = some (.int .i64 (S.getD j 0))) := Lib.hid (fun j hj => by
          rw [ne_grownP hgrow3 (by have := HG.out; have := C9.out.size; simp; omega) (fun q hq => (HQ.out q hq).1), World.cell?_alloc_lt _ _ _ (by have := HG.out; have := C9.out.size; show gs < _; omega), C9.out.cell (p := ⟨gs, j, none⟩) HG.out.1]; exact HS.out j hj)
        have p3 : Hid (∀ j, j < n → w4.cell? ⟨gp, j, none⟩ = some (.int .i64 (P.getD j 0))) := Lib.hid (fun j hj => by
          rw [ne_grownP hgrow3 (by have := HG.out; have := C9.out.size; simp; omega) (fun q hq => (HQ.out q hq).2), World.cell?_alloc_lt _ _ _ (by have := HG.out; have := C9.out.size; show gp < _; omega), C9.out.cell (p := ⟨gp, j, none⟩) HG.out.2]; exact HP.out j hj)
        have g3 : Hid (gs < w4.heap.size ∧ gp < w4.heap.size) := Lib.hid (by have h1 := hgrow3.size; simp at h1; have := HG.out; have := C9.out.size; omega)
        have z3 : Hid (w.heap.size < w4.heap.size) := Lib.hid (by have h1 := hgrow3.size; simp at h1; omega)
        clear hown3 hgrow3 hat3 hlt3 HO9 HOA HNA hsz9 C9 HO HQ HS HP HG HZ HB HD RK
        go_wp2_with fail
        go_roundg (n - (k + 1))
        case rel => exact ⟨k + 1, by omega, by omega, by go_num, Lib.hid (by rw [SE.out]; exact own3.out), q3, s3, p3, g3, z3, bel3⟩
        case measure => omega
    · obtain rfl : k = n := by omega
      have FIN : Hid (∀ o, OwnQ wr (w.heap.size + 1) wr.heap.size o k (prL A B k) → NewQ k (prL A B k) w (.returned o) wr) := Lib.hid (fun o ho => ⟨o, rfl, ho.low (by omega), HB.out⟩)
      go_wp2
      go_ret
      exact FIN.out _ HO.out
end Go.Proofs.Ytonlibncccljgaa
