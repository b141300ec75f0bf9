/- DriftsOf in the model. -/
import Derived.Test.YtonlibncccljgaaDriP
import Derived.Test.YtonlibncccljgaaProcM
import Derived.Test.YtonlibncccljgaaMeanM
import Derived.Maps.AppendAt
import Derived.BigQuiet
import Derived.StillTailTactics
namespace Go.Proofs.Ytonlibncccljgaa
open Go.RowKit
set_option linter.unusedVariables false
/-- A box of a pair. -/
def RBox (w : World) (R : Nat) (a b : Int) : Prop := w.heap[R]? = some (.cells #[.int .i64 a, .int .i64 b] 55 (0, 0))
theorem RBox.below {w w1 : World} {R C : Nat} {a b : Int} (h : RBox w R a b) (hb : Below C w w1) (hR : R < C) : RBox w1 R a b := (hb.block R hR).trans h
theorem RBox.lt {w : World} {R : Nat} {a b : Int} (h : RBox w R a b) : R < w.heap.size := by unfold RBox at h; exact (Array.getElem?_eq_some_iff.1 h).1
theorem RBox.cells {w : World} {R : Nat} {a b : Int} (h : RBox w R a b) : w.cell? ⟨R, 0, none⟩ = some (.int .i64 a) ∧ w.cell? ⟨R, 1, none⟩ = some (.int .i64 b) ∧ w.frozen? ⟨R, 0, none⟩ = false ∧ w.frozen? ⟨R, 1, none⟩ = false :=
  ⟨(cell_of_heap (o := 0) h rfl).1, (cell_of_heap (o := 1) h rfl).1, (cell_of_heap (o := 0) h rfl).2, (cell_of_heap (o := 1) h rfl).2⟩
def DSt (w : World) (B R : Nat) (v1 v2 : Value) (w' : World) : Prop := TBox w' B v1 v2 ∧ Below w.heap.size w w' ∧ RBox w' R 0 0
theorem DSt.next {w a b : World} {B R : Nat} {v1 v2 : Value} (h : DSt w B R v1 v2 a) (hb : Below a.heap.size a b) : DSt w B R v1 v2 b :=
  ⟨h.1.below hb h.1.lt, h.2.1.trans (hb.mono h.2.1.size), h.2.2.below hb h.2.2.lt⟩
theorem DSt.drew {w a : World} {B R : Nat} {v1 v2 : Value} (h : DSt w B R v1 v2 a) : DSt w B R v1 v2 a.drew := h.next (below_drew (Below.refl _ _))
theorem kidsF_goodD {ps ws : List Int} (g : Good ps ws) (x : Nat) : kidsF ps x ps.length = kidsT ps x := by
  rw [kidsT_eq]
  unfold kidsF
  refine nodesW_congr fun y hy => ?_
  rw [Bool.eq_iff_iff, Bool.and_eq_true, decide_eq_true_eq, beq_iff_eq]
  constructor
  · exact fun h => h.2
  · intro h
    have := g.kid_gt hy h
    exact ⟨by omega, h⟩
/-- What stands behind the first statement. -/
structure DriR (w : World) (n : Nat) (S K : List Int) (pk : Option Addr) (gs : Nat) (wx : World) : Prop where
  kd : IntsAt wx wx.heap.size pk K
  su : ∀ j, j < n → wx.cell? ⟨gs, j, none⟩ = some (.int .i64 (S.getD j 0))
  bx : RBox wx (w.heap.size + 1) 0 0
  bel : Below w.heap.size w wx
set_option maxRecDepth 100000 in
set_option maxHeartbeats 8000000 in
theorem driftS (ps ws zs : List Int) (v u : Value) (x : Nat) (w : World) (pr : Proc ps ws zs) (hx : x < ps.length) (h : TreeV w w.heap.size v ps ws) (hu : IntsV w w.heap.size u zs) :
    Calls Try.prog 122 #[v, u, .int .i64 x] w (Gives (.agg #[.int .i64 (driA ps ws zs x), .int .i64 (driB ps ws zs x)]) w) := by
  have hn24 := pr.good.n24
  have hn1 := pr.good.n1
  have KI := Lib.hid (fun w' (hb : Below w.heap.size w w') => kidsS ps ws v x w' (by omega) (by omega) (h.boxed hb))
  rw [kidsF_goodD pr.good] at KI
  have SU := Lib.hid (fun w' (hb : Below w.heap.size w w') => sumsS ps ws v w' pr.good (h.boxed hb))
  have SL : Hid ((sumsT ps ws).length = ps.length) := Lib.hid (sumsT_len pr.good.nw)
  have hlz := pr.len
  have KN : Hid (∀ z ∈ kidsT ps (x : Int), ∃ y : Nat, z = (y : Int) ∧ y < ps.length) := Lib.hid (fun z hz => by
    rw [kidsT_eq] at hz
    obtain ⟨y, h1, h2, _⟩ := nodesW_mem hz
    exact ⟨y, h1, h2⟩)
  have KL : (kidsT ps (x : Int)).length ≤ 24 := by rw [kidsT_eq]; exact Nat.le_trans (nodesW_len _ _) hn24
  have FB : Hid (∀ y, y < ps.length → ((sumsT ps ws).getD y 0 * zs.getD y 0).natAbs ≤ 479520) := Lib.hid (fun y hy => by
    have h1 := sumsT_bd pr.good y hy
    have h2 := pr.bd y (by omega)
    exact natAbs_mul_le (a := 480) (b := 999) (by omega) (by omega))
  have SP := Lib.hid (fun y (hy : y < ps.length) => (show 0 < (sumsT ps ws).getD y 0 ∧ (sumsT ps ws).getD y 0 ≤ 480 from ⟨sums_pos pr.good y hy, (sumsT_bd pr.good y hy).2⟩))
  have ZB := Lib.hid pr.bd
  have LEAF : Hid (leafB ps x = true → kidsT ps (x : Int) = [] ∧ driA ps ws zs x = 0 ∧ driB ps ws zs x = 1) := Lib.hid (fun hl => ⟨kidsT_nil.2 hl, dri_leafAB pr.good hx hl⟩)
  have INN : Hid (leafB ps x = false → 0 < (kidsT ps (x : Int)).length) := Lib.hid (fun hl => by
    rcases Nat.eq_zero_or_pos (kidsT ps (x : Int)).length with h | h
    · have := kidsT_nil.1 (List.eq_nil_of_length_eq_zero h)
      rw [hl] at this; cases this
    · exact h)
  have KBD : Hid (∀ k, k ≤ (kidsT ps (x : Int)).length → (kidF (fun y => (sumsT ps ws).getD y 0 * zs.getD y 0) ((kidsT ps (x : Int)).take k)).natAbs ≤ 11508480) := Lib.hid (fun k hk => by
    have h1 := kidF_bd (f := fun y => (sumsT ps ws).getD y 0 * zs.getD y 0) (L := kidsT ps (x : Int)) (B := 479520) (fun z hz => by
      obtain ⟨y, rfl, hy⟩ := KN.out z hz
      rw [Int.toNat_natCast]
      exact FB.out y hy) k hk
    have h2 : k * 479520 ≤ 24 * 479520 := Nat.mul_le_mul_right _ (by omega)
    omega)
  have KTK := Lib.hid (fun k (hk : k < (kidsT ps (x : Int)).length) => kidF_take (fun y => (sumsT ps ws).getD y 0 * zs.getD y 0) hk)
  have KALL := Lib.hid (fun k (hk : (kidsT ps (x : Int)).length ≤ k) => kidF_all (fun y => (sumsT ps ws).getD y 0 * zs.getD y 0) hk)
  have KZ : Hid (kidF (fun y => (sumsT ps ws).getD y 0 * zs.getD y 0) ((kidsT ps (x : Int)).take 0) = 0) := Lib.hid rfl
  have C : Hid (leafB ps x = false → ∀ w', Calls Try.prog 109 #[.int .i64 (kidF (fun y => (sumsT ps ws).getD y 0 * zs.getD y 0) (kidsT ps (x : Int)) - (sumsT ps ws).getD x 0 * zs.getD x 0), .int .i64 ((sumsT ps ws).getD x 0)] w' (Gives (.agg #[.int .i64 (driA ps ws zs x), .int .i64 (driB ps ws zs x)]) w')) := Lib.hid (fun hl w' => by
    rw [dri_model pr.good hx hl]
    have h1 := driX_bd pr hx (Nat.le_refl _)
    have h2 := SP.out x hx
    exact cutS _ _ w' (by omega) (by omega))
  obtain ⟨p1, c1, p2, c2, rfl⟩ := h.shape
  obtain ⟨q, d, rfl, _, _, _, j1⟩ := hu
  have Q1 := Lib.hid j1
  clear h j1 pr
  have B1 := ((Below.refl w.heap.size w).alloc (Nat.le_refl _) (.cells #[.slice p1 ps.length c1, .slice p2 ws.length c2] 29)).alloc (by simp) (.cells #[.int .i64 0, .int .i64 0] 55)
  have K0 := alloc_two w (.cells #[.slice p1 ps.length c1, .slice p2 ws.length c2] 29) (.cells #[.int .i64 0, .int .i64 0] 55)
  obtain ⟨wa, hwa⟩ : ∃ wa, wa = (w.alloc (.cells #[.slice p1 ps.length c1, .slice p2 ws.length c2] 29)).alloc (.cells #[.int .i64 0, .int .i64 0] 55) := ⟨_, rfl⟩
  rw [← hwa] at B1 K0
  have HE0 := Lib.hid (show DSt w w.heap.size (w.heap.size + 1) (.slice p1 ps.length c1) (.slice p2 ws.length c2) wa from ⟨K0.1, B1, K0.2⟩)
  clear K0 B1
  obtain ⟨x0, x1⟩ := HE0.out.1.cells
  obtain ⟨n, hn⟩ : ∃ n, n = ps.length := ⟨_, rfl⟩
  obtain ⟨S, hS⟩ : ∃ S, S = sumsT ps ws := ⟨_, rfl⟩
  obtain ⟨K, hK⟩ : ∃ K, K = kidsT ps (x : Int) := ⟨_, rfl⟩
  obtain ⟨N, hN⟩ : ∃ N, N = driA ps ws zs x := ⟨_, rfl⟩
  obtain ⟨D, hD⟩ : ∃ D, D = driB ps ws zs x := ⟨_, rfl⟩
  obtain ⟨lf, hlf⟩ : ∃ lf, lf = leafB ps x := ⟨_, rfl⟩
  rw [← hn] at hwa x0 SL KN FB SP hn24 hn1 hx hlz HE0 KI SU
  rw [← hS] at SU SL FB SP KBD KTK KALL KZ C
  rw [← hK] at KI KN KL LEAF INN KBD KTK KALL KZ C
  rw [← hN] at LEAF C ⊢
  rw [← hD] at LEAF C ⊢
  rw [← hlf] at LEAF INN C
  rw [← hn]
  have le1 : zs.length ≤ n := by omega
  have le2 : n ≤ zs.length := by omega
  clear hn hS hK hN hD hlf hlz
  go_enter Try.func122, Try.ntmps122
  go_upto_region 1 with fail
  rw [← hwa]
  clear hwa
  go_cut [7, 8] (fun kv sv wx => ∃ pk ck gs cs, kv = .slice pk K.length ck ∧ sv = .slice (some ⟨gs, 0, none⟩) n cs ∧ Hid (DriR w n S K pk gs wx))
  case first =>
    have HD := Lib.hid HE0.out.drew
    have KC : Hid (∀ w', Hid (DSt w w.heap.size (w.heap.size + 1) (.slice p1 n c1) (.slice p2 ws.length c2) w') → w'.cell? ⟨w.heap.size, 0, none⟩ = some (.slice p1 n c1) ∧ w'.cell? ⟨w.heap.size, 1, none⟩ = some (.slice p2 ws.length c2)) := Lib.hid (fun w' he => he.out.1.cells)
    have CK : Hid (∀ w', Hid (DSt w w.heap.size (w.heap.size + 1) (.slice p1 n c1) (.slice p2 ws.length c2) w') → Calls Try.prog 82 #[.agg #[.slice p1 n c1, .slice p2 ws.length c2], .int .i64 (x : Int)] w' (NewInts K w')) := Lib.hid (fun w' he => KI.out w' he.out.2.1)
    have CS : Hid (∀ w', Hid (DSt w w.heap.size (w.heap.size + 1) (.slice p1 n c1) (.slice p2 ws.length c2) w') → Calls Try.prog 98 #[.agg #[.slice p1 n c1, .slice p2 ws.length c2]] w' (NewInts S w')) := Lib.hid (fun w' he => SU.out w' he.out.2.1)
    go_region_held3 (fun w' => w'.cell? ⟨w.heap.size, 0, none⟩ = some (.slice p1 n c1) ∧ w'.cell? ⟨w.heap.size, 1, none⟩ = some (.slice p2 ws.length c2))
      (first | exact KC.out _ HD | exact KC.out _ (by assumption) | go_keep)
      (first
        | (go_at_call 82; (with_reducible refine (CK.out _ (by first | exact HD | assumption)).mono ?_); rintro e w8 ⟨u8, rfl, o8, b8⟩; (obtain ⟨pk, ck, rfl, _, _, _, ik⟩ := o8.intsV); (have HE8 := Lib.hid (DSt.next (Hid.out (by first | exact HD | assumption)) b8)); clear o8 b8)
        | (go_at_call 98; (with_reducible refine (CS.out _ (by first | exact HE8)).mono ?_); rintro e w9 ⟨u9, rfl, o9, b9⟩; (obtain ⟨gs, cs, rfl, hs1, hs2⟩ := o9.shape (by rw [SL.out]; exact hn1)); (have HE9 := Lib.hid (DSt.next HE8.out b9))))
    all_goals
      go_wp2_with fail
      go_meet
      refine ⟨_, _, _, _, rfl, by rw [SL.out], Lib.hid ⟨(ik.below b9).more b9.size, fun j hj => o9.cellGet (by rw [SL.out]; exact hj), HE9.out.2.2, HE9.out.2.1⟩⟩
  obtain ⟨pk, ck, gs, cs, rfl, rfl, hT⟩ := hcut
  obtain ⟨w3, rfl⟩ : ∃ w3 : World, w3 = wc := ⟨_, rfl⟩
  have IK := Lib.hid hT.out.kd
  have S3 := Lib.hid hT.out.su
  have HB3 := Lib.hid hT.out.bel
  have X3 := Lib.hid hT.out.bx
  clear hT x0 x1 HE0 KI SU
  cases lf
  · have hk0 := INN.out rfl
    have C2 := Lib.hid (C.out rfl)
    have hkb : (((K.length : Nat) : Int) == 0) = false := by
      rw [beq_eq_false_iff_ne]; omega
    have Q3 : Hid (∃ b off, q = some ⟨b, off, none⟩ ∧ ∀ y : Nat, y < n → w3.cell? ⟨b, off + y, none⟩ = some (.int .i64 (zs.getD y 0))) := Lib.hid (by
      obtain ⟨b, off, hq, hb, _⟩ := Q1.out.get (i := 0) (by omega)
      refine ⟨b, off, hq, fun y hy => ?_⟩
      obtain ⟨b', off', hq', hb', hc'⟩ := Q1.out.get (i := y) (by omega)
      rw [hq] at hq'
      injection hq' with hq'
      injection hq' with h1 h2
      subst h1; subst h2
      rw [HB3.out.cell (p := ⟨b, off + y, none⟩) hb', hc'])
    obtain ⟨bz, oz, rfl, hcz⟩ := Q3.out
    have HCZ := Lib.hid hcz
    have K3 : Hid (∃ b off, pk = some ⟨b, off, none⟩ ∧ ∀ i : Nat, i < K.length → w3.cell? ⟨b, off + i, none⟩ = some (.int .i64 (K.getD i 0))) := Lib.hid (by
      obtain ⟨b, off, hq, hb, _⟩ := IK.out.get (i := 0) hk0
      refine ⟨b, off, hq, fun i hi => ?_⟩
      obtain ⟨b', off', hq', hb', hc'⟩ := IK.out.get hi
      rw [hq] at hq'
      injection hq' with hq'
      injection hq' with h1 h2
      subst h1; subst h2
      exact hc')
    obtain ⟨bk, ok, rfl, hck⟩ := K3.out
    have HCK := Lib.hid hck
    have KNI : Hid (∀ i, i < K.length → ∃ y : Nat, K.getD i 0 = (y : Int) ∧ y < n) := Lib.hid (fun i hi => KN.out _ (by
      rw [List.getD_eq_getElem?_getD, List.getElem?_eq_getElem hi]
      exact List.getElem_mem _))
    obtain ⟨f, hf⟩ : ∃ f : Nat → Int, f = fun y => S.getD y 0 * zs.getD y 0 := ⟨_, rfl⟩
    have FD : Hid (∀ y, f y = S.getD y 0 * zs.getD y 0) := Lib.hid (fun y => by rw [hf])
    rw [← hf] at KBD KTK KALL KZ C2
    clear hf hcz hck Q3 K3 IK Q1 KN INN LEAF C
    go_wp2_with fail
    go_loopg [9, 10] K.length (fun gg m i wr => ∃ k : Nat, k ≤ K.length ∧ K.length - k ≤ gg ∧ i = .int .i64 k ∧ m = .int .i64 (kidF f (K.take k)) ∧ ∃ nn, wr = w3.drewN nn)
    case atStart => exact ⟨0, Nat.zero_le _, by omega, rfl, by rw [KZ.out], 0, rfl⟩
    case round =>
      obtain ⟨k, hk, hgg, rfl, rfl, nn, rfl⟩ := hrel
      have kb := KBD.out k hk
      by_cases hlt : k < K.length
      · obtain ⟨y, hy, hyn⟩ := KNI.out k hlt
        have h1 := HCK.out k hlt
        have h2 := S3.out y hyn
        have h3 := HCZ.out y hyn
        have fb := FB.out y hyn
        have TK := KTK.out k hlt
        rw [hy, Int.toNat_natCast] at TK
        rw [hy] at h1
        have kb2 := KBD.out (k + 1) (by omega)
        obtain ⟨m, hm⟩ : ∃ m, m = kidF f (K.take k) := ⟨_, rfl⟩
        obtain ⟨sy, hsy⟩ : ∃ m, m = S.getD y 0 := ⟨_, rfl⟩
        obtain ⟨zy, hzy⟩ : ∃ m, m = zs.getD y 0 := ⟨_, rfl⟩
        rw [← hm] at kb TK ⊢
        rw [← hsy] at h2 fb TK
        rw [← hzy] at h3 fb TK
        have TK2 := Lib.hid TK
        have i0 : (0 : Int) ≤ (k : Int) := by omega
        have i1 : (k : Int) < (K.length : Int) := by omega
        have i2 : (0 : Int) ≤ (y : Int) := by omega
        have i3 : (y : Int) < (n : Int) := by omega
        have WR : IntKind.i64.wrap (sy * zy) = sy * zy := IntWalk.i64_in _ (by omega)
        have pb : -479520 ≤ sy * zy ∧ sy * zy ≤ 479520 := by omega
        have mb : -11508480 ≤ m ∧ m ≤ 11508480 := by omega
        clear hy hm hsy hzy fb TK kb kb2
        go_wp2_with fail
        go_quiet (fail)
        go_wp2_with fail
        go_roundg (K.length - (k + 1))
        case rel => exact ⟨k + 1, by omega, by omega, by go_num, by rw [TK2.out], _, rfl⟩
        case measure => omega
      · have KE := KALL.out k (by omega)
        obtain ⟨w6, hw6⟩ : ∃ w6, w6 = w3.drewN nn := ⟨_, rfl⟩
        have B6 : Below w3.heap.size w3 w6 := by rw [hw6]; exact below_drewN (Below.refl _ _) nn
        have hs : w6.cell? ⟨gs, x, none⟩ = some (.int .i64 (S.getD x 0)) := by rw [hw6]; exact S3.out x hx
        have hz : w6.cell? ⟨bz, oz + x, none⟩ = some (.int .i64 (zs.getD x 0)) := by rw [hw6]; exact HCZ.out x hx
        have X6 := Lib.hid (X3.out.below B6 X3.out.lt)
        have HB6 := Lib.hid (HB3.out.trans (B6.mono HB3.out.size))
        rw [← hw6]
        rw [KE] at kb ⊢
        have fb := FB.out x hx
        have sp := SP.out x hx
        obtain ⟨m, hm⟩ : ∃ m, m = kidF f K := ⟨_, rfl⟩
        obtain ⟨sx, hsx⟩ : ∃ m, m = S.getD x 0 := ⟨_, rfl⟩
        obtain ⟨zx, hzx⟩ : ∃ m, m = zs.getD x 0 := ⟨_, rfl⟩
        rw [← hm] at kb C2 ⊢
        rw [← hsx] at hs fb sp C2
        rw [← hzx] at hz fb C2
        have i0 : (0 : Int) ≤ (x : Int) := by omega
        have i1 : (x : Int) < (n : Int) := by omega
        have i2 : (x : Int) < (zs.length : Int) := by omega
        have pb : -479520 ≤ sx * zx ∧ sx * zx ≤ 479520 := by omega
        have mb : -11508480 ≤ m ∧ m ≤ 11508480 := by omega
        have r1 : IntKind.i64.wrap (sx * zx) = sx * zx := IntWalk.i64_in _ (by omega)
        have r2 : IntKind.i64.wrap (m - sx * zx) = m - sx * zx := IntWalk.i64_in _ (by omega)
        clear hm hsx hzx fb kb B6 hw6
        go_wp2_with fail
        refine wp_region_still_tail 15 (by kernel_rfl) (by kernel_rfl) ?_
        simp only [List.take_succ_cons, List.take_zero, List.drop_succ_cons, List.drop_zero]
        repeat still_step
        refine wpStill_nil ?_
        clear r1 r2
        change wpList _ _ _ _ _ w6.drew
        go_wp2_with fail
        refine (C2.out w6.drew).mono ?_
        rintro e w7 ⟨rfl, b7⟩
        have b7' : Below w6.heap.size w6 w7 := ⟨b7.os, b7.tape, b7.output, b7.size, b7.block⟩
        obtain ⟨c0, c1, f0, f1⟩ := (X6.out.below b7' X6.out.lt).cells
        have BB := Lib.hid (HB6.out.trans (b7'.mono HB6.out.size))
        clear b7 b7' hs hz
        go_wp2_with fail
        refine bodyPost_ret (v := .agg #[.int .i64 N, .int .i64 D]) (by simp [results, Try.results122, go_sem, c0, c1]) rfl ⟨rfl, ?_⟩
        exact (BB.out.setCell (p := ⟨w.heap.size + 1, 0, none⟩) (by simp) _).setCell (p := ⟨w.heap.size + 1, 1, none⟩) (by simp) _
  · obtain ⟨rfl, rfl, rfl⟩ := LEAF.out rfl
    obtain ⟨c0, c1, f0, f1⟩ := X3.out.cells
    have hkb : (((List.length ([] : List Int) : Nat) : Int) == 0) = true := rfl
    go_wp2_with fail
    refine bodyPost_ret (v := .agg #[.int .i64 0, .int .i64 1]) (by simp [results, Try.results122, go_sem, c0, c1]) rfl ⟨rfl, ?_⟩
    exact (HB3.out.setCell (p := ⟨w.heap.size + 1, 0, none⟩) (by simp) _).setCell (p := ⟨w.heap.size + 1, 1, none⟩) (by simp) _
end Go.Proofs.Ytonlibncccljgaa
