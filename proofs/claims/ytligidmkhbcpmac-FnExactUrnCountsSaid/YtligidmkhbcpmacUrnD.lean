/- Quotients of products, in the model. -/
import Derived.Test.YtligidmkhbcpmacUrnE
import Derived.Test.YtligidmkhbcpmacFracS
namespace Go.Proofs.Ytligidmkhbcpmac
open Go.RowKit
set_option linter.unusedVariables false
theorem RowB.drewN {W : World} {b : Nat} {L : List Int} (h : RowB W b L) (n : Nat) : RowB (W.drewN n) b L := h.keep rfl (Nat.le_refl _)
theorem OwnV.shapeN {w : World} {lo hi : Nat} {v : Value} {zs : List Int} (h : OwnV w lo hi v zs) (hne : v ≠ .slice none 0 0) : ∃ g cap, v = .slice (some ⟨g, 0, none⟩) zs.length cap ∧ lo ≤ g ∧ g < hi := by
  rcases h.row.2 with ⟨h1, _⟩ | ⟨g, cap, cur, h1, hb, _⟩
  · exact absurd h1 hne
  · exact ⟨g, cap, h1, hb, h.lt g (by rw [h1]; simp [Value.ownBlock])⟩
set_option maxHeartbeats 1000000 in
/-- A copy of a row by its block. -/
theorem ownB (L : List Int) (b c : Nat) (w : World) (hn : L.length ≤ 1000) (h6 : ∀ z ∈ L, InI64 z) (h : RowB w b L) :
    Calls Try.prog 118 #[.slice (some ⟨b, 0, none⟩) L.length c] w (NewB L w) := by
  have CE : ∀ i u, (L.map (Value.int .i64))[i]? = some u → (w.alloc (.cells #[] 3)).cell? ((⟨b, 0, none⟩ : Addr).add i) = some u := by
    intro i u hu
    rw [List.getElem?_map] at hu
    have hi' : i < L.length := by
      rcases Nat.lt_or_ge i L.length with h' | h'
      · exact h'
      · rw [List.getElem?_eq_none h'] at hu; cases hu
    have := (h.al (.cells #[] 3)).cell i hi'
    rw [List.getElem?_eq_getElem hi'] at hu
    rw [Addr.add_lit, Nat.zero_add, this, List.getD_eq_getElem?_getD, List.getElem?_eq_getElem hi']
    exact hu
  have HCE := Lib.hid CE
  have H6 := Lib.hid h6
  clear CE h h6
  obtain ⟨i0, hi, hz0, hz1, hz2⟩ := info_parts intInfo
  have B1 := Lib.hid ((Below.refl w.heap.size w).alloc (Nat.le_refl _) (.cells #[] 3))
  have O1 := Lib.hid (OwnV.empty w w.heap.size (Nat.le_refl _))
  go_enter Try.func118, Try.ntmps118
  go_wp2_with (at_builtin; refine wpList_append_own _ rfl _ _ 22 rfl w.heap.size 3 i0 (.int .i64 0) 1 8 Try.underlying22 hi hz0 hz1 hz2 rfl (by decide) _ 0 [] rfl O1.out.row ⟨b, 0, none⟩ L.length c (L.map (.int .i64)) rfl (by simp) HCE.out (fun u hu => by obtain ⟨z, _, rfl⟩ := List.mem_map.1 hu; rfl) (by unfold maxLen; omega) (by omega) (by simp) ?_; intro v' w3 hown3 hgrow3 hnil3)
  have FIN : Hid (NewB L w (.returned v') w3) := Lib.hid (by
    have o : OwnV w3 w.heap.size w3.heap.size v' L := ⟨by simpa using hown3, fun q hq => (hown3.lt q hq).2, Nat.le_refl _, H6.out⟩
    have ne : v' ≠ .slice none 0 0 := fun e => by
      injection (hnil3.1 e).1 with h _ _
      cases h
    obtain ⟨g, cap, rfl, hg, _⟩ := o.shapeN ne
    exact ⟨g, cap, rfl, hg, o.rowB, B1.out.grown hgrow3 (by simp) (fun q hq => (O1.out.row.lt q hq).1)⟩)
  clear hown3 hgrow3 hnil3
  go_ret
  exact FIN.out
theorem prod_take_nn {L : List Int} (h : ∀ j, 0 ≤ L.getD j 0) : ∀ k, k ≤ L.length → 0 ≤ prodI (L.take k)
  | 0, _ => by simp [prodI]
  | k + 1, hk => by
      rw [prod_take L (by omega)]
      exact Int.mul_nonneg (prod_take_nn h k (by omega)) (h k)
set_option maxRecDepth 100000 in
set_option maxHeartbeats 8000000 in
theorem quoS (T B : List Int) (g1 c1 g2 c2 : Nat) (w : World) (ok : QuOk T B) (hT : T.length ≤ 20) (hB : B.length ≤ 20) (h1 : RowB w g1 T) (h2 : RowB w g2 B) :
    Calls Try.prog 180 #[.slice (some ⟨g1, 0, none⟩) T.length c1, .slice (some ⟨g2, 0, none⟩) B.length c2] w (Gives (quV T B) w) := by
  have OK := Lib.hid ok
  have T6 : ∀ z ∈ T, InI64 z := fun z hz => by
    obtain ⟨j, hj, e⟩ := List.getElem_of_mem hz
    have a := ok.nn j
    have b := ok.le j
    rw [List.getD_eq_getElem?_getD, List.getElem?_eq_getElem hj] at a b
    unfold InI64; rw [← e]; simp at a b; omega
  have B6 : ∀ z ∈ B, InI64 z := fun z hz => by
    obtain ⟨j, hj, e⟩ := List.getElem_of_mem hz
    have a := ok.b0 j
    have b := ok.bl j
    rw [List.getD_eq_getElem?_getD, List.getElem?_eq_getElem hj] at a b
    unfold InI64; rw [← e]; simp at a b; omega
  have OA := Lib.hid (fun w (h : RowB w g1 T) => ownB T g1 c1 w (by omega) T6 h)
  have OB := Lib.hid (fun w (h : RowB w g2 B) => ownB B g2 c2 w (by omega) B6 h)
  have H1 := Lib.hid h1
  have H2 := Lib.hid h2
  have ZR := Lib.hid (fun i (hi : i < T.length) (hz : T.getD i 0 = 0) => qu_zero OK.out hi hz)
  have KP := Lib.hid (fun (ht : ∀ j, j < T.length → 1 ≤ T.getD j 0) i k (hi : i ≤ T.length) (hk : k ≤ B.length) e1 e2 w => qu_kept OK.out ht hi hk e1 e2 w)
  obtain ⟨vp, vq, vok, hV⟩ := quV_form T B
  rw [hV] at ZR KP ⊢
  have TN := Lib.hid (fun j => show 0 ≤ T.getD j 0 ∧ T.getD j 0 ≤ 300 from ⟨ok.nn j, ok.le j⟩)
  have UN := Lib.hid (fun k j => (ur_ok ok.b0 (tf_pos T) k).nn j)
  have UE := Lib.hid (fun k => (ur_ok ok.b0 (tf_pos T) k).len)
  have UL := Lib.hid (fun k j => Int.le_trans (ur_le ok.b0 (tf_pos T) k j) (ok.bl j))
  have UP := Lib.hid (fun k => (ur_ok ok.b0 (tf_pos T) k).pos)
  have UM := Lib.hid (fun k n (h : k ≤ n) => ur_mono (ts := B) ok.b0 (tf_pos T) h)
  have US := Lib.hid (fun k => show (urK B (tfF T) (k + 1)).1 = (cutK (urK B (tfF T) k).1 (tfF T k) B.length).1 ∧ (urK B (tfF T) (k + 1)).2 = (urK B (tfF T) k).2 * alF B T k from ⟨rfl, rfl⟩)
  have U0 := Lib.hid (show (urK B (tfF T) 0).1 = B ∧ (urK B (tfF T) 0).2 = 1 from ⟨rfl, rfl⟩)
  have TP := Lib.hid (tf_pos T)
  have TE := Lib.hid (fun j (h : 1 ≤ T.getD j 0) => tf_eq h)
  have TM := Lib.hid (tf_le ok.le)
  have AF := Lib.hid (fun j => show alF B T j = (cutK (urK B (tfF T) j).1 (tfF T j) B.length).2 from rfl)
  have AB := Lib.hid (fun j => show 1 ≤ alF B T j ∧ alF B T j ≤ 300 from by
    have o := ur_ok ok.b0 (tf_pos T) j
    have c := cut_ok o.nn (tf_pos T j) B.length (by rw [o.len]; exact Nat.le_refl _)
    have l := Int.le_of_dvd (by have := tf_pos T j; omega) c.dvf
    have m := tf_le ok.le j
    have p := c.pos
    exact ⟨p, Int.le_trans l m⟩)
  have A0 := Lib.hid (al_zero B T)
  have AL := Lib.hid (al_len B T)
  have AA := Lib.hid (fun i (h : i < T.length) => al_at (B := B) h)
  have AD := Lib.hid (fun i j (h : j < T.length) (hj : j < i) => al_done (B := B) h hj)
  have AS := Lib.hid (fun i (h : 1 ≤ T.getD i 0) => al_start (B := B) h)
  have AN := Lib.hid (al_next B T)
  obtain ⟨A, hA⟩ : ∃ A : Nat → List Int × Int, A = urK B (tfF T) := ⟨_, rfl⟩
  rw [← hA] at KP UN UE UL UP UM US U0 AF
  obtain ⟨F, hF⟩ : ∃ F : Nat → Int, F = tfF T := ⟨_, rfl⟩
  rw [← hF] at TP TE TM AF AS US
  obtain ⟨E, hE⟩ : ∃ E : Nat → Int, E = alF B T := ⟨_, rfl⟩
  rw [← hE] at US AF AB AD AN
  obtain ⟨X, hX⟩ : ∃ X : Nat → List Int, X = alL B T := ⟨_, rfl⟩
  rw [← hX] at A0 AL AA AD AS AN
  have ZB := QBox.new w 0 0
  have BW := (Below.refl w.heap.size w).alloc (Nat.le_refl _) (.cells #[.int .i64 0, .int .i64 0] 26)
  obtain ⟨wa, hwa⟩ : ∃ wa, wa = w.alloc (.cells #[.int .i64 0, .int .i64 0] 26) := ⟨_, rfl⟩
  rw [← hwa] at ZB BW
  have HZ := Lib.hid ZB
  have HB := Lib.hid BW
  have GT : wa.heap.size = w.heap.size + 1 := by rw [hwa]; simp
  have gt1 : w.heap.size + 1 ≤ wa.heap.size := by omega
  have R1 := Lib.hid ((H1.out.below BW H1.out.lt))
  have R2 := Lib.hid ((H2.out.below BW H2.out.lt))
  clear hV hA hF hE hX T6 B6 OK ok h1 h2 H1 H2 ZB BW GT
  go_enter Try.func180, Try.ntmps180
  go_wp2_with fail
  rw [← hwa]
  clear hwa
  refine (OA.out _ R1.out).mono ?_
  rintro e wc ⟨ga, ca, rfl, la, RA, ba⟩
  have HZ1 := Lib.hid (HZ.out.below ba HZ.out.lt)
  have HB1 := Lib.hid (HB.out.trans (ba.mono HB.out.size))
  have R2c := Lib.hid (R2.out.next ba)
  have sza := ba.size
  clear ba HZ HB R1 R2
  go_wp2_with fail
  refine (OB.out _ R2c.out).mono ?_
  rintro e wd ⟨gb, cb, rfl, lb, RB0, bb⟩
  have HZ2 := Lib.hid (HZ1.out.below bb HZ1.out.lt)
  have HB2 := Lib.hid (HB1.out.trans (bb.mono HB1.out.size))
  have HA2 : Hid (RowB wd ga (X 0)) := Lib.hid (by rw [A0.out]; exact RA.next bb)
  have HBB2 : Hid (RowB wd gb (A 0).1) := Lib.hid (by rw [U0.out.1]; exact RB0)
  have lta := RA.lt
  have gab : ga < gb := by omega
  have ga1 : w.heap.size + 1 ≤ ga := by omega
  have gb1 : w.heap.size + 1 ≤ gb := by omega
  obtain ⟨m, hm⟩ : ∃ m, m = T.length := ⟨_, rfl⟩
  obtain ⟨n, hn⟩ : ∃ n, n = B.length := ⟨_, rfl⟩
  rw [← hm] at ZR KP AL AA AD hT ⊢
  rw [← hn] at KP UE US AF hB ⊢
  clear HZ1 HB1 R2c la lb RA RB0 bb lta sza OA OB gt1 hm hn
  go_wp2_with fail
  go_loopg [8] m (fun gg t wr => ∃ i : Nat, i ≤ m ∧ m - i ≤ gg ∧ t = .int .i64 i ∧ Hid (∀ j, j < i → 1 ≤ T.getD j 0) ∧ Hid (RowB wr ga (X i)) ∧ Hid (RowB wr gb (A i).1) ∧ Hid (QBox wr w.heap.size 0 0) ∧ Hid (Below w.heap.size w wr))
  case atStart => exact ⟨0, Nat.zero_le _, by omega, rfl, Lib.hid (fun j hj => by omega), HA2, HBB2, HZ2, HB2⟩
  case round =>
    clear HA2 HBB2 HZ2 HB2
    obtain ⟨i, hi, hgg, rfl, HP, HA, HBB, HZ, HB⟩ := hrel
    by_cases him : i < m
    · have i1 : (i : Int) < (m : Int) := by omega
      have i2 : 0 ≤ (i : Int) := by omega
      have x0 := HA.out.cell i (by rw [AL.out]; exact him)
      rw [AA.out i him] at x0
      have tn := TN.out i
      by_cases hz : T.getD i 0 = 0
      · have EV := Lib.hid (ZR.out i him hz)
        rw [hz] at x0
        rw [EV.out]
        obtain ⟨⟨c0, c1⟩, c2, c3⟩ := HZ.out.cells
        clear hz tn HA HBB HP
        go_wp2_with fail
        refine bodyPost_ret (v := .tuple #[.agg #[.int .i64 0, .int .i64 1], .bool true]) (by simp [results, Try.results180, go_sem, c0, c1]) rfl ⟨by first | rfl | (rw [EV.out]), ?_⟩
        exact bl_st HB.out (Nat.le_refl _) _ _
      · have t1 : 1 ≤ T.getD i 0 := by omega
        have hs0 := AS.out i t1
        have te := TE.out i t1
        have tm := TM.out i
        have tp := TP.out i
        have us := US.out i
        have af := AF.out i
        have an := AN.out i
        have CO := Lib.hid (fun k (hk : k ≤ n) => cut_ok (ts := (A i).1) (f := F i) (UN.out i) tp k (by rw [UE.out i]; exact hk))
        have CL := Lib.hid (fun k (hk : k ≤ n) j => Int.le_trans (cut_le (ts := (A i).1) (f := F i) (UN.out i) tp k (by rw [UE.out i]; exact hk) j) (UL.out i j))
        have CN := Lib.hid (fun k (hk : k ≤ n) => show (cutK (A i).1 (F i) k).1.length = n by rw [(CO.out k hk).len]; exact UE.out i)
        have CS := Lib.hid (fun k => show (cutK (A i).1 (F i) (k + 1)).1 = (cutK (A i).1 (F i) k).1.set k ((cutK (A i).1 (F i) k).1.getD k 0 / gI ((cutK (A i).1 (F i) k).1.getD k 0) (cutK (A i).1 (F i) k).2) ∧ (cutK (A i).1 (F i) (k + 1)).2 = (cutK (A i).1 (F i) k).2 / gI ((cutK (A i).1 (F i) k).1.getD k 0) (cutK (A i).1 (F i) k).2 from ⟨rfl, rfl⟩)
        have CB := Lib.hid (fun k (hk : k ≤ n) => show 1 ≤ (cutK (A i).1 (F i) k).2 ∧ (cutK (A i).1 (F i) k).2 ≤ 300 from ⟨(CO.out k hk).pos, Int.le_trans (Int.le_of_dvd (by omega) (CO.out k hk).dvf) tm⟩)
        have CQ := Lib.hid (fun k (hk : k ≤ n) j => show 0 ≤ (cutK (A i).1 (F i) k).1.getD j 0 ∧ (cutK (A i).1 (F i) k).1.getD j 0 ≤ 300 from ⟨(CO.out k hk).nn j, CL.out k hk j⟩)
        have C0 := Lib.hid (show (cutK (A i).1 (F i) 0).1 = (A i).1 ∧ (cutK (A i).1 (F i) 0).2 = F i from ⟨rfl, rfl⟩)
        obtain ⟨C, hC⟩ : ∃ C : Nat → List Int × Int, C = cutK (A i).1 (F i) := ⟨_, rfl⟩
        rw [← hC] at us af CN CS CB CQ C0
        have USH := Lib.hid us.1
        have AFH := Lib.hid af
        have ANH := Lib.hid an
        have HP2 : Hid (∀ j, j < i + 1 → 1 ≤ T.getD j 0) := Lib.hid (fun j hj => by
          rcases Nat.lt_or_ge j i with h | h
          · exact HP.out j h
          · obtain rfl : j = i := by omega
            exact t1)
        have HA4 : Hid (RowB wr ga ((X i).set i (C 0).2)) := Lib.hid (by rw [C0.out.2, hs0]; exact HA.out)
        have HB4 : Hid (RowB wr gb (C 0).1) := Lib.hid (by rw [C0.out.1]; exact HBB.out)
        have z1 : ((T.getD i 0 : Int) == 0) = false := by simpa using hz
        obtain ⟨x, hx⟩ : ∃ x, x = T.getD i 0 := ⟨_, rfl⟩
        rw [← hx] at x0 z1 t1 tn
        clear hs0 te tm tp us af an CO CL hC HA HBB C0 HP hz hx
        go_wp2_with fail
        clear x0 z1 t1 tn
        go_loopg [9] n (fun gg t wr => ∃ k : Nat, k ≤ n ∧ n - k ≤ gg ∧ t = .int .i64 k ∧ Hid (RowB wr ga ((X i).set i (C k).2)) ∧ Hid (RowB wr gb (C k).1) ∧ Hid (QBox wr w.heap.size 0 0) ∧ Hid (Below w.heap.size w wr))
        case atStart => exact ⟨0, Nat.zero_le _, by omega, rfl, HA4, HB4, HZ, HB⟩
        case round =>
          clear HA4 HB4 HZ HB
          obtain ⟨k, hk, hgg2, rfl, HA, HBB, HZ, HB⟩ := hrel
          by_cases hkn : k < n
          · have k1 : (k : Int) < (n : Int) := by omega
            have k2 : 0 ≤ (k : Int) := by omega
            have x0 := HA.out.cell i (by rw [List.length_set, AL.out]; exact him)
            have x1 := HA.out.thaw i (by rw [List.length_set, AL.out]; exact him)
            rw [getD_set, if_pos ⟨rfl, by rw [AL.out]; exact him⟩] at x0
            have y0 := HBB.out.cell k (by rw [CN.out k hk]; exact hkn)
            have y1 := HBB.out.thaw k (by rw [CN.out k hk]; exact hkn)
            have cb := CB.out k hk
            have cq := CQ.out k hk k
            have cs := CS.out k
            have GC := Lib.hid (fun w => gcdS (C k).2 ((C k).1.getD k 0) w (by omega) (by omega))
            rw [gI_comm] at GC
            obtain ⟨t, ht⟩ : ∃ t, t = (C k).1.getD k 0 := ⟨_, rfl⟩
            obtain ⟨f, hf⟩ : ∃ f, f = (C k).2 := ⟨_, rfl⟩
            rw [← ht] at y0 cq cs GC
            rw [← hf] at x0 cb cs GC
            have gp := gI_pos (a := t) (b := f) (by omega)
            have gl : gI t f ≤ f := Int.le_of_dvd (by omega) (gI_dvd_r t f)
            obtain ⟨g, hg⟩ : ∃ g, g = gI t f := ⟨_, rfl⟩
            rw [← hg] at gp gl cs GC
            have TQ : Int.tdiv t g = t / g := Int.tdiv_eq_ediv_of_nonneg cq.1
            have FQ : Int.tdiv f g = f / g := Int.tdiv_eq_ediv_of_nonneg (by omega)
            have tq1 : 0 ≤ t / g := Int.ediv_nonneg cq.1 (by omega)
            have tq2 : t / g ≤ t := Int.ediv_le_self _ cq.1
            have fq1 : 0 ≤ f / g := Int.ediv_nonneg (by omega) (by omega)
            have fq2 : f / g ≤ f := Int.ediv_le_self _ (by omega)
            obtain ⟨tq, htq⟩ : ∃ tq, tq = t / g := ⟨_, rfl⟩
            obtain ⟨fq, hfq⟩ : ∃ fq, fq = f / g := ⟨_, rfl⟩
            rw [← htq] at TQ tq1 tq2 cs
            rw [← hfq] at FQ fq1 fq2 cs
            have A5 : Hid (∀ q, RowB (((wr.drewN q).setCell ⟨ga, i, none⟩ (.int .i64 fq)).setCell ⟨gb, k, none⟩ (.int .i64 tq)) ga ((X i).set i (C (k + 1)).2)) := Lib.hid (fun q => by
              have h := (HA.out.drewN q).set (i := i) (x := fq) (by rw [List.length_set, AL.out]; exact him)
              rw [List.set_set] at h
              rw [cs.2]
              exact h.far (g := gb) (o := k) (v := .int .i64 tq) (by omega))
            have R5 : Hid (∀ q, RowB (((wr.drewN q).setCell ⟨ga, i, none⟩ (.int .i64 fq)).setCell ⟨gb, k, none⟩ (.int .i64 tq)) gb (C (k + 1)).1) := Lib.hid (fun q => by
              have h := ((HBB.out.drewN q).far (g := ga) (o := i) (v := .int .i64 fq) (by omega)).set (i := k) (x := tq) (by rw [CN.out k hk]; exact hkn)
              rw [← cs.1] at h
              exact h)
            have Z5 : Hid (∀ q, QBox (((wr.drewN q).setCell ⟨ga, i, none⟩ (.int .i64 fq)).setCell ⟨gb, k, none⟩ (.int .i64 tq)) w.heap.size 0 0) := Lib.hid (fun q => QBox.far (QBox.far (show QBox (wr.drewN q) w.heap.size 0 0 from HZ.out) (by omega)) (by omega))
            have B5 : Hid (∀ q, Below w.heap.size w (((wr.drewN q).setCell ⟨ga, i, none⟩ (.int .i64 fq)).setCell ⟨gb, k, none⟩ (.int .i64 tq))) := Lib.hid (fun q => ((below_drewN HB.out q).setCell (p := ⟨ga, i, none⟩) (by show w.heap.size ≤ ga; omega) _).setCell (p := ⟨gb, k, none⟩) (by show w.heap.size ≤ gb; omega) _)
            have ng : ¬ g = 0 := by omega
            have nab : ga ≠ gb := by omega
            have nba : gb ≠ ga := by omega
            clear HA HBB HZ HB cs ht hf hg htq hfq
            go_wp2_with fail
            go_quiet ((go_at_call 201; exact quiet_draw (GC.out _)))
            go_wp2_with fail
            go_roundg (n - (k + 1))
            case rel => exact ⟨k + 1, by omega, by omega, by go_num, Lib.hid (A5.out _), Lib.hid (R5.out _), Lib.hid (Z5.out _), Lib.hid (B5.out _)⟩
            case measure => omega
          · have hkn2 : k = n := by omega
            have k1 : ¬ (k : Int) < (n : Int) := by omega
            have A5 : Hid (RowB wr ga (X (i + 1))) := Lib.hid (by have h := HA.out; rw [hkn2, ← AFH.out, ANH.out] at h; exact h)
            have R5 : Hid (RowB wr gb (A (i + 1)).1) := Lib.hid (by have h := HBB.out; rw [hkn2, ← USH.out] at h; exact h)
            clear HA HBB hkn2
            go_wp2_with fail
            go_roundg (m - (i + 1))
            case rel => exact ⟨i + 1, by omega, by omega, by go_num, HP2, A5, R5, HZ, HB⟩
            case measure => omega
    · have him2 : i = m := by omega
      have i1 : ¬ (i : Int) < (m : Int) := by omega
      have HT1 : Hid (∀ j, j < m → 1 ≤ T.getD j 0) := Lib.hid (by rw [← him2]; exact HP.out)
      have KP := Lib.hid (KP.out HT1.out)
      have A5 : Hid (RowB wr ga (X m)) := Lib.hid (by have h := HA.out; rw [him2] at h; exact h)
      have R5 : Hid (RowB wr gb (A m).1) := Lib.hid (by have h := HBB.out; rw [him2] at h; exact h)
      have XA := Lib.hid (fun j (hj : j < m) => AD.out m j hj hj)
      have XL := Lib.hid (AL.out m)
      have L4L := Lib.hid (UE.out m)
      have L4B := Lib.hid (fun j => show 0 ≤ (A m).1.getD j 0 ∧ (A m).1.getD j 0 ≤ 300 from ⟨UN.out m j, UL.out m j⟩)
      have PS := Lib.hid (fun j => (US.out j).2)
      have P0 := Lib.hid U0.out.2
      have PP := Lib.hid (fun j => UP.out j)
      have RS := Lib.hid (fun k (hk : k < n) => show prodI ((A m).1.take (k + 1)) = prodI ((A m).1.take k) * (A m).1.getD k 0 from prod_take _ (by rw [L4L.out]; exact hk))
      have R0 := Lib.hid (show prodI ((A m).1.take 0) = 1 by rw [List.take_zero]; rfl)
      have RB := Lib.hid (fun k (hk : k ≤ n) => show 0 ≤ prodI ((A m).1.take k) from prod_take_nn (fun j => (L4B.out j).1) k (by rw [L4L.out]; exact hk))
      obtain ⟨L4, hL4⟩ : ∃ L4, L4 = (A m).1 := ⟨_, rfl⟩
      rw [← hL4] at KP R5 L4L L4B RS R0 RB
      obtain ⟨P, hPP⟩ : ∃ P : Nat → Int, P = fun j => (A j).2 := ⟨_, rfl⟩
      have PD : ∀ j, (A j).2 = P j := fun j => by rw [hPP]
      obtain ⟨R, hRR⟩ : ∃ R : Nat → Int, R = fun k => prodI (L4.take k) := ⟨_, rfl⟩
      have RD : ∀ k, prodI (L4.take k) = R k := fun k => by rw [hRR]
      simp only [PD] at KP PS P0 PP
      simp only [RD] at KP RS R0 RB
      obtain ⟨X4, hX4⟩ : ∃ X4, X4 = X m := ⟨_, rfl⟩
      rw [← hX4] at A5 XA XL
      clear hL4 hPP hRR PD RD hX4 HA HBB him2 HP HT1 UN UE UL UP UM US U0 TP TE TM AF A0 AL AA AD AS AN ZR
      have QN := Lib.hid (QBox.new wr 1 1)
      have A6 := Lib.hid (A5.out.al (.cells #[.int .i64 1, .int .i64 1] 26))
      have R6 := Lib.hid (R5.out.al (.cells #[.int .i64 1, .int .i64 1] 26))
      have Z6 := Lib.hid (HZ.out.below ((Below.refl wr.heap.size wr).alloc (Nat.le_refl _) (.cells #[.int .i64 1, .int .i64 1] 26)) HZ.out.lt)
      have B6 := Lib.hid (HB.out.alloc HB.out.size (.cells #[.int .i64 1, .int .i64 1] 26))
      have ltb := R5.out.lt
      have lta := A5.out.lt
      clear A5 R5 HZ HB
      go_wp2_with fail
      obtain ⟨go, hgo⟩ : ∃ go, go = wr.heap.size := ⟨_, rfl⟩
      rw [← hgo] at QN ltb lta ⊢
      have go1 : w.heap.size + 1 ≤ go := by omega
      have Q6 : Hid (QBox _ go (P 0) 1) := Lib.hid (by rw [P0.out]; exact QN.out)
      clear hgo QN
      go_loopg [12] m (fun gg t wr => ∃ i : Nat, i ≤ m ∧ m - i ≤ gg ∧ t = .int .i64 i ∧ Hid (RowB wr ga X4) ∧ Hid (RowB wr gb L4) ∧ Hid (QBox wr go (P i) 1) ∧ Hid (QBox wr w.heap.size 0 0) ∧ Hid (Below w.heap.size w wr))
      case atStart => exact ⟨0, Nat.zero_le _, by omega, rfl, A6, R6, Q6, Z6, B6⟩
      case round =>
        clear A6 R6 Q6 Z6 B6
        obtain ⟨i, hi, hgg3, rfl, HA, HBB, HQ, HZ, HB⟩ := hrel
        obtain ⟨⟨q0, q1⟩, q2, q3⟩ := HQ.out.cells
        by_cases him : i < m
        · have i1 : (i : Int) < (m : Int) := by omega
          have i2 : 0 ≤ (i : Int) := by omega
          by_cases hpi9 : P i ≤ 1000000000
          · have x0 := HA.out.cell i (by rw [XL.out]; exact him)
            rw [XA.out i him] at x0
            have ab := AB.out i
            have pp := PP.out i
            have ps := PS.out i
            obtain ⟨u, hu⟩ : ∃ u, u = E i := ⟨_, rfl⟩
            obtain ⟨pi, hpi⟩ : ∃ pi, pi = P i := ⟨_, rfl⟩
            rw [← hu] at x0 ab ps
            rw [← hpi] at q0 HQ pp ps hpi9
            have mb : pi * u ≤ 1000000000 * 300 := Int.mul_le_mul hpi9 ab.2 (by omega) (by omega)
            have ma : 0 ≤ pi * u := Int.mul_nonneg (by omega) (by omega)
            obtain ⟨z, hz⟩ : ∃ z, z = pi * u := ⟨_, rfl⟩
            rw [← hz] at ps mb ma
            have WZ : IntKind.i64.wrap (pi * u) = z := by rw [← hz]; exact IntWalk.i64_in _ (by omega)
            have Q5 : Hid (QBox (wr.setCell ⟨go, 0, none⟩ (.int .i64 z)).drew go (P (i + 1)) 1) := Lib.hid (by rw [ps]; exact HQ.out.st0 z)
            have Z5 : Hid (QBox (wr.setCell ⟨go, 0, none⟩ (.int .i64 z)).drew w.heap.size 0 0) := Lib.hid (HZ.out.far (g := go) (o := 0) (x := .int .i64 z) (by omega))
            have A5 : Hid (RowB (wr.setCell ⟨go, 0, none⟩ (.int .i64 z)).drew ga X4) := Lib.hid ((HA.out.far (g := go) (o := 0) (v := .int .i64 z) (by omega)).drew)
            have R5 : Hid (RowB (wr.setCell ⟨go, 0, none⟩ (.int .i64 z)).drew gb L4) := Lib.hid ((HBB.out.far (g := go) (o := 0) (v := .int .i64 z) (by omega)).drew)
            have B5 : Hid (Below w.heap.size w (wr.setCell ⟨go, 0, none⟩ (.int .i64 z)).drew) := Lib.hid (below_drew (HB.out.setCell (p := ⟨go, 0, none⟩) (by show w.heap.size ≤ go; omega) (.int .i64 z)))
            clear HA HBB HQ HZ HB hu hz ps hpi
            go_wp2_with fail
            go_region
            go_wp2_with fail
            go_roundg (m - (i + 1))
            case rel => exact ⟨i + 1, by omega, by omega, by go_num, A5, R5, Q5, Z5, B5⟩
            case measure => omega
          · have HX : Hid (i = m ∨ 1000000000 < P i) := Lib.hid (.inr (by omega))
            clear PS PP AB XA XL
            have HXI := HX
            have P4 := Lib.hid (fun k (hk : k ≤ n) (h2 : k = n ∨ 1000000 < R k) w => KP.out i k hi hk HXI.out h2 w)
            obtain ⟨pi, hpi⟩ : ∃ pi, pi = P i := ⟨_, rfl⟩
            rw [← hpi] at P4 HQ
            have HQ4 : Hid (QBox wr go pi (R 0)) := Lib.hid (by rw [R0.out]; exact HQ.out)
            clear HX HXI hpi HQ HA
            go_wp2_with fail
            go_loopg [13] n (fun gg t wr => ∃ k : Nat, k ≤ n ∧ n - k ≤ gg ∧ t = .int .i64 k ∧ Hid (RowB wr gb L4) ∧ Hid (QBox wr go pi (R k)) ∧ Hid (QBox wr w.heap.size 0 0) ∧ Hid (Below w.heap.size w wr))
            case atStart => exact ⟨0, Nat.zero_le _, by omega, rfl, HBB, HQ4, HZ, HB⟩
            case round =>
              clear HBB HQ4 HZ HB
              obtain ⟨k, hk, hgg4, rfl, HBB, HQ, HZ, HB⟩ := hrel
              obtain ⟨⟨q0, q1⟩, q2, q3⟩ := HQ.out.cells
              obtain ⟨⟨z0, z1⟩, z2, z3⟩ := HZ.out.cells
              by_cases hkn : k < n
              · have k1 : (k : Int) < (n : Int) := by omega
                have k2 : 0 ≤ (k : Int) := by omega
                by_cases hrk : R k ≤ 1000000
                · have y0 := HBB.out.cell k (by rw [L4L.out]; exact hkn)
                  have lb := L4B.out k
                  have rb := RB.out k hk
                  have rs := RS.out k hkn
                  obtain ⟨u, hu⟩ : ∃ u, u = L4.getD k 0 := ⟨_, rfl⟩
                  obtain ⟨rk, hrk2⟩ : ∃ rk, rk = R k := ⟨_, rfl⟩
                  rw [← hu] at y0 lb rs
                  rw [← hrk2] at q1 HQ rb rs hrk
                  have mb : rk * u ≤ 1000000 * 300 := Int.mul_le_mul hrk lb.2 lb.1 (by omega)
                  have ma : 0 ≤ rk * u := Int.mul_nonneg (by omega) lb.1
                  obtain ⟨z, hz⟩ : ∃ z, z = rk * u := ⟨_, rfl⟩
                  rw [← hz] at rs mb ma
                  have WZ : IntKind.i64.wrap (rk * u) = z := by rw [← hz]; exact IntWalk.i64_in _ (by omega)
                  have Q5 : Hid (QBox (wr.setCell ⟨go, 1, none⟩ (.int .i64 z)).drew go pi (R (k + 1))) := Lib.hid (by rw [rs]; exact HQ.out.st1 z)
                  have Z5 : Hid (QBox (wr.setCell ⟨go, 1, none⟩ (.int .i64 z)).drew w.heap.size 0 0) := Lib.hid (HZ.out.far (g := go) (o := 1) (x := .int .i64 z) (by omega))
                  have R5 : Hid (RowB (wr.setCell ⟨go, 1, none⟩ (.int .i64 z)).drew gb L4) := Lib.hid ((HBB.out.far (g := go) (o := 1) (v := .int .i64 z) (by omega)).drew)
                  have B5 : Hid (Below w.heap.size w (wr.setCell ⟨go, 1, none⟩ (.int .i64 z)).drew) := Lib.hid (below_drew (HB.out.setCell (p := ⟨go, 1, none⟩) (by show w.heap.size ≤ go; omega) (.int .i64 z)))
                  clear HBB HQ HZ HB hu hz rs hrk2 z0 z1 z2 z3
                  go_wp2_with fail
                  go_region
                  go_wp2_with fail
                  go_roundg (n - (k + 1))
                  case rel => exact ⟨k + 1, by omega, by omega, by go_num, R5, Q5, Z5, B5⟩
                  case measure => omega
                · have P5 := Lib.hid (P4.out k hk (.inr (by omega)))
                  obtain ⟨rk, hrk2⟩ : ∃ rk, rk = R k := ⟨_, rfl⟩
                  rw [← hrk2] at q1 hrk P5
                  clear hrk2 HBB HQ P4
                  go_wp2_with fail
                  refine (P5.out _).mono ?_
                  rintro e w6 ⟨rfl, b6⟩
                  obtain ⟨⟨c0, c1⟩, c2, c3⟩ := (HZ.out.below b6 HZ.out.lt).cells
                  have B6 := Lib.hid (HB.out.trans (b6.mono HB.out.size))
                  clear b6 q0 q1 q2 q3 z0 z1 z2 z3
                  go_wp2_with fail
                  refine bodyPost_ret (v := .tuple #[.agg #[.int .i64 vp, .int .i64 vq], .bool vok]) (by simp [results, Try.results180, go_sem, c0, c1]) rfl ⟨rfl, ?_⟩
                  exact bl_st B6.out (Nat.le_refl _) _ _
              · have k1 : ¬ (k : Int) < (n : Int) := by omega
                have P5 := Lib.hid (P4.out k hk (.inl (by omega)))
                obtain ⟨rk, hrk2⟩ : ∃ rk, rk = R k := ⟨_, rfl⟩
                rw [← hrk2] at q1 P5
                clear hrk2 HBB HQ P4
                go_wp2_with fail
                refine (P5.out _).mono ?_
                rintro e w6 ⟨rfl, b6⟩
                obtain ⟨⟨c0, c1⟩, c2, c3⟩ := (HZ.out.below b6 HZ.out.lt).cells
                have B6 := Lib.hid (HB.out.trans (b6.mono HB.out.size))
                clear b6 q0 q1 q2 q3 z0 z1 z2 z3
                go_wp2_with fail
                refine bodyPost_ret (v := .tuple #[.agg #[.int .i64 vp, .int .i64 vq], .bool vok]) (by simp [results, Try.results180, go_sem, c0, c1]) rfl ⟨rfl, ?_⟩
                exact bl_st B6.out (Nat.le_refl _) _ _
        · have i1 : ¬ (i : Int) < (m : Int) := by omega
          have HX : Hid (i = m ∨ 1000000000 < P i) := Lib.hid (.inl (by omega))
          clear PS PP AB XA XL
          have HXI := HX
          have P4 := Lib.hid (fun k (hk : k ≤ n) (h2 : k = n ∨ 1000000 < R k) w => KP.out i k hi hk HXI.out h2 w)
          obtain ⟨pi, hpi⟩ : ∃ pi, pi = P i := ⟨_, rfl⟩
          rw [← hpi] at P4 HQ
          have HQ4 : Hid (QBox wr go pi (R 0)) := Lib.hid (by rw [R0.out]; exact HQ.out)
          clear HX HXI hpi HQ HA
          go_wp2_with fail
          go_loopg [13] n (fun gg t wr => ∃ k : Nat, k ≤ n ∧ n - k ≤ gg ∧ t = .int .i64 k ∧ Hid (RowB wr gb L4) ∧ Hid (QBox wr go pi (R k)) ∧ Hid (QBox wr w.heap.size 0 0) ∧ Hid (Below w.heap.size w wr))
          case atStart => exact ⟨0, Nat.zero_le _, by omega, rfl, HBB, HQ4, HZ, HB⟩
          case round =>
            clear HBB HQ4 HZ HB
            obtain ⟨k, hk, hgg4, rfl, HBB, HQ, HZ, HB⟩ := hrel
            obtain ⟨⟨q0, q1⟩, q2, q3⟩ := HQ.out.cells
            obtain ⟨⟨z0, z1⟩, z2, z3⟩ := HZ.out.cells
            by_cases hkn : k < n
            · have k1 : (k : Int) < (n : Int) := by omega
              have k2 : 0 ≤ (k : Int) := by omega
              by_cases hrk : R k ≤ 1000000
              · have y0 := HBB.out.cell k (by rw [L4L.out]; exact hkn)
                have lb := L4B.out k
                have rb := RB.out k hk
                have rs := RS.out k hkn
                obtain ⟨u, hu⟩ : ∃ u, u = L4.getD k 0 := ⟨_, rfl⟩
                obtain ⟨rk, hrk2⟩ : ∃ rk, rk = R k := ⟨_, rfl⟩
                rw [← hu] at y0 lb rs
                rw [← hrk2] at q1 HQ rb rs hrk
                have mb : rk * u ≤ 1000000 * 300 := Int.mul_le_mul hrk lb.2 lb.1 (by omega)
                have ma : 0 ≤ rk * u := Int.mul_nonneg (by omega) lb.1
                obtain ⟨z, hz⟩ : ∃ z, z = rk * u := ⟨_, rfl⟩
                rw [← hz] at rs mb ma
                have WZ : IntKind.i64.wrap (rk * u) = z := by rw [← hz]; exact IntWalk.i64_in _ (by omega)
                have Q5 : Hid (QBox (wr.setCell ⟨go, 1, none⟩ (.int .i64 z)).drew go pi (R (k + 1))) := Lib.hid (by rw [rs]; exact HQ.out.st1 z)
                have Z5 : Hid (QBox (wr.setCell ⟨go, 1, none⟩ (.int .i64 z)).drew w.heap.size 0 0) := Lib.hid (HZ.out.far (g := go) (o := 1) (x := .int .i64 z) (by omega))
                have R5 : Hid (RowB (wr.setCell ⟨go, 1, none⟩ (.int .i64 z)).drew gb L4) := Lib.hid ((HBB.out.far (g := go) (o := 1) (v := .int .i64 z) (by omega)).drew)
                have B5 : Hid (Below w.heap.size w (wr.setCell ⟨go, 1, none⟩ (.int .i64 z)).drew) := Lib.hid (below_drew (HB.out.setCell (p := ⟨go, 1, none⟩) (by show w.heap.size ≤ go; omega) (.int .i64 z)))
                clear HBB HQ HZ HB hu hz rs hrk2 z0 z1 z2 z3
                go_wp2_with fail
                go_region
                go_wp2_with fail
                go_roundg (n - (k + 1))
                case rel => exact ⟨k + 1, by omega, by omega, by go_num, R5, Q5, Z5, B5⟩
                case measure => omega
              · have P5 := Lib.hid (P4.out k hk (.inr (by omega)))
                obtain ⟨rk, hrk2⟩ : ∃ rk, rk = R k := ⟨_, rfl⟩
                rw [← hrk2] at q1 hrk P5
                clear hrk2 HBB HQ P4
                go_wp2_with fail
                refine (P5.out _).mono ?_
                rintro e w6 ⟨rfl, b6⟩
                obtain ⟨⟨c0, c1⟩, c2, c3⟩ := (HZ.out.below b6 HZ.out.lt).cells
                have B6 := Lib.hid (HB.out.trans (b6.mono HB.out.size))
                clear b6 q0 q1 q2 q3 z0 z1 z2 z3
                go_wp2_with fail
                refine bodyPost_ret (v := .tuple #[.agg #[.int .i64 vp, .int .i64 vq], .bool vok]) (by simp [results, Try.results180, go_sem, c0, c1]) rfl ⟨rfl, ?_⟩
                exact bl_st B6.out (Nat.le_refl _) _ _
            · have k1 : ¬ (k : Int) < (n : Int) := by omega
              have P5 := Lib.hid (P4.out k hk (.inl (by omega)))
              obtain ⟨rk, hrk2⟩ : ∃ rk, rk = R k := ⟨_, rfl⟩
              rw [← hrk2] at q1 P5
              clear hrk2 HBB HQ P4
              go_wp2_with fail
              refine (P5.out _).mono ?_
              rintro e w6 ⟨rfl, b6⟩
              obtain ⟨⟨c0, c1⟩, c2, c3⟩ := (HZ.out.below b6 HZ.out.lt).cells
              have B6 := Lib.hid (HB.out.trans (b6.mono HB.out.size))
              clear b6 q0 q1 q2 q3 z0 z1 z2 z3
              go_wp2_with fail
              refine bodyPost_ret (v := .tuple #[.agg #[.int .i64 vp, .int .i64 vq], .bool vok]) (by simp [results, Try.results180, go_sem, c0, c1]) rfl ⟨rfl, ?_⟩
              exact bl_st B6.out (Nat.le_refl _) _ _
end Go.Proofs.Ytligidmkhbcpmac
