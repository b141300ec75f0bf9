/- The law of walks and votes: the walk. -/
import Derived.Test.YtmidlabgmmejbabWlkX
import Derived.Test.YtmidlabgmmejbabWlkQ
import Derived.Test.YtmidlabgmmejbabCurW
import Derived.Test.YtmidlabgmmejbabVbig
import Derived.Test.YtmidlabgmmejbabVcutB
import Derived.Deep.DeepCutAuto
import Derived.Deep.QuietTactic
import Derived.BigQuiet
namespace Go.Proofs.Ytmidlabgmmejbab
open Go.RowKit
set_option linter.unusedVariables false
theorem bytes_below {w w' : World} {B n : Nat} {p : Option Addr} (h : BytesAt w B p n) (hb : Below B w w') : BytesAt w' B p n := by
  intro i hi
  obtain ⟨b, off, z, e, hB, z0, z1, hc⟩ := h i hi
  exact ⟨b, off, z, e, hB, z0, z1, by rw [hb.cell (p := ⟨b, off + i, none⟩) hB]; exact hc⟩
set_option maxRecDepth 100000 in
set_option maxHeartbeats 8000000 in
theorem walkPth (n c : Nat) (p : Option Addr) (W : World) (hn : n ≤ maxLen) (hnc : n ≤ c) (hB : BytesAt W W.heap.size p n) :
    Calls Try.prog 7 #[.slice p n c] W fun e W' => e = .returned (.bool true) ∧ Below W.heap.size W W' := by
  by_cases hbig : 65536 < n
  · have BG := Lib.hid (bigYes n c p W hbig hn)
    clear hbig hB
    go_enter Try.func7, Try.ntmps7
    go_wp2_with fail
    refine BG.out.mono ?_
    rintro e w0 ⟨rfl, rfl⟩
    go_wp2_with fail
    go_ret
    exact ⟨rfl, Below.refl _ _⟩
  have hn6 : n ≤ 65536 := by omega
  have BG := Lib.hid (bigNo n c p W hn6)
  have DS := Lib.hid (drawAbove n c p W hn6 hB)
  have HBy := Lib.hid hB
  clear hbig hB
  go_enter Try.func7, Try.ntmps7
  go_wp2_with fail
  refine BG.out.mono ?_
  rintro e w0 ⟨rfl, rfl⟩
  go_wp2_with fail
  refine DS.out.mono ?_
  rintro e w1 ⟨⟨m, x, d, im, ix, id, rfl⟩, b1⟩
  have D1 := Lib.hid b1
  clear b1 DS BG
  have IM := Lib.hid im
  have IX := Lib.hid ix
  clear im ix id
  have AI := Lib.hid (fun w => abC m x d w)
  have AS := Lib.hid (fun w => abS m x d w)
  have PI := Lib.hid (fun w => pcC m x w)
  have PS := Lib.hid (fun w => pcS m x w)
  obtain ⟨many, hmany⟩ : ∃ v, v = abV m x d := ⟨_, rfl⟩
  obtain ⟨ok, hok⟩ : ∃ v, v = okA m d := ⟨_, rfl⟩
  obtain ⟨all, hall⟩ : ∃ v, v = pcV m x := ⟨_, rfl⟩
  obtain ⟨fine, hfine⟩ : ∃ v, v = okM 0 m := ⟨_, rfl⟩
  rw [← hmany, ← hok] at AI AS
  rw [← hall, ← hfine] at PI PS
  have H1 := Lib.hid (And.intro hmany (And.intro hok (And.intro hall hfine)))
  clear hmany hok hall hfine
  unfold TI at AI AS PI PS
  go_wp2_with fail
  refine (AI.out _).mono ?_
  rintro e w9 ⟨rfl, rfl⟩
  clear AI
  go_wp2_with fail
  refine (AS.out _).mono ?_
  rintro e w9 ⟨rfl, rfl⟩
  clear AS
  go_wp2_with fail
  refine (PI.out _).mono ?_
  rintro e w9 ⟨rfl, rfl⟩
  clear PI
  go_wp2_with fail
  refine (PS.out _).mono ?_
  rintro e w9 ⟨rfl, rfl⟩
  clear PS
  have CV := Lib.hid (cutAny n c p w1 hn6 hnc ((bytes_below HBy.out D1.out).more D1.out.size))
  go_wp2_with fail
  refine (CV.out).mono ?_
  rintro e w2 ⟨cg, cm, cc, rfl, hcm, hcc, cby, b2⟩
  have D2 := Lib.hid (bl_then D1.out b2)
  clear D1
  have DW := Lib.hid (drawFirst cm cc (some ⟨cg, 0, none⟩) w2 hcm cby)
  clear CV cby
  go_wp2_with fail
  refine (DW.out).mono ?_
  rintro e w3 ⟨⟨k, y, ik, iy, rfl⟩, b3⟩
  have D3 := Lib.hid (bl_then D2.out b3)
  clear D2
  clear DW
  have FI := Lib.hid (fun w => fpC k y w iy)
  have FS := Lib.hid (fun w => fpS k y w iy)
  obtain ⟨first, hfirst⟩ : ∃ v, v = fpV k y := ⟨_, rfl⟩
  obtain ⟨there, hthere⟩ : ∃ v, v = okF k y := ⟨_, rfl⟩
  rw [← hfirst, ← hthere] at FI FS
  have H2 := Lib.hid (And.intro hfirst hthere)
  clear hfirst hthere ik iy
  unfold TI at FI FS
  go_wp2_with fail
  refine (FI.out _).mono ?_
  rintro e w9 ⟨rfl, rfl⟩
  clear FI
  go_wp2_with fail
  refine (FS.out _).mono ?_
  rintro e w9 ⟨rfl, rfl⟩
  clear FS
  have CV := Lib.hid (cutAny2 n c p w3 hn6 hnc ((bytes_below HBy.out D3.out).more D3.out.size))
  go_wp2_with fail
  refine (CV.out).mono ?_
  rintro e w4 ⟨dg, dm, dc, rfl, hdm, hdc, dby, b4⟩
  have D4 := Lib.hid (bl_then D3.out b4)
  clear D3
  have DW := Lib.hid (drawBallot dm dc (some ⟨dg, 0, none⟩) w4 hdm dby)
  clear CV dby
  go_wp2_with fail
  refine (DW.out).mono ?_
  rintro e w5 ⟨⟨p', q, ip, iq, rfl⟩, b5⟩
  have D5 := Lib.hid (bl_then D4.out b5)
  clear D4
  clear DW
  have BI := Lib.hid (fun w => baC p' q w ip iq)
  have BS := Lib.hid (fun w => baS p' q w ip iq)
  have TI1 := Lib.hid (fun w => tiC p' q w ip iq)
  have TS1 := Lib.hid (fun w => tiS p' q w ip iq)
  obtain ⟨ballot, hballot⟩ : ∃ v, v = baV p' q := ⟨_, rfl⟩
  obtain ⟨tie, htie⟩ : ∃ v, v = tiV p' q := ⟨_, rfl⟩
  obtain ⟨one, hone⟩ : ∃ v, v = okV p' q := ⟨_, rfl⟩
  rw [← hballot, ← hone] at BI BS
  rw [← htie, ← hone] at TI1 TS1
  have H3 := Lib.hid (And.intro hballot (And.intro htie hone))
  clear hballot htie hone ip iq
  unfold TI at BI BS TI1 TS1
  go_wp2_with fail
  refine (BI.out _).mono ?_
  rintro e w9 ⟨rfl, rfl⟩
  clear BI
  go_wp2_with fail
  refine (BS.out _).mono ?_
  rintro e w9 ⟨rfl, rfl⟩
  clear BS
  go_wp2_with fail
  refine (TI1.out _).mono ?_
  rintro e w9 ⟨rfl, rfl⟩
  clear TI1
  go_wp2_with fail
  refine (TS1.out _).mono ?_
  rintro e w9 ⟨rfl, rfl⟩
  clear TS1
  clear HBy hcm hcc hdm hdc
  have H0 := Lib.hid (show ok = true → ∃ M : Nat, m = M ∧ M ≤ 30 ∧ -30 ≤ d ∧ d ≤ 0 ∧ many = paI M x d ∧ all = wkI M x from fun ho => by
    have h := H1.out.2.1
    rw [ho] at h
    have h0 := h.symm
    unfold okA at h
    have h' := of_decide_eq_true h.symm
    obtain ⟨M, rfl⟩ : ∃ M : Nat, m = M := ⟨m.toNat, by omega⟩
    refine ⟨M, rfl, by omega, h'.2.1, h'.2.2, ?_, ?_⟩
    · rw [H1.out.1, abV, if_pos h0, Int.toNat_natCast]
    · rw [H1.out.2.2.1, pcV, if_pos (show okM 0 (M : Int) = true from decide_eq_true ⟨by omega, by omega⟩), Int.toNat_natCast])
  have HT := Lib.hid (show there = true → ∃ K : Nat, k = K ∧ 1 ≤ K ∧ K ≤ 30 ∧ first = fpI K y from fun ho => by
    have h := H2.out.2
    rw [ho] at h
    have h0 := h.symm
    unfold okF at h
    have h' := of_decide_eq_true h.symm
    obtain ⟨K, rfl⟩ : ∃ K : Nat, k = K := ⟨k.toNat, by omega⟩
    refine ⟨K, rfl, by omega, by omega, ?_⟩
    rw [H2.out.1, fpV, if_pos h0, Int.toNat_natCast])
  have HV := Lib.hid (show one = true → ∃ P Q : Nat, p' = P ∧ q = Q ∧ P + Q ≤ 30 ∧ ballot = balI P Q ∧ tie = tieI P Q from fun ho => by
    have h := H3.out.2.2
    rw [ho] at h
    obtain ⟨P, Q, rfl, rfl, h'⟩ := okV_mk h.symm
    refine ⟨P, Q, rfl, rfl, h', ?_, ?_⟩
    · rw [H3.out.1, baV, if_pos h.symm]; rfl
    · rw [H3.out.2.1, tiV, if_pos h.symm]; rfl)
  obtain ⟨B1, hB1⟩ : ∃ B, B = (ok && (decide (d ≤ x) && decide (x ≤ m))) := ⟨_, rfl⟩
  obtain ⟨B2, hB2⟩ : ∃ B, B = (there && (decide (0 < y) && decide (y ≤ k))) := ⟨_, rfl⟩
  replace hB1 := Lib.hid hB1
  replace hB2 := Lib.hid hB2
  clear H1 H2 H3
  go_upto_region 18 with fail
  go_cut [186] (fun s wx => s = .bool false ∧ w5 = wx)
  case first => as_aux_lemma =>
    cases ok
    · go_wp2_with fail
      go_meet
      exact ⟨rfl, rfl⟩
    · obtain ⟨M, hmM, hM, d1, d2, e1, e2⟩ := H0.out rfl
      have hs := pa_some hM (x := x) (f := d) d2
      rw [← e1, ← e2] at hs
      have n1 : ¬ many > all := by omega
      have n2 : ¬ many < 0 := by omega
      clear e1 e2 hs hmM
      go_wp2_with fail
      go_meet
      exact ⟨rfl, rfl⟩
  obtain ⟨rfl, rfl⟩ := hcut
  go_upto_region 20 with fail
  go_cut [197] (fun s wx => s = .bool B1 ∧ w5 = wx)
  case first => as_aux_lemma =>
    cases ok
    · go_wp2_with fail
      go_meet
      exact ⟨by rw [hB1.out]; rfl, rfl⟩
    · by_cases h1 : d ≤ x
      · by_cases h2 : x ≤ m
        · have HF := Lib.hid (show B1 = true by rw [hB1.out, decide_eq_true h1, decide_eq_true h2]; rfl)
          go_wp2_with fail
          go_meet
          exact ⟨by rw [HF.out], rfl⟩
        · have HF := Lib.hid (show B1 = false by rw [hB1.out, decide_eq_true h1, decide_eq_false h2]; rfl)
          go_wp2_with fail
          go_meet
          exact ⟨by rw [HF.out], rfl⟩
      · have HF := Lib.hid (show B1 = false by rw [hB1.out, decide_eq_false h1]; rfl)
        go_wp2_with fail
        go_meet
        exact ⟨by rw [HF.out], rfl⟩
  obtain ⟨rfl, rfl⟩ := hcut
  go_upto_if 197 with fail
  go_cut [] (fun wx => w5 = wx)
  case first => as_aux_lemma =>
    cases B1
    · go_wp2_with fail
      go_meet
      rfl
    · have hb := hB1.out.symm
      rw [Bool.and_eq_true, Bool.and_eq_true, decide_eq_true_iff, decide_eq_true_iff] at hb
      obtain ⟨ho, h1, h2⟩ := hb
      obtain ⟨M, hmM, hM, d1, d2, e1, e2⟩ := H0.out ho
      have b1 := wkI_bd hM x
      have b2 := wkI_bd hM (2 * (d - 1) - x)
      have e3 : many = wkI M x - wkI M (2 * (d - 1) - x) := by rw [e1, paI, if_pos ⟨h1, by omega⟩]
      have PX := Lib.hid (fun w => show Calls Try.prog 30 #[.int .i64 m, .int .i64 (2 * (d - 1) - x)] w (QR (.tuple #[.int .i64 (wkI M (2 * (d - 1) - x)), .bool true]) w) from by
        rw [hmM]
        have := pcC (M : Int) (2 * (d - 1) - x) w
        have e9 : okM 0 (M : Int) = true := decide_eq_true ⟨by omega, by omega⟩
        rw [show pcV (M : Int) (2 * (d - 1) - x) = wkI M (2 * (d - 1) - x) by unfold pcV; rw [if_pos e9, Int.toNat_natCast], e9] at this
        exact this)
      have AX := Lib.hid (fun (N : Nat) (hN : M = N + 1) (z : Int) w => show Calls Try.prog 28 #[.int .i64 (m - 1), .int .i64 z, .int .i64 d] w (QR (.tuple #[.int .i64 (paI N z d), .bool true]) w) from by
        rw [hmM]
        have := abC ((M : Int) - 1) z d w
        have e9 : okA ((M : Int) - 1) d = true := decide_eq_true ⟨⟨by omega, by omega⟩, by omega, by omega⟩
        rw [show abV ((M : Int) - 1) z d = paI N z d by unfold abV; rw [if_pos e9]; congr 1; omega, e9] at this
        exact this)
      have ST := Lib.hid (fun (N : Nat) (hN : M = N + 1) => show many = paI N (x - 1) d + paI N (x + 1) d from by
        rw [e1, hN]; exact pa_step (by omega) d2 h1 (by omega))
      have PB := Lib.hid (fun (N : Nat) (hN : M = N + 1) z => paI_bd (m := N) (by omega) z d)
      rw [← e2] at b1 e3
      clear ho e1 e2
      generalize wkI M (2 * (d - 1) - x) = mi at *
      have hmm : (many != all - mi) = false := by rw [e3]; simp
      have mb : -1000000000 ≤ all - mi ∧ all - mi ≤ 1000000000 := by omega
      clear e3
      rcases Nat.eq_zero_or_pos M with hz | hp
      · have g0 : ¬ m > 0 := by omega
        have g1 : 0 ≤ m ∧ m ≤ 30 := by omega
        clear hz hmM
        go_wp2_with fail
        refine (PX.out _).mono ?_
        rintro e w9 ⟨rfl, rfl⟩
        go_wp2_with fail
        go_meet
        rfl
      · have g0 : m > 0 := by omega
        have g1 : 0 ≤ m ∧ m ≤ 30 := by omega
        obtain ⟨N, hN⟩ : ∃ N, M = N + 1 := ⟨M - 1, by omega⟩
        have A1 := Lib.hid (fun w => AX.out N hN (x - 1) w)
        have A2 := Lib.hid (fun w => AX.out N hN (x + 1) w)
        have s1 := ST.out N hN
        have p1 := PB.out N hN (x - 1)
        have p2 := PB.out N hN (x + 1)
        clear AX ST PB hN hp hmM
        generalize paI N (x - 1) d = la at *
        generalize paI N (x + 1) d = ra at *
        have hmm2 : (many != la + ra) = false := by rw [s1]; simp
        clear s1
        go_wp2_with fail
        refine (PX.out _).mono ?_
        rintro e w9 ⟨rfl, rfl⟩
        go_wp2_with fail
        refine (A1.out _).mono ?_
        rintro e w9 ⟨rfl, rfl⟩
        go_wp2_with fail
        refine (A2.out _).mono ?_
        rintro e w9 ⟨rfl, rfl⟩
        go_wp2_with fail
        go_meet
        rfl
  obtain rfl := hcut
  clear H0 hB1
  go_upto_region 29 with fail
  go_cut [251] (fun s wx => s = .bool B2 ∧ w5 = wx)
  case first => as_aux_lemma =>
    cases there
    · go_wp2_with fail
      go_meet
      exact ⟨by rw [hB2.out]; rfl, rfl⟩
    · by_cases h1 : 0 < y
      · by_cases h2 : y ≤ k
        · have HF := Lib.hid (show B2 = true by rw [hB2.out, decide_eq_true h1, decide_eq_true h2]; rfl)
          go_wp2_with fail
          go_meet
          exact ⟨by rw [HF.out], rfl⟩
        · have HF := Lib.hid (show B2 = false by rw [hB2.out, decide_eq_true h1, decide_eq_false h2]; rfl)
          go_wp2_with fail
          go_meet
          exact ⟨by rw [HF.out], rfl⟩
      · have HF := Lib.hid (show B2 = false by rw [hB2.out, decide_eq_false h1]; rfl)
        go_wp2_with fail
        go_meet
        exact ⟨by rw [HF.out], rfl⟩
  obtain ⟨rfl, rfl⟩ := hcut
  go_upto_if 251 with fail
  go_cut [] (fun wx => w5 = wx)
  case first => as_aux_lemma =>
    cases B2
    · go_wp2_with fail
      go_meet
      rfl
    · have hb := hB2.out.symm
      rw [Bool.and_eq_true, Bool.and_eq_true, decide_eq_true_iff, decide_eq_true_iff] at hb
      obtain ⟨ho, h1, h2⟩ := hb
      obtain ⟨K, hkK, hK1, hK2, e1⟩ := HT.out ho
      obtain ⟨Y, hyY⟩ : ∃ Y : Nat, y = Y := ⟨y.toNat, by omega⟩
      rw [hyY] at e1
      have BX := Lib.hid (fun w => show Calls Try.prog 37 #[.int .i64 ((k + y) / 2), .int .i64 ((k - y) / 2)] w (QR (.tuple #[.int .i64 (balI ((K + Y) / 2) ((K - Y) / 2)), .bool true]) w) from by
        rw [hkK, hyY]
        have := baC (((K : Int) + (Y : Int)) / 2) (((K : Int) - (Y : Int)) / 2) w (by unfold InI64; omega) (by unfold InI64; omega)
        have e9 : okV (((K : Int) + (Y : Int)) / 2) (((K : Int) - (Y : Int)) / 2) = true := decide_eq_true ⟨by omega, by omega, by omega⟩
        rw [show baV (((K : Int) + (Y : Int)) / 2) (((K : Int) - (Y : Int)) / 2) = balI ((K + Y) / 2) ((K - Y) / 2) by
          unfold baV; rw [if_pos e9]; congr 1 <;> omega, e9] at this
        exact this)
      have EV := Lib.hid (fun (h : (K + Y) % 2 = 0) => fp_bal K (by omega) Y (by omega) (by omega) (by omega) h)
      have OD := Lib.hid (fun (h : ¬ (K + Y) % 2 = 0) => fp_odd K (by omega) Y (by omega) (by omega) (by omega) h)
      rw [← e1] at EV OD
      clear e1 ho
      generalize balI ((K + Y) / 2) ((K - Y) / 2) = bv at *
      have kb : 1 ≤ k ∧ k ≤ 30 := by omega
      by_cases hev : (K + Y) % 2 = 0
      · have q1 : ((k + y) % 2 == 0) = true := by rw [beq_iff_eq]; omega
        have q2 : ((k + y) % 2 != 0) = false := by rw [bne, q1]; rfl
        have q3 : (bv != first) = false := by rw [EV.out hev]; simp
        clear EV OD hev hkK hyY
        go_wp2_with fail
        refine (BX.out _).mono ?_
        rintro e w9 ⟨rfl, rfl⟩
        go_wp2_with fail
        go_meet
        rfl
      · have q1 : ((k + y) % 2 == 0) = false := by rw [beq_eq_false_iff_ne]; omega
        have q2 : ((k + y) % 2 != 0) = true := by rw [bne, q1]; rfl
        have q3 : (first != 0) = false := by rw [OD.out hev]; rfl
        clear EV OD hev hkK hyY
        go_wp2_with fail
        refine (BX.out _).mono ?_
        rintro e w9 ⟨rfl, rfl⟩
        go_wp2_with fail
        go_meet
        rfl
  obtain rfl := hcut
  clear HT hB2
  cases one
  · go_wp2_with fail
    go_ret
    exact ⟨rfl, D5.out⟩
  obtain ⟨P, Q, rfl, rfl, hPQ, e1, e2⟩ := HV.out rfl
  have AX := Lib.hid (fun w => show Calls Try.prog 28 #[.int .i64 ((P : Int) + (Q : Int)), .int .i64 ((P : Int) - (Q : Int)), .int .i64 0] w (QR (.tuple #[.int .i64 tie, .bool true]) w) from by
    have := abC ((P : Int) + (Q : Int)) ((P : Int) - (Q : Int)) 0 w
    have e9 : okA ((P : Int) + (Q : Int)) 0 = true := decide_eq_true ⟨⟨by omega, by omega⟩, by omega, by omega⟩
    rw [show abV ((P : Int) + (Q : Int)) ((P : Int) - (Q : Int)) 0 = tie by
      unfold abV; rw [if_pos e9, e2, tieI]; congr 1, e9] at this
    exact this)
  have TX := Lib.hid (fun (hp : 1 ≤ P) w => show Calls Try.prog 39 #[.int .i64 ((P : Int) - 1), .int .i64 (Q : Int)] w (QR (.tuple #[.int .i64 ballot, .bool true]) w) from by
    have := tiC ((P : Int) - 1) (Q : Int) w (by unfold InI64; omega) (by unfold InI64; omega)
    have e9 : okV ((P : Int) - 1) (Q : Int) = true := decide_eq_true ⟨by omega, by omega, by omega⟩
    rw [show tiV ((P : Int) - 1) (Q : Int) = ballot by
      unfold tiV; rw [if_pos e9, e1, bal_tie hp]; congr 1; omega, e9] at this
    exact this)
  have BN := Lib.hid (fun (hp : P = 0) (hq : 1 ≤ Q) => show ballot = 0 from by rw [e1, hp]; exact bal_none hq)
  clear e1 e2
  rcases Nat.eq_zero_or_pos P with hz | hp
  · have g0 : ¬ (P : Int) > 0 := by omega
    rcases Nat.eq_zero_or_pos Q with hy | hq
    · have q1 : ((Q : Int) == 0) = true := by rw [beq_iff_eq]; omega
      by_cases hb : ballot = 0
      · have q2 : (ballot == 0) = true := by rw [beq_iff_eq]; exact hb
        clear hz hy hb BN TX
        go_wp2_with fail
        refine (AX.out _).mono ?_
        rintro e w9 ⟨rfl, rfl⟩
        go_wp2_with fail
        go_ret
        exact ⟨rfl, D5.out⟩
      · have q2 : (ballot == 0) = false := by rw [beq_eq_false_iff_ne]; exact hb
        clear hz hy hb BN TX
        go_wp2_with fail
        refine (AX.out _).mono ?_
        rintro e w9 ⟨rfl, rfl⟩
        go_wp2_with fail
        go_ret
        exact ⟨rfl, D5.out⟩
    · have q2 : (ballot == 0) = true := by rw [beq_iff_eq]; exact BN.out hz hq
      clear hz hq BN TX
      go_wp2_with fail
      refine (AX.out _).mono ?_
      rintro e w9 ⟨rfl, rfl⟩
      go_wp2_with fail
      go_ret
      exact ⟨rfl, D5.out⟩
  · have g0 : (P : Int) > 0 := by omega
    have T1 := Lib.hid (fun w => TX.out hp w)
    clear TX BN hp
    go_wp2_with fail
    refine (AX.out _).mono ?_
    rintro e w9 ⟨rfl, rfl⟩
    go_wp2_with fail
    refine (T1.out _).mono ?_
    rintro e w9 ⟨rfl, rfl⟩
    go_wp2_with fail
    go_ret
    exact ⟨rfl, D5.out⟩
end Go.Proofs.Ytmidlabgmmejbab
