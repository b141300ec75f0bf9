/- The law of returns: the walk. -/
import Derived.Test.YtmidlabgmmejbabRtnP
import Derived.Test.YtmidlabgmmejbabRetM
import Derived.Test.YtmidlabgmmejbabLedM
import Derived.Test.YtmidlabgmmejbabWlkX
import Derived.Test.YtmidlabgmmejbabCurW
import Derived.Test.YtmidlabgmmejbabVbig
import Derived.Test.YtmidlabgmmejbabVint
import Derived.Deep.QuietTactic
import Derived.BigQuiet
namespace Go.Proofs.Ytmidlabgmmejbab
open Go.RowKit
set_option linter.unusedVariables false
set_option maxRecDepth 100000 in
set_option maxHeartbeats 8000000 in
theorem walkRtn (n c : Nat) (p : Option Addr) (W : World) (hn : n ≤ maxLen) (hnc : n ≤ c) (hB : BytesAt W W.heap.size p n) :
    Calls Try.prog 8 #[.slice p n c] W fun e W' => e = .returned (.bool true) ∧ Below W.heap.size W W' := by
  by_cases hbig : 65536 < n
  · have BG := Lib.hid (bigYes n c p W hbig hn)
    clear hbig hB
    go_enter Try.func8, Try.ntmps8
    go_wp2_with fail
    refine BG.out.mono ?_
    rintro e w0 ⟨rfl, rfl⟩
    go_wp2_with fail
    go_ret
    exact ⟨rfl, Below.refl _ _⟩
  have hn6 : n ≤ 65536 := by omega
  have BG := Lib.hid (bigNo n c p W hn6)
  have DS := Lib.hid (drawRet n c p W hn6 hB)
  clear hbig hB
  go_enter Try.func8, Try.ntmps8
  go_wp2_with fail
  refine BG.out.mono ?_
  rintro e w0 ⟨rfl, rfl⟩
  go_wp2_with fail
  refine DS.out.mono ?_
  rintro e w1 ⟨⟨m, hm, rfl⟩, b1⟩
  have D1 := Lib.hid b1
  clear b1 DS BG hm
  have RI := Lib.hid (fun w => retC m w)
  have RM := Lib.hid (fun w => retM m w)
  have LI := Lib.hid (fun w => ledC m w)
  have LM := Lib.hid (fun w => ledS m w)
  have PC := Lib.hid (fun m x w => pcC m x w)
  obtain ⟨R, hR⟩ : ∃ R, R = ifE m rtL := ⟨_, rfl⟩
  obtain ⟨L, hL⟩ : ∃ L, L = ifE m ldL := ⟨_, rfl⟩
  obtain ⟨ok, hok⟩ : ∃ ok, ok = okE m := ⟨_, rfl⟩
  rw [← hR, ← hok] at RI RM
  rw [← hL, ← hok] at LI LM
  replace hR := Lib.hid hR
  replace hL := Lib.hid hL
  have HK := Lib.hid hok
  clear hok
  go_wp2_with fail
  refine (RI.out _).mono ?_
  rintro e w2 ⟨ra, rfl, ot, b2⟩
  have D2 := Lib.hid (bl_then D1.out b2)
  clear D1
  have RA2 := Lib.hid (ot)
  clear ot
  go_wp2_with fail
  refine (RM.out _).mono ?_
  rintro e w3 ⟨rb, rfl, ot, b3⟩
  have D3 := Lib.hid (bl_then D2.out b3)
  clear D2
  have RA3 := Lib.hid (RA2.out.below (b3.mono RA2.out.room))
  clear RA2
  have RB3 := Lib.hid (ot)
  clear ot
  go_wp2_with fail
  refine (LI.out _).mono ?_
  rintro e w4 ⟨la, rfl, ot, b4⟩
  have D4 := Lib.hid (bl_then D3.out b4)
  clear D3
  have RA4 := Lib.hid (RA3.out.below (b4.mono RA3.out.room))
  clear RA3
  have RB4 := Lib.hid (RB3.out.below (b4.mono RB3.out.room))
  clear RB3
  have LA4 := Lib.hid (ot)
  clear ot
  go_wp2_with fail
  refine (LM.out _).mono ?_
  rintro e w5 ⟨lb, rfl, ot, b5⟩
  have D5 := Lib.hid (bl_then D4.out b5)
  clear D4
  have RA5 := Lib.hid (RA4.out.below (b5.mono RA4.out.room))
  clear RA4
  have RB5 := Lib.hid (RB4.out.below (b5.mono RB4.out.room))
  clear RB4
  have LA5 := Lib.hid (LA4.out.below (b5.mono LA4.out.room))
  clear LA4
  have LB5 := Lib.hid (ot)
  clear ot
  clear RI RM LI LM
  have V1 := Lib.hid (vIntsV R ra rb _ _ w5 RA5.out.intsV RB5.out.intsV)
  go_wp2_with fail
  refine (V1.out).mono ?_
  rintro e w6 ⟨rfl, b6⟩
  have D6 := Lib.hid (bl_then D5.out b6)
  clear D5
  have RA6 := Lib.hid (RA5.out.below (b6.mono RA5.out.room))
  clear RA5
  have RB6 := Lib.hid (RB5.out.below (b6.mono RB5.out.room))
  clear RB5
  have LA6 := Lib.hid (LA5.out.below (b6.mono LA5.out.room))
  clear LA5
  have LB6 := Lib.hid (LB5.out.below (b6.mono LB5.out.room))
  clear LB5
  clear V1
  have V2 := Lib.hid (vIntsV L la lb _ _ w6 LA6.out.intsV LB6.out.intsV)
  go_wp2_with fail
  refine (V2.out).mono ?_
  rintro e w7 ⟨rfl, b7⟩
  have D7 := Lib.hid (bl_then D6.out b7)
  clear D6
  have RA7 := Lib.hid (RA6.out.below (b7.mono RA6.out.room))
  clear RA6
  have RB7 := Lib.hid (RB6.out.below (b7.mono RB6.out.room))
  clear RB6
  have LA7 := Lib.hid (LA6.out.below (b7.mono LA6.out.room))
  clear LA6
  have LB7 := Lib.hid (LB6.out.below (b7.mono LB6.out.room))
  clear LB6
  clear V2
  clear RB7
  clear LB7
  cases hk : ok
  · subst hk
    go_wp2_with fail
    go_ret
    exact ⟨rfl, D7.out⟩
  subst hk
  obtain ⟨M, k, rfl, hM, hk15⟩ := okE_mk HK.out.symm
  have eR : R = rtL k := by rw [hR.out, ifE, if_pos HK.out.symm]; congr 1; omega
  have eL : L = ldL k := by rw [hL.out, ifE, if_pos HK.out.symm]; congr 1; omega
  have rl := rtL_len k
  have ll := ldL_len k
  rw [← eR] at rl
  rw [← eL] at ll
  have PX := Lib.hid (fun (x : Int) (w : World) => show Calls Try.prog 30 #[.int .i64 (M : Int), .int .i64 x] w (QR (.tuple #[.int .i64 (wkI (2 * k) x), .bool true]) w) from by
    have := PC.out (M : Int) x w
    have e1 : okM 0 (M : Int) = true := decide_eq_true ⟨by omega, by omega⟩
    rw [show pcV (M : Int) x = wkI (2 * k) x by unfold pcV; rw [if_pos e1]; congr 1, e1] at this
    exact this)
  have PR := Lib.hid (fun (r : Nat) (hr : r ≤ k) (w : World) => show Calls Try.prog 30 #[.int .i64 (2 * (r : Int)), .int .i64 0] w (QR (.tuple #[.int .i64 (wkI (2 * r) 0), .bool true]) w) from by
    have := PC.out (2 * (r : Int)) 0 w
    have e1 : okM 0 (2 * (r : Int)) = true := decide_eq_true ⟨by omega, by omega⟩
    rw [show pcV (2 * (r : Int)) 0 = wkI (2 * r) 0 by unfold pcV; rw [if_pos e1]; congr 1, e1] at this
    exact this)
  have PQ := Lib.hid (fun (r : Nat) (hr : r ≤ k) (w : World) => show Calls Try.prog 30 #[.int .i64 ((M : Int) - 2 * (r : Int)), .int .i64 0] w (QR (.tuple #[.int .i64 (wkI (2 * k - 2 * r) 0), .bool true]) w) from by
    have := PC.out ((M : Int) - 2 * (r : Int)) 0 w
    have e1 : okM 0 ((M : Int) - 2 * (r : Int)) = true := decide_eq_true ⟨by omega, by omega⟩
    rw [show pcV ((M : Int) - 2 * (r : Int)) 0 = wkI (2 * k - 2 * r) 0 by unfold pcV; rw [if_pos e1]; congr 1; omega, e1] at this
    exact this)
  have P4 := Lib.hid (pow4_bd k (by omega))
  have PB := Lib.hid (fun j (hj : j < 62) => ps_bd k (by omega) j hj)
  have PA := Lib.hid (ps_all k (by omega))
  have PS := Lib.hid (fun j => show psI (2 * k) (j + 1) = psI (2 * k) j + wkI (2 * k) ((j : Int) - (2 * k : Nat)) from rfl)
  have P0 := Lib.hid (show psI (2 * k) 0 = 0 from rfl)
  have WB := Lib.hid (fun x => wkI_bd (m := 2 * k) (by omega) x)
  have RB := Lib.hid (fun j (hj : j < 17) => show 0 ≤ suI R j ∧ suI R j ≤ 4 ^ k from by rw [eR]; exact rt_bd k (by omega) j hj)
  have RA := Lib.hid (show suI R (k + 1) = 4 ^ k by rw [eR]; exact rt_all k (by omega))
  have LB := Lib.hid (fun j (hj : j < 17) => show 0 ≤ suI L j ∧ suI L j ≤ 4 ^ k from by rw [eL]; exact ld_bd k (by omega) j hj)
  have LA := Lib.hid (show suI L (k + 1) = 4 ^ k by rw [eL]; exact ld_all k (by omega))
  have LT := Lib.hid (fun r (hr : r ≤ k) => show L.getD r 0 = wkI (2 * r) 0 * wkI (2 * k - 2 * r) 0 ∧ L.getD r 0 = L.getD (k - r) 0 from by rw [eL]; exact ld_at k (by omega) r (by omega) hr)
  have RH := Lib.hid (show R.getD 0 0 = wkI (2 * k) 0 by rw [eR]; exact rt_home k (by omega))
  have SR := Lib.hid (fun j => show suI R (j + 1) = suI R j + R.getD j 0 from rfl)
  have SL := Lib.hid (fun j => show suI L (j + 1) = suI L j + L.getD j 0 from rfl)
  have SR0 := Lib.hid (show suI R 0 = 0 from rfl)
  have SL0 := Lib.hid (show suI L 0 = 0 from rfl)
  have HM := Lib.hid hM
  obtain ⟨gr, cr, rfl, _, _⟩ := RA7.out.shape (by omega)
  obtain ⟨gl, cl, rfl, _, _⟩ := LA7.out.shape (by omega)
  have rl1 : R.length ≤ k + 1 := by omega
  have rl2 : k + 1 ≤ R.length := by omega
  have ll1 : L.length ≤ k + 1 := by omega
  have ll2 : k + 1 ≤ L.length := by omega
  have hM1 : M ≤ 2 * k := by omega
  have hM2 : 2 * k ≤ M := by omega
  clear eR eL rl ll hM hR hL HK PC
  go_wp2_with fail
  go_loopg [12, 13, 16] (4 * k + 1) (fun gg sa sk sx wr => w7 = wr ∧ ∃ j : Nat, j ≤ 4 * k + 1 ∧ 4 * k + 1 - j ≤ gg ∧ sa = .int .i64 (psI (2 * k) j) ∧ sk = .bool true ∧ sx = .int .i64 ((j : Int) - (M : Int)))
  case atStart => exact ⟨rfl, 0, by omega, by omega, by rw [P0.out], rfl, congrArg (Value.int .i64) (by omega)⟩
  case round =>
    obtain ⟨rfl, j, hj, hgg, rfl, rfl, rfl⟩ := hrel
    have p4 := P4.out
    have pb : 0 ≤ psI (2 * k) j ∧ psI (2 * k) j ≤ 1073741824 := by
      have := PB.out j (by omega)
      omega
    by_cases hlt : j < 4 * k + 1
    · have wb := WB.out ((j : Int) - (M : Int))
      have NX := Lib.hid (show psI (2 * k) (j + 1) = psI (2 * k) j + wkI (2 * k) ((j : Int) - (M : Int)) by rw [PS.out, show ((2 * k : Nat) : Int) = (M : Int) by omega])
      have PX1 := Lib.hid (fun w => PX.out ((j : Int) - (M : Int)) w)
      generalize wkI (2 * k) ((j : Int) - (M : Int)) = z at *
      generalize psI (2 * k) j = y at *
      have i1 : (j : Int) - (M : Int) ≤ (M : Int) := by omega
      clear p4
      go_wp2_with fail
      refine (PX1.out _).mono ?_
      rintro e w9 ⟨rfl, rfl⟩
      go_wp2_with fail
      go_roundg (4 * k + 1 - (j + 1))
      case rel => exact ⟨rfl, j + 1, by omega, by omega, by rw [NX.out], rfl, congrArg (Value.int .i64) (by omega)⟩
      case measure => omega
    · obtain rfl : j = 4 * k + 1 := by omega
      rw [PA.out]
      have i1 : ¬ ((4 * k + 1 : Nat) : Int) - (M : Int) ≤ (M : Int) := by omega
      obtain ⟨S, hS⟩ : ∃ S : Int, S = 4 ^ k := ⟨_, rfl⟩
      have s4 : 1 ≤ S ∧ S ≤ 1073741824 := by
        have h1 : 1 ≤ (4 : Int) ^ k := Int.pow_pos (by decide)
        omega
      rw [← hS] at RA LA RB LB ⊢
      clear hS p4 pb PB PA PS P0 P4
      go_wp2_with fail
      go_loopg [14, 15, 19] (k + 1) (fun gg sa sk sx wr => Hid (Below w7.heap.size w7 wr) ∧ ∃ r : Nat, r ≤ k + 1 ∧ k + 1 - r ≤ gg ∧ sa = .int .i64 (suI R r) ∧ sk = .int .i64 (suI L r) ∧ sx = .int .i64 r)
      case atStart => exact ⟨Lib.hid (Below.refl _ _), 0, by omega, by omega, by rw [SR0.out], by rw [SL0.out], rfl⟩
      case round =>
        obtain ⟨HB, r, hr, hgg, rfl, rfl, rfl⟩ := hrel
        by_cases hlt : r < k + 1
        · have c1 := (RA7.out.below (HB.out.mono RA7.out.room)).cellGet (j := r) (by omega)
          have c2 := (LA7.out.below (HB.out.mono LA7.out.room)).cellGet (j := r) (by omega)
          have c3 := (LA7.out.below (HB.out.mono LA7.out.room)).cellGet (j := k - r) (by omega)
          rw [← (LT.out r (by omega)).2] at c3
          have b1 := RB.out r (by omega)
          have b2 := RB.out (r + 1) (by omega)
          have b3 := LB.out r (by omega)
          have b4 := LB.out (r + 1) (by omega)
          have e1 := SR.out r
          have e2 := SL.out r
          have zb : -2000000000 ≤ L.getD r 0 ∧ L.getD r 0 ≤ 2000000000 := by omega
          have yb : 0 ≤ R.getD r 0 + suI R r ∧ R.getD r 0 ≤ 2000000000 ∧ -2000000000 ≤ R.getD r 0 := by omega
          have N1 := Lib.hid e1
          have N2 := Lib.hid e2
          have PR1 := Lib.hid (fun w => PR.out r (by omega) w)
          have PQ1 := Lib.hid (fun w => PQ.out r (by omega) w)
          have ab := (LT.out r (by omega)).1
          have WR : IntKind.i64.wrap (wkI (2 * r) 0 * wkI (2 * k - 2 * r) 0) = L.getD r 0 := by rw [← ab]; exact IntWalk.i64_in _ (by omega)
          have q1 : ((L.length : Int) - 1 - (r : Int)) = ((k - r : Nat) : Int) := by omega
          obtain ⟨kr, hkr⟩ : ∃ kr, kr = k - r := ⟨_, rfl⟩
          rw [← hkr] at q1 c3
          have kr2 : kr < L.length := by omega
          have kr3 : (kr : Int) < (L.length : Int) := by omega
          have kr4 : (0 : Int) ≤ (kr : Int) := by omega
          have i1 : (r : Int) < (R.length : Int) := by omega
          have i2 : (r : Int) < (L.length : Int) := by omega
          have i3 : (0 : Int) ≤ (r : Int) := by omega
          have rk : r ≤ 15 := by omega
          clear e1 e2 ab b2 b4 hkr
          generalize wkI (2 * r) 0 = A at *
          generalize wkI (2 * k - 2 * r) 0 = B at *
          generalize L.getD r 0 = z at *
          generalize R.getD r 0 = y at *
          generalize suI R r = SA at *
          generalize suI L r = SB at *
          go_wp2_with fail
          refine (PR1.out _).mono ?_
          rintro e w8 ⟨rfl, rfl⟩
          go_wp2_with fail
          refine (PQ1.out _).mono ?_
          rintro e w8 ⟨rfl, rfl⟩
          clear PR1 PQ1
          go_wp2_with fail
          go_quiet (fail)
          go_wp2_with fail
          go_roundg (k + 1 - (r + 1))
          case rel => exact ⟨Lib.hid (below_drewN HB.out _), r + 1, by omega, by omega, by rw [N1.out], by rw [N2.out], by go_num⟩
          case measure => omega
        · obtain rfl : r = k + 1 := by omega
          rw [RA.out, LA.out]
          have c1 := (RA7.out.below (HB.out.mono RA7.out.room)).cellGet (j := 0) (by omega)
          rw [RH.out] at c1
          have PX1 := Lib.hid (fun w => PX.out 0 w)
          have i1 : ¬ ((k + 1 : Nat) : Int) < (R.length : Int) := by omega
          generalize wkI (2 * k) 0 = z at *
          have FIN := Lib.hid (bl_then D7.out HB.out)
          go_wp2_with fail
          refine (PX1.out _).mono ?_
          rintro e w9 ⟨rfl, rfl⟩
          go_wp2_with fail
          go_ret
          exact ⟨rfl, FIN.out⟩
end Go.Proofs.Ytmidlabgmmejbab
