/- Shipments in the program: SortedPlan and KeepingPlan, what they answer. -/
import Derived.Test.YtligidmkhbcpmabTbsI
import Derived.Test.YtligidmkhbcpmabSrtV
namespace Go.Proofs.Ytligidmkhbcpmab
open Go.RowKit
open Go.Deep
set_option linter.unusedVariables false
theorem ShpW.alt {w w' : World} {gh ch gl cl lo hi go cap n lo' hi' : Nat} {g c : Nat → Nat} {S : Shp} (s : ShpW w gh ch gl cl lo hi go cap g c n S) (ha : Alt lo' hi' w w') (hd : hi ≤ lo' ∨ hi' ≤ gh) : ShpW w' gh ch gl cl lo hi go cap g c n S := by
  have r := s.p.room
  have d := s.d
  exact ⟨s.h.alt ha (by omega), s.l.alt ha (by omega), s.p.alt ha (by omega), d⟩
set_option maxRecDepth 100000 in
set_option maxHeartbeats 8000000 in
theorem emptyY (n : Nat) (w : World) (hn : 0 < n) (h8 : n ≤ 8) : Calls Try.prog 62 #[.int .i64 n] w (NewTabG n (fun _ => List.replicate n 0) w) := by
  obtain ⟨t0, hi, hz0, hz1, hz2⟩ := info_parts rowInfoG
  obtain ⟨j0, hj, hy0, hy1, hy2⟩ := info_parts intInfo
  have c1 : t0.bytes * n ≤ 281474976710656 := by rw [hz2]; omega
  have d1 : j0.bytes * n ≤ 281474976710656 := by rw [hy2]; omega
  have c2 : n ≤ maxLen := by unfold maxLen; omega
  go_enter Try.func62, Try.ntmps62
  go_wp2_with (at_make; refine wpList_make_full _ rfl _ _ 23 rfl w.heap.size 22 t0 (.slice none 0 0) 1 Try.underlying23 hi hz0 hz1 .i64 .i64 _ _ n rfl rfl rfl rfl c1 c2 (Nat.le_refl _) ?_; intro w1 hown hg)
  have hb1 : Below w.heap.size w w1 := (Below.refl _ _).grown hg (Nat.le_refl _) (by simp)
  have hown1 : w1.ownsRow w.heap.size 22 1 (.slice (some ⟨w.heap.size, 0, none⟩) n n) n (rowsG (fun _ => .slice none 0 0) n 0) := by
    have h2 := hown
    rw [show (Value.slice none 0 0).cells = #[Value.slice none 0 0] from rfl, Nat.mul_one, toList_madeCells_one] at h2
    rw [rowsG_zero]
    exact h2
  have hlt1 : w.heap.size < w1.heap.size := (hown1.lt w.heap.size rfl).2
  have HO := Lib.hid hown1
  have HB := Lib.hid hb1
  have HD : Hid (DoneG w1 w.heap.size 0 (fun _ => .slice none 0 0) (fun _ => w1.heap.size) (fun _ => List.replicate n 0)) := Lib.hid ⟨hlt1, Nat.le_refl _, fun i hi => by omega⟩
  clear hown hg c1 hown1 hb1
  go_loopg [9] n (fun gg i wr => ∃ (k : Nat) (u : Nat → Value) (h : Nat → Nat), k ≤ n ∧ n - k ≤ gg ∧ i = .int .i64 k ∧ Hid (wr.ownsRow w.heap.size 22 1 (.slice (some ⟨w.heap.size, 0, none⟩) n n) n (rowsG u n k)) ∧ Hid (DoneG wr w.heap.size k u h (fun _ => List.replicate n 0)) ∧ Hid (Below w.heap.size w wr))
  case atStart => exact ⟨0, _, _, Nat.zero_le _, by omega, rfl, HO, HD, HB⟩
  case round =>
    clear HO HD HB hlt1
    obtain ⟨k, u, h, hk, hgg, rfl, HO, HD, HB⟩ := hrel
    by_cases hlt : k < n
    · have i0 : (0 : Int) ≤ (k : Int) := by omega
      have i1 : (k : Int) < (n : Int) := by omega
      have GL := Lib.hid ((HO.out.lt w.heap.size rfl).2)
      have hownr := HO.out
      go_wp2_with (at_make; refine wpList_make_full _ rfl _ _ 22 rfl wr.heap.size 3 j0 (.int .i64 0) 1 Try.underlying22 hj hy0 hy1 .i64 .i64 _ _ n rfl rfl rfl rfl d1 c2 (Nat.le_refl _) ?_; intro w3 hown3 hg3; have hownk := hownr.kept hg3 (Classical.em _); have hold : w3.cell? ⟨w.heap.size, k, none⟩ = some (.slice none 0 0) := (by rw [hownk.cellAt k (by omega), rowsG_at _ hlt, if_neg (by omega)]); have hfz : w3.frozen? ⟨w.heap.size, k, none⟩ = false := hownk.frozenAt k)
      have b3 : Below wr.heap.size wr w3 := (Below.refl _ _).grown hg3 (Nat.le_refl _) (by simp)
      have o3 : OwnV w3 wr.heap.size w3.heap.size (.slice (some ⟨wr.heap.size, 0, none⟩) n n) (List.replicate n 0) := by
        have h2 := hown3
        rw [show (Value.int .i64 0).cells = #[Value.int .i64 0] from rfl, Nat.mul_one, toList_madeCells_one] at h2
        exact OwnV.made (by simpa using h2)
      have HO2 : Hid ((w3.setCell ⟨w.heap.size, k, none⟩ (.slice (some ⟨wr.heap.size, 0, none⟩) n n)).ownsRow w.heap.size 22 1 (.slice (some ⟨w.heap.size, 0, none⟩) n n) n (rowsG (extV u k (.slice (some ⟨wr.heap.size, 0, none⟩) n n)) n (k + 1))) := Lib.hid (by
        rw [← rowsG_set _ _ _ _ hlt]; exact (hownk.stored k _).1)
      have HD2 : Hid (DoneG (w3.setCell ⟨w.heap.size, k, none⟩ (.slice (some ⟨wr.heap.size, 0, none⟩) n n)) w.heap.size (k + 1) (extV u k (.slice (some ⟨wr.heap.size, 0, none⟩) n n)) (extN h k w3.heap.size) (fun _ => List.replicate n 0)) := Lib.hid (HD.out.next o3 b3 rfl)
      have HB2 := Lib.hid ((HB.out.trans (b3.mono HB.out.size)).setCell (p := ⟨w.heap.size, k, none⟩) (Nat.le_refl _) (.slice (some ⟨wr.heap.size, 0, none⟩) n n))
      clear o3 b3 hown3 hg3 hownk hownr HO HD HB hold hfz
      go_wp2_with fail
      go_roundg (n - (k + 1))
      case rel => exact ⟨k + 1, _, _, by omega, by omega, by go_num, HO2, HD2, HB2⟩
      case measure => omega
    · have hkR : k = n := by omega
      have FIN : Hid (NewTabG n (fun _ => List.replicate n 0) w (.returned (.slice (some ⟨w.heap.size, 0, none⟩) n n)) wr) := Lib.hid ⟨_, rfl, ⟨w.heap.size, n, u, h, rfl, Nat.le_refl _, c2, Nat.le_refl _, HD.out.1, by have := HD.out.2.1; rwa [hkR] at this, Nat.le_refl _, fun i hi => ⟨by rw [HO.out.cellAt i (by omega), rowsG_at _ hi, if_pos (by omega)], HD.out.2.2 i (by omega)⟩⟩, HB.out⟩
      clear HO HD HB hkR
      go_wp2_with fail
      go_ret
      exact FIN.out
set_option maxRecDepth 100000 in
set_option maxHeartbeats 8000000 in
theorem takeRestY (n : Nat) (S : Shp) (w : World) (gh ch gl cl lo hi go cap : Nat) (g c : Nat → Nat) (o : ShOk n S) (h8 : n ≤ 8) (W : ShpW w gh ch gl cl lo hi go cap g c n S) :
    Calls Try.prog 58 #[shpV gh ch gl cl go cap n] w fun e w' => e = .returned (.slice (some ⟨go, 0, none⟩) n cap) ∧ ShpW w' gh ch gl cl lo hi go cap g c n (alT n S n) ∧ Alt gh hi w w' := by
  have TY := Lib.hid (fun S' i k w' (o' : ShOk n S') (hi' : i < n) (hk' : k < n) (W' : ShpW w' gh ch gl cl lo hi go cap g c n S') => takeY n S' i k w' gh ch gl cl lo hi go cap g c o' hi' hk' h8 W')
  have A0 := alt_alloc w (.cells #[.slice (some ⟨gh, 0, none⟩) n ch, .slice (some ⟨gl, 0, none⟩) n cl, .slice (some ⟨go, 0, none⟩) n cap] 53) gh hi
  have W0 := W.below (((Below.refl w.heap.size w).alloc (Nat.le_refl _) (.cells #[.slice (some ⟨gh, 0, none⟩) n ch, .slice (some ⟨gl, 0, none⟩) n cl, .slice (some ⟨go, 0, none⟩) n cap] 53)).mono W.p.room.2.2)
  have X0 : SBox3 _ w.heap.size _ _ _ := alloc_heap w (.cells #[.slice (some ⟨gh, 0, none⟩) n ch, .slice (some ⟨gl, 0, none⟩) n cl, .slice (some ⟨go, 0, none⟩) n cap] 53)
  have RM := Lib.hid W.p.room
  obtain ⟨wa, hwa⟩ : ∃ wa, wa = w.alloc (.cells #[.slice (some ⟨gh, 0, none⟩) n ch, .slice (some ⟨gl, 0, none⟩) n cl, .slice (some ⟨go, 0, none⟩) n cap] 53) := ⟨_, rfl⟩
  rw [← hwa] at A0 W0 X0
  have AH := Lib.hid A0
  have WH := Lib.hid W0
  have XB := Lib.hid X0
  have OK := Lib.hid o
  clear A0 W0 X0 W o
  obtain ⟨x0, x1, x2⟩ := XB.out.cells
  unfold shpV at TY ⊢
  go_enter Try.func58, Try.ntmps58
  go_wp2_with fail
  rw [← hwa]
  clear hwa
  go_wp2_with fail
  clear x0 x1 x2
  go_loopg [8] n (fun gg a wr => ∃ i : Nat, i ≤ n ∧ n - i ≤ gg ∧ a = .int .i64 i ∧ Hid (ShpW wr gh ch gl cl lo hi go cap g c n (alT n S i)) ∧ Hid (SBox3 wr w.heap.size (.slice (some ⟨gh, 0, none⟩) n ch) (.slice (some ⟨gl, 0, none⟩) n cl) (.slice (some ⟨go, 0, none⟩) n cap)) ∧ Hid (Alt gh hi w wr))
  case atStart => exact ⟨0, Nat.zero_le _, by omega, rfl, WH, XB, AH⟩
  case round =>
    clear WH XB AH
    obtain ⟨i, hi1, hgg, rfl, HW, HX, HA⟩ := hrel
    obtain ⟨x0, x1, x2⟩ := HX.out.cells
    by_cases hin : i < n
    · have i1 : (i : Int) < (n : Int) := by omega
      go_wp2_with fail
      clear x0 x1 x2
      go_loopg [14] n (fun gg b wr => ∃ k : Nat, k ≤ n ∧ n - k ≤ gg ∧ b = .int .i64 k ∧ Hid (ShpW wr gh ch gl cl lo hi go cap g c n (rwT i (alT n S i) k)) ∧ Hid (SBox3 wr w.heap.size (.slice (some ⟨gh, 0, none⟩) n ch) (.slice (some ⟨gl, 0, none⟩) n cl) (.slice (some ⟨go, 0, none⟩) n cap)) ∧ Hid (Alt gh hi w wr))
      case atStart => exact ⟨0, Nat.zero_le _, by omega, rfl, HW, HX, HA⟩
      case round =>
        clear HW HX HA
        obtain ⟨k, hk1, hgg2, rfl, HW, HX, HA⟩ := hrel
        by_cases hkn : k < n
        · have k1 : (k : Int) < (n : Int) := by omega
          obtain ⟨x0, x1, x2⟩ := HX.out.cells
          have TC := Lib.hid (TY.out _ i k wr (rw_ok (al_ok OK.out i) i k) hin hkn HW.out)
          go_wp2_with fail
          refine TC.out.mono ?_
          rintro e w3 ⟨rfl, s3, a3⟩
          have HX3 := Lib.hid (HX.out.alt a3 (by have := RM.out; omega))
          have HA3 := Lib.hid (HA.out.trans a3)
          have HW3 := Lib.hid (show ShpW w3 gh ch gl cl lo hi go cap g c n (rwT i (alT n S i) (k + 1)) from s3)
          clear s3 a3 HX HA HW TC x0 x1 x2
          go_wp2_with fail
          go_roundg (n - (k + 1))
          case rel => exact ⟨k + 1, by omega, by omega, by go_num, HW3, HX3, HA3⟩
          case measure => omega
        · have hkn' : k = n := by omega
          have HW3 : Hid (ShpW wr gh ch gl cl lo hi go cap g c n (alT n S (i + 1))) := Lib.hid (by have h := HW.out; rw [hkn'] at h; exact h)
          have k1 : ¬ (k : Int) < (n : Int) := by omega
          clear hkn' HW
          go_wp2_with fail
          go_roundg (n - (i + 1))
          case rel => exact ⟨i + 1, by omega, by omega, by go_num, HW3, HX, HA⟩
          case measure => omega
    · have hin' : i = n := by omega
      have HW3 : Hid (ShpW wr gh ch gl cl lo hi go cap g c n (alT n S n)) := Lib.hid (by have h := HW.out; rw [hin'] at h; exact h)
      have i1 : ¬ (i : Int) < (n : Int) := by omega
      clear hin' HW
      go_wp2_with fail
      go_ret
      exact ⟨rfl, HW3.out, HA.out⟩
end Go.Proofs.Ytligidmkhbcpmab
