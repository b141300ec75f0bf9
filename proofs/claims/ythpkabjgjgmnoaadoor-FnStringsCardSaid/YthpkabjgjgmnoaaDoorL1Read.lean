/- The model's reader of decimals: l1Read answers the integer whose numeral the text is, and fails where there is none. -/
import Derived.Test.YthpkabjgjgmnoaaDoorRead
import Derived.Test.YthpkabjgjgmnoaaDoorDig2
import Derived.WalkKit
import Derived.ProofKit
import Derived.Outline
import Derived.Lib.Hide
import Derived.WalkMore
import Derived.WalkSpells
import Derived.Deep.QuietTactic
import Derived.BigQuiet
namespace Go.Proofs.YthpkabjgjgmnoaaDoor
open Go.RowKit
/-- What a text spells: the integer of which it is the numeral, within the bounds, or none. -/
def Spelt (s : ByteArray) (w : World) (e : Ending) (w' : World) : Prop :=
  (∃ n, w' = w.drewN n) ∧ ((∃ m : Int, -999999 ≤ m ∧ m ≤ 999999 ∧ s = numB m ∧ e = .returned (.tuple #[.int .i64 m, .bool true])) ∨
    ((∀ m : Int, -999999 ≤ m → m ≤ 999999 → s ≠ numB m) ∧ e = .returned (.tuple #[.int .i64 0, .bool false])))
theorem spelt_no {s : ByteArray} {w w' : World} (h : ∀ m : Int, -999999 ≤ m → m ≤ 999999 → s ≠ numB m) (hw : ∃ n, w' = w.drewN n) : Spelt s w (.returned (.tuple #[.int .i64 0, .bool false])) w' :=
  ⟨hw, .inr ⟨h, rfl⟩⟩
theorem spelt_yes {s : ByteArray} {w w' : World} {m : Int} (h0 : -999999 ≤ m) (h1 : m ≤ 999999) (h : s = numB m) (hw : ∃ n, w' = w.drewN n) : Spelt s w (.returned (.tuple #[.int .i64 m, .bool true])) w' :=
  ⟨hw, .inl ⟨m, h0, h1, h, rfl⟩⟩
set_option maxHeartbeats 1000000 in
theorem l1Read_neg (s t : ByteArray) (w : World) (hs : s.size ≤ maxLen) (hz : 1 < s.size) (h45 : s[0].toNat = 45) (ht : s.extract 1 s.size = t) :
    Calls Tryd.prog 29 #[.string s] w (Spelt s w) := by
  unfold maxLen at hs
  have SP := Lib.hid (fun m a b c => spells_neg s t m a b c hz h45 ht.symm)
  have htz : t.size = s.size - 1 := by rw [← ht]; simp
  have htl : t.size < s.size := by omega
  have hts : t.size ≤ 9223372036854775807 := by omega
  have e1 : ((s[0].toNat : Int) == 45) = true := by simp [h45]
  have lsub : (s.size : Int) - 1 = (t.size : Int) := by omega
  clear htz h45
  by_cases hlen : 1 ≤ t.size ∧ t.size ≤ 6
  · obtain ⟨l1, l6⟩ := hlen
    go_enter Tryd.func29, Tryd.ntmps29
    go_wp2_with (go_at_call 24; refine (l1In_yes _ _ _ _ (by omega) (by omega)).mono ?_; rintro e w' ⟨rfl, rfl⟩)
    clear lsub
    go_loop [5, 6] (fun n i => ∃ k : Nat, k ≤ t.size ∧ i = .int .i64 k ∧ n = .int .i64 (dval (t.data.toList.take k)) ∧ digsTo t k) (fun _ i => t.size - (intOf i).toNat)
    case atStart => exact ⟨0, Nat.zero_le _, rfl, rfl, digsTo_zero t⟩
    case round =>
      obtain ⟨k, hk, rfl, rfl, hd⟩ := hrel
      obtain ⟨b0, b1⟩ := digsTo_six t k l6 hd
      by_cases hlt : k < t.size
      · by_cases hdig : 48 ≤ t[k].toNat ∧ t[k].toNat ≤ 57
        · obtain ⟨q1, q2⟩ := hdig
          have HS := Lib.hid (digsTo_val t k hlt q1 q2)
          have HD := Lib.hid (digsTo_succ t k hlt hd q1 q2)
          clear hd
          go_wp2
          go_round
          case rel => exact ⟨k + 1, by omega, by go_num, by rw [HS.out], HD.out⟩
          case measure => simp [intOf]; omega
        · have hx : t[k].toNat < 48 ∨ 57 < t[k].toNat := by omega
          have NO := Lib.hid (fun m a b (c : s = numB m) => not_dig t k hlt hx (SP.out m a b c).2.2.2.1)
          clear hdig hd
          rcases hx with hx | hx
          · go_wp2
            go_ret2
            exact spelt_no NO.out ⟨0, rfl⟩
          · have hx2 : ¬ t[k].toNat < 48 := by omega
            go_wp2
            go_ret2
            exact spelt_no NO.out ⟨0, rfl⟩
      · have hk2 : k = t.size := by omega
        have VAL := Lib.hid (fun m a b (c : s = numB m) => show m = -dval (t.data.toList.take k) by rw [hk2]; exact (SP.out m a b c).2.2.2.2)
        clear hd
        by_cases E : numB (-dval (t.data.toList.take k)) = s
        · have eq1 := bytes_yes _ _ E
          have E' := Lib.hid E
          clear E hk2
          go_wp2_with (go_at_call 25; refine (l1Num_any _ _ (by omega) (by omega)).mono ?_; rintro e w' ⟨rfl, m, rfl⟩)
          go_ret2
          exact spelt_yes (by omega) (by omega) E'.out.symm ⟨_, rfl⟩
        · have eq1 := bytes_no _ _ E
          have E' := Lib.hid E
          clear E hk2
          go_wp2_with (go_at_call 25; refine (l1Num_any _ _ (by omega) (by omega)).mono ?_; rintro e w' ⟨rfl, m, rfl⟩)
          go_ret2
          exact spelt_no (fun m a b c => E'.out (by rw [← VAL.out m a b c]; exact c.symm)) ⟨_, rfl⟩
  · have hl : (t.size : Int) < 1 ∨ ((1 : Int) ≤ t.size ∧ (6 : Int) < t.size) := by omega
    have NO := Lib.hid (fun m a b (c : s = numB m) => hlen ⟨(SP.out m a b c).2.1, (SP.out m a b c).2.2.1⟩)
    clear hlen
    go_enter Tryd.func29, Tryd.ntmps29
    go_wp2_with (go_at_call 24; refine (l1In_no _ _ _ _ hl).mono ?_; rintro e w' ⟨rfl, rfl⟩)
    go_ret2
    exact spelt_no NO.out ⟨0, rfl⟩
set_option maxHeartbeats 1000000 in
theorem l1Read_pos (t : ByteArray) (w : World) (hs : t.size ≤ maxLen) (hx : ∀ h : 1 < t.size, t[0].toNat ≠ 45) :
    Calls Tryd.prog 29 #[.string t] w (Spelt t w) := by
  unfold maxLen at hs
  have SP := Lib.hid (fun m a b c => spells_pos t m a b c hx)
  have HX := Lib.hid hx
  clear hx
  by_cases hlen : 1 ≤ t.size ∧ t.size ≤ 6
  · obtain ⟨l1, l6⟩ := hlen
    by_cases h1 : 1 < t.size
    · have e1 : ((t[0].toNat : Int) == 45) = false := by have := HX.out h1; simp; omega
      go_enter Tryd.func29, Tryd.ntmps29
      go_wp2_with (go_at_call 24; refine (l1In_yes _ _ _ _ (by omega) (by omega)).mono ?_; rintro e w' ⟨rfl, rfl⟩)
      go_loop [5, 6] (fun n i => ∃ k : Nat, k ≤ t.size ∧ i = .int .i64 k ∧ n = .int .i64 (dval (t.data.toList.take k)) ∧ digsTo t k) (fun _ i => t.size - (intOf i).toNat)
      case atStart => exact ⟨0, Nat.zero_le _, rfl, rfl, digsTo_zero t⟩
      case round =>
        obtain ⟨k, hk, rfl, rfl, hd⟩ := hrel
        obtain ⟨b0, b1⟩ := digsTo_six t k l6 hd
        by_cases hlt : k < t.size
        · by_cases hdig : 48 ≤ t[k].toNat ∧ t[k].toNat ≤ 57
          · obtain ⟨q1, q2⟩ := hdig
            have HS := Lib.hid (digsTo_val t k hlt q1 q2)
            have HD := Lib.hid (digsTo_succ t k hlt hd q1 q2)
            clear hd
            go_wp2
            go_round
            case rel => exact ⟨k + 1, by omega, by go_num, by rw [HS.out], HD.out⟩
            case measure => simp [intOf]; omega
          · have hx : t[k].toNat < 48 ∨ 57 < t[k].toNat := by omega
            have NO := Lib.hid (fun m a b (c : t = numB m) => not_dig t k hlt hx (SP.out m a b c).2.2.2.1)
            clear hdig hd
            rcases hx with hx | hx
            · go_wp2
              go_ret2
              exact spelt_no NO.out ⟨0, rfl⟩
            · have hx2 : ¬ t[k].toNat < 48 := by omega
              go_wp2
              go_ret2
              exact spelt_no NO.out ⟨0, rfl⟩
        · have hk2 : k = t.size := by omega
          have VAL := Lib.hid (fun m a b (c : t = numB m) => show m = dval (t.data.toList.take k) by rw [hk2]; exact (SP.out m a b c).2.2.2.2)
          clear hd
          by_cases E : numB (dval (t.data.toList.take k)) = t
          · have eq1 := bytes_yes _ _ E
            have E' := Lib.hid E
            clear E hk2
            go_wp2_with (go_at_call 25; refine (l1Num_any _ _ (by omega) (by omega)).mono ?_; rintro e w' ⟨rfl, m, rfl⟩)
            go_ret2
            exact spelt_yes (by omega) (by omega) E'.out.symm ⟨_, rfl⟩
          · have eq1 := bytes_no _ _ E
            have E' := Lib.hid E
            clear E hk2
            go_wp2_with (go_at_call 25; refine (l1Num_any _ _ (by omega) (by omega)).mono ?_; rintro e w' ⟨rfl, m, rfl⟩)
            go_ret2
            exact spelt_no (fun m a b c => E'.out (by rw [← VAL.out m a b c]; exact c.symm)) ⟨_, rfl⟩
    · go_enter Tryd.func29, Tryd.ntmps29
      go_wp2_with (go_at_call 24; refine (l1In_yes _ _ _ _ (by omega) (by omega)).mono ?_; rintro e w' ⟨rfl, rfl⟩)
      go_loop [5, 6] (fun n i => ∃ k : Nat, k ≤ t.size ∧ i = .int .i64 k ∧ n = .int .i64 (dval (t.data.toList.take k)) ∧ digsTo t k) (fun _ i => t.size - (intOf i).toNat)
      case atStart => exact ⟨0, Nat.zero_le _, rfl, rfl, digsTo_zero t⟩
      case round =>
        obtain ⟨k, hk, rfl, rfl, hd⟩ := hrel
        obtain ⟨b0, b1⟩ := digsTo_six t k l6 hd
        by_cases hlt : k < t.size
        · by_cases hdig : 48 ≤ t[k].toNat ∧ t[k].toNat ≤ 57
          · obtain ⟨q1, q2⟩ := hdig
            have HS := Lib.hid (digsTo_val t k hlt q1 q2)
            have HD := Lib.hid (digsTo_succ t k hlt hd q1 q2)
            clear hd
            go_wp2
            go_round
            case rel => exact ⟨k + 1, by omega, by go_num, by rw [HS.out], HD.out⟩
            case measure => simp [intOf]; omega
          · have hx : t[k].toNat < 48 ∨ 57 < t[k].toNat := by omega
            have NO := Lib.hid (fun m a b (c : t = numB m) => not_dig t k hlt hx (SP.out m a b c).2.2.2.1)
            clear hdig hd
            rcases hx with hx | hx
            · go_wp2
              go_ret2
              exact spelt_no NO.out ⟨0, rfl⟩
            · have hx2 : ¬ t[k].toNat < 48 := by omega
              go_wp2
              go_ret2
              exact spelt_no NO.out ⟨0, rfl⟩
        · have hk2 : k = t.size := by omega
          have VAL := Lib.hid (fun m a b (c : t = numB m) => show m = dval (t.data.toList.take k) by rw [hk2]; exact (SP.out m a b c).2.2.2.2)
          clear hd
          by_cases E : numB (dval (t.data.toList.take k)) = t
          · have eq1 := bytes_yes _ _ E
            have E' := Lib.hid E
            clear E hk2
            go_wp2_with (go_at_call 25; refine (l1Num_any _ _ (by omega) (by omega)).mono ?_; rintro e w' ⟨rfl, m, rfl⟩)
            go_ret2
            exact spelt_yes (by omega) (by omega) E'.out.symm ⟨_, rfl⟩
          · have eq1 := bytes_no _ _ E
            have E' := Lib.hid E
            clear E hk2
            go_wp2_with (go_at_call 25; refine (l1Num_any _ _ (by omega) (by omega)).mono ?_; rintro e w' ⟨rfl, m, rfl⟩)
            go_ret2
            exact spelt_no (fun m a b c => E'.out (by rw [← VAL.out m a b c]; exact c.symm)) ⟨_, rfl⟩
  · have hl : (t.size : Int) < 1 ∨ ((1 : Int) ≤ t.size ∧ (6 : Int) < t.size) := by omega
    have NO := Lib.hid (fun m a b (c : t = numB m) => hlen ⟨(SP.out m a b c).2.1, (SP.out m a b c).2.2.1⟩)
    clear hlen
    by_cases h1 : 1 < t.size
    · have e1 : ((t[0].toNat : Int) == 45) = false := by have := HX.out h1; simp; omega
      go_enter Tryd.func29, Tryd.ntmps29
      go_wp2_with (go_at_call 24; refine (l1In_no _ _ _ _ hl).mono ?_; rintro e w' ⟨rfl, rfl⟩)
      go_ret2
      exact spelt_no NO.out ⟨0, rfl⟩
    · go_enter Tryd.func29, Tryd.ntmps29
      go_wp2_with (go_at_call 24; refine (l1In_no _ _ _ _ hl).mono ?_; rintro e w' ⟨rfl, rfl⟩)
      go_ret2
      exact spelt_no NO.out ⟨0, rfl⟩
theorem l1Read_any (s : ByteArray) (w : World) (hs : s.size ≤ maxLen) : Calls Tryd.prog 29 #[.string s] w (Spelt s w) := by
  by_cases h : ∃ h : 1 < s.size, s[0].toNat = 45
  · obtain ⟨h, h45⟩ := h
    exact l1Read_neg s _ w hs h h45 rfl
  · exact l1Read_pos s w hs (fun h1 h45 => h ⟨h1, h45⟩)
end Go.Proofs.YthpkabjgjgmnoaaDoor
