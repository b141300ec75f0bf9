/- A suffix of a code behind two bytes or more, and one byte more. -/
import Derived.Test.YtmidlabgmmejbabVcut
namespace Go.Proofs.Ytmidlabgmmejbab
open Go.RowKit
set_option linter.unusedVariables false
set_option maxRecDepth 100000 in
set_option maxHeartbeats 2000000 in
theorem cutT (n c b off T : Nat) (w : World) (hn : n ≤ 65536) (h2 : T < n) (hT : 1 ≤ T) (hT2 : T ≤ 200) (hc : n ≤ c) (hB : BytesAt w w.heap.size (some ⟨b, off, none⟩) n) :
    Calls Try.prog 33 #[.slice (some ⟨b, off, none⟩) n c, .int .i64 T] w fun e w' => ∃ g cap, e = .returned (.slice (some ⟨g, 0, none⟩) (n - T + 1) cap) ∧ n - T + 1 ≤ cap ∧ BytesAt w' w'.heap.size (some ⟨g, 0, none⟩) (n - T + 1) ∧ Below w.heap.size w w' := by
  obtain ⟨i0, hif, hz0, hz1, hz2⟩ := info_parts byteInfo9
  have HIF := Lib.hid hif
  obtain ⟨zs, hzs⟩ : ∃ zs, zs = (List.range (n - T)).map (fun i => byteI w b (off + (T + i))) := ⟨_, rfl⟩
  have ZL : zs.length = n - T := by rw [hzs]; simp
  have ZB := Lib.hid (show ∀ z ∈ zs, 0 ≤ z ∧ z ≤ 255 from by
    intro z hz
    rw [hzs] at hz
    obtain ⟨i, hi, rfl⟩ := List.mem_map.1 hz
    rw [List.mem_range] at hi
    exact (byteI_at hB (i := T + i) (by omega)).2.1)
  have hbw : b < w.heap.size := (byteI_at hB (i := 0) (by omega)).2.2
  have SRC : ∀ (j : Nat) (u : Value), (zs.map (Value.int .u8))[j]? = some u → w.cell? ((⟨b, off + T, none⟩ : Addr).add j) = some u := by
    intro j u hu
    have hj : j < n - T := by
      have := (List.getElem?_eq_some_iff.1 hu).1
      simp [ZL] at this
      exact this
    rw [hzs, List.map_map, List.getElem?_map, List.getElem?_range hj] at hu
    injection hu with hu
    rw [← hu, Addr.add_lit, show off + T + j = off + (T + j) by omega]
    exact (byteI_at hB (i := T + j) (by omega)).1
  obtain ⟨wa, hwa⟩ : ∃ wa, wa = w.alloc (.cells #[] 5) := ⟨_, rfl⟩
  have O1 : wa.ownsRow w.heap.size 5 1 (.slice (some ⟨w.heap.size, 0, none⟩) 0 0) 0 [] := by
    rw [hwa]
    exact ⟨rfl, .inr ⟨w.heap.size, 0, #[], rfl, Nat.le_refl _, alloc_heap w _, Nat.le_refl _, Nat.zero_le _, rfl, rfl⟩⟩
  have BA : Below w.heap.size w wa := by rw [hwa]; exact (Below.refl w.heap.size w).alloc (Nat.le_refl _) _
  have SA : wa.heap.size = w.heap.size + 1 := by rw [hwa]; simp
  have SRC1 := Lib.hid (fun (j : Nat) (u : Value) (hu : (zs.map (Value.int .u8))[j]? = some u) => show wa.cell? ((⟨b, off + T, none⟩ : Addr).add j) = some u from by
    have := SRC j u hu
    rw [Addr.add_lit] at this ⊢
    exact (BA.cell (p := ⟨b, off + T + j, none⟩) hbw).trans this)
  have c1 : ¬ c = T := by omega
  have c2 : ¬ (n : Int) < (T : Int) := by omega
  have c3 : ¬ (T : Int) > (n : Int) := by omega
  have c4 : T ≤ n := by omega
  have c5 : (T : Int) ≤ (n : Int) := by omega
  clear hzs SRC hB hif
  go_enter Try.func33, Try.ntmps33
  go_upto_region 3 with fail
  have SZ : w.heap.size ≤ wa.heap.size := by omega
  subst hwa
  go_wp2_with (first
    | (at_builtin; refine wpList_append_own_at _ rfl _ _ 43 rfl w.heap.size 5 i0 (.int .u8 0) 1 1 Try.underlying43 HIF.out hz0 hz1 hz2 rfl (by decide) _ 0 [] rfl O1 ⟨b, off + T, none⟩ (n - T) (c - T) (zs.map (.int .u8)) rfl (by simp [ZL]) SRC1.out (fun u hu => by obtain ⟨z, _, rfl⟩ := List.mem_map.1 hu; rfl) (by unfold maxLen; omega) (by omega) SZ ?_; intro v1 w1 hown1 hgrow1 hnil1 hloc1; (have hs1 : w.heap.size ≤ w1.heap.size := by have := hgrow1.size; omega))
    | (at_builtin; refine wpList_append_own_at _ rfl _ _ 43 rfl w.heap.size 5 i0 (.int .u8 0) 1 1 Try.underlying43 HIF.out hz0 hz1 hz2 rfl (by decide) _ (0 + (n - T)) ([] ++ zs.map (.int .u8)) rfl (hown1.alloc _) ⟨w1.heap.size, 0, none⟩ 1 1 [.int .u8 T] rfl rfl (one_byte w1 T) (fun u hu => by simp at hu; subst hu; rfl) (by unfold maxLen; omega) (by omega) (by simp; omega) ?_; intro v2 w2 hown2 hgrow2 hnil2 hloc2))
  have hw2 : w2.ownsRow w.heap.size 5 1 v2 (n - T + 1) ((zs ++ [(T : Int)]).map (.int .u8)) := by
    have := hown2
    rw [List.nil_append, show 0 + (n - T) + 1 = n - T + 1 by omega] at this
    rw [List.map_append]
    exact this
  obtain ⟨g, cap, rfl, hby, hcap⟩ := bytes_of_row hw2 (by omega) (fun z hz => by
    rcases List.mem_append.1 hz with h | h
    · exact ZB.out z h
    · simp at h; subst h; omega) (by simp [ZL])
  have FIN := Lib.hid (show Below w.heap.size w w2 from ((BA.grown hgrow1 SZ (fun q hq => (O1.lt q hq).1)).alloc hs1 _).grown hgrow2 (by simp; omega) (fun q hq => (hown1.lt q hq).1))
  clear hown1 hown2 hgrow1 hgrow2 hnil1 hnil2 hloc1 hloc2 hw2
  go_ret
  exact ⟨g, cap, rfl, hcap, hby, FIN.out⟩
set_option maxRecDepth 100000 in
set_option maxHeartbeats 2000000 in
theorem cutn_2 (c : Nat) (w : World) :
    Calls Try.prog 33 #[.slice none 0 c, .int .i64 2] w fun e w' => ∃ g cap, e = .returned (.slice (some ⟨g, 0, none⟩) 1 cap) ∧ 1 ≤ cap ∧ BytesAt w' w'.heap.size (some ⟨g, 0, none⟩) 1 ∧ Below w.heap.size w w' := by
  obtain ⟨i0, hif, hz0, hz1, hz2⟩ := info_parts byteInfo9
  have HIF := Lib.hid hif
  have O1 : (w.alloc (.cells #[] 5)).ownsRow w.heap.size 5 1 (.slice (some ⟨w.heap.size, 0, none⟩) 0 0) 0 [] :=
    ⟨rfl, .inr ⟨w.heap.size, 0, #[], rfl, Nat.le_refl _, alloc_heap w _, Nat.le_refl _, Nat.zero_le _, rfl, rfl⟩⟩
  have OB := one_byte (w.alloc (.cells #[] 5)) 0
  have SA : (w.alloc (.cells #[] 5)).heap.size = w.heap.size + 1 := by simp
  rw [SA] at OB
  have BA : Below w.heap.size w (w.alloc (.cells #[] 5)) := (Below.refl w.heap.size w).alloc (Nat.le_refl _) _
  have SZ : w.heap.size ≤ ((w.alloc (.cells #[] 5)).alloc (.cells #[.int .u8 0] 5)).heap.size := by simp; omega
  have SZ0 : w.heap.size ≤ (w.alloc (.cells #[] 5)).heap.size := by simp
  clear hif
  go_enter Try.func33, Try.ntmps33
  go_wp2_with (at_builtin; refine wpList_append_own_at _ rfl _ _ 43 rfl w.heap.size 5 i0 (.int .u8 0) 1 1 Try.underlying43 HIF.out hz0 hz1 hz2 rfl (by decide) _ 0 [] rfl (O1.alloc _) ⟨w.heap.size + 1, 0, none⟩ 1 1 [.int .u8 0] rfl rfl OB (fun u hu => by simp at hu; subst hu; rfl) (by unfold maxLen; omega) (by omega) SZ ?_; intro v2 w2 hown2 hgrow2 hnil2 hloc2)
  all_goals
    have hw2 : w2.ownsRow w.heap.size 5 1 v2 1 (([0] : List Int).map (.int .u8)) := hown2
    obtain ⟨g, cap, rfl, hby, hcap⟩ := bytes_of_row hw2 (by omega) (fun z hz => by simp at hz; subst hz; omega) rfl
    have FIN := Lib.hid (show Below w.heap.size w w2 from (BA.alloc SZ0 _).grown hgrow2 SZ (fun q hq => (O1.lt q hq).1))
    clear hown2 hgrow2 hnil2 hloc2 hw2
    go_ret
    exact ⟨g, cap, rfl, hcap, hby, FIN.out⟩
set_option maxRecDepth 100000 in
set_option maxHeartbeats 2000000 in
theorem cuts_2 (c : Nat) (a : Addr) (w : World) :
    Calls Try.prog 33 #[.slice (some a) 0 c, .int .i64 2] w fun e w' => ∃ g cap, e = .returned (.slice (some ⟨g, 0, none⟩) 1 cap) ∧ 1 ≤ cap ∧ BytesAt w' w'.heap.size (some ⟨g, 0, none⟩) 1 ∧ Below w.heap.size w w' := by
  obtain ⟨i0, hif, hz0, hz1, hz2⟩ := info_parts byteInfo9
  have HIF := Lib.hid hif
  have O1 : (w.alloc (.cells #[] 5)).ownsRow w.heap.size 5 1 (.slice (some ⟨w.heap.size, 0, none⟩) 0 0) 0 [] :=
    ⟨rfl, .inr ⟨w.heap.size, 0, #[], rfl, Nat.le_refl _, alloc_heap w _, Nat.le_refl _, Nat.zero_le _, rfl, rfl⟩⟩
  have OB := one_byte (w.alloc (.cells #[] 5)) 0
  have SA : (w.alloc (.cells #[] 5)).heap.size = w.heap.size + 1 := by simp
  rw [SA] at OB
  have BA : Below w.heap.size w (w.alloc (.cells #[] 5)) := (Below.refl w.heap.size w).alloc (Nat.le_refl _) _
  have SZ : w.heap.size ≤ ((w.alloc (.cells #[] 5)).alloc (.cells #[.int .u8 0] 5)).heap.size := by simp; omega
  have SZ0 : w.heap.size ≤ (w.alloc (.cells #[] 5)).heap.size := by simp
  clear hif
  go_enter Try.func33, Try.ntmps33
  go_wp2_with (at_builtin; refine wpList_append_own_at _ rfl _ _ 43 rfl w.heap.size 5 i0 (.int .u8 0) 1 1 Try.underlying43 HIF.out hz0 hz1 hz2 rfl (by decide) _ 0 [] rfl (O1.alloc _) ⟨w.heap.size + 1, 0, none⟩ 1 1 [.int .u8 0] rfl rfl OB (fun u hu => by simp at hu; subst hu; rfl) (by unfold maxLen; omega) (by omega) SZ ?_; intro v2 w2 hown2 hgrow2 hnil2 hloc2)
  all_goals
    have hw2 : w2.ownsRow w.heap.size 5 1 v2 1 (([0] : List Int).map (.int .u8)) := hown2
    obtain ⟨g, cap, rfl, hby, hcap⟩ := bytes_of_row hw2 (by omega) (fun z hz => by simp at hz; subst hz; omega) rfl
    have FIN := Lib.hid (show Below w.heap.size w w2 from (BA.alloc SZ0 _).grown hgrow2 SZ (fun q hq => (O1.lt q hq).1))
    clear hown2 hgrow2 hnil2 hloc2 hw2
    go_ret
    exact ⟨g, cap, rfl, hcap, hby, FIN.out⟩
set_option maxRecDepth 100000 in
set_option maxHeartbeats 2000000 in
theorem cut1_2 (c b off : Nat) (w : World) (hc : 1 ≤ c) :
    Calls Try.prog 33 #[.slice (some ⟨b, off, none⟩) 1 c, .int .i64 2] w fun e w' => ∃ g cap, e = .returned (.slice (some ⟨g, 0, none⟩) 1 cap) ∧ 1 ≤ cap ∧ BytesAt w' w'.heap.size (some ⟨g, 0, none⟩) 1 ∧ Below w.heap.size w w' := by
  obtain ⟨i0, hif, hz0, hz1, hz2⟩ := info_parts byteInfo9
  have HIF := Lib.hid hif
  have O1 : (w.alloc (.cells #[] 5)).ownsRow w.heap.size 5 1 (.slice (some ⟨w.heap.size, 0, none⟩) 0 0) 0 [] :=
    ⟨rfl, .inr ⟨w.heap.size, 0, #[], rfl, Nat.le_refl _, alloc_heap w _, Nat.le_refl _, Nat.zero_le _, rfl, rfl⟩⟩
  have OB := one_byte (w.alloc (.cells #[] 5)) 1
  have SA : (w.alloc (.cells #[] 5)).heap.size = w.heap.size + 1 := by simp
  rw [SA] at OB
  have BA : Below w.heap.size w (w.alloc (.cells #[] 5)) := (Below.refl w.heap.size w).alloc (Nat.le_refl _) _
  have SZ : w.heap.size ≤ ((w.alloc (.cells #[] 5)).alloc (.cells #[.int .u8 1] 5)).heap.size := by simp; omega
  have SZ0 : w.heap.size ≤ (w.alloc (.cells #[] 5)).heap.size := by simp
  clear hif
  go_enter Try.func33, Try.ntmps33
  go_wp2_with (at_builtin; refine wpList_append_own_at _ rfl _ _ 43 rfl w.heap.size 5 i0 (.int .u8 0) 1 1 Try.underlying43 HIF.out hz0 hz1 hz2 rfl (by decide) _ 0 [] rfl (O1.alloc _) ⟨w.heap.size + 1, 0, none⟩ 1 1 [.int .u8 1] rfl rfl OB (fun u hu => by simp at hu; subst hu; rfl) (by unfold maxLen; omega) (by omega) SZ ?_; intro v2 w2 hown2 hgrow2 hnil2 hloc2)
  all_goals
    have hw2 : w2.ownsRow w.heap.size 5 1 v2 1 (([1] : List Int).map (.int .u8)) := hown2
    obtain ⟨g, cap, rfl, hby, hcap⟩ := bytes_of_row hw2 (by omega) (fun z hz => by simp at hz; subst hz; omega) rfl
    have FIN := Lib.hid (show Below w.heap.size w w2 from (BA.alloc SZ0 _).grown hgrow2 SZ (fun q hq => (O1.lt q hq).1))
    clear hown2 hgrow2 hnil2 hloc2 hw2
    go_ret
    exact ⟨g, cap, rfl, hcap, hby, FIN.out⟩
set_option maxRecDepth 100000 in
set_option maxHeartbeats 2000000 in
theorem cut2_2 (c b off : Nat) (w : World) (hc : 2 ≤ c) :
    Calls Try.prog 33 #[.slice (some ⟨b, off, none⟩) 2 c, .int .i64 2] w fun e w' => ∃ g cap, e = .returned (.slice (some ⟨g, 0, none⟩) 1 cap) ∧ 1 ≤ cap ∧ BytesAt w' w'.heap.size (some ⟨g, 0, none⟩) 1 ∧ Below w.heap.size w w' := by
  obtain ⟨i0, hif, hz0, hz1, hz2⟩ := info_parts byteInfo9
  have HIF := Lib.hid hif
  have O1 : (w.alloc (.cells #[] 5)).ownsRow w.heap.size 5 1 (.slice (some ⟨w.heap.size, 0, none⟩) 0 0) 0 [] :=
    ⟨rfl, .inr ⟨w.heap.size, 0, #[], rfl, Nat.le_refl _, alloc_heap w _, Nat.le_refl _, Nat.zero_le _, rfl, rfl⟩⟩
  have OB := one_byte (w.alloc (.cells #[] 5)) 2
  have SA : (w.alloc (.cells #[] 5)).heap.size = w.heap.size + 1 := by simp
  rw [SA] at OB
  have BA : Below w.heap.size w (w.alloc (.cells #[] 5)) := (Below.refl w.heap.size w).alloc (Nat.le_refl _) _
  have SZ : w.heap.size ≤ ((w.alloc (.cells #[] 5)).alloc (.cells #[.int .u8 2] 5)).heap.size := by simp; omega
  have SZ0 : w.heap.size ≤ (w.alloc (.cells #[] 5)).heap.size := by simp
  clear hif
  go_enter Try.func33, Try.ntmps33
  go_wp2_with (at_builtin; refine wpList_append_own_at _ rfl _ _ 43 rfl w.heap.size 5 i0 (.int .u8 0) 1 1 Try.underlying43 HIF.out hz0 hz1 hz2 rfl (by decide) _ 0 [] rfl (O1.alloc _) ⟨w.heap.size + 1, 0, none⟩ 1 1 [.int .u8 2] rfl rfl OB (fun u hu => by simp at hu; subst hu; rfl) (by unfold maxLen; omega) (by omega) SZ ?_; intro v2 w2 hown2 hgrow2 hnil2 hloc2)
  all_goals
    have hw2 : w2.ownsRow w.heap.size 5 1 v2 1 (([2] : List Int).map (.int .u8)) := hown2
    obtain ⟨g, cap, rfl, hby, hcap⟩ := bytes_of_row hw2 (by omega) (fun z hz => by simp at hz; subst hz; omega) rfl
    have FIN := Lib.hid (show Below w.heap.size w w2 from (BA.alloc SZ0 _).grown hgrow2 SZ (fun q hq => (O1.lt q hq).1))
    clear hown2 hgrow2 hnil2 hloc2 hw2
    go_ret
    exact ⟨g, cap, rfl, hcap, hby, FIN.out⟩
/-- The cut of any code behind two bytes. -/
theorem cutAny2 (n c : Nat) (p : Option Addr) (w : World) (hn : n ≤ 65536) (hc : n ≤ c) (hB : BytesAt w w.heap.size p n) :
    Calls Try.prog 33 #[.slice p n c, .int .i64 2] w fun e w' => ∃ g m cap, e = .returned (.slice (some ⟨g, 0, none⟩) m cap) ∧ m ≤ 65536 ∧ m ≤ cap ∧ BytesAt w' w'.heap.size (some ⟨g, 0, none⟩) m ∧ Below w.heap.size w w' := by
  by_cases h0 : n = 0
  · subst h0
    cases p with
    | none => exact (cutn_2 c w).mono (fun e w' ⟨g, cap, he, h1, h2, h3⟩ => ⟨g, 1, cap, he, by omega, h1, h2, h3⟩)
    | some a => exact (cuts_2 c a w).mono (fun e w' ⟨g, cap, he, h1, h2, h3⟩ => ⟨g, 1, cap, he, by omega, h1, h2, h3⟩)
  · obtain ⟨b, off, z, rfl, _⟩ := hB 0 (by omega)
    by_cases h1 : n = 1
    · subst h1
      exact (cut1_2 c b off w hc).mono (fun e w' ⟨g, cap, he, h1, h2, h3⟩ => ⟨g, 1, cap, he, by omega, h1, h2, h3⟩)
    · by_cases h2 : n = 2
      · subst h2
        exact (cut2_2 c b off w hc).mono (fun e w' ⟨g, cap, he, h1, h2, h3⟩ => ⟨g, 1, cap, he, by omega, h1, h2, h3⟩)
      · exact (cutT n c b off 2 w hn (by omega) (by omega) (by omega) hc hB).mono (fun e w' ⟨g, cap, he, h1, h2, h3⟩ => ⟨g, n - 2 + 1, cap, he, by omega, h1, h2, h3⟩)
end Go.Proofs.Ytmidlabgmmejbab
