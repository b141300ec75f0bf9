/- Products, and joined rows (slices.Concat), in the program. -/
import Derived.Test.YtligidmkhbcpmacUrnG
namespace Go.Proofs.Ytligidmkhbcpmac
open Go.RowKit
set_option linter.unusedVariables false
set_option maxRecDepth 100000 in
set_option maxHeartbeats 2000000 in
theorem prodC (L : List Int) (b c : Nat) (w : World) (h : RowB w b L) (hn : L.length ≤ 1000) : Calls Try.prog 184 #[.slice (some ⟨b, 0, none⟩) L.length c] w (QR (.int .i64 (IntKind.i64.wrap (prodI L))) w) := by
  have HR := Lib.hid h
  have PS := Lib.hid (fun k (hk : k < L.length) => show IntKind.i64.wrap (IntKind.i64.wrap (prodI (L.take k)) * L.getD k 0) = IntKind.i64.wrap (prodI (L.take (k + 1))) by rw [wrap_mul, prod_take L hk])
  have P0 := Lib.hid (show IntKind.i64.wrap (prodI (L.take 0)) = 1 from by rw [List.take_zero]; exact IntWalk.i64_in _ (by decide))
  have PE := Lib.hid (show IntKind.i64.wrap (prodI (L.take L.length)) = IntKind.i64.wrap (prodI L) by rw [List.take_length])
  obtain ⟨P, hP⟩ : ∃ P : Nat → Int, P = fun k => IntKind.i64.wrap (prodI (L.take k)) := ⟨_, rfl⟩
  have PD : ∀ k, IntKind.i64.wrap (prodI (L.take k)) = P k := fun k => by rw [hP]
  simp only [PD] at PS P0 PE
  rw [← PE.out]
  obtain ⟨n, hN⟩ : ∃ n, n = L.length := ⟨_, rfl⟩
  rw [← hN] at hn PS ⊢
  have HN := Lib.hid hN
  clear h hP PD PE hN
  go_enter Try.func184, Try.ntmps184
  go_wp2_with fail
  go_loopg [3, 8] n (fun gg s t wr => ∃ k : Nat, k ≤ n ∧ n - k ≤ gg ∧ s = .int .i64 (P k) ∧ t = .int .i64 k ∧ w = wr)
  case atStart => exact ⟨0, Nat.zero_le _, by omega, by rw [P0.out], rfl, rfl⟩
  case round =>
    obtain ⟨k, hk, hgg, rfl, rfl, rfl⟩ := hrel
    by_cases hlt : k < n
    · have k1 : (k : Int) < (n : Int) := by omega
      have k2 : 0 ≤ (k : Int) := by omega
      have x0 := HR.out.cell k (by rw [← HN.out]; exact hlt)
      have WR := PS.out k hlt
      obtain ⟨x, hx⟩ : ∃ x, x = L.getD k 0 := ⟨_, rfl⟩
      rw [← hx] at x0 WR
      clear hx
      go_wp2_with fail
      go_roundg (n - (k + 1))
      case rel => exact ⟨k + 1, by omega, by omega, by first | rfl | (rw [WR]), by go_num, rfl⟩
      case measure => omega
    · obtain rfl : k = n := by omega
      have k1 : ¬ (k : Int) < (k : Int) := by omega
      go_wp2_with fail
      go_ret
      exact ⟨rfl, rfl⟩
set_option maxRecDepth 100000 in
set_option maxHeartbeats 2000000 in
theorem growC (n : Nat) (w : World) (h1 : 1 ≤ n) (h2 : n ≤ 1000) : Calls Try.prog 210 #[.slice none 0 0, .int .i64 n] w fun e w' =>
    ∃ c, e = .returned (.slice (some ⟨w.heap.size, 0, none⟩) 0 c) ∧ OwnV w' w.heap.size w'.heap.size (.slice (some ⟨w.heap.size, 0, none⟩) 0 c) [] ∧ Below w.heap.size w w' := by
  obtain ⟨i0, hi, hz0, hz1, hz2⟩ := info_parts intInfo
  have hrz : ∀ ty, (Builtin.append_ #[22, 3] ty #[.slice none 0 0, .int .i64 (n : Int)]).run Try.prog w =
      .ok (.slice (some ⟨w.heap.size, 0, none⟩) n (grownCap w n 0 3)) (w.drew.alloc (.cells (Builtin.zeroCells (Value.int .i64 0).cells n ++ Builtin.zeroCells (Value.int .i64 0).cells (grownCap w n 0 3 - n)) 3)) := fun ty =>
    Lib.run_append_nil_zeros w 22 3 ty 3 i0 (.int .i64 0) .i64 .i64 Try.underlying22 Try.underlying3 hi hz0 n (by omega) (by rw [hz1]; omega) (by omega) (by rw [hz2]; omega)
  have hGn := grownCap_ge w n 0 3
  have hGm := grownCap_le_maxLen w n 0 3 (by unfold maxLen; omega)
  obtain ⟨G, hG⟩ : ∃ G, G = grownCap w n 0 3 := ⟨_, rfl⟩
  rw [← hG] at hGn hGm
  simp only [← hG] at hrz
  obtain ⟨cs, hcs⟩ : ∃ cs, cs = Builtin.zeroCells (Value.int .i64 0).cells n ++ Builtin.zeroCells (Value.int .i64 0).cells (G - n) := ⟨_, rfl⟩
  simp only [← hcs] at hrz
  have hsz : cs.size = G := by
    rw [hcs, Array.size_append, size_zeroCells, size_zeroCells, show (Value.int .i64 0).cells.size = 1 from rfl]
    omega
  have hG63 : (G : Int) ≤ 9223372036854775807 := by unfold maxLen at hGm; omega
  have FIN : Hid (OwnV (w.drew.alloc (.cells cs 3)) w.heap.size (w.drew.alloc (.cells cs 3)).heap.size (.slice (some ⟨w.heap.size, 0, none⟩) 0 G) [] ∧ Below w.heap.size w (w.drew.alloc (.cells cs 3))) := Lib.hid (by
    refine ⟨⟨⟨rfl, .inr ⟨w.heap.size, G, cs, rfl, Nat.le_refl _, alloc_heap w.drew _, Nat.zero_le _, hGm, by rw [hsz]; omega, by simp⟩⟩, ?_, Nat.le_refl _, by intro z hz; cases hz⟩, ?_⟩
    · intro q hq
      simp [Value.ownBlock] at hq
      subst hq
      rw [show (w.drew.alloc (.cells cs 3)).heap.size = w.drew.heap.size + 1 by simp]
      exact Nat.lt_succ_self _
    · exact (below_drew (Below.refl w.heap.size w)).alloc (Nat.le_refl _) _)
  have n1 : ¬ (n : Int) < 0 := by omega
  have n2 : (0 : Int) < (n : Int) := by omega
  clear hG hcs hsz hGm hi hz0 hz1 hz2
  go_enter Try.func210, Try.ntmps210
  go_wp2_with (at_builtin; refine Lib.wpList_append_run _ rfl _ _ _ _ rfl _ _ rfl rfl _ _ (hrz _) ?_)
  all_goals (go_ret; exact ⟨G, rfl, FIN.out.1, FIN.out.2⟩)
/-- Rows one behind the other. -/
def catL (Z : Nat → List Int) : Nat → List Int
  | 0 => []
  | k + 1 => catL Z k ++ Z k
set_option maxRecDepth 100000 in
set_option maxHeartbeats 4000000 in
theorem catC (Z : Nat → List Int) (bb cc : Nat → Nat) (m go co : Nat) (w : World) (hm : m ≤ 100) (h0 : 1 ≤ (catL Z m).length) (hl : ∀ k, k ≤ m → (catL Z k).length ≤ 1000)
    (hgo : go < w.heap.size) (hout : ∀ i, i < m → w.cell? ⟨go, i, none⟩ = some (.slice (some ⟨bb i, 0, none⟩) (Z i).length (cc i))) (hrow : ∀ i, i < m → RowB w (bb i) (Z i)) (h64 : ∀ i, i < m → ∀ z ∈ Z i, InI64 z) :
    Calls Try.prog 181 #[.slice (some ⟨go, 0, none⟩) m co] w (NewB (catL Z m) w) := by
  have HO := Lib.hid hout
  have HR := Lib.hid hrow
  have H6 := Lib.hid h64
  have HL := Lib.hid hl
  have LS := Lib.hid (fun k => show (catL Z (k + 1)).length = (catL Z k).length + (Z k).length from List.length_append)
  have CS := Lib.hid (fun k => show catL Z (k + 1) = catL Z k ++ Z k from rfl)
  have C0 := Lib.hid (show catL Z 0 = [] from rfl)
  have L0 := Lib.hid (show (catL Z 0).length = 0 from rfl)
  obtain ⟨Q, hQ⟩ : ∃ Q : Nat → List Int, Q = catL Z := ⟨_, rfl⟩
  rw [← hQ] at h0 HL LS CS C0 L0 ⊢
  have GR := Lib.hid (fun w => growC (Q m).length w h0 (HL.out m (Nat.le_refl _)))
  have q1 := HL.out m (Nat.le_refl _)
  clear hout hrow h64 hl hQ
  go_enter Try.func181, Try.ntmps181
  go_wp2_with fail
  go_loopg [3, 11] m (fun gg s t wr => ∃ k : Nat, k ≤ m ∧ m - k ≤ gg ∧ s = .int .i64 (Q k).length ∧ t = .int .i64 k ∧ w = wr)
  case atStart => exact ⟨0, Nat.zero_le _, by omega, by rw [L0.out]; rfl, rfl, rfl⟩
  case round =>
    obtain ⟨k, hk, hgg, rfl, rfl, rfl⟩ := hrel
    by_cases hlt : k < m
    · have k1 : (k : Int) < (m : Int) := by omega
      have k2 : 0 ≤ (k : Int) := by omega
      have x0 := HO.out k hlt
      have ls := LS.out k
      have l1 := HL.out (k + 1) (by omega)
      obtain ⟨a, ha⟩ : ∃ a, a = (Q k).length := ⟨_, rfl⟩
      obtain ⟨d, hd⟩ : ∃ d, d = (Z k).length := ⟨_, rfl⟩
      rw [← ha] at ls ⊢
      rw [← hd] at x0 ls
      have LE := Lib.hid (show (a : Int) + (d : Int) = ((Q (k + 1)).length : Nat) by omega)
      have b1 : ¬ (a : Int) + (d : Int) < 0 := by omega
      have b2 : a + d ≤ 1000 := by omega
      clear ls l1 ha hd
      go_wp2_with fail
      go_roundg (m - (k + 1))
      case rel => exact ⟨k + 1, by omega, by omega, by rw [LE.out], by go_num, rfl⟩
      case measure => omega
    · obtain rfl : k = m := by omega
      have k1 : ¬ (k : Int) < (k : Int) := by omega
      go_wp2_with fail
      refine (GR.out _).mono ?_
      rintro e w2 ⟨c, rfl, o2, b2⟩
      have HO2 := Lib.hid (by rw [← C0.out] at o2; exact o2 : OwnV w2 w.heap.size w2.heap.size (.slice (some ⟨w.heap.size, 0, none⟩) 0 c) (Q 0))
      have HB2 := Lib.hid b2
      obtain ⟨i0, hi, hz0, hz1, hz2⟩ := info_parts intInfo
      clear o2 b2
      go_wp2_with fail
      go_loopg [6, 27] k (fun gg v t wr => ∃ j : Nat, j ≤ k ∧ k - j ≤ gg ∧ t = .int .i64 j ∧ Hid (OwnV wr w.heap.size wr.heap.size v (Q j)) ∧ Hid (Below w.heap.size w wr))
      case atStart => exact ⟨0, Nat.zero_le _, by omega, rfl, HO2, HB2⟩
      case round =>
        clear HO2 HB2
        obtain ⟨j, hj, hgg2, rfl, HV, HB⟩ := hrel
        by_cases hjk : j < k
        · have j1 : (j : Int) < (k : Int) := by omega
          have j2 : 0 ≤ (j : Int) := by omega
          have x0 : wr.cell? ⟨go, j, none⟩ = some (.slice (some ⟨bb j, 0, none⟩) (Z j).length (cc j)) := (HB.out.cell (p := ⟨go, j, none⟩) hgo).trans (HO.out j hjk)
          have RB := (HR.out j hjk).below HB.out (HR.out j hjk).lt
          have CE : ∀ i u, ((Z j).map (Value.int .i64))[i]? = some u → wr.cell? ((⟨bb j, 0, none⟩ : Addr).add i) = some u := by
            intro i u hu
            rw [List.getElem?_map] at hu
            have hi' : i < (Z j).length := by
              rcases Nat.lt_or_ge i (Z j).length with h' | h'
              · exact h'
              · rw [List.getElem?_eq_none h'] at hu; cases hu
            have := RB.cell i hi'
            rw [List.getElem?_eq_getElem hi'] at hu
            rw [Addr.add_lit, Nat.zero_add, this, List.getD_eq_getElem?_getD, List.getElem?_eq_getElem hi']
            exact hu
          have HCE := Lib.hid CE
          have cs := CS.out j
          have ls := LS.out j
          have l1 := HL.out (j + 1) (by omega)
          have H6j := Lib.hid (H6.out j hjk)
          obtain ⟨zs, hzs⟩ : ∃ zs, zs = Z j := ⟨_, rfl⟩
          rw [← hzs] at x0 HCE cs ls H6j
          obtain ⟨L, hLL⟩ : ∃ L, L = Q j := ⟨_, rfl⟩
          rw [← hLL] at HV cs ls
          obtain ⟨bj, hbj⟩ : ∃ bj, bj = bb j := ⟨_, rfl⟩
          rw [← hbj] at x0 HCE
          have CSH := Lib.hid cs
          have hown := HV.out.row
          have hsz := HB.out.size
          have z1 : zs.length ≤ 1000 := by omega
          have z2 : L.length ≤ 1000 := by omega
          clear cs ls l1 CE RB hzs hLL hbj
          go_wp2_with (at_builtin; refine wpList_append_own _ rfl _ _ 22 rfl w.heap.size 3 i0 (.int .i64 0) 1 8 Try.underlying22 hi hz0 hz1 hz2 rfl (by decide) _ L.length (L.map (.int .i64)) rfl hown ⟨bj, 0, none⟩ zs.length (cc j) (zs.map (.int .i64)) rfl (by simp) HCE.out (fun u hu => by obtain ⟨z, _, rfl⟩ := List.mem_map.1 hu; rfl) (by unfold maxLen; omega) (by omega) (by omega) ?_; intro v' w3 hown3 hgrow3 hnil3)
          have HV3 : Hid (OwnV w3 w.heap.size w3.heap.size v' (Q (j + 1))) := Lib.hid (by
            rw [CSH.out]
            refine ⟨?_, fun q hq => (hown3.lt q hq).2, Nat.le_refl _, ?_⟩
            · rw [List.length_append, List.map_append]; exact hown3
            · intro z hz
              rcases List.mem_append.1 hz with h' | h'
              · exact HV.out.in64 z h'
              · exact H6j.out z h')
          have HB3 := Lib.hid (HB.out.grown hgrow3 (by omega) (fun q hq => (hown.lt q hq).1))
          clear hown hown3 hgrow3 hnil3
          go_roundg (k - (j + 1))
          case rel => exact ⟨j + 1, by omega, by omega, by go_num, HV3, HB3⟩
          case measure => omega
        · obtain rfl : j = k := by omega
          have j1 : ¬ (j : Int) < (j : Int) := by omega
          obtain ⟨g, cp, rfl, hg1, hg2⟩ := HV.out.shape h0
          have FIN : Hid (NewB (Q j) w (.returned (.slice (some ⟨g, 0, none⟩) (Q j).length cp)) wr) := Lib.hid ⟨g, cp, rfl, hg1, HV.out.rowB, HB.out⟩
          go_wp2_with fail
          go_ret
          exact FIN.out
end Go.Proofs.Ytligidmkhbcpmac
