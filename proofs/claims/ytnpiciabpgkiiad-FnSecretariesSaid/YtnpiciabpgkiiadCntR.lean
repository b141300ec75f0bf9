/- A row of ones by slices.Repeat. -/
import Derived.Test.YtnpiciabpgkiiadPrm
import Derived.Deep.QuietTactic
import Derived.BigQuiet
import Derived.Test.YtnpiciabpgkiiadShelf
import Derived.Laws.CopyOwn
import Derived.Deep.LoopGhost
import Derived.BigRegion
import Derived.Deep.RegionLaw
import Derived.IntWalk
namespace Go.Proofs.Ytnpiciabpgkiiad
open Go.RowKit
set_option linter.unusedVariables false
/-- The row behind m ones. -/
def onesL (n m : Nat) : List Value := List.replicate m (.int .i64 1) ++ List.replicate (n - m) (.int .i64 0)
theorem onesL_len {n m : Nat} (h : m ≤ n) : (onesL n m).length = n := by unfold onesL; simp; omega
theorem onesL_zero (n : Nat) : onesL n 0 = List.replicate n (.int .i64 0) := by simp [onesL]
theorem onesL_all (n : Nat) : onesL n n = List.replicate n (.int .i64 1) := by simp [onesL]
theorem onesL_splice {n m k : Nat} (h : m + k ≤ n) : splice (onesL n m) m (List.replicate k (.int .i64 1)) = onesL n (m + k) := by
  unfold splice onesL
  have h1 : (List.replicate m (Value.int .i64 1) ++ List.replicate (n - m) (Value.int .i64 0)).take m = List.replicate m (Value.int .i64 1) := by
    rw [List.take_append_of_le_length (by simp), List.take_of_length_le (by simp)]
  have h2 : (List.replicate m (Value.int .i64 1) ++ List.replicate (n - m) (Value.int .i64 0)).drop (m + (List.replicate k (Value.int .i64 1)).length) = List.replicate (n - (m + k)) (Value.int .i64 0) := by
    rw [List.drop_append, List.drop_eq_nil_of_le (by simp), List.nil_append, List.drop_replicate]
    congr 1
    simp; omega
  rw [h1, h2, ← List.append_assoc, List.replicate_append_replicate]
theorem ones_at {n m : Nat} {w : World} {G : Nat} {T : TypeId} (h : w.heap[G]? = some (.cells (onesL n m).toArray T (0, 0))) {j : Nat} (hj : j < m) : w.cell? ⟨G, j, none⟩ = some (.int .i64 1) := by
  refine (cell_of_heap (o := j) h ?_).1
  rw [List.getElem?_toArray]
  unfold onesL
  rw [List.getElem?_append_left (by simp; exact hj), List.getElem?_replicate, if_pos hj]
theorem ones_src {n m k : Nat} {w : World} {G : Nat} {T : TypeId} (h : w.heap[G]? = some (.cells (onesL n m).toArray T (0, 0))) (hk : k ≤ m) : ∀ j v, (List.replicate k (Value.int .i64 1))[j]? = some v → w.cell? ((⟨G, 0, none⟩ : Addr).add j) = some v := by
  intro j v hv
  rw [List.getElem?_replicate] at hv
  split at hv
  · rename_i hj
    injection hv with hv
    subst hv
    rw [Addr.add_lit, Nat.zero_add]
    exact ones_at h (by omega)
  · cases hv
theorem ones_own {n : Nat} {w wr : World} {G : Nat} (h : wr.heap[G]? = some (.cells (onesL n n).toArray 3 (0, 0))) (hn : n ≤ 1048576) (hG : w.heap.size ≤ G) (hb : Below w.heap.size w wr) : NewInts (List.replicate n 1) w (.returned (.slice (some ⟨G, 0, none⟩) n n)) wr := by
  have hl := onesL_len (Nat.le_refl n)
  refine ⟨_, rfl, ⟨?_, fun q hq => ?_, Nat.le_refl _, fun z hz => ?_⟩, hb⟩
  · refine ⟨by simp, .inr ⟨G, n, (onesL n n).toArray, by simp, hG, h, by simp, by unfold maxLen; omega, by simp [hl], ?_⟩⟩
    simp only [List.length_replicate, Nat.mul_one]
    rw [List.take_of_length_le (by omega), onesL_all, List.map_replicate]
  · simp [Value.ownBlock] at hq
    subst hq
    exact (Array.getElem?_eq_some_iff.1 h).1
  · have := List.eq_of_mem_replicate hz
    subst this; unfold InI64; omega
theorem ones_made {w1 : World} {G n : Nat} (h : w1.ownsRow G 3 1 (.slice (some ⟨G, 0, none⟩) n n) n (madeCells (Value.int .i64 0).cells (n * 1)).toList) (hn : 1 ≤ n) : w1.heap[G]? = some (.cells (onesL n 0).toArray 3 (0, 0)) := by
  rw [show (Value.int .i64 0).cells = #[Value.int .i64 0] from rfl, Nat.mul_one, toList_madeCells_one] at h
  rcases h.2 with ⟨h1, _⟩ | ⟨g, cap, cur, h1, _, hg, h2, _, h3, h4⟩
  · injection h1 with h1; cases h1
  · injection h1 with h1 _ h5
    injection h1 with h1
    injection h1 with h1
    subst h1; subst h5
    rw [hg, onesL_zero, ← h4, List.take_of_length_le (by simp [h3])]
set_option maxRecDepth 100000 in
set_option maxHeartbeats 2000000 in
theorem repeatI (n g c : Nat) (w : World) (hn1 : 1 ≤ n) (hn : n ≤ 1048576) (hc : w.cell? ⟨g, 0, none⟩ = some (.int .i64 1)) (hg : g < w.heap.size) :
    Calls Try.prog 299 #[.slice (some ⟨g, 0, none⟩) 1 c, .int .i64 n] w (NewInts (List.replicate n 1) w) := by
  have MUL : Hid (∀ w', Calls Try.prog 301 #[.int .u64 1, .int .u64 n] w' fun e w'' => e = .returned (.tuple #[.int .u64 0, .int .u64 n]) ∧ w' = w'') := Lib.hid (fun w' => (Try.bits_Mul 1 n (by omega) (by omega) w').mono (fun e w'' ⟨h1, h2⟩ => by
    rw [show 1 * n / 18446744073709551616 = 0 by omega, show 1 * n % 18446744073709551616 = n by omega] at h1
    exact ⟨h1, h2.symm⟩))
  obtain ⟨i0, hi, hz0, hz1, hz2⟩ := info_parts intInfo
  have hsz : (Try.prog.info? 3).map (·.size) = some 1 := by rw [hi]; exact congrArg some hz1
  have c1' : i0.bytes * n ≤ 281474976710656 := by rw [hz2]; omega
  have c2' : n ≤ maxLen := by unfold maxLen; omega
  have HC := Lib.hid hc
  have HG := Lib.hid hg
  clear hc hg
  go_enter Try.func299, Try.ntmps299
  go_wp2_with fail
  refine (MUL.out _).mono ?_
  rintro e w1 ⟨rfl, rfl⟩
  have NL := Lib.hid (onesL_len (Nat.zero_le n))
  have MN : Hid ([Value.int .i64 1].length = Nat.min 1 n) := Lib.hid (Nat.min_eq_left hn1).symm
  have SP : Hid (splice (onesL n 0) 0 [Value.int .i64 1] = onesL n 1) := Lib.hid (by
    have := onesL_splice (n := n) (m := 0) (k := 1) (by omega)
    rw [Nat.zero_add] at this
    exact this)
  have MADE : Hid (∀ w2 : World, w2.ownsRow w.heap.size 3 1 (.slice (some ⟨w.heap.size, 0, none⟩) n n) n (madeCells (Value.int .i64 0).cells (n * 1)).toList → w2.heap[w.heap.size]? = some (.cells (onesL n 0).toArray 3 (0, 0))) := Lib.hid (fun w2 h => ones_made h hn1)
  have SRC : Hid (∀ w2 : World, Below w.heap.size w w2 → ∀ j v, [Value.int .i64 1][j]? = some v → w2.cell? ((⟨g, 0, none⟩ : Addr).add j) = some v) := Lib.hid (fun w2 hb j v hv => by
    have hj : j = 0 := by
      rcases Nat.eq_zero_or_pos j with h | h
      · exact h
      · rw [List.getElem?_eq_none (by simp; omega)] at hv; cases hv
    subst hj
    injection hv with hv
    subst hv
    rw [Addr.add_lit, Nat.add_zero, hb.cell (p := ⟨g, 0, none⟩) HG.out]
    exact HC.out)
  go_wp2_with (first
    | (at_make; refine wpList_make_full _ rfl _ _ 33 rfl w.heap.size 3 i0 (.int .i64 0) 1 Try.underlying33 hi hz0 hz1 .i64 .i64 _ _ n rfl rfl rfl rfl c1' c2' (Nat.le_refl _) ?_; intro w2 hown hgr; (have R0 := Lib.hid (MADE.out _ hown)); (have HB2 := Lib.hid ((Below.refl w.heap.size w).grown hgr (Nat.le_refl _) (by simp))); (have SRC2 := Lib.hid (SRC.out _ HB2.out)); clear hown hgr)
    | ((with_reducible show wpList _ _ _ _ _ _); refine wpList_copy_splice (o := ⟨some 33, _, _, _, _, _⟩) rfl (.tmp 31) (.tmp 32) 33 33 rfl 3 Try.underlying33 hsz (some ⟨w.heap.size, 0, none⟩) (some ⟨g, 0, none⟩) n n 1 c rfl rfl w.heap.size 0 (onesL n 0) 3 R0.out [.int .i64 1] MN.out (fun _ => ⟨rfl, _, rfl, SRC2.out⟩) (by rw [NL.out]; exact hn1) (fun v hv => by simp at hv; subst hv; rfl) w.heap.size w HB2.out (Nat.le_refl _) ?_; intro w3 hR3 hB3))
  rw [SP.out] at hR3
  have HB3 := Lib.hid hB3
  obtain ⟨G, hG⟩ : ∃ G, G = w.heap.size := ⟨_, rfl⟩
  have GW : Hid (w.heap.size ≤ G) := Lib.hid (by omega)
  have OWN : Hid (∀ wr : World, Below w.heap.size w wr → wr.heap[G]? = some (.cells (onesL n n).toArray 3 (0, 0)) → NewInts (List.replicate n 1) w (.returned (.slice (some ⟨G, 0, none⟩) n n)) wr) := Lib.hid (fun wr hb h => ones_own h hn GW.out hb)
  have ROOM : Hid (∀ (m : Nat) (wr : World), wr.heap[G]? = some (.cells (onesL n m).toArray 3 (0, 0)) → G < wr.heap.size) := Lib.hid (fun m wr h => (Array.getElem?_eq_some_iff.1 h).1)
  have SPL : Hid (∀ m k : Nat, m + k ≤ n → splice (onesL n m) m (List.replicate k (Value.int .i64 1)) = onesL n (m + k)) := Lib.hid (fun m k h => onesL_splice h)
  have LEN : Hid (∀ m : Nat, m ≤ n → (onesL n m).length = n) := Lib.hid (fun m h => onesL_len h)
  have SRM : Hid (∀ (m k : Nat) (wr : World), k ≤ m → wr.heap[G]? = some (.cells (onesL n m).toArray 3 (0, 0)) → ∀ j v, (List.replicate k (Value.int .i64 1))[j]? = some v → wr.cell? ((⟨G, 0, none⟩ : Addr).add j) = some v) := Lib.hid (fun m k wr hk h => ones_src h hk)
  rw [← hG] at hR3 ⊢
  clear hB3 SP MN NL SRC MADE SRC2 HB2 R0 hG HC HG MUL c1' c2' hi hz0 hz1 hz2
  go_loopg [8] n (fun gg i wr => ∃ m : Nat, 1 ≤ m ∧ m ≤ n ∧ n - m ≤ gg ∧ i = .int .i64 m ∧ Hid (wr.heap[G]? = some (.cells (onesL n m).toArray 3 (0, 0))) ∧ Hid (Below w.heap.size w wr))
  case atStart => exact ⟨1, Nat.le_refl _, hn1, by omega, rfl, hR3, HB3⟩
  case round =>
    obtain ⟨m, hm1, hm, hgg, rfl, HR, HB⟩ := hrel
    clear hR3 HB3
    by_cases hlt : m < n
    · obtain ⟨k, hk⟩ : ∃ k, k = Nat.min m (n - m) := ⟨_, rfl⟩
      have hk1 : 1 ≤ k := by rw [hk, Nat.le_min]; omega
      have hk2 : k ≤ m := by rw [hk]; exact Nat.min_le_left _ _
      have hk3 : m + k ≤ n := by
        have h9 : k ≤ n - m := hk ▸ Nat.min_le_right _ _
        omega
      have HK := Lib.hid hk
      have SR2 := Lib.hid (SRM.out m k wr hk2 HR.out)
      have SP2 := Lib.hid (SPL.out m k hk3)
      have LN2 := Lib.hid (LEN.out m hm)
      have CL : Hid ((List.replicate k (Value.int .i64 1)).length = k) := Lib.hid (by simp)
      obtain ⟨cs, hcs⟩ : ∃ cs, cs = List.replicate k (Value.int .i64 1) := ⟨_, rfl⟩
      have ONE : Hid (∀ v ∈ cs, v.oneCell' = true) := Lib.hid (fun v hv => by rw [hcs] at hv; rw [List.eq_of_mem_replicate hv]; rfl)
      rw [← hcs] at SR2 SP2 CL
      have i0' : (0 : Int) ≤ (m : Int) := by omega
      have i1' : (m : Int) < (n : Int) := by omega
      have i2' : (m : Int) ≤ (n : Int) := by omega
      have WR : IntKind.i64.wrap ((m : Int) + (k : Int)) = (m : Int) + (k : Int) := IntWalk.i64_in _ (by omega)
      clear hk hcs
      have HRD : Hid (wr.drew.heap[G]? = some (.cells (onesL n m).toArray 3 (0, 0))) := Lib.hid HR.out
      have HBD : Hid (Below w.heap.size w wr.drew) := Lib.hid (show Below w.heap.size w wr.drew from ⟨HB.out.os, HB.out.tape, HB.out.output, HB.out.size, HB.out.block⟩)
      have SRD : Hid (∀ j v, cs[j]? = some v → wr.drew.cell? ((⟨G, 0, none⟩ : Addr).add j) = some v) := Lib.hid SR2.out
      have hnm : ¬ n = m := by omega
      have FIT : Hid (m + cs.length ≤ (onesL n m).length) := Lib.hid (by rw [CL.out, LN2.out]; exact hk3)
      have CSN : Hid (cs.length = Nat.min m (n - m)) := Lib.hid (by rw [CL.out, HK.out])
      clear HR HB SR2
      go_wp2_with fail
      go_region_law (refine step_copy_splice (o := ⟨some 45, _, _, _, _, _⟩) rfl (.tmp 41) (.tmp 44) 33 33 rfl 3 Try.underlying33 hsz (some ⟨G, m, none⟩) (some ⟨G, 0, none⟩) (n - m) (n - m) m n (by simp [go_sem]) (by simp [go_sem]) G m (onesL n m) 3 HRD.out cs CSN.out (fun _ => ⟨rfl, _, rfl, SRD.out⟩) FIT.out ONE.out w.heap.size w HBD.out GW.out ?_; intro w4 hg4 hb4)
      all_goals
        rw [SP2.out] at hg4
        have HB4 := Lib.hid hb4
        clear hb4
        go_wp2_with fail
        go_roundg (n - (m + k))
        case rel => exact ⟨m + k, by omega, by omega, by omega, by first | go_num | (rw [CL.out]; go_num), hg4, HB4⟩
        case measure => omega
    · obtain rfl : m = n := by omega
      have FIN := Lib.hid (OWN.out wr HB.out HR.out)
      clear HR HB
      go_wp2
      go_ret
      exact FIN.out
end Go.Proofs.Ytnpiciabpgkiiad
