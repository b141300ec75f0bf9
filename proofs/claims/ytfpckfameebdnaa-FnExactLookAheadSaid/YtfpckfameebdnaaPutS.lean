/- A number put to its place, in the model. -/
import Derived.Test.YtfpckfameebdnaaPutP
import Derived.Test.YtfpckfameebdnaaLawT
import Derived.Deep.AppendLies
import Derived.Deep.RegionLaw
import Derived.BigRegion
namespace Go.Proofs.Ytfpckfameebdnaa
open Go.RowKit
set_option linter.unusedVariables false
/-- What l1Put returns: the row itself, or a new one. -/
def PutRes (l : List Int) (n : Int) (v : Value) (w : World) (e : Ending) (w' : World) : Prop :=
  Below w.heap.size w w' ∧ ((e = .returned v ∧ putL l n = l) ∨ ∃ g cap, e = .returned (.slice (some ⟨g, 0, none⟩) (putL l n).length cap) ∧ OwnV w' w.heap.size w'.heap.size (.slice (some ⟨g, 0, none⟩) (putL l n).length cap) (putL l n))
theorem cells_take {w : World} {b off : Nat} {l : List Int} (h : IntsAt w w.heap.size (some ⟨b, off, none⟩) l) {i : Nat} (hi : i < l.length) : b < w.heap.size ∧ w.cell? ⟨b, off + i, none⟩ = some (.int .i64 l[i]) := by
  obtain ⟨b', off', e, hb, hc⟩ := h i hi
  injection e with e
  injection e with h1 h2
  subst h1; subst h2
  exact ⟨hb, hc⟩
theorem news_take {w : World} {b off : Nat} {l : List Int} (k : Nat) (h : IntsAt w w.heap.size (some ⟨b, off, none⟩) l) :
    ∀ X, Below w.heap.size w X → ∀ (j : Nat) (u : Value), ((l.take k).map (Value.int .i64))[j]? = some u → X.cell? ((⟨b, off, none⟩ : Addr).add j) = some u := by
  intro X hX j u hu
  rw [List.getElem?_map, Option.map_eq_some_iff] at hu
  obtain ⟨z, hz, rfl⟩ := hu
  obtain ⟨hj, hz⟩ := List.getElem?_eq_some_iff.1 hz
  rw [List.length_take] at hj
  obtain ⟨hb, hc⟩ := cells_take h (i := j) (by omega)
  rw [Addr.add_lit, hX.cell (p := ⟨b, off + j, none⟩) hb, hc, ← hz, List.getElem_take]
theorem news_drop {w : World} {b off : Nat} {l : List Int} (k : Nat) (h : IntsAt w w.heap.size (some ⟨b, off, none⟩) l) :
    ∀ X, Below w.heap.size w X → ∀ (j : Nat) (u : Value), ((l.drop k).map (Value.int .i64))[j]? = some u → X.cell? ((⟨b, off + k, none⟩ : Addr).add j) = some u := by
  intro X hX j u hu
  rw [List.getElem?_map, Option.map_eq_some_iff] at hu
  obtain ⟨z, hz, rfl⟩ := hu
  obtain ⟨hj, hz⟩ := List.getElem?_eq_some_iff.1 hz
  rw [List.length_drop] at hj
  obtain ⟨hb, hc⟩ := cells_take h (i := k + j) (by omega)
  rw [Addr.add_lit, Nat.add_assoc, hX.cell (p := ⟨b, off + (k + j), none⟩) hb, hc, ← hz, List.getElem_drop]
theorem news_kept {X w1 : World} {r : Option Nat} {nb : Nat} {n : Int} (hg : X.grownBy w1 r) (hr : ∀ q, r = some q → q ≠ nb) (hx : X.heap[nb]? = some (.cells #[.int .i64 n] 3 (0, 0))) :
    ∀ (j : Nat) (u : Value), [Value.int .i64 n][j]? = some u → w1.cell? ((⟨nb, 0, none⟩ : Addr).add j) = some u := by
  intro j u hu
  have hlt : nb < X.heap.size := (Array.getElem?_eq_some_iff.1 hx).1
  have hw := (hg.block nb hlt (fun e => hr nb e.symm rfl)).trans hx
  obtain ⟨hj, rfl⟩ := List.getElem?_eq_some_iff.1 hu
  obtain rfl : j = 0 := by simpa using hj
  rw [Addr.add_lit]
  exact (cell_of_heap (o := 0) hw rfl).1
theorem news_at {X : World} {nb : Nat} {n : Int} (hx : X.heap[nb]? = some (.cells #[.int .i64 n] 3 (0, 0))) :
    ∀ (j : Nat) (u : Value), [Value.int .i64 n][j]? = some u → X.cell? ((⟨nb, 0, none⟩ : Addr).add j) = some u := by
  intro j u hu
  obtain ⟨hj, rfl⟩ := List.getElem?_eq_some_iff.1 hu
  obtain rfl : j = 0 := by simpa using hj
  rw [Addr.add_lit]
  exact (cell_of_heap (o := 0) hx rfl).1
theorem row_cap {w : World} {lo g cap n : Nat} {xs : List Value} (h : w.ownsRow lo 3 1 (.slice (some ⟨g, 0, none⟩) n cap) n xs) : n ≤ cap := by
  rcases h.2 with ⟨h1, _⟩ | ⟨g', cap', cur, h1, _, _, hc, _⟩
  · cases h1
  · injection h1 with _ _ h3
    rw [h3]; exact hc
theorem own_put {v : Value} {w w3 : World} {g cap m : Nat} {l : List Int} {n : Int} {k : Nat} {xs : List Value} (bw : Below w.heap.size w w3) (R : putL l n = l.take k ++ [n] ++ l.drop k) (hk : k ≤ l.length) (hI : ∀ z ∈ putL l n, InI64 z) (hm : m = l.length + 1) (hx : xs = (l.take k).map (Value.int .i64) ++ [Value.int .i64 n] ++ (l.drop k).map (Value.int .i64))
    (h : w3.ownsRow w.heap.size 3 1 (.slice (some ⟨g, 0, none⟩) m cap) m xs) : PutRes l n v w (.returned (.slice (some ⟨g, 0, none⟩) m cap)) w3 := by
  have hl : (putL l n).length = m := by rw [R, List.length_append, List.length_append, List.length_take, List.length_drop, hm]; simp; omega
  refine ⟨bw, .inr ⟨g, cap, by rw [hl], ?_⟩⟩
  rw [hl]
  refine ⟨?_, fun q hq => (h.lt q hq).2, Nat.le_refl _, hI⟩
  rw [hl, R, List.map_append, List.map_append]
  rw [hx] at h
  exact h
set_option maxRecDepth 100000 in
set_option maxHeartbeats 8000000 in
theorem putS (l : List Int) (n : Int) (b off cq : Nat) (w : World) (hl : l.length ≤ 1000) (hn : InI64 n) (h : IntsV w w.heap.size (.slice (some ⟨b, off, none⟩) l.length cq) l) :
    Calls Try.prog 151 #[.slice (some ⟨b, off, none⟩) l.length cq, .int .i64 n] w (PutRes l n (.slice (some ⟨b, off, none⟩) l.length cq) w) := by
  obtain ⟨q, cq', e, lq, mq, zq, iq⟩ := h
  injection e with e1 e2 e3
  subst e1; subst e3
  clear e2
  have E1 := Lib.hid iq
  have ZQ := Lib.hid zq
  have HN := Lib.hid hn
  clear iq zq mq hn
  obtain ⟨i0, hi, hz0, hz1, hz2⟩ := info_parts intInfo
  go_enter Try.func151, Try.ntmps151
  go_wp2
  go_loop [5] (fun i => ∃ k : Nat, k ≤ l.length ∧ i = .int .i64 k ∧ Hid (∀ j, j < k → l.getD j 0 < n)) (fun i => l.length - (intOf i).toNat)
  case atStart => exact ⟨0, Nat.zero_le _, rfl, Lib.hid (fun j hj => by omega)⟩
  case round =>
    obtain ⟨k, hk, rfl, HA⟩ := hrel
    by_cases hlt : k < l.length
    · have hc := (cells_take E1.out hlt).2
      rw [show l[k] = l.getD k 0 by rw [List.getD_eq_getElem?_getD, List.getElem?_eq_getElem hlt]; rfl] at hc
      have i0' : (0 : Int) ≤ (k : Int) := by omega
      have i1 : (k : Int) < (l.length : Int) := by omega
      have NX : Hid (l.getD k 0 < n → ∀ j, j < k + 1 → l.getD j 0 < n) := Lib.hid (fun h j hj => by
        rcases Nat.lt_or_ge j k with h' | h'
        · exact HA.out j h'
        · obtain rfl : j = k := by omega
          exact h)
      have LE : Hid (n ≤ l.getD k 0 → lessN l n = k) := Lib.hid (fun h => less_of k hk HA.out (fun _ => h))
      have PY : Hid (l.getD k 0 = n → putL l n = l) := Lib.hid (fun h => by
        unfold putL
        rw [LE.out (by omega), if_pos ⟨hlt, h⟩])
      have PN : Hid (n < l.getD k 0 → putL l n = l.take k ++ [n] ++ l.drop k) := Lib.hid (fun h => by
        unfold putL
        rw [LE.out (by omega), if_neg (fun h' => by omega)])
      obtain ⟨z, hz⟩ : ∃ z, z = l.getD k 0 := ⟨_, rfl⟩
      rw [← hz] at hc NX PY PN
      clear hz LE
      by_cases h1 : z < n
      · have N2 := Lib.hid (NX.out h1)
        clear NX PY PN
        go_wp2
        go_round
        case rel => exact ⟨k + 1, by omega, by go_num, N2⟩
        case measure => simp [intOf]; omega
      · by_cases h2 : z = n
        · have R := Lib.hid (PY.out h2)
          subst h2
          clear NX PY PN
          go_wp2
          go_ret
          exact ⟨Below.refl _ _, .inl ⟨rfl, R.out⟩⟩
        · have R := Lib.hid (PN.out (by omega))
          have zb : (z == n) = false := by simpa using h2
          clear NX PY PN HA
          have k2 : (k : Int) ≤ (l.length : Int) := by omega
          have k3 : (k : Int) ≤ (cq : Int) := by omega
          have k4 : (l.length : Int) ≤ (cq : Int) := by omega
          have hck : ¬ cq = k := by omega
          have kl : k ≤ 1000 := by omega
          have kd : l.length - k ≤ 1000 ∧ 0 < l.length - k := by omega
          have NW := Lib.hid (news_take (w := w) (b := b) (off := off) (l := l) k E1.out)
          have ND := Lib.hid (news_drop (w := w) (b := b) (off := off) (l := l) k E1.out)
          have LK : Hid ((l.take k).length = k) := Lib.hid (by rw [List.length_take]; omega)
          have LD : Hid ((l.drop k).length = l.length - k) := Lib.hid (by rw [List.length_drop])
          have A1 : Hid ((w.alloc (.cells #[] 3)).drew.ownsRow w.heap.size 3 1 (.slice (some ⟨w.heap.size, 0, none⟩) 0 0) 0 []) := Lib.hid (OwnV.empty w w.heap.size (Nat.le_refl _)).row
          have BB1 : Hid (Below w.heap.size w (w.alloc (.cells #[] 3)).drew) := Lib.hid (below_drew ((Below.refl _ _).alloc (Nat.le_refl _) _))
          have A1b : Hid (((w.alloc (.cells #[] 3)).alloc (.cells #[.int .i64 n] 3)).drew.ownsRow w.heap.size 3 1 (.slice (some ⟨w.heap.size, 0, none⟩) 0 0) 0 []) := Lib.hid ((OwnV.empty w w.heap.size (Nat.le_refl _)).row.alloc (.cells #[.int .i64 n] 3))
          have BB1b : Hid (Below w.heap.size w ((w.alloc (.cells #[] 3)).alloc (.cells #[.int .i64 n] 3)).drew) := Lib.hid (below_drew (((Below.refl _ _).alloc (Nat.le_refl _) _).alloc (by simp) _))
          have N1b : Hid (((w.alloc (.cells #[] 3)).alloc (.cells #[.int .i64 n] 3)).drew.heap[w.heap.size + 1]? = some (.cells #[.int .i64 n] 3 (0, 0))) := Lib.hid (alloc_two w _ _).2
          have A1c : Hid (((w.alloc (.cells #[.int .i64 n] 3)).alloc (.cells #[] 3)).drew.ownsRow w.heap.size 3 1 (.slice (some ⟨w.heap.size + 1, 0, none⟩) 0 0) 0 []) := Lib.hid (by
            have h := (OwnV.empty (w.alloc (.cells #[.int .i64 n] 3)) w.heap.size (by simp)).row
            rw [show (w.alloc (.cells #[.int .i64 n] 3)).heap.size = w.heap.size + 1 by simp] at h
            exact h)
          have BB1c : Hid (Below w.heap.size w ((w.alloc (.cells #[.int .i64 n] 3)).alloc (.cells #[] 3)).drew) := Lib.hid (below_drew (((Below.refl _ _).alloc (Nat.le_refl _) _).alloc (by simp) _))
          have N1c : Hid (((w.alloc (.cells #[.int .i64 n] 3)).alloc (.cells #[] 3)).drew.heap[w.heap.size]? = some (.cells #[.int .i64 n] 3 (0, 0))) := Lib.hid (alloc_two w _ _).1
          have HI : Hid (∀ z ∈ putL l n, InI64 z) := Lib.hid (fun z hz => by
            rw [R.out] at hz
            rcases List.mem_append.1 hz with h | h
            · rcases List.mem_append.1 h with h | h
              · exact ZQ.out z (List.mem_of_mem_take h)
              · simp at h; subst h; exact HN.out
            · exact ZQ.out z (List.mem_of_mem_drop h))
          rcases Nat.eq_zero_or_pos k with hk0 | hk0
          · subst hk0
            have NA : Hid (∀ X, Below w.heap.size w X → ∀ (j : Nat) (u : Value), (l.map (Value.int .i64))[j]? = some u → X.cell? ((⟨b, off, none⟩ : Addr).add j) = some u) := Lib.hid (by simpa using ND.out)
            rw [Nat.add_zero] at hc
            rw [Nat.sub_zero] at kd
            clear NW ND LK LD
            go_wp2
            go_region_law (first
              | (refine step_append_lies _ rfl _ _ 22 rfl w.heap.size 3 i0 (.int .i64 0) 1 8 Try.underlying22 hi hz0 hz1 hz2 rfl (by decide) _ 0 [] rfl A1b.out ⟨w.heap.size + 1, 0, none⟩ 1 1 [.int .i64 n] rfl rfl (news_at N1b.out) (fun u hu => by simp at hu; subst hu; rfl) (by omega) (by unfold maxLen; omega) (by omega) BB1b.out.size _ rfl ?_; intro g2 cap2 w2 hown2 hgrow2 hat2 hlt2; (have own2 : Hid (w2.ownsRow w.heap.size 3 1 (.slice (some ⟨g2, 0, none⟩) 1 cap2) 1 [Value.int .i64 n]) := Lib.hid (by simpa using hown2)); (have bw2 : Hid (Below w.heap.size w w2) := Lib.hid (BB1b.out.grown hgrow2 BB1b.out.size (fun q hq => (A1b.out.lt q hq).1))); clear hown2 hgrow2 hat2 hlt2)
              | (refine step_append_lies _ rfl _ _ 22 rfl w.heap.size 3 i0 (.int .i64 0) 1 8 Try.underlying22 hi hz0 hz1 hz2 rfl (by decide) _ 0 [] rfl A1c.out ⟨w.heap.size, 0, none⟩ 1 1 [.int .i64 n] rfl rfl (news_at N1c.out) (fun u hu => by simp at hu; subst hu; rfl) (by omega) (by unfold maxLen; omega) (by omega) BB1c.out.size _ rfl ?_; intro g2 cap2 w2 hown2 hgrow2 hat2 hlt2; (have own2 : Hid (w2.ownsRow w.heap.size 3 1 (.slice (some ⟨g2, 0, none⟩) 1 cap2) 1 [Value.int .i64 n]) := Lib.hid (by simpa using hown2)); (have bw2 : Hid (Below w.heap.size w w2) := Lib.hid (BB1c.out.grown hgrow2 BB1c.out.size (fun q hq => (A1c.out.lt q hq).1))); clear hown2 hgrow2 hat2 hlt2)
              | (refine step_append_lies _ rfl _ _ 22 rfl w.heap.size 3 i0 (.int .i64 0) 1 8 Try.underlying22 hi hz0 hz1 hz2 rfl (by decide) _ (1) [Value.int .i64 n] rfl own2.out ⟨b, off, none⟩ l.length cq (l.map (.int .i64)) rfl (by rw [List.length_map, Nat.mul_one]) (NA.out _ bw2.out) (fun u hu => by obtain ⟨z, _, rfl⟩ := List.mem_map.1 hu; rfl) kd.2 (by unfold maxLen; omega) (by omega) bw2.out.size _ rfl ?_; intro g3 cap3 w3 hown3 hgrow3 hat3 hlt3; (have own3 : Hid (w3.ownsRow w.heap.size 3 1 (.slice (some ⟨g3, 0, none⟩) (1 + l.length) cap3) (1 + l.length) ([Value.int .i64 n] ++ (l.map (Value.int .i64)))) := Lib.hid hown3); (have bw3 : Hid (Below w.heap.size w w3) := Lib.hid (bw2.out.grown hgrow3 bw2.out.size (fun q hq => (own2.out.lt q hq).1))); clear hown3 hgrow3 hat3 hlt3))
            all_goals
              go_wp2_with fail
              go_ret
              exact own_put bw3.out R.out (by omega) HI.out (by first | omega | (simp; omega)) (by simp) own3.out
          · go_wp2
            go_region_law (first
              | (refine step_append_lies _ rfl _ _ 22 rfl w.heap.size 3 i0 (.int .i64 0) 1 8 Try.underlying22 hi hz0 hz1 hz2 rfl (by decide) _ 0 [] rfl A1.out ⟨b, off, none⟩ k cq ((l.take k).map (.int .i64)) rfl (by rw [List.length_map, LK.out, Nat.mul_one]) (NW.out _ BB1.out) (fun u hu => by obtain ⟨z, _, rfl⟩ := List.mem_map.1 hu; rfl) hk0 (by unfold maxLen; omega) (by omega) BB1.out.size _ rfl ?_; intro g1 cap1 w1 hown1 hgrow1 hat1 hlt1; (have own1 : Hid (w1.ownsRow w.heap.size 3 1 (.slice (some ⟨g1, 0, none⟩) k cap1) k ((l.take k).map (.int .i64))) := Lib.hid (by simpa using hown1)); (have bw1 : Hid (Below w.heap.size w w1) := Lib.hid (BB1.out.grown hgrow1 BB1.out.size (fun q hq => (A1.out.lt q hq).1))); clear hown1 hgrow1 hat1 hlt1)
              | (refine step_append_lies _ rfl _ _ 22 rfl w.heap.size 3 i0 (.int .i64 0) 1 8 Try.underlying22 hi hz0 hz1 hz2 rfl (by decide) _ 0 [] rfl A1b.out ⟨b, off, none⟩ k cq ((l.take k).map (.int .i64)) rfl (by rw [List.length_map, LK.out, Nat.mul_one]) (NW.out _ BB1b.out) (fun u hu => by obtain ⟨z, _, rfl⟩ := List.mem_map.1 hu; rfl) hk0 (by unfold maxLen; omega) (by omega) BB1b.out.size _ rfl ?_; intro g1 cap1 w1 hown1 hgrow1 hat1 hlt1; (have own1 : Hid (w1.ownsRow w.heap.size 3 1 (.slice (some ⟨g1, 0, none⟩) k cap1) k ((l.take k).map (.int .i64))) := Lib.hid (by simpa using hown1)); (have bw1 : Hid (Below w.heap.size w w1) := Lib.hid (BB1b.out.grown hgrow1 BB1b.out.size (fun q hq => (A1b.out.lt q hq).1))); (have nc1 := Lib.hid (news_kept (n := n) (nb := w.heap.size + 1) hgrow1 (fun q hq => by (have h : Value.ownBlock (.slice (some ⟨w.heap.size, 0, none⟩) 0 0) = some q := hq); simp [Value.ownBlock] at h; omega) N1b.out)); clear hown1 hgrow1 hat1 hlt1)
              | (refine step_append_lies _ rfl _ _ 22 rfl w.heap.size 3 i0 (.int .i64 0) 1 8 Try.underlying22 hi hz0 hz1 hz2 rfl (by decide) _ 0 [] rfl A1c.out ⟨b, off, none⟩ k cq ((l.take k).map (.int .i64)) rfl (by rw [List.length_map, LK.out, Nat.mul_one]) (NW.out _ BB1c.out) (fun u hu => by obtain ⟨z, _, rfl⟩ := List.mem_map.1 hu; rfl) hk0 (by unfold maxLen; omega) (by omega) BB1c.out.size _ rfl ?_; intro g1 cap1 w1 hown1 hgrow1 hat1 hlt1; (have own1 : Hid (w1.ownsRow w.heap.size 3 1 (.slice (some ⟨g1, 0, none⟩) k cap1) k ((l.take k).map (.int .i64))) := Lib.hid (by simpa using hown1)); (have bw1 : Hid (Below w.heap.size w w1) := Lib.hid (BB1c.out.grown hgrow1 BB1c.out.size (fun q hq => (A1c.out.lt q hq).1))); (have nc1 := Lib.hid (news_kept (n := n) (nb := w.heap.size) hgrow1 (fun q hq => by (have h : Value.ownBlock (.slice (some ⟨w.heap.size + 1, 0, none⟩) 0 0) = some q := hq); simp [Value.ownBlock] at h; omega) N1c.out)); clear hown1 hgrow1 hat1 hlt1)
              | (refine step_append_lies _ rfl _ _ 22 rfl w.heap.size 3 i0 (.int .i64 0) 1 8 Try.underlying22 hi hz0 hz1 hz2 rfl (by decide) _ k ((l.take k).map (.int .i64)) rfl (own1.out.alloc _) ⟨w1.heap.size, 0, none⟩ 1 1 [.int .i64 n] rfl rfl (cell_one_new _ _ _) (fun u hu => by simp at hu; subst hu; rfl) (by omega) (by unfold maxLen; omega) (by omega) (by simp; have := bw1.out.size; omega) _ rfl ?_; intro g2 cap2 w2 hown2 hgrow2 hat2 hlt2; (have own2 : Hid (w2.ownsRow w.heap.size 3 1 (.slice (some ⟨g2, 0, none⟩) (k + 1) cap2) (k + 1) ((l.take k).map (Value.int .i64) ++ [Value.int .i64 n])) := Lib.hid hown2); (have bw2 : Hid (Below w.heap.size w w2) := Lib.hid ((bw1.out.alloc bw1.out.size _).grown hgrow2 (by simp; have := bw1.out.size; omega) (fun q hq => (own1.out.lt q hq).1))); clear hown2 hgrow2 hat2 hlt2)
              | (refine step_append_lies _ rfl _ _ 22 rfl w.heap.size 3 i0 (.int .i64 0) 1 8 Try.underlying22 hi hz0 hz1 hz2 rfl (by decide) _ k ((l.take k).map (.int .i64)) rfl own1.out ⟨w.heap.size + 1, 0, none⟩ 1 1 [.int .i64 n] rfl rfl nc1.out (fun u hu => by simp at hu; subst hu; rfl) (by omega) (by unfold maxLen; omega) (by omega) bw1.out.size _ rfl ?_; intro g2 cap2 w2 hown2 hgrow2 hat2 hlt2; (have own2 : Hid (w2.ownsRow w.heap.size 3 1 (.slice (some ⟨g2, 0, none⟩) (k + 1) cap2) (k + 1) ((l.take k).map (Value.int .i64) ++ [Value.int .i64 n])) := Lib.hid hown2); (have bw2 : Hid (Below w.heap.size w w2) := Lib.hid (bw1.out.grown hgrow2 bw1.out.size (fun q hq => (own1.out.lt q hq).1))); clear hown2 hgrow2 hat2 hlt2)
              | (refine step_append_lies _ rfl _ _ 22 rfl w.heap.size 3 i0 (.int .i64 0) 1 8 Try.underlying22 hi hz0 hz1 hz2 rfl (by decide) _ k ((l.take k).map (.int .i64)) rfl own1.out ⟨w.heap.size, 0, none⟩ 1 1 [.int .i64 n] rfl rfl nc1.out (fun u hu => by simp at hu; subst hu; rfl) (by omega) (by unfold maxLen; omega) (by omega) bw1.out.size _ rfl ?_; intro g2 cap2 w2 hown2 hgrow2 hat2 hlt2; (have own2 : Hid (w2.ownsRow w.heap.size 3 1 (.slice (some ⟨g2, 0, none⟩) (k + 1) cap2) (k + 1) ((l.take k).map (Value.int .i64) ++ [Value.int .i64 n])) := Lib.hid hown2); (have bw2 : Hid (Below w.heap.size w w2) := Lib.hid (bw1.out.grown hgrow2 bw1.out.size (fun q hq => (own1.out.lt q hq).1))); clear hown2 hgrow2 hat2 hlt2)
              | (refine step_append_lies _ rfl _ _ 22 rfl w.heap.size 3 i0 (.int .i64 0) 1 8 Try.underlying22 hi hz0 hz1 hz2 rfl (by decide) _ (k + 1) ((l.take k).map (Value.int .i64) ++ [Value.int .i64 n]) rfl own2.out ⟨b, off + k, none⟩ (l.length - k) (cq - k) ((l.drop k).map (.int .i64)) rfl (by rw [List.length_map, LD.out, Nat.mul_one]) (ND.out _ bw2.out) (fun u hu => by obtain ⟨z, _, rfl⟩ := List.mem_map.1 hu; rfl) kd.2 (by unfold maxLen; omega) (by omega) bw2.out.size _ rfl ?_; intro g3 cap3 w3 hown3 hgrow3 hat3 hlt3; (have own3 : Hid (w3.ownsRow w.heap.size 3 1 (.slice (some ⟨g3, 0, none⟩) (k + 1 + (l.length - k)) cap3) (k + 1 + (l.length - k)) (((l.take k).map (Value.int .i64) ++ [Value.int .i64 n]) ++ ((l.drop k).map (Value.int .i64)))) := Lib.hid hown3); (have bw3 : Hid (Below w.heap.size w w3) := Lib.hid (bw2.out.grown hgrow3 bw2.out.size (fun q hq => (own2.out.lt q hq).1))); clear hown3 hgrow3 hat3 hlt3))
            all_goals
              go_wp2_with fail
              go_ret
              exact own_put bw3.out R.out (by omega) HI.out (by first | omega | (simp; omega)) (by simp) own3.out
    · have hkl : k = l.length := by omega
      have LE : Hid (lessN l n = l.length) := Lib.hid (less_of l.length (Nat.le_refl _) (fun j hj => HA.out j (by omega)) (fun h => by omega))
      have R : Hid (putL l n = l.take l.length ++ [n] ++ l.drop l.length) := Lib.hid (by
        unfold putL
        rw [LE.out, if_neg (fun h' => by omega)])
      subst hkl
      clear HA LE
      have k4 : (l.length : Int) ≤ (cq : Int) := by omega
      have NW := Lib.hid (news_take (w := w) (b := b) (off := off) (l := l) l.length E1.out)
      have LK : Hid ((l.take l.length).length = l.length) := Lib.hid (by rw [List.length_take]; omega)
      have A1 : Hid ((w.alloc (.cells #[] 3)).drew.ownsRow w.heap.size 3 1 (.slice (some ⟨w.heap.size, 0, none⟩) 0 0) 0 []) := Lib.hid (OwnV.empty w w.heap.size (Nat.le_refl _)).row
      have BB1 : Hid (Below w.heap.size w (w.alloc (.cells #[] 3)).drew) := Lib.hid (below_drew ((Below.refl _ _).alloc (Nat.le_refl _) _))
      have A1b : Hid (((w.alloc (.cells #[] 3)).alloc (.cells #[.int .i64 n] 3)).drew.ownsRow w.heap.size 3 1 (.slice (some ⟨w.heap.size, 0, none⟩) 0 0) 0 []) := Lib.hid ((OwnV.empty w w.heap.size (Nat.le_refl _)).row.alloc (.cells #[.int .i64 n] 3))
      have BB1b : Hid (Below w.heap.size w ((w.alloc (.cells #[] 3)).alloc (.cells #[.int .i64 n] 3)).drew) := Lib.hid (below_drew (((Below.refl _ _).alloc (Nat.le_refl _) _).alloc (by simp) _))
      have N1b : Hid (((w.alloc (.cells #[] 3)).alloc (.cells #[.int .i64 n] 3)).drew.heap[w.heap.size + 1]? = some (.cells #[.int .i64 n] 3 (0, 0))) := Lib.hid (alloc_two w _ _).2
      have A1c : Hid (((w.alloc (.cells #[.int .i64 n] 3)).alloc (.cells #[] 3)).drew.ownsRow w.heap.size 3 1 (.slice (some ⟨w.heap.size + 1, 0, none⟩) 0 0) 0 []) := Lib.hid (by
        have h := (OwnV.empty (w.alloc (.cells #[.int .i64 n] 3)) w.heap.size (by simp)).row
        rw [show (w.alloc (.cells #[.int .i64 n] 3)).heap.size = w.heap.size + 1 by simp] at h
        exact h)
      have BB1c : Hid (Below w.heap.size w ((w.alloc (.cells #[.int .i64 n] 3)).alloc (.cells #[] 3)).drew) := Lib.hid (below_drew (((Below.refl _ _).alloc (Nat.le_refl _) _).alloc (by simp) _))
      have N1c : Hid (((w.alloc (.cells #[.int .i64 n] 3)).alloc (.cells #[] 3)).drew.heap[w.heap.size]? = some (.cells #[.int .i64 n] 3 (0, 0))) := Lib.hid (alloc_two w _ _).1
      have HI : Hid (∀ z ∈ putL l n, InI64 z) := Lib.hid (fun z hz => by
        rw [R.out] at hz
        rcases List.mem_append.1 hz with h | h
        · rcases List.mem_append.1 h with h | h
          · exact ZQ.out z (List.mem_of_mem_take h)
          · simp at h; subst h; exact HN.out
        · exact ZQ.out z (List.mem_of_mem_drop h))
      rcases Nat.eq_zero_or_pos l.length with hk0 | hk0
      · have L0 : l = [] := List.eq_nil_of_length_eq_zero hk0
        subst L0
        clear NW LK
        by_cases hcq : cq = 0
        · go_wp2
          go_region_law (first
            | (refine step_append_lies _ rfl _ _ 22 rfl w.heap.size 3 i0 (.int .i64 0) 1 8 Try.underlying22 hi hz0 hz1 hz2 rfl (by decide) _ 0 [] rfl A1b.out ⟨w.heap.size + 1, 0, none⟩ 1 1 [.int .i64 n] rfl rfl (news_at N1b.out) (fun u hu => by simp at hu; subst hu; rfl) (by omega) (by unfold maxLen; omega) (by omega) BB1b.out.size _ rfl ?_; intro g2 cap2 w2 hown2 hgrow2 hat2 hlt2; (have own2 : Hid (w2.ownsRow w.heap.size 3 1 (.slice (some ⟨g2, 0, none⟩) 1 cap2) 1 [Value.int .i64 n]) := Lib.hid (by simpa using hown2)); (have bw2 : Hid (Below w.heap.size w w2) := Lib.hid (BB1b.out.grown hgrow2 BB1b.out.size (fun q hq => (A1b.out.lt q hq).1))); (have hcap2 := row_cap own2.out); clear hown2 hgrow2 hat2 hlt2)
            | (refine step_append_lies _ rfl _ _ 22 rfl w.heap.size 3 i0 (.int .i64 0) 1 8 Try.underlying22 hi hz0 hz1 hz2 rfl (by decide) _ 0 [] rfl A1c.out ⟨w.heap.size, 0, none⟩ 1 1 [.int .i64 n] rfl rfl (news_at N1c.out) (fun u hu => by simp at hu; subst hu; rfl) (by omega) (by unfold maxLen; omega) (by omega) BB1c.out.size _ rfl ?_; intro g2 cap2 w2 hown2 hgrow2 hat2 hlt2; (have own2 : Hid (w2.ownsRow w.heap.size 3 1 (.slice (some ⟨g2, 0, none⟩) 1 cap2) 1 [Value.int .i64 n]) := Lib.hid (by simpa using hown2)); (have bw2 : Hid (Below w.heap.size w w2) := Lib.hid (BB1c.out.grown hgrow2 BB1c.out.size (fun q hq => (A1c.out.lt q hq).1))); (have hcap2 := row_cap own2.out); clear hown2 hgrow2 hat2 hlt2))
          all_goals
            go_wp2_with fail
            go_ret
            exact own_put bw2.out R.out (by omega) HI.out (by first | omega | (simp; omega)) (by simp) own2.out
        · go_wp2
          go_region_law (first
            | (refine step_append_lies _ rfl _ _ 22 rfl w.heap.size 3 i0 (.int .i64 0) 1 8 Try.underlying22 hi hz0 hz1 hz2 rfl (by decide) _ 0 [] rfl A1b.out ⟨w.heap.size + 1, 0, none⟩ 1 1 [.int .i64 n] rfl rfl (news_at N1b.out) (fun u hu => by simp at hu; subst hu; rfl) (by omega) (by unfold maxLen; omega) (by omega) BB1b.out.size _ rfl ?_; intro g2 cap2 w2 hown2 hgrow2 hat2 hlt2; (have own2 : Hid (w2.ownsRow w.heap.size 3 1 (.slice (some ⟨g2, 0, none⟩) 1 cap2) 1 [Value.int .i64 n]) := Lib.hid (by simpa using hown2)); (have bw2 : Hid (Below w.heap.size w w2) := Lib.hid (BB1b.out.grown hgrow2 BB1b.out.size (fun q hq => (A1b.out.lt q hq).1))); (have hcap2 := row_cap own2.out); clear hown2 hgrow2 hat2 hlt2)
            | (refine step_append_lies _ rfl _ _ 22 rfl w.heap.size 3 i0 (.int .i64 0) 1 8 Try.underlying22 hi hz0 hz1 hz2 rfl (by decide) _ 0 [] rfl A1c.out ⟨w.heap.size, 0, none⟩ 1 1 [.int .i64 n] rfl rfl (news_at N1c.out) (fun u hu => by simp at hu; subst hu; rfl) (by omega) (by unfold maxLen; omega) (by omega) BB1c.out.size _ rfl ?_; intro g2 cap2 w2 hown2 hgrow2 hat2 hlt2; (have own2 : Hid (w2.ownsRow w.heap.size 3 1 (.slice (some ⟨g2, 0, none⟩) 1 cap2) 1 [Value.int .i64 n]) := Lib.hid (by simpa using hown2)); (have bw2 : Hid (Below w.heap.size w w2) := Lib.hid (BB1c.out.grown hgrow2 BB1c.out.size (fun q hq => (A1c.out.lt q hq).1))); (have hcap2 := row_cap own2.out); clear hown2 hgrow2 hat2 hlt2))
          all_goals
            go_wp2_with fail
            go_ret
            exact own_put bw2.out R.out (by omega) HI.out (by first | omega | (simp; omega)) (by simp) own2.out
      · by_cases hcq : cq = l.length
        · subst hcq
          go_wp2
          go_region_law (first
            | (refine step_append_lies _ rfl _ _ 22 rfl w.heap.size 3 i0 (.int .i64 0) 1 8 Try.underlying22 hi hz0 hz1 hz2 rfl (by decide) _ 0 [] rfl A1.out ⟨b, off, none⟩ l.length l.length ((l.take l.length).map (.int .i64)) rfl (by rw [List.length_map, LK.out, Nat.mul_one]) (NW.out _ BB1.out) (fun u hu => by obtain ⟨z, _, rfl⟩ := List.mem_map.1 hu; rfl) hk0 (by unfold maxLen; omega) (by omega) BB1.out.size _ rfl ?_; intro g1 cap1 w1 hown1 hgrow1 hat1 hlt1; (have own1 : Hid (w1.ownsRow w.heap.size 3 1 (.slice (some ⟨g1, 0, none⟩) l.length cap1) l.length ((l.take l.length).map (.int .i64))) := Lib.hid (by simpa using hown1)); (have bw1 : Hid (Below w.heap.size w w1) := Lib.hid (BB1.out.grown hgrow1 BB1.out.size (fun q hq => (A1.out.lt q hq).1))); clear hown1 hgrow1 hat1 hlt1)
            | (refine step_append_lies _ rfl _ _ 22 rfl w.heap.size 3 i0 (.int .i64 0) 1 8 Try.underlying22 hi hz0 hz1 hz2 rfl (by decide) _ 0 [] rfl A1b.out ⟨b, off, none⟩ l.length l.length ((l.take l.length).map (.int .i64)) rfl (by rw [List.length_map, LK.out, Nat.mul_one]) (NW.out _ BB1b.out) (fun u hu => by obtain ⟨z, _, rfl⟩ := List.mem_map.1 hu; rfl) hk0 (by unfold maxLen; omega) (by omega) BB1b.out.size _ rfl ?_; intro g1 cap1 w1 hown1 hgrow1 hat1 hlt1; (have own1 : Hid (w1.ownsRow w.heap.size 3 1 (.slice (some ⟨g1, 0, none⟩) l.length cap1) l.length ((l.take l.length).map (.int .i64))) := Lib.hid (by simpa using hown1)); (have bw1 : Hid (Below w.heap.size w w1) := Lib.hid (BB1b.out.grown hgrow1 BB1b.out.size (fun q hq => (A1b.out.lt q hq).1))); (have nc1 := Lib.hid (news_kept (n := n) (nb := w.heap.size + 1) hgrow1 (fun q hq => by (have h : Value.ownBlock (.slice (some ⟨w.heap.size, 0, none⟩) 0 0) = some q := hq); simp [Value.ownBlock] at h; omega) N1b.out)); clear hown1 hgrow1 hat1 hlt1)
            | (refine step_append_lies _ rfl _ _ 22 rfl w.heap.size 3 i0 (.int .i64 0) 1 8 Try.underlying22 hi hz0 hz1 hz2 rfl (by decide) _ 0 [] rfl A1c.out ⟨b, off, none⟩ l.length l.length ((l.take l.length).map (.int .i64)) rfl (by rw [List.length_map, LK.out, Nat.mul_one]) (NW.out _ BB1c.out) (fun u hu => by obtain ⟨z, _, rfl⟩ := List.mem_map.1 hu; rfl) hk0 (by unfold maxLen; omega) (by omega) BB1c.out.size _ rfl ?_; intro g1 cap1 w1 hown1 hgrow1 hat1 hlt1; (have own1 : Hid (w1.ownsRow w.heap.size 3 1 (.slice (some ⟨g1, 0, none⟩) l.length cap1) l.length ((l.take l.length).map (.int .i64))) := Lib.hid (by simpa using hown1)); (have bw1 : Hid (Below w.heap.size w w1) := Lib.hid (BB1c.out.grown hgrow1 BB1c.out.size (fun q hq => (A1c.out.lt q hq).1))); (have nc1 := Lib.hid (news_kept (n := n) (nb := w.heap.size) hgrow1 (fun q hq => by (have h : Value.ownBlock (.slice (some ⟨w.heap.size + 1, 0, none⟩) 0 0) = some q := hq); simp [Value.ownBlock] at h; omega) N1c.out)); clear hown1 hgrow1 hat1 hlt1)
            | (refine step_append_lies _ rfl _ _ 22 rfl w.heap.size 3 i0 (.int .i64 0) 1 8 Try.underlying22 hi hz0 hz1 hz2 rfl (by decide) _ l.length ((l.take l.length).map (.int .i64)) rfl (own1.out.alloc _) ⟨w1.heap.size, 0, none⟩ 1 1 [.int .i64 n] rfl rfl (cell_one_new _ _ _) (fun u hu => by simp at hu; subst hu; rfl) (by omega) (by unfold maxLen; omega) (by omega) (by simp; have := bw1.out.size; omega) _ rfl ?_; intro g2 cap2 w2 hown2 hgrow2 hat2 hlt2; (have own2 : Hid (w2.ownsRow w.heap.size 3 1 (.slice (some ⟨g2, 0, none⟩) (l.length + 1) cap2) (l.length + 1) ((l.take l.length).map (Value.int .i64) ++ [Value.int .i64 n])) := Lib.hid hown2); (have bw2 : Hid (Below w.heap.size w w2) := Lib.hid ((bw1.out.alloc bw1.out.size _).grown hgrow2 (by simp; have := bw1.out.size; omega) (fun q hq => (own1.out.lt q hq).1))); (have hcap2 := row_cap own2.out); clear hown2 hgrow2 hat2 hlt2)
            | (refine step_append_lies _ rfl _ _ 22 rfl w.heap.size 3 i0 (.int .i64 0) 1 8 Try.underlying22 hi hz0 hz1 hz2 rfl (by decide) _ l.length ((l.take l.length).map (.int .i64)) rfl own1.out ⟨w.heap.size + 1, 0, none⟩ 1 1 [.int .i64 n] rfl rfl nc1.out (fun u hu => by simp at hu; subst hu; rfl) (by omega) (by unfold maxLen; omega) (by omega) bw1.out.size _ rfl ?_; intro g2 cap2 w2 hown2 hgrow2 hat2 hlt2; (have own2 : Hid (w2.ownsRow w.heap.size 3 1 (.slice (some ⟨g2, 0, none⟩) (l.length + 1) cap2) (l.length + 1) ((l.take l.length).map (Value.int .i64) ++ [Value.int .i64 n])) := Lib.hid hown2); (have bw2 : Hid (Below w.heap.size w w2) := Lib.hid (bw1.out.grown hgrow2 bw1.out.size (fun q hq => (own1.out.lt q hq).1))); (have hcap2 := row_cap own2.out); clear hown2 hgrow2 hat2 hlt2)
            | (refine step_append_lies _ rfl _ _ 22 rfl w.heap.size 3 i0 (.int .i64 0) 1 8 Try.underlying22 hi hz0 hz1 hz2 rfl (by decide) _ l.length ((l.take l.length).map (.int .i64)) rfl own1.out ⟨w.heap.size, 0, none⟩ 1 1 [.int .i64 n] rfl rfl nc1.out (fun u hu => by simp at hu; subst hu; rfl) (by omega) (by unfold maxLen; omega) (by omega) bw1.out.size _ rfl ?_; intro g2 cap2 w2 hown2 hgrow2 hat2 hlt2; (have own2 : Hid (w2.ownsRow w.heap.size 3 1 (.slice (some ⟨g2, 0, none⟩) (l.length + 1) cap2) (l.length + 1) ((l.take l.length).map (Value.int .i64) ++ [Value.int .i64 n])) := Lib.hid hown2); (have bw2 : Hid (Below w.heap.size w w2) := Lib.hid (bw1.out.grown hgrow2 bw1.out.size (fun q hq => (own1.out.lt q hq).1))); (have hcap2 := row_cap own2.out); clear hown2 hgrow2 hat2 hlt2))
          all_goals
            go_wp2_with fail
            go_ret
            exact own_put bw2.out R.out (by omega) HI.out (by first | omega | (simp; omega)) (by simp) own2.out
        · go_wp2
          go_region_law (first
            | (refine step_append_lies _ rfl _ _ 22 rfl w.heap.size 3 i0 (.int .i64 0) 1 8 Try.underlying22 hi hz0 hz1 hz2 rfl (by decide) _ 0 [] rfl A1.out ⟨b, off, none⟩ l.length cq ((l.take l.length).map (.int .i64)) rfl (by rw [List.length_map, LK.out, Nat.mul_one]) (NW.out _ BB1.out) (fun u hu => by obtain ⟨z, _, rfl⟩ := List.mem_map.1 hu; rfl) hk0 (by unfold maxLen; omega) (by omega) BB1.out.size _ rfl ?_; intro g1 cap1 w1 hown1 hgrow1 hat1 hlt1; (have own1 : Hid (w1.ownsRow w.heap.size 3 1 (.slice (some ⟨g1, 0, none⟩) l.length cap1) l.length ((l.take l.length).map (.int .i64))) := Lib.hid (by simpa using hown1)); (have bw1 : Hid (Below w.heap.size w w1) := Lib.hid (BB1.out.grown hgrow1 BB1.out.size (fun q hq => (A1.out.lt q hq).1))); clear hown1 hgrow1 hat1 hlt1)
            | (refine step_append_lies _ rfl _ _ 22 rfl w.heap.size 3 i0 (.int .i64 0) 1 8 Try.underlying22 hi hz0 hz1 hz2 rfl (by decide) _ 0 [] rfl A1b.out ⟨b, off, none⟩ l.length cq ((l.take l.length).map (.int .i64)) rfl (by rw [List.length_map, LK.out, Nat.mul_one]) (NW.out _ BB1b.out) (fun u hu => by obtain ⟨z, _, rfl⟩ := List.mem_map.1 hu; rfl) hk0 (by unfold maxLen; omega) (by omega) BB1b.out.size _ rfl ?_; intro g1 cap1 w1 hown1 hgrow1 hat1 hlt1; (have own1 : Hid (w1.ownsRow w.heap.size 3 1 (.slice (some ⟨g1, 0, none⟩) l.length cap1) l.length ((l.take l.length).map (.int .i64))) := Lib.hid (by simpa using hown1)); (have bw1 : Hid (Below w.heap.size w w1) := Lib.hid (BB1b.out.grown hgrow1 BB1b.out.size (fun q hq => (A1b.out.lt q hq).1))); (have nc1 := Lib.hid (news_kept (n := n) (nb := w.heap.size + 1) hgrow1 (fun q hq => by (have h : Value.ownBlock (.slice (some ⟨w.heap.size, 0, none⟩) 0 0) = some q := hq); simp [Value.ownBlock] at h; omega) N1b.out)); clear hown1 hgrow1 hat1 hlt1)
            | (refine step_append_lies _ rfl _ _ 22 rfl w.heap.size 3 i0 (.int .i64 0) 1 8 Try.underlying22 hi hz0 hz1 hz2 rfl (by decide) _ 0 [] rfl A1c.out ⟨b, off, none⟩ l.length cq ((l.take l.length).map (.int .i64)) rfl (by rw [List.length_map, LK.out, Nat.mul_one]) (NW.out _ BB1c.out) (fun u hu => by obtain ⟨z, _, rfl⟩ := List.mem_map.1 hu; rfl) hk0 (by unfold maxLen; omega) (by omega) BB1c.out.size _ rfl ?_; intro g1 cap1 w1 hown1 hgrow1 hat1 hlt1; (have own1 : Hid (w1.ownsRow w.heap.size 3 1 (.slice (some ⟨g1, 0, none⟩) l.length cap1) l.length ((l.take l.length).map (.int .i64))) := Lib.hid (by simpa using hown1)); (have bw1 : Hid (Below w.heap.size w w1) := Lib.hid (BB1c.out.grown hgrow1 BB1c.out.size (fun q hq => (A1c.out.lt q hq).1))); (have nc1 := Lib.hid (news_kept (n := n) (nb := w.heap.size) hgrow1 (fun q hq => by (have h : Value.ownBlock (.slice (some ⟨w.heap.size + 1, 0, none⟩) 0 0) = some q := hq); simp [Value.ownBlock] at h; omega) N1c.out)); clear hown1 hgrow1 hat1 hlt1)
            | (refine step_append_lies _ rfl _ _ 22 rfl w.heap.size 3 i0 (.int .i64 0) 1 8 Try.underlying22 hi hz0 hz1 hz2 rfl (by decide) _ l.length ((l.take l.length).map (.int .i64)) rfl (own1.out.alloc _) ⟨w1.heap.size, 0, none⟩ 1 1 [.int .i64 n] rfl rfl (cell_one_new _ _ _) (fun u hu => by simp at hu; subst hu; rfl) (by omega) (by unfold maxLen; omega) (by omega) (by simp; have := bw1.out.size; omega) _ rfl ?_; intro g2 cap2 w2 hown2 hgrow2 hat2 hlt2; (have own2 : Hid (w2.ownsRow w.heap.size 3 1 (.slice (some ⟨g2, 0, none⟩) (l.length + 1) cap2) (l.length + 1) ((l.take l.length).map (Value.int .i64) ++ [Value.int .i64 n])) := Lib.hid hown2); (have bw2 : Hid (Below w.heap.size w w2) := Lib.hid ((bw1.out.alloc bw1.out.size _).grown hgrow2 (by simp; have := bw1.out.size; omega) (fun q hq => (own1.out.lt q hq).1))); (have hcap2 := row_cap own2.out); clear hown2 hgrow2 hat2 hlt2)
            | (refine step_append_lies _ rfl _ _ 22 rfl w.heap.size 3 i0 (.int .i64 0) 1 8 Try.underlying22 hi hz0 hz1 hz2 rfl (by decide) _ l.length ((l.take l.length).map (.int .i64)) rfl own1.out ⟨w.heap.size + 1, 0, none⟩ 1 1 [.int .i64 n] rfl rfl nc1.out (fun u hu => by simp at hu; subst hu; rfl) (by omega) (by unfold maxLen; omega) (by omega) bw1.out.size _ rfl ?_; intro g2 cap2 w2 hown2 hgrow2 hat2 hlt2; (have own2 : Hid (w2.ownsRow w.heap.size 3 1 (.slice (some ⟨g2, 0, none⟩) (l.length + 1) cap2) (l.length + 1) ((l.take l.length).map (Value.int .i64) ++ [Value.int .i64 n])) := Lib.hid hown2); (have bw2 : Hid (Below w.heap.size w w2) := Lib.hid (bw1.out.grown hgrow2 bw1.out.size (fun q hq => (own1.out.lt q hq).1))); (have hcap2 := row_cap own2.out); clear hown2 hgrow2 hat2 hlt2)
            | (refine step_append_lies _ rfl _ _ 22 rfl w.heap.size 3 i0 (.int .i64 0) 1 8 Try.underlying22 hi hz0 hz1 hz2 rfl (by decide) _ l.length ((l.take l.length).map (.int .i64)) rfl own1.out ⟨w.heap.size, 0, none⟩ 1 1 [.int .i64 n] rfl rfl nc1.out (fun u hu => by simp at hu; subst hu; rfl) (by omega) (by unfold maxLen; omega) (by omega) bw1.out.size _ rfl ?_; intro g2 cap2 w2 hown2 hgrow2 hat2 hlt2; (have own2 : Hid (w2.ownsRow w.heap.size 3 1 (.slice (some ⟨g2, 0, none⟩) (l.length + 1) cap2) (l.length + 1) ((l.take l.length).map (Value.int .i64) ++ [Value.int .i64 n])) := Lib.hid hown2); (have bw2 : Hid (Below w.heap.size w w2) := Lib.hid (bw1.out.grown hgrow2 bw1.out.size (fun q hq => (own1.out.lt q hq).1))); (have hcap2 := row_cap own2.out); clear hown2 hgrow2 hat2 hlt2))
          all_goals
            go_wp2_with fail
            go_ret
            exact own_put bw2.out R.out (by omega) HI.out (by first | omega | (simp; omega)) (by simp) own2.out
end Go.Proofs.Ytfpckfameebdnaa
