/- Slices of ints in a world: what they hold, that it stays where nothing is turned, and what the laws' helpers do with them. -/
import Derived.Test.YtligidmkhbcpmacChecked
import Derived.WalkKit
import Derived.ProofKit
import Derived.Outline
import Derived.Below
import Derived.Lib.Hide
import Derived.OwnWalk
import Derived.Laws.AppendOwn
import Derived.Laws.OwnMore
import Derived.WalkSmall
import Derived.WalkSpells
import Derived.OpenShut
import Derived.Deep.QuietTactic
import Derived.BigQuiet
namespace Go.Proofs.Ytligidmkhbcpmac
open Go.RowKit
set_option linter.unusedVariables false
def InI64 (z : Int) : Prop := -9223372036854775808 ≤ z ∧ z ≤ 9223372036854775807
theorem cell_room' {w : World} {a : Addr} {v : Value} (h : w.cell? a = some v) : a.block < w.heap.size := by
  unfold World.cell? at h
  cases hh : w.heap[a.block]? with
  | none => rw [hh] at h; simp at h
  | some o => exact (Array.getElem?_eq_some_iff.1 hh).1
/-- In the world w the slice that begins at p (nil, or somewhere below block B) holds these ints. -/
def IntsAt (w : World) (B : Nat) (p : Option Addr) (zs : List Int) : Prop :=
  ∀ (i : Nat) (h : i < zs.length), ∃ b off, p = some ⟨b, off, none⟩ ∧ b < B ∧ w.cell? ⟨b, off + i, none⟩ = some (.int .i64 zs[i])
theorem IntsAt.at_ {w : World} {B : Nat} {p : Option Addr} {zs : List Int} (h : IntsAt w B p zs) {i : Nat} (hi : i < zs.length) :
    ∃ b off, p = some ⟨b, off, none⟩ ∧ b < B ∧ w.cell? ⟨b, off + i, none⟩ = some (.int .i64 zs[i]) := h i hi
/-- A value that is a slice of these ints. -/
def IntsV (w : World) (B : Nat) (v : Value) (zs : List Int) : Prop := ∃ p cap, v = .slice p zs.length cap ∧ zs.length ≤ cap ∧ zs.length ≤ maxLen ∧ (∀ z ∈ zs, InI64 z) ∧ IntsAt w B p zs
/-- Only blocks from lo to hi have been written, others made. -/
structure Alt (lo hi : Nat) (w w' : World) : Prop where
  os : w'.os = w.os
  tape : w'.tape = w.tape
  output : w'.output = w.output
  size : w.heap.size ≤ w'.heap.size
  block : ∀ i, i < w.heap.size → (i < lo ∨ hi ≤ i) → w'.heap[i]? = w.heap[i]?
theorem Alt.of_grown {w w' : World} {lo hi : Nat} {r : Option Nat} (h : w.grownBy w' r) (hr : ∀ q, r = some q → lo ≤ q ∧ q < hi) : Alt lo hi w w' :=
  ⟨h.os, h.tape, h.output, h.size, fun i hi ho => h.block i hi (fun e => by have := hr i e.symm; omega)⟩
theorem Alt.below {w w' : World} {lo hi : Nat} (h : Alt lo hi w w') (hl : lo ≤ w.heap.size) : Below lo w w' :=
  ⟨h.os, h.tape, h.output, h.size, fun i hi => h.block i (by omega) (.inl hi)⟩
theorem Alt.trans {a b c : World} {lo hi : Nat} (h : Alt lo hi a b) (k : Alt lo hi b c) : Alt lo hi a c :=
  ⟨k.os.trans h.os, k.tape.trans h.tape, k.output.trans h.output, Nat.le_trans h.size k.size, fun i hi ho => (k.block i (Nat.lt_of_lt_of_le hi h.size) ho).trans (h.block i hi ho)⟩
theorem Alt.wide {w w' : World} {lo hi lo' hi' : Nat} (h : Alt lo hi w w') (h1 : lo' ≤ lo) (h2 : hi ≤ hi') : Alt lo' hi' w w' :=
  ⟨h.os, h.tape, h.output, h.size, fun i hi ho => h.block i hi (by omega)⟩
theorem IntsAt.below {w w' : World} {B : Nat} {p : Option Addr} {zs : List Int} (h : IntsAt w B p zs) (hb : Below B w w') : IntsAt w' B p zs := by
  intro i hi
  obtain ⟨b, off, e, hB, hc⟩ := h i hi
  exact ⟨b, off, e, hB, by rw [hb.cell (p := ⟨b, off + i, none⟩) hB]; exact hc⟩
theorem IntsAt.more {w : World} {B B' : Nat} {p : Option Addr} {zs : List Int} (h : IntsAt w B p zs) (hB : B ≤ B') : IntsAt w B' p zs := by
  intro i hi
  obtain ⟨b, off, e, hb, hc⟩ := h i hi
  exact ⟨b, off, e, by omega, hc⟩
theorem IntsV.below {w w' : World} {B : Nat} {v : Value} {zs : List Int} (h : IntsV w B v zs) (hb : Below B w w') : IntsV w' B v zs := by
  obtain ⟨p, cap, e, hc, hm, hz, h⟩ := h; exact ⟨p, cap, e, hc, hm, hz, h.below hb⟩
theorem IntsV.more {w : World} {B B' : Nat} {v : Value} {zs : List Int} (h : IntsV w B v zs) (hB : B ≤ B') : IntsV w B' v zs := by
  obtain ⟨p, cap, e, hc, hm, hz, h⟩ := h; exact ⟨p, cap, e, hc, hm, hz, h.more hB⟩
theorem IntsV.drewN {w : World} {B : Nat} {v : Value} {zs : List Int} (h : IntsV w B v zs) (n : Nat) : IntsV (w.drewN n) B v zs := h
theorem IntsV.alt {w w' : World} {B lo hi : Nat} {v : Value} {zs : List Int} (h : IntsV w B v zs) (ha : Alt lo hi w w') (hB : B ≤ lo) (hl : lo ≤ w.heap.size) : IntsV w' B v zs := h.below ((ha.below hl).mono hB)
/-- A row of ints of a call's own, its block from lo to hi. -/
structure OwnV (w : World) (lo hi : Nat) (v : Value) (zs : List Int) : Prop where
  row : w.ownsRow lo 3 1 v zs.length (zs.map (.int .i64))
  lt : ∀ q, v.ownBlock = some q → q < hi
  room : hi ≤ w.heap.size
  in64 : ∀ z ∈ zs, InI64 z
theorem OwnV.intsV {w : World} {lo hi : Nat} {v : Value} {zs : List Int} (h : OwnV w lo hi v zs) : IntsV w hi v zs := by
  rcases h.row.2 with ⟨h1, h2⟩ | ⟨g, cap, cur, h1, hb, hg, hc, hm, _⟩
  · have : zs = [] := List.eq_nil_of_length_eq_zero h2
    subst this
    exact ⟨none, 0, h1, by simp, by simp, (by intro z hz; cases hz), fun i hi => by simp at hi⟩
  · subst h1
    refine ⟨_, cap, rfl, hc, by omega, h.in64, fun i hi => ⟨g, 0, rfl, h.lt g (by simp [Value.ownBlock]), ?_⟩⟩
    have := h.row.cellAt i (by omega)
    rw [Nat.zero_add, this, List.getElem?_map, List.getElem?_eq_getElem hi]; rfl
theorem OwnV.below {w w' : World} {lo hi : Nat} {v : Value} {zs : List Int} (h : OwnV w lo hi v zs) (hb : Below hi w w') : OwnV w' lo hi v zs := by
  refine ⟨?_, h.lt, Nat.le_trans h.room hb.size, h.in64⟩
  refine ⟨h.row.1, ?_⟩
  rcases h.row.2 with hn | ⟨g, cap, cur, h1, hb', hg, rest⟩
  · exact .inl hn
  · refine .inr ⟨g, cap, cur, h1, hb', ?_, rest⟩
    rw [hb.block g (h.lt g (by rw [h1]; simp [Value.ownBlock]))]; exact hg
theorem OwnV.alt {w w' : World} {lo hi lo' hi' : Nat} {v : Value} {zs : List Int} (h : OwnV w lo hi v zs) (ha : Alt lo' hi' w w') (hd : hi ≤ lo' ∨ hi' ≤ lo) : OwnV w' lo hi v zs := by
  refine ⟨?_, h.lt, Nat.le_trans h.room ha.size, h.in64⟩
  refine ⟨h.row.1, ?_⟩
  rcases h.row.2 with hn | ⟨g, cap, cur, h1, hb', hg, rest⟩
  · exact .inl hn
  · refine .inr ⟨g, cap, cur, h1, hb', ?_, rest⟩
    have hl := h.lt g (by rw [h1]; simp [Value.ownBlock])
    rw [ha.block g (by have := h.room; omega) (by omega)]; exact hg
theorem OwnV.wide {w : World} {lo hi hi' : Nat} {v : Value} {zs : List Int} (h : OwnV w lo hi v zs) (h2 : hi ≤ hi') (hr : hi' ≤ w.heap.size) : OwnV w lo hi' v zs :=
  ⟨h.row, fun q hq => by have := h.lt q hq; omega, hr, h.in64⟩
theorem OwnV.low {w : World} {lo lo' hi : Nat} {v : Value} {zs : List Int} (h : OwnV w lo hi v zs) (h1 : lo' ≤ lo) : OwnV w lo' hi v zs := by
  refine ⟨⟨h.row.1, ?_⟩, h.lt, h.room, h.in64⟩
  rcases h.row.2 with hn | ⟨g, cap, cur, h2, hb', rest⟩
  · exact .inl hn
  · exact .inr ⟨g, cap, cur, h2, by omega, rest⟩
/-- A slice of ints that came in, as the row's reading opens it. -/
theorem IntsAt.opened {W : World} {a : Addr} {len cap : Nat} {zs : List Int} (hl : len ≤ cap) (hz : zs.length = cap) (hc : ∀ i, i < zs.length → W.cell? (a.add i) = some (.int .i64 (zs.getD i 0))) :
    IntsAt W W.heap.size (some a) (zs.take len) := by
  intro i hi
  have hi2 : i < len := by rw [List.length_take] at hi; omega
  have h := hc i (by omega)
  have h0 := hc 0 (by omega)
  obtain ⟨b, off, spot⟩ := a
  have hspot : spot = none := by simpa [Addr.add] using World.cell?_spot h0
  subst hspot
  have e : (⟨b, off, none⟩ : Addr).add i = ⟨b, off + i, none⟩ := by
    unfold Addr.add
    by_cases h0 : i = 0
    · subst h0; simp
    · simp [h0]
  rw [e] at h
  refine ⟨b, off, rfl, cell_room' h, ?_⟩
  rw [h, List.getElem_take, List.getD_eq_getElem?_getD, List.getElem?_eq_getElem (by omega)]; rfl
theorem intInfo : (Try.prog.info? 3).map (fun i => (i.zero, i.size, i.bytes)) = some (some (.int .i64 0), 1, 8) := by kernel_rfl
/-- How long a slice is. -/
theorem IntsV.len {w : World} {B : Nat} {v : Value} {zs : List Int} (h : IntsV w B v zs) : zs.length ≤ 9223372036854775807 := by
  obtain ⟨p, cap, e, hc, hm, _⟩ := h
  unfold maxLen at hm; omega
set_option maxHeartbeats 400000 in
theorem szI (zs : List Int) (v : Value) (B : Nat) (left : Int) (w : World) (hl : -1 ≤ left) (hl2 : left ≤ 1048576) (h : IntsV w B v zs) :
    Calls Try.prog 83 #[v, .int .i64 left] w fun e w' => e = .returned (.int .i64 (if left < zs.length then -1 else left - zs.length)) ∧ w = w' := by
  have hn := h.len
  obtain ⟨p, cap, rfl, hc, hm, hz, hi⟩ := h
  clear hi hz
  by_cases hlt : left < zs.length
  · rw [if_pos hlt]
    have : left - (zs.length : Int) < 0 := by omega
    go_enter Try.func83, Try.ntmps83
    go_wp2
    go_ret
    exact ⟨rfl, rfl⟩
  · rw [if_neg hlt]
    have : ¬ left - (zs.length : Int) < 0 := by omega
    go_enter Try.func83, Try.ntmps83
    go_wp2
    go_ret
    exact ⟨rfl, rfl⟩
end Go.Proofs.Ytligidmkhbcpmac
