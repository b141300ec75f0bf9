/- Maps from structs to pairs of ints that a call makes: what they hold is right. -/
import Derived.Test.YtnpiciabpgkiiadRes
import Derived.Maps.Own
import Derived.Maps.OwnOps
import Derived.Maps.OwnSet
import Derived.Maps.Views
import Derived.Maps.Keyed
import Derived.DeepKeys4
namespace Go.Proofs.Ytnpiciabpgkiiad
open Go.RowKit Go.Maps
set_option linter.unusedVariables false
theorem wf64q {z : Int} (h : InI64 z) : (Lit.int .i64 z).wf = true := by
  unfold InI64 at h
  exact WalkArith.wf_i64 (by omega)
/-- How a pair reads. -/
def intQ (v : Value) : Option Int :=
  match v with
  | .int .i64 a => some a
  | _ => none
theorem intQ_inv {v : Value} {a : Int} (h : intQ v = some a) : v = .int .i64 a := by
  unfold intQ at h
  split at h
  · next a' => injection h with h; rw [h]
  · cases h
def RQ (v : Value) : Option (DataW Unit × List MemPlace) :=
  match v with
  | .agg cs => if cs.size = 2 then (intQ (cs.getD 0 undef)).bind fun a => (intQ (cs.getD 1 undef)).map fun b => (.agg [.lit (.int .i64 a), .lit (.int .i64 b)], []) else none
  | _ => none
theorem RQ_mk (a b : Int) : RQ (.agg #[.int .i64 a, .int .i64 b]) = some (.agg [.lit (.int .i64 a), .lit (.int .i64 b)], []) := rfl
theorem RQ_inv {v : Value} {d : DataW Unit} {ps : List MemPlace} (h : RQ v = some (d, ps)) : ∃ a b : Int, v = .agg #[.int .i64 a, .int .i64 b] ∧ d = .agg [.lit (.int .i64 a), .lit (.int .i64 b)] := by
  unfold RQ at h
  split at h
  · next cs =>
    split at h
    · next hs =>
      obtain ⟨x, y, rfl⟩ : ∃ x y, cs = #[x, y] := ⟨cs[0], cs[1], by
        apply Array.ext
        · simp [hs]
        · intro i h1 h2
          have : i = 0 ∨ i = 1 := by omega
          rcases this with rfl | rfl <;> rfl⟩
      rw [Option.bind_eq_some_iff] at h
      obtain ⟨a, ha, h⟩ := h
      rw [Option.map_eq_some_iff] at h
      obtain ⟨b, hb, h⟩ := h
      have ea := intQ_inv ha
      have eb := intQ_inv hb
      have ea' : x = .int .i64 a := ea
      have eb' : y = .int .i64 b := eb
      subst ea'; subst eb'
      injection h with h1 h2
      exact ⟨a, b, rfl, h1.symm⟩
    · cases h
  · cases h
def datQ (p : Int × Int) : DataW Unit := .agg [.lit (.int .i64 p.1), .lit (.int .i64 p.2)]
/-- The block b is a map with at most n entries, each of which is right. -/
def MapQ (k : TypeId) (w : World) (b n : Nat) (G : Value → Int × Int) : Prop :=
  ∃ D : DataW Unit, w.ownsMap Try.prog k RQ b n D ∧ ∀ v l, keyOf Try.prog k v = some l → Maps.has D l = true → D.atKey l (datQ (0, 0)) = datQ (G v)
theorem MapQ.made (k : TypeId) (w : World) (G : Value → Int × Int) : MapQ k (w.alloc (.map #[] 0)) w.heap.size 0 G :=
  ⟨.map [], World.ownsMap_made _ _ _ _, fun v l _ h => by cases h⟩
theorem MapQ.lt {k : TypeId} {w : World} {b n : Nat} {G : Value → Int × Int} (h : MapQ k w b n G) : b < w.heap.size := by obtain ⟨D, h, _⟩ := h; exact h.lt
theorem MapQ.mono {k : TypeId} {w : World} {b n m : Nat} {G : Value → Int × Int} (h : MapQ k w b n G) (hm : n ≤ m) : MapQ k w b m G := by obtain ⟨D, h, r⟩ := h; exact ⟨D, h.mono hm, r⟩
theorem MapQ.block {k : TypeId} {w w' : World} {b n : Nat} {G : Value → Int × Int} (h : MapQ k w b n G) (e : w'.heap[b]? = w.heap[b]?) : MapQ k w' b n G := by
  obtain ⟨D, ⟨es, clock, hb, F, hs, hD⟩, r⟩ := h
  exact ⟨D, ⟨es, clock, e.trans hb, F, hs, hD⟩, r⟩
theorem MapQ.below {k : TypeId} {w w' : World} {b n B : Nat} {G : Value → Int × Int} (h : MapQ k w b n G) (hb : Below B w w') (hB : b < B) : MapQ k w' b n G := h.block (hb.block b hB)
theorem MapQ.next {k : TypeId} {w w' : World} {b n : Nat} {G : Value → Int × Int} (h : MapQ k w b n G) (hb : Below w.heap.size w w') : MapQ k w' b n G := h.below hb h.lt
theorem MapQ.set {k : TypeId} {w : World} {b n g o : Nat} {G : Value → Int × Int} {v : Value} (h : MapQ k w b n G) (hg : b ≠ g) : MapQ k (w.setCell ⟨g, o, none⟩ v) b n G := h.block (heap_setCell_other w _ _ _ hg)
theorem zero_q (w : World) : (zeroValue 39).run Try.prog w = .ok (.agg #[.int .i64 0, .int .i64 0]) w := by kernel_rfl
section
variable {k t : TypeId} (K : Keyed Try.prog k) (ht : Try.prog.underlying t = some (.map k 39))
include K ht
theorem mapQ_get (w : World) {ops : Array Oper} {rest : List Oper} {o : Oper} {a : Act} {Q : Exit → Act → World → Prop} (hg : o.guard = none) (m x : Operand) (hop : o.op = Op.lookup t m x true) (b n : Nat) (G : Value → Int × Int) (hm : a.eval m = .map (some b)) (h : MapQ k w b n G)
    (key : Value) (l : Lit) (hx : a.eval x = key) (hkey : keyOf Try.prog k key = some l) (hK : ∀ (p q : Int) (ok : Bool), (ok = true → p = (G key).1 ∧ q = (G key).2) → wpList Try.prog ops Q rest (a.put o.dst (.tuple #[.agg #[.int .i64 p, .int .i64 q], .bool ok])) w) : wpList Try.prog ops Q (o :: rest) a w := by
  obtain ⟨D, hown, hat⟩ := h
  refine wpList_lookup_own_ok w hg m x t hop k 39 K ht RQ (zero_q w) (datQ (0, 0)) [] rfl b n D hm hown key l hx hkey ?_
  intro v ps hv
  obtain ⟨p, q, rfl, hd⟩ := RQ_inv hv
  refine hK p q _ (fun hok => ?_)
  have := hat key l hkey hok
  rw [hd] at this
  unfold datQ at this
  injection this with h1
  injection h1 with h2 h3
  injection h3 with h4 h5
  injection h2 with h2
  injection h2 with _ h2
  injection h4 with h4
  injection h4 with _ h4
  exact ⟨h2, h4⟩
theorem mapQ_put (w : World) {ops : Array Oper} {rest : List Oper} {o : Oper} {a : Act} {Q : Exit → Act → World → Prop} (hg : o.guard = none) (m x v : Operand) (hop : o.op = Op.mapUpdate t m x v) (b n : Nat) (G : Value → Int × Int) (hm : a.eval m = .map (some b)) (h : MapQ k w b n G) (hn : n < maxLen)
    (key : Value) (l : Lit) (hx : a.eval x = key) (hv : a.eval v = .agg #[.int .i64 (G key).1, .int .i64 (G key).2]) (hkey : keyOf Try.prog k key = some l) (hK : ∀ w', MapQ k w' b (n + 1) G → w.grownBy w' (some b) → wpList Try.prog ops Q rest (a.put o.dst undef) w') : wpList Try.prog ops Q (o :: rest) a w := by
  obtain ⟨D, hown, hat⟩ := h
  refine wpList_mapUpdate_own w hg m x v t hop k 39 K ht RQ b n D hm hown hn key _ l hx hv hkey (datQ (G key)) [] rfl ?_
  intro w' h' hg'
  refine hK w' ⟨_, h', fun u l' hu hh => ?_⟩ hg'
  by_cases e : l' = l
  · subst e
    obtain rfl := K.inj hu hkey
    rw [atKey_put_same hown.isMap (K.key hkey)]
  · rw [atKey_put_other e]
    rw [has_put_other e] at hh
    exact hat u l' hu hh
end
theorem laidQ : laidOutB Try.prog = true := by kernel_rfl
end Go.Proofs.Ytnpiciabpgkiiad
