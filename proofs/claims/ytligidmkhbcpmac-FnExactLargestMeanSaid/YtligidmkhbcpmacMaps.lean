/- Maps from ints to ints and to bools that a call makes, told by functions. -/
import Derived.Test.YtligidmkhbcpmacInts
import Derived.Maps.Own
import Derived.Maps.OwnOps
import Derived.Maps.OwnSet
import Derived.Maps.Views
namespace Go.Proofs.Ytligidmkhbcpmac
open Go.RowKit Go.Maps
set_option linter.unusedVariables false
theorem intKey : Keyed Try.prog 3 := int_keyed Try.underlying3
theorem wf64 {z : Int} (h : InI64 z) : (Lit.int .i64 z).wf = true := by
  unfold InI64 at h
  exact WalkArith.wf_i64 (by omega)
theorem zero_int (w : World) : (zeroValue 3).run Try.prog w = .ok (.int .i64 0) w := by kernel_rfl
theorem zero_bool (w : World) : (zeroValue 4).run Try.prog w = .ok (.bool false) w := by kernel_rfl
theorem isKey_int (z : Int) : WideAt.IsKeyLit (.int .i64 z) := by first | exact trivial | exact ⟨_, _, rfl⟩ | simp [WideAt.IsKeyLit]
/-- The block b is a map from ints to ints that has been told at most n times and holds f. -/
def MapI (w : World) (b n : Nat) (f : Int → Option Int) : Prop :=
  ∃ D : DataW Unit, w.ownsMap Try.prog 3 (plainElem Try.prog 3) b n D ∧ (∀ z, Maps.has D (.int .i64 z) = (f z).isSome) ∧ (∀ z, D.atKey (.int .i64 z) (.lit (.int .i64 0)) = .lit (.int .i64 ((f z).getD 0)))
/-- The same with bools. -/
def MapB (w : World) (b n : Nat) (f : Int → Bool) : Prop :=
  ∃ D : DataW Unit, w.ownsMap Try.prog 3 (plainElem Try.prog 4) b n D ∧ (∀ z, D.atKey (.int .i64 z) (.lit (.bool false)) = .lit (.bool (f z)))
theorem MapI.made (w : World) : MapI (w.alloc (.map #[] 0)) w.heap.size 0 (fun _ => none) :=
  ⟨.map [], World.ownsMap_made _ _ _ _, fun z => rfl, fun z => rfl⟩
theorem MapB.made (w : World) : MapB (w.alloc (.map #[] 0)) w.heap.size 0 (fun _ => false) :=
  ⟨.map [], World.ownsMap_made _ _ _ _, fun z => rfl⟩
theorem ownsMap_block {H : Type} {w w' : World} {P : Program} {k : TypeId} {R : Value → Option (DataW H × List MemPlace)} {b n : Nat} {D : DataW H} (h : w.ownsMap P k R b n D) (e : w'.heap[b]? = w.heap[b]?) : w'.ownsMap P k R b n D := by
  obtain ⟨es, clock, hb, F, hs, hD⟩ := h
  exact ⟨es, clock, e.trans hb, F, hs, hD⟩
theorem MapI.lt {w : World} {b n : Nat} {f : Int → Option Int} (h : MapI w b n f) : b < w.heap.size := by obtain ⟨D, h, _⟩ := h; exact h.lt
theorem MapB.lt {w : World} {b n : Nat} {f : Int → Bool} (h : MapB w b n f) : b < w.heap.size := by obtain ⟨D, h, _⟩ := h; exact h.lt
theorem MapI.block {w w' : World} {b n : Nat} {f : Int → Option Int} (h : MapI w b n f) (e : w'.heap[b]? = w.heap[b]?) : MapI w' b n f := by obtain ⟨D, h, r⟩ := h; exact ⟨D, ownsMap_block h e, r⟩
theorem MapB.block {w w' : World} {b n : Nat} {f : Int → Bool} (h : MapB w b n f) (e : w'.heap[b]? = w.heap[b]?) : MapB w' b n f := by obtain ⟨D, h, r⟩ := h; exact ⟨D, ownsMap_block h e, r⟩
theorem MapI.below {w w' : World} {b n B : Nat} {f : Int → Option Int} (h : MapI w b n f) (hb : Below B w w') (hB : b < B) : MapI w' b n f := h.block (hb.block b hB)
theorem MapB.below {w w' : World} {b n B : Nat} {f : Int → Bool} (h : MapB w b n f) (hb : Below B w w') (hB : b < B) : MapB w' b n f := h.block (hb.block b hB)
theorem MapI.next {w w' : World} {b n : Nat} {f : Int → Option Int} (h : MapI w b n f) (hb : Below w.heap.size w w') : MapI w' b n f := h.below hb h.lt
theorem MapB.next {w w' : World} {b n : Nat} {f : Int → Bool} (h : MapB w b n f) (hb : Below w.heap.size w w') : MapB w' b n f := h.below hb h.lt
theorem MapI.grown {w w' : World} {b n : Nat} {f : Int → Option Int} {r : Option Nat} (h : MapI w b n f) (hg : w.grownBy w' r) (hne : some b ≠ r) : MapI w' b n f := by obtain ⟨D, h, k⟩ := h; exact ⟨D, h.kept hg hne, k⟩
theorem MapB.grown {w w' : World} {b n : Nat} {f : Int → Bool} {r : Option Nat} (h : MapB w b n f) (hg : w.grownBy w' r) (hne : some b ≠ r) : MapB w' b n f := by obtain ⟨D, h, k⟩ := h; exact ⟨D, h.kept hg hne, k⟩
theorem MapI.set {w : World} {b n g o : Nat} {f : Int → Option Int} {v : Value} (h : MapI w b n f) (hg : b ≠ g) : MapI (w.setCell ⟨g, o, none⟩ v) b n f := h.block (heap_setCell_other w _ _ _ hg)
theorem MapB.set {w : World} {b n g o : Nat} {f : Int → Bool} {v : Value} (h : MapB w b n f) (hg : b ≠ g) : MapB (w.setCell ⟨g, o, none⟩ v) b n f := h.block (heap_setCell_other w _ _ _ hg)
/-- One more key. -/
def putF {α : Type} (f : Int → α) (z : Int) (x : α) : Int → α := fun y => if y = z then x else f y
section
variable (w : World) {ops : Array Oper} {rest : List Oper} {o : Oper} {a : Act} {Q : Exit → Act → World → Prop}
theorem mapI_get (hg : o.guard = none) (m x : Operand) (t : TypeId) (hop : o.op = Op.lookup t m x false) (ht : Try.prog.underlying t = some (.map 3 3)) (b n : Nat) (f : Int → Option Int) (hm : a.eval m = .map (some b)) (h : MapI w b n f)
    (z : Int) (hx : a.eval x = .int .i64 z) (hz : InI64 z) (hK : wpList Try.prog ops Q rest (a.put o.dst (.int .i64 ((f z).getD 0))) w) : wpList Try.prog ops Q (o :: rest) a w := by
  obtain ⟨D, hown, _, hat⟩ := h
  refine wpList_lookup_own_int _ hg m x t hop 3 3 .i64 intKey ht Try.underlying3 (zero_int _) b n D hm hown _ _ hx (keyOf_int_mk Try.underlying3 (wf64 hz)) ?_
  intro c hc _
  rw [hat z] at hc
  injection hc with hc
  injection hc with _ hc
  rw [← hc]; exact hK
theorem mapI_getok (hg : o.guard = none) (m x : Operand) (t : TypeId) (hop : o.op = Op.lookup t m x true) (ht : Try.prog.underlying t = some (.map 3 3)) (b n : Nat) (f : Int → Option Int) (hm : a.eval m = .map (some b)) (h : MapI w b n f)
    (z : Int) (hx : a.eval x = .int .i64 z) (hz : InI64 z) (hK : wpList Try.prog ops Q rest (a.put o.dst (.tuple #[.int .i64 ((f z).getD 0), .bool (f z).isSome])) w) : wpList Try.prog ops Q (o :: rest) a w := by
  obtain ⟨D, hown, hh, hat⟩ := h
  refine wpList_lookup_own_ok_int _ hg m x t hop 3 3 .i64 intKey ht Try.underlying3 (zero_int _) b n D hm hown _ _ hx (keyOf_int_mk Try.underlying3 (wf64 hz)) ?_
  intro c hc _
  rw [hat z] at hc
  injection hc with hc
  injection hc with _ hc
  rw [← hc, hh z]; exact hK
theorem mapB_get (hg : o.guard = none) (m x : Operand) (t : TypeId) (hop : o.op = Op.lookup t m x false) (ht : Try.prog.underlying t = some (.map 3 4)) (b n : Nat) (f : Int → Bool) (hm : a.eval m = .map (some b)) (h : MapB w b n f)
    (z : Int) (hx : a.eval x = .int .i64 z) (hz : InI64 z) (hK : wpList Try.prog ops Q rest (a.put o.dst (.bool (f z))) w) : wpList Try.prog ops Q (o :: rest) a w := by
  obtain ⟨D, hown, hat⟩ := h
  refine wpList_plain hg fun K' hK' => ?_
  obtain ⟨v, ps, hrun, hv⟩ := hown.lookup intKey ht (zero_bool _) (plainElem_bool Try.underlying4 false) (keyOf_int_mk Try.underlying3 (wf64 hz))
  rw [hat z] at hv
  have hvb : v = .bool (f z) := by
    unfold plainElem at hv
    cases v <;> simp_all
  subst hvb
  unfold Oper.wp
  simp [execOp, hop, hm, hx, hrun, Result.andThen]
  exact hK' _ _ hK
theorem wpList_wanted (hw : Region.wanted o (yielded ops a.tmps) = true) (h : ∀ K : Act → World → Prop, (∀ a w, wpList Try.prog ops Q rest a w → K a w) → o.wp Try.prog a w K Q) : wpList Try.prog ops Q (o :: rest) a w :=
  wpList_step fun K hK => by rw [if_pos hw]; exact h K hK
theorem mapB_getW (hw : Region.wanted o (yielded ops a.tmps) = true) (m x : Operand) (t : TypeId) (hop : o.op = Op.lookup t m x false) (ht : Try.prog.underlying t = some (.map 3 4)) (b n : Nat) (f : Int → Bool) (hm : a.eval m = .map (some b)) (h : MapB w b n f)
    (z : Int) (hx : a.eval x = .int .i64 z) (hz : InI64 z) (hK : wpList Try.prog ops Q rest (a.put o.dst (.bool (f z))) w) : wpList Try.prog ops Q (o :: rest) a w := by
  obtain ⟨D, hown, hat⟩ := h
  refine wpList_wanted w hw fun K' hK' => ?_
  obtain ⟨v, ps, hrun, hv⟩ := hown.lookup intKey ht (zero_bool _) (plainElem_bool Try.underlying4 false) (keyOf_int_mk Try.underlying3 (wf64 hz))
  rw [hat z] at hv
  have hvb : v = .bool (f z) := by
    unfold plainElem at hv
    cases v <;> simp_all
  subst hvb
  unfold Oper.wp
  simp [execOp, hop, hm, hx, hrun, Result.andThen]
  exact hK' _ _ hK
theorem mapI_put (hg : o.guard = none) (m x v : Operand) (t : TypeId) (hop : o.op = Op.mapUpdate t m x v) (ht : Try.prog.underlying t = some (.map 3 3)) (b n : Nat) (f : Int → Option Int) (hm : a.eval m = .map (some b)) (h : MapI w b n f) (hn : n < maxLen)
    (z y : Int) (hx : a.eval x = .int .i64 z) (hv : a.eval v = .int .i64 y) (hz : InI64 z) (hy : InI64 y) (hK : ∀ w', MapI w' b (n + 1) (putF f z (some y)) → w.grownBy w' (some b) → wpList Try.prog ops Q rest (a.put o.dst undef) w') : wpList Try.prog ops Q (o :: rest) a w := by
  obtain ⟨D, hown, hh, hat⟩ := h
  refine wpList_mapUpdate_own _ hg m x v t hop 3 3 intKey ht _ b n D hm hown hn _ _ _ hx hv (keyOf_int_mk Try.underlying3 (wf64 hz)) _ [] (plainElem_int Try.underlying3 (wf64 hy)) ?_
  intro w' h' hg'
  refine hK w' ⟨_, h', fun u => ?_, fun u => ?_⟩ hg'
  · unfold putF
    by_cases e : u = z
    · subst e; rw [if_pos rfl, has_put_same hown.isMap (isKey_int _)]; rfl
    · rw [if_neg e, has_put_other (by intro h; injection h with _ h; exact e h)]; exact hh u
  · unfold putF
    by_cases e : u = z
    · subst e; rw [if_pos rfl, atKey_put_same hown.isMap (isKey_int _)]; rfl
    · rw [if_neg e, atKey_put_other (by intro h; injection h with _ h; exact e h)]; exact hat u
theorem mapB_put (hg : o.guard = none) (m x v : Operand) (t : TypeId) (hop : o.op = Op.mapUpdate t m x v) (ht : Try.prog.underlying t = some (.map 3 4)) (b n : Nat) (f : Int → Bool) (hm : a.eval m = .map (some b)) (h : MapB w b n f) (hn : n < maxLen)
    (z : Int) (y : Bool) (hx : a.eval x = .int .i64 z) (hv : a.eval v = .bool y) (hz : InI64 z) (hK : ∀ w', MapB w' b (n + 1) (putF f z y) → w.grownBy w' (some b) → wpList Try.prog ops Q rest (a.put o.dst undef) w') : wpList Try.prog ops Q (o :: rest) a w := by
  obtain ⟨D, hown, hat⟩ := h
  refine wpList_mapUpdate_own _ hg m x v t hop 3 4 intKey ht _ b n D hm hown hn _ _ _ hx hv (keyOf_int_mk Try.underlying3 (wf64 hz)) _ [] (plainElem_bool Try.underlying4 y) ?_
  intro w' h' hg'
  refine hK w' ⟨_, h', fun u => ?_⟩ hg'
  unfold putF
  by_cases e : u = z
  · subst e; rw [if_pos rfl, atKey_put_same hown.isMap (isKey_int _)]
  · rw [if_neg e, atKey_put_other (by intro h; injection h with _ h; exact e h)]; exact hat u
end
end Go.Proofs.Ytligidmkhbcpmac
