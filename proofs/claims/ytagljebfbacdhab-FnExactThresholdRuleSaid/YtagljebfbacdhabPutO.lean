/- A number put to its place, in a row of one's own. -/
import Derived.Test.YtagljebfbacdhabPutS
namespace Go.Proofs.Ytagljebfbacdhab
open Go.RowKit
set_option linter.unusedVariables false
theorem putO (l : List Int) (n : Int) (b cq lo : Nat) (w : World) (hl : l.length ≤ 1000) (hn : InI64 n) (hlo : lo ≤ w.heap.size) (ho : OwnV w lo w.heap.size (.slice (some ⟨b, 0, none⟩) l.length cq) l) :
    Calls Try.prog 185 #[.slice (some ⟨b, 0, none⟩) l.length cq, .int .i64 n] w (fun e w' => ∃ g c, e = .returned (.slice (some ⟨g, 0, none⟩) (putL l n).length c) ∧ OwnV w' lo w'.heap.size (.slice (some ⟨g, 0, none⟩) (putL l n).length c) (putL l n) ∧ Below w.heap.size w w') := by
  refine (putS l n b 0 cq w hl hn ho.intsV).mono ?_
  rintro e w' ⟨b11, ⟨rfl, hsame⟩ | ⟨g, c, rfl, o⟩⟩
  · exact ⟨b, cq, by rw [hsame], by rw [hsame]; exact (ho.below b11).wide b11.size (Nat.le_refl _), b11⟩
  · exact ⟨g, c, rfl, o.low hlo, b11⟩
end Go.Proofs.Ytagljebfbacdhab
