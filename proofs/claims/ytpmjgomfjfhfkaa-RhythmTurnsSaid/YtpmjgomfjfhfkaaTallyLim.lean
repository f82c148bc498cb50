/- Limits that come into a law. Of no program. -/
import Derived.Test.YtpmjgomfjfhfkaaTallyMath
import Derived.Test.YtpmjgomfjfhfkaaFlat
import Derived.Handy
set_option linter.unusedSimpArgs false
set_option linter.unusedVariables false
namespace Go.Proofs.Ytpmjgomfjfhfkaa.Tally
open Go.RowKit
/-- Limits as they come in. -/
def limS : Row.Shape Lim := ⟨9, fun l => (limC l).toList, fun _ => rfl, by decide, fun p u hu => by
  simp [limC] at hu
  rcases hu with rfl | rfl | rfl | rfl | rfl | rfl | rfl | rfl | rfl <;> rfl⟩
def LimOk (l : Lim) : Prop := (Lit.int .i64 l.tach).wf = true
theorem lim_dec : ∀ vs : List Value, Row.Oks [.int .i64, .int .i64, .int .i64, .int .i64, .int .i64, .int .i64, .int .i64, .int .i64, .int .i64] vs → ∃ z : Lim, limS.enc z = vs ∧ LimOk z := fun vs h => by
  obtain ⟨h1, h2⟩ := h
  obtain ⟨v0, e0, n0, rfl, _⟩ := h2 0 _ rfl
  obtain ⟨v1, e1, n1, rfl, _⟩ := h2 1 _ rfl
  obtain ⟨v2, e2, n2, rfl, q2⟩ := h2 2 _ rfl
  obtain ⟨v3, e3, n3, rfl, _⟩ := h2 3 _ rfl
  obtain ⟨v4, e4, n4, rfl, _⟩ := h2 4 _ rfl
  obtain ⟨v5, e5, n5, rfl, _⟩ := h2 5 _ rfl
  obtain ⟨v6, e6, n6, rfl, _⟩ := h2 6 _ rfl
  obtain ⟨v7, e7, n7, rfl, _⟩ := h2 7 _ rfl
  obtain ⟨v8, e8, n8, rfl, _⟩ := h2 8 _ rfl
  match vs, h1 with
  | [a, b, c, d, e, f, g, h, i], _ =>
    simp at e0 e1 e2 e3 e4 e5 e6 e7 e8
    subst e0 e1 e2 e3 e4 e5 e6 e7 e8
    exact ⟨⟨n0, n1, n2, n3, n4, n5, n6, n7, n8⟩, rfl, q2⟩
end Go.Proofs.Ytpmjgomfjfhfkaa.Tally
