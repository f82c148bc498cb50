/- The first so many numbers of a row that came in. -/
import Derived.Test.YtpmjgomfjfhfkaaLawKit
set_option linter.unusedVariables false
namespace Go.Proofs.Ytpmjgomfjfhfkaa
open Go.RowKit
/-- The first so many numbers of a row that came in. -/
theorem row_first {k : IntKind} {lo hi : Int} (hb : ∀ {n : Int}, (Lit.int k n).wf = true → lo ≤ n ∧ n ≤ hi) {w : World} {a : Option Addr} {len cap : Nat} {zs : List Int} (h : IsRow k w a len cap zs) (p : Nat) (hp : p ≤ len) :
    len ≤ cap ∧ cap ≤ 9223372036854775807 ∧ (zs.take p).length = p ∧ (0 < p → ∃ x, a = some x ∧ ∀ i, i < p → w.cell? (x.add i) = some (.int k ((zs.take p).getD i 0)) ∧ lo ≤ (zs.take p).getD i 0 ∧ (zs.take p).getD i 0 ≤ hi) := by
  rcases h with ⟨rfl, rfl, rfl, rfl⟩ | ⟨x, rfl, h1, h2, h3, h4, h5⟩
  · exact ⟨by omega, by omega, by simp; omega, fun h => by omega⟩
  · unfold maxLen at h2
    refine ⟨h1, by omega, by rw [List.length_take]; omega, fun _ => ⟨x, rfl, fun i hi => ?_⟩⟩
    have hg : (zs.take p).getD i 0 = zs.getD i 0 := by simp [List.getD_eq_getElem?_getD, hi]
    rw [hg]
    exact ⟨h4 i (by omega), hb (h5 (zs.getD i 0) (by rw [List.getD_eq_getElem?_getD, List.getElem?_eq_getElem (by omega)]; simp))⟩
end Go.Proofs.Ytpmjgomfjfhfkaa
