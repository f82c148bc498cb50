/- Rows of the call's own: one value ready to be appended; a row stays where another one has grown. -/
import Derived.Test.YtjhpogiknhbegaaDoorArgsJ
import Derived.Test.YtjhpogiknhbegaaDoorOwn
set_option linter.unusedVariables false
namespace Go.Proofs.YtjhpogiknhbegaaDoor
open Go.RowKit
/-- One value in memory of its own, ready to be appended to an own row. -/
theorem ready_one {w W : World} {base : Nat} {v : Value} {k : Nat} {xs : List Int} (t : TypeId) (r : Int) (hO : W.ownsRow base t 1 v k (RI64.vals xs)) (hB : Below w.heap.size w W) :
    (W.alloc (.cells #[.int .i64 r] t)).ownsRow base t 1 v k (RI64.vals xs) ∧ Below w.heap.size w (W.alloc (.cells #[.int .i64 r] t)) ∧ RI64.Vals (W.alloc (.cells #[.int .i64 r] t)) (some ⟨W.heap.size, 0, none⟩) 1 [r] :=
  ⟨own_kept hO ((Kept.refl [] _).alloc _) (by simp), hB.alloc hB.size _, RI64.Vals.has (ys := [r]) (tl := []) (Has.new W _ _)⟩
/-- A row stays where another one has grown. -/
theorem own_grown {w w' : World} {base : Nat} {e : TypeId} {size n : Nat} {v u : Value} {xs : List Value} (h : w.ownsRow base e size v n xs) (hg : w.grownBy w' u.ownBlock) (ha : Apart v u) : w'.ownsRow base e size v n xs := by
  obtain ⟨h1, h2⟩ := h
  refine ⟨h1, ?_⟩
  rcases h2 with h2 | ⟨k, cap, cur, rfl, hk, hh, h3⟩
  · exact .inl h2
  · exact .inr ⟨k, cap, cur, rfl, hk, ((Kept.of_grown hg).block k (Has.lt (w := w) hh) (fun e => ha k rfl (by simpa using e))).trans hh, h3⟩
end Go.Proofs.YtjhpogiknhbegaaDoor
