/- What an append to a row of the call's own leaves as it was. -/
import Derived.Test.YtjhpogiknhbegaaDoorKept
set_option linter.unusedVariables false
namespace Go.Proofs.YtjhpogiknhbegaaDoor
open Go.RowKit
theorem Kept.of_grown {w w' : World} {row : Option Nat} (hg : w.grownBy w' row) : Kept row.toList w w' :=
  ⟨hg.os, hg.tape, hg.output, hg.size, fun k hk h1 => hg.block k hk fun e => h1 (by simp [← e])⟩
theorem own_apart {w : World} {base : Nat} {e : TypeId} {size n : Nat} {v : Value} {xs : List Value} (h : w.ownsRow base e size v n xs) {x : Nat} (hx : x < base) : x ∉ v.ownBlock.toList := by
  intro hm
  have := (own_block h x (by simpa using hm)).1
  omega
theorem own_in {w : World} {base : Nat} {e : TypeId} {size n : Nat} {v : Value} {xs : List Value} (h : w.ownsRow base e size v n xs) : ∀ k ∈ v.ownBlock.toList, base ≤ k := by
  intro k hm
  exact (own_block h k (by simpa using hm)).1
end Go.Proofs.YtjhpogiknhbegaaDoor
