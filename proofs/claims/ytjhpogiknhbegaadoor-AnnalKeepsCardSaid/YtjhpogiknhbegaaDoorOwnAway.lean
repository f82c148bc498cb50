/- A row of the call's own that lies away from other blocks. Of no program. -/
import Derived.Test.YtjhpogiknhbegaaDoorOwn
set_option linter.unusedVariables false
namespace Go.Proofs.YtjhpogiknhbegaaDoor
open Go.RowKit
theorem own_away {w w' : World} {S : List Nat} {base : Nat} {e : TypeId} {size n : Nat} {v : Value} {xs : List Value} (h : w.ownsRow base e size v n xs) (ht : Kept S w w') (hs : ∀ k ∈ S, v.ownBlock ≠ some k) : w'.ownsRow base e size v n xs := by
  obtain ⟨h1, h2⟩ := h
  refine ⟨h1, ?_⟩
  rcases h2 with h2 | ⟨k, cap, cur, rfl, hk, hh, h3⟩
  · exact .inl h2
  · exact .inr ⟨k, cap, cur, rfl, hk, (ht.block k (Has.lt (w := w) hh) (fun e => hs k e rfl)).trans hh, h3⟩
theorem own_stays {w w' : World} {base : Nat} {e : TypeId} {size n : Nat} {v : Value} {xs : List Value} (h : w.ownsRow base e size v n xs) (hB : Below w.heap.size w w') : w'.ownsRow base e size v n xs := own_away h (Kept.of_below (S := []) hB) (fun _ h => by cases h)
theorem away_new {w : World} {base : Nat} {e : TypeId} {size n : Nat} {v : Value} {xs : List Value} {S S' : List Nat} (h : w.ownsRow base e size v n xs) (ha : ∀ k ∈ S, v.ownBlock ≠ some k) (hs : ∀ k ∈ S', k ∈ S ∨ w.heap.size ≤ k) : ∀ k ∈ S', v.ownBlock ≠ some k := fun k hk he => by
  rcases hs k hk with h1 | h1
  · exact ha k h1 he
  · have := (own_block h k he).2; omega
theorem away_grown {w : World} {S : List Nat} {v v' : Value} (hl : ∀ k ∈ S, k < w.heap.size) (ha : ∀ k ∈ S, v.ownBlock ≠ some k) (h : v'.ownBlock = v.ownBlock ∨ v'.ownBlock = some w.heap.size) : ∀ k ∈ S, v'.ownBlock ≠ some k := fun k hk he => by
  rcases h with h | h
  · exact ha k hk (h ▸ he)
  · rw [h] at he; injection he with he; have := hl k hk; omega
end Go.Proofs.YtjhpogiknhbegaaDoor
