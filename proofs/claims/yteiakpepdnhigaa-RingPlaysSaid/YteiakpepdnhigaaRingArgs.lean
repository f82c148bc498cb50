/- Slices that came in, as lists; rows of the call's own, kept over a ring's turns. -/
import Derived.Test.YteiakpepdnhigaaValsI
import Derived.Test.YteiakpepdnhigaaLawKit
set_option linter.unusedSimpArgs false
set_option linter.unusedVariables false
namespace Go.Proofs.Yteiakpepdnhigaa.RInt
open Go.RowKit

theorem row_vals {w : World} {a : Option Addr} {len cap : Nat} {zs : List Int} (h : IsRow .i64 w a len cap zs) (m : Nat) (hm : m ≤ len) :
    Vals w a m (zs.take m) ∧ len ≤ cap ∧ cap ≤ 9223372036854775807 ∧ ∀ x, 0 < m → a = some x → x.block < w.heap.size := by
  rcases h with ⟨rfl, rfl, rfl, rfl⟩ | ⟨x, rfl, h1, h2, h3, h4, h5⟩
  · obtain rfl : m = 0 := by omega
    exact ⟨⟨rfl, fun h => absurd h (by omega)⟩, by omega, by omega, fun x h => absurd h (by omega)⟩
  · unfold maxLen at h2
    refine ⟨⟨by rw [List.length_take]; omega, fun _ => ⟨x, rfl, fun i hi => ?_⟩⟩, h1, by omega, fun x h hx => ?_⟩
    · rw [h4 i (by omega)]
      simp [List.getD_eq_getElem?_getD, List.getElem?_take, hi]
    · injection hx with hx
      subst hx
      have := World.block_lt_of_cell? _ _ (h4 0 (by omega))
      rwa [block_add] at this
theorem Vals.take {w : World} {a : Option Addr} {len : Nat} {ys : List Int} (h : Vals w a len ys) (p : Nat) (hp : p ≤ len) : Vals w a p (ys.take p) := by
  have hl := h.len_
  refine ⟨by rw [List.length_take]; omega, fun h0 => ?_⟩
  obtain ⟨x, hx, hc⟩ := h.cells (by omega)
  refine ⟨x, hx, fun i hi => ?_⟩
  rw [hc i (by omega)]
  simp [List.getD_eq_getElem?_getD, List.getElem?_take, hi]
theorem own_turned {w w' : World} {b g base : Nat} {e : TypeId} {size n : Nat} {v : Value} {xs : List Value} (h : w.ownsRow base e size v n xs) (ht : Turned b g w w') (hb : b < base) (hg : g < base) : w'.ownsRow base e size v n xs := by
  obtain ⟨h1, h2⟩ := h
  refine ⟨h1, ?_⟩
  rcases h2 with h2 | ⟨k, cap, cur, rfl, hk, hh, h3⟩
  · exact .inl h2
  · exact .inr ⟨k, cap, cur, rfl, hk, (ht.block k (Has.lt (w := w) hh) (by omega) (by omega)).trans hh, h3⟩
theorem own_block {w : World} {base : Nat} {e : TypeId} {size n : Nat} {v : Value} {xs : List Value} (h : w.ownsRow base e size v n xs) : ∀ k, v.ownBlock = some k → base ≤ k ∧ k < w.heap.size := by
  intro k hk
  rcases h.2 with ⟨rfl, _⟩ | ⟨k', cap, cur, rfl, hk', hh, _⟩
  · cases hk
  · injection hk with hk
    have : k' = k := hk
    subst this
    exact ⟨hk', Has.lt (w := w) hh⟩
theorem own_none (w : World) (base : Nat) (e : TypeId) : w.ownsRow base e 1 (.slice none 0 0) 0 (vals ([] : List Int)) := ⟨rfl, .inl ⟨rfl, rfl⟩⟩
theorem own_len {w : World} {base : Nat} {e : TypeId} {n : Nat} {v : Value} {xs : List Int} (h : w.ownsRow base e 1 v n (vals xs)) : xs.length = n := by have := h.1; simpa [vals] using this
/-- Two rows never lie in one block. -/
def Apart (v u : Value) : Prop := ∀ k, v.ownBlock = some k → u.ownBlock ≠ some k
theorem Apart.symm {v u : Value} (h : Apart v u) : Apart u v := fun k hk hv => h k hv hk
theorem Apart.kept {v u : Value} (h : Apart v u) : v.ownBlock = none ∨ v.ownBlock ≠ u.ownBlock := by
  cases hv : v.ownBlock with
  | none => exact .inl rfl
  | some k => exact .inr fun e => h k hv e.symm
/-- .. nor behind an append to one of them. -/
theorem Apart.step {w : World} {base : Nat} {e : TypeId} {size n : Nat} {v v' u : Value} {xs : List Value} (h : Apart v u) (hu : w.ownsRow base e size u n xs) (hs : v'.ownBlock = v.ownBlock ∨ v'.ownBlock = some w.heap.size) : Apart v' u := by
  intro k hk he
  rcases hs with hs | hs
  · exact h k (hs ▸ hk) he
  · have h1 := (own_block hu k he).2
    rw [hs] at hk
    injection hk with hk
    omega
end Go.Proofs.Yteiakpepdnhigaa.RInt
