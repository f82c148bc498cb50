/- Some blocks may have turned, and all else that was there is as it was; rows of a call's own over such turns. -/
import Derived.Test.YtjhpogiknhbegaaDoorTurned
set_option linter.unusedVariables false
namespace Go.Proofs.YtjhpogiknhbegaaDoor
open Go.RowKit
/-- Of what was there, only the blocks of S may have turned. -/
structure Kept (S : List Nat) (w w' : World) : Prop where
  os : w'.os = w.os
  tape : w'.tape = w.tape
  output : w'.output = w.output
  size : w.heap.size ≤ w'.heap.size
  block : ∀ k, k < w.heap.size → k ∉ S → w'.heap[k]? = w.heap[k]?
section
variable {S T : List Nat} {w w' a c : World}
theorem Kept.refl (S : List Nat) (w : World) : Kept S w w := ⟨rfl, rfl, rfl, Nat.le_refl _, fun _ _ _ => rfl⟩
theorem Kept.trans (h : Kept S a w) (k : Kept S w c) : Kept S a c :=
  ⟨k.os.trans h.os, k.tape.trans h.tape, k.output.trans h.output, Nat.le_trans h.size k.size, fun i hi h1 => (k.block i (Nat.lt_of_lt_of_le hi h.size) h1).trans (h.block i hi h1)⟩
theorem Kept.wide (h : Kept S a w) (hs : ∀ k ∈ S, k < a.heap.size → k ∈ T) : Kept T a w := ⟨h.os, h.tape, h.output, h.size, fun k hk h1 => h.block k hk fun h2 => h1 (hs k h2 hk)⟩
theorem Kept.drewN (h : Kept S a w) (n : Nat) : Kept S a (w.drewN n) := ⟨h.os, h.tape, h.output, h.size, h.block⟩
theorem Kept.like (h : Kept S a w) (h1 : w'.os = w.os) (h2 : w'.tape = w.tape) (h3 : w'.output = w.output) (h4 : w'.heap = w.heap) : Kept S a w' :=
  ⟨h1.trans h.os, h2.trans h.tape, h3.trans h.output, by rw [h4]; exact h.size, fun k hk e => by rw [h4]; exact h.block k hk e⟩
theorem Kept.alloc (h : Kept S a w) (o : Obj) : Kept S a (w.alloc o) :=
  h.trans ⟨rfl, rfl, rfl, by simp, fun k hk _ => Below.heap_alloc _ _ _ hk⟩
theorem Kept.setCell (h : Kept S a w) {p : Addr} (hp : p.block ∈ S ∨ a.heap.size ≤ p.block) (u : Value) : Kept S a (w.setCell p u) :=
  ⟨h.os, h.tape, h.output, by simpa [World.setCell] using h.size, fun k hk h1 => (Below.heap_setCell w p u k (by
    rcases hp with hp | hp
    · rintro rfl; exact h1 hp
    · omega)).trans (h.block k hk h1)⟩
theorem Kept.of_turned {b g : Nat} (h : Turned b g a w) : Kept [b, g] a w := ⟨h.os, h.tape, h.output, h.size, fun k hk e => h.block k hk (fun e1 => e (by simp [e1])) (fun e1 => e (by simp [e1]))⟩
theorem Kept.of_below (h : Below a.heap.size a w) : Kept S a w := ⟨h.os, h.tape, h.output, h.size, fun k hk _ => h.block k hk⟩
theorem Kept.below {B : Nat} (h : Kept S a w) (hB : B ≤ a.heap.size) (hs : ∀ k ∈ S, B ≤ k) : Below B a w :=
  ⟨h.os, h.tape, h.output, h.size, fun k hk => h.block k (by omega) fun e => by have := hs k e; omega⟩
theorem Kept.cell (h : Kept S a w) {p : Addr} (hl : p.block < a.heap.size) (h1 : p.block ∉ S) : w.cell? p = a.cell? p := World.cell?_of_block (w := a) (h.block p.block hl h1)
theorem Kept.frozen (h : Kept S a w) {p : Addr} (hl : p.block < a.heap.size) (h1 : p.block ∉ S) : w.frozen? p = a.frozen? p := World.frozen?_of_block (w := a) (h.block p.block hl h1)
theorem Kept.has (h : Kept S a w) {i : Nat} {t : TypeId} {cs : Array Value} (hh : Has a i t cs) (h1 : i ∉ S) : Has w i t cs := (h.block i hh.lt h1).trans hh
theorem Kept.grown {row : Option Nat} (h : Kept S a w) (hg : w.grownBy w' row) (hr : ∀ k, row = some k → k ∈ S ∨ a.heap.size ≤ k) : Kept S a w' :=
  ⟨hg.os.trans h.os, hg.tape.trans h.tape, hg.output.trans h.output, Nat.le_trans h.size hg.size, fun k hk h1 => (hg.block k (Nat.lt_of_lt_of_le hk h.size) (fun e => by
    rcases hr k e.symm with h2 | h2
    · exact h1 h2
    · omega)).trans (h.block k hk h1)⟩
theorem below_kept {B : Nat} (h : Below B a w) (k : Kept S w c) (hB : B ≤ w.heap.size) (hs : ∀ k ∈ S, B ≤ k) : Below B a c := h.trans (k.below hB hs)
theorem own_kept {base : Nat} {e : TypeId} {size n : Nat} {v : Value} {xs : List Value} (h : w.ownsRow base e size v n xs) (ht : Kept S w w') (hs : ∀ k ∈ S, k < base) : w'.ownsRow base e size v n xs := by
  obtain ⟨h1, h2⟩ := h
  refine ⟨h1, ?_⟩
  rcases h2 with h2 | ⟨k, cap, cur, rfl, hk, hh, h3⟩
  · exact .inl h2
  · exact .inr ⟨k, cap, cur, rfl, hk, (ht.block k (Has.lt (w := w) hh) (fun e => by have := hs k e; omega)).trans hh, h3⟩
theorem own_block {base : Nat} {e : TypeId} {size n : Nat} {v : Value} {xs : List Value} (h : w.ownsRow base e size v n xs) : ∀ k, v.ownBlock = some k → base ≤ k ∧ k < w.heap.size := by
  intro k hk
  rcases h.2 with ⟨rfl, _⟩ | ⟨k', cap, cur, rfl, hk', hh, _⟩
  · cases hk
  · injection hk with hk
    have : k' = k := hk
    subst this
    exact ⟨hk', Has.lt (w := w) hh⟩
end
/-- Two rows never lie in one block. -/
def Apart (v u : Value) : Prop := ∀ k, v.ownBlock = some k → u.ownBlock ≠ some k
theorem Apart.symm {v u : Value} (h : Apart v u) : Apart u v := fun k hk hv => h k hv hk
theorem Apart.kept {v u : Value} (h : Apart v u) : v.ownBlock = none ∨ v.ownBlock ≠ u.ownBlock := by
  cases hv : v.ownBlock with
  | none => exact .inl rfl
  | some k => exact .inr fun e => h k hv e.symm
/-- .. nor behind an append to one of them. -/
theorem Apart.step {w : World} {base : Nat} {e : TypeId} {size n : Nat} {v v' u : Value} {xs : List Value} (h : Apart v u) (hu : w.ownsRow base e size u n xs) (hs : v'.ownBlock = v.ownBlock ∨ v'.ownBlock = some w.heap.size) : Apart v' u := by
  intro k hk he
  rcases hs with hs | hs
  · exact h k (hs ▸ hk) he
  · have h1 := (own_block hu k he).2
    rw [hs] at hk
    injection hk with hk
    omega
end Go.Proofs.YtjhpogiknhbegaaDoor
