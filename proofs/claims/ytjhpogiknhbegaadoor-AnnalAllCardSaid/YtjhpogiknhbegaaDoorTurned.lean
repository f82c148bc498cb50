/- Two blocks may have turned, and all else that was there is as it was. -/
import Derived.Test.YtjhpogiknhbegaaDoorMem
import Derived.OwnWalk
set_option linter.unusedVariables false
namespace Go.Proofs.YtjhpogiknhbegaaDoor
open Go.RowKit
theorem block_add (a : Addr) (n : Nat) : (a.add n).block = a.block := by unfold Addr.add; split <;> rfl
/-- Of what was there, only blocks b and g may have turned. -/
structure Turned (b g : Nat) (w w' : World) : Prop where
  os : w'.os = w.os
  tape : w'.tape = w.tape
  output : w'.output = w.output
  size : w.heap.size ≤ w'.heap.size
  block : ∀ k, k < w.heap.size → k ≠ b → k ≠ g → w'.heap[k]? = w.heap[k]?
section
variable {b g : Nat} {w w' a c : World}
theorem Turned.refl (b g : Nat) (w : World) : Turned b g w w := ⟨rfl, rfl, rfl, Nat.le_refl _, fun _ _ _ _ => rfl⟩
theorem Turned.trans (h : Turned b g a w) (k : Turned b g w c) : Turned b g a c :=
  ⟨k.os.trans h.os, k.tape.trans h.tape, k.output.trans h.output, Nat.le_trans h.size k.size, fun i hi h1 h2 => (k.block i (Nat.lt_of_lt_of_le hi h.size) h1 h2).trans (h.block i hi h1 h2)⟩
theorem Turned.drew (h : Turned b g a w) : Turned b g a w.drew := ⟨h.os, h.tape, h.output, h.size, h.block⟩
theorem Turned.drewN (h : Turned b g a w) (n : Nat) : Turned b g a (w.drewN n) := ⟨h.os, h.tape, h.output, h.size, h.block⟩
theorem Turned.like (h : Turned b g a w) (h1 : w'.os = w.os) (h2 : w'.tape = w.tape) (h3 : w'.output = w.output) (h4 : w'.heap = w.heap) : Turned b g a w' :=
  ⟨h1.trans h.os, h2.trans h.tape, h3.trans h.output, by rw [h4]; exact h.size, fun k hk e1 e2 => by rw [h4]; exact h.block k hk e1 e2⟩
theorem Turned.alloc (h : Turned b g a w) (o : Obj) : Turned b g a (w.alloc o) :=
  h.trans ⟨rfl, rfl, rfl, by simp, fun k hk _ _ => Below.heap_alloc _ _ _ hk⟩
theorem Turned.setCell (h : Turned b g a w) {p : Addr} (hp : p.block = b ∨ p.block = g ∨ a.heap.size ≤ p.block) (u : Value) : Turned b g a (w.setCell p u) :=
  ⟨h.os, h.tape, h.output, by simpa [World.setCell] using h.size, fun k hk h1 h2 => (Below.heap_setCell w p u k (by
    rcases hp with hp | hp | hp <;> omega)).trans (h.block k hk h1 h2)⟩
theorem Turned.of_below (h : Below a.heap.size a w) : Turned b g a w := ⟨h.os, h.tape, h.output, h.size, fun k hk _ _ => h.block k hk⟩
theorem Turned.below {B : Nat} (h : Turned b g a w) (hB : B ≤ a.heap.size) (h1 : B ≤ b) (h2 : B ≤ g) : Below B a w :=
  ⟨h.os, h.tape, h.output, h.size, fun k hk => h.block k (by omega) (by omega) (by omega)⟩
theorem Turned.cell (h : Turned b g a w) {p : Addr} (hl : p.block < a.heap.size) (h1 : p.block ≠ b) (h2 : p.block ≠ g) : w.cell? p = a.cell? p := World.cell?_of_block (w := a) (h.block p.block hl h1 h2)
theorem Turned.frozen (h : Turned b g a w) {p : Addr} (hl : p.block < a.heap.size) (h1 : p.block ≠ b) (h2 : p.block ≠ g) : w.frozen? p = a.frozen? p := World.frozen?_of_block (w := a) (h.block p.block hl h1 h2)
theorem Turned.has (h : Turned b g a w) {i : Nat} {t : TypeId} {cs : Array Value} (hh : Has a i t cs) (h1 : i ≠ b) (h2 : i ≠ g) : Has w i t cs := (h.block i hh.lt h1 h2).trans hh
theorem Turned.grown {row : Option Nat} (h : Turned b g a w) (hg : w.grownBy w' row) (hr : ∀ k, row = some k → k = b ∨ k = g ∨ a.heap.size ≤ k) : Turned b g a w' :=
  ⟨hg.os.trans h.os, hg.tape.trans h.tape, hg.output.trans h.output, Nat.le_trans h.size hg.size, fun k hk h1 h2 => (hg.block k (Nat.lt_of_lt_of_le hk h.size) (fun e => by have := hr k e.symm; omega)).trans (h.block k hk h1 h2)⟩
theorem below_drewN {B : Nat} (h : Below B a w) (n : Nat) : Below B a (w.drewN n) := ⟨h.os, h.tape, h.output, h.size, h.block⟩
theorem below_turned {B : Nat} (h : Below B a w) (k : Turned b g w c) (hB : B ≤ w.heap.size) (h1 : B ≤ b) (h2 : B ≤ g) : Below B a c := h.trans (k.below hB h1 h2)
end
end Go.Proofs.YtjhpogiknhbegaaDoor
