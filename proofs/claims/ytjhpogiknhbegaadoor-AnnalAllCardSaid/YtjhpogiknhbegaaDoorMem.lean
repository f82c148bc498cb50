/- A block of memory that is known whole, and stays so. -/
import Derived.WalkKit
import Derived.Below
import Derived.Deep.Draws
set_option linter.unusedVariables false
namespace Go.Proofs.YtjhpogiknhbegaaDoor
open Go.RowKit

/-- Block b of the world is just these cells, of this element type, none of them frozen. -/
def Has (w : World) (b : Nat) (t : TypeId) (cs : Array Value) : Prop := w.heap[b]? = some (.cells cs t (0, 0))
section
variable {w w' : World} {b : Nat} {t : TypeId} {cs : Array Value}
theorem Has.lt (h : Has w b t cs) : b < w.heap.size := by
  rcases Nat.lt_or_ge b w.heap.size with hl | hg
  · exact hl
  · unfold Has at h; rw [Array.getElem?_eq_none hg] at h; cases h
theorem Has.cell (h : Has w b t cs) (i : Nat) : w.cell? ⟨b, i, none⟩ = cs[i]? := cell_of_row w b i cs t (0, 0) h
theorem Has.frozen (h : Has w b t cs) (i : Nat) : w.frozen? ⟨b, i, none⟩ = false := by
  unfold Has at h; simp [World.frozen?, h]
theorem Has.new (w : World) (t : TypeId) (cs : Array Value) : Has (w.alloc (.cells cs t)) w.heap.size t cs := heap_alloc_new w _
theorem Has.drew (h : Has w b t cs) : Has w.drew b t cs := h
theorem Has.drewN (h : Has w b t cs) (n : Nat) : Has (w.drewN n) b t cs := h
theorem Has.alloc (h : Has w b t cs) (o : Obj) : Has (w.alloc o) b t cs := (Below.heap_alloc w o b h.lt).trans h
theorem Has.set_ (h : Has w b t cs) (i : Nat) (u : Value) : Has (w.setCell ⟨b, i, none⟩ u) b t (cs.setIfInBounds i u) := by
  unfold Has at h ⊢
  simp [World.setCell, Array.getElem?_modify, h]
theorem Has.far (h : Has w b t cs) {p : Addr} (hp : b ≠ p.block) (u : Value) : Has (w.setCell p u) b t cs := (Below.heap_setCell w p u b hp).trans h
theorem Has.below {B : Nat} (h : Has w b t cs) (hb : Below B w w') (hg : b < B) : Has w' b t cs := (hb.block b hg).trans h
theorem Has.two {u v : Value} (h : Has w b t #[u, v]) : w.cell? ⟨b, 0, none⟩ = some u ∧ w.cell? ⟨b, 1, none⟩ = some v ∧ w.frozen? ⟨b, 0, none⟩ = false ∧ w.frozen? ⟨b, 1, none⟩ = false :=
  ⟨h.cell 0, h.cell 1, h.frozen 0, h.frozen 1⟩
theorem Has.put2 {u v : Value} (h : Has w b t #[u, v]) (x y : Value) : Has ((w.setCell ⟨b, 0, none⟩ x).setCell ⟨b, 1, none⟩ y) b t #[x, y] := by
  have := (h.set_ 0 x).set_ 1 y
  simpa using this
theorem Has.far2 (h : Has w b t cs) {c : Nat} (hp : b ≠ c) (x y : Value) : Has ((w.setCell ⟨c, 0, none⟩ x).setCell ⟨c, 1, none⟩ y) b t cs :=
  (h.far (p := ⟨c, 0, none⟩) hp x).far (p := ⟨c, 1, none⟩) hp y
theorem below_put2 {B : Nat} (h : Below B w w') {c : Nat} (hc : B ≤ c) (x y : Value) : Below B w ((w'.setCell ⟨c, 0, none⟩ x).setCell ⟨c, 1, none⟩ y) :=
  (h.setCell (p := ⟨c, 0, none⟩) hc x).setCell (p := ⟨c, 1, none⟩) hc y
end
end Go.Proofs.YtjhpogiknhbegaaDoor
