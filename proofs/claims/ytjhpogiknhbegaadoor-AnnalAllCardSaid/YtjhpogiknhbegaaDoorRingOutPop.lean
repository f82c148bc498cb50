/- A ring of outs: taking one out. -/
import Derived.Test.YtjhpogiknhbegaaDoorRingOutDrop
set_option linter.unusedSimpArgs false
set_option linter.unusedVariables false
namespace Go.Proofs.YtjhpogiknhbegaaDoor.RingO
open Go.RowKit
open Alarm (Ot otS noOt ot_cells)
theorem turned_of_below {b g : Nat} {w w' : World} (hB : Below w.heap.size w w') : Turned b g w w' := ⟨hB.os, hB.tape, hB.output, hB.size, fun k hk _ _ => hB.block k hk⟩
theorem Ring.far4 {w : World} {b g n q f : Nat} {cs xs : List Ot} (h : Ring w b g n q f cs xs) {x : Nat} (h1 : b ≠ x) (h2 : g ≠ x) (u0 u1 u2 u3 : Value) : Ring ((((w.setCell ⟨x, 0, none⟩ u0).setCell ⟨x, 1, none⟩ u1).setCell ⟨x, 2, none⟩ u2).setCell ⟨x, 3, none⟩ u3) b g n q f cs xs :=
  ⟨(((h.core.far (p := ⟨x, 0, none⟩) h1 h2 u0).far (p := ⟨x, 1, none⟩) h1 h2 u1).far (p := ⟨x, 2, none⟩) h1 h2 u2).far (p := ⟨x, 3, none⟩) h1 h2 u3, h.at_⟩
theorem turned_far4 {b g : Nat} {w w' : World} (h : Turned b g w w') {x : Nat} (hx : w.heap.size ≤ x) (u0 u1 u2 u3 : Value) : Turned b g w ((((w'.setCell ⟨x, 0, none⟩ u0).setCell ⟨x, 1, none⟩ u1).setCell ⟨x, 2, none⟩ u2).setCell ⟨x, 3, none⟩ u3) :=
  (((h.setCell (p := ⟨x, 0, none⟩) (.inr (.inr hx)) u0).setCell (p := ⟨x, 1, none⟩) (.inr (.inr hx)) u1).setCell (p := ⟨x, 2, none⟩) (.inr (.inr hx)) u2).setCell (p := ⟨x, 3, none⟩) (.inr (.inr hx)) u3
theorem pop_yes (b g n q f : Nat) (cs xs : List Ot) (w : World) (h : Ring w b g n q f cs xs) (hx : 0 < xs.length) :
    Calls Tryd.prog 29 #[.pointer (some ⟨b, 0, none⟩)] w fun e w' => e = .returned (.tuple #[otV (xs.getD 0 noOt), .bool true]) ∧ Became w b g n q ((f + 1) % n) (xs.drop 1) w' := by
  have hR0 := h.alloc (.cells #[.int .i64 0, .int .i64 0, .int .i64 0, .int .i64 0] 28)
  have hX0 := Has.new w 28 #[.int .i64 0, .int .i64 0, .int .i64 0, .int .i64 0]
  have hB0 := (Below.refl w.heap.size w).alloc (Nat.le_refl _) (.cells #[.int .i64 0, .int .i64 0, .int .i64 0, .int .i64 0] 28)
  have hat := at_yes b g n q f cs xs 0 _ hR0 hx
  rw [show ((0 : Nat) : Int) = 0 from rfl] at hat
  have hxb : w.heap.size ≠ b ∧ w.heap.size ≠ g := by have := h.core.lt_; omega
  have hdr : ∀ W, Ring W b g n q f cs xs → Calls Tryd.prog 33 #[.pointer (some ⟨b, 0, none⟩), .int .i64 1] W fun e w' => e = .returned (.tuple #[]) ∧ Became W b g n q ((f + 1) % n) (xs.drop 1) w' := fun W hW => drop_any b g n q f cs xs 1 W hW hx
  generalize xs.getD 0 noOt = v at *
  generalize xs.drop 1 = ys at *
  obtain ⟨v0, v1, v2, v3⟩ := v
  dsimp only [otV] at hat ⊢
  clear h
  go_enter Tryd.func29, Tryd.ntmps29
  go_wp2_with (first
    | (go_at_call 22; ((with_reducible refine hat.mono ?_); rintro e W2 ⟨rfl, hB2⟩; have hX2 := (hX0.below hB2 hX0.lt).alloc (.cells #[.int .i64 v0, .int .i64 v1, .int .i64 v2, .int .i64 v3] 28); have hY2 := Has.new W2 28 #[.int .i64 v0, .int .i64 v1, .int .i64 v2, .int .i64 v3]; have hR2 := (hR0.below hB2 hR0.core.lt_.1 hR0.core.lt_.2).alloc (.cells #[.int .i64 v0, .int .i64 v1, .int .i64 v2, .int .i64 v3] 28); have hB3 := (hB0.trans (hB2.mono hB0.size)).alloc (Nat.le_trans hB0.size hB2.size) (.cells #[.int .i64 v0, .int .i64 v1, .int .i64 v2, .int .i64 v3] 28); have hyb : W2.heap.size ≠ b ∧ W2.heap.size ≠ g ∧ W2.heap.size ≠ w.heap.size := (by have h1 := hR0.core.lt_; have h2 := hX0.lt; have h3 := hB2.size; omega)))
    | (go_at_call 33; ((with_reducible refine (hdr _ hR2).mono ?_); rintro e W4 ⟨rfl, cs4, hR4, hT4⟩; have hX4 := hT4.has hX2 hxb.1 hxb.2; have hY4 := hT4.has hY2 hyb.1 hyb.2.1; have y0 := hY4.cell 0; have y1 := hY4.cell 1; have y2 := hY4.cell 2; have y3 := hY4.cell 3; have z0 := hX4.cell 0; have z1 := hX4.cell 1; have z2 := hX4.cell 2; have z3 := hX4.cell 3; have f0 := hX4.frozen 0; have f1 := hX4.frozen 1; have f2 := hX4.frozen 2; have f3 := hX4.frozen 3)))
  exact out_ret rfl w.heap.size rfl _ rfl _ (put4 hX4 _ _ _ _) rfl rfl ⟨rfl, cs4, hR4.far4 (Ne.symm hxb.1) (Ne.symm hxb.2) _ _ _ _, turned_far4 ((turned_of_below hB3).trans hT4) (Nat.le_refl _) _ _ _ _⟩
end Go.Proofs.YtjhpogiknhbegaaDoor.RingO
