/- What the laws of layer 16 have in hand: steps and sums that came in. -/
import Derived.Test.YtoghdmoblehnmaaPeakSame
import Derived.Test.YtoghdmoblehnmaaFlat
import Derived.Test.YtoghdmoblehnmaaArgsJ
set_option linter.unusedVariables false
namespace Go.Proofs.Ytoghdmoblehnmaa.Peak
open Go.RowKit
/-- A step: a sum, and a slope. -/
def stepS : Row.Shape (Int × Int) := ⟨2, fun v => [.int .i64 v.1, .int .i64 v.2], fun _ => rfl, by decide, fun p u hu => by
  simp at hu
  rcases hu with rfl | rfl <;> rfl⟩
/-- A step that came in: two numbers of 64 bits. -/
def AnyStep (v : Int × Int) : Prop := fits64 v.1 ∧ fits64 v.2
theorem step_dec : ∀ vs : List Value, Row.Oks [.int .i64, .int .i64] vs → ∃ z : Int × Int, stepS.enc z = vs ∧ AnyStep z := fun vs h => by
  obtain ⟨h1, h2⟩ := h
  obtain ⟨v0, e0, n0, rfl, hw0⟩ := h2 0 _ rfl
  obtain ⟨v1, e1, n1, rfl, hw1⟩ := h2 1 _ rfl
  match vs, h1 with
  | [a, b], _ =>
    simp at e0 e1
    subst e0 e1
    exact ⟨(n0, n1), rfl, by have := bounds_i64 hw0; unfold fits64; exact this, by have := bounds_i64 hw1; unfold fits64; exact this⟩
theorem step_cells {w : World} {x : Addr} {len : Nat} {ys : List (Int × Int)} (h : Row.Vals stepS w (some x) len ys) (i : Nat) (hi : i < len) :
    w.cell? (x.add (i * 2)) = some (.int .i64 (ys.getD i (0, 0)).1) ∧ w.cell? ⟨(x.add (i * 2)).block, (x.add (i * 2)).off + 1, none⟩ = some (.int .i64 (ys.getD i (0, 0)).2) := by
  have hl := h.len_
  have e : ys.getD i (0, 0) = ys[i]'(by omega) := by rw [List.getD_eq_getElem?_getD, List.getElem?_eq_getElem (by omega)]; rfl
  rw [e]
  exact ⟨by simpa [stepS] using h.at_ i 0 (by omega) _ rfl, part_at h i 1 (by omega) _ rfl (by omega)⟩
/-- The first so many numbers of a row that came in. -/
theorem row_first {k : IntKind} {lo hi : Int} (hb : ∀ {n : Int}, (Lit.int k n).wf = true → lo ≤ n ∧ n ≤ hi) {w : World} {a : Option Addr} {len cap : Nat} {zs : List Int} (h : IsRow k w a len cap zs) (p : Nat) (hp : p ≤ len) :
    len ≤ cap ∧ cap ≤ 9223372036854775807 ∧ (zs.take p).length = p ∧ (0 < p → ∃ x, a = some x ∧ ∀ i, i < p → w.cell? (x.add i) = some (.int k ((zs.take p).getD i 0)) ∧ lo ≤ (zs.take p).getD i 0 ∧ (zs.take p).getD i 0 ≤ hi) := by
  rcases h with ⟨rfl, rfl, rfl, rfl⟩ | ⟨x, rfl, h1, h2, h3, h4, h5⟩
  · exact ⟨by omega, by omega, by simp; omega, fun h => by omega⟩
  · unfold maxLen at h2
    refine ⟨h1, by omega, by rw [List.length_take]; omega, fun _ => ⟨x, rfl, fun i hi => ?_⟩⟩
    have hg : (zs.take p).getD i 0 = zs.getD i 0 := by simp [List.getD_eq_getElem?_getD, hi]
    rw [hg]
    exact ⟨h4 i (by omega), hb (h5 (zs.getD i 0) (by rw [List.getD_eq_getElem?_getD, List.getElem?_eq_getElem (by omega)]; simp))⟩
/-- One value in memory of its own, ready to be appended to an own row. -/
theorem ready_one {w W : World} {base : Nat} {v : Value} {k : Nat} {xs : List Int} (t : TypeId) (r : Int) (hO : W.ownsRow base t 1 v k (RI64.vals xs)) (hB : Below w.heap.size w W) :
    (W.alloc (.cells #[.int .i64 r] t)).ownsRow base t 1 v k (RI64.vals xs) ∧ Below w.heap.size w (W.alloc (.cells #[.int .i64 r] t)) ∧ RI64.Vals (W.alloc (.cells #[.int .i64 r] t)) (some ⟨W.heap.size, 0, none⟩) 1 [r] :=
  ⟨own_kept hO ((Kept.refl [] _).alloc _) (by simp), hB.alloc hB.size _, RI64.Vals.has (ys := [r]) (tl := []) (Has.new W _ _)⟩
/-- A row stays where another one has grown. -/
theorem own_grown {w w' : World} {base : Nat} {e : TypeId} {size n : Nat} {v u : Value} {xs : List Value} (h : w.ownsRow base e size v n xs) (hg : w.grownBy w' u.ownBlock) (ha : Apart v u) : w'.ownsRow base e size v n xs := by
  obtain ⟨h1, h2⟩ := h
  refine ⟨h1, ?_⟩
  rcases h2 with h2 | ⟨k, cap, cur, rfl, hk, hh, h3⟩
  · exact .inl h2
  · exact .inr ⟨k, cap, cur, rfl, hk, ((Kept.of_grown hg).block k (Has.lt (w := w) hh) (fun e => ha k rfl (by simpa using e))).trans hh, h3⟩
theorem zip_ones : ∀ l : List Int, l.zip (List.replicate l.length (1 : Int)) = l.map fun w => (w, (1 : Int))
  | [] => rfl
  | x :: l => by
    rw [List.length_cons, List.replicate_succ, List.zip_cons_cons, zip_ones l]
    rfl
end Go.Proofs.Ytoghdmoblehnmaa.Peak
