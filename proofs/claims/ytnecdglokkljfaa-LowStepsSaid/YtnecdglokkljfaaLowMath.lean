/- What a low filter answers of all that came; its weights; what follows of it (bounds, what is forgotten, step by step). Nothing here speaks of a program. -/
import Derived.Test.YtnecdglokkljfaaFilterMath
set_option linter.unusedVariables false
namespace Go.Proofs.Ytnecdglokkljfaa.Low
open Go.RowKit
/-- The eleven weights. -/
def wsT : List Int := [1, 2, 3, 4, 5, 6, 5, 4, 3, 2, 1]
/-- The sum of all that came, the last value first, by its weights. -/
def sumT (h : List Int) : Int := weighed 65535 h 0 wsT
/-- What a low filter answers of all that came. -/
def lowT (h : List Int) : Int := sumT h / 32
theorem came_low (h : List Int) (k : Nat) : -65535 ≤ cameT 65535 h k ∧ cameT 65535 h k ≤ 65535 := came_bd 65535 h k (by omega)
theorem sum_is (h : List Int) : sumT h = cameT 65535 h 0 + 2 * cameT 65535 h 1 + 3 * cameT 65535 h 2 + 4 * cameT 65535 h 3 + 5 * cameT 65535 h 4 + 6 * cameT 65535 h 5 + 5 * cameT 65535 h 6 + 4 * cameT 65535 h 7 + 3 * cameT 65535 h 8 + 2 * cameT 65535 h 9 + cameT 65535 h 10 := by
  simp only [sumT, wsT, weighed, Nat.reduceAdd]; omega
theorem sum_bd (h : List Int) : -2359260 ≤ sumT h ∧ sumT h ≤ 2359260 := by
  have h0 := came_low h 0; have h1 := came_low h 1; have h2 := came_low h 2; have h3 := came_low h 3; have h4 := came_low h 4; have h5 := came_low h 5
  have h6 := came_low h 6; have h7 := came_low h 7; have h8 := came_low h 8; have h9 := came_low h 9; have h10 := came_low h 10
  rw [sum_is]; omega
theorem low_bd (h : List Int) : -73727 ≤ lowT h ∧ lowT h ≤ 73727 := by
  have := sum_bd h
  unfold lowT; omega
theorem ws_at (j : Nat) (hj : j < 11) : wsT.getD j 0 = if 10 < 2 * j then 11 - (j : Int) else (j : Int) + 1 := by
  rcases (by omega : j = 0 ∨ j = 1 ∨ j = 2 ∨ j = 3 ∨ j = 4 ∨ j = 5 ∨ j = 6 ∨ j = 7 ∨ j = 8 ∨ j = 9 ∨ j = 10) with rfl | rfl | rfl | rfl | rfl | rfl | rfl | rfl | rfl | rfl | rfl <;> rfl
theorem partial_bd (h : List Int) (j : Nat) (hj : j < 11) :
    (-4000000000 ≤ weighed 65535 h 0 (wsT.take j) ∧ weighed 65535 h 0 (wsT.take j) ≤ 4000000000) ∧
    (-4000000000 ≤ wsT.getD j 0 * cameT 65535 h j ∧ wsT.getD j 0 * cameT 65535 h j ≤ 4000000000) := by
  have hw : ∀ w ∈ wsT, -6 ≤ w ∧ w ≤ 6 := by simp [wsT]
  have h1 := weighed_bd 65535 6 h (by omega) (by omega) (wsT.take j) 0 (fun w hu => hw w (List.mem_of_mem_take hu))
  have hw2 : -6 ≤ wsT.getD j 0 ∧ wsT.getD j 0 ≤ 6 := by
    rw [ws_at j hj]; split <;> omega
  have h2 := mul_bd _ _ 6 65535 hw2 (came_low h j)
  rw [List.length_take, Nat.min_eq_left (by show j ≤ 11; omega)] at h1
  refine ⟨?_, by omega⟩
  have h3 : (j : Int) ≤ 10 := by omega
  have h5 : (j : Int) * (6 * 65535) ≤ 10 * (6 * 65535) := Int.mul_le_mul_of_nonneg_right h3 (by omega)
  omega
/-- What came eleven steps ago, and more, plays no part. -/
theorem low_forgets (l h k : List Int) (hl : 11 ≤ l.length) : lowT (l ++ h) = lowT (l ++ k) := by
  unfold lowT
  rw [sum_is, sum_is]
  simp only [came_append 65535 l _ _ (show 0 < l.length by omega), came_append 65535 l _ _ (show 1 < l.length by omega), came_append 65535 l _ _ (show 2 < l.length by omega), came_append 65535 l _ _ (show 3 < l.length by omega), came_append 65535 l _ _ (show 4 < l.length by omega), came_append 65535 l _ _ (show 5 < l.length by omega), came_append 65535 l _ _ (show 6 < l.length by omega), came_append 65535 l _ _ (show 7 < l.length by omega), came_append 65535 l _ _ (show 8 < l.length by omega), came_append 65535 l _ _ (show 9 < l.length by omega), came_append 65535 l _ _ (show 10 < l.length by omega)]
/-- Values that are 32 times something, and within the bound. -/
def Whole (h : List Int) : Prop := ∀ u ∈ h, u % 32 = 0 ∧ -65535 ≤ u ∧ u ≤ 65535
theorem whole_at {h : List Int} (H : Whole h) (k : Nat) : cameT 65535 h k = h.getD k 0 ∧ h.getD k 0 % 32 = 0 ∧ -65535 ≤ h.getD k 0 ∧ h.getD k 0 ≤ 65535 := by
  unfold cameT
  rw [List.getD_eq_getElem?_getD]
  by_cases hk : k < h.length
  · rw [List.getElem?_eq_getElem hk]
    obtain ⟨h1, h2, h3⟩ := H _ (List.getElem_mem hk)
    exact ⟨nearTo_in 65535 _ h2 h3, h1, h2, h3⟩
  · rw [List.getElem?_eq_none (by omega)]
    exact ⟨rfl, rfl, by decide, by decide⟩
theorem getD_tail (h : List Int) (k : Nat) : h.tail.getD k 0 = h.getD (k + 1) 0 := by
  cases h with
  | nil => rfl
  | cons v h => rfl
theorem whole_tail {h : List Int} (H : Whole h) : Whole h.tail := fun u hu => H u (List.mem_of_mem_tail hu)
/-- Step by step: twice the one ahead, less the one ahead of that, and x0, less 2 x6, and x12. -/
theorem low_steps (n : Int) (h : List Int) (H : Whole (n :: h)) :
    lowT (n :: h) = 2 * lowT h - lowT h.tail + (n - 2 * h.getD 5 0 + h.getD 11 0) / 32 ∧ (n - 2 * h.getD 5 0 + h.getD 11 0) % 32 = 0 := by
  have H1 : Whole h := whole_tail H
  have H2 : Whole h.tail := whole_tail H1
  have e := fun k => whole_at H k
  have e1 := fun k => whole_at H1 k
  have e2 := fun k => (whole_at H2 k).1
  simp only [getD_tail] at e2
  have ec : ∀ k, (n :: h).getD (k + 1) 0 = h.getD k 0 := fun k => rfl
  have c0 := e 0
  rw [show (n :: h).getD 0 0 = n from rfl] at c0
  have f := fun k => (e (k + 1)).1
  simp only [ec] at f
  unfold lowT
  rw [sum_is, sum_is, sum_is]
  rw [c0.1, f 0, f 1, f 2, f 3, f 4, f 5, f 6, f 7, f 8, f 9, (e1 0).1, (e1 1).1, (e1 2).1, (e1 3).1, (e1 4).1, (e1 5).1, (e1 6).1, (e1 7).1, (e1 8).1, (e1 9).1, (e1 10).1, e2 0, e2 1, e2 2, e2 3, e2 4, e2 5, e2 6, e2 7, e2 8, e2 9, e2 10]
  have m0 := (e1 0).2.1; have m1 := (e1 1).2.1; have m2 := (e1 2).2.1; have m3 := (e1 3).2.1; have m4 := (e1 4).2.1; have m5 := (e1 5).2.1
  have m6 := (e1 6).2.1; have m7 := (e1 7).2.1; have m8 := (e1 8).2.1; have m9 := (e1 9).2.1; have m10 := (e1 10).2.1; have m11 := (e1 11).2.1
  have mn := c0.2.1
  have q : ∀ x : Int, x % 32 = 0 → ∃ y, x = 32 * y := fun x hx => ⟨x / 32, by omega⟩
  obtain ⟨yn, hn⟩ := q _ mn
  obtain ⟨y0, h0⟩ := q _ m0; obtain ⟨y1, h1⟩ := q _ m1; obtain ⟨y2, h2⟩ := q _ m2; obtain ⟨y3, h3⟩ := q _ m3
  obtain ⟨y4, h4⟩ := q _ m4; obtain ⟨y5, h5⟩ := q _ m5; obtain ⟨y6, h6⟩ := q _ m6; obtain ⟨y7, h7⟩ := q _ m7
  obtain ⟨y8, h8⟩ := q _ m8; obtain ⟨y9, h9⟩ := q _ m9; obtain ⟨y10, h10⟩ := q _ m10; obtain ⟨y11, h11⟩ := q _ m11
  rw [hn, h0, h1, h2, h3, h4, h5, h6, h7, h8, h9, h10, h11]
  generalize yn = a at *
  clear m0 m1 m2 m3 m4 m5 m6 m7 m8 m9 m10 m11 mn h0 h1 h2 h3 h4 h5 h6 h7 h8 h9 h10 h11 hn q f ec e e1 e2 c0 H H1 H2
  constructor
  · rw [show 32 * a + 2 * (32 * y0) + 3 * (32 * y1) + 4 * (32 * y2) + 5 * (32 * y3) + 6 * (32 * y4) + 5 * (32 * y5) + 4 * (32 * y6) + 3 * (32 * y7) + 2 * (32 * y8) + 32 * y9 = 32 * (a + 2 * y0 + 3 * y1 + 4 * y2 + 5 * y3 + 6 * y4 + 5 * y5 + 4 * y6 + 3 * y7 + 2 * y8 + y9) by omega,
      show 32 * y0 + 2 * (32 * y1) + 3 * (32 * y2) + 4 * (32 * y3) + 5 * (32 * y4) + 6 * (32 * y5) + 5 * (32 * y6) + 4 * (32 * y7) + 3 * (32 * y8) + 2 * (32 * y9) + 32 * y10 = 32 * (y0 + 2 * y1 + 3 * y2 + 4 * y3 + 5 * y4 + 6 * y5 + 5 * y6 + 4 * y7 + 3 * y8 + 2 * y9 + y10) by omega,
      show 32 * y1 + 2 * (32 * y2) + 3 * (32 * y3) + 4 * (32 * y4) + 5 * (32 * y5) + 6 * (32 * y6) + 5 * (32 * y7) + 4 * (32 * y8) + 3 * (32 * y9) + 2 * (32 * y10) + 32 * y11 = 32 * (y1 + 2 * y2 + 3 * y3 + 4 * y4 + 5 * y5 + 6 * y6 + 5 * y7 + 4 * y8 + 3 * y9 + 2 * y10 + y11) by omega,
      show 32 * a - 2 * (32 * y5) + 32 * y11 = 32 * (a - 2 * y5 + y11) by omega,
      Int.mul_ediv_cancel_left _ (by decide), Int.mul_ediv_cancel_left _ (by decide), Int.mul_ediv_cancel_left _ (by decide), Int.mul_ediv_cancel_left _ (by decide)]
    omega
  · omega
end Go.Proofs.Ytnecdglokkljfaa.Low
