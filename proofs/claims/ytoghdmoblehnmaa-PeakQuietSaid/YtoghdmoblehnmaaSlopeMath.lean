/- What a slope filter answers of all that came; what follows of it (bounds, lines); squares and the steepest. Nothing here speaks of a program. -/
import Derived.Test.YtoghdmoblehnmaaFilterMath
set_option linter.unusedVariables false
namespace Go.Proofs.Ytoghdmoblehnmaa.Slope
open Go.RowKit
/-- What came last against what came as far behind the middle. -/
def sumT (h : List Int) : Int := 2 * cameT 142847 h 0 + cameT 142847 h 1 - cameT 142847 h 3 - 2 * cameT 142847 h 4
/-- What a slope filter answers of all that came. -/
def slopeT (h : List Int) : Int := sumT h / 8
theorem came_slope (h : List Int) (k : Nat) : -142847 ≤ cameT 142847 h k ∧ cameT 142847 h k ≤ 142847 := came_bd 142847 h k (by omega)
theorem sum_bd (h : List Int) : -857082 ≤ sumT h ∧ sumT h ≤ 857082 := by
  have h0 := came_slope h 0; have h1 := came_slope h 1; have h3 := came_slope h 3; have h4 := came_slope h 4
  unfold sumT; omega
theorem slope_bd (h : List Int) : -107136 ≤ slopeT h ∧ slopeT h ≤ 107136 := by
  have := sum_bd h
  unfold slopeT; omega
/-- The first so many values of a line, the last one first. -/
def lineT (f k : Int) : Nat → List Int
  | 0 => []
  | i + 1 => (f + 4 * k * (i : Int)) :: lineT f k i
theorem line_at (f k : Int) (h : List Int) : ∀ (i j : Nat), j < i → (lineT f k i ++ h).getD j 0 = f + 4 * k * ((i : Int) - 1 - j)
  | 0, j, hj => absurd hj (by omega)
  | i + 1, 0, _ => by
    show f + 4 * k * (i : Int) = _
    rw [show ((i + 1 : Nat) : Int) - 1 - (0 : Nat) = (i : Int) by omega]
  | i + 1, j + 1, hj => by
    have h1 := line_at f k h i j (by omega)
    show (lineT f k i ++ h).getD j 0 = _
    rw [h1, show ((i + 1 : Nat) : Int) - 1 - (j + 1 : Nat) = (i : Int) - 1 - j by omega]
/-- Of values that rise by four times k in each step it is five times k, from the fifth one on. -/
theorem slope_line (f k : Int) (h : List Int) (i : Nat) (hi : 4 ≤ (i : Int)) (hi2 : i < 20) (hf : -32768 ≤ f ∧ f ≤ 32767) (hk : -999 ≤ k ∧ k ≤ 999) : slopeT (lineT f k (i + 1) ++ h) = 5 * k := by
  have hc : ∀ j : Nat, j ≤ 4 → cameT 142847 (lineT f k (i + 1) ++ h) j = f + 4 * k * ((i : Int) - j) := fun j hj => by
    have h1 := line_at f k h (i + 1) j (by omega)
    rw [show ((i + 1 : Nat) : Int) - 1 - j = (i : Int) - j by omega] at h1
    have h2 := mul_bd (4 * k) ((i : Int) - j) 3996 19 (by omega) (by omega)
    unfold cameT
    rw [h1]
    exact nearTo_in _ _ (by omega) (by omega)
  unfold slopeT sumT
  rw [hc 0 (by omega), hc 1 (by omega), hc 3 (by omega), hc 4 (by omega)]
  simp only [Int.mul_sub]
  generalize 4 * k * (i : Int) = q
  omega
theorem rise_bd (f k : Int) (i : Nat) (hi : i < 20) (hf : -32768 ≤ f ∧ f ≤ 32767) (hk : -999 ≤ k ∧ k ≤ 999) : -75924 ≤ 4 * k * (i : Int) ∧ 4 * k * (i : Int) ≤ 75924 := by
  have h2 := mul_bd (4 * k) (i : Int) 3996 19 (by omega) (by omega)
  omega
/-- The square of a number, at most the clamp. -/
def squareT (d : Int) : Int := if 8191 < d ∨ d < -8191 then 67108864 else d * d
theorem square_bd (d : Int) : 0 ≤ squareT d ∧ squareT d ≤ 67108864 := by
  unfold squareT
  split
  · omega
  · have h1 := mul_bd d d 8191 8191 (by omega) (by omega)
    have h2 : 0 ≤ d * d := by
      have := Int.natAbs_mul_self (a := d)
      omega
    omega
/-- The lesser of the true square and the clamp. -/
theorem square_min (d : Int) : (if 67108864 < d * d then 67108864 else d * d) = squareT d := by
  have h0 : d * d = ((d.natAbs * d.natAbs : Nat) : Int) := (Int.natAbs_mul_self (a := d)).symm
  unfold squareT
  by_cases hd : 8191 < d ∨ d < -8191
  · have h1 : 8192 * 8192 ≤ d.natAbs * d.natAbs := Nat.mul_le_mul (by omega) (by omega)
    rw [if_pos hd]
    split <;> omega
  · have h1 : d.natAbs * d.natAbs ≤ 8191 * 8191 := Nat.mul_le_mul (by omega) (by omega)
    rw [if_neg hd, if_neg (by omega)]
theorem square_over (d : Int) (h : ¬ fits64 (d * d)) : squareT d = 67108864 := by
  unfold squareT
  by_cases hd : 8191 < d ∨ d < -8191
  · rw [if_pos hd]
  · have h1 := mul_bd d d 8191 8191 (by omega) (by omega)
    unfold fits64 at h
    omega
/-- How far a number of 64 bits is from 0; that of -2^63 is one less. -/
def distT (d : Int) : Int := if d = -9223372036854775808 then 9223372036854775807 else if d < 0 then -d else d
/-- The greatest distance of all; of none 0. -/
def steepT : List Int → Int
  | [] => 0
  | d :: l => if steepT l < distT d then distT d else steepT l
theorem steep_bd (l : List Int) (h : ∀ d ∈ l, fits64 d) : 0 ≤ steepT l ∧ steepT l ≤ 9223372036854775807 := by
  induction l with
  | nil => decide
  | cons d l ih =>
    have h1 := ih (fun u hu => h u (List.mem_cons_of_mem _ hu))
    have h2 := h d (List.mem_cons_self ..)
    unfold fits64 at h2
    unfold steepT distT
    split <;> (try split) <;> (try split) <;> omega
theorem steep_snoc (d : Int) : ∀ l : List Int, steepT (l ++ [d]) = if steepT l < distT d then distT d else steepT l
  | [] => by simp [steepT]
  | u :: l => by
    have := steep_snoc d l
    simp only [List.cons_append, steepT, this]
    repeat' split
    all_goals omega
theorem steep_step (l : List Int) (j : Nat) (hj : j < l.length) : steepT (l.take (j + 1)) = if steepT (l.take j) < distT (l.getD j 0) then distT (l.getD j 0) else steepT (l.take j) := by
  rw [List.take_succ_eq_append_getElem hj, steep_snoc, List.getD_eq_getElem?_getD, List.getElem?_eq_getElem hj]
  rfl
end Go.Proofs.Ytoghdmoblehnmaa.Slope
