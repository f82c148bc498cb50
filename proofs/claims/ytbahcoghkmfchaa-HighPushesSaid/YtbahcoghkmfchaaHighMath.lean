/- What a high filter answers of all that came; what follows of it (bounds, even values, what is forgotten). Nothing here speaks of a program. -/
import Derived.Test.YtbahcoghkmfchaaFilterMath
import Derived.Test.YtbahcoghkmfchaaLineMath
set_option linter.unusedVariables false
namespace Go.Proofs.Ytbahcoghkmfchaa.High
open Go.RowKit
/-- The sum of the first j of all that came (the last value first), as it counts. -/
def sumT (h : List Int) (j : Nat) : Int := ((h.map (nearTo 73727)).take j).sum
/-- 32 times the middle, less the sum of the last 32. -/
def wholeT (h : List Int) : Int := 32 * cameT 73727 h 16 - sumT h 32
/-- What a high filter answers of all that came. -/
def highT (h : List Int) : Int := wholeT h / 32
theorem came_high (h : List Int) (k : Nat) : -73727 ≤ cameT 73727 h k ∧ cameT 73727 h k ≤ 73727 := came_bd 73727 h k (by omega)
theorem sum_none (h : List Int) : sumT h 0 = 0 := by simp [sumT]
theorem sum_win (h : List Int) : winSum 31 (h.map (nearTo 73727)) = sumT h 32 := rfl
theorem sum_step (h : List Int) (j : Nat) : sumT h (j + 1) = sumT h j + cameT 73727 h j := by
  rw [← came_map 73727 h j (by omega)]
  unfold sumT
  generalize h.map (nearTo 73727) = l
  rcases Nat.lt_or_ge j l.length with hl | hl
  · rw [List.take_succ_eq_append_getElem hl, List.sum_append, List.getD_eq_getElem?_getD, List.getElem?_eq_getElem hl]
    simp
  · rw [List.take_of_length_le hl, List.take_of_length_le (by omega), List.getD_eq_getElem?_getD, List.getElem?_eq_none hl]
    simp
theorem sum_near (h : List Int) (i m : Nat) : -(73727 * (m : Int)) ≤ sumT h (i + m) - sumT h i ∧ sumT h (i + m) - sumT h i ≤ 73727 * (m : Int) := by
  induction m with
  | zero => simp
  | succ m ih =>
    have h1 := sum_step h (i + m)
    have h2 := came_high h (i + m)
    rw [show i + (m + 1) = i + m + 1 by omega]
    omega
theorem sum_bd (h : List Int) (j : Nat) (hj : j ≤ 32) : -2359264 ≤ sumT h j ∧ sumT h j ≤ 2359264 := by
  have h1 := sum_near h 0 j
  rw [Nat.zero_add, sum_none] at h1
  omega
theorem sum_wrap (h : List Int) : wrap64 (winSum 31 (h.map (nearTo 73727))) = sumT h 32 := by
  rw [sum_win]
  have h1 := sum_bd h 32 (by omega)
  unfold wrap64
  omega
theorem whole_bd (h : List Int) : -4571074 ≤ wholeT h ∧ wholeT h ≤ 4571074 := by
  have h1 := sum_near h 0 16
  have h2 := sum_step h 16
  have h3 := sum_near h 17 15
  have h4 := came_high h 16
  rw [Nat.zero_add, sum_none] at h1
  rw [show 16 + 1 = 17 from rfl] at h2
  rw [show 17 + 15 = 32 from rfl] at h3
  unfold wholeT
  omega
theorem high_bd (h : List Int) : -142847 ≤ highT h ∧ highT h ≤ 142847 := by
  have := whole_bd h
  unfold highT; omega
theorem sum_even (h : List Int) (v : Int) (hv : ∀ k, k < 32 → cameT 73727 h k = v) (j : Nat) (hj : j ≤ 32) : sumT h j = v * (j : Int) := by
  induction j with
  | zero => simp [sum_none]
  | succ j ih =>
    rw [sum_step, ih (by omega), hv j (by omega)]
    rw [Int.natCast_add, Int.mul_add]
    simp
/-- Of a value that came the last 32 times it is 0. -/
theorem high_even (l h : List Int) (v : Int) (hl : 32 ≤ l.length) (hv : ∀ u ∈ l, u = v) : highT (l ++ h) = 0 := by
  have hc : ∀ k, k < 32 → cameT 73727 (l ++ h) k = nearTo 73727 v := fun k hk => by
    rw [came_append 73727 l h k (by omega)]
    exact came_mem 73727 l k v (by omega) hv
  have hs := sum_even (l ++ h) (nearTo 73727 v) hc 32 (by omega)
  unfold highT wholeT
  rw [hs, hc 16 (by omega)]
  omega
/-- What came 32 steps ago, and more, plays no part. -/
theorem high_forgets (l h k : List Int) (hl : 32 ≤ l.length) : highT (l ++ h) = highT (l ++ k) := by
  unfold highT wholeT sumT
  rw [came_append 73727 l _ _ (show 16 < l.length by omega), came_append 73727 l _ _ (show 16 < l.length by omega), List.map_append, List.map_append, List.take_append_of_le_length (by simpa using hl), List.take_append_of_le_length (by simpa using hl)]
end Go.Proofs.Ytbahcoghkmfchaa.High
