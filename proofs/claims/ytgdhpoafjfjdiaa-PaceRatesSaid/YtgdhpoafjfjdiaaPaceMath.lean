/- What a pace answers of all distances that came (the last one first): means, what is late, rates; what follows of it. Nothing here speaks of a program. -/
import Derived.Test.YtgdhpoafjfjdiaaFixqMath
set_option linter.unusedVariables false
namespace Go.Proofs.Ytgdhpoafjfjdiaa.Pace
open Go.RowKit
/-- What a distance counts as. -/
def distR (v : Int) : Int := clampZ v 1 1073741824
theorem distR_bd (v : Int) : 1 ≤ distR v ∧ distR v ≤ 1073741824 := by unfold distR clampZ; split <;> (try split) <;> omega
theorem distR_in (v : Int) (h : 1 ≤ v ∧ v ≤ 1073741824) : distR v = v := by unfold distR clampZ; rw [if_neg (by omega), if_neg (by omega)]
/-- As min and max read. -/
theorem distR_ifs (v m : Int) (hm : (if v < 1 then 1 else v) = m) : (if 1073741824 < m then 1073741824 else m) = distR v := by
  subst hm; unfold distR clampZ; repeat' split
  all_goals omega
/-- How many count. -/
def many (h : List Int) : Nat := min h.length 8
/-- The sum of the last ones, as they count. -/
def sumR (h : List Int) : Int := ((h.map distR).take 8).sum
def meanT (h : List Int) : Int := if h.length = 0 then 0 else sumR h / (many h : Int)
def lateT (h : List Int) (since : Int) : Bool := decide (0 < h.length) && decide (5 * meanT h / 3 < since)
def rateT (rr : Int) : Int := if rr < 1 then 0 else 12000 / rr
theorem sums_bd : ∀ (l : List Int) (lo hi : Int), (∀ v ∈ l, lo ≤ v ∧ v ≤ hi) → lo * (l.length : Int) ≤ l.sum ∧ l.sum ≤ hi * (l.length : Int)
  | [], _, _, _ => by simp
  | x :: l, lo, hi, h => by
    have h1 := h x (by simp)
    have h2 := sums_bd l lo hi (fun v hv => h v (by simp [hv]))
    rw [List.sum_cons, List.length_cons]
    push_cast
    rw [Int.mul_add, Int.mul_add]
    omega
theorem sum_len (h : List Int) : ((h.map distR).take 8).length = many h := by simp [many, Nat.min_comm]
theorem sumR_bd (h : List Int) : (many h : Int) ≤ sumR h ∧ sumR h ≤ 1073741824 * (many h : Int) := by
  have h1 := sums_bd ((h.map distR).take 8) 1 1073741824 (fun v hv => by
    obtain ⟨u, _, rfl⟩ := List.mem_map.1 (List.mem_of_mem_take hv)
    exact distR_bd u)
  rw [sum_len] at h1
  unfold sumR
  omega
theorem many_bd (h : List Int) : many h ≤ 8 := by unfold many; omega
theorem mean_none : meanT [] = 0 := rfl
/-- A mean between. -/
theorem mean_between (h : List Int) (lo hi : Int) (h0 : 0 < h.length) (hb : ∀ v ∈ (h.map distR).take 8, lo ≤ v ∧ v ≤ hi) : lo ≤ meanT h ∧ meanT h ≤ hi := by
  have h1 := sums_bd _ lo hi hb
  rw [sum_len] at h1
  have hm : 0 < (many h : Int) := by unfold many; omega
  unfold meanT
  rw [if_neg (by omega)]
  exact ⟨(Int.le_ediv_iff_mul_le hm).2 h1.1, Int.le_of_lt_add_one (Int.ediv_lt_of_lt_mul hm (by rw [Int.add_mul]; unfold sumR; omega))⟩
theorem mean_bd (h : List Int) : 0 ≤ meanT h ∧ meanT h ≤ 1073741824 := by
  by_cases h0 : h.length = 0
  · unfold meanT; rw [if_pos h0]; omega
  · have := mean_between h 1 1073741824 (by omega) (fun v hv => by
      obtain ⟨u, _, rfl⟩ := List.mem_map.1 (List.mem_of_mem_take hv)
      exact distR_bd u)
    omega
theorem late_later (h : List Int) (s : Int) (hl : lateT h s = true) : lateT h (s + 1) = true := by
  unfold lateT at *
  simp only [Bool.and_eq_true, decide_eq_true_eq] at *
  omega
theorem late_not (h : List Int) (s : Int) (hs : s ≤ 0) : lateT h s = false := by
  have := mean_bd h
  unfold lateT
  simp only [Bool.and_eq_false_iff, decide_eq_false_iff_not]
  right; omega
/-- What comes to 5 times the greatest is late. -/
theorem late_most (h : List Int) (m : Int) (h0 : 0 < h.length) (hm : meanT h ≤ m) (h1 : 1 ≤ meanT h) : lateT h (5 * m) = true := by
  unfold lateT
  simp only [Bool.and_eq_true, decide_eq_true_eq]
  omega
/-- The sum, of the list in its order, from place a on. -/
theorem sum_drop (l : List Int) : ((l.drop (l.length - 8)).map distR).sum = sumR l.reverse := by
  unfold sumR
  rw [List.map_reverse, List.take_reverse, List.sum_reverse, List.length_map, List.map_drop]
theorem rate_bd (rr : Int) : 0 ≤ rateT rr ∧ rateT rr ≤ 12000 := by
  unfold rateT
  split
  · omega
  · rename_i h
    exact ⟨Int.ediv_nonneg (by omega) (by omega), Int.ediv_le_self _ (by omega)⟩
/-- A rate is a floor. -/
theorem rate_floor (rr : Int) (h1 : 1 ≤ rr) : rateT rr * rr ≤ 12000 ∧ 12000 < (rateT rr + 1) * rr := by
  unfold rateT
  rw [if_neg (by omega)]
  exact ⟨Int.ediv_mul_le _ (by omega), Int.lt_ediv_add_one_mul_self _ (by omega)⟩
end Go.Proofs.Ytgdhpoafjfjdiaa.Pace
