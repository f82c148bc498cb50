/- What a window of squares answers of all that came; what follows of it (bounds, rises, what is forgotten). Nothing here speaks of a program. -/
import Derived.Test.YtlbppllfmephdaaFilterMath
import Derived.Test.YtlbppllfmephdaaLineMath
set_option linter.unusedVariables false
namespace Go.Proofs.Ytlbppllfmephdaa.Win
open Go.RowKit
/-- The nearest number from 0 to the clamp. -/
def nearS (v : Int) : Int := clampZ v 0 67108864
theorem nearS_bd (v : Int) : 0 ≤ nearS v ∧ nearS v ≤ 67108864 := by unfold nearS clampZ; split <;> (try split) <;> omega
theorem nearS_zero : nearS 0 = 0 := rfl
theorem nearS_mono (u v : Int) (h : u ≤ v) : nearS u ≤ nearS v := by unfold nearS clampZ; split <;> split <;> (try split) <;> (try split) <;> omega
/-- As the reference writes it. -/
theorem nearS_ifs (v : Int) : nearS v = if 67108864 < (if v < 0 then 0 else v) then 67108864 else (if v < 0 then 0 else v) := by unfold nearS clampZ; split <;> (try split) <;> (try split) <;> omega
/-- What counts of what came k steps ago. -/
def cameS (h : List Int) (k : Nat) : Int := nearS (h.getD k 0)
theorem cameS_bd (h : List Int) (k : Nat) : 0 ≤ cameS h k ∧ cameS h k ≤ 67108864 := nearS_bd _
theorem cameS_map (h : List Int) (k : Nat) : (h.map nearS).getD k 0 = cameS h k := by
  unfold cameS
  rw [List.getD_eq_getElem?_getD, List.getD_eq_getElem?_getD, List.getElem?_map]
  cases h[k]? with
  | none => simp [nearS_zero]
  | some v => rfl
/-- The sum of the first j of all that came (the last value first), as it counts. -/
def sumT (h : List Int) (j : Nat) : Int := ((h.map nearS).take j).sum
/-- What a window of squares answers of all that came. -/
def winT (h : List Int) : Int := sumT h 30 / 32
theorem sum_none (h : List Int) : sumT h 0 = 0 := by simp [sumT]
theorem sum_win (h : List Int) : winSum 29 (h.map nearS) = sumT h 30 := rfl
theorem sum_cons (v : Int) (h : List Int) (j : Nat) : sumT (v :: h) (j + 1) = nearS v + sumT h j := by simp [sumT]
theorem sum_step (h : List Int) (j : Nat) : sumT h (j + 1) = sumT h j + cameS h j := by
  rw [← cameS_map h j]
  unfold sumT
  generalize h.map nearS = l
  rcases Nat.lt_or_ge j l.length with hl | hl
  · rw [List.take_succ_eq_append_getElem hl, List.sum_append, List.getD_eq_getElem?_getD, List.getElem?_eq_getElem hl]
    simp
  · rw [List.take_of_length_le hl, List.take_of_length_le (by omega), List.getD_eq_getElem?_getD, List.getElem?_eq_none hl]
    simp
theorem sum_near (h : List Int) (j : Nat) : 0 ≤ sumT h j ∧ sumT h j ≤ 67108864 * (j : Int) := by
  induction j with
  | zero => simp [sum_none]
  | succ j ih =>
    have h1 := sum_step h j
    have h2 := cameS_bd h j
    omega
theorem sum_bd (h : List Int) (j : Nat) (hj : j ≤ 30) : 0 ≤ sumT h j ∧ sumT h j ≤ 2013265920 := by
  have h1 := sum_near h j
  omega
/-- The sum of as many as there are is the sum of all. -/
theorem sum_few (h : List Int) (j : Nat) (hj : h.length ≤ j) (hj2 : j ≤ 30) : sumT h j = sumT h 30 := by
  unfold sumT
  rw [List.take_of_length_le (by simpa using hj), List.take_of_length_le (by rw [List.length_map]; omega)]
theorem sum_wrap (h : List Int) : wrap64 (winSum 29 (h.map nearS)) = sumT h 30 := by
  rw [sum_win]
  have h1 := sum_bd h 30 (by omega)
  unfold wrap64
  omega
theorem win_bd (h : List Int) : 0 ≤ winT h ∧ winT h ≤ 62914560 := by
  have := sum_bd h 30 (by omega)
  unfold winT; omega
theorem win_none : winT [] = 0 := rfl
/-- It does not fall where what comes is not less than what leaves. -/
theorem win_rises (v : Int) (h : List Int) (hv : h.getD 29 0 ≤ v ∨ h.getD 29 0 ≤ 0) : winT h ≤ winT (v :: h) := by
  have h1 := sum_step h 29
  have h2 := sum_cons v h 29
  have h3 : cameS h 29 ≤ nearS v := by
    unfold cameS
    rcases hv with hv | hv
    · exact nearS_mono _ _ hv
    · have h4 := nearS_mono _ _ hv
      have h5 := nearS_bd v
      rw [nearS_zero] at h4
      omega
  rw [show 29 + 1 = 30 from rfl] at h1 h2
  unfold winT
  omega
/-- What came 30 steps ago, and more, plays no part. -/
theorem win_forgets (l h k : List Int) (hl : 30 ≤ l.length) : winT (l ++ h) = winT (l ++ k) := by
  unfold winT sumT
  rw [List.map_append, List.map_append, List.take_append_of_le_length (by simpa using hl), List.take_append_of_le_length (by simpa using hl)]
end Go.Proofs.Ytlbppllfmephdaa.Win
