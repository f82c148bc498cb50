/- How often what came crosses a height on its way up (the last value first), of the last 400; what follows of it. Nothing here speaks of a program. -/
import GoSem.Claim
import Derived.WalkKit
set_option linter.unusedVariables false
namespace Go.Proofs.Ytpmjgomfjfhfkaa.Fib
open Go.RowKit
/-- Is the last value below the height? (None is not.) -/
def belowH (H : Int) : List Int → Bool
  | [] => false
  | u :: _ => decide (u < H)
/-- Is the last value a crossing? 1, if so. -/
def crossT (H : Int) : List Int → Int
  | [] => 0
  | v :: h => if belowH H h = true ∧ ¬ v < H then 1 else 0
/-- All crossings, the last one first. -/
def crossesT (H : Int) : List Int → List Int
  | [] => []
  | v :: h => crossT H (v :: h) :: crossesT H h
/-- How many of the last 400 values are crossings. -/
def countT (H : Int) (h : List Int) : Int := ((crossesT H h).take 400).sum
theorem cross_code (H v : Int) (h : List Int) : crossT H (v :: h) = if belowH H h = true ∧ ¬ v < H then 1 else 0 := rfl
theorem below_code (H v : Int) (h : List Int) : belowH H (v :: h) = decide (v < H) := rfl
theorem cross_bd (H : Int) (h : List Int) : 0 ≤ crossT H h ∧ crossT H h ≤ 1 := by
  cases h with
  | nil => exact ⟨Int.le_refl _, by show (0 : Int) ≤ 1; omega⟩
  | cons v h => rw [cross_code]; split <;> omega
theorem crosses_len (H : Int) (h : List Int) : (crossesT H h).length = h.length := by
  induction h with
  | nil => rfl
  | cons v h ih => simp [crossesT, ih]
theorem count_none (H : Int) : countT H [] = 0 := rfl
/-- Two in a row are never both crossings. -/
theorem cross_two (H : Int) (v u : Int) (h : List Int) : crossT H (v :: u :: h) + crossT H (u :: h) ≤ 1 := by
  rw [cross_code, cross_code, below_code]
  simp only [decide_eq_true_iff]
  split <;> split <;> omega
theorem crosses_half (H : Int) : ∀ (k : Nat) (h : List Int), 0 ≤ ((crossesT H h).take (2 * k)).sum ∧ ((crossesT H h).take (2 * k)).sum ≤ (k : Int)
  | 0, h => by simp
  | k + 1, [] => by
    show (0 : Int) ≤ 0 ∧ (0 : Int) ≤ ((k + 1 : Nat) : Int)
    omega
  | k + 1, [v] => by
    have := cross_bd H [v]
    simp only [crossesT, show 2 * (k + 1) = 2 * k + 1 + 1 by omega, List.take_succ_cons, List.take_nil, List.sum_cons, List.sum_nil]
    push_cast
    omega
  | k + 1, v :: u :: h => by
    have h1 := crosses_half H k h
    have h2 := cross_two H v u h
    have h3 := cross_bd H (v :: u :: h)
    have h4 := cross_bd H (u :: h)
    simp only [crossesT, show 2 * (k + 1) = 2 * k + 1 + 1 by omega, List.take_succ_cons, List.sum_cons]
    push_cast
    omega
/-- From 0 to half of the window. -/
theorem count_bd (H : Int) (h : List Int) : 0 ≤ countT H h ∧ countT H h ≤ 200 := crosses_half H 200 h
/-- What came ahead of so many values, and one more, plays no part. -/
theorem crosses_forget (H : Int) : ∀ (n : Nat) (l h : List Int), n < l.length → (crossesT H (l ++ h)).take n = (crossesT H l).take n
  | 0, _, _, _ => by simp
  | n + 1, [], _, hl => by simp at hl
  | n + 1, [v], _, hl => by simp at hl
  | n + 1, v :: u :: l, h, hl => by
    have ih := crosses_forget H n (u :: l) h (by simp at hl ⊢; omega)
    simp only [List.cons_append, crossesT, List.take_succ_cons] at ih ⊢
    rw [ih]
    rfl
theorem count_forgets (H : Int) (l h k : List Int) (hl : 400 < l.length) : countT H (l ++ h) = countT H (l ++ k) := by
  unfold countT
  rw [crosses_forget H 400 l h hl, crosses_forget H 400 l k hl]
theorem zeros_sum (H : Int) (h : List Int) (hz : ∀ c ∈ crossesT H h, c = 0) : countT H h = 0 := by
  unfold countT
  have : ∀ l : List Int, (∀ c ∈ l, c = 0) → l.sum = 0 := fun l => by
    induction l with
    | nil => intro _; rfl
    | cons x l ih => intro h; rw [List.sum_cons, h x (by simp), ih (fun c hc => h c (by simp [hc]))]; rfl
  exact this _ (fun c hc => hz c (List.mem_of_mem_take hc))
theorem crosses_below (H : Int) : ∀ h : List Int, (∀ v ∈ h, v < H) → ∀ c ∈ crossesT H h, c = 0
  | [], _, c, hc => by simp [crossesT] at hc
  | v :: h, hb, c, hc => by
    rcases List.mem_cons.1 hc with rfl | hc
    · rw [cross_code, if_neg (fun h9 => h9.2 (hb v (by simp)))]
    · exact crosses_below H h (fun u hu => hb u (by simp [hu])) c hc
theorem crosses_above (H : Int) : ∀ h : List Int, (∀ v ∈ h, H ≤ v) → ∀ c ∈ crossesT H h, c = 0
  | [], _, c, hc => by simp [crossesT] at hc
  | v :: h, hb, c, hc => by
    rcases List.mem_cons.1 hc with rfl | hc
    · rw [cross_code, if_neg]
      rintro ⟨h1, _⟩
      cases h with
      | nil => simp [belowH] at h1
      | cons u h => have := hb u (by simp); rw [below_code, decide_eq_true_iff] at h1; omega
    · exact crosses_above H h (fun u hu => hb u (by simp [hu])) c hc
/-- Of values that are all below the height it is 0. -/
theorem count_below (H : Int) (h : List Int) (hb : ∀ v ∈ h, v < H) : countT H h = 0 := zeros_sum H h (crosses_below H h hb)
/-- Of values of which none is below the height it is 0. -/
theorem count_above (H : Int) (h : List Int) (hb : ∀ v ∈ h, H ≤ v) : countT H h = 0 := zeros_sum H h (crosses_above H h hb)
/-- Is the value at that place (the first one first) a crossing? -/
def crossAt (H : Int) (l : List Int) (i : Nat) : Int := if i = 0 then 0 else if H ≤ l.getD i 0 ∧ l.getD (i - 1) 0 < H then 1 else 0
/-- All crossings, the first one first. -/
def rowT (H : Int) (l : List Int) : List Int := (crossesT H l.reverse).reverse
theorem row_len (H : Int) (l : List Int) : (rowT H l).length = l.length := by unfold rowT; rw [List.length_reverse, crosses_len, List.length_reverse]
theorem row_snoc (H : Int) (l : List Int) (v : Int) : rowT H (l ++ [v]) = rowT H l ++ [crossT H (v :: l.reverse)] := by
  unfold rowT
  rw [List.reverse_append]
  simp [crossesT]
theorem getD_left (l : List Int) (v : Int) (i : Nat) (h : i < l.length) : (l ++ [v]).getD i 0 = l.getD i 0 := by
  rw [List.getD_eq_getElem?_getD, List.getElem?_append_left h, ← List.getD_eq_getElem?_getD]
theorem getD_last (l : List Int) (v : Int) : (l ++ [v]).getD l.length 0 = v := by
  rw [List.getD_eq_getElem?_getD, List.getElem?_append_right (Nat.le_refl _), Nat.sub_self]; rfl
theorem below_last (H : Int) (l : List Int) (h0 : 0 < l.length) : belowH H l.reverse = decide (l.getD (l.length - 1) 0 < H) := by
  rcases List.eq_nil_or_concat l with rfl | ⟨m, u, rfl⟩
  · simp at h0
  · rw [List.concat_eq_append, List.reverse_append, show (m ++ [u]).length - 1 = m.length by simp, getD_last]
    rfl
theorem row_at (H : Int) (n : Nat) : ∀ (l : List Int) (i : Nat), l.length = n → i < n → (rowT H l).getD i 0 = crossAt H l i := by
  induction n with
  | zero => intro l i _ hi; omega
  | succ n ih =>
    intro l i hl hi
    rcases List.eq_nil_or_concat l with rfl | ⟨m, v, rfl⟩
    · simp at hl
    · rw [List.concat_eq_append] at hl ⊢
      have hm : m.length = n := by simpa using hl
      rw [row_snoc]
      rcases Nat.lt_or_ge i n with h1 | h1
      · rw [getD_left _ _ _ (by rw [row_len]; omega), ih m i hm h1]
        unfold crossAt
        rw [getD_left _ _ _ (by omega)]
        by_cases h0 : i = 0
        · rw [if_pos h0, if_pos h0]
        · rw [getD_left _ _ _ (by omega)]
      · obtain rfl : i = n := by omega
        have h2 := getD_last (rowT H m) (crossT H (v :: m.reverse))
        rw [row_len, hm] at h2
        rw [h2]
        have h3 := getD_last m v
        rw [hm] at h3
        rw [cross_code]
        unfold crossAt
        rw [h3]
        by_cases h0 : i = 0
        · have : m = [] := List.length_eq_zero_iff.1 (by omega)
          subst this
          rw [if_pos h0]
          simp [belowH]
        · rw [if_neg h0, getD_left _ _ _ (by omega), below_last H m (by omega), hm]
          have : (decide (m.getD (i - 1) 0 < H) = true ∧ ¬ v < H) ↔ (H ≤ v ∧ m.getD (i - 1) 0 < H) := by
            rw [decide_eq_true_iff]; omega
          by_cases h4 : H ≤ v ∧ m.getD (i - 1) 0 < H
          · rw [if_pos h4, if_pos (this.2 h4)]
          · rw [if_neg h4, if_neg (fun h5 => h4 (this.1 h5))]
/-- How many crossings there are from place a on, ahead of place j. -/
def partT (H : Int) (l : List Int) (a j : Nat) : Int := (((rowT H l).take j).drop a).sum
theorem part_none (H : Int) (l : List Int) (a : Nat) : partT H l a a = 0 := by
  unfold partT
  rw [List.drop_of_length_le (by rw [List.length_take]; omega)]
  rfl
theorem part_step (H : Int) (l : List Int) (a j : Nat) (haj : a ≤ j) (hj : j < l.length) : partT H l a (j + 1) = partT H l a j + crossAt H l j := by
  have h1 : j < (rowT H l).length := by rw [row_len]; exact hj
  have h2 := row_at H l.length l j rfl hj
  rw [List.getD_eq_getElem?_getD, List.getElem?_eq_getElem h1] at h2
  unfold partT
  rw [List.take_succ_eq_append_getElem h1, List.drop_append_of_le_length (by rw [List.length_take]; omega), List.sum_append]
  simp at h2 ⊢
  omega
theorem part_bd (H : Int) (l : List Int) (a j : Nat) : 0 ≤ partT H l a j ∧ partT H l a j ≤ j := by
  have : ∀ (m : List Int), (∀ c ∈ m, 0 ≤ c ∧ c ≤ 1) → 0 ≤ m.sum ∧ m.sum ≤ m.length := fun m => by
    induction m with
    | nil => intro _; simp
    | cons x m ih =>
      intro h
      have h1 := h x (by simp)
      have h2 := ih (fun c hc => h c (by simp [hc]))
      rw [List.sum_cons, List.length_cons]
      push_cast
      omega
  have hc : ∀ h : List Int, ∀ c ∈ crossesT H h, 0 ≤ c ∧ c ≤ 1 := fun h => by
    induction h with
    | nil => intro c hc; simp [crossesT] at hc
    | cons v h ih =>
      intro c hc
      rcases List.mem_cons.1 hc with rfl | hc
      · exact cross_bd H _
      · exact ih c hc
  have h1 := this (((rowT H l).take j).drop a) (fun c hc' => hc l.reverse c (by have := List.mem_of_mem_take (List.mem_of_mem_drop hc'); unfold rowT at this; exact List.mem_reverse.1 this))
  have h2 : (((rowT H l).take j).drop a).length ≤ j := by rw [List.length_drop, List.length_take]; omega
  unfold partT
  omega
/-- All of them, from the greater one of 1 and so many from the end on. -/
theorem part_all (H : Int) (l : List Int) : partT H l (if 1 < l.length - 400 then l.length - 400 else 1) l.length = countT H l.reverse := by
  have h0 : countT H l.reverse = ((rowT H l).drop (l.length - 400)).sum := by
    unfold countT rowT
    rw [List.drop_reverse, List.sum_reverse, crosses_len, List.length_reverse]
    rcases Nat.lt_or_ge l.length 400 with h | h
    · rw [List.take_of_length_le (by rw [crosses_len, List.length_reverse]; omega), List.take_of_length_le (by rw [crosses_len, List.length_reverse]; omega)]
    · rw [show l.length - (l.length - 400) = 400 by omega]
  have h1 : ∀ a, partT H l a l.length = ((rowT H l).drop a).sum := fun a => by
    unfold partT
    rw [List.take_of_length_le (by rw [row_len]; omega)]
  rw [h0, h1]
  split
  · rfl
  · rename_i h2
    rcases Nat.lt_or_ge (l.length - 400) 1 with h3 | h3
    · rw [show l.length - 400 = 0 by omega, List.drop_zero]
      rcases Nat.eq_zero_or_pos l.length with h4 | h4
      · have : rowT H l = [] := List.length_eq_zero_iff.1 (by rw [row_len]; exact h4)
        rw [this]; rfl
      · have h5 := row_at H l.length l 0 rfl h4
        have h6 : 0 < (rowT H l).length := by rw [row_len]; exact h4
        rw [List.drop_one]
        cases hr : rowT H l with
        | nil => rw [hr] at h6; simp at h6
        | cons c cs =>
          rw [hr] at h5
          simp [crossAt] at h5
          subst h5
          simp
    · rw [show l.length - 400 = 1 by omega]
theorem live_count : countT 5 [5, 4, 9, 5, 0] = 2 := by decide
end Go.Proofs.Ytpmjgomfjfhfkaa.Fib
