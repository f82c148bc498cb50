/- The reference's Read: what a text says as a number. -/
import Derived.Test.YtmefdgmbpihdfaaDoorTextRef
set_option linter.unusedSimpArgs false
set_option linter.unusedVariables false
namespace Go.Proofs.YtmefdgmbpihdfaaDoor.Txt
open Go.RowKit RU8
theorem str_isEmpty (l : List Nat) : (str l).toList.isEmpty = l.isEmpty := by rw [ByteArray.toList_eq, str_data, List.isEmpty_map]
theorem str_isNil (l : List Nat) : ((str l).toList = []) = (l = []) := by rw [ByteArray.toList_eq, str_data]; simp
theorem val_lt (d : List Nat) (hd : ∀ c ∈ d, Digit c) : valT d < 10 ^ d.length := by
  induction d using rev_ind with
  | nil => decide
  | append_singleton d c ih =>
    have hc : Digit c := hd c (by simp)
    have := ih fun x hx => hd x (by simp [hx])
    unfold Digit at hc
    rw [valT_append, List.length_append, List.length_singleton, Nat.pow_succ]
    omega
/-- What readT says of a text whose sign is settled: neg, and d behind it. -/
def tailT (neg : Bool) (d : List Nat) : Int × Int :=
  if d = [] ∨ (d.getD 0 0 = 48 ∧ (1 < d.length ∨ neg = true)) ∨ ¬ (∀ c ∈ d, Digit c) then (0, 8)
  else if 9223372036854775808 < valT d ∨ (valT d = 9223372036854775808 ∧ neg = false) then (0, 9)
  else (if neg then -(valT d : Int) else (valT d : Int), 0)
theorem readT_neg (d : List Nat) : readT (45 :: d) = tailT true d := by unfold readT tailT; simp
theorem readT_pos (l : List Nat) (h : l.getD 0 0 ≠ 45) : readT l = tailT false l := by unfold readT tailT; rw [decide_eq_false h]; simp
theorem tail_bad {neg : Bool} {d : List Nat} (h : d = [] ∨ (d.getD 0 0 = 48 ∧ (1 < d.length ∨ neg = true)) ∨ ¬ (∀ c ∈ d, Digit c)) : tailT neg d = (0, 8) := if_pos h
/-- All digits so far. -/
def SoFar (d : List Nat) (j : Nat) (v : Int) : Prop := j ≤ d.length ∧ (∀ k, k < j → Digit (d.getD k 0)) ∧ v = if 19 < d.length then 0 else (valT (d.take j) : Int)
theorem digits_take {d : List Nat} {j : Nat} (h : ∀ k, k < j → Digit (d.getD k 0)) : ∀ c ∈ d.take j, Digit c := by
  intro c hc
  obtain ⟨k, hk, rfl⟩ := List.getElem_of_mem hc
  have hk' := hk
  rw [List.length_take] at hk'
  have := h k (by omega)
  rw [List.getD_eq_getElem?_getD, List.getElem?_eq_getElem (by omega)] at this
  simpa using this
theorem take_val {d : List Nat} {j : Nat} (hj : j < d.length) : valT (d.take (j + 1)) = 10 * valT (d.take j) + (d.getD j 0 - 48) := by
  rw [List.take_succ_eq_append_getElem hj, valT_append, List.getD_eq_getElem?_getD, List.getElem?_eq_getElem hj]
  rfl
theorem sofar_bound {d : List Nat} {j : Nat} {v : Int} (h : SoFar d j v) : 0 ≤ v ∧ v < 10 ^ 19 ∧ (j < d.length → v ≤ 10 ^ 18) := by
  obtain ⟨hj, hd, hv⟩ := h
  rw [hv]
  split
  · omega
  · have h1 := val_lt (d.take j) (digits_take hd)
    rw [List.length_take, Nat.min_eq_left hj] at h1
    have h2 := Nat.pow_le_pow_right (n := 10) (by decide) (show j ≤ 19 by omega)
    refine ⟨by omega, ?_, fun hlt => ?_⟩
    · have : (valT (d.take j) : Int) < ((10 ^ 19 : Nat) : Int) := by exact_mod_cast Nat.lt_of_lt_of_le h1 h2
      simpa using this
    · have h3 := Nat.pow_le_pow_right (n := 10) (by decide) (show j ≤ 18 by omega)
      have : (valT (d.take j) : Int) ≤ ((10 ^ 18 : Nat) : Int) := by exact_mod_cast Nat.le_of_lt (Nat.lt_of_lt_of_le h1 h3)
      simpa using this
theorem sofar_over {d : List Nat} {j : Nat} {v : Int} (h : SoFar d j v) (hj : j < d.length) (hc : Digit (d.getD j 0)) (ho : 19 < d.length) : SoFar d (j + 1) v := by
  refine ⟨by omega, fun k hk => ?_, ?_⟩
  · rcases (by omega : k < j ∨ k = j) with h1 | rfl
    · exact h.2.1 k h1
    · exact hc
  · have := h.2.2
    rw [if_pos ho] at this ⊢
    exact this
theorem sofar_step {d : List Nat} {j : Nat} {v : Int} (h : SoFar d j v) (hj : j < d.length) (hc : Digit (d.getD j 0)) (ho : ¬ 19 < d.length) : SoFar d (j + 1) (10 * v + ((d.getD j 0 : Nat) - 48 : Int)) := by
  refine ⟨by omega, fun k hk => ?_, ?_⟩
  · rcases (by omega : k < j ∨ k = j) with h1 | rfl
    · exact h.2.1 k h1
    · exact hc
  · have hv := h.2.2
    unfold Digit at hc
    rw [if_neg ho] at hv ⊢
    rw [take_val hj, hv]
    omega
theorem sofar_all {d : List Nat} {v : Int} (h : SoFar d d.length v) : (∀ c ∈ d, Digit c) ∧ v = if 19 < d.length then 0 else (valT d : Int) := by
  have := digits_take h.2.1
  rw [List.take_length] at this
  refine ⟨this, ?_⟩
  have hv := h.2.2
  rwa [List.take_length] at hv
/-- A text of digits, its first one no 0 but alone: what the end says. -/
structure Fine (neg : Bool) (d : List Nat) : Prop where
  ne : d ≠ []
  first : ¬ (d.getD 0 0 = 48 ∧ (1 < d.length ∨ neg = true))
theorem fine_over {neg : Bool} {d : List Nat} (h : Fine neg d) (hd : ∀ c ∈ d, Digit c) (ho : 19 < d.length) : tailT neg d = (0, 9) := by
  have h0 : d.getD 0 0 ≠ 48 := fun h1 => h.first ⟨h1, .inl (by omega)⟩
  have hb := val_big d hd h0 19 ho
  unfold tailT
  rw [if_neg (by rintro (h1 | h1 | h1); exact h.ne h1; exact h.first h1; exact h1 hd), if_pos (.inl (by omega))]
theorem fine_end {neg : Bool} {d : List Nat} (h : Fine neg d) (hd : ∀ c ∈ d, Digit c) : tailT neg d = if 9223372036854775808 < valT d ∨ (valT d = 9223372036854775808 ∧ neg = false) then (0, 9) else (if neg then -(valT d : Int) else (valT d : Int), 0) := by
  unfold tailT
  rw [if_neg (by rintro (h1 | h1 | h1); exact h.ne h1; exact h.first h1; exact h1 hd)]
theorem fine_bad {neg : Bool} {d : List Nat} (h0 : Fine neg d) {j : Nat} (hj : j < d.length) (hc : ¬ Digit (d.getD j 0)) : tailT neg d = (0, 8) := by
  refine tail_bad (.inr (.inr fun h => hc (h _ ?_)))
  rw [List.getD_eq_getElem?_getD, List.getElem?_eq_getElem hj]
  exact List.getElem_mem hj
theorem tail_range (neg : Bool) (d : List Nat) : -9223372036854775808 ≤ (tailT neg d).1 ∧ (tailT neg d).1 ≤ 9223372036854775807 ∧ 0 ≤ (tailT neg d).2 ∧ (tailT neg d).2 ≤ 9 := by
  unfold tailT
  split
  · exact ⟨by decide, by decide, by decide, by decide⟩
  · split
    · exact ⟨by decide, by decide, by decide, by decide⟩
    · rename_i h1 h2
      cases neg
      · simp at h2 ⊢; omega
      · simp at h2 ⊢; omega
theorem read_range (l : List Nat) : -9223372036854775808 ≤ (readT l).1 ∧ (readT l).1 ≤ 9223372036854775807 ∧ 0 ≤ (readT l).2 ∧ (readT l).2 ≤ 9 := by
  by_cases h : l.getD 0 0 = 45
  · cases l with
    | nil => simp at h
    | cons c l => simp at h; subst h; rw [readT_neg]; exact tail_range _ _
  · rw [readT_pos l h]; exact tail_range _ _
end Go.Proofs.YtmefdgmbpihdfaaDoor.Txt
