/- Pieces of a text, reckoned: apart and together. Nothing here speaks of a program. -/
import Derived.Test.YtmefdgmbpihdfaaDoorTextKit
set_option linter.unusedSimpArgs false
set_option linter.unusedVariables false
namespace Go.Proofs.YtmefdgmbpihdfaaDoor.Txt
open RU8

/-- What stands between the bytes c. -/
def splitT (c : Nat) : List Nat → List (List Nat)
  | [] => [[]]
  | x :: l => if x = c then [] :: splitT c l else (x :: (splitT c l).headD []) :: (splitT c l).tail
def joinT : List (List Nat) → List Nat
  | [] => []
  | [p] => p
  | p :: q :: ps => p ++ 32 :: joinT (q :: ps)
def wordsT (l : List Nat) : List (List Nat) := if l = [] then [] else splitT 32 l
def linesT (l : List Nat) : List (List Nat) := if (splitT 10 l).getLastD [] = [] then (splitT 10 l).dropLast else splitT 10 l
theorem splitT_ne (c : Nat) (l : List Nat) : splitT c l ≠ [] := by
  cases l with
  | nil => simp [splitT]
  | cons x l => unfold splitT; split <;> simp
theorem splitT_pos (c : Nat) (l : List Nat) : 0 < (splitT c l).length := List.length_pos_iff.2 (splitT_ne c l)
theorem head_tail {α : Type} (l : List α) (d : α) (h : l ≠ []) : l.headD d :: l.tail = l := by
  cases l with
  | nil => exact absurd rfl h
  | cons x l => rfl
theorem splitT_none (c : Nat) (l : List Nat) (h : ∀ x ∈ l, x ≠ c) : splitT c l = [l] := by
  induction l with
  | nil => rfl
  | cons x l ih => rw [splitT, if_neg (h x (by simp)), ih fun y hy => h y (by simp [hy])]; rfl
theorem splitT_at (c : Nat) (a b : List Nat) (h : ∀ x ∈ a, x ≠ c) : splitT c (a ++ c :: b) = a :: splitT c b := by
  induction a with
  | nil => rw [List.nil_append, splitT, if_pos rfl]
  | cons x a ih => rw [List.cons_append, splitT, if_neg (h x (by simp)), ih fun y hy => h y (by simp [hy])]; rfl
theorem splitT_length (c : Nat) (l : List Nat) : (splitT c l).length ≤ l.length + 1 := by
  induction l with
  | nil => simp [splitT]
  | cons x l ih =>
    have := splitT_pos c l
    unfold splitT
    split
    · simp; omega
    · simp; omega
theorem splitT_bytes (c : Nat) {l : List Nat} (h : Bytes l) : ∀ p ∈ splitT c l, Bytes p := by
  induction l with
  | nil => intro p hp; simp [splitT] at hp; subst hp; exact bytes_nil
  | cons x l ih =>
    have hx := h x (by simp)
    have ih' := ih fun y hy => h y (by simp [hy])
    intro p hp
    unfold splitT at hp
    split at hp
    · rcases List.mem_cons.1 hp with rfl | hp
      · exact bytes_nil
      · exact ih' p hp
    · have e := head_tail (splitT c l) [] (splitT_ne c l)
      rcases List.mem_cons.1 hp with rfl | hp
      · exact bytes_cons hx (ih' _ (by rw [← e]; simp))
      · exact ih' p (by rw [← e]; simp [hp])
/-- A text is its words joined. -/
theorem join_split (l : List Nat) : joinT (splitT 32 l) = l := by
  induction l with
  | nil => rfl
  | cons x l ih =>
    have e := head_tail (splitT 32 l) [] (splitT_ne 32 l)
    unfold splitT
    split
    · rename_i h
      subst h
      rw [← e, joinT, e, ih]
      rfl
    · generalize (splitT 32 l).headD [] = p at *
      generalize (splitT 32 l).tail = ps at *
      rw [← e] at ih
      cases ps with
      | nil => rw [joinT] at ih ⊢; rw [ih]
      | cons q ps => rw [joinT] at ih ⊢; rw [List.cons_append, ih]
theorem join_words (l : List Nat) : joinT (wordsT l) = l := by
  unfold wordsT
  split
  · rename_i h; rw [h]; rfl
  · exact join_split l
/-- Words that have no blanks come back. -/
theorem split_join (ps : List (List Nat)) (hne : ps ≠ []) (h : ∀ p ∈ ps, ∀ x ∈ p, x ≠ 32) : splitT 32 (joinT ps) = ps := by
  induction ps with
  | nil => exact absurd rfl hne
  | cons p ps ih =>
    cases ps with
    | nil => rw [joinT]; exact splitT_none 32 p (h p (by simp))
    | cons q ps =>
      rw [joinT, splitT_at 32 p _ (h p (by simp)), ih (by simp) fun r hr => h r (by simp [hr])]
theorem join_ne (p : List Nat) (ps : List (List Nat)) (h : p ≠ []) : joinT (p :: ps) ≠ [] := by
  cases ps with
  | nil => rw [joinT]; exact h
  | cons q ps => rw [joinT]; simp
theorem words_join (ps : List (List Nat)) (h0 : ps.getD 0 [1] ≠ []) (h : ∀ p ∈ ps, ∀ x ∈ p, x ≠ 32) : wordsT (joinT ps) = ps := by
  cases ps with
  | nil => rfl
  | cons p ps =>
    unfold wordsT
    rw [if_neg (join_ne p ps (by simpa using h0)), split_join _ (by simp) h]
theorem joinT_bytes {ps : List (List Nat)} (h : ∀ p ∈ ps, Bytes p) : Bytes (joinT ps) := by
  induction ps with
  | nil => exact bytes_nil
  | cons p ps ih =>
    cases ps with
    | nil => rw [joinT]; exact h p (by simp)
    | cons q ps => rw [joinT]; exact (h p (by simp)).append (bytes_cons (by decide) (ih fun r hr => h r (by simp [hr])))
theorem join_snoc (ps : List (List Nat)) (p : List Nat) (h : ps ≠ []) : joinT (ps ++ [p]) = joinT ps ++ [32] ++ p := by
  induction ps with
  | nil => exact absurd rfl h
  | cons q ps ih =>
    cases ps with
    | nil => simp [joinT]
    | cons r ps => rw [List.cons_append, List.cons_append, joinT, joinT, ← List.cons_append, ih (by simp)]; simp
theorem join_take_step (ps : List (List Nat)) (j : Nat) (hj : j < ps.length) : joinT (ps.take (j + 1)) = (if j = 0 then joinT (ps.take j) else joinT (ps.take j) ++ [32]) ++ ps.getD j [] := by
  rw [List.take_succ_eq_append_getElem hj, List.getD_eq_getElem?_getD, List.getElem?_eq_getElem hj]
  split
  · rename_i h; subst h; rfl
  · rename_i h
    rw [join_snoc _ _ (by intro e; have := congrArg List.length e; rw [List.length_take, List.length_nil] at this; omega)]
    rfl
theorem join_prefix (ps : List (List Nat)) (j : Nat) : (joinT (ps.take j)).length ≤ (joinT ps).length := by
  rcases Nat.lt_or_ge j ps.length with hj | hj
  · have key : ∀ k, j + k ≤ ps.length → (joinT (ps.take j)).length ≤ (joinT (ps.take (j + k))).length := fun k => by
      induction k with
      | zero => intro _; exact Nat.le_refl _
      | succ k ih =>
        intro h
        have h1 := ih (by omega)
        rw [← Nat.add_assoc, join_take_step ps (j + k) (by omega)]
        split <;> simp <;> omega
    have := key (ps.length - j) (by omega)
    rwa [show j + (ps.length - j) = ps.length by omega, List.take_length] at this
  · rw [List.take_of_length_le hj]; exact Nat.le_refl _
/-- So far as i, with the pieces ds done and the piece from 'fr' on under way. -/
def Parted (c : Nat) (l : List Nat) (i fr : Nat) (ds : List (List Nat)) : Prop := splitT c l = ds ++ splitT c (l.drop fr) ∧ (∀ k, fr ≤ k → k < i → l.getD k 0 ≠ c) ∧ fr ≤ i ∧ i ≤ l.length ∧ ds.length ≤ fr
theorem parted_start (c : Nat) (l : List Nat) : Parted c l 0 0 [] := ⟨by simp, fun k _ h => absurd h (by omega), by omega, by omega, by simp⟩
theorem parted_same {c : Nat} {l : List Nat} {i fr : Nat} {ds : List (List Nat)} (h : Parted c l i fr ds) (hi : i < l.length) (hc : l.getD i 0 ≠ c) : Parted c l (i + 1) fr ds :=
  ⟨h.1, fun k h1 h2 => by
    rcases (by omega : k < i ∨ k = i) with h3 | rfl
    · exact h.2.1 k h1 h3
    · exact hc, by have := h.2.2.1; omega, by omega, h.2.2.2.2⟩
theorem piece_none {c : Nat} {l : List Nat} {i fr : Nat} (h : ∀ k, fr ≤ k → k < i → l.getD k 0 ≠ c) : ∀ x ∈ (l.drop fr).take (i - fr), x ≠ c := by
  intro x hx
  obtain ⟨k, hk, rfl⟩ := List.getElem_of_mem hx
  have hk' := hk
  rw [List.length_take, List.length_drop] at hk'
  have := h (fr + k) (by omega) (by omega)
  rw [List.getD_eq_getElem?_getD, List.getElem?_eq_getElem (by omega)] at this
  simpa using this
theorem parted_cut {c : Nat} {l : List Nat} {i fr : Nat} {ds : List (List Nat)} (h : Parted c l i fr ds) (hi : i < l.length) (hc : l.getD i 0 = c) : Parted c l (i + 1) (i + 1) (ds ++ [(l.drop fr).take (i - fr)]) := by
  have hfr := h.2.2.1
  refine ⟨?_, fun k h1 h2 => absurd h1 (by omega), by omega, by omega, by have := h.2.2.2.2; simp; omega⟩
  have e : l.drop fr = (l.drop fr).take (i - fr) ++ c :: l.drop (i + 1) := by
    have e1 : (l.drop fr).drop (i - fr) = c :: l.drop (i + 1) := by
      rw [List.drop_drop, show fr + (i - fr) = i by omega, List.drop_eq_getElem_cons hi]
      rw [List.getD_eq_getElem?_getD, List.getElem?_eq_getElem hi] at hc
      simp at hc
      rw [hc]
    rw [← e1, List.take_append_drop]
  rw [h.1, e, splitT_at c _ _ (piece_none h.2.1), ← e, List.append_assoc]
  rfl
theorem parted_end {c : Nat} {l : List Nat} {fr : Nat} {ds : List (List Nat)} (h : Parted c l l.length fr ds) : splitT c l = ds ++ [l.drop fr] := by
  rw [h.1, splitT_none c (l.drop fr)]
  have := piece_none h.2.1
  rwa [List.take_of_length_le (by simp)] at this
end Go.Proofs.YtmefdgmbpihdfaaDoor.Txt
