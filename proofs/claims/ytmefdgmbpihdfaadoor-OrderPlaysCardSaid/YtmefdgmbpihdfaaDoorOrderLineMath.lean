/- An order's line, reckoned; the order that a line's words say. Of no program. -/
import Derived.Test.YtmefdgmbpihdfaaDoorOrderMath
import Derived.Test.YtmefdgmbpihdfaaDoorTextMath
import Derived.Test.YtmefdgmbpihdfaaDoorTextSplit
set_option linter.unusedVariables false
set_option linter.unusedSimpArgs false
namespace Go.Proofs.YtmefdgmbpihdfaaDoor.Order
open Go.RowKit RU8
open Alarm (Or orS noOr or_cells)
open Txt
def ackT : List Nat := [97, 99, 107]
def silT : List Nat := [115, 105, 108, 101, 110, 99, 101]
def wordsO (o : Or) : List (List Nat) := if o.2.1 = 1 then [numT o.1, ackT] else [numT o.1, silT, numT o.2.2]
/-- The line of an order that may be. -/
def lineT (o : Or) : List Nat := joinT (wordsO o)
theorem ack_bytes : Bytes ackT := by intro y hy; simp [ackT] at hy; omega
theorem sil_bytes : Bytes silT := by intro y hy; simp [silT] at hy; omega
theorem num_len (n : Int) (h : -9223372036854775808 ≤ n ∧ n ≤ 9223372036854775807) : (numT n).length ≤ 20 := by
  have := digs_len n.natAbs 19 (by decide) (by omega)
  unfold numT; split <;> simp <;> omega
theorem wordsO_bytes (o : Or) : ∀ p ∈ wordsO o, Bytes p := by
  unfold wordsO
  split <;> intro p hp <;> simp at hp
  · rcases hp with rfl | rfl
    · exact numT_bytes _
    · exact ack_bytes
  · rcases hp with rfl | rfl | rfl
    · exact numT_bytes _
    · exact sil_bytes
    · exact numT_bytes _
/-- An order's fields are numbers of 64 bits. -/
def Fits (o : Or) : Prop := (-9223372036854775808 ≤ o.1 ∧ o.1 ≤ 9223372036854775807) ∧ (-9223372036854775808 ≤ o.2.2 ∧ o.2.2 ≤ 9223372036854775807)
theorem may_fits {o : Or} (h : May o) : Fits o := by
  obtain ⟨h1, h2, h3⟩ := h
  refine ⟨⟨by omega, by omega⟩, ?_⟩
  rcases h3 with ⟨h4, h5⟩ | ⟨h4, h5, h6⟩ <;> exact ⟨by omega, by omega⟩
theorem line_len {o : Or} (h : Fits o) : (lineT o).length ≤ 60 := by
  have h1 := num_len o.1 h.1
  have h2 := num_len o.2.2 h.2
  unfold lineT wordsO
  split <;> simp [joinT, ackT, silT] <;> omega
theorem line_bytes (o : Or) : Bytes (lineT o) := joinT_bytes (wordsO_bytes o)
theorem line_ack {o : Or} (h : o.2.1 = 1) : lineT o = joinT [numT o.1, ackT] := by unfold lineT wordsO; rw [if_pos h]
theorem line_sil {o : Or} (h : o.2.1 ≠ 1) : lineT o = joinT [numT o.1, silT, numT o.2.2] := by unfold lineT wordsO; rw [if_neg h]
/-! ### Reading -/
theorem num_noblank (n : Int) : ∀ x ∈ numT n, x ≠ 32 := by
  intro x hx
  unfold numT at hx
  split at hx
  · rcases List.mem_cons.1 hx with rfl | hx
    · decide
    · have := digs_digit _ x hx; unfold Digit at this; omega
  · have := digs_digit _ x hx; unfold Digit at this; omega
theorem num_ne (n : Int) : numT n ≠ [] := by
  unfold numT
  split
  · simp
  · have := digs_pos n.natAbs
    intro h
    rw [h] at this
    simp at this
theorem words_line (o : Or) : wordsT (lineT o) = wordsO o := by
  have hnb : ∀ p ∈ wordsO o, ∀ x ∈ p, x ≠ 32 := by
    unfold wordsO
    split <;> intro p hp <;> simp at hp
    · rcases hp with rfl | rfl
      · exact num_noblank _
      · intro x hx; simp [ackT] at hx; omega
    · rcases hp with rfl | rfl | rfl
      · exact num_noblank _
      · intro x hx; simp [silT] at hx; omega
      · exact num_noblank _
  refine words_join (wordsO o) ?_ hnb
  unfold wordsO
  split <;> simpa using num_ne o.1
/-- What a reading makes of words: the document's, and the landed code's. -/
def refG (ws : List (List Nat)) : Or := (if 0 < ws.length then (readT (ws.getD 0 [])).1 else 0, if ws.length = 2 then 1 else if ws.length = 3 then 2 else 0, if ws.length = 3 then (readT (ws.getD 2 [])).1 else 0)
def codeG (ws : List (List Nat)) : Or := if ws.length = 2 ∧ ws.getD 1 [] = ackT then ((readT (ws.getD 0 [])).1, 1, 0) else if ws.length = 3 ∧ ws.getD 1 [] = silT then ((readT (ws.getD 0 [])).1, 2, (readT (ws.getD 2 [])).1) else noOr
theorem refG_line {o : Or} (h : May o) : refG (wordsT (lineT o)) = o := by
  rw [words_line]
  have hf := may_fits h
  obtain ⟨a, k, n⟩ := o
  obtain ⟨h1, h2, h3⟩ := h
  dsimp only at *
  unfold wordsO refG
  dsimp only
  rcases h3 with ⟨h4, h5⟩ | ⟨h4, h5, h6⟩
  · subst h4; subst h5
    simp [read_num a hf.1]
  · subst h4
    simp [read_num a hf.1, read_num n hf.2]
theorem codeG_line {o : Or} (h : May o) : codeG (wordsT (lineT o)) = o := by
  rw [words_line]
  have hf := may_fits h
  obtain ⟨a, k, n⟩ := o
  obtain ⟨h1, h2, h3⟩ := h
  dsimp only at *
  unfold wordsO codeG
  dsimp only
  rcases h3 with ⟨h4, h5⟩ | ⟨h4, h5, h6⟩
  · subst h4; subst h5
    simp [read_num a hf.1]
  · subst h4
    simp [read_num a hf.1, read_num n hf.2]
/-- Is a text the line of an order that may be? -/
def IsLine (g : List (List Nat) → Or) (s : List Nat) : Prop := May (g (wordsT s)) ∧ lineT (g (wordsT s)) = s
instance (g : List (List Nat) → Or) (s : List Nat) : Decidable (IsLine g s) := by unfold IsLine; infer_instance
theorem both_lines (s : List Nat) (h : IsLine codeG s) : IsLine refG s ∧ refG (wordsT s) = codeG (wordsT s) := by
  obtain ⟨h1, h2⟩ := h
  have h3 := refG_line h1
  rw [h2] at h3
  unfold IsLine
  rw [h3]
  exact ⟨⟨h1, h2⟩, rfl⟩
theorem lines_both (s : List Nat) (h : IsLine refG s) : IsLine codeG s := by
  obtain ⟨h1, h2⟩ := h
  have h3 := codeG_line h1
  rw [h2] at h3
  unfold IsLine
  rw [h3]
  exact ⟨h1, h2⟩
theorem line_is {o : Or} (h : May o) : IsLine codeG (lineT o) := by
  unfold IsLine
  rw [codeG_line h]
  exact ⟨h, rfl⟩
/-- What is read. -/
def gotT (s : List Nat) : Or := if IsLine codeG s then codeG (wordsT s) else noOr
theorem got_ref (s : List Nat) : (if IsLine refG s then refG (wordsT s) else noOr) = gotT s := by
  unfold gotT
  by_cases h : IsLine codeG s
  · rw [if_pos h, if_pos (both_lines s h).1, (both_lines s h).2]
  · rw [if_neg h, if_neg (fun h2 => h (lines_both s h2))]
theorem is_both (s : List Nat) : decide (IsLine refG s) = decide (IsLine codeG s) := by
  by_cases h : IsLine codeG s
  · rw [decide_eq_true h, decide_eq_true (both_lines s h).1]
  · rw [decide_eq_false h, decide_eq_false (fun h2 => h (lines_both s h2))]
end Go.Proofs.YtmefdgmbpihdfaaDoor.Order
