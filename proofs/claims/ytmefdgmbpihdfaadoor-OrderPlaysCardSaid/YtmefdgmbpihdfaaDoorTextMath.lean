/- Numbers as texts, reckoned: digits, what a text says as a number, and that they come back. Nothing here speaks of a program. -/
import Derived.Test.YtmefdgmbpihdfaaDoorTextKit
set_option linter.unusedSimpArgs false
set_option linter.unusedVariables false
namespace Go.Proofs.YtmefdgmbpihdfaaDoor.Txt
open RU8

def digs (u : Nat) : List Nat := if u < 10 then [48 + u] else digs (u / 10) ++ [48 + u % 10]
termination_by u
decreasing_by omega
theorem digs_low {u : Nat} (h : u < 10) : digs u = [48 + u] := by rw [digs, if_pos h]
theorem digs_high {u : Nat} (h : 10 ≤ u) : digs u = digs (u / 10) ++ [48 + u % 10] := by rw [digs, if_neg (by omega)]
def numT (n : Int) : List Nat := if n < 0 then 45 :: digs n.natAbs else digs n.natAbs
def Digit (c : Nat) : Prop := 48 ≤ c ∧ c ≤ 57
instance (c : Nat) : Decidable (Digit c) := by unfold Digit; infer_instance
/-- What digits say. -/
def valT (d : List Nat) : Nat := d.foldl (fun u c => 10 * u + (c - 48)) 0
theorem valT_append (d : List Nat) (c : Nat) : valT (d ++ [c]) = 10 * valT d + (c - 48) := by simp [valT, List.foldl_append]
theorem digs_digit (u : Nat) : ∀ c ∈ digs u, Digit c := by
  induction u using digs.induct with
  | case1 u h => rw [digs_low h]; intro c hc; simp at hc; unfold Digit; omega
  | case2 u h ih =>
    rw [digs_high (by omega)]
    intro c hc
    rcases List.mem_append.1 hc with h1 | h1
    · exact ih c h1
    · simp at h1; unfold Digit; omega
theorem digs_val (u : Nat) : valT (digs u) = u := by
  induction u using digs.induct with
  | case1 u h => rw [digs_low h]; simp [valT]
  | case2 u h ih => rw [digs_high (by omega), valT_append, ih]; omega
theorem digs_pos (u : Nat) : 0 < (digs u).length := by
  induction u using digs.induct with
  | case1 u h => rw [digs_low h]; simp
  | case2 u h ih => rw [digs_high (by omega)]; simp
theorem digs_len (u k : Nat) (hk : 0 < k) (h : u < 10 ^ k) : (digs u).length ≤ k := by
  induction u using digs.induct generalizing k with
  | case1 u h1 => rw [digs_low h1]; simp; omega
  | case2 u h1 ih =>
    rw [digs_high (by omega), List.length_append]
    obtain ⟨j, rfl⟩ : ∃ j, k = j + 1 := ⟨k - 1, by omega⟩
    rw [Nat.pow_succ] at h
    rcases Nat.eq_zero_or_pos j with h0 | h0
    · subst h0; omega
    · have := ih j h0 (by omega)
      simp; omega
/-- The first digit is no 0, but of 0 itself. -/
theorem digs_first (u : Nat) (h : 0 < u) : (digs u).getD 0 0 ≠ 48 := by
  induction u using digs.induct with
  | case1 u h1 => rw [digs_low h1]; simp; omega
  | case2 u h1 ih =>
    rw [digs_high (by omega)]
    have hp := digs_pos (u / 10)
    have := ih (by omega)
    rw [List.getD_eq_getElem?_getD, List.getElem?_append_left (by omega), ← List.getD_eq_getElem?_getD]
    exact this
theorem rev_ind {motive : List Nat → Prop} (nil : motive []) (append_singleton : ∀ d c, motive d → motive (d ++ [c])) (l : List Nat) : motive l := by
  have key : ∀ r : List Nat, motive r.reverse := fun r => by
    induction r with
    | nil => exact nil
    | cons c r ih => rw [List.reverse_cons]; exact append_singleton _ _ ih
  have := key l.reverse
  rwa [List.reverse_reverse] at this
/-- Digits of which the first one is no 0 say a number that isn't 0; and are the digits of what they say. -/
theorem val_pos (d : List Nat) (hd : ∀ c ∈ d, Digit c) (hp : 0 < d.length) (h0 : d.getD 0 0 ≠ 48) : 0 < valT d := by
  induction d using rev_ind with
  | nil => simp at hp
  | append_singleton d c ih =>
    rw [valT_append]
    have hc : Digit c := hd c (by simp)
    unfold Digit at hc
    rcases Nat.eq_zero_or_pos d.length with h1 | h1
    · obtain rfl : d = [] := List.eq_nil_of_length_eq_zero h1
      simp at h0
      omega
    · have := ih (fun x hx => hd x (by simp [hx])) h1 (by rwa [List.getD_eq_getElem?_getD, List.getElem?_append_left (by omega), ← List.getD_eq_getElem?_getD] at h0)
      omega
theorem digs_back (d : List Nat) (hd : ∀ c ∈ d, Digit c) (hp : 0 < d.length) (h0 : d.getD 0 0 = 48 → d.length = 1) : digs (valT d) = d := by
  induction d using rev_ind with
  | nil => simp at hp
  | append_singleton d c ih =>
    rw [valT_append]
    have hc : Digit c := hd c (by simp)
    unfold Digit at hc
    rcases Nat.eq_zero_or_pos d.length with h1 | h1
    · obtain rfl : d = [] := List.eq_nil_of_length_eq_zero h1
      rw [show 10 * valT [] + (c - 48) = c - 48 by simp [valT], digs_low (by omega)]
      simp; omega
    · have e : (d ++ [c]).getD 0 0 = d.getD 0 0 := by rw [List.getD_eq_getElem?_getD, List.getElem?_append_left (by omega), ← List.getD_eq_getElem?_getD]
      have h2 : d.getD 0 0 ≠ 48 := fun h3 => by have := h0 (e.trans h3); rw [List.length_append, List.length_singleton] at this; omega
      have hpos := val_pos d (fun x hx => hd x (by simp [hx])) h1 h2
      rw [digs_high (by omega), show (10 * valT d + (c - 48)) / 10 = valT d by omega, show (10 * valT d + (c - 48)) % 10 = c - 48 by omega, ih (fun x hx => hd x (by simp [hx])) h1 (fun h3 => absurd h3 h2)]
      congr 2
      omega
theorem val_big (d : List Nat) (hd : ∀ c ∈ d, Digit c) (h0 : d.getD 0 0 ≠ 48) (k : Nat) (hp : k < d.length) : 10 ^ k ≤ valT d := by
  rcases Nat.lt_or_ge (valT d) (10 ^ k) with h | h
  · have e := digs_back d hd (by omega) (fun h1 => absurd h1 h0)
    rcases Nat.eq_zero_or_pos k with h1 | h1
    · subst h1
      have := val_pos d hd hp h0
      simp; omega
    · have := digs_len (valT d) k h1 h
      rw [e] at this
      omega
  · exact h

/-- What a text says: the number, and the error's number. -/
def readT (l : List Nat) : Int × Int :=
  let neg := decide (l.getD 0 0 = 45)
  let d := if neg then l.drop 1 else l
  if d = [] ∨ (d.getD 0 0 = 48 ∧ (1 < d.length ∨ neg = true)) ∨ ¬ (∀ c ∈ d, Digit c) then (0, 8)
  else if 9223372036854775808 < valT d ∨ (valT d = 9223372036854775808 ∧ neg = false) then (0, 9)
  else (if neg then -(valT d : Int) else (valT d : Int), 0)
theorem numT_bytes (n : Int) : Bytes (numT n) := by
  have h : Bytes (digs n.natAbs) := fun c hc => by have := digs_digit _ c hc; unfold Digit at this; omega
  unfold numT
  split
  · exact bytes_cons (by decide) h
  · exact h
theorem read_num (n : Int) (h : -9223372036854775808 ≤ n ∧ n ≤ 9223372036854775807) : readT (numT n) = (n, 0) := by
  have hp := digs_pos n.natAbs
  have hd := digs_digit n.natAbs
  have hv := digs_val n.natAbs
  have hne : digs n.natAbs ≠ [] := by intro e; rw [e] at hp; simp at hp
  have hf : (digs n.natAbs).getD 0 0 ≠ 45 := by
    have : (digs n.natAbs).getD 0 0 ∈ digs n.natAbs := by rw [List.getD_eq_getElem?_getD, List.getElem?_eq_getElem hp]; exact List.getElem_mem hp
    have := hd _ this
    unfold Digit at this
    omega
  by_cases hn : n < 0
  · have h1 : numT n = 45 :: digs n.natAbs := by unfold numT; rw [if_pos hn]
    have h48 := digs_first n.natAbs (by omega)
    rw [h1]
    unfold readT
    simp only [List.getD_cons_zero, decide_true, if_true, List.drop_succ_cons, List.drop_zero]
    rw [if_neg (by rintro (h2 | ⟨h2, _⟩ | h2); exact hne h2; exact h48 h2; exact h2 hd), hv, if_neg (by rintro (h2 | ⟨_, h2⟩); omega; cases h2)]
    congr 1
    omega
  · have h1 : numT n = digs n.natAbs := by unfold numT; rw [if_neg hn]
    rw [h1]
    unfold readT
    simp only [decide_eq_false hf, Bool.false_eq_true, if_false, or_false]
    rw [if_neg (by
      rintro (h2 | ⟨h2, h3⟩ | h2)
      · exact hne h2
      · rcases Nat.eq_zero_or_pos n.natAbs with h4 | h4
        · rw [h4, digs_low (by decide)] at h3; simp at h3
        · exact digs_first _ h4 h2
      · exact h2 hd), hv, if_neg (by rintro (h2 | ⟨h2, _⟩) <;> omega)]
    congr 1
    omega
theorem num_read (l : List Nat) (a : Int) (h : readT l = (a, 0)) : numT a = l := by
  unfold readT at h
  by_cases hn : l.getD 0 0 = 45
  · simp only [decide_eq_true hn, if_true] at h
    split at h
    · injection h with _ h1; cases h1
    · split at h
      · injection h with _ h1; cases h1
      · rename_i h1 h2
        injection h with h3 _
        have hd : ∀ c ∈ l.drop 1, Digit c := Classical.byContradiction fun h4 => h1 (.inr (.inr h4))
        have hne : l.drop 1 ≠ [] := fun h4 => h1 (.inl h4)
        have h48 : (l.drop 1).getD 0 0 ≠ 48 := fun h4 => h1 (.inr (.inl ⟨h4, .inr trivial⟩))
        have hp : 0 < (l.drop 1).length := List.length_pos_iff.2 hne
        have hpos := val_pos _ hd hp h48
        have hb := digs_back _ hd hp (fun h4 => absurd h4 h48)
        subst h3
        unfold numT
        rw [if_pos (by omega), show (-(valT (l.drop 1) : Int)).natAbs = valT (l.drop 1) by omega, hb]
        cases l with
        | nil => simp at hn
        | cons x l => simp at hn; subst hn; rfl
  · simp only [decide_eq_false hn, Bool.false_eq_true, if_false, or_false] at h
    split at h
    · injection h with _ h1; cases h1
    · split at h
      · injection h with _ h1; cases h1
      · rename_i h1 h2
        injection h with h3 _
        have hd : ∀ c ∈ l, Digit c := Classical.byContradiction fun h4 => h1 (.inr (.inr h4))
        have hne : l ≠ [] := fun h4 => h1 (.inl h4)
        have hp : 0 < l.length := List.length_pos_iff.2 hne
        have hb := digs_back _ hd hp (fun h4 => Classical.byContradiction fun h5 => h1 (.inr (.inl ⟨h4, by omega⟩)))
        subst h3
        unfold numT
        rw [if_neg (by omega), show ((valT l : Int)).natAbs = valT l by omega, hb]
end Go.Proofs.YtmefdgmbpihdfaaDoor.Txt
