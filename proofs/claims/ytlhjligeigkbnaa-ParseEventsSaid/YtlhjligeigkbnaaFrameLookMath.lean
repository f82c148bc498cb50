/- Looking at a frame's bytes, reckoned. Nothing here speaks of a program. -/
import Derived.Test.YtlhjligeigkbnaaFrameMath
import Derived.Test.YtlhjligeigkbnaaCrcSealed
set_option linter.unusedSimpArgs false
set_option linter.unusedVariables false
namespace Go.Proofs.Ytlhjligeigkbnaa.Frm
open Go.RowKit RU8

def sizeT (b : List Nat) : Nat := 6 + 3 * b.getD 3 0
/-- What is wrong at byte i (0: nothing). -/
def errAt (b : List Nat) (i : Nat) : Int :=
  if 4 ≤ i ∧ sizeT b ≤ i then 0
  else if b.length ≤ i then 6
  else if (i = 0 ∧ b.getD 0 0 ≠ 165) ∨ (i = 1 ∧ b.getD 1 0 ≠ 90) then 60
  else if i = 3 ∧ (b.getD 3 0 < 1 ∨ 32 < b.getD 3 0) then 61
  else if i < 4 then 0
  else if i + 2 < sizeT b ∧ i % 3 = 1 ∧ 1 < b.getD i 0 then 62
  else if i + 1 = sizeT b ∧ Crc.sealedB ((b.take (sizeT b)).drop 2) = false then 63
  else 0
/-- What is wrong first among the first k bytes. -/
def firstErr (b : List Nat) : Nat → Int
  | 0 => 0
  | k + 1 => if firstErr b k ≠ 0 then firstErr b k else errAt b k
def lookE (b : List Nat) : Int := firstErr b 102
theorem firstErr_stay {b : List Nat} {k : Nat} (h : firstErr b k ≠ 0) (j : Nat) (hj : k ≤ j) : firstErr b j = firstErr b k := by
  induction j with
  | zero => obtain rfl : k = 0 := by omega
            rfl
  | succ j ih =>
    rcases (by omega : k = j + 1 ∨ k ≤ j) with rfl | h1
    · rfl
    · have := ih h1
      rw [firstErr, if_pos (by rw [this]; exact h), this]
theorem lookE_bad {b : List Nat} {i : Nat} (h0 : firstErr b i = 0) (hi : i < 102) (h : errAt b i ≠ 0) : lookE b = errAt b i := by
  have h1 : firstErr b (i + 1) = errAt b i := by rw [firstErr, if_neg (by rw [h0]; simp)]
  have h2 : firstErr b (i + 1) ≠ 0 := by rw [h1]; exact h
  unfold lookE
  rw [firstErr_stay h2 102 (by omega), h1]
theorem firstErr_step {b : List Nat} {i : Nat} (h0 : firstErr b i = 0) (h : errAt b i = 0) : firstErr b (i + 1) = 0 := by rw [firstErr, if_neg (by rw [h0]; simp), h]
theorem lookE_ok {b : List Nat} {i : Nat} (h0 : firstErr b i = 0) (hi : 4 ≤ i) (hs : sizeT b ≤ i) : lookE b = 0 := by
  have key : ∀ k, firstErr b (i + k) = 0 := fun k => by
    induction k with
    | zero => exact h0
    | succ k ih =>
      have e : errAt b (i + k) = 0 := by unfold errAt; rw [if_pos (by omega)]
      exact firstErr_step ih e
  by_cases hk : i ≤ 102
  · have := key (102 - i)
    rwa [show i + (102 - i) = 102 by omega] at this
  · unfold lookE
    have : ∀ j, j ≤ i → firstErr b j = 0 := fun j hj => by
      by_cases h1 : firstErr b j = 0
      · exact h1
      · have := firstErr_stay h1 i hj
        rw [h0] at this
        exact this.symm
    exact this 102 (by omega)
/-- How many samples have stood so far: at byte 4 and behind it the size is settled. -/
theorem size_bound {b : List Nat} {i : Nat} (h0 : firstErr b i = 0) (hi : 4 ≤ i) : 9 ≤ sizeT b ∧ sizeT b ≤ 102 := by
  have h1 : firstErr b 4 = 0 := by
    by_cases h1 : firstErr b 4 = 0
    · exact h1
    · have := firstErr_stay h1 i hi
      rw [h0] at this
      exact this.symm
  have h3 : firstErr b 3 = 0 := by
    by_cases h2 : firstErr b 3 = 0
    · exact h2
    · have := firstErr_stay h2 4 (by omega)
      rw [h1] at this
      exact this.symm
  have h4 : errAt b 3 = 0 := by
    rw [firstErr, if_neg (by rw [h3]; simp)] at h1
    exact h1
  unfold errAt at h4
  rw [if_neg (by omega)] at h4
  split at h4
  · cases h4
  · rw [if_neg (by omega)] at h4
    split at h4
    · cases h4
    · unfold sizeT
      omega
def valT2 (lo hi : Nat) : Int := if 32767 < lo + 256 * hi then (lo : Int) + 256 * hi - 65536 else (lo : Int) + 256 * hi
def sampAt (b : List Nat) (k : Nat) : Samp := (valT2 (b.getD (5 + 3 * k) 0) (b.getD (6 + 3 * k) 0), decide (b.getD (4 + 3 * k) 0 = 1))
def unsampsT (b : List Nat) (n : Nat) : List Samp := (List.range n).map (sampAt b)
theorem unsampsT_step (b : List Nat) (n : Nat) : unsampsT b (n + 1) = unsampsT b n ++ [sampAt b n] := by unfold unsampsT; rw [List.range_succ, List.map_append]; rfl
theorem unsampsT_length (b : List Nat) (n : Nat) : (unsampsT b n).length = n := by simp [unsampsT]
/-- The frame with which bytes begin, if they do. -/
def lookSeq (b : List Nat) : Nat := if lookE b = 0 then b.getD 2 0 else 0
def lookL (b : List Nat) : List Samp := if lookE b = 0 then unsampsT b (b.getD 3 0) else []
def lookN (b : List Nat) : Nat := if lookE b = 0 then sizeT b else 0
theorem look_bad {b : List Nat} (h : lookE b ≠ 0) : lookSeq b = 0 ∧ lookL b = [] ∧ lookN b = 0 := by unfold lookSeq lookL lookN; rw [if_neg h, if_neg h, if_neg h]; exact ⟨rfl, rfl, rfl⟩
theorem look_ok {b : List Nat} (h : lookE b = 0) : lookSeq b = b.getD 2 0 ∧ lookL b = unsampsT b (b.getD 3 0) ∧ lookN b = sizeT b := by unfold lookSeq lookL lookN; rw [if_pos h, if_pos h, if_pos h]; exact ⟨rfl, rfl, rfl⟩
/-- What the loop knows ahead of byte j. -/
def Sound (b : List Nat) (j : Nat) : Prop := firstErr b j = 0 ∧ (4 ≤ j → j < sizeT b)
theorem sound_next {b : List Nat} {j : Nat} (h : Sound b j) (he : errAt b j = 0) (hs : 4 ≤ j + 1 → j + 1 < sizeT b) : Sound b (j + 1) := ⟨firstErr_step h.1 he, hs⟩
theorem sound_bad {b : List Nat} {j : Nat} (h : Sound b j) (hj : j < 102) {E : Int} (he : errAt b j = E) (hE : E ≠ 0) : lookE b = E ∧ lookSeq b = 0 ∧ lookL b = [] ∧ lookN b = 0 := by
  have h1 := lookE_bad h.1 hj (by rw [he]; exact hE)
  exact ⟨h1.trans he, look_bad (by rw [h1, he]; exact hE)⟩
theorem err_short {b : List Nat} {j : Nat} (h : Sound b j) (hj : b.length ≤ j) : errAt b j = 6 := by
  unfold errAt
  rw [if_neg (fun h1 => by have := h.2 h1.1; omega), if_pos hj]
theorem err_at0 {b : List Nat} (h : 0 < b.length) : errAt b 0 = if b.getD 0 0 ≠ 165 then 60 else 0 := by
  unfold errAt
  rw [if_neg (by omega), if_neg (by omega)]
  by_cases h1 : b.getD 0 0 = 165
  · rw [if_neg (by rintro (⟨_, h2⟩ | ⟨h2, _⟩); exact h2 h1; omega), if_neg (by omega), if_pos (by omega), if_neg (by simpa using h1)]
  · rw [if_pos (.inl ⟨rfl, h1⟩), if_pos h1]
theorem err_at1 {b : List Nat} (h : 1 < b.length) : errAt b 1 = if b.getD 1 0 ≠ 90 then 60 else 0 := by
  unfold errAt
  rw [if_neg (by omega), if_neg (by omega)]
  by_cases h1 : b.getD 1 0 = 90
  · rw [if_neg (by rintro (⟨h2, _⟩ | ⟨_, h2⟩); omega; exact h2 h1), if_neg (by omega), if_pos (by omega), if_neg (by simpa using h1)]
  · rw [if_pos (.inr ⟨rfl, h1⟩), if_pos h1]
theorem err_at2 {b : List Nat} (h : 2 < b.length) : errAt b 2 = 0 := by
  unfold errAt
  rw [if_neg (by omega), if_neg (by omega), if_neg (by omega), if_neg (by omega), if_pos (by omega)]
theorem err_at3 {b : List Nat} (h : 3 < b.length) : errAt b 3 = if b.getD 3 0 < 1 ∨ 32 < b.getD 3 0 then 61 else 0 := by
  unfold errAt
  rw [if_neg (by omega), if_neg (by omega), if_neg (by omega)]
  by_cases h1 : b.getD 3 0 < 1 ∨ 32 < b.getD 3 0
  · rw [if_pos ⟨rfl, h1⟩, if_pos h1]
  · rw [if_neg (fun h2 => h1 h2.2), if_pos (by omega), if_neg h1]
theorem err_at4 {b : List Nat} {j : Nat} (h : Sound b j) (hj : 4 ≤ j) (hl : j < b.length) : errAt b j = if j + 2 < sizeT b ∧ j % 3 = 1 ∧ 1 < b.getD j 0 then 62 else if j + 1 = sizeT b ∧ Crc.sealedB ((b.take (sizeT b)).drop 2) = false then 63 else 0 := by
  unfold errAt
  rw [if_neg (fun h1 => by have := h.2 hj; omega), if_neg (by omega), if_neg (by omega), if_neg (by omega), if_neg (by omega)]
end Go.Proofs.Ytlhjligeigkbnaa.Frm
