/- Looking at a frame's bytes in pieces, reckoned: the head, the flags, the length, the check. -/
import Derived.Test.YtlhjligeigkbnaaFrameFlags
import Derived.Test.YtlhjligeigkbnaaFrameSamples
set_option linter.unusedSimpArgs false
set_option linter.unusedVariables false
namespace Go.Proofs.Ytlhjligeigkbnaa.Frm
open Go.RowKit RU8 Chunk

/-- What is wrong ahead of the samples. -/
def headE (b : List Nat) : Int :=
  if b.length = 0 then 6 else if b.getD 0 0 ≠ 165 then 60 else if b.length = 1 then 6 else if b.getD 1 0 ≠ 90 then 60 else if b.length ≤ 3 then 6 else if b.getD 3 0 < 1 ∨ 32 < b.getD 3 0 then 61 else 0
theorem sound0 (b : List Nat) : Sound b 0 := ⟨rfl, fun h => absurd h (by omega)⟩
theorem sound_up {b : List Nat} {j : Nat} (h : Sound b j) (he : errAt b j = 0) (hj : j + 1 < 4) : Sound b (j + 1) := sound_next h he (fun h => absurd h (by omega))
theorem head_cases (b : List Nat) : (headE b ≠ 0 ∧ lookE b = headE b) ∨ (headE b = 0 ∧ 4 ≤ b.length ∧ 1 ≤ b.getD 3 0 ∧ b.getD 3 0 ≤ 32 ∧ firstErr b 4 = 0) := by
  unfold headE
  by_cases h0 : b.length = 0
  · rw [if_pos h0]
    exact .inl ⟨by decide, (sound_bad (sound0 b) (by omega) (err_short (sound0 b) (by omega)) (by decide)).1⟩
  · rw [if_neg h0]
    have e0 := err_at0 (b := b) (by omega)
    by_cases h1 : b.getD 0 0 ≠ 165
    · rw [if_pos h1] at e0 ⊢
      exact .inl ⟨by decide, (sound_bad (sound0 b) (by omega) e0 (by decide)).1⟩
    · rw [if_neg h1] at e0 ⊢
      have s1 := sound_up (sound0 b) e0 (by omega)
      by_cases h2 : b.length = 1
      · rw [if_pos h2]
        exact .inl ⟨by decide, (sound_bad s1 (by omega) (err_short s1 (by omega)) (by decide)).1⟩
      · rw [if_neg h2]
        have e1 := err_at1 (b := b) (by omega)
        by_cases h3 : b.getD 1 0 ≠ 90
        · rw [if_pos h3] at e1 ⊢
          exact .inl ⟨by decide, (sound_bad s1 (by omega) e1 (by decide)).1⟩
        · rw [if_neg h3] at e1 ⊢
          have s2 := sound_up s1 e1 (by omega)
          by_cases h4 : b.length ≤ 3
          · rw [if_pos h4]
            rcases (by omega : b.length = 2 ∨ 2 < b.length) with h5 | h5
            · exact .inl ⟨by decide, (sound_bad s2 (by omega) (err_short s2 (by omega)) (by decide)).1⟩
            · have s3 := sound_up s2 (err_at2 (by omega)) (by omega)
              exact .inl ⟨by decide, (sound_bad s3 (by omega) (err_short s3 (by omega)) (by decide)).1⟩
          · rw [if_neg h4]
            have s3 := sound_up s2 (err_at2 (by omega)) (by omega)
            have e3 := err_at3 (b := b) (by omega)
            by_cases h5 : b.getD 3 0 < 1 ∨ 32 < b.getD 3 0
            · rw [if_pos h5] at e3 ⊢
              exact .inl ⟨by decide, (sound_bad s3 (by omega) e3 (by decide)).1⟩
            · rw [if_neg h5] at e3 ⊢
              exact .inr ⟨rfl, by omega, by omega, by omega, firstErr_step s3.1 e3⟩
theorem errAt_mid {b : List Nat} {i : Nat} (h4 : 4 ≤ i) (hl : i < b.length) (hs : i + 1 < sizeT b) : errAt b i = if i + 2 < sizeT b ∧ i % 3 = 1 ∧ 1 < b.getD i 0 then 62 else 0 := by
  unfold errAt
  rw [if_neg (by omega), if_neg (by omega), if_neg (by omega), if_neg (by omega), if_neg (by omega)]
  split
  · rfl
  · rw [if_neg (by omega)]
theorem scan_to {b : List Nat} (h0 : firstErr b 4 = 0) (j : Nat) (hj : 4 ≤ j) (hl : j ≤ b.length) (hs : j + 1 ≤ sizeT b) (hg : ∀ i, 4 ≤ i → i < j → i + 2 < sizeT b → i % 3 = 1 → ¬ 1 < b.getD i 0) : firstErr b j = 0 := by
  induction j with
  | zero => omega
  | succ j ih =>
    rcases (by omega : j + 1 = 4 ∨ 4 ≤ j) with h | h
    · rw [h]; exact h0
    · refine firstErr_step (ih h (by omega) (by omega) (fun i h1 h2 => hg i h1 (by omega))) ?_
      rw [errAt_mid h (by omega) (by omega), if_neg]
      rintro ⟨a, c, d⟩
      exact hg j h (by omega) a c d
theorem scan_bad {b : List Nat} (h0 : firstErr b 4 = 0) (hsz : sizeT b ≤ 102) (i : Nat) (h4 : 4 ≤ i) (hl : i < b.length) (hs : i + 2 < sizeT b) (h3 : i % 3 = 1) (hb : 1 < b.getD i 0) : lookE b = 62 := by
  have key : ∀ j, 4 ≤ j → j ≤ i → firstErr b j = 0 ∨ firstErr b j = 62 := fun j => by
    induction j with
    | zero => intro h; omega
    | succ j ih =>
      intro h1 h2
      rcases (by omega : j + 1 = 4 ∨ 4 ≤ j) with h | h
      · rw [h]; exact .inl h0
      · rw [firstErr]
        rcases ih h (by omega) with e | e
        · rw [if_neg (by rw [e]; simp), errAt_mid h (by omega) (by omega)]
          split
          · exact .inr rfl
          · exact .inl rfl
        · rw [if_pos (by rw [e]; decide)]; exact .inr e
  have e1 : firstErr b (i + 1) = 62 := by
    rw [firstErr]
    rcases key i h4 (by omega) with e | e
    · rw [if_neg (by rw [e]; simp), errAt_mid h4 hl (by omega), if_pos ⟨hs, h3, hb⟩]
    · rw [if_pos (by rw [e]; decide)]; exact e
  unfold lookE
  rw [firstErr_stay (by rw [e1]; decide) 102 (by omega), e1]
/-- The bytes from the first flag to where the check begins, or b ends. -/
def flagged (b : List Nat) : List Nat := (b.take (min (sizeT b - 2) b.length)).drop 4
theorem flagged_get (b : List Nat) (i : Nat) (h : 4 + i < min (sizeT b - 2) b.length) : (flagged b).getD i 0 = b.getD (4 + i) 0 := by
  unfold flagged
  rw [List.getD_eq_getElem?_getD, List.getD_eq_getElem?_getD, List.getElem?_drop, List.getElem?_take, if_pos h]
theorem flagged_length (b : List Nat) : (flagged b).length = min (sizeT b - 2) b.length - 4 := by
  unfold flagged
  rw [List.length_drop, List.length_take]
  omega
theorem flags_cases {b : List Nat} (h4 : 4 ≤ b.length) (h1 : 1 ≤ b.getD 3 0) (h32 : b.getD 3 0 ≤ 32) (h0 : firstErr b 4 = 0) :
    (flagsE (flagged b) = 62 ∧ lookE b = 62) ∨ (flagsE (flagged b) = 0 ∧ (b.length < sizeT b → lookE b = 6) ∧
      (sizeT b ≤ b.length → (Crc.sealedB ((b.take (sizeT b)).drop 2) = false → lookE b = 63) ∧ (Crc.sealedB ((b.take (sizeT b)).drop 2) = true → lookE b = 0))) := by
  have hsz : sizeT b = 6 + 3 * b.getD 3 0 := rfl
  by_cases hf : ∃ k, k < chunks (flagged b).length ∧ BadAt (flagged b) k
  · left
    refine ⟨by unfold flagsE; rw [if_pos hf], ?_⟩
    obtain ⟨k, hk, hb⟩ := hf
    unfold chunks at hk
    rw [flagged_length] at hk
    unfold BadAt at hb
    rw [flagged_get b (3 * k) (by omega)] at hb
    exact scan_bad h0 (by omega) (4 + 3 * k) (by omega) (by omega) (by omega) (by omega) hb
  · right
    have hg : ∀ i, 4 ≤ i → i < b.length → i + 2 < sizeT b → i % 3 = 1 → ¬ 1 < b.getD i 0 := fun i a c d e hb => by
      refine hf ⟨(i - 4) / 3, ?_, ?_⟩
      · unfold chunks
        rw [flagged_length]
        omega
      · unfold BadAt
        rw [flagged_get b _ (by omega), show 4 + 3 * ((i - 4) / 3) = i by omega]
        exact hb
    refine ⟨by unfold flagsE; rw [if_neg hf], fun hs => ?_, fun hl => ?_⟩
    · have e := scan_to h0 b.length h4 (Nat.le_refl _) (by omega) (fun i a c d => hg i a c d)
      have S : Sound b b.length := ⟨e, fun _ => hs⟩
      exact (sound_bad S (by omega) (err_short S (Nat.le_refl _)) (by decide)).1
    · have e := scan_to h0 (sizeT b - 1) (by omega) (by omega) (by omega) (fun i a c d => hg i a (by omega) d)
      have S : Sound b (sizeT b - 1) := ⟨e, fun _ => by omega⟩
      have e9 := err_at4 S (by omega) (by omega)
      rw [if_neg (by omega)] at e9
      refine ⟨fun h => ?_, fun h => ?_⟩
      · rw [if_pos ⟨by omega, h⟩] at e9
        exact (sound_bad S (by omega) e9 (by decide)).1
      · rw [if_neg (fun h9 => by rw [h] at h9; cases h9.2)] at e9
        exact lookE_ok (firstErr_step e e9) (by omega) (by omega)
/-- The samples' bytes of a whole frame. -/
theorem samples_are {b : List Nat} (h1 : sizeT b ≤ b.length) : (List.range (b.getD 3 0)).map (smp ((b.take (sizeT b - 2)).drop 4)) = unsampsT b (b.getD 3 0) := by
  unfold unsampsT
  refine List.map_congr_left fun k hk => ?_
  have hk' : k < b.getD 3 0 := List.mem_range.1 hk
  have hsz : sizeT b = 6 + 3 * b.getD 3 0 := rfl
  have hget : ∀ i, 4 + i < sizeT b - 2 → ((b.take (sizeT b - 2)).drop 4).getD i 0 = b.getD (4 + i) 0 := fun i hi => by
    rw [List.getD_eq_getElem?_getD, List.getD_eq_getElem?_getD, List.getElem?_drop, List.getElem?_take, if_pos hi]
  unfold smp sampAt
  rw [hget (3 * k) (by omega), hget (3 * k + 1) (by omega), hget (3 * k + 2) (by omega), show 4 + (3 * k + 1) = 5 + 3 * k by omega, show 4 + (3 * k + 2) = 6 + 3 * k by omega]
end Go.Proofs.Ytlhjligeigkbnaa.Frm
