/- Plain arithmetic of a check of 16 bits: a bit's step, a byte's, a row's; what two rows' sums have to do with the bits in which they differ. Nothing here speaks of a program. -/
import Derived.WalkKit
import Derived.Laws.BitsAllLaws
set_option linter.unusedSimpArgs false
set_option linter.unusedVariables false
namespace Go.Proofs.Ytlhjligeigkbnaa.Crc
open Go.RowKit

/-- A step of a bit. -/
def bitZ (s : Nat) (one : Bool) : Nat := (2 * s) % 65536 ^^^ (if s.testBit 15 != one then 4129 else 0)
/-- A byte's bits, the highest one first. -/
def bitsOf (b : Nat) : List Bool := [b.testBit 7, b.testBit 6, b.testBit 5, b.testBit 4, b.testBit 3, b.testBit 2, b.testBit 1, b.testBit 0]
def nextZ (s b : Nat) : Nat := (bitsOf b).foldl bitZ s
def goZ (s : Nat) (l : List Nat) : Nat := l.foldl nextZ s
def sumZ (l : List Nat) : Nat := goZ 65535 l

theorem bitZ_lt (s : Nat) (one : Bool) : bitZ s one < 65536 := by
  unfold bitZ
  have h1 : 2 * s % 65536 < 2 ^ 16 := Nat.mod_lt _ (by decide)
  exact Nat.xor_lt_two_pow h1 (by split <;> decide)
theorem fold_lt (l : List Bool) (s : Nat) (h : s < 65536) : l.foldl bitZ s < 65536 := by
  induction l generalizing s with
  | nil => exact h
  | cons b l ih => exact ih _ (bitZ_lt _ _)
theorem nextZ_lt (s b : Nat) (h : s < 65536) : nextZ s b < 65536 := fold_lt _ _ h
theorem goZ_lt (l : List Nat) (s : Nat) (h : s < 65536) : goZ s l < 65536 := by
  induction l generalizing s with
  | nil => exact h
  | cons b l ih => exact ih _ (nextZ_lt _ _ h)
theorem sumZ_lt (l : List Nat) : sumZ l < 65536 := goZ_lt l _ (by decide)
theorem goZ_append (s : Nat) (a b : List Nat) : goZ s (a ++ b) = goZ (goZ s a) b := List.foldl_append
theorem sumZ_append (a b : List Nat) : sumZ (a ++ b) = goZ (sumZ a) b := goZ_append _ a b

theorem high_iff (s : Nat) (h : s < 65536) : s.testBit 15 = decide (32768 ≤ s) := by
  rw [Nat.testBit_eq_decide_div_mod_eq]
  have : s / 2 ^ 15 % 2 = 1 ↔ 32768 ≤ s := by omega
  simp [this]

/-! ### Linear -/
theorem double_xor (a b : Nat) : 2 * (a ^^^ b) = 2 * a ^^^ 2 * b := by
  apply Nat.eq_of_testBit_eq
  intro i
  cases i with
  | zero => simp [Nat.testBit_xor]
  | succ i => rw [Nat.testBit_xor, Nat.testBit_succ, Nat.testBit_succ, Nat.testBit_succ, Nat.mul_div_cancel_left _ (by decide), Nat.mul_div_cancel_left _ (by decide), Nat.mul_div_cancel_left _ (by decide), Nat.testBit_xor]
theorem bitZ_xor (s t : Nat) (a b : Bool) : bitZ (s ^^^ t) (a ^^ b) = bitZ s a ^^^ bitZ t b := by
  unfold bitZ
  rw [double_xor, show (65536 : Nat) = 2 ^ 16 from rfl, Nat.xor_mod_two_pow, Nat.testBit_xor]
  generalize 2 * s % 2 ^ 16 = S
  generalize 2 * t % 2 ^ 16 = T
  have e : (if (s.testBit 15 ^^ t.testBit 15) != (a ^^ b) then 4129 else 0) = (if s.testBit 15 != a then 4129 else 0) ^^^ (if t.testBit 15 != b then 4129 else 0) := by
    cases s.testBit 15 <;> cases t.testBit 15 <;> cases a <;> cases b <;> rfl
  rw [e]
  ac_rfl
theorem fold_xor (f g : List Bool) (h : f.length = g.length) (s t : Nat) : (List.zipWith (· ^^ ·) f g).foldl bitZ (s ^^^ t) = f.foldl bitZ s ^^^ g.foldl bitZ t := by
  induction f generalizing g s t with
  | nil => cases g with
    | nil => rfl
    | cons => simp at h
  | cons a f ih => cases g with
    | nil => simp at h
    | cons b g =>
      simp only [List.zipWith_cons_cons, List.foldl_cons, bitZ_xor]
      exact ih g (by simpa using h) _ _
theorem bitsOf_xor (a b : Nat) : bitsOf (a ^^^ b) = List.zipWith (· ^^ ·) (bitsOf a) (bitsOf b) := by simp only [bitsOf, Nat.testBit_xor]; rfl
theorem nextZ_xor (s t a b : Nat) : nextZ (s ^^^ t) (a ^^^ b) = nextZ s a ^^^ nextZ t b := by
  unfold nextZ
  rw [bitsOf_xor]
  exact fold_xor (bitsOf a) (bitsOf b) rfl _ _
theorem goZ_xor (f g : List Nat) (h : f.length = g.length) (s t : Nat) : goZ (s ^^^ t) (List.zipWith (· ^^^ ·) f g) = goZ s f ^^^ goZ t g := by
  induction f generalizing g s t with
  | nil => cases g with
    | nil => rfl
    | cons => simp at h
  | cons a f ih => cases g with
    | nil => simp at h
    | cons b g =>
      simp only [List.zipWith_cons_cons, goZ, List.foldl_cons, nextZ_xor]
      exact ih g (by simpa using h) _ _
theorem sumZ_xor (f g : List Nat) (h : f.length = g.length) : sumZ f ^^^ sumZ g = goZ 0 (List.zipWith (· ^^^ ·) f g) := by
  rw [show (0 : Nat) = 65535 ^^^ 65535 by decide, goZ_xor f g h]
  rfl

/-! ### A byte's steps at once -/
/-- The step in which the bit has turned the highest one already. -/
def stepZ (s : Nat) : Nat := bitZ s false
theorem bitZ_of_step (s : Nat) (one : Bool) : bitZ s one = stepZ (s ^^^ (if one then 32768 else 0)) := by
  unfold stepZ
  have := bitZ_xor s (if one then 32768 else 0) one one
  rw [Bool.xor_self] at this
  rw [this]
  cases one
  · simp [bitZ]
  · rw [if_pos rfl, show bitZ 32768 true = 0 by decide, Nat.xor_zero]
theorem stepZ_low (t : Nat) (h : t < 32768) : stepZ t = 2 * t := by
  unfold stepZ bitZ
  rw [high_iff t (by omega), decide_eq_false (by omega)]
  simp; omega
/-- The sum with the byte that is to come in its upper half: behind a bit's step it is the same of what is left of the byte. -/
theorem step_ahead (s b : Nat) (h : b < 256) : stepZ (s ^^^ b * 256) = bitZ s (b.testBit 7) ^^^ (2 * b % 256) * 256 := by
  have hb : b * 256 = (if b.testBit 7 then 32768 else 0) ^^^ (b % 128) * 256 := by
    have h1 : b.testBit 7 = decide (128 ≤ b) := by
      rw [Nat.testBit_eq_decide_div_mod_eq]
      have : b / 2 ^ 7 % 2 = 1 ↔ 128 ≤ b := by omega
      simp [this]
    rw [h1]
    by_cases h2 : 128 ≤ b
    · rw [decide_eq_true h2, if_pos rfl]
      have h3 := Nat.two_pow_add_eq_or_of_lt (i := 15) (b := (b % 128) * 256) (by omega) 1
      have h4 : (2 ^ 15 * 1) ^^^ (b % 128) * 256 = (2 ^ 15 * 1) ||| (b % 128) * 256 := by
        apply Nat.eq_of_testBit_eq
        intro i
        rw [Nat.testBit_xor, Nat.testBit_or]
        by_cases hi : i = 15
        · subst hi
          rw [show ((b % 128) * 256).testBit 15 = false from Nat.testBit_lt_two_pow (by omega)]
          simp
        · have : Nat.testBit (2 ^ 15 * 1) i = false := by rw [Nat.mul_one, Nat.testBit_two_pow_of_ne (by omega)]
          rw [this]; simp
      rw [show (32768 : Nat) = 2 ^ 15 * 1 from rfl, h4, ← h3]
      omega
    · rw [decide_eq_false h2]
      simp
      omega
  have h2 := bitZ_xor (s ^^^ (if b.testBit 7 then 32768 else 0)) ((b % 128) * 256) false false
  rw [Bool.xor_self] at h2
  rw [hb, ← Nat.xor_assoc]
  refine h2.trans ?_
  rw [show bitZ (s ^^^ (if b.testBit 7 then 32768 else 0)) false = bitZ s (b.testBit 7) from (bitZ_of_step s (b.testBit 7)).symm, show bitZ ((b % 128) * 256) false = 2 * ((b % 128) * 256) from stepZ_low _ (by omega)]
  congr 1
  omega
/-- The sum behind the first i bits of a byte. -/
def partZ (s b i : Nat) : Nat := ((bitsOf b).take i).foldl bitZ s
theorem partZ_0 (s b : Nat) : partZ s b 0 = s := rfl
theorem partZ_8 (s b : Nat) : partZ s b 8 = nextZ s b := rfl
theorem bit_of (b i : Nat) (h : b < 256) (hi : i < 8) : (b * 2 ^ i % 256).testBit 7 = b.testBit (7 - i) := by
  rw [show (256 : Nat) = 2 ^ 8 from rfl, Nat.testBit_mod_two_pow, Nat.testBit_mul_two_pow]
  simp; omega
theorem partZ_succ (s b i : Nat) (hi : i < 8) : partZ s b (i + 1) = bitZ (partZ s b i) (b.testBit (7 - i)) := by
  unfold partZ
  rw [List.take_succ_eq_append_getElem (by simpa [bitsOf] using hi), List.foldl_append]
  have : (bitsOf b)[i]'(by simpa [bitsOf] using hi) = b.testBit (7 - i) := by
    rcases (by omega : i = 0 ∨ i = 1 ∨ i = 2 ∨ i = 3 ∨ i = 4 ∨ i = 5 ∨ i = 6 ∨ i = 7) with rfl | rfl | rfl | rfl | rfl | rfl | rfl | rfl <;> rfl
  simp [this]
theorem partZ_lt (s b i : Nat) (h : s < 65536) : partZ s b i < 65536 := fold_lt _ _ h
/-- The sum as the code has it behind i of eight steps. -/
def aheadZ (s b i : Nat) : Nat := partZ s b i ^^^ (b * 2 ^ i % 256) * 256
theorem aheadZ_0 (s b : Nat) (h : b < 256) : aheadZ s b 0 = s ^^^ b * 256 := by
  unfold aheadZ
  rw [partZ_0, Nat.pow_zero, Nat.mul_one, Nat.mod_eq_of_lt h]
theorem aheadZ_8 (s b : Nat) : aheadZ s b 8 = nextZ s b := by
  unfold aheadZ
  rw [partZ_8, show b * 2 ^ 8 % 256 = 0 by omega, Nat.zero_mul, Nat.xor_zero]
theorem aheadZ_succ (s b i : Nat) (h : b < 256) (hi : i < 8) : stepZ (aheadZ s b i) = aheadZ s b (i + 1) := by
  unfold aheadZ
  rw [step_ahead _ _ (Nat.mod_lt _ (by decide)), bit_of b i h hi, partZ_succ s b i hi, Nat.pow_succ, ← Nat.mul_assoc]
  congr 2
  omega
theorem aheadZ_lt (s b i : Nat) (h : s < 65536) : aheadZ s b i < 65536 := by
  unfold aheadZ
  have h1 : partZ s b i < 2 ^ 16 := partZ_lt s b i h
  exact Nat.xor_lt_two_pow h1 (by omega)

/-! ### Bits that differ within sixteen places -/
/-- The first sixteen bits as a number, the first one highest. -/
def firstZ : List Bool → Nat
  | [] => 0
  | b :: l => (if b then 32768 else 0) + firstZ l / 2
theorem firstZ_cons (b : Bool) (l : List Bool) : firstZ (b :: l) = (if b then 32768 else 0) + firstZ l / 2 := rfl
theorem firstZ_lt (l : List Bool) : firstZ l < 65536 := by
  induction l with
  | nil => decide
  | cons b l ih => rw [firstZ_cons]; split <;> omega
theorem firstZ_none (l : List Bool) (h : ∀ b ∈ l, b = false) : firstZ l = 0 := by
  induction l with
  | nil => rfl
  | cons b l ih =>
    have hb := h b (by simp)
    subst hb
    rw [firstZ_cons, ih fun c hc => h c (by simp [hc])]
    rfl
theorem firstZ_dvd (n : Nat) (l : List Bool) (hn : n ≤ 16) (h : ∀ k, n ≤ k → l.getD k false = false) : ∃ q, firstZ l = 2 ^ (16 - n) * q := by
  induction n generalizing l with
  | zero =>
    refine ⟨0, ?_⟩
    rw [firstZ_none l fun b hb => ?_]
    obtain ⟨k, hk, rfl⟩ := List.getElem_of_mem hb
    have := h k (by omega)
    rwa [List.getD_eq_getElem?_getD, List.getElem?_eq_getElem hk] at this
  | succ n ih =>
    cases l with
    | nil => exact ⟨0, rfl⟩
    | cons b l =>
      obtain ⟨q, hq⟩ := ih l (by omega) fun k hk => by have := h (k + 1) (by omega); rwa [List.getD_cons_succ] at this
      rw [firstZ_cons, hq, show 16 - n = (16 - (n + 1)) + 1 by omega, Nat.pow_succ, Nat.mul_right_comm, Nat.mul_div_cancel _ (by decide)]
      cases b
      · exact ⟨q, by simp⟩
      · refine ⟨2 ^ n + q, ?_⟩
        rw [if_pos rfl, Nat.mul_add, ← Nat.pow_add, show 16 - (n + 1) + n = 15 by omega]
theorem xor_even (a c : Nat) (x : Bool) (ha : a % 2 = 0) (hc : c % 2 = 0) (h : a ^^^ (if x then 4129 else 0) = c) : x = false ∧ a = c := by
  cases x
  · exact ⟨rfl, by simpa using h⟩
  · exfalso
    have h1 : (a ^^^ 4129).testBit 0 = c.testBit 0 := by rw [← h]; rfl
    rw [Nat.testBit_xor, Nat.testBit_zero, Nat.testBit_zero, Nat.testBit_zero, ha, hc] at h1
    revert h1; decide
theorem first_step (d : Nat) (b : Bool) (l : List Bool) (hd : d < 65536) (he : ∃ q, firstZ l = 2 * q) : bitZ d b = firstZ l ↔ d = firstZ (b :: l) := by
  obtain ⟨q, hq⟩ := he
  have hlt := firstZ_lt l
  have hh := high_iff d hd
  rw [firstZ_cons]
  constructor
  · intro h
    unfold bitZ at h
    obtain ⟨h1, h2⟩ := xor_even _ _ _ (by omega) (by omega) h
    rw [hh] at h1
    cases b
    · have : ¬ 32768 ≤ d := by simpa using h1
      simp; omega
    · have : 32768 ≤ d := by simpa using h1
      simp; omega
  · intro h
    unfold bitZ
    have : (d.testBit 15 != b) = false := by
      rw [hh]
      cases b
      · simp at h ⊢; omega
      · simp at h ⊢; omega
    rw [this]
    cases b
    · simp at h ⊢; omega
    · simp at h ⊢; omega
theorem fold_zero (l : List Bool) (d : Nat) (hd : d < 65536) (h : ∀ k, 16 ≤ k → l.getD k false = false) : l.foldl bitZ d = 0 ↔ d = firstZ l := by
  induction l generalizing d with
  | nil => exact Iff.rfl
  | cons b l ih =>
    have hl : ∀ k, 15 ≤ k → l.getD k false = false := fun k hk => by have := h (k + 1) (by omega); rwa [List.getD_cons_succ] at this
    obtain ⟨q, hq⟩ := firstZ_dvd 15 l (by omega) hl
    rw [List.foldl_cons, ih _ (bitZ_lt _ _) fun k hk => hl k (by omega)]
    exact first_step d b l hd ⟨q, by rw [hq]⟩
theorem firstZ_zero (l : List Bool) (n : Nat) (hn : n ≤ 16) (h : ∀ k, n ≤ k → l.getD k false = false) (h0 : firstZ l = 0) : ∀ k, l.getD k false = false := by
  induction l generalizing n with
  | nil => intro k; rfl
  | cons b l ih =>
    intro k
    rcases Nat.eq_zero_or_pos n with hz | hz
    · exact h k (by omega)
    · have hl : ∀ k, n - 1 ≤ k → l.getD k false = false := fun k hk => by have := h (k + 1) (by omega); rwa [List.getD_cons_succ] at this
      obtain ⟨q, hq⟩ := firstZ_dvd (n - 1) l (by omega) hl
      have hp : 2 ^ (16 - (n - 1)) = 2 * 2 ^ (16 - n) := by rw [show 16 - (n - 1) = (16 - n) + 1 by omega, Nat.pow_succ, Nat.mul_comm]
      rw [hp, Nat.mul_assoc] at hq
      rw [firstZ_cons] at h0
      cases b
      · cases k with
        | zero => rfl
        | succ k =>
          rw [List.getD_cons_succ]
          refine ih (n - 1) (by omega) hl ?_ k
          simp at h0
          omega
      · simp at h0
/-- Bits that lie within sixteen places leave a sum of 0 just where none stands. -/
theorem window_zero (e : List Bool) (p : Nat) (h : ∀ k, e.getD k false = true → p ≤ k ∧ k < p + 16) : e.foldl bitZ 0 = 0 ↔ ∀ k, e.getD k false = false := by
  induction p generalizing e with
  | zero =>
    have h16 : ∀ k, 16 ≤ k → e.getD k false = false := fun k hk => by
      cases hb : e.getD k false with
      | false => rfl
      | true => have := (h k hb).2; omega
    rw [fold_zero e 0 (by decide) h16]
    constructor
    · intro h0; exact firstZ_zero e 16 (by omega) h16 h0.symm
    · intro h0
      refine (firstZ_none e fun b hb => ?_).symm
      obtain ⟨k, hk, rfl⟩ := List.getElem_of_mem hb
      have := h0 k
      rwa [List.getD_eq_getElem?_getD, List.getElem?_eq_getElem hk] at this
  | succ p ih =>
    cases e with
    | nil => simp
    | cons b e =>
      have hb : b = false := by
        cases b with
        | false => rfl
        | true => have := (h 0 rfl).1; omega
      subst hb
      rw [List.foldl_cons, show bitZ 0 false = 0 by decide, ih e fun k hk => by have := h (k + 1) (by rwa [List.getD_cons_succ]); omega]
      constructor
      · intro h0 k
        cases k with
        | zero => rfl
        | succ k => rw [List.getD_cons_succ]; exact h0 k
      · intro h0 k
        have := h0 (k + 1)
        rwa [List.getD_cons_succ] at this

/-! ### The bits of a row of bytes -/
def bitAt (l : List Nat) (k : Nat) : Bool := (l.getD (k / 8) 0).testBit (7 - k % 8)
theorem goZ_bits (l : List Nat) (s : Nat) : goZ s l = (l.flatMap bitsOf).foldl bitZ s := by
  induction l generalizing s with
  | nil => rfl
  | cons b l ih =>
    simp only [List.flatMap_cons, List.foldl_append]
    exact ih _
theorem bits_getD (l : List Nat) (k : Nat) : (l.flatMap bitsOf).getD k false = bitAt l k := by
  induction l generalizing k with
  | nil => simp [bitAt]
  | cons b l ih =>
    rw [List.flatMap_cons]
    have hl : (bitsOf b).length = 8 := rfl
    rcases Nat.lt_or_ge k 8 with h | h
    · rw [List.getD_eq_getElem?_getD, List.getElem?_append_left (by omega), ← List.getD_eq_getElem?_getD]
      unfold bitAt
      rcases (by omega : k = 0 ∨ k = 1 ∨ k = 2 ∨ k = 3 ∨ k = 4 ∨ k = 5 ∨ k = 6 ∨ k = 7) with rfl | rfl | rfl | rfl | rfl | rfl | rfl | rfl <;> rfl
    · rw [List.getD_eq_getElem?_getD, List.getElem?_append_right (by omega), ← List.getD_eq_getElem?_getD, ih, hl]
      unfold bitAt
      rw [show k / 8 = (k - 8) / 8 + 1 by omega, List.getD_cons_succ, show (k - 8) % 8 = k % 8 by omega]
theorem bitAt_xor (f g : List Nat) (h : f.length = g.length) (k : Nat) : bitAt (List.zipWith (· ^^^ ·) f g) k = (bitAt f k ^^ bitAt g k) := by
  unfold bitAt
  generalize k / 8 = j
  rcases Nat.lt_or_ge j f.length with hj | hj
  · have hg : j < g.length := by omega
    simp [List.getD_eq_getElem?_getD, List.getElem?_zipWith, List.getElem?_eq_getElem hj, List.getElem?_eq_getElem hg, Nat.testBit_xor]
  · have hg : g.length ≤ j := by omega
    simp [List.getD_eq_getElem?_getD, List.getElem?_zipWith, List.getElem?_eq_none hj, List.getElem?_eq_none hg]
/-- A bit is turned; the others stay. -/
theorem bitAt_turn (l : List Nat) (k : Nat) (h : k / 8 < l.length) (i : Nat) : bitAt (l.set (k / 8) (l.getD (k / 8) 0 ^^^ 2 ^ (7 - k % 8))) i = if i = k then !bitAt l k else bitAt l i := by
  unfold bitAt
  by_cases h1 : i / 8 = k / 8
  · rw [h1]
    have e : (l.set (k / 8) (l.getD (k / 8) 0 ^^^ 2 ^ (7 - k % 8))).getD (k / 8) 0 = l.getD (k / 8) 0 ^^^ 2 ^ (7 - k % 8) := by
      rw [List.getD_eq_getElem?_getD, List.getElem?_set_self h]; rfl
    rw [e, Nat.testBit_xor]
    by_cases h2 : i = k
    · subst h2
      rw [if_pos rfl, Nat.testBit_two_pow_self, Bool.xor_true]
    · rw [if_neg h2, Nat.testBit_two_pow_of_ne (by omega), Bool.xor_false]
  · have e : (l.set (k / 8) (l.getD (k / 8) 0 ^^^ 2 ^ (7 - k % 8))).getD (i / 8) 0 = l.getD (i / 8) 0 := by
      rw [List.getD_eq_getElem?_getD, List.getElem?_set_ne (by omega), ← List.getD_eq_getElem?_getD]
    rw [e, if_neg (by rintro rfl; exact h1 rfl)]
/-- Rows of as many bytes that differ in the j places from p on alone, and whether they do. -/
def Differ (g : List Nat) (p j : Nat) (some : Bool) (f : List Nat) : Prop := f.length = g.length ∧ (∀ k, bitAt f k ≠ bitAt g k → p ≤ k ∧ k < p + j) ∧ (some = true ↔ ∃ k, bitAt f k ≠ bitAt g k)
theorem Differ.none_ (g : List Nat) (p : Nat) : Differ g p 0 false g := ⟨rfl, fun k h => absurd rfl h, by simp⟩
theorem Differ.stay {g f : List Nat} {p j : Nat} {some : Bool} (h : Differ g p j some f) : Differ g p (j + 1) some f := ⟨h.1, fun k hk => by have := h.2.1 k hk; omega, h.2.2⟩
theorem Differ.turn {g f : List Nat} {p j : Nat} {some : Bool} (h : Differ g p j some f) (hk : (p + j) / 8 < g.length) : Differ g p (j + 1) true (f.set ((p + j) / 8) (f.getD ((p + j) / 8) 0 ^^^ 2 ^ (7 - (p + j) % 8))) := by
  have hl : (p + j) / 8 < f.length := by rw [h.1]; exact hk
  have hsame : bitAt f (p + j) = bitAt g (p + j) := by
    by_cases he : bitAt f (p + j) = bitAt g (p + j)
    · exact he
    · have := h.2.1 _ he; omega
  refine ⟨by rw [List.length_set]; exact h.1, fun k hne => ?_, ⟨fun _ => ⟨p + j, ?_⟩, fun _ => rfl⟩⟩
  · rw [bitAt_turn f _ hl] at hne
    by_cases h1 : k = p + j
    · omega
    · rw [if_neg h1] at hne
      have := h.2.1 k hne
      omega
  · rw [bitAt_turn f _ hl, if_pos rfl, hsame]
    cases bitAt g (p + j) <;> simp
theorem xor_zero_iff (a b : Nat) : a ^^^ b = 0 ↔ a = b := by
  constructor
  · intro h
    have : a ^^^ b ^^^ b = 0 ^^^ b := by rw [h]
    rwa [Nat.xor_assoc, Nat.xor_self, Nat.xor_zero, Nat.zero_xor] at this
  · rintro rfl; exact Nat.xor_self a
/-- Two rows of as many bytes that differ within sixteen bits alone have one sum just where they don't differ. -/
theorem sums_unlike (f g : List Nat) (h : f.length = g.length) (p : Nat) (hw : ∀ k, bitAt f k ≠ bitAt g k → p ≤ k ∧ k < p + 16) : sumZ f = sumZ g ↔ ∀ k, bitAt f k = bitAt g k := by
  rw [← xor_zero_iff, sumZ_xor f g h, goZ_bits, window_zero _ p fun k hk => hw k fun he => by rw [bits_getD, bitAt_xor f g h, he, Bool.xor_self] at hk; cases hk]
  constructor
  · intro h0 k
    have := h0 k
    rw [bits_getD, bitAt_xor f g h] at this
    revert this
    cases bitAt f k <;> cases bitAt g k <;> simp
  · intro h0 k
    rw [bits_getD, bitAt_xor f g h, h0 k, Bool.xor_self]
theorem Differ.sums {g f : List Nat} {p : Nat} {some : Bool} (h : Differ g p 16 some f) : some = true ↔ sumZ f ≠ sumZ g := by
  rw [h.2.2, ne_eq, sums_unlike f g h.1 p h.2.1]
  constructor
  · rintro ⟨k, hk⟩ h0; exact hk (h0 k)
  · intro h0
    exact Classical.byContradiction fun h1 => h0 fun k => Classical.byContradiction fun h2 => h1 ⟨k, h2⟩
end Go.Proofs.Ytlhjligeigkbnaa.Crc
