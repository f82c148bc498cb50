/- What the proofs stand on, part 1. -/
import Derived.WalkKit
import Derived.Laws.BitsAllLaws
import Derived.Deep.RegionHeld3
import Derived.Below
import Derived.Deep.Draws
import Derived.ProofKit
import Derived.OpenShut
import Derived.OwnWalk
import GoSem.Claim
import Derived.Laws.BitsLemmas
import Derived.IntWalk
import Derived.Maps.AppendAt
import Derived.KernelRfl
import Derived.Test.YtfimgkomfnfjkaaChecked
import Derived.Lib.Hide
import Derived.Deep.QuietTactic
import Derived.BigQuiet
import Derived.SizedLaws
import Derived.Deep.Matrix
import Derived.Laws.BytesArg
import Derived.Laws.Strings
import Derived.Deep.Slices
import Derived.Deep.Fields
import Derived.ChangeSame
import Derived.ChangeSlices
import Derived.Deep.RegionWith
import Derived.Laws.MakeOwn
section
/- Plain arithmetic of a check of 16 bits: a bit's step, a byte's, a row's; what two rows' sums have to do with the bits in which they differ. Nothing here speaks of a program. -/
set_option linter.unusedSimpArgs false
set_option linter.unusedVariables false
namespace Go.Proofs.Ytfimgkomfnfjkaa.Crc
open Go.RowKit

/-- A step of a bit. -/
def bitZ (s : Nat) (one : Bool) : Nat := (2 * s) % 65536 ^^^ (if s.testBit 15 != one then 4129 else 0)
/-- A byte's bits, the highest one first. -/
def bitsOf (b : Nat) : List Bool := [b.testBit 7, b.testBit 6, b.testBit 5, b.testBit 4, b.testBit 3, b.testBit 2, b.testBit 1, b.testBit 0]
def nextZ (s b : Nat) : Nat := (bitsOf b).foldl bitZ s
def goZ (s : Nat) (l : List Nat) : Nat := l.foldl nextZ s
def sumZ (l : List Nat) : Nat := goZ 65535 l

theorem bitZ_lt (s : Nat) (one : Bool) : bitZ s one < 65536 := by
  unfold bitZ
  have h1 : 2 * s % 65536 < 2 ^ 16 := Nat.mod_lt _ (by decide)
  exact Nat.xor_lt_two_pow h1 (by split <;> decide)
theorem fold_lt (l : List Bool) (s : Nat) (h : s < 65536) : l.foldl bitZ s < 65536 := by
  induction l generalizing s with
  | nil => exact h
  | cons b l ih => exact ih _ (bitZ_lt _ _)
theorem nextZ_lt (s b : Nat) (h : s < 65536) : nextZ s b < 65536 := fold_lt _ _ h
theorem goZ_lt (l : List Nat) (s : Nat) (h : s < 65536) : goZ s l < 65536 := by
  induction l generalizing s with
  | nil => exact h
  | cons b l ih => exact ih _ (nextZ_lt _ _ h)
theorem sumZ_lt (l : List Nat) : sumZ l < 65536 := goZ_lt l _ (by decide)
theorem goZ_append (s : Nat) (a b : List Nat) : goZ s (a ++ b) = goZ (goZ s a) b := List.foldl_append
theorem sumZ_append (a b : List Nat) : sumZ (a ++ b) = goZ (sumZ a) b := goZ_append _ a b

theorem high_iff (s : Nat) (h : s < 65536) : s.testBit 15 = decide (32768 ≤ s) := by
  rw [Nat.testBit_eq_decide_div_mod_eq]
  have : s / 2 ^ 15 % 2 = 1 ↔ 32768 ≤ s := by omega
  simp [this]

/-! ### Linear -/
theorem double_xor (a b : Nat) : 2 * (a ^^^ b) = 2 * a ^^^ 2 * b := by
  apply Nat.eq_of_testBit_eq
  intro i
  cases i with
  | zero => simp [Nat.testBit_xor]
  | succ i => rw [Nat.testBit_xor, Nat.testBit_succ, Nat.testBit_succ, Nat.testBit_succ, Nat.mul_div_cancel_left _ (by decide), Nat.mul_div_cancel_left _ (by decide), Nat.mul_div_cancel_left _ (by decide), Nat.testBit_xor]
theorem bitZ_xor (s t : Nat) (a b : Bool) : bitZ (s ^^^ t) (a ^^ b) = bitZ s a ^^^ bitZ t b := by
  unfold bitZ
  rw [double_xor, show (65536 : Nat) = 2 ^ 16 from rfl, Nat.xor_mod_two_pow, Nat.testBit_xor]
  generalize 2 * s % 2 ^ 16 = S
  generalize 2 * t % 2 ^ 16 = T
  have e : (if (s.testBit 15 ^^ t.testBit 15) != (a ^^ b) then 4129 else 0) = (if s.testBit 15 != a then 4129 else 0) ^^^ (if t.testBit 15 != b then 4129 else 0) := by
    cases s.testBit 15 <;> cases t.testBit 15 <;> cases a <;> cases b <;> rfl
  rw [e]
  ac_rfl
theorem fold_xor (f g : List Bool) (h : f.length = g.length) (s t : Nat) : (List.zipWith (· ^^ ·) f g).foldl bitZ (s ^^^ t) = f.foldl bitZ s ^^^ g.foldl bitZ t := by
  induction f generalizing g s t with
  | nil => cases g with
    | nil => rfl
    | cons => simp at h
  | cons a f ih => cases g with
    | nil => simp at h
    | cons b g =>
      simp only [List.zipWith_cons_cons, List.foldl_cons, bitZ_xor]
      exact ih g (by simpa using h) _ _
theorem bitsOf_xor (a b : Nat) : bitsOf (a ^^^ b) = List.zipWith (· ^^ ·) (bitsOf a) (bitsOf b) := by simp only [bitsOf, Nat.testBit_xor]; rfl
theorem nextZ_xor (s t a b : Nat) : nextZ (s ^^^ t) (a ^^^ b) = nextZ s a ^^^ nextZ t b := by
  unfold nextZ
  rw [bitsOf_xor]
  exact fold_xor (bitsOf a) (bitsOf b) rfl _ _
theorem goZ_xor (f g : List Nat) (h : f.length = g.length) (s t : Nat) : goZ (s ^^^ t) (List.zipWith (· ^^^ ·) f g) = goZ s f ^^^ goZ t g := by
  induction f generalizing g s t with
  | nil => cases g with
    | nil => rfl
    | cons => simp at h
  | cons a f ih => cases g with
    | nil => simp at h
    | cons b g =>
      simp only [List.zipWith_cons_cons, goZ, List.foldl_cons, nextZ_xor]
      exact ih g (by simpa using h) _ _
theorem sumZ_xor (f g : List Nat) (h : f.length = g.length) : sumZ f ^^^ sumZ g = goZ 0 (List.zipWith (· ^^^ ·) f g) := by
  rw [show (0 : Nat) = 65535 ^^^ 65535 by decide, goZ_xor f g h]
  rfl

/-! ### A byte's steps at once -/
/-- The step in which the bit has turned the highest one already. -/
def stepZ (s : Nat) : Nat := bitZ s false
theorem bitZ_of_step (s : Nat) (one : Bool) : bitZ s one = stepZ (s ^^^ (if one then 32768 else 0)) := by
  unfold stepZ
  have := bitZ_xor s (if one then 32768 else 0) one one
  rw [Bool.xor_self] at this
  rw [this]
  cases one
  · simp [bitZ]
  · rw [if_pos rfl, show bitZ 32768 true = 0 by decide, Nat.xor_zero]
theorem stepZ_low (t : Nat) (h : t < 32768) : stepZ t = 2 * t := by
  unfold stepZ bitZ
  rw [high_iff t (by omega), decide_eq_false (by omega)]
  simp; omega
/-- The sum with the byte that is to come in its upper half: behind a bit's step it is the same of what is left of the byte. -/
theorem step_ahead (s b : Nat) (h : b < 256) : stepZ (s ^^^ b * 256) = bitZ s (b.testBit 7) ^^^ (2 * b % 256) * 256 := by
  have hb : b * 256 = (if b.testBit 7 then 32768 else 0) ^^^ (b % 128) * 256 := by
    have h1 : b.testBit 7 = decide (128 ≤ b) := by
      rw [Nat.testBit_eq_decide_div_mod_eq]
      have : b / 2 ^ 7 % 2 = 1 ↔ 128 ≤ b := by omega
      simp [this]
    rw [h1]
    by_cases h2 : 128 ≤ b
    · rw [decide_eq_true h2, if_pos rfl]
      have h3 := Nat.two_pow_add_eq_or_of_lt (i := 15) (b := (b % 128) * 256) (by omega) 1
      have h4 : (2 ^ 15 * 1) ^^^ (b % 128) * 256 = (2 ^ 15 * 1) ||| (b % 128) * 256 := by
        apply Nat.eq_of_testBit_eq
        intro i
        rw [Nat.testBit_xor, Nat.testBit_or]
        by_cases hi : i = 15
        · subst hi
          rw [show ((b % 128) * 256).testBit 15 = false from Nat.testBit_lt_two_pow (by omega)]
          simp
        · have : Nat.testBit (2 ^ 15 * 1) i = false := by rw [Nat.mul_one, Nat.testBit_two_pow_of_ne (by omega)]
          rw [this]; simp
      rw [show (32768 : Nat) = 2 ^ 15 * 1 from rfl, h4, ← h3]
      omega
    · rw [decide_eq_false h2]
      simp
      omega
  have h2 := bitZ_xor (s ^^^ (if b.testBit 7 then 32768 else 0)) ((b % 128) * 256) false false
  rw [Bool.xor_self] at h2
  rw [hb, ← Nat.xor_assoc]
  refine h2.trans ?_
  rw [show bitZ (s ^^^ (if b.testBit 7 then 32768 else 0)) false = bitZ s (b.testBit 7) from (bitZ_of_step s (b.testBit 7)).symm, show bitZ ((b % 128) * 256) false = 2 * ((b % 128) * 256) from stepZ_low _ (by omega)]
  congr 1
  omega
/-- The sum behind the first i bits of a byte. -/
def partZ (s b i : Nat) : Nat := ((bitsOf b).take i).foldl bitZ s
theorem partZ_0 (s b : Nat) : partZ s b 0 = s := rfl
theorem partZ_8 (s b : Nat) : partZ s b 8 = nextZ s b := rfl
theorem bit_of (b i : Nat) (h : b < 256) (hi : i < 8) : (b * 2 ^ i % 256).testBit 7 = b.testBit (7 - i) := by
  rw [show (256 : Nat) = 2 ^ 8 from rfl, Nat.testBit_mod_two_pow, Nat.testBit_mul_two_pow]
  simp; omega
theorem partZ_succ (s b i : Nat) (hi : i < 8) : partZ s b (i + 1) = bitZ (partZ s b i) (b.testBit (7 - i)) := by
  unfold partZ
  rw [List.take_succ_eq_append_getElem (by simpa [bitsOf] using hi), List.foldl_append]
  have : (bitsOf b)[i]'(by simpa [bitsOf] using hi) = b.testBit (7 - i) := by
    rcases (by omega : i = 0 ∨ i = 1 ∨ i = 2 ∨ i = 3 ∨ i = 4 ∨ i = 5 ∨ i = 6 ∨ i = 7) with rfl | rfl | rfl | rfl | rfl | rfl | rfl | rfl <;> rfl
  simp [this]
theorem partZ_lt (s b i : Nat) (h : s < 65536) : partZ s b i < 65536 := fold_lt _ _ h
/-- The sum as the code has it behind i of eight steps. -/
def aheadZ (s b i : Nat) : Nat := partZ s b i ^^^ (b * 2 ^ i % 256) * 256
theorem aheadZ_0 (s b : Nat) (h : b < 256) : aheadZ s b 0 = s ^^^ b * 256 := by
  unfold aheadZ
  rw [partZ_0, Nat.pow_zero, Nat.mul_one, Nat.mod_eq_of_lt h]
theorem aheadZ_8 (s b : Nat) : aheadZ s b 8 = nextZ s b := by
  unfold aheadZ
  rw [partZ_8, show b * 2 ^ 8 % 256 = 0 by omega, Nat.zero_mul, Nat.xor_zero]
theorem aheadZ_succ (s b i : Nat) (h : b < 256) (hi : i < 8) : stepZ (aheadZ s b i) = aheadZ s b (i + 1) := by
  unfold aheadZ
  rw [step_ahead _ _ (Nat.mod_lt _ (by decide)), bit_of b i h hi, partZ_succ s b i hi, Nat.pow_succ, ← Nat.mul_assoc]
  congr 2
  omega
theorem aheadZ_lt (s b i : Nat) (h : s < 65536) : aheadZ s b i < 65536 := by
  unfold aheadZ
  have h1 : partZ s b i < 2 ^ 16 := partZ_lt s b i h
  exact Nat.xor_lt_two_pow h1 (by omega)

/-! ### Bits that differ within sixteen places -/
/-- The first sixteen bits as a number, the first one highest. -/
def firstZ : List Bool → Nat
  | [] => 0
  | b :: l => (if b then 32768 else 0) + firstZ l / 2
theorem firstZ_cons (b : Bool) (l : List Bool) : firstZ (b :: l) = (if b then 32768 else 0) + firstZ l / 2 := rfl
theorem firstZ_lt (l : List Bool) : firstZ l < 65536 := by
  induction l with
  | nil => decide
  | cons b l ih => rw [firstZ_cons]; split <;> omega
theorem firstZ_none (l : List Bool) (h : ∀ b ∈ l, b = false) : firstZ l = 0 := by
  induction l with
  | nil => rfl
  | cons b l ih =>
    have hb := h b (by simp)
    subst hb
    rw [firstZ_cons, ih fun c hc => h c (by simp [hc])]
    rfl
theorem firstZ_dvd (n : Nat) (l : List Bool) (hn : n ≤ 16) (h : ∀ k, n ≤ k → l.getD k false = false) : ∃ q, firstZ l = 2 ^ (16 - n) * q := by
  induction n generalizing l with
  | zero =>
    refine ⟨0, ?_⟩
    rw [firstZ_none l fun b hb => ?_]
    obtain ⟨k, hk, rfl⟩ := List.getElem_of_mem hb
    have := h k (by omega)
    rwa [List.getD_eq_getElem?_getD, List.getElem?_eq_getElem hk] at this
  | succ n ih =>
    cases l with
    | nil => exact ⟨0, rfl⟩
    | cons b l =>
      obtain ⟨q, hq⟩ := ih l (by omega) fun k hk => by have := h (k + 1) (by omega); rwa [List.getD_cons_succ] at this
      rw [firstZ_cons, hq, show 16 - n = (16 - (n + 1)) + 1 by omega, Nat.pow_succ, Nat.mul_right_comm, Nat.mul_div_cancel _ (by decide)]
      cases b
      · exact ⟨q, by simp⟩
      · refine ⟨2 ^ n + q, ?_⟩
        rw [if_pos rfl, Nat.mul_add, ← Nat.pow_add, show 16 - (n + 1) + n = 15 by omega]
theorem xor_even (a c : Nat) (x : Bool) (ha : a % 2 = 0) (hc : c % 2 = 0) (h : a ^^^ (if x then 4129 else 0) = c) : x = false ∧ a = c := by
  cases x
  · exact ⟨rfl, by simpa using h⟩
  · exfalso
    have h1 : (a ^^^ 4129).testBit 0 = c.testBit 0 := by rw [← h]; rfl
    rw [Nat.testBit_xor, Nat.testBit_zero, Nat.testBit_zero, Nat.testBit_zero, ha, hc] at h1
    revert h1; decide
theorem first_step (d : Nat) (b : Bool) (l : List Bool) (hd : d < 65536) (he : ∃ q, firstZ l = 2 * q) : bitZ d b = firstZ l ↔ d = firstZ (b :: l) := by
  obtain ⟨q, hq⟩ := he
  have hlt := firstZ_lt l
  have hh := high_iff d hd
  rw [firstZ_cons]
  constructor
  · intro h
    unfold bitZ at h
    obtain ⟨h1, h2⟩ := xor_even _ _ _ (by omega) (by omega) h
    rw [hh] at h1
    cases b
    · have : ¬ 32768 ≤ d := by simpa using h1
      simp; omega
    · have : 32768 ≤ d := by simpa using h1
      simp; omega
  · intro h
    unfold bitZ
    have : (d.testBit 15 != b) = false := by
      rw [hh]
      cases b
      · simp at h ⊢; omega
      · simp at h ⊢; omega
    rw [this]
    cases b
    · simp at h ⊢; omega
    · simp at h ⊢; omega
theorem fold_zero (l : List Bool) (d : Nat) (hd : d < 65536) (h : ∀ k, 16 ≤ k → l.getD k false = false) : l.foldl bitZ d = 0 ↔ d = firstZ l := by
  induction l generalizing d with
  | nil => exact Iff.rfl
  | cons b l ih =>
    have hl : ∀ k, 15 ≤ k → l.getD k false = false := fun k hk => by have := h (k + 1) (by omega); rwa [List.getD_cons_succ] at this
    obtain ⟨q, hq⟩ := firstZ_dvd 15 l (by omega) hl
    rw [List.foldl_cons, ih _ (bitZ_lt _ _) fun k hk => hl k (by omega)]
    exact first_step d b l hd ⟨q, by rw [hq]⟩
theorem firstZ_zero (l : List Bool) (n : Nat) (hn : n ≤ 16) (h : ∀ k, n ≤ k → l.getD k false = false) (h0 : firstZ l = 0) : ∀ k, l.getD k false = false := by
  induction l generalizing n with
  | nil => intro k; rfl
  | cons b l ih =>
    intro k
    rcases Nat.eq_zero_or_pos n with hz | hz
    · exact h k (by omega)
    · have hl : ∀ k, n - 1 ≤ k → l.getD k false = false := fun k hk => by have := h (k + 1) (by omega); rwa [List.getD_cons_succ] at this
      obtain ⟨q, hq⟩ := firstZ_dvd (n - 1) l (by omega) hl
      have hp : 2 ^ (16 - (n - 1)) = 2 * 2 ^ (16 - n) := by rw [show 16 - (n - 1) = (16 - n) + 1 by omega, Nat.pow_succ, Nat.mul_comm]
      rw [hp, Nat.mul_assoc] at hq
      rw [firstZ_cons] at h0
      cases b
      · cases k with
        | zero => rfl
        | succ k =>
          rw [List.getD_cons_succ]
          refine ih (n - 1) (by omega) hl ?_ k
          simp at h0
          omega
      · simp at h0
/-- Bits that lie within sixteen places leave a sum of 0 just where none stands. -/
theorem window_zero (e : List Bool) (p : Nat) (h : ∀ k, e.getD k false = true → p ≤ k ∧ k < p + 16) : e.foldl bitZ 0 = 0 ↔ ∀ k, e.getD k false = false := by
  induction p generalizing e with
  | zero =>
    have h16 : ∀ k, 16 ≤ k → e.getD k false = false := fun k hk => by
      cases hb : e.getD k false with
      | false => rfl
      | true => have := (h k hb).2; omega
    rw [fold_zero e 0 (by decide) h16]
    constructor
    · intro h0; exact firstZ_zero e 16 (by omega) h16 h0.symm
    · intro h0
      refine (firstZ_none e fun b hb => ?_).symm
      obtain ⟨k, hk, rfl⟩ := List.getElem_of_mem hb
      have := h0 k
      rwa [List.getD_eq_getElem?_getD, List.getElem?_eq_getElem hk] at this
  | succ p ih =>
    cases e with
    | nil => simp
    | cons b e =>
      have hb : b = false := by
        cases b with
        | false => rfl
        | true => have := (h 0 rfl).1; omega
      subst hb
      rw [List.foldl_cons, show bitZ 0 false = 0 by decide, ih e fun k hk => by have := h (k + 1) (by rwa [List.getD_cons_succ]); omega]
      constructor
      · intro h0 k
        cases k with
        | zero => rfl
        | succ k => rw [List.getD_cons_succ]; exact h0 k
      · intro h0 k
        have := h0 (k + 1)
        rwa [List.getD_cons_succ] at this

/-! ### The bits of a row of bytes -/
def bitAt (l : List Nat) (k : Nat) : Bool := (l.getD (k / 8) 0).testBit (7 - k % 8)
theorem goZ_bits (l : List Nat) (s : Nat) : goZ s l = (l.flatMap bitsOf).foldl bitZ s := by
  induction l generalizing s with
  | nil => rfl
  | cons b l ih =>
    simp only [List.flatMap_cons, List.foldl_append]
    exact ih _
theorem bits_getD (l : List Nat) (k : Nat) : (l.flatMap bitsOf).getD k false = bitAt l k := by
  induction l generalizing k with
  | nil => simp [bitAt]
  | cons b l ih =>
    rw [List.flatMap_cons]
    have hl : (bitsOf b).length = 8 := rfl
    rcases Nat.lt_or_ge k 8 with h | h
    · rw [List.getD_eq_getElem?_getD, List.getElem?_append_left (by omega), ← List.getD_eq_getElem?_getD]
      unfold bitAt
      rcases (by omega : k = 0 ∨ k = 1 ∨ k = 2 ∨ k = 3 ∨ k = 4 ∨ k = 5 ∨ k = 6 ∨ k = 7) with rfl | rfl | rfl | rfl | rfl | rfl | rfl | rfl <;> rfl
    · rw [List.getD_eq_getElem?_getD, List.getElem?_append_right (by omega), ← List.getD_eq_getElem?_getD, ih, hl]
      unfold bitAt
      rw [show k / 8 = (k - 8) / 8 + 1 by omega, List.getD_cons_succ, show (k - 8) % 8 = k % 8 by omega]
theorem bitAt_xor (f g : List Nat) (h : f.length = g.length) (k : Nat) : bitAt (List.zipWith (· ^^^ ·) f g) k = (bitAt f k ^^ bitAt g k) := by
  unfold bitAt
  generalize k / 8 = j
  rcases Nat.lt_or_ge j f.length with hj | hj
  · have hg : j < g.length := by omega
    simp [List.getD_eq_getElem?_getD, List.getElem?_zipWith, List.getElem?_eq_getElem hj, List.getElem?_eq_getElem hg, Nat.testBit_xor]
  · have hg : g.length ≤ j := by omega
    simp [List.getD_eq_getElem?_getD, List.getElem?_zipWith, List.getElem?_eq_none hj, List.getElem?_eq_none hg]
/-- A bit is turned; the others stay. -/
theorem bitAt_turn (l : List Nat) (k : Nat) (h : k / 8 < l.length) (i : Nat) : bitAt (l.set (k / 8) (l.getD (k / 8) 0 ^^^ 2 ^ (7 - k % 8))) i = if i = k then !bitAt l k else bitAt l i := by
  unfold bitAt
  by_cases h1 : i / 8 = k / 8
  · rw [h1]
    have e : (l.set (k / 8) (l.getD (k / 8) 0 ^^^ 2 ^ (7 - k % 8))).getD (k / 8) 0 = l.getD (k / 8) 0 ^^^ 2 ^ (7 - k % 8) := by
      rw [List.getD_eq_getElem?_getD, List.getElem?_set_self h]; rfl
    rw [e, Nat.testBit_xor]
    by_cases h2 : i = k
    · subst h2
      rw [if_pos rfl, Nat.testBit_two_pow_self, Bool.xor_true]
    · rw [if_neg h2, Nat.testBit_two_pow_of_ne (by omega), Bool.xor_false]
  · have e : (l.set (k / 8) (l.getD (k / 8) 0 ^^^ 2 ^ (7 - k % 8))).getD (i / 8) 0 = l.getD (i / 8) 0 := by
      rw [List.getD_eq_getElem?_getD, List.getElem?_set_ne (by omega), ← List.getD_eq_getElem?_getD]
    rw [e, if_neg (by rintro rfl; exact h1 rfl)]
/-- Rows of as many bytes that differ in the j places from p on alone, and whether they do. -/
def Differ (g : List Nat) (p j : Nat) (some : Bool) (f : List Nat) : Prop := f.length = g.length ∧ (∀ k, bitAt f k ≠ bitAt g k → p ≤ k ∧ k < p + j) ∧ (some = true ↔ ∃ k, bitAt f k ≠ bitAt g k)
theorem Differ.none_ (g : List Nat) (p : Nat) : Differ g p 0 false g := ⟨rfl, fun k h => absurd rfl h, by simp⟩
theorem Differ.stay {g f : List Nat} {p j : Nat} {some : Bool} (h : Differ g p j some f) : Differ g p (j + 1) some f := ⟨h.1, fun k hk => by have := h.2.1 k hk; omega, h.2.2⟩
theorem Differ.turn {g f : List Nat} {p j : Nat} {some : Bool} (h : Differ g p j some f) (hk : (p + j) / 8 < g.length) : Differ g p (j + 1) true (f.set ((p + j) / 8) (f.getD ((p + j) / 8) 0 ^^^ 2 ^ (7 - (p + j) % 8))) := by
  have hl : (p + j) / 8 < f.length := by rw [h.1]; exact hk
  have hsame : bitAt f (p + j) = bitAt g (p + j) := by
    by_cases he : bitAt f (p + j) = bitAt g (p + j)
    · exact he
    · have := h.2.1 _ he; omega
  refine ⟨by rw [List.length_set]; exact h.1, fun k hne => ?_, ⟨fun _ => ⟨p + j, ?_⟩, fun _ => rfl⟩⟩
  · rw [bitAt_turn f _ hl] at hne
    by_cases h1 : k = p + j
    · omega
    · rw [if_neg h1] at hne
      have := h.2.1 k hne
      omega
  · rw [bitAt_turn f _ hl, if_pos rfl, hsame]
    cases bitAt g (p + j) <;> simp
theorem xor_zero_iff (a b : Nat) : a ^^^ b = 0 ↔ a = b := by
  constructor
  · intro h
    have : a ^^^ b ^^^ b = 0 ^^^ b := by rw [h]
    rwa [Nat.xor_assoc, Nat.xor_self, Nat.xor_zero, Nat.zero_xor] at this
  · rintro rfl; exact Nat.xor_self a
/-- Two rows of as many bytes that differ within sixteen bits alone have one sum just where they don't differ. -/
theorem sums_unlike (f g : List Nat) (h : f.length = g.length) (p : Nat) (hw : ∀ k, bitAt f k ≠ bitAt g k → p ≤ k ∧ k < p + 16) : sumZ f = sumZ g ↔ ∀ k, bitAt f k = bitAt g k := by
  rw [← xor_zero_iff, sumZ_xor f g h, goZ_bits, window_zero _ p fun k hk => hw k fun he => by rw [bits_getD, bitAt_xor f g h, he, Bool.xor_self] at hk; cases hk]
  constructor
  · intro h0 k
    have := h0 k
    rw [bits_getD, bitAt_xor f g h] at this
    revert this
    cases bitAt f k <;> cases bitAt g k <;> simp
  · intro h0 k
    rw [bits_getD, bitAt_xor f g h, h0 k, Bool.xor_self]
theorem Differ.sums {g f : List Nat} {p : Nat} {some : Bool} (h : Differ g p 16 some f) : some = true ↔ sumZ f ≠ sumZ g := by
  rw [h.2.2, ne_eq, sums_unlike f g h.1 p h.2.1]
  constructor
  · rintro ⟨k, hk⟩ h0; exact hk (h0 k)
  · intro h0
    exact Classical.byContradiction fun h1 => h0 fun k => Classical.byContradiction fun h2 => h1 ⟨k, h2⟩
end Go.Proofs.Ytfimgkomfnfjkaa.Crc
end
section
/- Bits of a check as the walk spells them. -/
set_option linter.unusedSimpArgs false
set_option linter.unusedVariables false
namespace Go.Proofs.Ytfimgkomfnfjkaa.Crc
open Go.RowKit

theorem ret_int {k : IntKind} {a b : Int} (h : a = b) : Ending.returned (.int k a) = .returned (.int k b) := by rw [h]
theorem u16_wrap (n : Int) : IntKind.u16.wrap n = n % 65536 := by simp [IntKind.wrap, IntKind.bits, IntKind.signed]
theorem u16_high (s : Nat) (h : s < 65536) : bits .and .u16 (s : Int) 32768 = if 32768 ≤ s then 32768 else 0 := by
  have := u16_and_nat s 32768 h (by decide)
  rw [show ((32768 : Nat) : Int) = 32768 from rfl] at this
  rw [this]
  have e : s &&& 32768 = if 32768 ≤ s then 32768 else 0 := by
    apply Nat.eq_of_testBit_eq
    intro i
    rw [Nat.testBit_and, show (32768 : Nat) = 2 ^ 15 from rfl]
    by_cases hi : i = 15
    · subst hi
      rw [high_iff s h]
      by_cases h1 : 32768 ≤ s
      · simp [h1]
      · simp [h1]
    · rw [Nat.testBit_two_pow_of_ne (by omega), Bool.and_false]
      split
      · rw [Nat.testBit_two_pow_of_ne (by omega)]
      · simp
  rw [e]
  split <;> rfl
theorem bit_yes (s : Nat) (b : Bool) (h : s < 65536) (hb : decide (32768 ≤ s) ≠ b) (S : Int) (hS : S = (s : Int) * 2 % 65536) : bits .xor .u16 S 4129 = (bitZ s b : Nat) := by
  have e : S = ((2 * s % 65536 : Nat) : Int) := by omega
  have := u16_xor_nat (2 * s % 65536) 4129 (Nat.mod_lt _ (by decide)) (by decide)
  rw [e, show (4129 : Int) = ((4129 : Nat) : Int) from rfl, this]
  unfold bitZ
  rw [high_iff s h, if_pos (by simpa using hb)]
theorem bit_no (s : Nat) (b : Bool) (h : s < 65536) (hb : decide (32768 ≤ s) = b) (S : Int) (hS : S = (s : Int) * 2 % 65536) : S = (bitZ s b : Nat) := by
  unfold bitZ
  rw [high_iff s h, hb]
  simp
  omega
end Go.Proofs.Ytfimgkomfnfjkaa.Crc
end
section
/- The moves of a walk through a region that draws its order, typed out: an operation is taken first; the one that is left is carried out; what every world meets is made stronger behind it. -/
set_option linter.unusedVariables false
namespace Go.Proofs.Ytfimgkomfnfjkaa.Reg
open Go.RowKit
section
variable {P : Program} {md : Region.Mode} {l : List Oper} {Q : Exit → Act → World → Prop} {S S' : World → Prop}
theorem begin_ {id : Nat} {a : Act} {w : World} (hm : P.follows .mixedOrders = true) (hS : S w.drew)
    (h : S w.drew → wpAnyH P .any l.toArray (NoPanic Q) S l.toArray.size (Array.replicate l.toArray.size false) a w.drew) : (Code.region id l.toArray true).wp P Q a w :=
  wp_region_noPanic (wp_region_held_drew hm hS h)
theorem take {i : Nat} {oi : Oper} {v : Value} {fuel : Nat} {listed : Array Bool} {a : Act} {w : World} (hi : l[i]? = some oi) (hs : Region.noSelect l.toArray = true) (hf : Region.free md l.toArray listed i = true)
    (hr : (Region.ready md l.toArray listed).contains i = true) (hw : Region.wanted oi (yielded l.toArray a.tmps) = true) (hv : ∀ w, S w → (execOp a.eval oi).run P w = .ok (.value v) w) (hS : S w)
    (h : wpAnyH P md l.toArray (NoPanic Q) S fuel (listed.setIfInBounds i true) (a.put oi.dst v) w) : wpAnyH P md l.toArray (NoPanic Q) S (fuel + 1) listed a w :=
  wpAnyH_take (by rw [List.getElem?_toArray]; exact hi) hs hf hr (fun _ _ _ h => h) (.inl ⟨hw, hv⟩) hS h
theorem call {i : Nat} {oi : Oper} {fuel : Nat} {listed : Array Bool} {a : Act} {w : World} (hi : l[i]? = some oi) (hr : Region.ready md l.toArray listed = [i]) (hw : Region.wanted oi (yielded l.toArray a.tmps) = true)
    (h : ∀ K : Act → World → Prop, Shut (∀ a w, S w → (S w → wpAnyH P md l.toArray Q S fuel (listed.setIfInBounds i true) a w) → K a w) → Oper.wp P oi a w K Q) : wpAnyH P md l.toArray Q S (fuel + 1) listed a w :=
  wpAnyH_ready hr (by simp) (AllReadyH.cons (o := oi) (by rw [List.getElem?_toArray]; exact hi) (fun K hK => by rw [if_pos hw]; exact h K hK) AllReadyH.nil)
theorem done {listed : Array Bool} {a : Act} {w : World} (hr : Region.ready md l.toArray listed = []) (h : Q .normal a w) (fuel : Nat) : wpAnyH P md l.toArray (NoPanic Q) S fuel listed a w := wpAnyH_done (Q := NoPanic Q) hr (NoPanic.normal h) fuel
theorem mono (h : ∀ w, S' w → S w) : ∀ (fuel : Nat) (listed : Array Bool) (a : Act) (w : World), wpAnyH P md l.toArray Q S' fuel listed a w → wpAnyH P md l.toArray Q S fuel listed a w
  | 0, _, _, _, H => H
  | fuel + 1, listed, a, w, H => ⟨H.1, fun i hi => wpOp_mono (fun a' w' h3 => ⟨h _ h3.1, mono h fuel _ a' w' h3.2⟩) (H.2 i hi)⟩
theorem more {fuel : Nat} {listed : Array Bool} {a : Act} {w : World} (T : World → Prop) (hT : T w) (hS : S w) (H : T w ∧ S w → wpAnyH P md l.toArray Q (fun W => T W ∧ S W) fuel listed a w) : wpAnyH P md l.toArray Q S fuel listed a w :=
  mono (fun _ h => h.2) fuel listed a w (H ⟨hT, hS⟩)
end
end Go.Proofs.Ytfimgkomfnfjkaa.Reg
end
section
/- A block of memory that is known whole, and stays so. -/
set_option linter.unusedVariables false
namespace Go.Proofs.Ytfimgkomfnfjkaa
open Go.RowKit

/-- Block b of the world is just these cells, of this element type, none of them frozen. -/
def Has (w : World) (b : Nat) (t : TypeId) (cs : Array Value) : Prop := w.heap[b]? = some (.cells cs t (0, 0))
section
variable {w w' : World} {b : Nat} {t : TypeId} {cs : Array Value}
theorem Has.lt (h : Has w b t cs) : b < w.heap.size := by
  rcases Nat.lt_or_ge b w.heap.size with hl | hg
  · exact hl
  · unfold Has at h; rw [Array.getElem?_eq_none hg] at h; cases h
theorem Has.cell (h : Has w b t cs) (i : Nat) : w.cell? ⟨b, i, none⟩ = cs[i]? := cell_of_row w b i cs t (0, 0) h
theorem Has.frozen (h : Has w b t cs) (i : Nat) : w.frozen? ⟨b, i, none⟩ = false := by
  unfold Has at h; simp [World.frozen?, h]
theorem Has.new (w : World) (t : TypeId) (cs : Array Value) : Has (w.alloc (.cells cs t)) w.heap.size t cs := heap_alloc_new w _
theorem Has.drew (h : Has w b t cs) : Has w.drew b t cs := h
theorem Has.drewN (h : Has w b t cs) (n : Nat) : Has (w.drewN n) b t cs := h
theorem Has.alloc (h : Has w b t cs) (o : Obj) : Has (w.alloc o) b t cs := (Below.heap_alloc w o b h.lt).trans h
theorem Has.set_ (h : Has w b t cs) (i : Nat) (u : Value) : Has (w.setCell ⟨b, i, none⟩ u) b t (cs.setIfInBounds i u) := by
  unfold Has at h ⊢
  simp [World.setCell, Array.getElem?_modify, h]
theorem Has.far (h : Has w b t cs) {p : Addr} (hp : b ≠ p.block) (u : Value) : Has (w.setCell p u) b t cs := (Below.heap_setCell w p u b hp).trans h
theorem Has.below {B : Nat} (h : Has w b t cs) (hb : Below B w w') (hg : b < B) : Has w' b t cs := (hb.block b hg).trans h
theorem Has.two {u v : Value} (h : Has w b t #[u, v]) : w.cell? ⟨b, 0, none⟩ = some u ∧ w.cell? ⟨b, 1, none⟩ = some v ∧ w.frozen? ⟨b, 0, none⟩ = false ∧ w.frozen? ⟨b, 1, none⟩ = false :=
  ⟨h.cell 0, h.cell 1, h.frozen 0, h.frozen 1⟩
theorem Has.put2 {u v : Value} (h : Has w b t #[u, v]) (x y : Value) : Has ((w.setCell ⟨b, 0, none⟩ x).setCell ⟨b, 1, none⟩ y) b t #[x, y] := by
  have := (h.set_ 0 x).set_ 1 y
  simpa using this
theorem Has.far2 (h : Has w b t cs) {c : Nat} (hp : b ≠ c) (x y : Value) : Has ((w.setCell ⟨c, 0, none⟩ x).setCell ⟨c, 1, none⟩ y) b t cs :=
  (h.far (p := ⟨c, 0, none⟩) hp x).far (p := ⟨c, 1, none⟩) hp y
theorem below_put2 {B : Nat} (h : Below B w w') {c : Nat} (hc : B ≤ c) (x y : Value) : Below B w ((w'.setCell ⟨c, 0, none⟩ x).setCell ⟨c, 1, none⟩ y) :=
  (h.setCell (p := ⟨c, 0, none⟩) hc x).setCell (p := ⟨c, 1, none⟩) hc y
end
end Go.Proofs.Ytfimgkomfnfjkaa
end
section
/- What a law's walk is told of a slice of whole numbers that came in; that laws end. -/
set_option linter.unusedVariables false
namespace Go.Proofs.Ytfimgkomfnfjkaa
open Go.RowKit

/-- A slice of whole numbers that came in: nil, or a row of 'cap' cells, the numbers 'zs', of which the first 'len' are its elements. -/
def IsRow (k : IntKind) (w : World) (a : Option Addr) (len cap : Nat) (zs : List Int) : Prop :=
  (a = none ∧ len = 0 ∧ cap = 0 ∧ zs = []) ∨
  ∃ x, a = some x ∧ len ≤ cap ∧ cap ≤ maxLen ∧ zs.length = cap ∧ (∀ i, i < zs.length → w.cell? (x.add i) = some (.int k (zs.getD i 0))) ∧ ∀ n ∈ zs, (Lit.int k n).wf = true
theorem isRow_some {k : IntKind} {w : World} {x : Addr} {len cap : Nat} {zs : List Int} (hl : len ≤ cap) (hm : cap ≤ maxLen) (hz : zs.length = cap)
    (hc : ∀ i, i < zs.length → w.cell? (x.add i) = some (.int k (zs.getD i 0))) (hw : ∀ n ∈ zs, (Lit.int k n).wf = true) : IsRow k w (some x) len cap zs :=
  .inr ⟨x, rfl, hl, hm, hz, hc, hw⟩

/-- A slice of strings that came in: nil, or a row of 'cap' cells, the strings 'ss'. -/
def IsTexts (w : World) (a : Option Addr) (len cap : Nat) (ss : List ByteArray) : Prop :=
  (a = none ∧ len = 0 ∧ cap = 0 ∧ ss = []) ∨ ∃ x, a = some x ∧ len ≤ cap ∧ cap ≤ maxLen ∧ ss.length = cap ∧ ∀ i, i < ss.length → w.cell? (x.add i) = some (.string (ss.getD i ByteArray.empty))
/-- A slice of slices of whole numbers that came in. -/
def IsRows (k : IntKind) (w : World) (a : Option Addr) (len cap : Nat) : Prop :=
  (a = none ∧ len = 0 ∧ cap = 0) ∨ ∃ x, a = some x ∧ len ≤ cap ∧ cap ≤ maxLen ∧ ∀ r, r < cap → ∃ A L C Z, w.cell? (x.add r) = some (.slice A L C) ∧ IsRow k w A L C Z
theorem isRows_some {k : IntKind} {w : World} {x : Addr} {len cap : Nat} {A : Nat → Option Addr} {L C : Nat → Nat} {Z : Nat → List Int} (hl : len ≤ cap) (hm : cap ≤ maxLen)
    (h : ∀ r, r < cap → w.cell? (x.add r) = some (.slice (A r) (L r) (C r)) ∧ L r ≤ C r ∧ C r ≤ maxLen ∧ (Z r).length = C r ∧ (∀ n ∈ Z r, (Lit.int k n).wf = true) ∧ (A r = none → C r = 0) ∧
        ∀ a', A r = some a' → 0 ≤ a'.block ∧ ∀ c, c < C r → w.cell? (a'.add c) = some (.int k ((Z r).getD c 0))) : IsRows k w (some x) len cap := by
  refine .inr ⟨x, rfl, hl, hm, fun r hr => ?_⟩
  obtain ⟨h1, h2, h3, h4, h5, h6, h7⟩ := h r hr
  refine ⟨_, _, _, Z r, h1, ?_⟩
  cases hA : A r with
  | none =>
    have := h6 hA
    exact .inl ⟨rfl, by omega, by omega, List.eq_nil_of_length_eq_zero (by omega)⟩
  | some y => exact isRow_some h2 h3 h4 (fun i hi => (h7 y hA).2 i (by omega)) h5
end Go.Proofs.Ytfimgkomfnfjkaa
end
section
/- Two blocks may have turned, and all else that was there is as it was. -/
set_option linter.unusedVariables false
namespace Go.Proofs.Ytfimgkomfnfjkaa
open Go.RowKit
theorem block_add (a : Addr) (n : Nat) : (a.add n).block = a.block := by unfold Addr.add; split <;> rfl
/-- Of what was there, only blocks b and g may have turned. -/
structure Turned (b g : Nat) (w w' : World) : Prop where
  os : w'.os = w.os
  tape : w'.tape = w.tape
  output : w'.output = w.output
  size : w.heap.size ≤ w'.heap.size
  block : ∀ k, k < w.heap.size → k ≠ b → k ≠ g → w'.heap[k]? = w.heap[k]?
section
variable {b g : Nat} {w w' a c : World}
theorem Turned.refl (b g : Nat) (w : World) : Turned b g w w := ⟨rfl, rfl, rfl, Nat.le_refl _, fun _ _ _ _ => rfl⟩
theorem Turned.trans (h : Turned b g a w) (k : Turned b g w c) : Turned b g a c :=
  ⟨k.os.trans h.os, k.tape.trans h.tape, k.output.trans h.output, Nat.le_trans h.size k.size, fun i hi h1 h2 => (k.block i (Nat.lt_of_lt_of_le hi h.size) h1 h2).trans (h.block i hi h1 h2)⟩
theorem Turned.drew (h : Turned b g a w) : Turned b g a w.drew := ⟨h.os, h.tape, h.output, h.size, h.block⟩
theorem Turned.drewN (h : Turned b g a w) (n : Nat) : Turned b g a (w.drewN n) := ⟨h.os, h.tape, h.output, h.size, h.block⟩
theorem Turned.like (h : Turned b g a w) (h1 : w'.os = w.os) (h2 : w'.tape = w.tape) (h3 : w'.output = w.output) (h4 : w'.heap = w.heap) : Turned b g a w' :=
  ⟨h1.trans h.os, h2.trans h.tape, h3.trans h.output, by rw [h4]; exact h.size, fun k hk e1 e2 => by rw [h4]; exact h.block k hk e1 e2⟩
theorem Turned.alloc (h : Turned b g a w) (o : Obj) : Turned b g a (w.alloc o) :=
  h.trans ⟨rfl, rfl, rfl, by simp, fun k hk _ _ => Below.heap_alloc _ _ _ hk⟩
theorem Turned.setCell (h : Turned b g a w) {p : Addr} (hp : p.block = b ∨ p.block = g ∨ a.heap.size ≤ p.block) (u : Value) : Turned b g a (w.setCell p u) :=
  ⟨h.os, h.tape, h.output, by simpa [World.setCell] using h.size, fun k hk h1 h2 => (Below.heap_setCell w p u k (by
    rcases hp with hp | hp | hp <;> omega)).trans (h.block k hk h1 h2)⟩
theorem Turned.of_below (h : Below a.heap.size a w) : Turned b g a w := ⟨h.os, h.tape, h.output, h.size, fun k hk _ _ => h.block k hk⟩
theorem Turned.below {B : Nat} (h : Turned b g a w) (hB : B ≤ a.heap.size) (h1 : B ≤ b) (h2 : B ≤ g) : Below B a w :=
  ⟨h.os, h.tape, h.output, h.size, fun k hk => h.block k (by omega) (by omega) (by omega)⟩
theorem Turned.cell (h : Turned b g a w) {p : Addr} (hl : p.block < a.heap.size) (h1 : p.block ≠ b) (h2 : p.block ≠ g) : w.cell? p = a.cell? p := World.cell?_of_block (w := a) (h.block p.block hl h1 h2)
theorem Turned.frozen (h : Turned b g a w) {p : Addr} (hl : p.block < a.heap.size) (h1 : p.block ≠ b) (h2 : p.block ≠ g) : w.frozen? p = a.frozen? p := World.frozen?_of_block (w := a) (h.block p.block hl h1 h2)
theorem Turned.has (h : Turned b g a w) {i : Nat} {t : TypeId} {cs : Array Value} (hh : Has a i t cs) (h1 : i ≠ b) (h2 : i ≠ g) : Has w i t cs := (h.block i hh.lt h1 h2).trans hh
theorem Turned.grown {row : Option Nat} (h : Turned b g a w) (hg : w.grownBy w' row) (hr : ∀ k, row = some k → k = b ∨ k = g ∨ a.heap.size ≤ k) : Turned b g a w' :=
  ⟨hg.os.trans h.os, hg.tape.trans h.tape, hg.output.trans h.output, Nat.le_trans h.size hg.size, fun k hk h1 h2 => (hg.block k (Nat.lt_of_lt_of_le hk h.size) (fun e => by have := hr k e.symm; omega)).trans (h.block k hk h1 h2)⟩
theorem below_drewN {B : Nat} (h : Below B a w) (n : Nat) : Below B a (w.drewN n) := ⟨h.os, h.tape, h.output, h.size, h.block⟩
theorem below_turned {B : Nat} (h : Below B a w) (k : Turned b g w c) (hB : B ≤ w.heap.size) (h1 : B ≤ b) (h2 : B ≤ g) : Below B a c := h.trans (k.below hB h1 h2)
end
end Go.Proofs.Ytfimgkomfnfjkaa
end
section
/- Some blocks may have turned, and all else that was there is as it was; rows of a call's own over such turns. -/
set_option linter.unusedVariables false
namespace Go.Proofs.Ytfimgkomfnfjkaa
open Go.RowKit
/-- Of what was there, only the blocks of S may have turned. -/
structure Kept (S : List Nat) (w w' : World) : Prop where
  os : w'.os = w.os
  tape : w'.tape = w.tape
  output : w'.output = w.output
  size : w.heap.size ≤ w'.heap.size
  block : ∀ k, k < w.heap.size → k ∉ S → w'.heap[k]? = w.heap[k]?
section
variable {S T : List Nat} {w w' a c : World}
theorem Kept.refl (S : List Nat) (w : World) : Kept S w w := ⟨rfl, rfl, rfl, Nat.le_refl _, fun _ _ _ => rfl⟩
theorem Kept.trans (h : Kept S a w) (k : Kept S w c) : Kept S a c :=
  ⟨k.os.trans h.os, k.tape.trans h.tape, k.output.trans h.output, Nat.le_trans h.size k.size, fun i hi h1 => (k.block i (Nat.lt_of_lt_of_le hi h.size) h1).trans (h.block i hi h1)⟩
theorem Kept.wide (h : Kept S a w) (hs : ∀ k ∈ S, k < a.heap.size → k ∈ T) : Kept T a w := ⟨h.os, h.tape, h.output, h.size, fun k hk h1 => h.block k hk fun h2 => h1 (hs k h2 hk)⟩
theorem Kept.drewN (h : Kept S a w) (n : Nat) : Kept S a (w.drewN n) := ⟨h.os, h.tape, h.output, h.size, h.block⟩
theorem Kept.like (h : Kept S a w) (h1 : w'.os = w.os) (h2 : w'.tape = w.tape) (h3 : w'.output = w.output) (h4 : w'.heap = w.heap) : Kept S a w' :=
  ⟨h1.trans h.os, h2.trans h.tape, h3.trans h.output, by rw [h4]; exact h.size, fun k hk e => by rw [h4]; exact h.block k hk e⟩
theorem Kept.alloc (h : Kept S a w) (o : Obj) : Kept S a (w.alloc o) :=
  h.trans ⟨rfl, rfl, rfl, by simp, fun k hk _ => Below.heap_alloc _ _ _ hk⟩
theorem Kept.setCell (h : Kept S a w) {p : Addr} (hp : p.block ∈ S ∨ a.heap.size ≤ p.block) (u : Value) : Kept S a (w.setCell p u) :=
  ⟨h.os, h.tape, h.output, by simpa [World.setCell] using h.size, fun k hk h1 => (Below.heap_setCell w p u k (by
    rcases hp with hp | hp
    · rintro rfl; exact h1 hp
    · omega)).trans (h.block k hk h1)⟩
theorem Kept.of_turned {b g : Nat} (h : Turned b g a w) : Kept [b, g] a w := ⟨h.os, h.tape, h.output, h.size, fun k hk e => h.block k hk (fun e1 => e (by simp [e1])) (fun e1 => e (by simp [e1]))⟩
theorem Kept.of_below (h : Below a.heap.size a w) : Kept S a w := ⟨h.os, h.tape, h.output, h.size, fun k hk _ => h.block k hk⟩
theorem Kept.below {B : Nat} (h : Kept S a w) (hB : B ≤ a.heap.size) (hs : ∀ k ∈ S, B ≤ k) : Below B a w :=
  ⟨h.os, h.tape, h.output, h.size, fun k hk => h.block k (by omega) fun e => by have := hs k e; omega⟩
theorem Kept.cell (h : Kept S a w) {p : Addr} (hl : p.block < a.heap.size) (h1 : p.block ∉ S) : w.cell? p = a.cell? p := World.cell?_of_block (w := a) (h.block p.block hl h1)
theorem Kept.frozen (h : Kept S a w) {p : Addr} (hl : p.block < a.heap.size) (h1 : p.block ∉ S) : w.frozen? p = a.frozen? p := World.frozen?_of_block (w := a) (h.block p.block hl h1)
theorem Kept.has (h : Kept S a w) {i : Nat} {t : TypeId} {cs : Array Value} (hh : Has a i t cs) (h1 : i ∉ S) : Has w i t cs := (h.block i hh.lt h1).trans hh
theorem Kept.grown {row : Option Nat} (h : Kept S a w) (hg : w.grownBy w' row) (hr : ∀ k, row = some k → k ∈ S ∨ a.heap.size ≤ k) : Kept S a w' :=
  ⟨hg.os.trans h.os, hg.tape.trans h.tape, hg.output.trans h.output, Nat.le_trans h.size hg.size, fun k hk h1 => (hg.block k (Nat.lt_of_lt_of_le hk h.size) (fun e => by
    rcases hr k e.symm with h2 | h2
    · exact h1 h2
    · omega)).trans (h.block k hk h1)⟩
theorem below_kept {B : Nat} (h : Below B a w) (k : Kept S w c) (hB : B ≤ w.heap.size) (hs : ∀ k ∈ S, B ≤ k) : Below B a c := h.trans (k.below hB hs)
theorem own_kept {base : Nat} {e : TypeId} {size n : Nat} {v : Value} {xs : List Value} (h : w.ownsRow base e size v n xs) (ht : Kept S w w') (hs : ∀ k ∈ S, k < base) : w'.ownsRow base e size v n xs := by
  obtain ⟨h1, h2⟩ := h
  refine ⟨h1, ?_⟩
  rcases h2 with h2 | ⟨k, cap, cur, rfl, hk, hh, h3⟩
  · exact .inl h2
  · exact .inr ⟨k, cap, cur, rfl, hk, (ht.block k (Has.lt (w := w) hh) (fun e => by have := hs k e; omega)).trans hh, h3⟩
theorem own_block {base : Nat} {e : TypeId} {size n : Nat} {v : Value} {xs : List Value} (h : w.ownsRow base e size v n xs) : ∀ k, v.ownBlock = some k → base ≤ k ∧ k < w.heap.size := by
  intro k hk
  rcases h.2 with ⟨rfl, _⟩ | ⟨k', cap, cur, rfl, hk', hh, _⟩
  · cases hk
  · injection hk with hk
    have : k' = k := hk
    subst this
    exact ⟨hk', Has.lt (w := w) hh⟩
end
/-- Two rows never lie in one block. -/
def Apart (v u : Value) : Prop := ∀ k, v.ownBlock = some k → u.ownBlock ≠ some k
theorem Apart.symm {v u : Value} (h : Apart v u) : Apart u v := fun k hk hv => h k hv hk
theorem Apart.kept {v u : Value} (h : Apart v u) : v.ownBlock = none ∨ v.ownBlock ≠ u.ownBlock := by
  cases hv : v.ownBlock with
  | none => exact .inl rfl
  | some k => exact .inr fun e => h k hv e.symm
/-- .. nor behind an append to one of them. -/
theorem Apart.step {w : World} {base : Nat} {e : TypeId} {size n : Nat} {v v' u : Value} {xs : List Value} (h : Apart v u) (hu : w.ownsRow base e size u n xs) (hs : v'.ownBlock = v.ownBlock ∨ v'.ownBlock = some w.heap.size) : Apart v' u := by
  intro k hk he
  rcases hs with hs | hs
  · exact h k (hs ▸ hk) he
  · have h1 := (own_block hu k he).2
    rw [hs] at hk
    injection hk with hk
    omega
end Go.Proofs.Ytfimgkomfnfjkaa
end
section
/- What an append to a row of the call's own leaves as it was. -/
set_option linter.unusedVariables false
namespace Go.Proofs.Ytfimgkomfnfjkaa
open Go.RowKit
theorem Kept.of_grown {w w' : World} {row : Option Nat} (hg : w.grownBy w' row) : Kept row.toList w w' :=
  ⟨hg.os, hg.tape, hg.output, hg.size, fun k hk h1 => hg.block k hk fun e => h1 (by simp [← e])⟩
theorem own_apart {w : World} {base : Nat} {e : TypeId} {size n : Nat} {v : Value} {xs : List Value} (h : w.ownsRow base e size v n xs) {x : Nat} (hx : x < base) : x ∉ v.ownBlock.toList := by
  intro hm
  have := (own_block h x (by simpa using hm)).1
  omega
theorem own_in {w : World} {base : Nat} {e : TypeId} {size n : Nat} {v : Value} {xs : List Value} (h : w.ownsRow base e size v n xs) : ∀ k ∈ v.ownBlock.toList, base ≤ k := by
  intro k hm
  exact (own_block h k (by simpa using hm)).1
end Go.Proofs.Ytfimgkomfnfjkaa
end
section
/- Plain numbers: a mask is the rest of a division by a power of two; lists that go round. -/
namespace Go.Proofs.Ytfimgkomfnfjkaa
theorem ofInt_i64 (a : Nat) (ha : a < 9223372036854775808) : (BitVec.ofInt 64 (a : Int)).toNat = a := by
  rw [BitVec.ofInt_natCast, BitVec.toNat_ofNat]; exact Nat.mod_eq_of_lt (by omega)
theorem i64_and_nat (a b : Nat) (ha : a < 9223372036854775808) (hb : b < 9223372036854775808) : bits .and .i64 (a : Int) (b : Int) = ((a &&& b : Nat) : Int) := by
  have hx : a &&& b < 2 ^ 63 := Nat.and_lt_two_pow _ (by omega)
  show IntKind.i64.wrap ((BitVec.ofInt 64 (a : Int) &&& BitVec.ofInt 64 (b : Int)).toNat : Int) = _
  rw [BitVec.toNat_and, ofInt_i64 a ha, ofInt_i64 b hb, IntKind.wrap_i64]
  omega
theorem mask_int (a k n : Nat) (ha : a < 9223372036854775808) (hn : n = 2 ^ k) (hl : n ≤ 65536) : bits .and .i64 (a : Int) ((n : Int) - 1) = ((a % n : Nat) : Int) := by
  have h1 : 1 ≤ n := by subst hn; exact Nat.one_le_two_pow
  rw [show ((n : Int) - 1) = ((n - 1 : Nat) : Int) by omega, i64_and_nat a (n - 1) ha (by omega), hn, Nat.and_two_pow_sub_one_eq_mod]
theorem rot_ne {f n i k : Nat} (hi : i < n) (hk : k < n) (h : i ≠ k) : (f + i) % n ≠ (f + k) % n := by
  intro he
  rcases Nat.lt_or_ge i k with hl | hl
  · have h1 := Nat.sub_mod_eq_zero_of_mod_eq he.symm
    rw [show f + k - (f + i) = k - i by omega, Nat.mod_eq_of_lt (by omega)] at h1
    omega
  · have h1 := Nat.sub_mod_eq_zero_of_mod_eq he
    rw [show f + i - (f + k) = i - k by omega, Nat.mod_eq_of_lt (by omega)] at h1
    omega
theorem rot_add (f m i n : Nat) : ((f + m) % n + i) % n = (f + (m + i)) % n := by
  rw [Nat.mod_add_mod, Nat.add_assoc]
theorem getD_set {α : Type} (l : List α) (i j : Nat) (v d : α) (hj : j < l.length) : (l.set j v).getD i d = if j = i then v else l.getD i d := by
  rw [List.getD_eq_getElem?_getD, List.getD_eq_getElem?_getD, List.getElem?_set]
  by_cases h : j = i
  · subst h; simp [hj]
  · simp [h]
theorem getD_drop {α : Type} (l : List α) (m i : Nat) (d : α) : (l.drop m).getD i d = l.getD (m + i) d := by
  rw [List.getD_eq_getElem?_getD, List.getD_eq_getElem?_getD, List.getElem?_drop]
theorem getD_left {α : Type} (l r : List α) (i : Nat) (d : α) (h : i < l.length) : (l ++ r).getD i d = l.getD i d := by
  rw [List.getD_eq_getElem?_getD, List.getD_eq_getElem?_getD, List.getElem?_append_left h]
theorem getD_right {α : Type} (l r : List α) (i : Nat) (d : α) : (l ++ r).getD (l.length + i) d = r.getD i d := by
  rw [List.getD_eq_getElem?_getD, List.getD_eq_getElem?_getD, List.getElem?_append_right (by omega)]
  simp
theorem getD_take {α : Type} (l r : List α) (m i : Nat) (d : α) (h : i < l.length + m) : (l ++ r).getD i d = (l ++ r.take m).getD i d := by
  rcases Nat.lt_or_ge i l.length with h1 | h1
  · rw [getD_left _ _ _ _ h1, getD_left _ _ _ _ h1]
  · obtain ⟨j, rfl⟩ : ∃ j, i = l.length + j := ⟨i - l.length, by omega⟩
    rw [getD_right, getD_right, List.getD_eq_getElem?_getD, List.getD_eq_getElem?_getD, List.getElem?_take_of_lt (by omega)]
theorem fill_step {α : Type} (xs : List α) (d : α) (m k : Nat) (hk : k < m) (hm : m ≤ xs.length) :
    (xs.take k ++ List.replicate (m - k) d).set k (xs.getD k d) = xs.take (k + 1) ++ List.replicate (m - (k + 1)) d := by
  have hl : (xs.take k).length = k := by rw [List.length_take]; omega
  rw [List.set_append_right _ _ (by omega), hl, Nat.sub_self, show m - k = (m - (k + 1)) + 1 by omega, List.replicate_succ, List.set_cons_zero,
    List.take_succ_eq_append_getElem (by omega), List.append_assoc, List.getD_eq_getElem?_getD, List.getElem?_eq_getElem (by omega)]
  simp
theorem fill_at {α : Type} (xs : List α) (d : α) (m k : Nat) (hk : k < m) (hm : m ≤ xs.length) : (xs.take k ++ List.replicate (m - k) d)[k]? = some d := by
  have hl : (xs.take k).length = k := by rw [List.length_take]; omega
  rw [List.getElem?_append_right (by omega), hl, Nat.sub_self, show m - k = (m - (k + 1)) + 1 by omega, List.replicate_succ]
  rfl
end Go.Proofs.Ytfimgkomfnfjkaa
end
section
/- Rows of elements of several cells each (structs), as lists: what reads so, rows of the call's own, appending. Of no program. -/
set_option linter.unusedSimpArgs false
set_option linter.unusedVariables false
namespace Go.Proofs.Ytfimgkomfnfjkaa.Row
open Go.RowKit

/-- How an element lies: k cells. -/
structure Shape (α : Type) where
  k : Nat
  enc : α → List Value
  len : ∀ a, (enc a).length = k
  pos : 0 < k
  one : ∀ a, ∀ u ∈ enc a, u.oneCell' = true
section
variable {α : Type} {S : Shape α}
def flat (S : Shape α) (ys : List α) : List Value := ys.flatMap S.enc
theorem flat_nil : flat S [] = [] := rfl
theorem flat_append (xs ys : List α) : flat S (xs ++ ys) = flat S xs ++ flat S ys := List.flatMap_append
theorem flat_length (ys : List α) : (flat S ys).length = ys.length * S.k := by
  induction ys with
  | nil => simp [flat]
  | cons y ys ih => rw [show flat S (y :: ys) = S.enc y ++ flat S ys from rfl, List.length_append, S.len, ih, List.length_cons, Nat.add_mul, Nat.one_mul, Nat.add_comm]
theorem flat_one (ys : List α) : ∀ u ∈ flat S ys, u.oneCell' = true := by
  intro u hu
  obtain ⟨y, _, hy⟩ := List.mem_flatMap.1 hu
  exact S.one y u hy
theorem flat_get (ys : List α) (i m : Nat) (hi : i < ys.length) (hm : m < S.k) : (flat S ys)[i * S.k + m]? = (S.enc ys[i])[m]? := by
  induction ys generalizing i with
  | nil => simp at hi
  | cons y ys ih =>
    rw [show flat S (y :: ys) = S.enc y ++ flat S ys from rfl]
    cases i with
    | zero => rw [Nat.zero_mul, Nat.zero_add, List.getElem?_append_left (by rw [S.len]; exact hm)]; rfl
    | succ i =>
      rw [Nat.add_mul, Nat.one_mul, List.getElem?_append_right (by rw [S.len]; omega), S.len, show i * S.k + S.k + m - S.k = i * S.k + m by omega]
      exact ih i (by simpa using hi)
theorem flat_take (ys : List α) (n : Nat) : (flat S ys).take (n * S.k) = flat S (ys.take n) := by
  induction ys generalizing n with
  | nil => simp [flat]
  | cons y ys ih =>
    cases n with
    | zero => simp [flat]
    | succ n =>
      rw [show flat S (y :: ys) = S.enc y ++ flat S ys from rfl, List.take_succ_cons, show flat S (y :: ys.take n) = S.enc y ++ flat S (ys.take n) from rfl, ← ih n, List.take_append, S.len, Nat.add_mul, Nat.one_mul]
      rw [List.take_of_length_le (by rw [S.len]; omega), Nat.add_sub_cancel]

/-- The slice (a, len) reads as these elements. -/
structure Vals (S : Shape α) (w : World) (a : Option Addr) (len : Nat) (ys : List α) : Prop where
  len_ : ys.length = len
  cells : 0 < len → ∃ x, a = some x ∧ ∀ j u, (flat S ys)[j]? = some u → w.cell? (x.add j) = some u
theorem Vals.none_ (w : World) : Vals S w none 0 [] := ⟨rfl, fun h => absurd h (by omega)⟩
theorem Vals.same {w w' : World} {a : Option Addr} {len : Nat} {ys : List α} (h : Vals S w a len ys) (e : w'.heap = w.heap) : Vals S w' a len ys :=
  ⟨h.len_, fun hl => by
    obtain ⟨x, hx, hc⟩ := h.cells hl
    exact ⟨x, hx, fun j u hu => by have := hc j u hu; unfold World.cell? at *; rw [e]; exact this⟩⟩
theorem Vals.drewN {w : World} {a : Option Addr} {len : Nat} {ys : List α} (h : Vals S w a len ys) (k : Nat) : Vals S (w.drewN k) a len ys := h.same rfl
theorem Vals.below {w w' : World} {a : Option Addr} {len : Nat} {ys : List α} (h : Vals S w a len ys) (hb : Below w.heap.size w w') : Vals S w' a len ys :=
  ⟨h.len_, fun hl => by
    obtain ⟨x, hx, hc⟩ := h.cells hl
    exact ⟨x, hx, fun j u hu => (hb.cell (World.block_lt_of_cell? _ _ (hc j u hu))).trans (hc j u hu)⟩⟩
theorem Vals.alloc {w : World} {a : Option Addr} {len : Nat} {ys : List α} (h : Vals S w a len ys) (o : Obj) : Vals S (w.alloc o) a len ys := h.below ((Below.refl _ _).alloc (Nat.le_refl _) _)
theorem Vals.kept {w w' : World} {T : List Nat} {a : Option Addr} {len : Nat} {ys : List α} (h : Vals S w a len ys) (hb : Kept T w w') (h1 : 0 < len → ∀ x, a = some x → x.block ∉ T) : Vals S w' a len ys :=
  ⟨h.len_, fun hl => by
    obtain ⟨x, hx, hc⟩ := h.cells hl
    have hxb := h1 hl x hx
    exact ⟨x, hx, fun j u hu => (hb.cell (World.block_lt_of_cell? _ _ (hc j u hu)) (by rw [block_add]; exact hxb)).trans (hc j u hu)⟩⟩
/-- Cell m of element i. -/
theorem Vals.at_ {w : World} {x : Addr} {len : Nat} {ys : List α} (h : Vals S w (some x) len ys) (i m : Nat) (hi : i < ys.length) (u : Value) (hu : (S.enc ys[i])[m]? = some u) : w.cell? (x.add (i * S.k + m)) = some u := by
  have hm : m < S.k := by rw [← S.len ys[i]]; exact (List.getElem?_eq_some_iff.1 hu).1
  obtain ⟨y, hy, hc⟩ := h.cells (by have := h.len_; omega)
  injection hy with hy
  subst hy
  exact hc _ u (by rw [flat_get ys i m hi hm]; exact hu)
theorem Vals.take {w : World} {a : Option Addr} {len : Nat} {ys : List α} (h : Vals S w a len ys) (p : Nat) (hp : p ≤ len) : Vals S w a p (ys.take p) := by
  have hl := h.len_
  refine ⟨by rw [List.length_take]; omega, fun h0 => ?_⟩
  obtain ⟨x, hx, hc⟩ := h.cells (by omega)
  refine ⟨x, hx, fun j u hu => hc j u ?_⟩
  rw [← flat_take] at hu
  rw [List.getElem?_take] at hu
  split at hu
  · exact hu
  · cases hu
theorem Vals.has {w : World} {g : Nat} {t : TypeId} {ys : List α} {tl : List Value} (h : Has w g t (flat S ys ++ tl).toArray) : Vals S w (some ⟨g, 0, none⟩) ys.length ys :=
  ⟨rfl, fun _ => ⟨_, rfl, fun j u hu => by
    have hj : j < (flat S ys).length := (List.getElem?_eq_some_iff.1 hu).1
    have h9 := h.cell j
    rw [List.getElem?_toArray, List.getElem?_append_left hj, hu] at h9
    rwa [show (Addr.add ⟨g, 0, none⟩ j) = ⟨g, j, none⟩ by simp [Addr.add]; rintro rfl; rfl]⟩⟩
theorem Vals.own {w : World} {base : Nat} {t : TypeId} {v : Value} {n : Nat} {xs : List α} (h : w.ownsRow base t S.k v n (flat S xs)) : ∃ A c, v = .slice A n c ∧ n ≤ c ∧ c ≤ 9223372036854775807 ∧ Vals S w A n xs ∧ (∀ x, A = some x → base ≤ x.block ∧ x.block < w.heap.size) ∧ Value.ownBlock v = A.map (·.block) := by
  have hl : xs.length = n := by
    have := h.1
    rw [flat_length] at this
    exact Nat.eq_of_mul_eq_mul_right S.pos this
  rcases h.2 with ⟨rfl, rfl⟩ | ⟨g, cap, cur, rfl, hb, hh, h1, h2, h3, h4⟩
  · exact ⟨_, _, rfl, Nat.le_refl _, by omega, ⟨hl, fun h0 => absurd h0 (by omega)⟩, (fun x hx => by cases hx), rfl⟩
  · unfold maxLen at h2
    have hlt : g < w.heap.size := Has.lt (w := w) (b := g) hh
    refine ⟨_, _, rfl, h1, by omega, ⟨hl, fun _ => ⟨_, rfl, fun j u hu => ?_⟩⟩, (fun x hx => by injection hx with hx; subst hx; exact ⟨hb, hlt⟩), rfl⟩
    exact h.cells (g := g) rfl j u hu
theorem own_none (w : World) (base : Nat) (e : TypeId) : w.ownsRow base e S.k (.slice none 0 0) 0 (flat S ([] : List α)) := ⟨by simp [flat], .inl ⟨rfl, rfl⟩⟩
theorem own_empty (w : World) (e : TypeId) : World.ownsRow (w.alloc (.cells #[] e)) w.heap.size e S.k (.slice (some ⟨w.heap.size, 0, none⟩) 0 0) 0 (flat S ([] : List α)) :=
  ⟨by simp [flat], .inr ⟨_, 0, #[], rfl, Nat.le_refl _, Has.new w e #[], Nat.le_refl _, by unfold maxLen; omega, by simp, by simp [flat]⟩⟩
variable {P : Program} {w : World}
theorem run_append (base : Nat) (t ty e : TypeId) (z : Value) (bytes : Nat) (hby : bytes ≤ 64) (ht : P.underlying t = some (.slice e)) (hinfo : (P.info? e).map (fun i => (i.zero, i.size, i.bytes)) = some (some z, S.k, bytes)) (hzs : z.cells.size = S.k)
    (v : Value) (n : Nat) (xs : List α) (hown : w.ownsRow base e S.k v n (flat S xs)) (A : Option Addr) (m c : Nat) (ys : List α) (hr : Vals S w A m ys)
    (h63 : n + m ≤ 1048576) (hbase : base ≤ w.heap.size) :
    ∃ v' w', (Builtin.append_ #[t, t] ty #[v, .slice A m c]).run P w = .ok v' w' ∧ w'.ownsRow base e S.k v' (n + m) (flat S (xs ++ ys)) ∧ w.grownBy w' v.ownBlock ∧
      (v'.ownBlock = v.ownBlock ∨ v'.ownBlock = some w.heap.size) := by
  obtain ⟨i, hi, hz0, hz1, hz2⟩ := info_parts hinfo
  rcases A with _ | ad
  · have hm : m = 0 := by
      rcases Nat.eq_zero_or_pos m with h0 | h0
      · exact h0
      · obtain ⟨x, hx, _⟩ := hr.cells h0
        cases hx
    subst hm
    have hy : ys = [] := List.eq_nil_of_length_eq_zero hr.len_
    subst hy
    refine ⟨v, w, ?_, by simpa using hown, World.grownBy.refl w _, .inl rfl⟩
    rcases hown.2 with ⟨rfl, rfl⟩ | ⟨g, cap, cur, rfl, _, _, hnc, _⟩
    · simp [Builtin.append_, run_underlying ht, sizeOf, typeInfo, hi, Builtin.lenOf, Builtin.firstCells]
    · simp [Builtin.append_, run_underlying ht, sizeOf, typeInfo, hi, Builtin.lenOf, Builtin.firstCells, hnc, storeCells]
  · rcases Nat.eq_zero_or_pos m with h0 | h0
    · subst h0
      have hy : ys = [] := List.eq_nil_of_length_eq_zero hr.len_
      subst hy
      obtain ⟨v', w', hrun, h2, h3, _, h5⟩ := run_append_own_at (P := P) w base t ty e i z S.k bytes ht hi hz0 hz1 hz2 hzs S.pos v n (flat S xs) hown ad 0 c (flat S []) (by simp [flat]) (fun j u hu => by simp [flat] at hu) (flat_one _)
        (by simp only [maxLen]; omega) (by
          have : (n + 0) * bytes ≤ 1048576 * 64 := Nat.mul_le_mul h63 hby
          omega) hbase
      exact ⟨v', w', hrun, by rw [flat_append]; exact h2, h3, h5⟩
    · obtain ⟨x, hx, hc⟩ := hr.cells h0
      injection hx with hx
      subst hx
      obtain ⟨v', w', hrun, h2, h3, _, h5⟩ := run_append_own_at (P := P) w base t ty e i z S.k bytes ht hi hz0 hz1 hz2 hzs S.pos v n (flat S xs) hown ad m c (flat S ys) (by rw [flat_length, hr.len_]) hc (flat_one _)
        (by simp only [maxLen]; omega) (by
          have : (n + m) * bytes ≤ 1048576 * 64 := Nat.mul_le_mul h63 hby
          omega) hbase
      exact ⟨v', w', hrun, by rw [flat_append]; exact h2, h3, h5⟩
theorem wpList_append {ops : Array Oper} {rest : List Oper} {o : Oper} {a : Act} {Q : Exit → Act → World → Prop} (hgd : o.guard = none) (s x : Operand) (t : TypeId)
    (ho : o.op = .call { callee := .builtin .append, args := #[s, x], argTypes := #[t, t] })
    (base : Nat) (e : TypeId) (z : Value) (bytes : Nat) (hby : bytes ≤ 64) (ht : P.underlying t = some (.slice e)) (hinfo : (P.info? e).map (fun i => (i.zero, i.size, i.bytes)) = some (some z, S.k, bytes)) (hzs : z.cells.size = S.k)
    (v : Value) (n : Nat) (xs : List α) (hs : a.eval s = v) (hown : w.ownsRow base e S.k v n (flat S xs)) (A : Option Addr) (m c : Nat) (ys : List α) (hx : a.eval x = .slice A m c) (hr : Vals S w A m ys)
    (h63 : n + m ≤ 1048576) (hbase : base ≤ w.heap.size)
    (h : ∀ v' w', w'.ownsRow base e S.k v' (n + m) (flat S (xs ++ ys)) → w.grownBy w' v.ownBlock → (v'.ownBlock = v.ownBlock ∨ v'.ownBlock = some w.heap.size) → wpList P ops Q rest (a.put o.dst v') w') : wpList P ops Q (o :: rest) a w := by
  refine wpList_plain hgd fun _ hK => ?_
  obtain ⟨v', w', hrun, h2, h3, h4⟩ := run_append (P := P) base t o.type e z bytes hby ht hinfo hzs v n xs hown A m c ys hr h63 hbase
  unfold Oper.wp execOp
  simp only [ho, resolve, invoke, builtin, Sem.run_bind, Sem.run_pure, Result.andThen_ok, List.map_toArray, List.map_cons, List.map_nil, hs, hx, hrun]
  exact hK _ _ (h v' w' h2 h3 h4)
/-- The same as one operation, wherever it stands. -/
theorem wp_append {o : Oper} {a : Act} {K : Act → World → Prop} {Q : Exit → Act → World → Prop} (s x : Operand) (t : TypeId)
    (ho : o.op = .call { callee := .builtin .append, args := #[s, x], argTypes := #[t, t] })
    (base : Nat) (e : TypeId) (z : Value) (bytes : Nat) (hby : bytes ≤ 64) (ht : P.underlying t = some (.slice e)) (hinfo : (P.info? e).map (fun i => (i.zero, i.size, i.bytes)) = some (some z, S.k, bytes)) (hzs : z.cells.size = S.k)
    (v : Value) (n : Nat) (xs : List α) (hs : a.eval s = v) (hown : w.ownsRow base e S.k v n (flat S xs)) (A : Option Addr) (m c : Nat) (ys : List α) (hx : a.eval x = .slice A m c) (hr : Vals S w A m ys)
    (h63 : n + m ≤ 1048576) (hbase : base ≤ w.heap.size)
    (h : ∀ v' w', w'.ownsRow base e S.k v' (n + m) (flat S (xs ++ ys)) → w.grownBy w' v.ownBlock → (v'.ownBlock = v.ownBlock ∨ v'.ownBlock = some w.heap.size) → K (a.put o.dst v') w') : Oper.wp P o a w K Q := by
  obtain ⟨v', w', hrun, h2, h3, h4⟩ := run_append (P := P) base t o.type e z bytes hby ht hinfo hzs v n xs hown A m c ys hr h63 hbase
  unfold Oper.wp execOp
  simp only [ho, resolve, invoke, builtin, Sem.run_bind, Sem.run_pure, Result.andThen_ok, List.map_toArray, List.map_cons, List.map_nil, hs, hx, hrun]
  exact h v' w' h2 h3 h4
end
end Go.Proofs.Ytfimgkomfnfjkaa.Row
end
section
/- The reference's bit and byte. -/
set_option linter.unusedSimpArgs false
set_option linter.unusedVariables false
namespace Go.Proofs.Ytfimgkomfnfjkaa.Crc
open Go.RowKit

theorem refbit_any (s : Nat) (b : Bool) (w : World) (h : s < 65536) :
    Calls Try.prog 54 #[.int .u16 s, .bool b] w fun e w' => e = .returned (.int .u16 (bitZ s b)) ∧ w = w' := by
  have hyes := Lib.hid (bit_yes s b h)
  have hno := Lib.hid (bit_no s b h)
  obtain ⟨S, hS⟩ : ∃ S : Int, S = (s : Int) := ⟨_, rfl⟩
  have h2 : 0 ≤ S ∧ S < 65536 := by omega
  have hlow : ¬ 32768 ≤ s → ¬ 32768 ≤ S := by omega
  have hhigh : 32768 ≤ s → 32768 ≤ S := by omega
  have hm : IntKind.u16.wrap (S * 2) = S * 2 % 65536 := u16_wrap _
  have hS' := Lib.hid hS
  have hm' := Lib.hid hm
  rw [← hS]
  clear hS hm
  generalize hB : bitZ s b = B at *
  by_cases h1 : 32768 ≤ s
  · have h3 := hhigh h1
    have h4 := Lib.hid h1
    clear hhigh hlow h1 hB
    cases b
    · go_enter Try.func54, Try.ntmps54
      go_wp2
      go_ret
      exact ⟨ret_int (hyes.out (by simp [h4.out]) _ (by rw [hm'.out, hS'.out])), rfl⟩
    · go_enter Try.func54, Try.ntmps54
      go_wp2
      go_ret
      exact ⟨ret_int (hno.out (by simp [h4.out]) _ (by rw [hm'.out, hS'.out])), rfl⟩
  · have h3 := hlow h1
    have h4 := Lib.hid h1
    clear hhigh hlow h1 hB
    have e : S * 2 = (s : Int) * 2 % 65536 := by have := hS'.out; omega
    have he := Lib.hid e
    clear e
    cases b
    · go_enter Try.func54, Try.ntmps54
      go_wp2
      go_ret
      exact ⟨ret_int (hno.out (by simp [h4.out]) _ he.out), rfl⟩
    · go_enter Try.func54, Try.ntmps54
      go_wp2
      go_ret
      exact ⟨ret_int (hyes.out (by simp [h4.out]) _ he.out), rfl⟩
theorem bits_go (s b : Nat) (h : s < 65536) (hb : b < 256) : ∃ g : Nat → Int, ∃ f : Nat → Nat, (∀ i, i < 8 → bitZ (f i) (decide (128 ≤ g i)) = f (i + 1)) ∧ g 0 = b ∧ (∀ i, g (i + 1) = g i * 2 % 256) ∧ (∀ i, 0 ≤ g i ∧ g i < 256) ∧
    (∀ i, f i < 65536) ∧ f 0 = s ∧ f 8 = nextZ s b := by
  refine ⟨fun i => ((b * 2 ^ i % 256 : Nat) : Int), partZ s b, fun i hi => ?_, by show ((b * 2 ^ 0 % 256 : Nat) : Int) = b; omega, fun i => ?_, fun i => ?_, fun i => partZ_lt s b i h, partZ_0 s b, partZ_8 s b⟩
  · show bitZ (partZ s b i) (decide (128 ≤ ((b * 2 ^ i % 256 : Nat) : Int))) = partZ s b (i + 1)
    rw [partZ_succ s b i hi, ← bit_of b i hb hi]
    congr 1
    have h1 : b * 2 ^ i % 256 < 256 := Nat.mod_lt _ (by decide)
    generalize b * 2 ^ i % 256 = x at *
    rw [Nat.testBit_eq_decide_div_mod_eq]
    have : x / 2 ^ 7 % 2 = 1 ↔ 128 ≤ x := by omega
    simp only [this]
    congr 1
    exact propext (by omega)
  · show ((b * 2 ^ (i + 1) % 256 : Nat) : Int) = ((b * 2 ^ i % 256 : Nat) : Int) * 2 % 256
    rw [Nat.pow_succ, ← Nat.mul_assoc]
    omega
  · show 0 ≤ ((b * 2 ^ i % 256 : Nat) : Int) ∧ ((b * 2 ^ i % 256 : Nat) : Int) < 256
    omega
theorem refnext_any (s b : Nat) (w : World) (h : s < 65536) (hb : b < 256) :
    Calls Try.prog 52 #[.int .u16 s, .int .u8 b] w fun e w' => e = .returned (.int .u16 (nextZ s b)) ∧ w = w' := by
  obtain ⟨g, f, hst, hg0, hg, hgb, hf, hf0, hf8⟩ := bits_go s b h hb
  have hg' := Lib.hid hg
  rw [← hf0] at hf8
  have hf8' := Lib.hid hf8
  rw [← hg0, ← hf0]
  clear hg hf8 hg0 hf0 hb h
  go_enter Try.func52, Try.ntmps52
  go_wp2
  go_loop [0, 1, 5] (fun a c i => ∃ j : Nat, j ≤ 8 ∧ i = .int .i64 (j : Nat) ∧ a = .int .u16 (f j : Nat) ∧ c = .int .u8 (g j)) (fun _ _ i => 8 - (intOf i).toNat)
  case atStart => exact ⟨0, by omega, rfl, rfl, rfl⟩
  case round =>
    obtain ⟨j, hj, rfl, rfl, rfl⟩ := hrel
    by_cases h9 : j < 8
    · have hs := refbit_any (f j) (decide (128 ≤ g j)) w (hf j)
      rw [hst j h9] at hs
      have hgj := hgb j
      clear hst hf hgb
      go_wp2_with (go_at_call 54; ((with_reducible refine hs.mono ?_); rintro e w' ⟨rfl, rfl⟩))
      go_round
      case rel => exact ⟨j + 1, by omega, by go_num, rfl, by rw [hg'.out]⟩
      case measure => simp [intOf]; omega
    · obtain rfl : j = 8 := by omega
      clear hst hf hgb
      go_wp2
      go_ret
      exact ⟨by rw [← hf8'.out]; rfl, rfl⟩
end Go.Proofs.Ytfimgkomfnfjkaa.Crc
end
section
/- crc's step and Next. -/
set_option linter.unusedSimpArgs false
set_option linter.unusedVariables false
namespace Go.Proofs.Ytfimgkomfnfjkaa.Crc
open Go.RowKit

theorem step_any (s : Nat) (w : World) (h : s < 65536) :
    Calls Try.prog 55 #[.int .u16 s] w fun e w' => e = .returned (.int .u16 (stepZ s)) ∧ w = w' := by
  have ha := u16_high s h
  have hyes := bit_yes s false h
  have hno := bit_no s false h
  unfold stepZ
  by_cases h1 : 32768 ≤ s
  · rw [if_pos h1] at ha
    have hr := Lib.hid (hyes (by simp [h1]) _ (u16_wrap _))
    clear hyes hno
    go_enter Try.func55, Try.ntmps55
    go_wp2
    go_ret
    exact ⟨ret_int hr.out, rfl⟩
  · rw [if_neg h1] at ha
    have hr := Lib.hid (hno (by simp [h1]) ((s : Int) * 2) (by omega))
    clear hyes hno
    go_enter Try.func55, Try.ntmps55
    go_wp2
    go_ret
    exact ⟨ret_int hr.out, rfl⟩
theorem next_any (s b : Nat) (w : World) (h : s < 65536) (hb : b < 256) :
    Calls Try.prog 53 #[.int .u16 s, .int .u8 b] w fun e w' => e = .returned (.int .u16 (nextZ s b)) ∧ w = w' := by
  have h0 : bits .xor .u16 (s : Int) ((b : Int) * 256) = (aheadZ s b 0 : Nat) := by
    have := u16_xor_nat s (b * 256) h (by omega)
    rw [aheadZ_0 s b hb, ← this]
    simp
  have hst : ∀ i, i < 8 → stepZ (aheadZ s b i) = aheadZ s b (i + 1) := fun i => aheadZ_succ s b i hb
  have h8 : aheadZ s b 8 = nextZ s b := aheadZ_8 s b
  have hlt : ∀ i, aheadZ s b i < 65536 := fun i => aheadZ_lt s b i h
  generalize aheadZ s b = f at *
  have h8' := Lib.hid h8
  clear h8
  go_enter Try.func53, Try.ntmps53
  go_wp2
  go_loop [0, 10] (fun a i => ∃ j : Nat, j ≤ 8 ∧ i = .int .i64 (j : Nat) ∧ a = .int .u16 (f j : Nat)) (fun _ i => 8 - (intOf i).toNat)
  case atStart => exact ⟨0, by omega, rfl, by first | rfl | (rw [h0])⟩
  case round =>
    obtain ⟨j, hj, rfl, rfl⟩ := hrel
    by_cases h9 : j < 8
    · have hs := step_any (f j) w (hlt j)
      rw [hst j h9] at hs
      clear hst hlt h0
      go_wp2_with (go_at_call 55; ((with_reducible refine hs.mono ?_); rintro e w' ⟨rfl, rfl⟩))
      go_round
      case rel => exact ⟨j + 1, by omega, by go_num, rfl⟩
      case measure => simp [intOf]; omega
    · obtain rfl : j = 8 := by omega
      clear hst hlt h0
      go_wp2
      go_ret
      exact ⟨by rw [← h8'.out]; rfl, rfl⟩
end Go.Proofs.Ytfimgkomfnfjkaa.Crc
end
section
/- What the form's reach says of a slice of slices of whole numbers that came in. -/
set_option linter.unusedVariables false
namespace Go.Proofs.Ytfimgkomfnfjkaa
open Go.RowKit Go.Deep
theorem mem_weightsAll {H : Type} {P : Program} {e : TypeId} : ∀ {l : List (DataW H)} {i : Nat} {d : DataW H}, l[i]? = some d → ∀ n ∈ d.weights P e, n ∈ DataW.weightsAll P e l
  | x :: l, 0, d, h, n, hn => by
    simp only [List.getElem?_cons_zero, Option.some.injEq] at h
    subst h
    simp only [DataW.weightsAll, List.mem_append]
    exact .inl hn
  | x :: l, i + 1, d, h, n, hn => by
    simp only [List.getElem?_cons_succ] at h
    simp only [DataW.weightsAll, List.mem_append]
    exact .inr (mem_weightsAll h n hn)
  | [], _, _, h, _, _ => by simp at h
theorem rows_sized {H : Type} {P : Program} {ts : List TypeId} {ds : List (DataW H)} (h : (DataW.weightsEach P ts ds).all (· ≤ reachBytes) = true) {j : Nat} {t e q : TypeId} {k : IntKind} {len : Nat} {A : Nat → Option Addr} {L C : Nat → Nat} {Z : Nat → List Int} {spare : List (DataW H)}
    (ht : ts[j]? = some t) (hd : ds[j]? = some (.slice ((List.range len).map fun r => intRow k (A r) (L r) (Z r)) spare)) (hu : P.underlying t = some (.slice e)) (he : P.underlying e = some (.slice q)) (hq : 1 ≤ P.bytesOf q) (r : Nat) (hr : r < len) (hL : L r ≤ C r) (hZ : (Z r).length = C r) (hn : A r = none → C r = 0) : L r ≤ 140737488355328 := by
  cases hA : A r with
  | none => have := hn hA; omega
  | some a =>
    have hm : ∀ n ∈ (intRow k (A r) (L r) (Z r) : DataW H).weights P e, n ≤ reachBytes := fun n hn => by
      have h1 : n ∈ (DataW.slice ((List.range len).map fun r => intRow k (A r) (L r) (Z r)) spare : DataW H).weights P t := by
        simp only [DataW.weights, hu, List.mem_cons, List.mem_append]
        refine .inr (.inl (mem_weightsAll (i := r) ?_ n hn))
        rw [List.getElem?_map, List.getElem?_range hr]
        rfl
      have := List.all_eq_true.1 h _ (DataW.weights_mem_each ht hd n h1)
      simpa using this
    have h2 := hm (((Z r).take (L r)).length * P.bytesOf q + ((Z r).drop (L r)).length * P.bytesOf q) (by
      rw [hA]
      simp only [intRow, DataW.weights, he, ChangeShapes.lits, List.length_map, Nat.add_mul]
      exact List.mem_cons_self)
    have h3 : ((Z r).take (L r)).length * 1 ≤ ((Z r).take (L r)).length * P.bytesOf q := Nat.mul_le_mul_left _ hq
    rw [List.length_take, Nat.min_eq_left (by omega)] at h2 h3
    have h4 : reachBytes < 2 ^ 47 := reachBytes_lt
    omega
end Go.Proofs.Ytfimgkomfnfjkaa
end
section
/- A slice that reads as a list of uint8 values; appending one to a row of the call's own. -/
set_option linter.unusedSimpArgs false
set_option linter.unusedVariables false
namespace Go.Proofs.Ytfimgkomfnfjkaa.RU8
open Go.RowKit

/-- The slice (a, len) reads as these values. -/
structure Vals (w : World) (a : Option Addr) (len : Nat) (ys : List Nat) : Prop where
  len_ : ys.length = len
  cells : 0 < len → ∃ x, a = some x ∧ ∀ i, i < len → w.cell? (x.add i) = some (.int .u8 (ys.getD i 0))
theorem Vals.none_ (w : World) : Vals w none 0 [] := ⟨rfl, fun h => absurd h (by omega)⟩
theorem Vals.same {w w' : World} {a : Option Addr} {len : Nat} {ys : List Nat} (h : Vals w a len ys) (e : w'.heap = w.heap) : Vals w' a len ys :=
  ⟨h.len_, fun hl => by
    obtain ⟨x, hx, hc⟩ := h.cells hl
    exact ⟨x, hx, fun i hi => by have := hc i hi; unfold World.cell? at *; rw [e]; exact this⟩⟩
theorem Vals.below {w w' : World} {a : Option Addr} {len : Nat} {ys : List Nat} (h : Vals w a len ys) (hb : Below w.heap.size w w') : Vals w' a len ys :=
  ⟨h.len_, fun hl => by
    obtain ⟨x, hx, hc⟩ := h.cells hl
    exact ⟨x, hx, fun i hi => (hb.cell (World.block_lt_of_cell? _ _ (hc i hi))).trans (hc i hi)⟩⟩
theorem Vals.turned {w w' : World} {b g : Nat} {a : Option Addr} {len : Nat} {ys : List Nat} (h : Vals w a len ys) (hb : Turned b g w w') (h1 : 0 < len → ∀ x, a = some x → x.block ≠ b ∧ x.block ≠ g) : Vals w' a len ys :=
  ⟨h.len_, fun hl => by
    obtain ⟨x, hx, hc⟩ := h.cells hl
    have hxb := h1 hl x hx
    exact ⟨x, hx, fun i hi => (hb.cell (World.block_lt_of_cell? _ _ (hc i hi)) (by rw [block_add]; exact hxb.1) (by rw [block_add]; exact hxb.2)).trans (hc i hi)⟩⟩


def vals (xs : List Nat) : List Value := xs.map fun (v : Nat) => Value.int .u8 v
theorem vals_one (xs : List Nat) : ∀ u ∈ vals xs, u.oneCell' = true := by
  intro u hu
  obtain ⟨n, _, rfl⟩ := List.mem_map.1 hu
  rfl
theorem vals_append (xs ys : List Nat) : vals (xs ++ ys) = vals xs ++ vals ys := List.map_append
theorem Vals.get {w : World} {A : Addr} {m : Nat} {ys : List Nat} (h : Vals w (some A) m ys) (j : Nat) (u : Value) (hu : (vals ys)[j]? = some u) : w.cell? (A.add j) = some u := by
  have hj : j < ys.length := by
    have := (List.getElem?_eq_some_iff.1 hu).1
    simpa [vals] using this
  obtain ⟨x, hx, hc⟩ := h.cells (by have := h.len_; omega)
  injection hx with hx
  subst hx
  rw [hc j (by have := h.len_; omega), ← hu]
  simp [vals, List.getD_eq_getElem?_getD, List.getElem?_eq_getElem hj]
theorem Vals.grown {w w' : World} {row : Option Nat} {a : Option Addr} {len : Nat} {ys : List Nat} (h : Vals w a len ys) (hg : w.grownBy w' row) (h1 : 0 < len → ∀ x, a = some x → some x.block ≠ row) : Vals w' a len ys :=
  ⟨h.len_, fun hl => by
    obtain ⟨x, hx, hc⟩ := h.cells hl
    exact ⟨x, hx, fun i hi => (World.cell?_of_block (hg.block (x.add i).block (World.block_lt_of_cell? _ _ (hc i hi)) (by rw [block_add]; exact h1 hl x hx))).trans (hc i hi)⟩⟩
theorem Vals.has {w : World} {g : Nat} {t : TypeId} {ys : List Nat} {tl : List Value} (h : Has w g t (vals ys ++ tl).toArray) : Vals w (some ⟨g, 0, none⟩) ys.length ys :=
  ⟨rfl, fun _ => ⟨_, rfl, fun i hi => by
    have h9 := h.cell i
    rw [List.getElem?_toArray, List.getElem?_append_left (by simpa [vals] using hi)] at h9
    rw [show (Addr.add ⟨g, 0, none⟩ i) = ⟨g, i, none⟩ by simp [Addr.add]; rintro rfl; rfl, h9]
    simp [vals, List.getD_eq_getElem?_getD, List.getElem?_eq_getElem hi]⟩⟩
theorem Vals.own {w : World} {base : Nat} {t : TypeId} {v : Value} {n : Nat} {xs : List Nat} (h : w.ownsRow base t 1 v n (vals xs)) : ∃ A c, v = .slice A n c ∧ n ≤ c ∧ c ≤ 9223372036854775807 ∧ Vals w A n xs ∧ (∀ x, A = some x → base ≤ x.block ∧ x.block < w.heap.size) ∧ Value.ownBlock v = A.map (·.block) := by
  have hl : xs.length = n := by have := h.1; simpa [vals] using this
  rcases h.2 with ⟨rfl, rfl⟩ | ⟨g, cap, cur, rfl, hb, hh, h1, h2, h3, h4⟩
  · exact ⟨_, _, rfl, Nat.le_refl _, by omega, ⟨hl, fun h0 => absurd h0 (by omega)⟩, (fun x hx => by cases hx), rfl⟩
  · unfold maxLen at h2
    have hlt : g < w.heap.size := Has.lt (w := w) (b := g) hh
    refine ⟨_, _, rfl, h1, by omega, ⟨hl, fun _ => ⟨_, rfl, fun i hi => ?_⟩⟩, (fun x hx => by injection hx with hx; subst hx; exact ⟨hb, hlt⟩), rfl⟩
    have hc := h.cells (g := g) rfl
    refine hc i _ ?_
    have hi' : i < xs.length := by omega
    simp [vals, List.getD_eq_getElem?_getD, List.getElem?_eq_getElem hi']

section
variable {P : Program} {w : World}
theorem run_append_vals (base : Nat) (t ty e : TypeId) (bytes : Nat) (hby : bytes ≤ 16) (ht : P.underlying t = some (.slice e)) (hinfo : (P.info? e).map (fun i => (i.zero, i.size, i.bytes)) = some (some (.int .u8 0), 1, bytes))
    (v : Value) (n : Nat) (xs : List Nat) (hown : w.ownsRow base e 1 v n (vals xs)) (A : Option Addr) (m c : Nat) (ys : List Nat) (hr : Vals w A m ys)
    (h63 : n + m ≤ 1048576) (hbase : base ≤ w.heap.size) :
    ∃ v' w', (Builtin.append_ #[t, t] ty #[v, .slice A m c]).run P w = .ok v' w' ∧ w'.ownsRow base e 1 v' (n + m) (vals (xs ++ ys)) ∧ w.grownBy w' v.ownBlock ∧
      (v'.ownBlock = v.ownBlock ∨ v'.ownBlock = some w.heap.size) := by
  obtain ⟨i, hi, hz0, hz1, hz2⟩ := info_parts hinfo
  rcases A with _ | ad
  · have hm : m = 0 := by
      rcases Nat.eq_zero_or_pos m with h0 | h0
      · exact h0
      · obtain ⟨x, hx, _⟩ := hr.cells h0
        cases hx
    subst hm
    have hy : ys = [] := List.eq_nil_of_length_eq_zero hr.len_
    subst hy
    refine ⟨v, w, ?_, by simpa using hown, World.grownBy.refl w _, .inl rfl⟩
    rcases hown.2 with ⟨rfl, rfl⟩ | ⟨g, cap, cur, rfl, _, _, hnc, _⟩
    · simp [Builtin.append_, run_underlying ht, sizeOf, typeInfo, hi, Builtin.lenOf, Builtin.firstCells]
    · simp [Builtin.append_, run_underlying ht, sizeOf, typeInfo, hi, Builtin.lenOf, Builtin.firstCells, hnc, storeCells]
  · obtain ⟨v', w', hrun, h2, h3, _, h5⟩ := run_append_own_at (P := P) w base t ty e i _ 1 bytes ht hi hz0 hz1 hz2 rfl (by omega) v n (vals xs) hown ad m c (vals ys) (by simp [vals, hr.len_]) hr.get (vals_one ys)
      (by simp only [maxLen]; omega) (by
        have : (n + m) * bytes ≤ 1048576 * 16 := Nat.mul_le_mul h63 hby
        omega) hbase
    exact ⟨v', w', hrun, by rw [vals_append]; exact h2, h3, h5⟩
theorem wpList_append_vals {ops : Array Oper} {rest : List Oper} {o : Oper} {a : Act} {Q : Exit → Act → World → Prop} (hgd : o.guard = none) (s x : Operand) (t : TypeId)
    (ho : o.op = .call { callee := .builtin .append, args := #[s, x], argTypes := #[t, t] })
    (base : Nat) (e : TypeId) (bytes : Nat) (hby : bytes ≤ 16) (ht : P.underlying t = some (.slice e)) (hinfo : (P.info? e).map (fun i => (i.zero, i.size, i.bytes)) = some (some (.int .u8 0), 1, bytes))
    (v : Value) (n : Nat) (xs : List Nat) (hs : a.eval s = v) (hown : w.ownsRow base e 1 v n (vals xs)) (A : Option Addr) (m c : Nat) (ys : List Nat) (hx : a.eval x = .slice A m c) (hr : Vals w A m ys)
    (h63 : n + m ≤ 1048576) (hbase : base ≤ w.heap.size)
    (h : ∀ v' w', w'.ownsRow base e 1 v' (n + m) (vals (xs ++ ys)) → w.grownBy w' v.ownBlock → (v'.ownBlock = v.ownBlock ∨ v'.ownBlock = some w.heap.size) → wpList P ops Q rest (a.put o.dst v') w') : wpList P ops Q (o :: rest) a w := by
  refine wpList_plain hgd fun _ hK => ?_
  obtain ⟨v', w', hrun, h2, h3, h4⟩ := run_append_vals (P := P) base t o.type e bytes hby ht hinfo v n xs hown A m c ys hr h63 hbase
  unfold Oper.wp execOp
  simp only [ho, resolve, invoke, builtin, Sem.run_bind, Sem.run_pure, Result.andThen_ok, List.map_toArray, List.map_cons, List.map_nil, hs, hx, hrun]
  exact hK _ _ (h v' w' h2 h3 h4)
/-- An empty row that a literal made. -/
theorem own_empty (w : World) (e : TypeId) : World.ownsRow (w.alloc (.cells #[] e)) w.heap.size e 1 (.slice (some ⟨w.heap.size, 0, none⟩) 0 0) 0 (vals ([] : List Nat)) :=
  ⟨rfl, .inr ⟨_, 0, #[], rfl, Nat.le_refl _, Has.new w e #[], Nat.le_refl _, by unfold maxLen; omega, rfl, rfl⟩⟩
end
end Go.Proofs.Ytfimgkomfnfjkaa.RU8
end
section
/- Slices of uint8 that came in, as lists; rows of the call's own. -/
set_option linter.unusedSimpArgs false
set_option linter.unusedVariables false
namespace Go.Proofs.Ytfimgkomfnfjkaa.RU8
open Go.RowKit

theorem addr_add (x : Addr) (p i : Nat) : (x.add p).add i = x.add (p + i) := by
  unfold Addr.add
  by_cases h1 : p = 0 <;> by_cases h2 : i = 0 <;> simp [h1, h2, Nat.add_assoc]
theorem Vals.take {w : World} {a : Option Addr} {len : Nat} {ys : List Nat} (h : Vals w a len ys) (p : Nat) (hp : p ≤ len) : Vals w a p (ys.take p) := by
  have hl := h.len_
  refine ⟨by rw [List.length_take]; omega, fun h0 => ?_⟩
  obtain ⟨x, hx, hc⟩ := h.cells (by omega)
  refine ⟨x, hx, fun i hi => ?_⟩
  rw [hc i (by omega)]
  simp [List.getD_eq_getElem?_getD, List.getElem?_take, hi]
theorem Vals.drop {w : World} {a : Option Addr} {len : Nat} {ys : List Nat} (h : Vals w a len ys) (p : Nat) (hp : p ≤ len) : Vals w (a.map (·.add p)) (len - p) (ys.drop p) := by
  have hl := h.len_
  refine ⟨by rw [List.length_drop]; omega, fun h0 => ?_⟩
  obtain ⟨x, hx, hc⟩ := h.cells (by omega)
  refine ⟨x.add p, by rw [hx]; rfl, fun i hi => ?_⟩
  rw [show (x.add p).add i = x.add (p + i) from addr_add x p i, hc (p + i) (by omega)]
  simp [List.getD_eq_getElem?_getD, List.getElem?_drop]
theorem Vals.drewN {w : World} {a : Option Addr} {len : Nat} {ys : List Nat} (h : Vals w a len ys) (k : Nat) : Vals (w.drewN k) a len ys := h.same rfl
theorem Vals.alloc {w : World} {a : Option Addr} {len : Nat} {ys : List Nat} (h : Vals w a len ys) (o : Obj) : Vals (w.alloc o) a len ys := h.below ((Below.refl _ _).alloc (Nat.le_refl _) _)
theorem Vals.kept {w w' : World} {S : List Nat} {a : Option Addr} {len : Nat} {ys : List Nat} (h : Vals w a len ys) (hb : Kept S w w') (h1 : 0 < len → ∀ x, a = some x → x.block ∉ S) : Vals w' a len ys :=
  ⟨h.len_, fun hl => by
    obtain ⟨x, hx, hc⟩ := h.cells hl
    have hxb := h1 hl x hx
    exact ⟨x, hx, fun i hi => (hb.cell (World.block_lt_of_cell? _ _ (hc i hi)) (by rw [block_add]; exact hxb)).trans (hc i hi)⟩⟩
theorem own_none (w : World) (base : Nat) (e : TypeId) : w.ownsRow base e 1 (.slice none 0 0) 0 (vals ([] : List Nat)) := ⟨rfl, .inl ⟨rfl, rfl⟩⟩
theorem own_len {w : World} {base : Nat} {e : TypeId} {n : Nat} {v : Value} {xs : List Nat} (h : w.ownsRow base e 1 v n (vals xs)) : xs.length = n := by have := h.1; simpa [vals] using this
/-- One element of an own row is set anew. -/
theorem own_set {w : World} {base : Nat} {e : TypeId} {n c : Nat} {A : Option Addr} {ys : List Nat} (h : w.ownsRow base e 1 (.slice A n c) n (vals ys)) (i : Nat) (hi : i < n) :
    ∃ g, A = some ⟨g, 0, none⟩ ∧ base ≤ g ∧ g < w.heap.size ∧ w.cell? ⟨g, i, none⟩ = some (.int .u8 (ys.getD i 0)) ∧ w.frozen? ⟨g, i, none⟩ = false ∧
      ∀ y : Nat, (w.setCell ⟨g, i, none⟩ (.int .u8 y)).ownsRow base e 1 (.slice A n c) n (vals (ys.set i y)) := by
  have hl : ys.length = n := own_len h
  rcases h.2 with ⟨_, h0⟩ | ⟨g, cap, cur, hv, hb, hh, h1, h2, h3, h4⟩
  · omega
  · injection hv with hv1 hv2 hv3
    subst hv1
    subst hv3
    have hH : Has w g e cur := hh
    refine ⟨g, rfl, hb, hH.lt, ?_, hH.frozen i, fun y => ⟨?_, .inr ⟨g, c, cur.setIfInBounds i (.int .u8 y), rfl, hb, hH.set_ i _, h1, h2, by simpa using h3, ?_⟩⟩⟩
    · rw [hH.cell i]
      have h5 : (cur.toList.take (n * 1))[i]? = (vals ys)[i]? := by rw [h4]
      rw [List.getElem?_take, if_pos (by omega)] at h5
      rw [← Array.getElem?_toList, h5]
      simp [vals, List.getD_eq_getElem?_getD, List.getElem?_eq_getElem (show i < ys.length by omega)]
    · simp [vals, hl]
    · rw [Array.toList_setIfInBounds, List.take_set, h4]
      simp [vals, List.map_set]
/-- The bytes of a row are bytes. -/
def Bytes (ys : List Nat) : Prop := ∀ y ∈ ys, y < 256
theorem Bytes.at_ {ys : List Nat} (h : Bytes ys) (j : Nat) : ys.getD j 0 < 256 := by
  rcases Nat.lt_or_ge j ys.length with hj | hj
  · rw [List.getD_eq_getElem?_getD, List.getElem?_eq_getElem hj]; exact h _ (List.getElem_mem hj)
  · rw [List.getD_eq_getElem?_getD, List.getElem?_eq_none hj]; decide
theorem Bytes.append {xs ys : List Nat} (h : Bytes xs) (h' : Bytes ys) : Bytes (xs ++ ys) := fun y hy => (List.mem_append.1 hy).elim (h y) (h' y)
theorem Bytes.set {ys : List Nat} (h : Bytes ys) (i y : Nat) (hy : y < 256) : Bytes (ys.set i y) := fun z hz => (List.mem_or_eq_of_mem_set hz).elim (h z) (fun e => e ▸ hy)
theorem Bytes.take {ys : List Nat} (h : Bytes ys) (n : Nat) : Bytes (ys.take n) := fun y hy => h y (List.mem_of_mem_take hy)
/-- The bytes of a slice that came in. -/
theorem row_vals {w : World} {a : Option Addr} {len cap : Nat} {zs : List Int} (h : IsRow .u8 w a len cap zs) : ∃ ys : List Nat, Vals w a len ys ∧ Bytes ys ∧ len ≤ cap ∧ cap ≤ 9223372036854775807 ∧ ∀ x, 0 < len → a = some x → x.block < w.heap.size := by
  refine ⟨(zs.take len).map Int.toNat, ?_⟩
  rcases h with ⟨rfl, rfl, rfl, rfl⟩ | ⟨x, rfl, h1, h2, h3, h4, h5⟩
  · exact ⟨⟨rfl, fun h => absurd h (by omega)⟩, fun y hy => by simp at hy, by omega, by omega, fun x h => absurd h (by omega)⟩
  · unfold maxLen at h2
    have hb : ∀ n ∈ zs, 0 ≤ n ∧ n ≤ 255 := fun n hn => bounds_u8 (h5 n hn)
    refine ⟨⟨by rw [List.length_map, List.length_take]; omega, fun _ => ⟨x, rfl, fun i hi => ?_⟩⟩, fun y hy => ?_, h1, by omega, fun x' h hx => ?_⟩
    · have hz : i < zs.length := by omega
      rw [h4 i (by omega)]
      have := hb zs[i] (List.getElem_mem hz)
      simp [List.getD_eq_getElem?_getD, List.getElem?_take, hi, List.getElem?_eq_getElem hz]
      omega
    · obtain ⟨n, hn, rfl⟩ := List.mem_map.1 hy
      have := hb n (List.mem_of_mem_take hn)
      omega
    · injection hx with hx
      subst hx
      have := World.block_lt_of_cell? _ _ (h4 0 (by omega))
      rwa [block_add] at this
end Go.Proofs.Ytfimgkomfnfjkaa.RU8
end
section
/- A row and its check; bytes as a string. Nothing here speaks of a function. -/
set_option linter.unusedSimpArgs false
set_option linter.unusedVariables false
namespace Go.Proofs.Ytfimgkomfnfjkaa.Crc
open Go.RowKit RU8

/-- The sum behind the first j bytes. -/
theorem goZ_take (s : Nat) (ys : List Nat) (j : Nat) (hj : j < ys.length) : nextZ (goZ s (ys.take j)) (ys.getD j 0) = goZ s (ys.take (j + 1)) := by
  rw [List.take_succ_eq_append_getElem hj, goZ_append, List.getD_eq_getElem?_getD, List.getElem?_eq_getElem hj]
  rfl
/-- A row's check: the sum's lower byte and its upper one. -/
def checkZ (ys : List Nat) : List Nat := [sumZ ys % 256, sumZ ys / 256]
def sealZ (ys : List Nat) : List Nat := ys ++ checkZ ys
theorem check_bytes (ys : List Nat) : Bytes (checkZ ys) := by
  have := sumZ_lt ys
  intro y hy
  simp [checkZ] at hy
  omega
theorem seal_bytes {ys : List Nat} (h : Bytes ys) : Bytes (sealZ ys) := h.append (check_bytes ys)
def strOf (ys : List Nat) : ByteArray := strOfNums (ys.map Int.ofNat)
theorem strOf_inj {a b : List Nat} (ha : Bytes a) (hb : Bytes b) (h : strOf a = strOf b) : a = b := by
  have h1 : (strOf a).data.toList = (strOf b).data.toList := by rw [h]
  unfold strOf at h1
  rw [strOfNums_data, strOfNums_data, List.map_map, List.map_map] at h1
  have e : ∀ l : List Nat, Bytes l → (l.map ((fun n : Int => UInt8.ofNat n.toNat) ∘ Int.ofNat)).map UInt8.toNat = l := fun l hl => by
    rw [List.map_map]
    refine (List.map_congr_left (g := id) fun y hy => ?_).trans (List.map_id l)
    have := hl y hy
    simp [Function.comp]
    omega
  rw [← e a ha, ← e b hb, h1]
theorem conv_vals {P : Program} (src e dst : TypeId) (hs : P.underlying src = some (.slice e)) (he : P.underlying e = some (.int .u8)) (hd : P.underlying dst = some .string) {w : World} {A : Option Addr} {n : Nat} {ys : List Nat} (hv : Vals w A n ys) (c : Nat) :
    (convert src dst (.slice A n c)).run P w = .ok (.string (strOf ys)) w := by
  have hlen := hv.len_
  rcases A with _ | x
  · have h0 : n = 0 := by
      rcases Nat.eq_zero_or_pos n with h0 | h0
      · exact h0
      · obtain ⟨x, hx, _⟩ := hv.cells h0
        cases hx
    subst h0
    obtain rfl : ys = [] := List.eq_nil_of_length_eq_zero hlen
    rw [run_convert_bytes_nil w src e hs he 0 c dst hd]
    rfl
  · have hl : (loadCells x n).run P w = .ok ((ys.map Int.ofNat).map (Value.int .u8)).toArray w := by
      have := run_loadCells_list (P := P) w x ((ys.map Int.ofNat).map (Value.int .u8)) (fun j v hj => hv.get j v (by rw [← hj]; simp [vals]; rfl))
      simpa [hlen] using this
    rw [run_convert_bytes_string w src dst e _ n c hs he hd, run_bytesToString w _ n c _ hl, foldl_push_bytes]
    simp [strOf, strOfNums, ByteArray.empty, ByteArray.emptyWithCapacity]
    rfl
end Go.Proofs.Ytfimgkomfnfjkaa.Crc
end
section
/- What a Seal leaves. -/
set_option linter.unusedSimpArgs false
set_option linter.unusedVariables false
namespace Go.Proofs.Ytfimgkomfnfjkaa.Crc
open Go.RowKit RU8

/-- What a Seal leaves: an own row that reads as the sealed bytes; nothing that was there has turned. -/
def Sealed (w : World) (n : Nat) (ys : List Nat) (e : Ending) (w' : World) : Prop := ∃ v, e = .returned v ∧ w'.ownsRow w.heap.size 5 1 v (n + 2) (vals (sealZ ys)) ∧ Below w.heap.size w w'
end Go.Proofs.Ytfimgkomfnfjkaa.Crc
end
section
/- Are bytes some bytes and their check? -/
set_option linter.unusedSimpArgs false
set_option linter.unusedVariables false
namespace Go.Proofs.Ytfimgkomfnfjkaa.Crc
open Go.RowKit RU8

/-- Are these bytes some bytes with their check behind them? -/
def sealedB (ys : List Nat) : Bool := decide (2 ≤ ys.length) && decide (sealZ (ys.take (ys.length - 2)) = ys)
theorem two_behind (ys : List Nat) (n : Nat) (h : ys.length = n + 2) : ys = ys.take n ++ [ys.getD n 0, ys.getD (n + 1) 0] := by
  apply List.ext_getElem?
  intro i
  rcases Nat.lt_or_ge i n with hi | hi
  · rw [List.getElem?_append_left (by rw [List.length_take]; omega), List.getElem?_take, if_pos hi]
  · rw [List.getElem?_append_right (by rw [List.length_take]; omega), List.length_take, Nat.min_eq_left (by omega)]
    rcases (by omega : i = n ∨ i = n + 1 ∨ n + 2 ≤ i) with rfl | rfl | h2
    · rw [Nat.sub_self, List.getD_eq_getElem?_getD, List.getElem?_eq_getElem (by omega)]; rfl
    · rw [show n + 1 - n = 1 by omega, List.getD_eq_getElem?_getD, List.getD_eq_getElem?_getD, List.getElem?_eq_getElem (by omega)]; simp
    · rw [List.getElem?_eq_none (by omega), List.getElem?_eq_none (by simp; omega)]
theorem sealed_two (ys : List Nat) (n : Nat) (h : ys.length = n + 2) : sealedB ys = (decide (ys.getD n 0 = sumZ (ys.take n) % 256) && decide (ys.getD (n + 1) 0 = sumZ (ys.take n) / 256)) := by
  unfold sealedB
  rw [decide_eq_true (by omega : 2 ≤ ys.length), Bool.true_and, show ys.length - 2 = n by omega, Bool.eq_iff_iff, Bool.and_eq_true, decide_eq_true_iff, decide_eq_true_iff, decide_eq_true_iff]
  have e := two_behind ys n h
  have hl : (ys.take n).length = n := by rw [List.length_take]; omega
  constructor
  · intro hs
    have hs' : ys.take n ++ checkZ (ys.take n) = ys.take n ++ [ys.getD n 0, ys.getD (n + 1) 0] := hs.trans e
    have := List.append_cancel_left hs'
    unfold checkZ at this
    injection this with h1 h2
    injection h2 with h2 _
    exact ⟨h1.symm, h2.symm⟩
  · rintro ⟨h1, h2⟩
    unfold sealZ checkZ
    rw [← h1, ← h2]
    exact e.symm
theorem sealed_few (ys : List Nat) (h : ys.length < 2) : sealedB ys = false := by
  unfold sealedB
  rw [decide_eq_false (by omega), Bool.false_and]
/-- Two strings of bytes are one just where the bytes are. -/
theorem strOf_beq {a b : List Nat} (ha : Bytes a) (hb : Bytes b) : ((strOf a).toList == (strOf b).toList) = decide (a = b) := by
  rw [Bool.eq_iff_iff, beq_iff_eq, decide_eq_true_iff, ByteArray.toList_eq, ByteArray.toList_eq]
  constructor
  · intro h
    refine strOf_inj ha hb ?_
    generalize strOf a = x at *
    generalize strOf b = y at *
    obtain ⟨x⟩ := x
    obtain ⟨y⟩ := y
    exact congrArg ByteArray.mk (Array.toList_inj.1 h)
  · rintro rfl; rfl
theorem ret_bool {a b : Bool} (h : a = b) : Ending.returned (.bool a) = .returned (.bool b) := by rw [h]
theorem cast_beq (a b : Nat) : ((a : Int) == (b : Int)) = decide (a = b) := by
  rw [Bool.eq_iff_iff, beq_iff_eq, decide_eq_true_iff]
  omega
end Go.Proofs.Ytfimgkomfnfjkaa.Crc
end
section
/- A ring of uint8: what its memory holds, and what the calls that only look at it answer. -/
set_option linter.unusedSimpArgs false
set_option linter.unusedVariables false
namespace Go.Proofs.Ytfimgkomfnfjkaa.RU8
open Go.RowKit

/-- Block b is a ring's struct, block g its n slots (and what may lie behind them), cs: the first thing at slot f, and c things there. -/
structure Core (w : World) (b g n q f c : Nat) (cs : List Nat) : Prop where
  head : Has w b 67 #[.slice (some ⟨g, 0, none⟩) n q, .int .i64 f, .int .i64 c]
  slots : ∃ tl : List Value, Has w g 5 ((cs.map fun (v : Nat) => Value.int .u8 v) ++ tl).toArray
  size : cs.length = n
  first : f < n
  room : c ≤ n
  pow : ∃ k, k ≤ 16 ∧ n = 2 ^ k
  cap : n ≤ q ∧ q ≤ 9223372036854775807
/-- .. and the things are xs. -/
structure Ring (w : World) (b g n q f : Nat) (cs xs : List Nat) : Prop where
  core : Core w b g n q f xs.length cs
  at_ : ∀ i, i < xs.length → cs.getD ((f + i) % n) 0 = xs.getD i 0

section
variable {w w' : World} {b g n q f c : Nat} {cs xs : List Nat}
theorem Core.le (h : Core w b g n q f c cs) : n ≤ 65536 := by
  obtain ⟨k, hk, rfl⟩ := h.pow
  exact Nat.pow_le_pow_right (by omega) hk
theorem Core.ne_ (h : Core w b g n q f c cs) : b ≠ g := by
  rintro rfl
  have h1 := h.head
  obtain ⟨tl, h2⟩ := h.slots
  unfold Has at h1 h2
  rw [h1] at h2
  injection h2 with h2
  injection h2 with _ h3
  exact absurd h3 (by decide)
theorem Core.same (h : Core w b g n q f c cs) (e : w'.heap = w.heap) : Core w' b g n q f c cs := by
  obtain ⟨h1, ⟨tl, h2⟩, s1, s2, s3, s4, s5⟩ := h
  exact ⟨by unfold Has at *; rw [e]; exact h1, ⟨tl, by unfold Has at *; rw [e]; exact h2⟩, s1, s2, s3, s4, s5⟩
theorem Core.below {B : Nat} (h : Core w b g n q f c cs) (hb : Below B w w') (h1 : b < B) (h2 : g < B) : Core w' b g n q f c cs := by
  obtain ⟨h3, ⟨tl, h4⟩, s1, s2, s3, s4, s5⟩ := h
  exact ⟨h3.below hb h1, ⟨tl, h4.below hb h2⟩, s1, s2, s3, s4, s5⟩
theorem Core.far (h : Core w b g n q f c cs) {p : Addr} (h1 : b ≠ p.block) (h2 : g ≠ p.block) (u : Value) : Core (w.setCell p u) b g n q f c cs := by
  obtain ⟨h3, ⟨tl, h4⟩, s1, s2, s3, s4, s5⟩ := h
  exact ⟨h3.far h1 u, ⟨tl, h4.far h2 u⟩, s1, s2, s3, s4, s5⟩
theorem Core.alloc (h : Core w b g n q f c cs) (o : Obj) : Core (w.alloc o) b g n q f c cs := by
  obtain ⟨h3, ⟨tl, h4⟩, s1, s2, s3, s4, s5⟩ := h
  exact ⟨h3.alloc o, ⟨tl, h4.alloc o⟩, s1, s2, s3, s4, s5⟩
theorem Core.turned {b' g' : Nat} (h : Core w b g n q f c cs) (ht : Turned b' g' w w') (h1 : b ≠ b') (h2 : b ≠ g') (h3 : g ≠ b') (h4 : g ≠ g') : Core w' b g n q f c cs := by
  obtain ⟨e3, ⟨tl, e4⟩, s1, s2, s3, s4, s5⟩ := h
  exact ⟨ht.has e3 h1 h2, ⟨tl, ht.has e4 h3 h4⟩, s1, s2, s3, s4, s5⟩
theorem Core.grown {row : Option Nat} (h : Core w b g n q f c cs) (hg : w.grownBy w' row) (h1 : some b ≠ row) (h2 : some g ≠ row) : Core w' b g n q f c cs := by
  obtain ⟨e3, ⟨tl, e4⟩, s1, s2, s3, s4, s5⟩ := h
  exact ⟨(hg.block b e3.lt h1).trans e3, ⟨tl, (hg.block g e4.lt h2).trans e4⟩, s1, s2, s3, s4, s5⟩
theorem Core.lt_ (h : Core w b g n q f c cs) : b < w.heap.size ∧ g < w.heap.size := by
  obtain ⟨tl, h4⟩ := h.slots
  exact ⟨h.head.lt, h4.lt⟩
theorem Core.cells (h : Core w b g n q f c cs) : w.cell? ⟨b, 0, none⟩ = some (.slice (some ⟨g, 0, none⟩) n q) ∧ w.cell? ⟨b, 1, none⟩ = some (.int .i64 f) ∧ w.cell? ⟨b, 2, none⟩ = some (.int .i64 c) := ⟨h.head.cell 0, h.head.cell 1, h.head.cell 2⟩
theorem Core.froz (h : Core w b g n q f c cs) : w.frozen? ⟨b, 1, none⟩ = false ∧ w.frozen? ⟨b, 2, none⟩ = false := ⟨h.head.frozen 1, h.head.frozen 2⟩
theorem Core.slotz (h : Core w b g n q f c cs) (j : Nat) : w.frozen? ⟨g, j, none⟩ = false := by
  obtain ⟨tl, h4⟩ := h.slots
  exact h4.frozen j
theorem Core.slot_ (h : Core w b g n q f c cs) (j : Nat) (hj : j < n) : w.cell? ⟨g, j, none⟩ = some (.int .u8 (cs.getD j 0)) := by
  obtain ⟨tl, h4⟩ := h.slots
  rw [h4.cell j]
  have := h.size
  rw [List.getElem?_toArray, List.getElem?_append_left (by simp; omega)]
  simp [List.getD_eq_getElem?_getD, List.getElem?_eq_getElem (show j < cs.length by omega)]
theorem Core.put (h : Core w b g n q f c cs) (j : Nat) (hj : j < n) (v : Nat) : Core (w.setCell ⟨g, j, none⟩ (.int .u8 v)) b g n q f c (cs.set j v) := by
  obtain ⟨tl, h4⟩ := h.slots
  have hs := h.size
  refine ⟨h.head.far h.ne_ _, ⟨tl, ?_⟩, by rw [List.length_set]; exact h.size, h.first, h.room, h.pow, h.cap⟩
  have := h4.set_ j (.int .u8 v)
  rwa [List.setIfInBounds_toArray, List.set_append_left _ _ (by simp; omega), ← List.map_set] at this
theorem Core.first_ (h : Core w b g n q f c cs) (f' : Nat) (hf : f' < n) : Core (w.setCell ⟨b, 1, none⟩ (.int .i64 f')) b g n q f' c cs := by
  obtain ⟨tl, h4⟩ := h.slots
  refine ⟨?_, ⟨tl, h4.far (p := ⟨b, 1, none⟩) (fun e => h.ne_ e.symm) _⟩, h.size, hf, h.room, h.pow, h.cap⟩
  simpa using h.head.set_ 1 (.int .i64 f')
theorem Core.count_ (h : Core w b g n q f c cs) (c' : Nat) (hc : c' ≤ n) : Core (w.setCell ⟨b, 2, none⟩ (.int .i64 c')) b g n q f c' cs := by
  obtain ⟨tl, h4⟩ := h.slots
  refine ⟨?_, ⟨tl, h4.far (p := ⟨b, 2, none⟩) (fun e => h.ne_ e.symm) _⟩, h.size, h.first, hc, h.pow, h.cap⟩
  simpa using h.head.set_ 2 (.int .i64 c')
theorem Ring.turned {b' g' : Nat} (h : Ring w b g n q f cs xs) (ht : Turned b' g' w w') (h1 : b ≠ b') (h2 : b ≠ g') (h3 : g ≠ b') (h4 : g ≠ g') : Ring w' b g n q f cs xs := ⟨h.core.turned ht h1 h2 h3 h4, h.at_⟩
theorem Ring.grown {row : Option Nat} (h : Ring w b g n q f cs xs) (hg : w.grownBy w' row) (h1 : some b ≠ row) (h2 : some g ≠ row) : Ring w' b g n q f cs xs := ⟨h.core.grown hg h1 h2, h.at_⟩
theorem Ring.alloc (h : Ring w b g n q f cs xs) (o : Obj) : Ring (w.alloc o) b g n q f cs xs := ⟨h.core.alloc o, h.at_⟩
theorem Ring.same (h : Ring w b g n q f cs xs) (e : w'.heap = w.heap) : Ring w' b g n q f cs xs := ⟨h.core.same e, h.at_⟩
theorem Ring.below {B : Nat} (h : Ring w b g n q f cs xs) (hb : Below B w w') (h1 : b < B) (h2 : g < B) : Ring w' b g n q f cs xs := ⟨h.core.below hb h1 h2, h.at_⟩
theorem Ring.here (h : Ring w b g n q f cs xs) (i : Nat) (hi : i < xs.length) : w.cell? ⟨g, (f + i) % n, none⟩ = some (.int .u8 (xs.getD i 0)) := by
  rw [h.core.slot_ _ (Nat.mod_lt _ (by have := h.core.first; omega)), h.at_ i hi]
end

/-- The ring has these things now; it, and its slots, have turned, and no other block that was there. -/
def Became (w : World) (b g n q f : Nat) (zs : List Nat) (w' : World) : Prop := ∃ cs', Ring w' b g n q f cs' zs ∧ Turned b g w w'

theorem len_any (b c : Nat) (w : World) (h2 : w.cell? ⟨b, 2, none⟩ = some (.int .i64 c)) :
    Calls Try.prog 19 #[.pointer (some ⟨b, 0, none⟩)] w fun e w' => e = .returned (.int .i64 c) ∧ w = w' := by
  go_enter Try.func19, Try.ntmps19
  go_wp2
  go_ret
  simp

theorem len_q (b g n q f : Nat) (cs xs : List Nat) (c : Nat) (w : World) (h : Ring w b g n q f cs xs) (hc : xs.length = c) :
    Calls Try.prog 19 #[.pointer (some ⟨b, 0, none⟩)] w fun e w' => e = .returned (.int .i64 (c : Int)) ∧ ∃ k, w' = w.drewN k := by
  subst hc
  exact (len_any b _ w h.core.cells.2.2).mono fun e w' ⟨he, hw⟩ => ⟨he, 0, hw.symm⟩

theorem room_any (b g n q f : Nat) (cs xs : List Nat) (w : World) (h : Ring w b g n q f cs xs) :
    Calls Try.prog 40 #[.pointer (some ⟨b, 0, none⟩)] w fun e w' => e = .returned (.int .i64 ((n : Int) - (xs.length : Int))) ∧ ∃ k, w' = w.drewN k := by
  obtain ⟨c0, c1, c2⟩ := h.core.cells
  have hn := h.core.le
  have hq := h.core.cap
  have hr := h.core.room
  clear h
  generalize xs.length = c at *
  go_enter Try.func40, Try.ntmps40
  go_wp2
  go_quiet (fail)
  go_wp2
  go_ret
  exact ⟨rfl, _, rfl⟩

theorem room_nat (b g n q f : Nat) (cs xs : List Nat) (r : Nat) (w : World) (h : Ring w b g n q f cs xs) (hr : n - xs.length = r) :
    Calls Try.prog 40 #[.pointer (some ⟨b, 0, none⟩)] w fun e w' => e = .returned (.int .i64 (r : Int)) ∧ ∃ k, w' = w.drewN k :=
  (room_any b g n q f cs xs w h).mono fun e w' ⟨he, hw⟩ => ⟨by rw [he, show ((n : Int) - (xs.length : Int)) = (r : Int) by have := h.core.room; omega], hw⟩

theorem slot_any (b g n q f : Nat) (c : Nat) (cs : List Nat) (i : Nat) (w : World) (h : Core w b g n q f c cs) (hi : i ≤ 1000000) :
    Calls Try.prog 29 #[.pointer (some ⟨b, 0, none⟩), .int .i64 i] w fun e w' => e = .returned (.int .i64 (((f + i) % n : Nat) : Int)) ∧ ∃ k, w' = w.drewN k := by
  obtain ⟨c0, c1, c2⟩ := h.cells
  have hn := h.le
  have hf := h.first
  have hq := h.cap
  obtain ⟨k, hk, hp⟩ := h.pow
  have hm := Lib.hid (mask_int (f + i) k n (by omega) hp (by omega))
  clear h hp
  go_enter Try.func29, Try.ntmps29
  go_wp2
  go_quiet (fail)
  go_wp2
  go_ret
  have h9 := hm.out
  rw [Int.natCast_add] at h9
  exact ⟨(show Ending.returned (Value.int .i64 (bits BinOp.and .i64 ((f : Int) + (i : Int)) ((n : Int) - 1))) = _ by rw [h9]), _, rfl⟩

end Go.Proofs.Ytfimgkomfnfjkaa.RU8
end
section
/- Slices of samples (a value of 32 bits, and whether the lead is off): that came in, as lists, rows of the call's own. -/
set_option linter.unusedSimpArgs false
set_option linter.unusedVariables false
namespace Go.Proofs.Ytfimgkomfnfjkaa
open Go.ChangeShapes Go.WideShapes Go.Deep Go.RowKit

/-- A sample: its value, and whether its lead is off. -/
abbrev Samp := Int × Bool
/-- A slice of samples that came in. -/
def IsSamps (w : World) (a : Option Addr) (len cap : Nat) (zs : List Samp) : Prop :=
  (a = none ∧ len = 0 ∧ cap = 0 ∧ zs = []) ∨ ∃ x, a = some x ∧ len ≤ cap ∧ cap ≤ maxLen ∧ zs.length = cap ∧ ∀ r, r < cap → w.cell? (x.add (r * 2)) = some (.int .i32 (zs.getD r (0, false)).1) ∧ w.cell? (x.add (r * 2 + 1)) = some (.bool (zs.getD r (0, false)).2) ∧ (Lit.int .i32 (zs.getD r (0, false)).1).wf = true
theorem samps_of {H : Type} {enc : TypeId × Value → H} {w : World} {held : Bool} {fuel : Nat} {a : Option Addr} {len cap : Nat} {x : DataW H × List MemPlace}
    (h : DataW.trod enc Try.prog w 0 (fun _ => true) held fuel 50 [.slice a len cap] = some x) : ∃ zs, IsSamps w a len cap zs := by
  rcases open_slice Try.underlying50 h with ⟨h0, _⟩ | ⟨y, l, c, m, n, D, Pl, hcs, hb, hl, hm, hmm, hx, hi⟩
  · simp at h0
    obtain ⟨rfl, rfl, rfl⟩ := h0
    exact ⟨[], .inl ⟨rfl, rfl, rfl, rfl⟩⟩
  · simp at hcs
    obtain ⟨rfl, rfl, rfl⟩ := hcs
    simp only [if_true] at hmm
    subst hmm
    have each : ∀ r, r < m → ∃ s : Samp, w.cell? (y.add (r * 2)) = some (.int .i32 s.1) ∧ w.cell? (y.add (r * 2 + 1)) = some (.bool s.2) ∧ (Lit.int .i32 s.1).wf = true := fun r hr => by
      obtain ⟨cs', hc, ht'⟩ := hi r hr
      have hC : Try.prog.cellsOf 44 = 2 := by kernel_rfl
      rw [hC] at hc
      obtain ⟨ys, n', hn', hy, hlen, hyl, hf⟩ := DataW.trod_struct Try.underlying44 ht'
      obtain ⟨_, hcl, hat⟩ := World.cells?_some hc
      have e3 : Try.prog.cellsOf 21 = 1 := by kernel_rfl
      have e4 : Try.prog.cellsOf 4 = 1 := by kernel_rfl
      match cs', hcl with
      | [c0, c1], _ =>
        match ys, hyl with
        | [y0, y1], _ =>
          have h0 : DataW.trod enc Try.prog w 0 (fun _ => true) held n' 21 (([c0, c1].drop 0).take (Try.prog.cellsOf 21)) = some y0 := hf 0 _ rfl
          have h1 : DataW.trod enc Try.prog w 0 (fun _ => true) held n' 4 (([c0, c1].drop 1).take (Try.prog.cellsOf 4)) = some y1 := hf 1 _ rfl
          rw [e3] at h0
          rw [e4] at h1
          replace h0 : DataW.trod enc Try.prog w 0 (fun _ => true) held n' 21 [c0] = some y0 := h0
          replace h1 : DataW.trod enc Try.prog w 0 (fun _ => true) held n' 4 [c1] = some y1 := h1
          obtain ⟨q0, k0, _, g0⟩ := DataW.trod_int Try.underlying21 h0
          obtain ⟨q1, k1, _⟩ := DataW.trod_bool Try.underlying4 h1
          injection k0 with k0
          injection k1 with k1
          have a0 := hat 0 (by omega)
          have a1 := hat 1 (by omega)
          rw [add_add] at a0 a1
          replace a0 : w.cell? (y.add (r * 2)) = _ := a0
          exact ⟨(q0, q1), by rw [a0, k0]; rfl, by rw [a1, k1]; rfl, g0⟩
    refine ⟨(List.range m).map fun r => if h : r < m then (each r h).choose else (0, false), .inr ⟨y, rfl, hl, hm, by simp, fun r hr => ?_⟩⟩
    have e : ((List.range m).map fun r => if h : r < m then (each r h).choose else ((0, false) : Samp)).getD r (0, false) = (each r hr).choose := by
      rw [List.getD_eq_getElem?_getD, List.getElem?_map, List.getElem?_range hr]
      simp [hr]
    rw [e]
    exact (each r hr).choose_spec
/-- How a sample lies. -/
def sampS : Row.Shape Samp := ⟨2, fun s => [.int .i32 s.1, .bool s.2], fun _ => rfl, by decide, fun s u hu => by
  rcases List.mem_cons.1 hu with rfl | hu
  · rfl
  · rcases List.mem_cons.1 hu with rfl | hu
    · rfl
    · cases hu⟩
/-- Values of 32 bits. -/
def Small (ys : List Samp) : Prop := ∀ s ∈ ys, -2147483648 ≤ s.1 ∧ s.1 ≤ 2147483647
theorem Small.at_ {ys : List Samp} (h : Small ys) (j : Nat) : -2147483648 ≤ (ys.getD j (0, false)).1 ∧ (ys.getD j (0, false)).1 ≤ 2147483647 := by
  rcases Nat.lt_or_ge j ys.length with hj | hj
  · rw [List.getD_eq_getElem?_getD, List.getElem?_eq_getElem hj]; exact h _ (List.getElem_mem hj)
  · rw [List.getD_eq_getElem?_getD, List.getElem?_eq_none hj]; decide
theorem samp_cells {w : World} {x : Addr} {len : Nat} {ys : List Samp} (h : Row.Vals sampS w (some x) len ys) (i : Nat) (hi : i < len) : w.cell? (x.add (i * 2)) = some (.int .i32 (ys.getD i (0, false)).1) ∧ w.cell? ⟨(x.add (i * 2)).block, (x.add (i * 2)).off + 1, none⟩ = some (.bool (ys.getD i (0, false)).2) := by
  have hl : i < ys.length := by have := h.len_; omega
  rw [List.getD_eq_getElem?_getD, List.getElem?_eq_getElem hl]
  have e : (⟨(x.add (i * 2)).block, (x.add (i * 2)).off + 1, none⟩ : Addr) = x.add (i * 2 + 1) := by
    rw [← add_add x (i * 2) 1]
    simp [Addr.add]
  rw [e]
  exact ⟨h.at_ i 0 hl _ rfl, h.at_ i 1 hl _ rfl⟩
theorem row_samps {w : World} {a : Option Addr} {len cap : Nat} {zs : List Samp} (h : IsSamps w a len cap zs) : ∃ ys : List Samp, Row.Vals sampS w a len ys ∧ Small ys ∧ len ≤ cap ∧ cap ≤ 9223372036854775807 := by
  refine ⟨zs.take len, ?_⟩
  rcases h with ⟨rfl, rfl, rfl, rfl⟩ | ⟨x, rfl, h1, h2, h3, h4⟩
  · exact ⟨⟨rfl, fun h => absurd h (by omega)⟩, fun s hs => by simp at hs, by omega, by omega⟩
  · unfold maxLen at h2
    refine ⟨⟨by rw [List.length_take]; omega, fun _ => ⟨x, rfl, fun j u hu => ?_⟩⟩, fun s hs => ?_, h1, by omega⟩
    · have hj : j < (Row.flat sampS (zs.take len)).length := (List.getElem?_eq_some_iff.1 hu).1
      rw [Row.flat_length, List.length_take, Nat.min_eq_left (by omega)] at hj
      have hk : sampS.k = 2 := rfl
      rw [hk] at hj
      have hr : j / 2 < (zs.take len).length := by rw [List.length_take]; omega
      have hg := Row.flat_get (S := sampS) (zs.take len) (j / 2) (j % 2) hr (by rw [hk]; omega)
      rw [hk, show j / 2 * 2 + j % 2 = j by omega, hu] at hg
      obtain ⟨c0, c1, _⟩ := h4 (j / 2) (by rw [List.length_take] at hr; omega)
      have e : zs.getD (j / 2) (0, false) = (zs.take len)[j / 2] := by
        rw [List.getD_eq_getElem?_getD, List.getElem?_eq_getElem (by rw [List.length_take] at hr; omega)]
        simp
      rw [e] at c0 c1
      rcases (by omega : j % 2 = 0 ∨ j % 2 = 1) with h5 | h5
      · rw [h5] at hg
        rw [show j = j / 2 * 2 by omega, c0]
        exact hg.symm
      · rw [h5] at hg
        rw [show j = j / 2 * 2 + 1 by omega, c1]
        exact hg.symm
    · obtain ⟨i, hi, rfl⟩ := List.getElem_of_mem hs
      rw [List.length_take] at hi
      have := bounds_i32 (h4 i (by omega)).2.2
      rw [List.getD_eq_getElem?_getD, List.getElem?_eq_getElem (by omega)] at this
      simpa using this
end Go.Proofs.Ytfimgkomfnfjkaa
end
section
/- A ring of uint8: letting the first things go. -/
set_option linter.unusedSimpArgs false
set_option linter.unusedVariables false
namespace Go.Proofs.Ytfimgkomfnfjkaa.RU8
open Go.RowKit

def Dropping (w : World) (b g n q f : Nat) (xs : List Nat) (m : Nat) (i : Value) (wr : World) : Prop :=
  ∃ k, k ≤ m ∧ i = .int .i64 (k : Nat) ∧ Turned b g w wr ∧ ∃ cs, Core wr b g n q f xs.length cs ∧ ∀ i, k ≤ i → i < xs.length → cs.getD ((f + i) % n) 0 = xs.getD i 0
set_option maxHeartbeats 1000000 in
theorem drop_any (b g n q f : Nat) (cs xs : List Nat) (m : Nat) (w : World) (h : Ring w b g n q f cs xs) (hm : m ≤ xs.length) :
    Calls Try.prog 30 #[.pointer (some ⟨b, 0, none⟩), .int .i64 m] w fun e w' => e = .returned (.tuple #[]) ∧ Became w b g n q ((f + m) % n) (xs.drop m) w' := by
  have hn := h.core.le
  have hq := h.core.cap
  have hr := h.core.room
  have hT := Turned.refl b g w
  go_enter Try.func30, Try.ntmps30
  go_wp2
  go_loopw [7] (fun i wr => Dropping w b g n q f xs m i wr) (fun i _ => m - (intOf i).toNat)
  case atStart => exact ⟨0, by omega, rfl, hT, cs, h.core, fun i _ hi => h.at_ i hi⟩
  case round =>
    clear h hT
    obtain ⟨k, hk, rfl, hT, cs', hC, hat⟩ := hrel
    obtain ⟨c0, c1, c2⟩ := hC.cells
    obtain ⟨z1, z2⟩ := hC.froz
    have hf := hC.first
    by_cases hlt : k < m
    · have hj : (f + k) % n < n := Nat.mod_lt _ (by omega)
      have hcell := hC.slot_ _ hj
      have hfz := hC.slotz ((f + k) % n)
      have hs := fun W (hW : Core W b g n q f xs.length cs') => slot_any b g n q f _ cs' k W hW (by omega)
      have hat' : ∀ i, k + 1 ≤ i → i < xs.length → (cs'.set ((f + k) % n) 0).getD ((f + i) % n) 0 = xs.getD i 0 := fun i h1 h2 => by
        rw [getD_set _ _ _ _ _ (by rw [hC.size]; exact hj), if_neg (rot_ne (by omega) (by omega) (by omega))]
        exact hat i (by omega) h2
      have HAT := Lib.hid hat'
      clear hat hat'
      generalize (f + k) % n = p at *
      generalize cs'.getD p 0 = old at *
      go_wp2
      go_region_with (go_at_call 29; refine (hs _ (by exact hC.same rfl)).mono ?_; rintro e W2 ⟨rfl, kk, rfl⟩)
      all_goals
        go_wp2
        go_roundw
        case rel => exact ⟨k + 1, by omega, by go_num, (hT.setCell (p := ⟨g, p, none⟩) (.inr (.inl rfl)) (.int .u8 0)).like rfl rfl rfl rfl, _, (hC.put p hj 0).same rfl, HAT.out⟩
        case measure => simp [intOf]; omega
    · have hk' : k = m := by omega
      subst hk'
      have hj : (f + k) % n < n := Nat.mod_lt _ (by omega)
      have hs := fun W (hW : Core W b g n q f xs.length cs') => slot_any b g n q f _ cs' k W hW (by omega)
      have hat' : ∀ i, i < (xs.drop k).length → cs'.getD (((f + k) % n + i) % n) 0 = (xs.drop k).getD i 0 := fun i hi => by
        rw [rot_add, getD_drop]
        rw [List.length_drop] at hi
        exact hat (k + i) (by omega) (by omega)
      have HL := Lib.hid (show (xs.drop k).length = xs.length - k from List.length_drop)
      have HAT := Lib.hid hat'
      clear hat hat'
      generalize hp : (f + k) % n = p at *
      generalize hys : xs.drop k = ys at *
      generalize hc : xs.length = c at *
      have HP := Lib.hid hp
      have HY := Lib.hid hys
      have HC := Lib.hid hc
      clear hp hys hc
      go_wp2_with (go_at_call 29; refine (hs _ (by exact hC.same rfl)).mono ?_; rintro e W2 ⟨rfl, kk, rfl⟩)
      go_end0
      refine ⟨rfl, cs', ?_, ?_⟩
      · rw [HP.out, HY.out]
        refine ⟨?_, HAT.out⟩
        have hC2 := ((hC.first_ p hj).count_ (c - k) (by omega))
        rw [HL.out, show ((c - k : Nat) : Int) = (c : Int) - (k : Int) by omega] at *
        exact hC2.same rfl
      · exact ((hT.setCell (p := ⟨b, 1, none⟩) (.inl rfl) _).setCell (p := ⟨b, 2, none⟩) (.inl rfl) _).like rfl rfl rfl rfl
end Go.Proofs.Ytfimgkomfnfjkaa.RU8
end
section
/- A ring of uint8: made. -/
set_option linter.unusedSimpArgs false
set_option linter.unusedVariables false
namespace Go.Proofs.Ytfimgkomfnfjkaa.RU8
open Go.RowKit

theorem made_cells (m : Nat) : madeCells #[Value.int .u8 0] (m * 1) = Array.replicate m (Value.int .u8 0) := by
  rw [Nat.mul_one]
  apply Array.ext
  · simp [madeCells]
  · intro i h1 h2
    simp [madeCells, Nat.mod_one]
theorem rep_cells (m : Nat) : Array.replicate m (Value.int .u8 0) = ((List.replicate m 0).map fun (v : Nat) => Value.int .u8 v).toArray := by simp
theorem make_run (m : Nat) (hm : m ≤ 65536) (W : World) : (Instr.makeSlice 25 (.int .i64 (m : Int)) (.int .i64 (m : Int))).run Try.prog W =
    .ok (.slice (some ⟨W.heap.size, 0, none⟩) m m) (W.alloc (.cells (Array.replicate m (Value.int .u8 0)) 5)) := by
  obtain ⟨i, hi, hz, h1, h2⟩ : ∃ i, Try.prog.info? 5 = some i ∧ i.zero = some (Value.int .u8 0) ∧ i.size = 1 ∧ i.bytes ≤ 16 := by
    refine ⟨_, rfl, ?_, ?_, ?_⟩ <;> first | rfl | decide
  have hr := run_make (P := Try.prog) W 25 5 i _ Try.underlying25 hi hz .i64 .i64 (m : Int) (m : Int) (by omega) (by omega) (by
    have : (i.bytes : Int) * (m : Int) ≤ 16 * 65536 := Int.mul_le_mul (by omega) (by omega) (by omega) (by omega)
    omega) (by omega)
  simp only [Int.toNat_natCast, h1] at hr
  rw [show (Value.int .u8 0).cells = #[Value.int .u8 0] from rfl, made_cells] at hr
  exact hr

theorem new_no (log : Int) (w : World) (h : log < 0 ∨ 16 < log) :
    Calls Try.prog 17 #[.int .i64 log] w fun e w' => e = .returned (.tuple #[.pointer none, .int .i64 1]) ∧ w = w' := by
  rcases h with h | h
  · go_enter Try.func17, Try.ntmps17
    go_wp2
    go_ret2
    exact ⟨rfl, rfl⟩
  · have h0 : ¬ log < 0 := by omega
    go_enter Try.func17, Try.ntmps17
    go_wp2
    go_ret2
    exact ⟨rfl, rfl⟩

theorem new_ring (k : Nat) (hk : k ≤ 16) (w : World) :
    Ring ((w.alloc (.cells (Array.replicate (2 ^ k) (Value.int .u8 0)) 5)).alloc (.cells #[.slice (some ⟨w.heap.size, 0, none⟩) (2 ^ k) (2 ^ k), .int .i64 0, .int .i64 0] 67))
      (w.heap.size + 1) w.heap.size (2 ^ k) (2 ^ k) 0 (List.replicate (2 ^ k) 0) [] := by
  have hp : 0 < 2 ^ k := Nat.pos_of_ne_zero (by simp)
  refine ⟨⟨?_, ⟨[], by rw [List.append_nil, ← rep_cells]; exact (Has.new w _ _).alloc _⟩, by simp, hp, by simp, ⟨k, hk, rfl⟩, Nat.le_refl _, by have := Nat.pow_le_pow_right (show 0 < 2 by omega) hk; omega⟩, fun i hi => absurd hi (by simp)⟩
  have h := Has.new (w.alloc (.cells (Array.replicate (2 ^ k) (Value.int .u8 0)) 5)) 67 #[.slice (some ⟨w.heap.size, 0, none⟩) (2 ^ k) (2 ^ k), .int .i64 0, .int .i64 0]
  rw [show (w.alloc (.cells (Array.replicate (2 ^ k) (Value.int .u8 0)) 5)).heap.size = w.heap.size + 1 by simp] at h
  exact h
theorem new_yes (k : Nat) (hk : k ≤ 16) (w : World) :
    Calls Try.prog 17 #[.int .i64 (k : Int)] w fun e w' => e = .returned (.tuple #[.pointer (some ⟨w.heap.size + 1, 0, none⟩), .int .i64 0]) ∧
      Ring w' (w.heap.size + 1) w.heap.size (2 ^ k) (2 ^ k) 0 (List.replicate (2 ^ k) 0) [] ∧ Below w.heap.size w w' ∧ w'.heap.size = w.heap.size + 2 := by
  have hp : (2 : Nat) ^ k ≤ 65536 := (Nat.pow_le_pow_right (by omega) hk : 2 ^ k ≤ 2 ^ 16)
  have hR := new_ring k hk w
  obtain ⟨n, hn⟩ : ∃ n, (2 : Nat) ^ k = n := ⟨_, rfl⟩
  have hw : wrap64 ((2 : Int) ^ k) = (n : Int) := by
    have h1 : ((2 : Int) ^ k) = ((2 ^ k : Nat) : Int) := by rw [Int.natCast_pow]; rfl
    rw [h1, hn]
    unfold wrap64
    omega
  rw [hn] at hp hR ⊢
  clear hn
  have hmk := fun W => make_run n hp W
  have HR := Lib.hid hR
  clear hR
  go_enter Try.func17, Try.ntmps17
  go_wp2
  go_ret2
  exact ⟨rfl, HR.out, ((Below.refl _ _).alloc (Nat.le_refl _) _).alloc (by simp) _, by simp⟩
end Go.Proofs.Ytfimgkomfnfjkaa.RU8
end
section
/- Frames, reckoned: their bytes. Nothing here speaks of a program. -/
set_option linter.unusedSimpArgs false
set_option linter.unusedVariables false
namespace Go.Proofs.Ytfimgkomfnfjkaa.Frm
open Go.RowKit RU8

def Fits (s : Samp) : Prop := -32768 ≤ s.1 ∧ s.1 ≤ 32767
instance (s : Samp) : Decidable (Fits s) := by unfold Fits; infer_instance
def mayT (l : List Samp) : Bool := decide (1 ≤ l.length ∧ l.length ≤ 32 ∧ ∀ s ∈ l, Fits s)
def modT (v : Int) : Nat := ((v + 65536) % 65536).toNat
def sampT (s : Samp) : List Nat := [if s.2 then 1 else 0, modT s.1 % 256, modT s.1 / 256]
def sampsT (l : List Samp) : List Nat := l.flatMap sampT
theorem modT_lt (v : Int) : modT v < 65536 := by unfold modT; omega
theorem sampsT_length (l : List Samp) : (sampsT l).length = 3 * l.length := by
  induction l with
  | nil => rfl
  | cons s l ih => rw [show sampsT (s :: l) = sampT s ++ sampsT l from rfl, List.length_append, ih, List.length_cons]; simp [sampT]; omega
theorem sampT_bytes (s : Samp) : Bytes (sampT s) := by
  have := modT_lt s.1
  intro y hy
  simp [sampT] at hy
  rcases hy with rfl | rfl | rfl
  · split <;> decide
  · omega
  · omega
theorem sampsT_bytes (l : List Samp) : Bytes (sampsT l) := by
  intro y hy
  obtain ⟨s, _, hs⟩ := List.mem_flatMap.1 hy
  exact sampT_bytes s y hs
theorem sampsT_take (l : List Samp) (j : Nat) (hj : j < l.length) : sampsT (l.take (j + 1)) = sampsT (l.take j) ++ sampT (l.getD j (0, false)) := by
  unfold sampsT
  rw [List.take_succ_eq_append_getElem hj, List.getD_eq_getElem?_getD, List.getElem?_eq_getElem hj, List.flatMap_append]
  simp only [List.flatMap_cons, List.flatMap_nil, List.append_nil]
  rfl
/-- What the check is of: the number, how many, the samples. -/
def bodyT (seq : Nat) (l : List Samp) : List Nat := seq :: l.length :: sampsT l
end Go.Proofs.Ytfimgkomfnfjkaa.Frm
end
section
/- The reference's sum of a row. -/
set_option linter.unusedSimpArgs false
set_option linter.unusedVariables false
namespace Go.Proofs.Ytfimgkomfnfjkaa.Crc
open Go.RowKit RU8

theorem refsum_any (A : Option Addr) (len c : Nat) (ys : List Nat) (w : World) (hv : Vals w A len ys) (hb : Bytes ys) (hl : len ≤ 9223372036854775807) :
    Calls Try.prog 48 #[.slice A len c] w fun e w' => e = .returned (.int .u16 (sumZ ys)) ∧ w = w' := by
  have hlen := hv.len_
  have hend : goZ 65535 (ys.take len) = sumZ ys := by rw [List.take_of_length_le (by omega)]; rfl
  have hst : ∀ j, j < len → nextZ (goZ 65535 (ys.take j)) (ys.getD j 0) = goZ 65535 (ys.take (j + 1)) := fun j hj => goZ_take _ _ _ (by omega)
  have hz : ∀ j, goZ 65535 (ys.take j) < 65536 := fun j => goZ_lt _ _ (by decide)
  have h0 : goZ 65535 (ys.take 0) = 65535 := rfl
  obtain ⟨f, hf⟩ : ∃ f : Nat → Nat, f = fun j => goZ 65535 (ys.take j) := ⟨_, rfl⟩
  have hend' : f len = sumZ ys := by rw [hf]; exact hend
  have hst' : ∀ j, j < len → nextZ (f j) (ys.getD j 0) = f (j + 1) := by rw [hf]; exact hst
  have hz' : ∀ j, f j < 65536 := by rw [hf]; exact hz
  have h0' : f 0 = 65535 := by rw [hf]; exact h0
  have hend2 := Lib.hid hend'
  clear hend hst hz h0 hf hend'
  go_enter Try.func48, Try.ntmps48
  go_wp2
  go_loop [3, 4] (fun a i => ∃ j : Nat, j ≤ len ∧ i = .int .i64 (j : Nat) ∧ a = .int .u16 (f j : Nat)) (fun _ i => len - (intOf i).toNat)
  case atStart => exact ⟨0, by omega, rfl, by rw [h0']; rfl⟩
  case round =>
    obtain ⟨j, hj, rfl, rfl⟩ := hrel
    by_cases h9 : j < len
    · obtain ⟨x, rfl, hx⟩ := hv.cells (by omega)
      have hc := hx j h9
      have hs := refnext_any (f j) (ys.getD j 0) w (hz' j) (hb.at_ j)
      rw [hst' j h9] at hs
      have hy := hb.at_ j
      clear hst' hz' h0' hx hv
      generalize ys.getD j 0 = y at *
      go_wp2_with (go_at_call 52; ((with_reducible refine hs.mono ?_); rintro e w' ⟨rfl, rfl⟩))
      go_round
      case rel => exact ⟨j + 1, by omega, by go_num, rfl⟩
      case measure => simp [intOf]; omega
    · obtain rfl : j = len := by omega
      clear hst' hz' h0'
      go_wp2
      go_ret
      exact ⟨by rw [← hend2.out]; rfl, rfl⟩
end Go.Proofs.Ytfimgkomfnfjkaa.Crc
end
section
/- The reference's Seal: new bytes, the row's and its check behind them. -/
set_option linter.unusedSimpArgs false
set_option linter.unusedVariables false
namespace Go.Proofs.Ytfimgkomfnfjkaa.Crc
open Go.RowKit RU8

theorem refseal_any (A : Option Addr) (n c : Nat) (ys : List Nat) (w : World) (hv : Vals w A n ys) (hb : Bytes ys) (hn : n ≤ 100000) :
    Calls Try.prog 44 #[.slice A n c] w (Sealed w n ys) := by
  have hInfo : (Try.prog.info? 5).map (fun i => (i.zero, i.size, i.bytes)) = some (some (.int .u8 0), 1, 1) := by kernel_rfl
  have HInfo := Lib.hid hInfo
  clear hInfo
  have hs := refsum_any A n c ys w hv hb (by omega)
  have hlt := sumZ_lt ys
  have hz : checkZ ys = [sumZ ys % 256, sumZ ys / 256] := rfl
  have hsz : sealZ ys = ys ++ checkZ ys := rfl
  unfold Sealed
  rw [hsz]
  have hZ := Lib.hid hz
  clear hz hsz
  generalize sumZ ys = s at *
  have h1 : IntKind.u8.wrap ((s : Int) % 256) = ((s % 256 : Nat) : Int) := by rw [IntKind.wrap_u8]; omega
  have h1b : (s : Int) % 256 = ((s % 256 : Nat) : Int) := by omega
  have h2 : (s : Int) / 256 = ((s / 256 : Nat) : Int) := by omega
  have h3 : s / 256 < 256 := by omega
  have h4 : s % 256 < 256 := by omega
  generalize s % 256 = lo at *
  generalize s / 256 = hi at *
  have hBa := (Below.refl w.heap.size w).alloc (Nat.le_refl _) (.cells #[] 5)
  have hO0 := own_empty w 5
  have hV2 : ∀ W : World, Vals (W.alloc (.cells #[.int .u8 lo, .int .u8 hi] 5)) (some ⟨W.heap.size, 0, none⟩) 2 (checkZ ys) := fun W => by
    rw [hZ.out]
    exact Vals.has (ys := [lo, hi]) (tl := []) (Has.new W 5 _)
  go_enter Try.func44, Try.ntmps44
  go_wp2_with (first
    | (go_at_call 48; ((with_reducible refine hs.mono ?_); rintro e w' ⟨rfl, rfl⟩))
    | (at_builtin; refine wpList_append_vals rfl (.tmp 6) (.tmp 7) _ rfl w.heap.size 5 1 (by omega) Try.underlying25 HInfo.out (.slice (some ⟨w.heap.size, 0, none⟩) 0 0) 0 ([] : List Nat) rfl (by exact hO0) A n c ys rfl (by exact hv.alloc _) (by omega) (by simp) ?_; intro v1 W1 hO1 hg1 hat1; have hK1 := Kept.of_grown hg1; have hB1 := below_kept hBa hK1 hBa.size (own_in hO0); have hB1a := hB1.alloc hB1.size (.cells #[.int .u8 lo, .int .u8 hi] 5); have hO1a := own_kept hO1 ((Kept.refl [] W1).alloc (.cells #[.int .u8 lo, .int .u8 hi] 5)) (by simp))
    | (at_builtin; refine wpList_append_vals rfl (.tmp 8) (.tmp 15) _ rfl w.heap.size 5 1 (by omega) Try.underlying25 HInfo.out v1 (0 + n) ([] ++ ys) rfl (by exact hO1a) _ 2 2 (checkZ ys) rfl (by exact hV2 _) (by omega) (by exact hB1a.size) ?_; intro v2 W2 hO2 hg2 hat2; have hK2 := Kept.of_grown hg2; have hB2 := below_kept hB1a hK2 hB1a.size (own_in hO1a); rw [List.nil_append, Nat.zero_add] at hO2))
  go_ret
  exact ⟨_, rfl, hO2, hB2⟩
end Go.Proofs.Ytfimgkomfnfjkaa.Crc
end
section
/- crc's sum of a row, and its check. -/
set_option linter.unusedSimpArgs false
set_option linter.unusedVariables false
namespace Go.Proofs.Ytfimgkomfnfjkaa.Crc
open Go.RowKit RU8

theorem sum_any (A : Option Addr) (len c : Nat) (ys : List Nat) (w : World) (hv : Vals w A len ys) (hb : Bytes ys) (hl : len ≤ 9223372036854775807) :
    Calls Try.prog 50 #[.slice A len c] w fun e w' => e = .returned (.int .u16 (sumZ ys)) ∧ w = w' := by
  have hlen := hv.len_
  have hend : goZ 65535 (ys.take len) = sumZ ys := by rw [List.take_of_length_le (by omega)]; rfl
  have hst : ∀ j, j < len → nextZ (goZ 65535 (ys.take j)) (ys.getD j 0) = goZ 65535 (ys.take (j + 1)) := fun j hj => goZ_take _ _ _ (by omega)
  have hz : ∀ j, goZ 65535 (ys.take j) < 65536 := fun j => goZ_lt _ _ (by decide)
  have h0 : goZ 65535 (ys.take 0) = 65535 := rfl
  obtain ⟨f, hf⟩ : ∃ f : Nat → Nat, f = fun j => goZ 65535 (ys.take j) := ⟨_, rfl⟩
  have hend' : f len = sumZ ys := by rw [hf]; exact hend
  have hst' : ∀ j, j < len → nextZ (f j) (ys.getD j 0) = f (j + 1) := by rw [hf]; exact hst
  have hz' : ∀ j, f j < 65536 := by rw [hf]; exact hz
  have h0' : f 0 = 65535 := by rw [hf]; exact h0
  have hend2 := Lib.hid hend'
  clear hend hst hz h0 hf hend'
  go_enter Try.func50, Try.ntmps50
  go_wp2
  go_loop [3, 8] (fun a i => ∃ j : Nat, j ≤ len ∧ i = .int .i64 (j : Nat) ∧ a = .int .u16 (f j : Nat)) (fun _ i => len - (intOf i).toNat)
  case atStart => exact ⟨0, by omega, rfl, by rw [h0']; rfl⟩
  case round =>
    obtain ⟨j, hj, rfl, rfl⟩ := hrel
    by_cases h9 : j < len
    · obtain ⟨x, rfl, hx⟩ := hv.cells (by omega)
      have hc := hx j h9
      have hs := next_any (f j) (ys.getD j 0) w (hz' j) (hb.at_ j)
      rw [hst' j h9] at hs
      have hy := hb.at_ j
      clear hst' hz' h0' hx hv
      generalize ys.getD j 0 = y at *
      go_wp2_with (go_at_call 53; ((with_reducible refine hs.mono ?_); rintro e w' ⟨rfl, rfl⟩))
      go_round
      case rel => exact ⟨j + 1, by omega, by go_num, rfl⟩
      case measure => simp [intOf]; omega
    · obtain rfl : j = len := by omega
      clear hst' hz' h0'
      go_wp2
      go_ret
      exact ⟨by rw [← hend2.out]; rfl, rfl⟩
theorem check_any (A : Option Addr) (len c : Nat) (ys : List Nat) (w : World) (hv : Vals w A len ys) (hb : Bytes ys) (hl : len ≤ 9223372036854775807) :
    Calls Try.prog 46 #[.slice A len c] w fun e w' => e = .returned (.tuple #[.int .u8 (sumZ ys % 256 : Nat), .int .u8 (sumZ ys / 256 : Nat)]) ∧ w = w' := by
  have hs := sum_any A len c ys w hv hb hl
  have hlt := sumZ_lt ys
  generalize sumZ ys = s at *
  clear hv hb
  have h1 : IntKind.u8.wrap (s : Int) = ((s % 256 : Nat) : Int) := by rw [IntKind.wrap_u8]; omega
  have h2 : (s : Int) / 256 = ((s / 256 : Nat) : Int) := by omega
  have h3 : s / 256 < 256 := by omega
  have h4 : s % 256 < 256 := by omega
  generalize s % 256 = lo at *
  generalize s / 256 = hi at *
  go_enter Try.func46, Try.ntmps46
  go_wp2_with (go_at_call 50; ((with_reducible refine hs.mono ?_); rintro e w' ⟨rfl, rfl⟩))
  go_ret2
  exact ⟨rfl, rfl⟩
end Go.Proofs.Ytfimgkomfnfjkaa.Crc
end
section
/- How many bytes a frame has; the next frame's number. -/
set_option linter.unusedSimpArgs false
set_option linter.unusedVariables false
namespace Go.Proofs.Ytfimgkomfnfjkaa.Frm
open Go.RowKit
/-- How many bytes a frame of n samples has. -/
def sizeZ (n : Int) : Int := if n < 1 ∨ 32 < n then 0 else 6 + 3 * n
theorem size_any (n : Int) (h : -9223372036854775808 ≤ n ∧ n ≤ 9223372036854775807) (w : World) : Calls Try.prog 34 #[.int .i64 n] w fun e w' => e = .returned (.int .i64 (sizeZ n)) ∧ w = w' := by
  unfold sizeZ
  rcases (by omega : n < 1 ∨ (¬ n < 1 ∧ 32 < n) ∨ (¬ n < 1 ∧ ¬ 32 < n)) with h1 | h1 | h1
  · rw [if_pos (.inl h1)]
    go_enter Try.func34, Try.ntmps34
    go_wp2
    go_ret
    exact ⟨rfl, rfl⟩
  · rw [if_pos (.inr h1.2)]
    go_enter Try.func34, Try.ntmps34
    go_wp2
    go_ret
    exact ⟨rfl, rfl⟩
  · rw [if_neg (by omega)]
    have h2 : 4 + n * 3 + 2 = 6 + 3 * n := by omega
    have h3 := h1.1
    have h4 := h1.2
    go_enter Try.func34, Try.ntmps34
    go_wp2
    go_ret
    exact ⟨rfl, rfl⟩
theorem next_any (q : Nat) (h : q < 256) (w : World) : Calls Try.prog 38 #[.int .u8 q] w fun e w' => e = .returned (.int .u8 (((q + 1) % 256 : Nat) : Int)) ∧ w = w' := by
  have hw : IntKind.u8.wrap ((q : Int) + 1) = (((q + 1) % 256 : Nat) : Int) := by rw [IntKind.wrap_u8]; omega
  go_enter Try.func38, Try.ntmps38
  go_wp2
  go_ret
  exact ⟨by simp [hw], rfl⟩
end Go.Proofs.Ytfimgkomfnfjkaa.Frm
end
section
/- A ring of uint8: putting things behind the others. -/
set_option linter.unusedSimpArgs false
set_option linter.unusedVariables false
namespace Go.Proofs.Ytfimgkomfnfjkaa.RU8
open Go.RowKit

def Putting (w : World) (b g n q f : Nat) (xs ys : List Nat) (m : Nat) (i : Value) (wr : World) : Prop :=
  ∃ k, k ≤ m ∧ i = .int .i64 (k : Nat) ∧ Turned b g w wr ∧ ∃ cs, Core wr b g n q f xs.length cs ∧ ∀ i, i < xs.length + k → cs.getD ((f + i) % n) 0 = (xs ++ ys).getD i 0
set_option maxHeartbeats 1000000 in
theorem put_any (b g n q f : Nat) (cs xs : List Nat) (a : Option Addr) (len cap : Nat) (ys : List Nat) (w : World) (h : Ring w b g n q f cs xs) (hv : Vals w a len ys) (hl : len ≤ cap) (hcap : cap ≤ 9223372036854775807) (hfar : 0 < len → ∀ x, a = some x → x.block ≠ b ∧ x.block ≠ g) :
    Calls Try.prog 25 #[.pointer (some ⟨b, 0, none⟩), .slice a len cap] w fun e w' => e = .returned (.int .i64 (min len (n - xs.length) : Nat)) ∧ Became w b g n q f (xs ++ ys.take (n - xs.length)) w' := by
  have hn := h.core.le
  have hq := h.core.cap
  have hr := h.core.room
  have hT := Turned.refl b g w
  have hy := hv.len_
  obtain ⟨r, hrr⟩ : ∃ r, n - xs.length = r := ⟨_, rfl⟩
  have hroom := fun W (hW : Ring W b g n q f cs xs) => room_nat b g n q f cs xs r W hW hrr
  obtain ⟨m, hm⟩ : ∃ m, min len r = m := ⟨_, rfl⟩
  have HM := Lib.hid (show ((min len (n - xs.length) : Nat) : Int) = (m : Int) by omega)
  have HT := Lib.hid (show xs ++ ys.take (n - xs.length) = xs ++ ys.take m by
    rw [← hm, hrr]
    rcases Nat.le_total len r with h1 | h1
    · rw [Nat.min_eq_left h1, List.take_of_length_le (by omega), List.take_of_length_le (by omega)]
    · rw [Nat.min_eq_right h1])
  rw [HM.out]
  rw [HT.out]
  have hmy : m ≤ ys.length := by omega
  have hmr : xs.length + m ≤ n := by omega
  have HL := Lib.hid (show (xs ++ ys.take m).length = xs.length + m by rw [List.length_append, List.length_take]; omega)
  have two : (m < len ∧ m = r) ∨ (m ≤ r ∧ m = len) := by omega
  rcases two with ⟨hle, rfl⟩ | ⟨hle, rfl⟩
  all_goals
    have HR := Lib.hid hrr
    clear hm hrr hy
    go_enter Try.func25, Try.ntmps25
    go_wp2_with (go_at_call 40; refine (hroom _ (by exact h.same rfl)).mono ?_; rintro e W2 ⟨rfl, kk, rfl⟩)
    have hD := h.core.same (w' := w.drewN kk) rfl
    have hT2 := hT.drewN kk
    generalize hwk : w.drewN kk = w2 at *
    go_loopw [19] (fun i wr => Putting w b g n q f xs ys m i wr) (fun i _ => m - (intOf i).toNat)
    case atStart => exact ⟨0, by omega, rfl, hT2, cs, hD, fun i hi => by rw [h.at_ i (by omega), getD_left _ _ _ _ (by omega)]⟩
    case round =>
      clear hT2 hD hwk
      obtain ⟨k, hk, rfl, hTr, cs', hC, hat⟩ := hrel
      obtain ⟨c0, c1, c2⟩ := hC.cells
      obtain ⟨z1, z2⟩ := hC.froz
      have hf := hC.first
      by_cases hlt : k < m
      · have hj : (f + (xs.length + k)) % n < n := Nat.mod_lt _ (by omega)
        obtain ⟨x, rfl, hcx⟩ := (hv.turned hTr hfar).cells (by omega)
        have hthing := hcx k (by omega)
        have hcell := hC.slot_ _ hj
        have hfz := hC.slotz ((f + (xs.length + k)) % n)
        have hs := fun W (hW : Core W b g n q f xs.length cs') => slot_any b g n q f _ cs' (xs.length + k) W hW (by omega)
        rw [Int.natCast_add] at hs
        have hat' : ∀ i, i < xs.length + (k + 1) → (cs'.set ((f + (xs.length + k)) % n) (ys.getD k 0)).getD ((f + i) % n) 0 = (xs ++ ys).getD i 0 := fun i h1 => by
          rw [getD_set _ _ _ _ _ (by rw [hC.size]; exact hj)]
          by_cases he : i = xs.length + k
          · subst he
            rw [if_pos rfl, getD_right]
          · rw [if_neg (rot_ne (by omega) (by omega) (by omega))]
            exact hat i (by omega)
        have HAT := Lib.hid hat'
        clear hat hat' hcx
        generalize (f + (xs.length + k)) % n = p at *
        generalize cs'.getD p 0 = old at *
        generalize ys.getD k 0 = new at *
        have hwr : IntKind.i64.wrap ((xs.length : Int) + (k : Int)) = (xs.length : Int) + (k : Int) := IntWalk.i64_in _ (by omega)
        go_wp2
        go_region_with (go_at_call 29; ((with_reducible refine (hs _ (by exact hC.same rfl)).mono ?_); rintro e W2 ⟨rfl, kk, rfl⟩))
        clear hwr
        all_goals
          go_wp2
          go_roundw
          case rel => exact ⟨k + 1, by omega, by go_num, (hTr.setCell (p := ⟨g, p, none⟩) (.inr (.inl rfl)) (.int .u8 new)).like rfl rfl rfl rfl, _, (hC.put p hj new).same rfl, HAT.out⟩
          case measure => simp [intOf]; omega
      · have hk' : k = m := by omega
        subst hk'
        have hat' : ∀ i, i < (xs ++ ys.take k).length → cs'.getD ((f + i) % n) 0 = (xs ++ ys.take k).getD i 0 := fun i hi => by
          rw [HL.out] at hi
          rw [hat i hi, getD_take _ _ _ _ _ hi]
        have HAT := Lib.hid hat'
        clear hat hat'
        have hC2 : Core (wr.setCell ⟨b, 2, none⟩ (.int .i64 ((xs.length : Int) + (k : Int)))) b g n q f (xs ++ ys.take k).length cs' := by
          have h9 := hC.count_ (xs.length + k) (by omega)
          rw [Int.natCast_add] at h9
          rw [HL.out]
          exact h9
        have HC2 := Lib.hid hC2
        clear hC2
        go_wp2
        go_ret
        exact ⟨rfl, cs', ⟨HC2.out.same rfl, HAT.out⟩, (hTr.setCell (p := ⟨b, 2, none⟩) (.inl rfl) _).like rfl rfl rfl rfl⟩
end Go.Proofs.Ytfimgkomfnfjkaa.RU8
end
section
/- crc's Sealed. -/
set_option linter.unusedSimpArgs false
set_option linter.unusedVariables false
namespace Go.Proofs.Ytfimgkomfnfjkaa.Crc
open Go.RowKit RU8

theorem sealed_any (A : Option Addr) (len c : Nat) (ys : List Nat) (w : World) (hv : Vals w A len ys) (hb : Bytes ys) (hl : len ≤ 100000) (hc : len ≤ c) (hc2 : c ≤ 9223372036854775807) :
    Calls Try.prog 36 #[.slice A len c] w fun e w' => e = .returned (.bool (sealedB ys)) ∧ w = w' := by
  have hlen := hv.len_
  rcases Nat.lt_or_ge len 2 with h2 | h2
  · rw [sealed_few ys (by omega)]
    go_enter Try.func36, Try.ntmps36
    go_wp2
    go_ret
    exact ⟨rfl, rfl⟩
  · obtain ⟨n, hn⟩ : ∃ n, len = n + 2 := ⟨len - 2, by omega⟩
    rw [sealed_two ys n (by omega)]
    have hck := check_any A n c (ys.take n) w (hv.take n (by omega)) (hb.take n) (by omega)
    obtain ⟨x, rfl, hx⟩ := hv.cells (by omega)
    have hc0 := hx n (by omega)
    have hc1 := hx (n + 1) (by omega)
    have hnz : (len : Int) - 2 = (n : Int) := by omega
    obtain ⟨n1, hn1⟩ : ∃ n1, n + 1 = n1 := ⟨_, rfl⟩
    rw [hn1] at hc1 ⊢
    have hnz2 : (n : Int) + 1 = (n1 : Int) := by omega
    have hn2 : n1 < len := by omega
    have hn3 : n < len := by omega
    clear hn1
    clear hx hv hb hlen
    generalize sumZ (ys.take n) % 256 = lo at *
    generalize sumZ (ys.take n) / 256 = hi at *
    generalize ys.getD n 0 = y0 at *
    generalize ys.getD n1 0 = y1 at *
    clear hn
    go_enter Try.func36, Try.ntmps36
    go_wp2_with (go_at_call 46; ((with_reducible refine hck.mono ?_); rintro e w' ⟨rfl, rfl⟩))
    · have e : y0 = lo := by omega
      go_ret
      exact ⟨ret_bool (by rw [cast_beq, decide_eq_true e, Bool.true_and]), rfl⟩
    · have e : ¬ y0 = lo := by omega
      go_ret
      exact ⟨ret_bool (by rw [decide_eq_false e, Bool.false_and]), rfl⟩
end Go.Proofs.Ytfimgkomfnfjkaa.Crc
end
section
/- Looking at a frame's bytes, reckoned. Nothing here speaks of a program. -/
set_option linter.unusedSimpArgs false
set_option linter.unusedVariables false
namespace Go.Proofs.Ytfimgkomfnfjkaa.Frm
open Go.RowKit RU8

def sizeT (b : List Nat) : Nat := 6 + 3 * b.getD 3 0
/-- What is wrong at byte i (0: nothing). -/
def errAt (b : List Nat) (i : Nat) : Int :=
  if 4 ≤ i ∧ sizeT b ≤ i then 0
  else if b.length ≤ i then 6
  else if (i = 0 ∧ b.getD 0 0 ≠ 165) ∨ (i = 1 ∧ b.getD 1 0 ≠ 90) then 60
  else if i = 3 ∧ (b.getD 3 0 < 1 ∨ 32 < b.getD 3 0) then 61
  else if i < 4 then 0
  else if i + 2 < sizeT b ∧ i % 3 = 1 ∧ 1 < b.getD i 0 then 62
  else if i + 1 = sizeT b ∧ Crc.sealedB ((b.take (sizeT b)).drop 2) = false then 63
  else 0
/-- What is wrong first among the first k bytes. -/
def firstErr (b : List Nat) : Nat → Int
  | 0 => 0
  | k + 1 => if firstErr b k ≠ 0 then firstErr b k else errAt b k
def lookE (b : List Nat) : Int := firstErr b 102
theorem firstErr_stay {b : List Nat} {k : Nat} (h : firstErr b k ≠ 0) (j : Nat) (hj : k ≤ j) : firstErr b j = firstErr b k := by
  induction j with
  | zero => obtain rfl : k = 0 := by omega
            rfl
  | succ j ih =>
    rcases (by omega : k = j + 1 ∨ k ≤ j) with rfl | h1
    · rfl
    · have := ih h1
      rw [firstErr, if_pos (by rw [this]; exact h), this]
theorem lookE_bad {b : List Nat} {i : Nat} (h0 : firstErr b i = 0) (hi : i < 102) (h : errAt b i ≠ 0) : lookE b = errAt b i := by
  have h1 : firstErr b (i + 1) = errAt b i := by rw [firstErr, if_neg (by rw [h0]; simp)]
  have h2 : firstErr b (i + 1) ≠ 0 := by rw [h1]; exact h
  unfold lookE
  rw [firstErr_stay h2 102 (by omega), h1]
theorem firstErr_step {b : List Nat} {i : Nat} (h0 : firstErr b i = 0) (h : errAt b i = 0) : firstErr b (i + 1) = 0 := by rw [firstErr, if_neg (by rw [h0]; simp), h]
theorem lookE_ok {b : List Nat} {i : Nat} (h0 : firstErr b i = 0) (hi : 4 ≤ i) (hs : sizeT b ≤ i) : lookE b = 0 := by
  have key : ∀ k, firstErr b (i + k) = 0 := fun k => by
    induction k with
    | zero => exact h0
    | succ k ih =>
      have e : errAt b (i + k) = 0 := by unfold errAt; rw [if_pos (by omega)]
      exact firstErr_step ih e
  by_cases hk : i ≤ 102
  · have := key (102 - i)
    rwa [show i + (102 - i) = 102 by omega] at this
  · unfold lookE
    have : ∀ j, j ≤ i → firstErr b j = 0 := fun j hj => by
      by_cases h1 : firstErr b j = 0
      · exact h1
      · have := firstErr_stay h1 i hj
        rw [h0] at this
        exact this.symm
    exact this 102 (by omega)
/-- How many samples have stood so far: at byte 4 and behind it the size is settled. -/
theorem size_bound {b : List Nat} {i : Nat} (h0 : firstErr b i = 0) (hi : 4 ≤ i) : 9 ≤ sizeT b ∧ sizeT b ≤ 102 := by
  have h1 : firstErr b 4 = 0 := by
    by_cases h1 : firstErr b 4 = 0
    · exact h1
    · have := firstErr_stay h1 i hi
      rw [h0] at this
      exact this.symm
  have h3 : firstErr b 3 = 0 := by
    by_cases h2 : firstErr b 3 = 0
    · exact h2
    · have := firstErr_stay h2 4 (by omega)
      rw [h1] at this
      exact this.symm
  have h4 : errAt b 3 = 0 := by
    rw [firstErr, if_neg (by rw [h3]; simp)] at h1
    exact h1
  unfold errAt at h4
  rw [if_neg (by omega)] at h4
  split at h4
  · cases h4
  · rw [if_neg (by omega)] at h4
    split at h4
    · cases h4
    · unfold sizeT
      omega
def valT2 (lo hi : Nat) : Int := if 32767 < lo + 256 * hi then (lo : Int) + 256 * hi - 65536 else (lo : Int) + 256 * hi
def sampAt (b : List Nat) (k : Nat) : Samp := (valT2 (b.getD (5 + 3 * k) 0) (b.getD (6 + 3 * k) 0), decide (b.getD (4 + 3 * k) 0 = 1))
def unsampsT (b : List Nat) (n : Nat) : List Samp := (List.range n).map (sampAt b)
theorem unsampsT_step (b : List Nat) (n : Nat) : unsampsT b (n + 1) = unsampsT b n ++ [sampAt b n] := by unfold unsampsT; rw [List.range_succ, List.map_append]; rfl
theorem unsampsT_length (b : List Nat) (n : Nat) : (unsampsT b n).length = n := by simp [unsampsT]
/-- The frame with which bytes begin, if they do. -/
def lookSeq (b : List Nat) : Nat := if lookE b = 0 then b.getD 2 0 else 0
def lookL (b : List Nat) : List Samp := if lookE b = 0 then unsampsT b (b.getD 3 0) else []
def lookN (b : List Nat) : Nat := if lookE b = 0 then sizeT b else 0
theorem look_bad {b : List Nat} (h : lookE b ≠ 0) : lookSeq b = 0 ∧ lookL b = [] ∧ lookN b = 0 := by unfold lookSeq lookL lookN; rw [if_neg h, if_neg h, if_neg h]; exact ⟨rfl, rfl, rfl⟩
theorem look_ok {b : List Nat} (h : lookE b = 0) : lookSeq b = b.getD 2 0 ∧ lookL b = unsampsT b (b.getD 3 0) ∧ lookN b = sizeT b := by unfold lookSeq lookL lookN; rw [if_pos h, if_pos h, if_pos h]; exact ⟨rfl, rfl, rfl⟩
/-- What the loop knows ahead of byte j. -/
def Sound (b : List Nat) (j : Nat) : Prop := firstErr b j = 0 ∧ (4 ≤ j → j < sizeT b)
theorem sound_next {b : List Nat} {j : Nat} (h : Sound b j) (he : errAt b j = 0) (hs : 4 ≤ j + 1 → j + 1 < sizeT b) : Sound b (j + 1) := ⟨firstErr_step h.1 he, hs⟩
theorem sound_bad {b : List Nat} {j : Nat} (h : Sound b j) (hj : j < 102) {E : Int} (he : errAt b j = E) (hE : E ≠ 0) : lookE b = E ∧ lookSeq b = 0 ∧ lookL b = [] ∧ lookN b = 0 := by
  have h1 := lookE_bad h.1 hj (by rw [he]; exact hE)
  exact ⟨h1.trans he, look_bad (by rw [h1, he]; exact hE)⟩
theorem err_short {b : List Nat} {j : Nat} (h : Sound b j) (hj : b.length ≤ j) : errAt b j = 6 := by
  unfold errAt
  rw [if_neg (fun h1 => by have := h.2 h1.1; omega), if_pos hj]
theorem err_at0 {b : List Nat} (h : 0 < b.length) : errAt b 0 = if b.getD 0 0 ≠ 165 then 60 else 0 := by
  unfold errAt
  rw [if_neg (by omega), if_neg (by omega)]
  by_cases h1 : b.getD 0 0 = 165
  · rw [if_neg (by rintro (⟨_, h2⟩ | ⟨h2, _⟩); exact h2 h1; omega), if_neg (by omega), if_pos (by omega), if_neg (by simpa using h1)]
  · rw [if_pos (.inl ⟨rfl, h1⟩), if_pos h1]
theorem err_at1 {b : List Nat} (h : 1 < b.length) : errAt b 1 = if b.getD 1 0 ≠ 90 then 60 else 0 := by
  unfold errAt
  rw [if_neg (by omega), if_neg (by omega)]
  by_cases h1 : b.getD 1 0 = 90
  · rw [if_neg (by rintro (⟨h2, _⟩ | ⟨_, h2⟩); omega; exact h2 h1), if_neg (by omega), if_pos (by omega), if_neg (by simpa using h1)]
  · rw [if_pos (.inr ⟨rfl, h1⟩), if_pos h1]
theorem err_at2 {b : List Nat} (h : 2 < b.length) : errAt b 2 = 0 := by
  unfold errAt
  rw [if_neg (by omega), if_neg (by omega), if_neg (by omega), if_neg (by omega), if_pos (by omega)]
theorem err_at3 {b : List Nat} (h : 3 < b.length) : errAt b 3 = if b.getD 3 0 < 1 ∨ 32 < b.getD 3 0 then 61 else 0 := by
  unfold errAt
  rw [if_neg (by omega), if_neg (by omega), if_neg (by omega)]
  by_cases h1 : b.getD 3 0 < 1 ∨ 32 < b.getD 3 0
  · rw [if_pos ⟨rfl, h1⟩, if_pos h1]
  · rw [if_neg (fun h2 => h1 h2.2), if_pos (by omega), if_neg h1]
theorem err_at4 {b : List Nat} {j : Nat} (h : Sound b j) (hj : 4 ≤ j) (hl : j < b.length) : errAt b j = if j + 2 < sizeT b ∧ j % 3 = 1 ∧ 1 < b.getD j 0 then 62 else if j + 1 = sizeT b ∧ Crc.sealedB ((b.take (sizeT b)).drop 2) = false then 63 else 0 := by
  unfold errAt
  rw [if_neg (fun h1 => by have := h.2 hj; omega), if_neg (by omega), if_neg (by omega), if_neg (by omega), if_neg (by omega)]
end Go.Proofs.Ytfimgkomfnfjkaa.Frm
end
section
/- What crc's and the references' Sealed answer. -/
set_option linter.unusedSimpArgs false
set_option linter.unusedVariables false
namespace Go.Proofs.Ytfimgkomfnfjkaa.Crc
open Go.RowKit RU8

theorem refsealed_any (A : Option Addr) (len c : Nat) (ys : List Nat) (w : World) (hv : Vals w A len ys) (hb : Bytes ys) (hl : len ≤ 100000) (hc : len ≤ c) (hc2 : c ≤ 9223372036854775807) :
    Calls Try.prog 51 #[.slice A len c] w fun e w' => e = .returned (.bool (sealedB ys)) ∧ Below w.heap.size w w' := by
  have hlen := hv.len_
  rcases Nat.lt_or_ge len 2 with h2 | h2
  · have hd : decide (2 ≤ (len : Int)) = false := decide_eq_false (by omega)
    rw [sealed_few ys (by omega)]
    go_enter Try.func51, Try.ntmps51
    go_wp2
    go_quiet (fail)
    go_wp2
    go_ret
    exact ⟨rfl, below_drewN (Below.refl _ _) _⟩
  · obtain ⟨n, hn⟩ : ∃ n, len = n + 2 := ⟨len - 2, by omega⟩
    have hd : decide (2 ≤ (len : Int)) = true := decide_eq_true (by omega)
    obtain ⟨x, rfl, _⟩ := hv.cells (by omega)
    have hseal : Calls Try.prog 44 #[.slice (some x) n c] w.drew (Sealed w.drew n (ys.take n)) := refseal_any _ n c (ys.take n) w.drew (Vals.same (hv.take n (by omega)) rfl) (hb.take n) (by omega)
    have hnz : (len : Int) - 2 = (n : Int) := by omega
    have hwz : IntKind.i64.wrap ((len : Int) - 2) = (n : Int) := by rw [hnz]; exact IntWalk.i64_in _ (by omega)
    have hwn : IntKind.i64.wrap (n : Int) = (n : Int) := IntWalk.i64_in _ (by omega)
    have hnl : n ≤ c := by omega
    have hnl2 : (n : Int) ≤ (c : Int) := by omega
    have hnl0 : (0 : Int) ≤ (n : Int) := by omega
    have hcv : ∀ {W : World} {B : Option Addr} {k : Nat} {zs : List Nat}, Vals W B k zs → ∀ d, (convert 25 9 (.slice B k d)).run Try.prog W = .ok (.string (strOf zs)) W := fun h d => conv_vals _ 5 _ Try.underlying25 Try.underlying5 Try.underlying9 h d
    have hvd : Vals w.drew (some x) len ys := Vals.same hv rfl
    have hcv0 := hcv hvd c
    have hB0 : Below w.heap.size w w.drew := below_drewN (Below.refl _ _) 1
    have HCV := @Lib.hid _ (@hcv)
    have hlast : sealedB ys = ((strOf (sealZ (ys.take n))).toList == (strOf ys).toList) := by
      rw [strOf_beq (seal_bytes (hb.take n)) hb]
      unfold sealedB
      rw [decide_eq_true (by omega : 2 ≤ ys.length), Bool.true_and, show ys.length - 2 = n by omega]
    rw [hlast]
    clear hcv hlast hb hn hlen
    go_enter Try.func51, Try.ntmps51
    go_wp2
    refine Reg.begin_ (S := fun W => (convert 25 9 (.slice (some x) len c)).run Try.prog W = .ok (.string (strOf ys)) W) (by kernel_rfl) hcv0 (fun hHeld => ?_)
    refine Reg.take (i := 0) (v := ?v1) rfl (by kernel_rfl) (by kernel_rfl) (by kernel_rfl) (by rfl) ?hv1 (by assumption) ?rest1
    case hv1 => first | (intro w hSw; (try dsimp only at hSw); go_simp; done) | (intro w hSw; (try dsimp only at hSw); go_simp; with_reducible rfl)
    (try simp only [Act.put, List.setIfInBounds_toArray, List.set_cons_zero, List.set_cons_succ])
    refine Reg.take (i := 1) (v := ?v2) rfl (by kernel_rfl) (by kernel_rfl) (by kernel_rfl) (by rfl) ?hv2 (by assumption) ?rest2
    case hv2 => first | (intro w hSw; (try dsimp only at hSw); go_simp; done) | (intro w hSw; (try dsimp only at hSw); go_simp; with_reducible rfl)
    (try simp only [Act.put, List.setIfInBounds_toArray, List.set_cons_zero, List.set_cons_succ])
    refine Reg.take (i := 2) (v := ?v3) rfl (by kernel_rfl) (by kernel_rfl) (by kernel_rfl) (by rfl) ?hv3 (by assumption) ?rest3
    case hv3 => first | (intro w hSw; (try dsimp only at hSw); go_simp; done) | (intro w hSw; (try dsimp only at hSw); go_simp; with_reducible rfl)
    (try simp only [Act.put, List.setIfInBounds_toArray, List.set_cons_zero, List.set_cons_succ])
    refine Reg.take (i := 3) (v := ?v4) rfl (by kernel_rfl) (by kernel_rfl) (by kernel_rfl) (by rfl) ?hv4 (by assumption) ?rest4
    case hv4 => first | (intro w hSw; (try dsimp only at hSw); go_simp; done) | (intro w hSw; (try dsimp only at hSw); go_simp; with_reducible rfl)
    (try simp only [Act.put, List.setIfInBounds_toArray, List.set_cons_zero, List.set_cons_succ])
    refine Reg.take (i := 4) (v := ?v5) rfl (by kernel_rfl) (by kernel_rfl) (by kernel_rfl) (by rfl) ?hv5 (by assumption) ?rest5
    case hv5 => first | (intro w hSw; (try dsimp only at hSw); go_simp; done) | (intro w hSw; (try dsimp only at hSw); go_simp; with_reducible rfl)
    (try simp only [Act.put, List.setIfInBounds_toArray, List.set_cons_zero, List.set_cons_succ])
    refine Reg.take (i := 5) (v := ?v6) rfl (by kernel_rfl) (by kernel_rfl) (by kernel_rfl) (by rfl) ?hv6 (by assumption) ?rest6
    case hv6 => first | (intro w hSw; (try dsimp only at hSw); go_simp; done) | (intro w hSw; (try dsimp only at hSw); go_simp; with_reducible rfl)
    (try simp only [Act.put, List.setIfInBounds_toArray, List.set_cons_zero, List.set_cons_succ])
    refine Reg.take (i := 6) (v := ?v7) rfl (by kernel_rfl) (by kernel_rfl) (by kernel_rfl) (by rfl) ?hv7 (by assumption) ?rest7
    case hv7 => first | (intro w hSw; (try dsimp only at hSw); go_simp; done) | (intro w hSw; (try dsimp only at hSw); go_simp; with_reducible rfl)
    (try simp only [Act.put, List.setIfInBounds_toArray, List.set_cons_zero, List.set_cons_succ])
    refine Reg.take (i := 7) (v := ?v8) rfl (by kernel_rfl) (by kernel_rfl) (by kernel_rfl) (by rfl) ?hv8 (by assumption) ?rest8
    case hv8 => first | (intro w hSw; (try dsimp only at hSw); go_simp; done) | (intro w hSw; (try dsimp only at hSw); go_simp; with_reducible rfl)
    (try simp only [Act.put, List.setIfInBounds_toArray, List.set_cons_zero, List.set_cons_succ])
    refine Reg.take (i := 8) (v := ?v9) rfl (by kernel_rfl) (by kernel_rfl) (by kernel_rfl) (by rfl) ?hv9 (by assumption) ?rest9
    case hv9 => first | (intro w hSw; (try dsimp only at hSw); go_simp; done) | (intro w hSw; (try dsimp only at hSw); go_simp; with_reducible rfl)
    (try simp only [Act.put, List.setIfInBounds_toArray, List.set_cons_zero, List.set_cons_succ])
    refine Reg.take (i := 11) (v := ?v10) rfl (by kernel_rfl) (by kernel_rfl) (by kernel_rfl) (by rfl) ?hv10 (by assumption) ?rest10
    case hv10 => first | (intro w hSw; (try dsimp only at hSw); go_simp; done) | (intro w hSw; (try dsimp only at hSw); go_simp; with_reducible rfl)
    (try simp only [Act.put, List.setIfInBounds_toArray, List.set_cons_zero, List.set_cons_succ])
    refine Reg.take (i := 12) (v := ?v11) rfl (by kernel_rfl) (by kernel_rfl) (by kernel_rfl) (by rfl) ?hv11 (by assumption) ?rest11
    case hv11 => first | (intro w hSw; (try dsimp only at hSw); go_simp; done) | (intro w hSw; (try dsimp only at hSw); go_simp; with_reducible rfl)
    (try simp only [Act.put, List.setIfInBounds_toArray, List.set_cons_zero, List.set_cons_succ])
    refine Reg.call (i := 9) rfl (by kernel_rfl) (by rfl) ?_
    intro K hK
    go_simp
    go_at_call 44
    (with_reducible refine hseal.mono ?_)
    rintro e W2 ⟨v, rfl, hO, hB⟩
    have hB2 := hB0.trans (hB.mono (by exact Nat.le_refl _))
    obtain ⟨A9, c9, rfl, e1, e2, hV9, e3⟩ := Vals.own hO
    have hc1 := HCV.out hV9 c9
    have hc2 := HCV.out (hvd.below hB) c
    refine hK.out _ _ hc2 (fun hHeld => ?_)
    clear hK K
    refine Reg.more (fun W => (convert 25 9 (.slice A9 (n + 2) c9)).run Try.prog W = .ok (.string (strOf (sealZ (ys.take n)))) W) hc1 hc2 (fun hHeld => ?_)
    (try simp only [Act.put, List.setIfInBounds_toArray, List.set_cons_zero, List.set_cons_succ])
    refine Reg.take (i := 10) (v := ?v12) rfl (by kernel_rfl) (by kernel_rfl) (by kernel_rfl) (by rfl) ?hv12 (by assumption) ?rest12
    case hv12 => first | (intro w hSw; (try dsimp only at hSw); go_simp; done) | (intro w hSw; (try dsimp only at hSw); go_simp; with_reducible rfl)
    (try simp only [Act.put, List.setIfInBounds_toArray, List.set_cons_zero, List.set_cons_succ])
    refine Reg.take (i := 13) (v := ?v13) rfl (by kernel_rfl) (by kernel_rfl) (by kernel_rfl) (by rfl) ?hv13 (by assumption) ?rest13
    case hv13 => first | (intro w hSw; (try dsimp only at hSw); go_simp; done) | (intro w hSw; (try dsimp only at hSw); go_simp; with_reducible rfl)
    (try simp only [Act.put, List.setIfInBounds_toArray, List.set_cons_zero, List.set_cons_succ])
    refine Reg.take (i := 14) (v := ?v14) rfl (by kernel_rfl) (by kernel_rfl) (by kernel_rfl) (by rfl) ?hv14 (by assumption) ?rest14
    case hv14 => first | (intro w hSw; (try dsimp only at hSw); go_simp; done) | (intro w hSw; (try dsimp only at hSw); go_simp; with_reducible rfl)
    (try simp only [Act.put, List.setIfInBounds_toArray, List.set_cons_zero, List.set_cons_succ])
    refine Reg.take (i := 15) (v := ?v15) rfl (by kernel_rfl) (by kernel_rfl) (by kernel_rfl) (by rfl) ?hv15 (by assumption) ?rest15
    case hv15 => first | (intro w hSw; (try dsimp only at hSw); go_simp; done) | (intro w hSw; (try dsimp only at hSw); go_simp; with_reducible rfl)
    (try simp only [Act.put, List.setIfInBounds_toArray, List.set_cons_zero, List.set_cons_succ])
    refine Reg.done (by kernel_rfl) ?_ _
    go_wp2
    go_ret
    exact ⟨rfl, hB2⟩
end Go.Proofs.Ytfimgkomfnfjkaa.Crc
end
