/- What levels come to, behind any tops; what follows of it (between, kept, above). Nothing here speaks of a program. -/
import Derived.Test.YthhjgdephhfdhaaFixqMath
set_option linter.unusedVariables false
namespace Go.Proofs.Ythhjgdephhfdhaa.Level
open Go.RowKit
/-- A number as it counts. -/
def nearB (n : Int) : Int := clampZ n 0 62914560
theorem nearB_bd (n : Int) : 0 ≤ nearB n ∧ nearB n ≤ 62914560 := by unfold nearB clampZ; split <;> (try split) <;> omega
theorem nearB_in (n : Int) (h : 0 ≤ n ∧ n ≤ 62914560) : nearB n = n := by unfold nearB clampZ; rw [if_neg (by omega), if_neg (by omega)]
theorem nearB_two (n : Int) : nearB (nearB n) = nearB n := nearB_in _ (nearB_bd n)
/-- To go by a k-th from a towards b. -/
def goes (a b k : Int) : Int := a + (b - a) / k
theorem goes_bd (a b k : Int) (hk : k = 8 ∨ k = 4) (ha : 0 ≤ a ∧ a ≤ 62914560) (hb : 0 ≤ b ∧ b ≤ 62914560) : 0 ≤ goes a b k ∧ goes a b k ≤ 62914560 := by
  unfold goes; rcases hk with rfl | rfl <;> omega
theorem goes_between (a b k : Int) (hk : k = 8 ∨ k = 4) : (a ≤ goes a b k ∨ b ≤ goes a b k) ∧ (goes a b k ≤ a ∨ goes a b k ≤ b) := by
  unfold goes; rcases hk with rfl | rfl <;> omega
abbrev Lv := Int × Int
/-- A level, as a value. -/
def lvV (l : Lv) : Value := .agg #[.int .i64 l.1, .int .i64 l.2]
/-- A level as it counts. -/
def nearL (l : Lv) : Lv := (nearB l.1, nearB l.2)
/-- Top by top by an 8th. -/
def followT (a : Int) (ts : List Int) : Int := ts.foldl (fun n t => goes n (nearB t) 8) a
theorem follow_step (a : Int) (ts : List Int) (j : Nat) (hj : j < ts.length) : followT a (ts.take (j + 1)) = goes (followT a (ts.take j)) (nearB (ts.getD j 0)) 8 := by
  unfold followT
  rw [List.take_succ_eq_append_getElem hj, List.foldl_append, List.getD_eq_getElem?_getD, List.getElem?_eq_getElem hj]
  rfl
theorem follow_bd (ts : List Int) : ∀ a, 0 ≤ a ∧ a ≤ 62914560 → 0 ≤ followT a ts ∧ followT a ts ≤ 62914560 := by
  induction ts with
  | nil => exact fun a h => h
  | cons t ts ih => exact fun a h => ih _ (goes_bd _ _ _ (.inl rfl) h (nearB_bd t))
theorem follow_none (a : Int) : followT a [] = a := rfl
theorem follow_one (a t : Int) : followT a [t] = goes a (nearB t) 8 := rfl
/-- The greatest top, of none 0. -/
def firstT (ts : List Int) : Int := ts.foldl (fun s t => if s < nearB t then nearB t else s) 0
theorem first_step (ts : List Int) (j : Nat) (hj : j < ts.length) : firstT (ts.take (j + 1)) = if firstT (ts.take j) < nearB (ts.getD j 0) then nearB (ts.getD j 0) else firstT (ts.take j) := by
  unfold firstT
  rw [List.take_succ_eq_append_getElem hj, List.foldl_append, List.getD_eq_getElem?_getD, List.getElem?_eq_getElem hj]
  rfl
theorem first_one (t : Int) (h : 0 ≤ t ∧ t ≤ 62914560) : firstT [t] = t := by
  unfold firstT
  simp only [List.foldl_cons, List.foldl_nil, nearB_in t h]
  split <;> omega
def signalT (l : Lv) (ts : List Int) : Lv := (followT (nearB l.1) ts, nearB l.2)
def noiseT (l : Lv) (ts : List Int) : Lv := (nearB l.1, followT (nearB l.2) ts)
def againT (l : Lv) (t : Int) : Lv := (goes (nearB l.1) (nearB t) 4, nearB l.2)
def upperT (l : Lv) : Int := if goes (nearB l.2) (nearB l.1) 4 < 256 then 256 else goes (nearB l.2) (nearB l.1) 4
def lowerT (l : Lv) : Int := upperT l / 2
theorem upper_bd (l : Lv) : 256 ≤ upperT l ∧ upperT l ≤ 62914560 := by
  have := goes_bd (nearB l.2) (nearB l.1) 4 (.inr rfl) (nearB_bd _) (nearB_bd _)
  unfold upperT; split <;> omega
/-- One top, k times. -/
def goN (a t : Int) : Nat → Int
  | 0 => a
  | k + 1 => goes (goN a t k) t 8
def dn : Nat → Int
  | 0 => 62914560
  | k + 1 => dn k * 7 / 8
def up : Nat → Int
  | 0 => 62914560
  | k + 1 => up k - up k / 8
theorem goN_dn (a t : Int) (h : t ≤ a) (h' : a ≤ t + 62914560) : ∀ k, t ≤ goN a t k ∧ goN a t k ≤ t + dn k
  | 0 => ⟨h, h'⟩
  | k + 1 => by
    have ih := goN_dn a t h h' k
    simp only [goN, dn, goes]
    omega
theorem goN_up (a t : Int) (h : a ≤ t) (h' : t ≤ a + 62914560) : ∀ k, goN a t k ≤ t ∧ t ≤ goN a t k + up k
  | 0 => ⟨h, h'⟩
  | k + 1 => by
    have ih := goN_up a t h h' k
    simp only [goN, up, goes]
    omega
theorem dn_250 : dn 250 = 0 := by decide +kernel
theorem up_250 : up 250 ≤ 7 := by decide +kernel
theorem goN_above (a t : Int) (h : t ≤ a) (h' : a ≤ t + 62914560) : goN a t 250 = t := by
  have := goN_dn a t h h' 250
  rw [dn_250] at this; omega
theorem goN_below (a t : Int) (h : a ≤ t) (h' : t ≤ a + 62914560) : goN a t 250 ≤ t ∧ t - 8 < goN a t 250 := by
  have := goN_up a t h h' 250
  have := up_250; omega
theorem goN_bd (a t : Int) (ha : 0 ≤ a ∧ a ≤ 62914560) (ht : 0 ≤ t ∧ t ≤ 62914560) : ∀ k, 0 ≤ goN a t k ∧ goN a t k ≤ 62914560
  | 0 => ha
  | k + 1 => goes_bd _ _ _ (.inl rfl) (goN_bd a t ha ht k) ht
/-- Of tops from base to twice base the signal stays there; each is above the upper threshold. -/
theorem above_step (base s top : Int) (hb : 257 ≤ base ∧ base ≤ 31457280) (hs : base ≤ s ∧ s ≤ 2 * base) (ht : base ≤ top ∧ top ≤ 2 * base) : upperT (s, 0) < base ∧ base ≤ goes s top 8 ∧ goes s top 8 ≤ 2 * base := by
  refine ⟨?_, ?_, ?_⟩
  · unfold upperT
    rw [nearB_in s (by omega), nearB_in 0 (by omega)]
    unfold goes
    split <;> omega
  all_goals unfold goes; omega
end Go.Proofs.Ythhjgdephhfdhaa.Level
