/- Plain arithmetic beneath fixq: floors, ranges, words of two halves. Nothing here speaks of a program. -/
import Derived.WalkKit
import Derived.OpenShut
import Derived.Deep.Draws
set_option linter.unusedSimpArgs false
set_option linter.unusedVariables false
namespace Go.Proofs.Ytahoiaiknchehaa
open Go.RowKit

theorem ret_int {k : IntKind} {a b : Int} (h : a = b) : Ending.returned (.int k a) = .returned (.int k b) := by rw [h]
theorem ret_two {k l : IntKind} {a b c d : Int} (h : a = b) (h' : c = d) : Ending.returned (.tuple #[.int k a, .int l c]) = .returned (.tuple #[.int k b, .int l d]) := by rw [h, h']
theorem u64_wrap (n : Int) : IntKind.u64.wrap n = n % 18446744073709551616 := IntKind.wrap_u64 n

def clampZ (n lo hi : Int) : Int := if n < lo ∨ hi < lo then lo else if hi < n then hi else n
def nearZ (n : Int) : Int := clampZ n (-2147483648) 2147483647
theorem near_bd (n : Int) : -2147483648 ≤ nearZ n ∧ nearZ n ≤ 2147483647 := by
  unfold nearZ clampZ; split <;> (try split) <;> omega

theorem natAbs_tdiv' (n b : Int) : (n.tdiv b).natAbs = n.natAbs / b.natAbs := Int.natAbs_tdiv n b
theorem tdiv_le' (n b : Int) : (n.tdiv b).natAbs ≤ n.natAbs := by
  rw [natAbs_tdiv']; exact Nat.div_le_self _ _
theorem tdiv_in (n b : Int) (hn : -9223372036854775808 ≤ n ∧ n ≤ 9223372036854775807) (hb : b ≠ 0) (h : ¬ (n = -9223372036854775808 ∧ b = -1)) :
    -9223372036854775808 ≤ n.tdiv b ∧ n.tdiv b ≤ 9223372036854775807 := by
  have h1 := tdiv_le' n b
  have h2 : n.tdiv b ≠ 9223372036854775808 := by
    intro he
    have h3 : (n.tdiv b).natAbs = 9223372036854775808 := by rw [he]; rfl
    rw [natAbs_tdiv'] at h3
    have h4 : n.natAbs = 9223372036854775808 := by omega
    rw [h4] at h3
    have h5 : b.natAbs = 1 := by
      rcases Nat.lt_or_ge b.natAbs 2 with h6 | h6
      · omega
      · have := Nat.div_le_div_left (a := 9223372036854775808) h6 (by omega)
        rw [h3] at this
        exact absurd this (by decide)
    have h6 : n = -9223372036854775808 := by omega
    rcases (by omega : b = 1 ∨ b = -1) with h7 | h7
    · rw [h6, h7] at he
      revert he; decide
    · exact h ⟨h6, h7⟩
  omega

theorem fdiv_of (n b : Int) (hb : b ≠ 0) : n.fdiv b = if n.tmod b ≠ 0 ∧ (decide (n < 0) ≠ decide (b < 0)) then n.tdiv b - 1 else n.tdiv b := by
  rw [Int.fdiv_eq_tdiv]
  by_cases h0 : n.tmod b = 0
  · rw [if_pos (Int.dvd_iff_tmod_eq_zero.2 h0), if_neg (by simp [h0])]; omega
  · rw [if_neg (fun h => h0 (Int.dvd_iff_tmod_eq_zero.1 h))]
    rcases Int.lt_or_lt_of_ne hb with h2 | h2
    · have hs : b.sign = -1 := Int.sign_eq_neg_one_of_neg h2
      by_cases h1 : n < 0
      · rw [if_neg (by omega), if_neg (by omega), if_neg (by simp [h1, h2]), hs]; omega
      · rw [if_pos (by omega), if_neg (by omega), if_pos (by simp [h0, h1, h2])]
    · have hs : b.sign = 1 := Int.sign_eq_one_of_pos h2
      have h2' : ¬ b < 0 := by omega
      by_cases h1 : n < 0
      · rw [if_neg (by omega), if_pos (by omega), if_pos (by simp [h0, h1, h2']), hs]
      · rw [if_pos (by omega), if_pos (by omega), if_neg (by simp [h1, h2'])]; omega

theorem fdiv_in (n b : Int) (hn : -9223372036854775808 ≤ n ∧ n ≤ 9223372036854775807) (hb : b ≠ 0) (h : ¬ (n = -9223372036854775808 ∧ b = -1)) :
    -9223372036854775808 ≤ n.fdiv b ∧ n.fdiv b ≤ 9223372036854775807 := by
  have h1 := tdiv_in n b hn hb h
  rw [fdiv_of n b hb]
  split
  · rename_i hc
    have h2 : n.tdiv b ≠ -9223372036854775808 := by
      intro he
      have h3 : (n.tdiv b).natAbs = 9223372036854775808 := by rw [he]; rfl
      have h4 := tdiv_le' n b
      have h5 : n = -9223372036854775808 := by omega
      rw [natAbs_tdiv', h5] at h3
      have h6 : b.natAbs = 1 := by
        rcases Nat.lt_or_ge b.natAbs 2 with h6 | h6
        · omega
        · have := Nat.div_le_div_left (a := 9223372036854775808) h6 (by omega)
          have h7 : Int.natAbs (-9223372036854775808) = 9223372036854775808 := rfl
          rw [h7] at h3
          rw [h3] at this
          exact absurd this (by decide)
      apply hc.1
      rcases (by omega : b = 1 ∨ b = -1) with h7 | h7 <;> rw [h7] <;> simp [Int.tmod_one, Int.tmod_neg]
    omega
  · exact h1

theorem rest_pos (n b : Int) (hb : 0 < b) : 0 ≤ n - n.fdiv b * b ∧ n - n.fdiv b * b < b := by
  have h := Int.mul_fdiv_add_fmod n b
  have e : n.fdiv b * b = b * n.fdiv b := Int.mul_comm _ _
  have h1 := Int.fmod_nonneg_of_pos n hb
  have h2 := Int.fmod_lt_of_pos n hb
  omega
theorem rest_neg (n b : Int) (hb : b < 0) : n - n.fdiv b * b ≤ 0 ∧ b < n - n.fdiv b * b := by
  have h := Int.mul_fdiv_add_fmod n b
  have e : n.fdiv b * b = b * n.fdiv b := Int.mul_comm _ _
  have h0 := Int.neg_fmod_neg n b
  have h1 := Int.fmod_nonneg_of_pos (-n) (b := -b) (by omega)
  have h2 := Int.fmod_lt_of_pos (-n) (b := -b) (by omega)
  omega

theorem bcell {W w1 : World} (hb : Below W.heap.size W w1) : (∀ b o, b < W.heap.size → w1.cell? ⟨b, o, none⟩ = W.cell? ⟨b, o, none⟩) ∧ (∀ b o, b < W.heap.size → w1.frozen? ⟨b, o, none⟩ = W.frozen? ⟨b, o, none⟩) :=
  ⟨fun b o h => hb.cell (p := ⟨b, o, none⟩) h, fun b o h => hb.frozen (p := ⟨b, o, none⟩) h⟩
theorem chain {a b c : World} (h : Below a.heap.size a b) (k : Below b.heap.size b c) : Below a.heap.size a c := h.trans (k.mono h.size)
theorem below_drew0 {w : World} (n : Nat) : Below w.heap.size w (w.drewN n) := ⟨rfl, rfl, rfl, Nat.le_refl _, fun _ _ => rfl⟩

/-! ### Words of two halves -/
def hiW (V : Int) : Int := wrap64 (V / 18446744073709551616)
def loW (V : Int) : Int := V % 18446744073709551616
theorem hi_of_neg (n : Int) (hn : -9223372036854775808 ≤ n ∧ n ≤ 9223372036854775807) (h : n < 0) : -1 = hiW n := by unfold hiW wrap64; omega
theorem hi_of_pos (n : Int) (hn : -9223372036854775808 ≤ n ∧ n ≤ 9223372036854775807) (h : 0 ≤ n) : 0 = hiW n := by unfold hiW wrap64; omega
theorem hi_carry (A B : Int) (h : IntKind.u64.wrap (loW A + loW B) < loW A) : wrap64 (wrap64 (hiW A + hiW B) + 1) = hiW (A + B) := by
  rw [u64_wrap] at h; unfold loW at h; unfold hiW wrap64; omega
theorem hi_plain (A B : Int) (h : ¬ IntKind.u64.wrap (loW A + loW B) < loW A) : wrap64 (hiW A + hiW B) = hiW (A + B) := by
  rw [u64_wrap] at h; unfold loW at h; unfold hiW wrap64; omega
theorem lo_plus (A B : Int) : IntKind.u64.wrap (loW A + loW B) = loW (A + B) := by rw [u64_wrap]; unfold loW; omega
theorem lo_le (A : Int) : 0 ≤ loW A ∧ loW A ≤ 18446744073709551615 := by unfold loW; omega
theorem hi_minus (A : Int) : wrap64 (-1 - hiW A) = hiW (-1 - A) := by unfold hiW wrap64; omega
theorem lo_minus (A : Int) : 18446744073709551615 - loW A = loW (-1 - A) := by unfold loW; omega
def fits64 (V : Int) : Prop := -9223372036854775808 ≤ V ∧ V ≤ 9223372036854775807
instance (V : Int) : Decidable (fits64 V) := by unfold fits64; infer_instance
def wide (V : Int) : Prop := -170141183460469231731687303715884105728 ≤ V ∧ V ≤ 170141183460469231731687303715884105727
end Go.Proofs.Ytahoiaiknchehaa
