/- What the references of layer 1 answer (nearest numbers, floors, words of two halves); the chapter's examples hold. -/
import Derived.Test.YtmmmooanapodlaaFixqB
set_option linter.unusedSimpArgs false
set_option linter.unusedVariables false
namespace Go.Proofs.Ytmmmooanapodlaa
open Go.RowKit

theorem refnear_any (n : Int) (w : World) :
    Calls Try.prog 23 #[.int .i64 n] w fun e w' => e = .returned (.int .i32 (nearZ n)) ∧ w = w' := by
  have hb := near_bd n
  unfold nearZ clampZ at hb ⊢
  by_cases h1 : n < -2147483648 <;> by_cases h3 : 2147483647 < n
  all_goals first | omega | skip
  all_goals
    go_enter Try.func23, Try.ntmps23
    go_wp2
    go_ret
    exact ⟨by simp [*], rfl⟩

theorem tmod_of (n b : Int) : n.tdiv b * b = n - n.tmod b := by
  have h := Int.tmod_add_mul_tdiv n b
  have e : n.tdiv b * b = b * n.tdiv b := Int.mul_comm _ _
  omega
theorem tdiv_mul_in (n b : Int) (hn : fits64 n) : -9223372036854775808 ≤ n.tdiv b * b ∧ n.tdiv b * b ≤ 9223372036854775807 := by
  unfold fits64 at hn
  have h1 : (n.tdiv b * b).natAbs ≤ n.natAbs := by
    rw [Int.natAbs_mul, natAbs_tdiv']; exact Nat.div_mul_le_self _ _
  have h2 : n.tdiv b * b ≠ 9223372036854775808 := by
    intro h
    have h3 : n = -9223372036854775808 := by omega
    have h4 := tmod_of n b
    have h5 := Int.tmod_nonneg (a := -n) b (by omega)
    have h7 := Int.neg_tmod n b
    have h6 : (n.tmod b).natAbs ≤ n.natAbs := by rw [Int.natAbs_tmod]; exact Nat.mod_le _ _
    omega
  omega
theorem refdiv_zero (n : Int) (w : World) :
    Calls Try.prog 26 #[.int .i64 n, .int .i64 0] w fun e w' => e = .returned (.tuple #[.int .i64 0, .int .i64 1]) ∧ w = w' := by
  go_enter Try.func26, Try.ntmps26
  go_wp2
  go_ret2
  exact ⟨rfl, rfl⟩
theorem refdiv_over (w : World) :
    Calls Try.prog 26 #[.int .i64 (-9223372036854775808), .int .i64 (-1)] w fun e w' => e = .returned (.tuple #[.int .i64 0, .int .i64 9]) ∧ w = w' := by
  go_enter Try.func26, Try.ntmps26
  go_wp2
  go_ret2
  exact ⟨rfl, rfl⟩
theorem refdiv_yes (n b : Int) (w : World) (hn : fits64 n) (hb : b ≠ 0) (h : ¬ (n = -9223372036854775808 ∧ b = -1)) :
    Calls Try.prog 26 #[.int .i64 n, .int .i64 b] w fun e w' => e = .returned (.tuple #[.int .i64 (n.fdiv b), .int .i64 0]) ∧ w = w' := by
  have hq := tdiv_in n b hn hb h
  have hw : IntKind.i64.wrap (n.tdiv b) = n.tdiv b := IntWalk.i64_in _ hq
  have hp := tdiv_mul_in n b hn
  have hf0 := fdiv_of n b hb
  have hi := fdiv_in n b hn hb h
  have hm : ¬ ((n == -9223372036854775808) = true ∧ (b == -1) = true) := by simpa using h
  have hb0 : (b == 0) = false := by simpa using hb
  have ht : (n.tdiv b * b != n) = (n.tmod b != 0) := by
    rw [Bool.eq_iff_iff]; simp; have := tmod_of n b; omega
  clear hn h
  rcases hr : (n.tdiv b * b != n) <;> rcases h1 : decide (n < 0) <;> rcases h2 : decide (b < 0) <;> rcases h3 : (n == -9223372036854775808) <;> rcases h4 : (b == -1)
  all_goals simp only [h3, h4, and_self, not_true_eq_false] at hm
  all_goals
    clear hm
    rw [h1, h2] at hf0
    have hr' := ht.symm.trans hr
    clear ht
    simp only [bne_eq_false_iff_eq, bne_iff_ne] at hr'
    simp [hr'] at hf0
    have hf := Lib.hid hf0
    rw [hf0] at hi
    clear hf0 hr'
    go_enter Try.func26, Try.ntmps26
    go_wp2
    all_goals
      go_ret2
      refine ⟨?_, rfl⟩
      rw [hf.out]
      rfl

/-! ### Words of two halves -/
theorem of_any (n : Int) (w : World) (hn : fits64 n) :
    Calls Try.prog 16 #[.int .i64 n] w fun e w' => e = .returned (.agg #[.int .i64 (hiW n), .int .u64 (loW n)]) ∧ Below w.heap.size w w' := by
  by_cases h : n < 0
  all_goals
    go_enter Try.func16, Try.ntmps16
    go_wp2
    go_returns
    refine ⟨?_, (Below.refl _ _).alloc (Nat.le_refl _) _⟩
  · rw [← hi_of_neg n hn h, u64_wrap]; rfl
  · rw [← hi_of_pos n hn (by omega), u64_wrap]; rfl
theorem plus_any (A B : Int) (w : World) :
    Calls Try.prog 15 #[.agg #[.int .i64 (hiW A), .int .u64 (loW A)], .agg #[.int .i64 (hiW B), .int .u64 (loW B)]] w fun e w' => e = .returned (.agg #[.int .i64 (hiW (A + B)), .int .u64 (loW (A + B))]) ∧ Below w.heap.size w w' := by
  by_cases h : IntKind.u64.wrap (loW A + loW B) < loW A
  all_goals
    go_enter Try.func15, Try.ntmps15
    go_wp2
    go_returns
    refine ⟨?_, by go_grown⟩
  · rw [← hi_carry A B h, ← lo_plus A B]
  · rw [← hi_plain A B (by omega), ← lo_plus A B]
theorem plus_one (A : Int) (w : World) :
    Calls Try.prog 15 #[.agg #[.int .i64 (hiW A), .int .u64 (loW A)], .agg #[.int .i64 0, .int .u64 1]] w fun e w' => e = .returned (.agg #[.int .i64 (hiW (A + 1)), .int .u64 (loW (A + 1))]) ∧ Below w.heap.size w w' := by
  have h := plus_any A 1 w
  rw [show hiW 1 = 0 by unfold hiW wrap64; omega, show loW 1 = 1 by unfold loW; omega] at h
  exact h
theorem not64 (x : Nat) (h : x < 18446744073709551616) : 18446744073709551615 ^^^ x = 18446744073709551615 - x := by
  have h1 : (BitVec.allOnes 64 ^^^ BitVec.ofNat 64 x).toNat = (~~~ (BitVec.ofNat 64 x)).toNat := by rw [BitVec.allOnes_xor]
  rw [BitVec.toNat_xor, BitVec.toNat_not, BitVec.toNat_allOnes, BitVec.toNat_ofNat, Nat.mod_eq_of_lt h] at h1
  exact h1
theorem lo_not (A : Int) : bits .xor .u64 IntKind.u64.max (loW A) = loW (-1 - A) := by
  have hm : IntKind.u64.max = ((18446744073709551615 : Nat) : Int) := rfl
  have hb := lo_le A
  have hl : loW A = (((loW A).toNat : Nat) : Int) := by omega
  rw [← lo_minus, hm]
  rw [hl, bits_xor_u64_nat _ _ (by omega) (by omega), not64 _ (by omega)]
  omega
theorem neg_one (A : Int) : -1 - A + 1 = -A := by omega
theorem minus_any (A : Int) (w : World) :
    Calls Try.prog 17 #[.agg #[.int .i64 (hiW A), .int .u64 (loW A)]] w fun e w' => e = .returned (.agg #[.int .i64 (hiW (-A)), .int .u64 (loW (-A))]) ∧ Below w.heap.size w w' := by
  go_enter Try.func17, Try.ntmps17
  go_wp2_with (go_at_call 15; rw [hi_minus, lo_not]; refine (plus_one _ _).mono ?_; rintro e w1 ⟨rfl, hB⟩; rw [neg_one]; obtain ⟨hc, hf⟩ := bcell hB; have hz : w.heap.size + 1 < w1.heap.size := by (have := hB.size; simp at this; omega))
  refine bodyPost_ret (v := .agg #[.int .i64 (hiW (-A)), .int .u64 (loW (-A))]) (by simp [results, Try.results17, go_sem, hc, hf, hz]) rfl ⟨rfl, ?_⟩
  exact ((((((Below.refl _ _).alloc (Nat.le_refl _) _).alloc (by simp) _).trans (hB.mono (by simp; omega))).setCell (by simp) _).setCell (by simp) _)
theorem fits_yes (V : Int) (w : World) (h : fits64 V) :
    Calls Try.prog 14 #[.agg #[.int .i64 (hiW V), .int .u64 (loW V)]] w fun e w' => e = .returned (.tuple #[.int .i64 V, .bool true]) ∧ Below w.heap.size w w' := by
  have e1 : wrap64 (loW V) = V := by unfold fits64 at h; unfold wrap64 loW; omega
  have e3 := lo_le V
  have h' := h
  unfold fits64 at h'
  clear h
  by_cases h0 : V < 0
  · have e2 : hiW V = -1 := by unfold hiW wrap64; omega
    go_enter Try.func14, Try.ntmps14
    go_wp2
    go_ret2
    exact ⟨by simp [e1], by go_grown⟩
  · have e2 : hiW V = 0 := by unfold hiW wrap64; omega
    go_enter Try.func14, Try.ntmps14
    go_wp2
    go_ret2
    exact ⟨by simp [e1], by go_grown⟩
theorem fits_no (V : Int) (w : World) (h : ¬ fits64 V) (hw : wide V) :
    Calls Try.prog 14 #[.agg #[.int .i64 (hiW V), .int .u64 (loW V)]] w fun e w' => e = .returned (.tuple #[.int .i64 0, .bool false]) ∧ Below w.heap.size w w' := by
  have e3 := lo_le V
  have hc : ((hiW V == 0) = false ∧ (hiW V == -1) = false) ∨ (hiW V = 0 ∧ wrap64 (loW V) < 0) ∨ (hiW V = -1 ∧ ¬ wrap64 (loW V) < 0) := by
    unfold fits64 at h; unfold wide at hw
    rcases (by unfold hiW loW wrap64; omega : (¬ hiW V = 0 ∧ ¬ hiW V = -1) ∨ (hiW V = 0 ∧ wrap64 (loW V) < 0) ∨ (hiW V = -1 ∧ ¬ wrap64 (loW V) < 0)) with h1 | h1
    · exact .inl (by simpa using h1)
    · exact .inr h1
  clear h hw
  rcases hc with ⟨h1, h2⟩ | ⟨h1, h2⟩ | ⟨h1, h2⟩
  all_goals
    go_enter Try.func14, Try.ntmps14
    go_wp2
    go_ret2
    exact ⟨rfl, by go_grown⟩

/-! ### Floors by powers of two, step by step -/
def stepZ (n : Int) (j : Nat) : Int := n / 2 ^ j
theorem stepZ_in (n : Int) (j : Nat) (h : fits64 n) : fits64 (stepZ n j) := by
  unfold fits64 at h ⊢; unfold stepZ
  have hp : (1 : Int) ≤ 2 ^ j := by have := Int.pow_pos (n := 2) (m := j) (by omega); omega
  generalize (2 : Int) ^ j = c at *
  constructor
  · rw [Int.le_ediv_iff_mul_le (by omega)]
    have := Int.mul_le_mul_of_nonpos_left (a := -9223372036854775808) (b := c) (c := 1) (by omega) (by omega)
    omega
  · have : n / c < 9223372036854775808 := by
      rw [Int.ediv_lt_iff_lt_mul (by omega)]
      have := Int.mul_le_mul_of_nonneg_left (c := 9223372036854775808) (a := 1) (b := c) (by omega) (by omega)
      omega
    omega
theorem stepZ_next (n : Int) (j : Nat) : (stepZ n j).fdiv 2 = stepZ n (j + 1) := by
  unfold stepZ
  rw [Int.fdiv_eq_ediv_of_nonneg _ (by omega), Int.pow_succ, Int.ediv_ediv_of_nonneg (Int.le_of_lt (Int.pow_pos (by omega)))]
theorem refshift_any (n k : Int) (w : World) (hn : fits64 n) (hk : k ≤ 9223372036854775807) :
    Calls Try.prog 27 #[.int .i64 n, .int .i64 k] w fun e w' => e = .returned (.int .i64 (shiftZ n k)) ∧ w = w' := by
  go_enter Try.func27, Try.ntmps27
  go_wp2
  go_loop [0, 5] (fun a i => ∃ j : Nat, j ≤ min k.toNat 63 ∧ i = .int .i64 j ∧ a = .int .i64 (stepZ n j)) (fun _ i => 63 - (intOf i).toNat)
  case atStart => exact ⟨0, by omega, rfl, by simp [stepZ]⟩
  case round =>
    obtain ⟨j, hj, rfl, rfl⟩ := hrel
    have hs := stepZ_in n j hn
    by_cases h1 : (j : Int) < k
    · by_cases h2 : (j : Int) < 63
      · go_wp2_with (go_at_call 26; refine (refdiv_yes _ _ _ hs (by omega) (by omega)).mono ?_; rintro e w' ⟨rfl, rfl⟩)
        go_round
        case rel => exact ⟨j + 1, by omega, by go_num, by rw [stepZ_next]⟩
        case measure => simp [intOf]; omega
      · go_wp2
        go_ret
        exact ⟨ret_int (by unfold stepZ shiftZ; rw [show min k.toNat 63 = j by omega]), rfl⟩
    · go_wp2
      go_ret
      exact ⟨ret_int (by unfold stepZ shiftZ; rw [show min k.toNat 63 = j by omega]), rfl⟩

theorem live_ok (w : World) :
    Calls Try.prog 10 #[] w fun e w' => e = .returned (.bool true) ∧ Below w.heap.size w w' := by
  go_enter Try.func10, Try.ntmps10
  go_wp2_with (first
    | (go_at_call 25; refine (div_yes _ _ _ (by unfold fits64; omega) (by omega) (by omega)).mono ?_; rintro e w1 ⟨rfl, hB⟩)
    | (go_at_call 28; refine (shift_any _ _ _ (by omega)).mono ?_; rintro e w2 ⟨rfl, rfl⟩)
    | (go_at_call 30; refine (root_any _ _ (by omega) (by omega)).mono ?_; rintro e w3 ⟨hR, rfl⟩; obtain rfl := root_99 hR))
  go_ret
  exact ⟨rfl, by assumption⟩
end Go.Proofs.Ytmmmooanapodlaa
