/- What fixq.Mul answers of the numbers of a slice. -/
import Derived.Test.YtpfoonhobeflhaaFixqSum
set_option linter.unusedSimpArgs false
set_option linter.unusedVariables false
namespace Go.Proofs.Ytpfoonhobeflhaa
open Go.RowKit

def prodZ (xs : List Int) : Int := xs.foldl (· * ·) 1
theorem foldl_mul (xs : List Int) : ∀ a : Int, xs.foldl (· * ·) a = a * prodZ xs := by
  unfold prodZ
  induction xs with
  | nil => intro a; simp
  | cons x r ih => intro a; simp only [List.foldl_cons]; rw [ih (a * x), ih (1 * x)]; rw [Int.one_mul, Int.mul_assoc]
theorem prod_cons (x : Int) (r : List Int) : prodZ (x :: r) = x * prodZ r := by
  show (x :: r).foldl (· * ·) 1 = _
  rw [List.foldl_cons, foldl_mul, Int.one_mul]
theorem prod_append (l r : List Int) : prodZ (l ++ r) = prodZ l * prodZ r := by
  show (l ++ r).foldl (· * ·) 1 = _
  rw [List.foldl_append, foldl_mul]; rfl
theorem prod_step (xs : List Int) (k : Nat) (h : k < xs.length) : prodZ (xs.take (k + 1)) = prodZ (xs.take k) * xs.getD k 0 := by
  rw [List.take_succ_eq_append_getElem h, prod_append, prod_cons]
  simp [List.getD_eq_getElem?_getD, List.getElem?_eq_getElem h, prodZ]
theorem prod_zero (xs : List Int) (h : (0 : Int) ∈ xs) : prodZ xs = 0 := by
  induction xs with
  | nil => simp at h
  | cons x r ih =>
    rw [prod_cons]
    rcases List.mem_cons.1 h with h | h
    · rw [← h, Int.zero_mul]
    · rw [ih h, Int.mul_zero]
theorem prod_pos (xs : List Int) (h : ∀ n ∈ xs, n ≠ 0) : 1 ≤ (prodZ xs).natAbs := by
  induction xs with
  | nil => simp [prodZ]
  | cons x r ih =>
    rw [prod_cons, Int.natAbs_mul]
    have h1 := h x (by simp)
    have h2 := ih (fun n hn => h n (by simp [hn]))
    exact Nat.mul_pos (by omega) h2
theorem prod_mono (xs : List Int) (k : Nat) (h : ∀ n ∈ xs, n ≠ 0) : (prodZ (xs.take k)).natAbs ≤ (prodZ xs).natAbs := by
  have e : prodZ xs = prodZ (xs.take k) * prodZ (xs.drop k) := by rw [← prod_append, List.take_append_drop]
  rw [e, Int.natAbs_mul]
  have h2 := prod_pos (xs.drop k) (fun n hn => h n (List.mem_of_mem_drop hn))
  exact Nat.le_mul_of_pos_right _ h2
theorem sign_step (P n : Int) (hP : P ≠ 0) (hn : n ≠ 0) : (decide (P < 0) != decide (n < 0)) = decide (P * n < 0) := by
  rcases Int.lt_or_lt_of_ne hP with h1 | h1 <;> rcases Int.lt_or_lt_of_ne hn with h2 | h2
  · have := Int.mul_pos_of_neg_of_neg h1 h2
    rw [decide_eq_true h1, decide_eq_true h2, decide_eq_false (by omega)]; rfl
  · have := Int.mul_neg_of_neg_of_pos h1 h2
    rw [decide_eq_true h1, decide_eq_false (by omega), decide_eq_true this]; rfl
  · have := Int.mul_neg_of_pos_of_neg h1 h2
    rw [decide_eq_false (by omega), decide_eq_true h2, decide_eq_true this]; rfl
  · have := Int.mul_pos h1 h2
    rw [decide_eq_false (by omega), decide_eq_false (by omega), decide_eq_false (by omega)]; rfl

def IndexIs (v : Int) (xs : List Int) (e : Ending) : Prop := ∃ r : Int, e = .returned (.int .i64 r) ∧ ((0 ≤ r ∧ v ∈ xs) ∨ (r = -1 ∧ v ∉ xs))
theorem index_any (a : Option Addr) (len cap : Nat) (xs : List Int) (v : Int) (w : World) (h : Ints w a len xs) :
    Calls Try.prog 46 #[.slice a len cap, .int .i64 v] w fun e w' => IndexIs v xs e ∧ w = w' := by
  obtain ⟨hl, hb, hw, hc⟩ := h
  go_enter Try.func46, Try.ntmps46
  go_wp2
  go_loop [8] (fun i => ∃ k : Nat, k ≤ len ∧ i = .int .i64 k ∧ ∀ j, j < k → xs.getD j 0 ≠ v) (fun i => len - (intOf i).toNat)
  case atStart => exact ⟨0, by omega, rfl, fun j hj => absurd hj (by omega)⟩
  case round =>
    obtain ⟨k, hk, rfl, hno⟩ := hrel
    have HNO := Lib.hid hno
    clear hno
    by_cases hlt : k < len
    · obtain ⟨x, rfl, hcx⟩ := hc (by omega)
      have hcell := hcx k hlt
      have hmem : xs.getD k 0 ∈ xs := by rw [List.getD_eq_getElem?_getD, List.getElem?_eq_getElem (by omega)]; simp
      have HM := Lib.hid hmem
      clear hcx hc hmem
      by_cases hv : xs.getD k 0 = v
      · have hv' : (v == xs.getD k 0) = true := by simpa using hv.symm
        have HV := Lib.hid hv
        clear hv
        generalize hn : xs.getD k 0 = n at *
        clear hn
        go_wp2
        go_ret
        exact ⟨⟨k, rfl, .inl ⟨by omega, by rw [← HV.out]; exact HM.out⟩⟩, rfl⟩
      · have hv' : (v == xs.getD k 0) = false := by simpa using fun h => hv h.symm
        have HV := Lib.hid hv
        clear hv
        generalize hn : xs.getD k 0 = n at *
        have HN := Lib.hid hn
        clear hn
        go_wp2
        go_round
        case rel =>
          refine ⟨k + 1, by omega, by go_num, fun j hj => ?_⟩
          rcases (by omega : j < k ∨ j = k) with h | h
          · exact HNO.out j h
          · rw [h, HN.out]; exact HV.out
        case measure => simp [intOf]; omega
    · clear hc
      go_wp2
      go_ret
      refine ⟨⟨-1, rfl, .inr ⟨rfl, fun hm => ?_⟩⟩, rfl⟩
      obtain ⟨j, hj, he⟩ := List.mem_iff_getElem.1 hm
      exact HNO.out j (by omega) (by rw [List.getD_eq_getElem?_getD, List.getElem?_eq_getElem hj]; simpa using he)
theorem contains_yes (a : Option Addr) (len cap : Nat) (xs : List Int) (v : Int) (w : World) (h : Ints w a len xs) (hv : v ∈ xs) :
    Calls Try.prog 35 #[.slice a len cap, .int .i64 v] w fun e w' => e = .returned (.bool true) ∧ w = w' := by
  have HV := Lib.hid hv
  clear hv
  go_enter Try.func35, Try.ntmps35
  go_wp2_with (go_at_call 46; refine (index_any _ _ _ _ _ _ h).mono ?_; rintro e w' ⟨⟨r, rfl, hr⟩, rfl⟩; rcases hr with ⟨hr0, _⟩ | ⟨_, hr1⟩; rotate_left; exact absurd HV.out hr1)
  go_ret
  exact ⟨by simp [*], rfl⟩
theorem contains_no (a : Option Addr) (len cap : Nat) (xs : List Int) (v : Int) (w : World) (h : Ints w a len xs) (hv : v ∉ xs) :
    Calls Try.prog 35 #[.slice a len cap, .int .i64 v] w fun e w' => e = .returned (.bool false) ∧ w = w' := by
  have HV := Lib.hid hv
  clear hv
  go_enter Try.func35, Try.ntmps35
  go_wp2_with (go_at_call 46; refine (index_any _ _ _ _ _ _ h).mono ?_; rintro e w' ⟨⟨r, rfl, hr⟩, rfl⟩; rcases hr with ⟨_, hr1⟩ | ⟨rfl, _⟩; exact absurd hr1 HV.out)
  go_ret
  exact ⟨by simp [*], rfl⟩
end Go.Proofs.Ytpfoonhobeflhaa
