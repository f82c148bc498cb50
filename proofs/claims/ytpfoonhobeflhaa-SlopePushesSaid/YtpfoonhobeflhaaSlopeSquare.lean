/- What the landed Square and Steepest answer, and the reference's. -/
import Derived.Test.YtpfoonhobeflhaaSlopeMath
import Derived.Test.YtpfoonhobeflhaaFixqMul
import Derived.Test.YtpfoonhobeflhaaArgsJ
set_option linter.unusedSimpArgs false
set_option linter.unusedVariables false
namespace Go.Proofs.Ytpfoonhobeflhaa.Slope
open Go.RowKit RI64
set_option maxHeartbeats 1000000 in
theorem square_any (d : Int) (w : World) (hd : fits64 d) :
    Calls Try.prog 14 #[.int .i64 d] w fun e w' => e = .returned (.int .i64 (squareT d)) ∧ Below w.heap.size w w' := by
  have hB := (Below.refl w.heap.size w).alloc (Nat.le_refl _) (.cells #[.int .i64 d, .int .i64 d] 2)
  have hmu := mul_any _ _ 2 _ _ (ints_pair w d d 2 hd hd)
  rw [prod_pair] at hmu
  have hmin := square_min d
  have hov := square_over d
  generalize squareT d = q at *
  by_cases hf : fits64 (d * d)
  · rw [addIs_yes hf] at hmu
    clear hov
    have HF := Lib.hid hf
    clear hf
    generalize d * d = s at *
    go_enter Try.func14, Try.ntmps14
    go_wp2_with (go_at_call 26; ((with_reducible refine hmu.mono ?_); rintro e w1 ⟨rfl, rfl⟩))
    go_ret
    exact ⟨rfl, hB⟩
  · rw [addIs_no hf] at hmu
    have HQ := hov hf
    clear hov hmin hf
    subst HQ
    go_enter Try.func14, Try.ntmps14
    go_wp2_with (go_at_call 26; ((with_reducible refine hmu.mono ?_); rintro e w1 ⟨rfl, rfl⟩))
    go_ret
    exact ⟨rfl, hB⟩
theorem refsquare_any (d : Int) (w : World) (hd : fits64 d) :
    Calls Try.prog 15 #[.int .i64 d] w fun e w' => e = .returned (.int .i64 (squareT d)) ∧ w = w' := by
  unfold squareT
  by_cases h1 : 8191 < d
  · rw [if_pos (Or.inl h1)]
    go_enter Try.func15, Try.ntmps15
    go_wp2
    go_ret
    exact ⟨rfl, rfl⟩
  · by_cases h2 : d < -8191
    · rw [if_pos (Or.inr h2)]
      go_enter Try.func15, Try.ntmps15
      go_wp2
      go_ret
      exact ⟨rfl, rfl⟩
    · rw [if_neg (by omega)]
      have hb := mul_bd d d 8191 8191 (by omega) (by omega)
      have hb2 : -9223372036854775808 ≤ d * d ∧ d * d ≤ 9223372036854775807 := by omega
      go_enter Try.func15, Try.ntmps15
      go_wp2
      go_ret
      exact ⟨rfl, rfl⟩
theorem distance_any (d : Int) (w : World) (hd : fits64 d) :
    Calls Try.prog 27 #[.int .i64 d] w fun e w' => e = .returned (.int .i64 (distT d)) ∧ w = w' := by
  unfold fits64 at hd
  unfold distT
  by_cases h0 : d = -9223372036854775808
  · subst h0
    go_enter Try.func27, Try.ntmps27
    go_wp2
    go_ret
    exact ⟨rfl, rfl⟩
  · rw [if_neg h0]
    by_cases h1 : d < 0
    · rw [if_pos h1]
      go_enter Try.func27, Try.ntmps27
      go_wp2
      go_ret
      exact ⟨rfl, rfl⟩
    · rw [if_neg h1]
      go_enter Try.func27, Try.ntmps27
      go_wp2
      go_ret
      exact ⟨rfl, rfl⟩
set_option maxHeartbeats 1000000 in
theorem steepest_any (A : Option Addr) (n c : Nat) (ys : List Int) (w : World) (hv : Vals w A n ys) (hn : n ≤ 100000) (hf : ∀ d ∈ ys, fits64 d) :
    Calls Try.prog 16 #[.slice A n c] w fun e w' => e = .returned (.int .i64 (steepT ys)) ∧ w = w' := by
  have hlen := hv.len_
  go_enter Try.func16, Try.ntmps16
  go_wp2
  go_loop [3, 8] (fun s i => ∃ j : Nat, j ≤ n ∧ i = .int .i64 (j : Nat) ∧ s = .int .i64 (steepT (ys.take j))) (fun _ i => n - (intOf i).toNat)
  case atStart => exact ⟨0, by omega, rfl, rfl⟩
  case round =>
    obtain ⟨j, hj, rfl, rfl⟩ := hrel
    by_cases hjn : j < n
    · obtain ⟨x, rfl, hcx⟩ := hv.cells (by omega)
      have hcell := hcx j hjn
      have hfd : fits64 (ys.getD j 0) := hf _ (by rw [List.getD_eq_getElem?_getD, List.getElem?_eq_getElem (by omega)]; simp)
      have hdi := fun W => distance_any (ys.getD j 0) W hfd
      have HST := Lib.hid (steep_step ys j (by omega))
      generalize distT (ys.getD j 0) = t at *
      generalize ys.getD j 0 = d at *
      generalize steepT (ys.take j) = s at *
      clear hcx hv hf hlen hfd
      go_wp2_with (go_at_call 27; ((with_reducible refine (hdi _).mono ?_); rintro e w1 ⟨rfl, rfl⟩))
      go_round
      case rel => exact ⟨j + 1, by omega, by go_num, by rw [HST.out]⟩
      case measure => simp [intOf]; omega
    · obtain rfl : j = n := by omega
      rw [List.take_of_length_le (by omega)]
      clear hv hf
      go_wp2
      go_ret
      exact ⟨rfl, rfl⟩
set_option maxHeartbeats 1000000 in
theorem refsteepest_any (A : Option Addr) (n c : Nat) (ys : List Int) (w : World) (hv : Vals w A n ys) (hn : n ≤ 100000) (hf : ∀ d ∈ ys, fits64 d) :
    Calls Try.prog 17 #[.slice A n c] w fun e w' => e = .returned (.int .i64 (steepT ys)) ∧ w = w' := by
  have hlen := hv.len_
  go_enter Try.func17, Try.ntmps17
  go_wp2
  go_loop [3, 4] (fun s i => ∃ j : Nat, j ≤ n ∧ i = .int .i64 (j : Nat) ∧ s = .int .i64 (steepT (ys.take j))) (fun _ i => n - (intOf i).toNat)
  case atStart => exact ⟨0, by omega, rfl, rfl⟩
  case round =>
    obtain ⟨j, hj, rfl, rfl⟩ := hrel
    by_cases hjn : j < n
    · obtain ⟨x, rfl, hcx⟩ := hv.cells (by omega)
      have hcell := hcx j hjn
      have hfd : fits64 (ys.getD j 0) := hf _ (by rw [List.getD_eq_getElem?_getD, List.getElem?_eq_getElem (by omega)]; simp)
      have HST := Lib.hid (steep_step ys j (by omega))
      unfold fits64 at hfd
      unfold distT at HST
      generalize ys.getD j 0 = d at *
      generalize steepT (ys.take j) = s at *
      clear hcx hv hf hlen
      by_cases h0 : d = -9223372036854775808
      · subst h0
        go_wp2
        go_round
        case rel => exact ⟨j + 1, by omega, by go_num, by rw [HST.out]; rfl⟩
        case measure => simp [intOf]; omega
      · rw [if_neg h0] at HST
        by_cases h1 : d < 0
        · rw [if_pos h1] at HST
          go_wp2
          go_round
          case rel => exact ⟨j + 1, by omega, by go_num, by rw [HST.out]⟩
          case measure => simp [intOf]; omega
        · rw [if_neg h1] at HST
          go_wp2
          go_round
          case rel => exact ⟨j + 1, by omega, by go_num, by rw [HST.out]⟩
          case measure => simp [intOf]; omega
    · obtain rfl : j = n := by omega
      rw [List.take_of_length_le (by omega)]
      clear hv hf
      go_wp2
      go_ret
      exact ⟨rfl, rfl⟩
end Go.Proofs.Ytpfoonhobeflhaa.Slope
