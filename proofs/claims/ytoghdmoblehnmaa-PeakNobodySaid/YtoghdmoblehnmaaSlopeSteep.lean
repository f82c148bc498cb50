/- What the landed Steepest answers, and the reference's. -/
import Derived.Test.YtoghdmoblehnmaaSlopeMath
import Derived.Test.YtoghdmoblehnmaaArgsJ
import Derived.Lib.Hide
import Derived.ProofKit
import Derived.Handy
set_option linter.unusedSimpArgs false
set_option linter.unusedVariables false
namespace Go.Proofs.Ytoghdmoblehnmaa.Slope
open Go.RowKit RI64
theorem distance_any (d : Int) (w : World) (hd : fits64 d) :
    Calls Try.prog 27 #[.int .i64 d] w fun e w' => e = .returned (.int .i64 (distT d)) ∧ w = w' := by
  unfold fits64 at hd
  unfold distT
  by_cases h0 : d = -9223372036854775808
  · subst h0
    go_enter Try.func27, Try.ntmps27
    go_wp2
    go_ret
    exact ⟨rfl, rfl⟩
  · rw [if_neg h0]
    by_cases h1 : d < 0
    · rw [if_pos h1]
      go_enter Try.func27, Try.ntmps27
      go_wp2
      go_ret
      exact ⟨rfl, rfl⟩
    · rw [if_neg h1]
      go_enter Try.func27, Try.ntmps27
      go_wp2
      go_ret
      exact ⟨rfl, rfl⟩
set_option maxHeartbeats 1000000 in
theorem steepest_any (A : Option Addr) (n c : Nat) (ys : List Int) (w : World) (hv : Vals w A n ys) (hn : n ≤ 100000) (hf : ∀ d ∈ ys, fits64 d) :
    Calls Try.prog 26 #[.slice A n c] w fun e w' => e = .returned (.int .i64 (steepT ys)) ∧ w = w' := by
  have hlen := hv.len_
  go_enter Try.func26, Try.ntmps26
  go_wp2
  go_loop [3, 8] (fun s i => ∃ j : Nat, j ≤ n ∧ i = .int .i64 (j : Nat) ∧ s = .int .i64 (steepT (ys.take j))) (fun _ i => n - (intOf i).toNat)
  case atStart => exact ⟨0, by omega, rfl, rfl⟩
  case round =>
    obtain ⟨j, hj, rfl, rfl⟩ := hrel
    by_cases hjn : j < n
    · obtain ⟨x, rfl, hcx⟩ := hv.cells (by omega)
      have hcell := hcx j hjn
      have hfd : fits64 (ys.getD j 0) := hf _ (by rw [List.getD_eq_getElem?_getD, List.getElem?_eq_getElem (by omega)]; simp)
      have hdi := fun W => distance_any (ys.getD j 0) W hfd
      have HST := Lib.hid (steep_step ys j (by omega))
      generalize distT (ys.getD j 0) = t at *
      generalize ys.getD j 0 = d at *
      generalize steepT (ys.take j) = s at *
      clear hcx hv hf hlen hfd
      go_wp2_with (go_at_call 27; ((with_reducible refine (hdi _).mono ?_); rintro e w1 ⟨rfl, rfl⟩))
      go_round
      case rel => exact ⟨j + 1, by omega, by go_num, by rw [HST.out]⟩
      case measure => simp [intOf]; omega
    · obtain rfl : j = n := by omega
      rw [List.take_of_length_le (by omega)]
      clear hv hf
      go_wp2
      go_ret
      exact ⟨rfl, rfl⟩
set_option maxHeartbeats 1000000 in
theorem refsteepest_any (A : Option Addr) (n c : Nat) (ys : List Int) (w : World) (hv : Vals w A n ys) (hn : n ≤ 100000) (hf : ∀ d ∈ ys, fits64 d) :
    Calls Try.prog 24 #[.slice A n c] w fun e w' => e = .returned (.int .i64 (steepT ys)) ∧ w = w' := by
  have hlen := hv.len_
  go_enter Try.func24, Try.ntmps24
  go_wp2
  go_loop [3, 4] (fun s i => ∃ j : Nat, j ≤ n ∧ i = .int .i64 (j : Nat) ∧ s = .int .i64 (steepT (ys.take j))) (fun _ i => n - (intOf i).toNat)
  case atStart => exact ⟨0, by omega, rfl, rfl⟩
  case round =>
    obtain ⟨j, hj, rfl, rfl⟩ := hrel
    by_cases hjn : j < n
    · obtain ⟨x, rfl, hcx⟩ := hv.cells (by omega)
      have hcell := hcx j hjn
      have hfd : fits64 (ys.getD j 0) := hf _ (by rw [List.getD_eq_getElem?_getD, List.getElem?_eq_getElem (by omega)]; simp)
      have HST := Lib.hid (steep_step ys j (by omega))
      unfold fits64 at hfd
      unfold distT at HST
      generalize ys.getD j 0 = d at *
      generalize steepT (ys.take j) = s at *
      clear hcx hv hf hlen
      by_cases h0 : d = -9223372036854775808
      · subst h0
        go_wp2
        go_round
        case rel => exact ⟨j + 1, by omega, by go_num, by rw [HST.out]; rfl⟩
        case measure => simp [intOf]; omega
      · rw [if_neg h0] at HST
        by_cases h1 : d < 0
        · rw [if_pos h1] at HST
          go_wp2
          go_round
          case rel => exact ⟨j + 1, by omega, by go_num, by rw [HST.out]⟩
          case measure => simp [intOf]; omega
        · rw [if_neg h1] at HST
          go_wp2
          go_round
          case rel => exact ⟨j + 1, by omega, by go_num, by rw [HST.out]⟩
          case measure => simp [intOf]; omega
    · obtain rfl : j = n := by omega
      rw [List.take_of_length_le (by omega)]
      clear hv hf
      go_wp2
      go_ret
      exact ⟨rfl, rfl⟩
end Go.Proofs.Ytoghdmoblehnmaa.Slope
