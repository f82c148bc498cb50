/- The reference of the line: what its calls answer of all that came. -/
import Derived.Test.YtpfoonhobeflhaaLineMath
import Derived.Test.YtpfoonhobeflhaaArgsJ
import Derived.Lib.Hide
import Derived.Deep.QuietTactic
import Derived.BigQuiet
set_option linter.unusedSimpArgs false
set_option linter.unusedVariables false
namespace Go.Proofs.Ytpfoonhobeflhaa
open Go.RowKit RI64

theorem rev_at (h : List Int) (k : Nat) (hk : k < h.length) : h.reverse.getD (h.length - 1 - k) 0 = h.getD k 0 := by
  rw [List.getD_eq_getElem?_getD, List.getElem?_reverse (by omega), show h.length - 1 - (h.length - 1 - k) = k by omega, List.getD_eq_getElem?_getD]
theorem refback_any (A : Option Addr) (len c : Nat) (h : List Int) (k : Int) (w : World) (hv : Vals w A len h.reverse) (hl : len ≤ 9223372036854775807) :
    Calls Try.prog 31 #[.slice A len c, .int .i64 k] w fun e w' => e = .returned (.int .i64 (ago h k)) ∧ ∃ d, w' = w.drewN d := by
  have hlen : h.length = len := by have := hv.len_; simpa using this
  rcases Decidable.em (k < 0) with h0 | h0
  · rw [ago_neg h k h0]
    go_enter Try.func31, Try.ntmps31
    go_wp2
    go_ret
    exact ⟨rfl, 0, rfl⟩
  · rcases Decidable.em ((len : Int) ≤ k) with h1 | h1
    · rw [ago_far h k (by omega)]
      go_enter Try.func31, Try.ntmps31
      go_wp2
      go_ret
      exact ⟨rfl, 0, rfl⟩
    · obtain ⟨j, rfl⟩ : ∃ j : Nat, k = (j : Int) := ⟨k.toNat, by omega⟩
      have hj : j < len := by omega
      obtain ⟨x, rfl, hx⟩ := hv.cells (by omega)
      have hc := hx (len - 1 - j) (by omega)
      have hr := rev_at h j (by omega)
      rw [hlen] at hr
      rw [hr] at hc
      rw [ago_nat]
      generalize h.getD j 0 = v at *
      obtain ⟨m, hm⟩ : ∃ m, len - 1 - j = m := ⟨_, rfl⟩
      rw [hm] at hc
      have he : (len : Int) - 1 - (j : Int) = (m : Int) := by omega
      have hml : m < len := by omega
      have he1 : IntKind.i64.wrap ((len : Int) - 1) = (len : Int) - 1 := IntWalk.i64_in _ (by omega)
      have he2 : IntKind.i64.wrap ((len : Int) - 1 - (j : Int)) = (m : Int) := by rw [he]; exact IntWalk.i64_in _ (by omega)
      clear hx hv hm hr hlen
      go_enter Try.func31, Try.ntmps31
      go_wp2
      first
      | (go_ret; exact ⟨rfl, 0, rfl⟩)
      | (go_quiet (fail)
         go_wp2
         go_ret
         exact ⟨rfl, _, rfl⟩)
end Go.Proofs.Ytpfoonhobeflhaa
