/- The reference of the line: what its calls answer of all that came. -/
import Derived.Test.YtjjnabhkdhobiaaLineMath
import Derived.Test.YtjjnabhkdhobiaaArgsJ
import Derived.Lib.Hide
import Derived.Deep.QuietTactic
import Derived.BigQuiet
set_option linter.unusedSimpArgs false
set_option linter.unusedVariables false
namespace Go.Proofs.Ytjjnabhkdhobiaa
open Go.RowKit RI64

theorem rev_at (h : List Int) (k : Nat) (hk : k < h.length) : h.reverse.getD (h.length - 1 - k) 0 = h.getD k 0 := by
  rw [List.getD_eq_getElem?_getD, List.getElem?_reverse (by omega), show h.length - 1 - (h.length - 1 - k) = k by omega, List.getD_eq_getElem?_getD]
theorem refback_any (A : Option Addr) (len c : Nat) (h : List Int) (k : Int) (w : World) (hv : Vals w A len h.reverse) (hl : len ≤ 9223372036854775807) :
    Calls Try.prog 12 #[.slice A len c, .int .i64 k] w fun e w' => e = .returned (.int .i64 (ago h k)) ∧ ∃ d, w' = w.drewN d := by
  have hlen : h.length = len := by have := hv.len_; simpa using this
  rcases Decidable.em (k < 0) with h0 | h0
  · rw [ago_neg h k h0]
    go_enter Try.func12, Try.ntmps12
    go_wp2
    go_ret
    exact ⟨rfl, 0, rfl⟩
  · rcases Decidable.em ((len : Int) ≤ k) with h1 | h1
    · rw [ago_far h k (by omega)]
      go_enter Try.func12, Try.ntmps12
      go_wp2
      go_ret
      exact ⟨rfl, 0, rfl⟩
    · obtain ⟨j, rfl⟩ : ∃ j : Nat, k = (j : Int) := ⟨k.toNat, by omega⟩
      have hj : j < len := by omega
      obtain ⟨x, rfl, hx⟩ := hv.cells (by omega)
      have hc := hx (len - 1 - j) (by omega)
      have hr := rev_at h j (by omega)
      rw [hlen] at hr
      rw [hr] at hc
      rw [ago_nat]
      generalize h.getD j 0 = v at *
      obtain ⟨m, hm⟩ : ∃ m, len - 1 - j = m := ⟨_, rfl⟩
      rw [hm] at hc
      have he : (len : Int) - 1 - (j : Int) = (m : Int) := by omega
      have hml : m < len := by omega
      have he1 : IntKind.i64.wrap ((len : Int) - 1) = (len : Int) - 1 := IntWalk.i64_in _ (by omega)
      have he2 : IntKind.i64.wrap ((len : Int) - 1 - (j : Int)) = (m : Int) := by rw [he]; exact IntWalk.i64_in _ (by omega)
      clear hx hv hm hr hlen
      go_enter Try.func12, Try.ntmps12
      go_wp2
      first
      | (go_ret; exact ⟨rfl, 0, rfl⟩)
      | (go_quiet (fail)
         go_wp2
         go_ret
         exact ⟨rfl, _, rfl⟩)

theorem refwithin_any (A : Option Addr) (len c most : Nat) (h : List Int) (k : Int) (w : World) (hv : Vals w A len h.reverse) (hl : len ≤ 9223372036854775807) :
    Calls Try.prog 11 #[.slice A len c, .int .i64 most, .int .i64 k] w fun e w' => e = .returned (.int .i64 (agoTo most h k)) ∧ ∃ d, w' = w.drewN d := by
  have hb := refback_any A len c h k w hv hl
  by_cases h0 : (most : Int) < k
  · rw [show agoTo most h k = 0 by unfold agoTo; rw [if_pos h0]]
    go_enter Try.func11, Try.ntmps11
    go_wp2_with (go_at_call 12; ((with_reducible refine hb.mono ?_); rintro e w' ⟨rfl, d, rfl⟩))
    go_ret
    exact ⟨rfl, 0, rfl⟩
  · rw [show agoTo most h k = ago h k by unfold agoTo; rw [if_neg h0]]
    go_enter Try.func11, Try.ntmps11
    go_wp2_with (go_at_call 12; ((with_reducible refine hb.mono ?_); rintro e w' ⟨rfl, d, rfl⟩))
    go_ret
    exact ⟨rfl, d, rfl⟩

theorem take_sum_step (h : List Int) (k : Nat) : wrap64 (wrap64 (h.take k).sum + h.getD k 0) = wrap64 (h.take (k + 1)).sum := by
  rw [wrap64_add]
  congr 1
  rcases Nat.lt_or_ge k h.length with hl | hl
  · rw [List.take_succ_eq_append_getElem hl, List.sum_append, List.getD_eq_getElem?_getD, List.getElem?_eq_getElem hl]
    simp
  · rw [List.take_of_length_le hl, List.take_of_length_le (by omega), List.getD_eq_getElem?_getD, List.getElem?_eq_none hl]
    simp

theorem refsum_any (A : Option Addr) (len c m : Nat) (h : List Int) (w : World) (hv : Vals w A len h.reverse) (hl : len ≤ 9223372036854775807) (hm : m ≤ 1048576) :
    Calls Try.prog 18 #[.slice A len c, .int .i64 m] w fun e w' => e = .returned (.int .i64 (wrap64 (h.take m).sum)) ∧ ∃ d, w' = w.drewN d := by
  have hz : wrap64 (h.take 0).sum = 0 := by simp; unfold wrap64; omega
  go_enter Try.func18, Try.ntmps18
  go_wp2
  go_loopw [5, 6] (fun s i wr => (∃ k, k ≤ m ∧ i = .int .i64 (k : Nat) ∧ s = .int .i64 (wrap64 (h.take k).sum)) ∧ ∃ d, wr = w.drewN d) (fun _ i _ => m - (intOf i).toNat)
  case atStart => exact ⟨⟨0, by omega, rfl, by rw [hz]⟩, 0, rfl⟩
  case round =>
    obtain ⟨⟨k, hk, rfl, rfl⟩, d, rfl⟩ := hrel
    by_cases hlt : k < m
    · have hb := refback_any A len c h k _ (hv.same (w' := w.drewN d) rfl) hl
      rw [ago_nat] at hb
      have hst := Lib.hid (take_sum_step h k)
      generalize h.getD k 0 = v at *
      generalize wrap64 (h.take k).sum = s at *
      go_wp2_with (go_at_call 12; ((with_reducible refine hb.mono ?_); rintro e w' ⟨rfl, d2, rfl⟩))
      go_roundw
      case rel => exact ⟨⟨k + 1, by omega, by go_num, by rw [← hst.out]⟩, d + d2, by simp⟩
      case measure => simp [intOf]; omega
    · obtain rfl : k = m := by omega
      go_wp2
      go_ret
      exact ⟨rfl, d, rfl⟩
end Go.Proofs.Ytjjnabhkdhobiaa
