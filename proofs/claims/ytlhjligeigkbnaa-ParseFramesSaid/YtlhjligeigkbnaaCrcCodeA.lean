/- crc's step and Next. -/
import Derived.Test.YtlhjligeigkbnaaChecked
import Derived.Test.YtlhjligeigkbnaaCrcBits
import Derived.Lib.Hide
import Derived.Deep.QuietTactic
import Derived.BigQuiet
set_option linter.unusedSimpArgs false
set_option linter.unusedVariables false
namespace Go.Proofs.Ytlhjligeigkbnaa.Crc
open Go.RowKit

theorem step_any (s : Nat) (w : World) (h : s < 65536) :
    Calls Try.prog 44 #[.int .u16 s] w fun e w' => e = .returned (.int .u16 (stepZ s)) ∧ w = w' := by
  have ha := u16_high s h
  have hyes := bit_yes s false h
  have hno := bit_no s false h
  unfold stepZ
  by_cases h1 : 32768 ≤ s
  · rw [if_pos h1] at ha
    have hr := Lib.hid (hyes (by simp [h1]) _ (u16_wrap _))
    clear hyes hno
    go_enter Try.func44, Try.ntmps44
    go_wp2
    go_ret
    exact ⟨ret_int hr.out, rfl⟩
  · rw [if_neg h1] at ha
    have hr := Lib.hid (hno (by simp [h1]) ((s : Int) * 2) (by omega))
    clear hyes hno
    go_enter Try.func44, Try.ntmps44
    go_wp2
    go_ret
    exact ⟨ret_int hr.out, rfl⟩
theorem next_any (s b : Nat) (w : World) (h : s < 65536) (hb : b < 256) :
    Calls Try.prog 43 #[.int .u16 s, .int .u8 b] w fun e w' => e = .returned (.int .u16 (nextZ s b)) ∧ w = w' := by
  have h0 : bits .xor .u16 (s : Int) ((b : Int) * 256) = (aheadZ s b 0 : Nat) := by
    have := u16_xor_nat s (b * 256) h (by omega)
    rw [aheadZ_0 s b hb, ← this]
    simp
  have hst : ∀ i, i < 8 → stepZ (aheadZ s b i) = aheadZ s b (i + 1) := fun i => aheadZ_succ s b i hb
  have h8 : aheadZ s b 8 = nextZ s b := aheadZ_8 s b
  have hlt : ∀ i, aheadZ s b i < 65536 := fun i => aheadZ_lt s b i h
  generalize aheadZ s b = f at *
  have h8' := Lib.hid h8
  clear h8
  go_enter Try.func43, Try.ntmps43
  go_wp2
  go_loop [0, 10] (fun a i => ∃ j : Nat, j ≤ 8 ∧ i = .int .i64 (j : Nat) ∧ a = .int .u16 (f j : Nat)) (fun _ i => 8 - (intOf i).toNat)
  case atStart => exact ⟨0, by omega, rfl, by first | rfl | (rw [h0])⟩
  case round =>
    obtain ⟨j, hj, rfl, rfl⟩ := hrel
    by_cases h9 : j < 8
    · have hs := step_any (f j) w (hlt j)
      rw [hst j h9] at hs
      clear hst hlt h0
      go_wp2_with (go_at_call 44; ((with_reducible refine hs.mono ?_); rintro e w' ⟨rfl, rfl⟩))
      go_round
      case rel => exact ⟨j + 1, by omega, by go_num, rfl⟩
      case measure => simp [intOf]; omega
    · obtain rfl : j = 8 := by omega
      clear hst hlt h0
      go_wp2
      go_ret
      exact ⟨by rw [← h8'.out]; rfl, rfl⟩
end Go.Proofs.Ytlhjligeigkbnaa.Crc
