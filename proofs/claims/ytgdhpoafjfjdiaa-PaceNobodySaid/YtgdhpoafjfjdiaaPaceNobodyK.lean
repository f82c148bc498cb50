/- PaceNobody and PaceRates, over whatever a pace's calls answer. -/
import Derived.Test.YtgdhpoafjfjdiaaPaceLive
import Derived.Test.YtgdhpoafjfjdiaaPaceRef
set_option linter.unusedSimpArgs false
set_option linter.unusedVariables false
namespace Go.Proofs.Ytgdhpoafjfjdiaa.Pace
open Go.RowKit RI64
set_option maxRecDepth 100000 in
set_option maxHeartbeats 2000000 in
theorem nobody_k {Pac : World → Nat → List Nat → List Int → Prop} (K : PaceKit Pac) (a0 a1 : Int) (w : World) :
    Calls Try.prog 6 #[.int .i64 a0, .int .i64 a1] w fun e w' => e = .returned (.bool true) ∧ Below w.heap.size w w' := by
  have hB0 := (Below.refl w.heap.size w).alloc (Nat.le_refl _) (.cells #[.int .i64 a0, .int .i64 a0] 2)
  have hli := fun W => live_k K W
  have h1 := fun W A n c => K.no_add W A n c
  have h2 := fun W => K.no_reset W
  have h3 := fun W => K.no_mean W
  have h4 := fun W => K.no_many W
  have h5 := fun W s => K.no_late W s
  go_enter Try.func6, Try.ntmps6
  go_wp2_with (first
    | (go_at_call 12; ((with_reducible refine (h1 _ _ _ _).mono ?_); rintro e W1 ⟨rfl, hB⟩; have hB1 := hB0.trans (hB.mono hB0.size)))
    | (go_at_call 8; ((with_reducible refine (h2 _).mono ?_); rintro e W2 ⟨rfl, hB⟩; have hB2 := hB1.trans (hB.mono hB1.size)))
    | (go_at_call 9; ((with_reducible refine (h3 _).mono ?_); rintro e W3 ⟨rfl, hB⟩; have hB3 := hB2.trans (hB.mono hB2.size)))
    | (go_at_call 10; ((with_reducible refine (h4 _).mono ?_); rintro e W4 ⟨rfl, hB⟩; have hB4 := hB3.trans (hB.mono hB3.size)))
    | (go_at_call 11; ((with_reducible refine (h5 _ _).mono ?_); rintro e W5 ⟨rfl, hB⟩; have hB5 := hB4.trans (hB.mono hB4.size)))
    | (go_at_call 15; ((with_reducible refine (hli _).mono ?_); rintro e W6 ⟨rfl, hB⟩; have hB6 := hB5.trans (hB.mono hB5.size))))
  go_ret
  exact ⟨rfl, hB6⟩
set_option maxRecDepth 100000 in
set_option maxHeartbeats 2000000 in
theorem rates_k {Pac : World → Nat → List Nat → List Int → Prop} (K : PaceKit Pac) (a0 : Int) (w : World) (b0 : -9223372036854775808 ≤ a0 ∧ a0 ≤ 9223372036854775807) :
    Calls Try.prog 4 #[.int .i64 a0] w fun e w' => e = .returned (.bool true) ∧ Below w.heap.size w w' := by
  have hli := fun W => live_k K W
  have hra := K.rate_any w a0 b0
  have hrr := fun W => refrate_any a0 W b0
  have hbd := rate_bd a0
  have hfl := rate_floor a0
  generalize rateT a0 = n at *
  have h : a0 < 1 ∨ 12000 < a0 ∨ (1 ≤ a0 ∧ a0 ≤ 12000) := by omega
  rcases h with h | h | ⟨h1, h2⟩
  · clear hfl
    go_enter Try.func4, Try.ntmps4
    go_wp2_with (first
      | (go_at_call 16; ((with_reducible refine hra.mono ?_); rintro e W1 ⟨rfl, hB1⟩))
      | (go_at_call 17; ((with_reducible refine (hrr _).mono ?_); rintro e W2 ⟨rfl, rfl⟩))
      | (go_at_call 15; ((with_reducible refine (hli _).mono ?_); rintro e W3 ⟨rfl, hB⟩; have hB2 := hB1.trans (hB.mono hB1.size))))
    go_ret
    exact ⟨rfl, hB2⟩
  · clear hfl
    go_enter Try.func4, Try.ntmps4
    go_wp2_with (first
      | (go_at_call 16; ((with_reducible refine hra.mono ?_); rintro e W1 ⟨rfl, hB1⟩))
      | (go_at_call 17; ((with_reducible refine (hrr _).mono ?_); rintro e W2 ⟨rfl, rfl⟩))
      | (go_at_call 15; ((with_reducible refine (hli _).mono ?_); rintro e W3 ⟨rfl, hB⟩; have hB2 := hB1.trans (hB.mono hB1.size))))
    go_ret
    exact ⟨rfl, hB2⟩
  · obtain ⟨f1, f2⟩ := hfl h1
    have f3 : 0 ≤ n * a0 := Int.mul_nonneg hbd.1 (by omega)
    have f4 : (n + 1) * a0 ≤ 24000 := by rw [Int.add_mul, Int.one_mul]; omega
    go_enter Try.func4, Try.ntmps4
    go_wp2_with (first
      | (go_at_call 16; ((with_reducible refine hra.mono ?_); rintro e W1 ⟨rfl, hB1⟩))
      | (go_at_call 17; ((with_reducible refine (hrr _).mono ?_); rintro e W2 ⟨rfl, rfl⟩))
      | (go_at_call 15; ((with_reducible refine (hli _).mono ?_); rintro e W3 ⟨rfl, hB⟩; have hB2 := hB1.trans (hB.mono hB1.size))))
    go_ret
    exact ⟨rfl, hB2⟩
end Go.Proofs.Ytgdhpoafjfjdiaa.Pace
