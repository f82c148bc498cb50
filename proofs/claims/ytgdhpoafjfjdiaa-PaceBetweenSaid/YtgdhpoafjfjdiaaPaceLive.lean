/- The chapter's example of layer 18: so it is. -/
import Derived.Test.YtgdhpoafjfjdiaaPaceKit
set_option linter.unusedSimpArgs false
set_option linter.unusedVariables false
namespace Go.Proofs.Ytgdhpoafjfjdiaa.Pace
open Go.RowKit RI64
theorem live_mean : meanT [301, 200, 100] = 200 := by decide
theorem live_late : lateT [301, 200, 100] 334 = true := by decide
theorem live_not : lateT [301, 200, 100] 333 = false := by decide
theorem live_rate : rateT 200 = 60 := by decide
set_option maxHeartbeats 1000000 in
theorem live_k {Pac : World → Nat → List Nat → List Int → Prop} (K : PaceKit Pac) (w : World) : Calls Try.prog 15 #[] w fun e w' => e = .returned (.bool true) ∧ Below w.heap.size w w' := by
  have hnew := K.new_any w
  have hV : ∀ W : World, Vals (W.alloc (.cells #[.int .i64 100, .int .i64 200, .int .i64 301] 2)) (some ⟨W.heap.size, 0, none⟩) 3 [100, 200, 301] := fun W => Vals.has (ys := [100, 200, 301]) (tl := []) (Has.new W _ _)
  have hra := fun W => K.rate_any W 200 (by unfold fits64; omega)
  rw [live_rate] at hra
  go_enter Try.func15, Try.ntmps15
  go_wp2_with (first
    | (go_at_call 7; ((with_reducible refine hnew.mono ?_); rintro e W1 ⟨b, S, rfl, hP, hfar, hB1⟩; have hP1 := K.alloc hP (.cells #[.int .i64 100, .int .i64 200, .int .i64 301] 2); have hB2 := hB1.alloc hB1.size (.cells #[.int .i64 100, .int .i64 200, .int .i64 301] 2); have had := K.add_any _ b S [] _ 3 3 _ hP1 (hV W1) (by omega) (fun x _ hx => by injection hx with hx; subst hx; intro hk; exact Nat.lt_irrefl _ ((K.lt hP).2 _ hk))))
    | (go_at_call 12; ((with_reducible refine had.mono ?_); rintro e W2 ⟨rfl, hP2, hK2⟩; have hB3 := below_kept hB2 hK2 hB2.size hfar; replace hP2 : Pac W2 b S [301, 200, 100] := hP2; have hme := K.mean_any W2 b S _ hP2; rw [live_mean] at hme))
    | (go_at_call 9; ((with_reducible refine hme.mono ?_); rintro e W3 ⟨rfl, hB⟩; have hB4 := hB3.trans (hB.mono hB3.size); have hP3 := K.below hP2 hB; have hl1 := K.late_any W3 b S _ 334 hP3; rw [live_late] at hl1))
    | (go_at_call 11; ((with_reducible refine hl1.mono ?_); rintro e W4 ⟨rfl, hB⟩; have hB5 := hB4.trans (hB.mono hB4.size); have hP4 := K.below hP3 hB; have hl2 := K.late_any W4 b S _ 333 hP4; rw [live_not] at hl2))
    | (go_at_call 11; ((with_reducible refine hl2.mono ?_); rintro e W5 ⟨rfl, hB⟩; have hB6 := hB5.trans (hB.mono hB5.size)))
    | (go_at_call 16; ((with_reducible refine (hra _).mono ?_); rintro e W6 ⟨rfl, hB⟩; have hB7 := hB6.trans (hB.mono hB6.size))))
  go_ret
  exact ⟨rfl, hB7⟩
end Go.Proofs.Ytgdhpoafjfjdiaa.Pace
