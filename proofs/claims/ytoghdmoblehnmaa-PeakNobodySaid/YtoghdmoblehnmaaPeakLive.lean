/- The chapter's example of layer 16: so it is. -/
import Derived.Test.YtoghdmoblehnmaaPeakAll
set_option linter.unusedSimpArgs false
set_option linter.unusedVariables false
namespace Go.Proofs.Ytoghdmoblehnmaa.Peak
open Go.RowKit
theorem live_out : (runT (.falls none) 0 (([0, 100, 300, 200, 149] : List Int).zip [1, -7, 2, 3, 4])).1 = [(2, 4, 300, 7)] := by decide
set_option maxHeartbeats 1000000 in
theorem live_k (w : World) : Calls Try.prog 16 #[] w fun e w' => e = .returned (.bool true) ∧ Below w.heap.size w w' := by
  have hB1 := (Below.refl w.heap.size w).alloc (Nat.le_refl _) (.cells #[.int .i64 0, .int .i64 100, .int .i64 300, .int .i64 200, .int .i64 149] 2)
  have hB2 := hB1.alloc hB1.size (.cells #[.int .i64 1, .int .i64 (-7), .int .i64 2, .int .i64 3, .int .i64 4] 2)
  have hz1 : (w.alloc (.cells #[.int .i64 0, .int .i64 100, .int .i64 300, .int .i64 200, .int .i64 149] 2)).heap.size = w.heap.size + 1 := by simp
  have hV1 : RI64.Vals ((w.alloc (.cells #[.int .i64 0, .int .i64 100, .int .i64 300, .int .i64 200, .int .i64 149] 2)).alloc (.cells #[.int .i64 1, .int .i64 (-7), .int .i64 2, .int .i64 3, .int .i64 4] 2)) (some ⟨w.heap.size, 0, none⟩) 5 [0, 100, 300, 200, 149] :=
    (RI64.Vals.has (ys := [0, 100, 300, 200, 149]) (tl := []) (Has.new w _ _)).alloc _
  have hV2 : RI64.Vals ((w.alloc (.cells #[.int .i64 0, .int .i64 100, .int .i64 300, .int .i64 200, .int .i64 149] 2)).alloc (.cells #[.int .i64 1, .int .i64 (-7), .int .i64 2, .int .i64 3, .int .i64 4] 2)) (some ⟨w.heap.size + 1, 0, none⟩) 5 [1, -7, 2, 3, 4] := by
    have h9 := RI64.Vals.has (ys := [1, -7, 2, 3, 4]) (tl := []) (Has.new (w.alloc (.cells #[.int .i64 0, .int .i64 100, .int .i64 300, .int .i64 200, .int .i64 149] 2)) 2 _)
    rw [hz1] at h9
    exact h9
  have hall := all_any _ 5 5 _ _ 5 5 _ _ hV1 hV2 (by omega) (by omega)
  rw [live_out] at hall
  unfold PeaksIs at hall
  clear hV1 hV2 hB1
  go_enter Try.func16, Try.ntmps16
  go_wp2_with (first
    | (go_at_call 15; ((refine Calls.mono (by exact hall) ?_); rintro e W1 ⟨B, d, rfl, _, _, hV, _, hB3⟩; have hC := hB2.trans (hB3.mono hB2.size); have hV3 := hV.alloc (.cells #[.int .i64 2, .int .i64 4, .int .i64 300, .int .i64 7] 30); have hV4 : Row.Vals peakS (W1.alloc (.cells #[.int .i64 2, .int .i64 4, .int .i64 300, .int .i64 7] 30)) (some ⟨W1.heap.size, 0, none⟩) 1 [(2, 4, 300, 7)] := Row.Vals.has (ys := [(2, 4, 300, 7)]) (tl := []) (Has.new W1 _ _); have hsa := same_yes B (some ⟨W1.heap.size, 0, none⟩) 1 d 1 [(2, 4, 300, 7)] _ hV3 hV4 (by omega); have hC2 := hC.alloc hC.size (.cells #[.int .i64 2, .int .i64 4, .int .i64 300, .int .i64 7] 30)))
    | (go_at_call 13; ((refine Calls.mono (by exact hsa) ?_); rintro e W2 ⟨rfl, z, rfl⟩)))
  go_ret
  exact ⟨rfl, below_drewN hC2 z⟩
end Go.Proofs.Ytoghdmoblehnmaa.Peak
