/- The chapter's example of layer 17: so it is; levels that came in. -/
import Derived.Test.YthhjgdephhfdhaaLevelCalls
import Derived.Test.YthhjgdephhfdhaaFlat
set_option linter.unusedSimpArgs false
set_option linter.unusedVariables false
namespace Go.Proofs.Ythhjgdephhfdhaa.Level
open Go.RowKit RI64
def lvS : Row.Shape Lv := ⟨2, fun v => [.int .i64 v.1, .int .i64 v.2], fun _ => rfl, by decide, fun p u hu => by
  simp at hu
  rcases hu with rfl | rfl <;> rfl⟩
def AnyLv : Lv → Prop := fun _ => True
theorem lv_dec : ∀ vs : List Value, Row.Oks [.int .i64, .int .i64] vs → ∃ z : Lv, lvS.enc z = vs ∧ AnyLv z := fun vs h => by
  obtain ⟨h1, h2⟩ := h
  obtain ⟨v0, e0, n0, rfl, _⟩ := h2 0 _ rfl
  obtain ⟨v1, e1, n1, rfl, _⟩ := h2 1 _ rfl
  match vs, h1 with
  | [a, b], _ =>
    simp at e0 e1
    subst e0 e1
    exact ⟨(n0, n1), rfl, trivial⟩
theorem live_first : firstT [800, 1600] = 1600 := by decide
theorem live_upper : upperT (1600, 0) = 400 := by decide
theorem live_lower : lowerT (1600, 0) = 200 := by decide
theorem live_signal : signalT (1600, 0) [800] = (1500, 0) := by decide
set_option maxHeartbeats 1000000 in
theorem live_k (w : World) : Calls Try.prog 16 #[] w fun e w' => e = .returned (.bool true) ∧ Below w.heap.size w w' := by
  have hB1 := (Below.refl w.heap.size w).alloc (Nat.le_refl _) (.cells #[.int .i64 800, .int .i64 1600] 2)
  have hV1 : Vals (w.alloc (.cells #[.int .i64 800, .int .i64 1600] 2)) (some ⟨w.heap.size, 0, none⟩) 2 [800, 1600] := Vals.has (ys := [800, 1600]) (tl := []) (Has.new w _ _)
  have hfi := first_any _ 2 2 _ _ hV1 (by omega)
  rw [live_first] at hfi
  have hg := fun (W : World) (x y : Operand) => guard_eql W x y 1600 0 1600 0
  have hc : ∀ W : World, (binOp .eql 23 (.agg #[.int .i64 1600, .int .i64 0]) (.agg #[.int .i64 1600, .int .i64 0])).run Try.prog W = .ok (.bool true) W := fun W => by rw [eql_lv]; simp
  have hg2 := fun (W : World) (x y : Operand) => guard_eql W x y 1500 0 1500 0
  have hc2 : ∀ W : World, (binOp .eql 23 (.agg #[.int .i64 1500, .int .i64 0]) (.agg #[.int .i64 1500, .int .i64 0])).run Try.prog W = .ok (.bool true) W := fun W => by rw [eql_lv]; simp
  have hup := fun W => upper_any 1600 0 W
  rw [live_upper] at hup
  have hlo := fun W => lower_any 1600 0 W
  rw [live_lower] at hlo
  have hsi := fun A W hv => signal_any A 1 1 [800] 1600 0 W hv (by omega)
  rw [live_signal] at hsi
  have hV8 : ∀ W : World, Vals (W.alloc (.cells #[.int .i64 800] 2)) (some ⟨W.heap.size, 0, none⟩) 1 [800] := fun W => Vals.has (ys := [800]) (tl := []) (Has.new W _ _)
  unfold lvV at hsi hfi
  go_enter Try.func16, Try.ntmps16
  go_wp2_with (first
    | (go_at_call 8; (go_must (refine Calls.mono (by exact hfi) ?_); rintro e W1 ⟨rfl, hBx⟩; have hB2 := hB1.trans (hBx.mono hB1.size); have hB3 := hB2.alloc hB2.size (.cells #[.int .i64 1600, .int .i64 0] 23); have hH3 := Has.new W1 23 #[.int .i64 1600, .int .i64 0]; have c0 := hH3.cell 0; have c1 := hH3.cell 1; clear hBx))
    | (go_at_call 17; (go_must (refine Calls.mono (by exact hup _) ?_); rintro e W2 ⟨rfl, hBx⟩; have hB4 := hB3.trans (hBx.mono hB3.size); have hH4 := hH3.below hBx hH3.lt; have d0 := hH4.cell 0; have d1 := hH4.cell 1; clear hBx))
    | (go_at_call 19; (go_must (refine Calls.mono (by exact hlo _) ?_); rintro e W3 ⟨rfl, hBx⟩; have hB5 := hB4.trans (hBx.mono hB4.size); have hH5 := hH4.below hBx hH4.lt; have e0 := hH5.cell 0; have e1 := hH5.cell 1; have hB6 := hB5.alloc hB5.size (.cells #[.int .i64 800] 2); clear hBx))
    | (go_at_call 10; (go_must (refine Calls.mono (by exact hsi _ _ (hV8 _)) ?_); rintro e W4 ⟨rfl, hBx⟩; have hB7 := hB6.trans (hBx.mono hB6.size); clear hBx)))
  go_ret
  exact ⟨rfl, hB7⟩
end Go.Proofs.Ythhjgdephhfdhaa.Level
