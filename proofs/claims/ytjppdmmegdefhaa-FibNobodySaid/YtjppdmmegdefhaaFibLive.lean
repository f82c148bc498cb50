/- The chapter's example of layer 21: so it is. -/
import Derived.Test.YtjppdmmegdefhaaFibKit
set_option linter.unusedSimpArgs false
set_option linter.unusedVariables false
namespace Go.Proofs.Ytjppdmmegdefhaa.Fib
open Go.RowKit RI64
set_option maxHeartbeats 1000000 in
theorem live_k {Cnt : World → Nat → List Nat → Int → List Int → Prop} (K : FibKit Cnt) (w : World) : Calls Try.prog 8 #[] w fun e w' => e = .returned (.bool true) ∧ Below w.heap.size w w' := by
  have hnew := K.new_yes w 5 (by omega)
  have hV : ∀ W : World, Vals (W.alloc (.cells #[.int .i64 0, .int .i64 5, .int .i64 9, .int .i64 4, .int .i64 5] 2)) (some ⟨W.heap.size, 0, none⟩) 5 [0, 5, 9, 4, 5] := fun W => Vals.has (ys := [0, 5, 9, 4, 5]) (tl := []) (Has.new W _ _)
  go_enter Try.func8, Try.ntmps8
  go_wp2_with (first
    | (go_at_call 7; ((with_reducible refine hnew.mono ?_); rintro e W1 ⟨b, S, rfl, hP, hfar, hB1⟩; have hP1 := K.alloc hP (.cells #[.int .i64 0, .int .i64 5, .int .i64 9, .int .i64 4, .int .i64 5] 2); have hB2 := hB1.alloc hB1.size (.cells #[.int .i64 0, .int .i64 5, .int .i64 9, .int .i64 4, .int .i64 5] 2); have had := K.push_any _ b S 5 [] _ 5 5 _ hP1 (hV W1) (by omega) (fun x _ hx => by injection hx with hx; subst hx; intro hk; exact Nat.lt_irrefl _ ((K.lt hP).2 _ hk)); rw [show countT 5 ([0, 5, 9, 4, 5].reverse ++ []) = 2 from live_count] at had))
    | (go_at_call 11; ((with_reducible refine had.mono ?_); rintro e W2 ⟨rfl, hP2, hK2⟩; have hB3 := below_kept hB2 hK2 hB2.size hfar; have hme := K.count_any W2 b S _ _ hP2; rw [show countT 5 ([0, 5, 9, 4, 5].reverse ++ []) = 2 from live_count] at hme))
    | (go_at_call 10; ((with_reducible refine hme.mono ?_); rintro e W3 ⟨rfl, hB⟩; have hB4 := hB3.trans (hB.mono hB3.size); have hP3 := K.below hP2 hB; have hl1 := K.height_any W3 b S _ _ hP3))
    | (go_at_call 13; ((with_reducible refine hl1.mono ?_); rintro e W4 ⟨rfl, hB⟩; have hB5 := hB4.trans (hB.mono hB4.size))))
  go_ret
  exact ⟨rfl, hB5⟩
theorem nobody_k {Cnt : World → Nat → List Nat → Int → List Int → Prop} (K : FibKit Cnt) (a0 : Int) (w : World) : Calls Try.prog 6 #[.int .i64 a0] w fun e w' => e = .returned (.bool true) ∧ Below w.heap.size w w' := by
  have hli := fun W => live_k K W
  have h1 := K.no_reset w
  go_enter Try.func6, Try.ntmps6
  go_wp2_with (first
    | (go_at_call 9; ((with_reducible refine h1.mono ?_); rintro e W1 ⟨rfl, hB1⟩; have hB2 := hB1.alloc hB1.size (.cells #[.int .i64 a0, .int .i64 0, .int .i64 a0] 2)))
    | (go_at_call 11; ((with_reducible refine (K.no_push _ _ _ _).mono ?_); rintro e W2 ⟨rfl, hB⟩; have hB3 := hB2.trans (hB.mono hB2.size)))
    | (go_at_call 10; ((with_reducible refine (K.no_count _).mono ?_); rintro e W3 ⟨rfl, hB⟩; have hB4 := hB3.trans (hB.mono hB3.size)))
    | (go_at_call 13; ((with_reducible refine (K.no_height _).mono ?_); rintro e W4 ⟨rfl, hB⟩; have hB5 := hB4.trans (hB.mono hB4.size)))
    | (go_at_call 8; ((with_reducible refine (hli _).mono ?_); rintro e W5 ⟨rfl, hB⟩; have hB6 := hB5.trans (hB.mono hB5.size))))
  go_ret
  exact ⟨rfl, hB6⟩
end Go.Proofs.Ytjppdmmegdefhaa.Fib
