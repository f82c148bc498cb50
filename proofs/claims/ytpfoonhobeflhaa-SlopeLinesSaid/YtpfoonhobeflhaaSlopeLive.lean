/- The chapter's examples of layer 13: so they are. -/
import Derived.Test.YtpfoonhobeflhaaSlopeCalls
import Derived.Test.YtpfoonhobeflhaaSlopeRef
import Derived.Test.YtpfoonhobeflhaaSlopeSquare
set_option linter.unusedSimpArgs false
set_option linter.unusedVariables false
namespace Go.Proofs.Ytpfoonhobeflhaa.Slope
open Go.RowKit RI64
set_option maxHeartbeats 1000000 in
theorem live_k (w : World) : Calls Try.prog 13 #[] w fun e w' => e = .returned (.bool true) ∧ Below w.heap.size w w' := by
  have hnew := new_any w
  unfold NewIs at hnew
  have hbl := fun b S A W hF hv hf => kit.block_any b S [] A 6 6 [8, 0, 0, 0, 0, 0] W hF hv (by omega) (by omega) (by omega) hf
  unfold BlockIs at hbl
  have ho : outsT slopeT [] [8, 0, 0, 0, 0, 0] = [2, 1, 0, -1, -2, 0] := by decide
  have hV : ∀ W : World, Vals (W.alloc (.cells #[.int .i64 8, .int .i64 0, .int .i64 0, .int .i64 0, .int .i64 0, .int .i64 0] 2)) (some ⟨W.heap.size, 0, none⟩) 6 [8, 0, 0, 0, 0, 0] := fun W => Vals.has (ys := [8, 0, 0, 0, 0, 0]) (tl := []) (Has.new W _ _)
  have hU : ∀ W : World, Vals (W.alloc (.cells #[.int .i64 2, .int .i64 1, .int .i64 0, .int .i64 (-1), .int .i64 (-2), .int .i64 0] 2)) (some ⟨W.heap.size, 0, none⟩) 6 [2, 1, 0, -1, -2, 0] := fun W => Vals.has (ys := [2, 1, 0, -1, -2, 0]) (tl := []) (Has.new W _ _)
  rw [ho] at hbl
  rw [show ([8, 0, 0, 0, 0, 0] : List Int).length = 6 from rfl] at hbl
  clear ho
  have hs1 := fun W => square_any 8192 W (by unfold fits64; omega)
  rw [show squareT 8192 = 67108864 from rfl] at hs1
  have hs2 := fun W => square_any (-3) W (by unfold fits64; omega)
  rw [show squareT (-3) = 9 from rfl] at hs2
  go_enter Try.func13, Try.ntmps13
  go_wp2_with (first
    | (go_at_call 7; ((with_reducible refine hnew.mono ?_); rintro e w1 ⟨b, S, rfl, hF, hS, hB⟩; have hF1 := kit.kept hF ((Kept.refl [] w1).alloc (.cells #[.int .i64 8, .int .i64 0, .int .i64 0, .int .i64 0, .int .i64 0, .int .i64 0] 2)) (fun _ _ h => by cases h); have hB1 := hB.alloc hB.size (.cells #[.int .i64 8, .int .i64 0, .int .i64 0, .int .i64 0, .int .i64 0, .int .i64 0] 2); have hlt := kit.lt hF))
    | (go_at_call 9; ((with_reducible refine (hbl b S _ _ hF1 (hV w1) (fun _ x hx hm => by cases hx; have := hlt _ hm; simp at this)).mono ?_); rintro e w2 ⟨B, d, rfl, _, _, hV2, _, _, hK2⟩; have hB2 := below_kept hB1 hK2 hB1.size hS; have hsm := same_yes B (some ⟨w2.heap.size, 0, none⟩) 6 d 6 [2, 1, 0, -1, -2, 0] _ (hV2.alloc (.cells #[.int .i64 2, .int .i64 1, .int .i64 0, .int .i64 (-1), .int .i64 (-2), .int .i64 0] 2)) (hU w2) (by omega); have hB3 := hB2.alloc hB2.size (.cells #[.int .i64 2, .int .i64 1, .int .i64 0, .int .i64 (-1), .int .i64 (-2), .int .i64 0] 2)))
    | (go_at_call 8; ((with_reducible refine hsm.mono ?_); rintro e w4 ⟨rfl, z, rfl⟩; have hB4 := below_drewN hB3 z))
    | (go_at_call 14; ((with_reducible refine (hs1 _).mono ?_); rintro e w5 ⟨rfl, hB5⟩; have hB6 := hB4.trans (hB5.mono hB4.size)))
    | (go_at_call 14; ((with_reducible refine (hs2 _).mono ?_); rintro e w7 ⟨rfl, hB7⟩; have hB8 := hB6.trans (hB7.mono hB6.size))))
  go_ret
  exact ⟨rfl, hB8⟩
end Go.Proofs.Ytpfoonhobeflhaa.Slope
