/- The chapter's example of layer 11: so it is. -/
import Derived.Test.YtnecdglokkljfaaLowCalls
import Derived.Test.YtnecdglokkljfaaLowRef
set_option linter.unusedSimpArgs false
set_option linter.unusedVariables false
namespace Go.Proofs.Ytnecdglokkljfaa.Low
open Go.RowKit RI64
set_option maxHeartbeats 1000000 in
theorem live_k (w : World) : Calls Try.prog 13 #[] w fun e w' => e = .returned (.bool true) ∧ Below w.heap.size w w' := by
  have hnew := new_any w
  unfold NewIs at hnew
  have hbl := fun b S A W hF hv hf => kit.block_any b S [] A 12 12 [32, 0, 0, 0, 0, 0, 0, 0, 0, 0, 0, 0] W hF hv (by omega) (by omega) (by omega) hf
  unfold BlockIs at hbl
  have ho : outsT lowT [] [32, 0, 0, 0, 0, 0, 0, 0, 0, 0, 0, 0] = [1, 2, 3, 4, 5, 6, 5, 4, 3, 2, 1, 0] := by decide
  have hV : ∀ W : World, Vals (W.alloc (.cells #[.int .i64 32, .int .i64 0, .int .i64 0, .int .i64 0, .int .i64 0, .int .i64 0, .int .i64 0, .int .i64 0, .int .i64 0, .int .i64 0, .int .i64 0, .int .i64 0] 2)) (some ⟨W.heap.size, 0, none⟩) 12 [32, 0, 0, 0, 0, 0, 0, 0, 0, 0, 0, 0] := fun W => Vals.has (ys := [32, 0, 0, 0, 0, 0, 0, 0, 0, 0, 0, 0]) (tl := []) (Has.new W _ _)
  have hU : ∀ W : World, Vals (W.alloc (.cells #[.int .i64 1, .int .i64 2, .int .i64 3, .int .i64 4, .int .i64 5, .int .i64 6, .int .i64 5, .int .i64 4, .int .i64 3, .int .i64 2, .int .i64 1, .int .i64 0] 2)) (some ⟨W.heap.size, 0, none⟩) 12 [1, 2, 3, 4, 5, 6, 5, 4, 3, 2, 1, 0] := fun W => Vals.has (ys := [1, 2, 3, 4, 5, 6, 5, 4, 3, 2, 1, 0]) (tl := []) (Has.new W _ _)
  rw [ho] at hbl
  rw [show ([32, 0, 0, 0, 0, 0, 0, 0, 0, 0, 0, 0] : List Int).length = 12 from rfl] at hbl
  clear ho
  go_enter Try.func13, Try.ntmps13
  go_wp2_with (first
    | (go_at_call 7; ((with_reducible refine hnew.mono ?_); rintro e w1 ⟨b, S, rfl, hF, hS, hB⟩; have hF1 := kit.kept hF ((Kept.refl [] w1).alloc (.cells #[.int .i64 32, .int .i64 0, .int .i64 0, .int .i64 0, .int .i64 0, .int .i64 0, .int .i64 0, .int .i64 0, .int .i64 0, .int .i64 0, .int .i64 0, .int .i64 0] 2)) (fun _ _ h => by cases h); have hB1 := hB.alloc hB.size (.cells #[.int .i64 32, .int .i64 0, .int .i64 0, .int .i64 0, .int .i64 0, .int .i64 0, .int .i64 0, .int .i64 0, .int .i64 0, .int .i64 0, .int .i64 0, .int .i64 0] 2); have hlt := kit.lt hF))
    | (go_at_call 9; ((with_reducible refine (hbl b S _ _ hF1 (hV w1) (fun _ x hx hm => by cases hx; have := hlt _ hm; simp at this)).mono ?_); rintro e w2 ⟨B, d, rfl, _, _, hV2, _, _, hK2⟩; have hB2 := below_kept hB1 hK2 hB1.size hS; have hsm := same_yes B (some ⟨w2.heap.size, 0, none⟩) 12 d 12 [1, 2, 3, 4, 5, 6, 5, 4, 3, 2, 1, 0] _ (hV2.alloc (.cells #[.int .i64 1, .int .i64 2, .int .i64 3, .int .i64 4, .int .i64 5, .int .i64 6, .int .i64 5, .int .i64 4, .int .i64 3, .int .i64 2, .int .i64 1, .int .i64 0] 2)) (hU w2) (by omega); have hB3 := hB2.alloc hB2.size (.cells #[.int .i64 1, .int .i64 2, .int .i64 3, .int .i64 4, .int .i64 5, .int .i64 6, .int .i64 5, .int .i64 4, .int .i64 3, .int .i64 2, .int .i64 1, .int .i64 0] 2)))
    | (go_at_call 8; ((with_reducible refine hsm.mono ?_); rintro e w4 ⟨rfl, z, rfl⟩)))
  go_ret
  exact ⟨rfl, below_drewN hB3 z⟩
end Go.Proofs.Ytnecdglokkljfaa.Low
