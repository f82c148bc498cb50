/- The chapter's example of layer 9. -/
import Derived.Test.YtlopkmbindfkjaaLeadKit
set_option linter.unusedSimpArgs false
set_option linter.unusedVariables false
namespace Go.Proofs.Ytlopkmbindfkjaa.Lead
open Go.RowKit
theorem eql_it (W : World) (k a v k' a' v' : Int) : (binOp .eql 40 (.agg #[.int .i64 k, .int .i64 a, .int .i32 v]) (.agg #[.int .i64 k', .int .i64 a', .int .i32 v'])).run Try.prog W = .ok (.bool (decide (k = k' ∧ a = a' ∧ v = v'))) W := by
  have ht : Try.prog.underlying 40 = some (.struct (Try.prog.fieldsOf 40)) := by kernel_rfl
  have hst : Try.prog.stoodInHeld 40 = false := by kernel_rfl
  rw [run_eql_struct, run_equalIn_agg W 9999 40 _ _ ht hst]
  simp only [Program.fieldsOf, Try.underlying40]
  simp [go_sem, Op.eqFields]
  by_cases h1 : k = k' <;> by_cases h2 : a = a' <;> by_cases h3 : v = v' <;> simp [h1, h2, h3]
theorem guard_eql (W : World) (x y : Operand) (k a v k' a' v' : Int) : (eqGuard .eql 40 x y (.agg #[.int .i64 k, .int .i64 a, .int .i32 v]) (.agg #[.int .i64 k', .int .i64 a', .int .i32 v'])).run Try.prog W = .ok () W := run_eqGuard_agg W _ _ _ _ _ _ (by kernel_rfl)
theorem it_cells_at {w : World} {x : Addr} {len : Nat} {ys : List It} (h : Row.Vals itS w (some x) len ys) (i o : Nat) (hi : i < len) (ho : o = i * 3) (h0 : o ≠ 0) :
    w.cell? ⟨x.block, x.off + o, none⟩ = some (.int .i64 (ys.getD i noIt).1) ∧ w.cell? ⟨x.block, x.off + o + 1, none⟩ = some (.int .i64 (ys.getD i noIt).2.1) ∧ w.cell? ⟨x.block, x.off + o + 2, none⟩ = some (.int .i32 (ys.getD i noIt).2.2) := by
  have h1 := it_cells h i hi
  subst ho
  unfold Addr.add at h1
  rw [if_neg h0] at h1
  exact h1
theorem live_items : itemsT (samplesT 20 0 true) = (List.range 19).map (fun i : Nat => ((4 : Int), (i : Int), (3 : Int))) ++ [(2, 19, 0), (5, 19, 0)] := by decide
set_option maxHeartbeats 1000000 in
theorem live_k (K : LeadKit) (w : World) : Calls Try.prog 15 #[] w fun e w' => e = .returned (.bool true) ∧ Below w.heap.size w w' := by
  have hs := samples_any 20 0 true w (by omega) (by omega)
  rw [show ((20 : Nat) : Int) = 20 from rfl, show ((0 : Nat) : Int) = 0 from rfl] at hs
  have hg := fun (W : World) (x y : Operand) (k a v : Int) => guard_eql W x y k a v k a v
  have hc : ∀ (W : World) (k a v : Int), (binOp .eql 40 (.agg #[.int .i64 k, .int .i64 a, .int .i32 v]) (.agg #[.int .i64 k, .int .i64 a, .int .i32 v])).run Try.prog W = .ok (.bool true) W := fun W k a v => by rw [eql_it]; simp
  have hi := fun A c ys W => K.items_any A 20 c ys W
  have h18 : (itemsT (samplesT 20 0 true)).getD 18 noIt = (4, 18, 3) := by rw [live_items]; decide
  have h19 : (itemsT (samplesT 20 0 true)).getD 19 noIt = (2, 19, 0) := by rw [live_items]; decide
  have h20 : (itemsT (samplesT 20 0 true)).getD 20 noIt = (5, 19, 0) := by rw [live_items]; decide
  have hlen : (itemsT (samplesT 20 0 true)).length = 21 := by rw [live_items]; decide
  go_enter Try.func15, Try.ntmps15
  go_wp2_with (first
    | (go_at_call 13; ((with_reducible refine hs.mono ?_); rintro e W1 ⟨A1, c1, rfl, g1, g2, hV1, hf1, hB1⟩))
    | (go_at_call 14; ((with_reducible refine (hi _ _ _ _ hV1 (by omega) g1 g2).mono ?_); rintro e W2 ⟨B, m, d, rfl, g3, g4, hV2, hf2, hB2⟩; obtain rfl := hV2.len_.symm.trans hlen; obtain ⟨x, rfl, _⟩ := hV2.cells (by omega); obtain ⟨p0, p1, p2⟩ := it_cells_at hV2 18 54 (by omega) rfl (by omega); obtain ⟨q0, q1, q2⟩ := it_cells_at hV2 19 57 (by omega) rfl (by omega); obtain ⟨r0, r1, r2⟩ := it_cells_at hV2 20 60 (by omega) rfl (by omega); rw [h18] at p0 p1 p2; rw [h19] at q0 q1 q2; rw [h20] at r0 r1 r2; dsimp only at p0 p1 p2 q0 q1 q2 r0 r1 r2; have hB := hB1.trans (hB2.mono hB1.size); clear hV2 hV1 hi hs)))
  go_ret
  exact ⟨rfl, hB⟩
end Go.Proofs.Ytlopkmbindfkjaa.Lead
