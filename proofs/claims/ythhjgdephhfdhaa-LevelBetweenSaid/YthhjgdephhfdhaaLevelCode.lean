/- What the landed level's calls on numbers and levels answer. -/
import Derived.Test.YthhjgdephhfdhaaLevelMath
import Derived.Test.YthhjgdephhfdhaaFixqA
import Derived.Test.YthhjgdephhfdhaaArgsJ
import Derived.Test.YthhjgdephhfdhaaRegion
import Derived.Test.YthhjgdephhfdhaaRegionMore
import Derived.Laws.StructEq
import Derived.Lib.Hide
import Derived.ProofKit
import Derived.Handy
set_option linter.unusedSimpArgs false
set_option linter.unusedVariables false
namespace Go.Proofs.Ythhjgdephhfdhaa.Level
open Go.RowKit RI64
/-- Two cells of a level's block, as a block. -/
theorem eql_lv (W : World) (a b a' b' : Int) : (binOp .eql 23 (.agg #[.int .i64 a, .int .i64 b]) (.agg #[.int .i64 a', .int .i64 b'])).run Try.prog W = .ok (.bool (decide (a = a' ∧ b = b'))) W := by
  have ht : Try.prog.underlying 23 = some (.struct (Try.prog.fieldsOf 23)) := by kernel_rfl
  have hst : Try.prog.stoodInHeld 23 = false := by kernel_rfl
  rw [run_eql_struct, run_equalIn_agg W 9999 23 _ _ ht hst]
  simp only [Program.fieldsOf, Try.underlying23]
  simp [go_sem, Op.eqFields]
  by_cases h1 : a = a' <;> by_cases h2 : b = b' <;> simp [h1, h2]
theorem guard_eql (W : World) (x y : Operand) (a b a' b' : Int) : (eqGuard .eql 23 x y (.agg #[.int .i64 a, .int .i64 b]) (.agg #[.int .i64 a', .int .i64 b'])).run Try.prog W = .ok () W := run_eqGuard_agg W _ _ _ _ _ _ (by kernel_rfl)
theorem counted_any (n : Int) (w : World) : Calls Try.prog 25 #[.int .i64 n] w fun e w' => e = .returned (.int .i64 (nearB n)) ∧ w = w' := by
  unfold nearB
  go_enter Try.func25, Try.ntmps25
  go_wp2_with (go_at_call 32; ((with_reducible refine (clamp_any _ _ _ _).mono ?_); rintro e w' ⟨rfl, rfl⟩))
  go_ret
  exact ⟨rfl, rfl⟩
theorem towards_8 (a b : Int) (w : World) (ha : 0 ≤ a ∧ a ≤ 62914560) (hb : 0 ≤ b ∧ b ≤ 62914560) :
    Calls Try.prog 30 #[.int .i64 a, .int .i64 b, .int .i64 3] w fun e w' => e = .returned (.int .i64 (goes a b 8)) ∧ w = w' := by
  have hg := goes_bd a b 8 (.inl rfl) ha hb
  have hs := fun W => shift_any (b - a) 3 W (by omega)
  rw [show (2 : Int) ^ min (Int.toNat 3) 64 = 8 from rfl] at hs
  have hd : -62914560 ≤ b - a ∧ b - a ≤ 62914560 := by omega
  unfold goes at hg ⊢
  clear ha hb
  generalize hq : (b - a) / 8 = q at *
  clear hq
  go_enter Try.func30, Try.ntmps30
  go_wp2_with (go_at_call 31; ((refine Calls.mono (by exact hs _) ?_); rintro e w' ⟨rfl, rfl⟩))
  go_ret
  exact ⟨rfl, rfl⟩
theorem towards_4 (a b : Int) (w : World) (ha : 0 ≤ a ∧ a ≤ 62914560) (hb : 0 ≤ b ∧ b ≤ 62914560) :
    Calls Try.prog 30 #[.int .i64 a, .int .i64 b, .int .i64 2] w fun e w' => e = .returned (.int .i64 (goes a b 4)) ∧ w = w' := by
  have hg := goes_bd a b 4 (.inr rfl) ha hb
  have hs := fun W => shift_any (b - a) 2 W (by omega)
  rw [show (2 : Int) ^ min (Int.toNat 2) 64 = 4 from rfl] at hs
  have hd : -62914560 ≤ b - a ∧ b - a ≤ 62914560 := by omega
  unfold goes at hg ⊢
  clear ha hb
  generalize hq : (b - a) / 4 = q at *
  clear hq
  go_enter Try.func30, Try.ntmps30
  go_wp2_with (go_at_call 31; ((refine Calls.mono (by exact hs _) ?_); rintro e w' ⟨rfl, rfl⟩))
  go_ret
  exact ⟨rfl, rfl⟩
theorem as_counted (a b : Int) (w : World) : Calls Try.prog 27 #[.agg #[.int .i64 a, .int .i64 b]] w fun e w' => e = .returned (.agg #[.int .i64 (nearB a), .int .i64 (nearB b)]) ∧ Below w.heap.size w w' := by
  go_enter Try.func27, Try.ntmps27
  go_wp2
  have hB0 := (Below.refl w.heap.size w).alloc (Nat.le_refl _) (.cells #[.int .i64 a, .int .i64 b] 23)
  have hH0 := Has.new w 23 #[.int .i64 a, .int .i64 b]
  have hB1 := hB0.alloc hB0.size (.cells #[.int .i64 0, .int .i64 0] 23)
  have hH1 := hH0.alloc (.cells #[.int .i64 0, .int .i64 0] 23)
  have hR1 : Has ((w.alloc (.cells #[.int .i64 a, .int .i64 b] 23)).alloc (.cells #[.int .i64 0, .int .i64 0] 23)) (w.heap.size + 1) 23 #[.int .i64 0, .int .i64 0] := by
    have h9 := Has.new (w.alloc (.cells #[.int .i64 a, .int .i64 b] 23)) 23 #[.int .i64 0, .int .i64 0]
    rwa [show (w.alloc (.cells #[.int .i64 a, .int .i64 b] 23)).heap.size = w.heap.size + 1 by simp] at h9
  generalize (w.alloc (.cells #[.int .i64 a, .int .i64 b] 23)).alloc (.cells #[.int .i64 0, .int .i64 0] 23) = W0 at *
  clear hB0 hH0
  have hHd := hH1.drew
  have hRd := hR1.drew
  have hBd : Below w.heap.size w W0.drew := below_drewN hB1 1
  have c0 := hHd.cell 0
  have c1 := hHd.cell 1
  refine Reg.begin_ (S := fun W => W.cell? ⟨w.heap.size, 0, none⟩ = some (.int .i64 a) ∧ W.cell? ⟨w.heap.size, 1, none⟩ = some (.int .i64 b)) (by kernel_rfl) (by exact ⟨c0, c1⟩) (fun hHeld => ?_)
  refine Reg.take (i := 0) (v := ?v1) rfl (by kernel_rfl) (by kernel_rfl) (by kernel_rfl) (by rfl) ?hv1 (by assumption) ?rest1
  case hv1 => first | (intro w hSw; (try dsimp only at hSw); go_simp; done) | (intro w hSw; (try dsimp only at hSw); go_simp; with_reducible rfl)
  (try simp only [Act.put, List.setIfInBounds_toArray, List.set_cons_zero, List.set_cons_succ])
  refine Reg.take (i := 1) (v := ?v2) rfl (by kernel_rfl) (by kernel_rfl) (by kernel_rfl) (by rfl) ?hv2 (by assumption) ?rest2
  case hv2 => first | (intro w hSw; (try dsimp only at hSw); go_simp; done) | (intro w hSw; (try dsimp only at hSw); go_simp; with_reducible rfl)
  (try simp only [Act.put, List.setIfInBounds_toArray, List.set_cons_zero, List.set_cons_succ])
  refine Reg.take (i := 3) (v := ?v3) rfl (by kernel_rfl) (by kernel_rfl) (by kernel_rfl) (by rfl) ?hv3 (by assumption) ?rest3
  case hv3 => first | (intro w hSw; (try dsimp only at hSw); go_simp; done) | (intro w hSw; (try dsimp only at hSw); go_simp; with_reducible rfl)
  (try simp only [Act.put, List.setIfInBounds_toArray, List.set_cons_zero, List.set_cons_succ])
  refine Reg.take (i := 4) (v := ?v4) rfl (by kernel_rfl) (by kernel_rfl) (by kernel_rfl) (by rfl) ?hv4 (by assumption) ?rest4
  case hv4 => first | (intro w hSw; (try dsimp only at hSw); go_simp; done) | (intro w hSw; (try dsimp only at hSw); go_simp; with_reducible rfl)
  (try simp only [Act.put, List.setIfInBounds_toArray, List.set_cons_zero, List.set_cons_succ])
  clear hHeld hH1 hR1 hB1
  generalize W0.drew = W1 at *
  have q0 := hRd.cell 0
  have q1 := hRd.cell 1
  have g0 := hRd.frozen 0
  have g1 := hRd.frozen 1
  have hR9 := Has.put2 hRd (.int .i64 (nearB a)) (.int .i64 (nearB b))
  have hH9 := Has.far2 hHd (c := w.heap.size + 1) (by omega) (.int .i64 (nearB a)) (.int .i64 (nearB b))
  have hB9 := below_put2 hBd (c := w.heap.size + 1) (by omega) (.int .i64 (nearB a)) (.int .i64 (nearB b))
  have r0 := hR9.cell 0
  have r1 := hR9.cell 1
  have d0 := hH9.cell 0
  have d1 := hH9.cell 1
  refine Reg.call (i := 2) rfl (by kernel_rfl) (by rfl) ?_
  intro K hK
  go_simp
  go_at_call 25
  (with_reducible refine (counted_any _ _).mono ?_)
  rintro e w1 ⟨rfl, rfl⟩
  refine hK.out _ _ (by exact ⟨c0, c1⟩) (fun hHeld => ?_)
  clear hK K
  (try simp only [Act.put, List.setIfInBounds_toArray, List.set_cons_zero, List.set_cons_succ])
  refine Reg.call (i := 5) rfl (by kernel_rfl) (by rfl) ?_
  intro K hK
  go_simp
  go_at_call 25
  (with_reducible refine (counted_any _ _).mono ?_)
  rintro e w1 ⟨rfl, rfl⟩
  refine hK.out _ _ (by exact ⟨c0, c1⟩) (fun hHeld => ?_)
  clear hK K
  (try simp only [Act.put, List.setIfInBounds_toArray, List.set_cons_zero, List.set_cons_succ])
  refine Reg.take (i := 6) (v := ?v5) rfl (by kernel_rfl) (by kernel_rfl) (by kernel_rfl) (by rfl) ?hv5 (by assumption) ?rest5
  case hv5 => first | (intro w hSw; (try dsimp only at hSw); go_simp; done) | (intro w hSw; (try dsimp only at hSw); go_simp; with_reducible rfl)
  (try simp only [Act.put, List.setIfInBounds_toArray, List.set_cons_zero, List.set_cons_succ])
  refine Reg.call (i := 7) rfl (by kernel_rfl) (by rfl) ?_
  intro K hK
  go_simp
  refine hK.out _ _ (by exact ⟨d0, d1⟩) (fun hHeld => ?_)
  clear hK K
  (try simp only [Act.put, List.setIfInBounds_toArray, List.set_cons_zero, List.set_cons_succ])
  refine Reg.done (by kernel_rfl) ?_ _
  go_wp2
  refine bodyPost_ret (v := .agg #[.int .i64 (nearB a), .int .i64 (nearB b)]) (by simp [results, Try.results27, go_sem, r0, r1]) rfl ⟨rfl, hB9⟩
end Go.Proofs.Ythhjgdephhfdhaa.Level
