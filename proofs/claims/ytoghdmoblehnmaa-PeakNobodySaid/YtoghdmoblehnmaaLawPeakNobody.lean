/- Whatever steps come in, PeakNobody answers true, and writes nothing that was there. -/
import Derived.Test.YtoghdmoblehnmaaRows
import Derived.ShutString
import Derived.ChangeOld
import Derived.Below
import Derived.Test.YtoghdmoblehnmaaLawKit
import Derived.Test.YtoghdmoblehnmaaPeakLive
import Derived.Test.YtoghdmoblehnmaaPeakArgs
import Derived.Test.YtoghdmoblehnmaaFlat
set_option linter.unusedSimpArgs false
set_option linter.unusedVariables false
namespace Go.Proofs.Ytoghdmoblehnmaa.peakNobody
open Go.ChangeShapes Go.WideShapes Go.ChangeAt Go.RowKit
open Go.ChangeMaps (open_string shut_string)
open Peak
set_option maxRecDepth 100000 in
set_option maxHeartbeats 1000000 in
theorem walk (a0 : Option Addr) (len0 cap0 : Nat) (z0 : List (Int × Int)) (w : World) (w0 : Row.IsFlat stepS AnyStep w a0 len0 cap0 z0) :
    Calls Try.prog 7 #[.slice a0 len0 cap0] w fun e w' => e = .returned (.bool true) ∧ Below w.heap.size w w' := by
  obtain ⟨p, hp⟩ : ∃ p, min len0 50 = p := ⟨_, rfl⟩
  have hp1 : p ≤ len0 := by omega
  have hminA : (if (50 : Int) < (len0 : Int) then (50 : Int) else (len0 : Int)) = (p : Int) := by split <;> omega
  obtain ⟨hV, _, hc1, hc2, hfar⟩ := w0
  have hp3 : p ≤ cap0 := by omega
  clear hp
  have hg := fun (W : World) (x y : Operand) => guard_neq W x y 0 0 0 0 0 0 0 0
  have hc : ∀ W : World, (binOp .neq 30 (.agg #[.int .i64 0, .int .i64 0, .int .i64 0, .int .i64 0]) (.agg #[.int .i64 0, .int .i64 0, .int .i64 0, .int .i64 0])).run Try.prog W = .ok (.bool false) W := fun W => by rw [neq_peak]; simp
  go_enter Try.func7, Try.ntmps7
  go_wp2_with (go_at_call 9; ((with_reducible refine (no_reset _).mono ?_); rintro e W1 ⟨rfl, rfl⟩))
  clear hminA
  go_loopw [16] (fun i wr => ∃ j : Nat, j ≤ p ∧ i = .int .i64 (j : Nat) ∧ Below w.heap.size w wr) (fun i _ => p - (intOf i).toNat)
  case atStart => exact ⟨0, by omega, rfl, Below.refl _ _⟩
  case round =>
    obtain ⟨j, hj, rfl, hB⟩ := hrel
    by_cases hjp : j < p
    · obtain ⟨x, rfl, _⟩ := hV.cells (by omega)
      obtain ⟨k0, k1⟩ := step_cells (hV.below hB) j (by omega)
      have hjz : (j : Int) < (p : Int) := by omega
      generalize (z0.getD j (0, 0)).1 = sw at *
      generalize (z0.getD j (0, 0)).2 = sd at *
      have hBa := hB.alloc hB.size (.cells #[.int .i64 sw, .int .i64 sd] 28)
      clear hV hfar
      have hpu := fun W => no_push sw sd W
      rw [show pkV none = .agg #[.int .i64 0, .int .i64 0, .int .i64 0, .int .i64 0] from rfl] at hpu
      go_wp2_with (go_at_call 10; ((with_reducible refine (hpu _).mono ?_); rintro e W4 ⟨rfl, hB4⟩; have hB5 := hBa.trans (hB4.mono hBa.size); have hB6 := hB5.alloc hB5.size (.cells #[.int .i64 0, .int .i64 0, .int .i64 0, .int .i64 0] 30)))
      go_roundw
      case rel => exact ⟨j + 1, by omega, by go_num, hB6⟩
      case measure => simp [intOf]; omega
    · obtain rfl : j = p := by omega
      clear hV hfar
      go_wp2_with (first
        | (go_at_call 14; ((with_reducible refine (no_rising _).mono ?_); rintro e W5 ⟨rfl, rfl⟩))
        | (go_at_call 11; ((with_reducible refine (no_steps _).mono ?_); rintro e W6 ⟨rfl, rfl⟩))
        | (go_at_call 16; ((with_reducible refine (live_k _).mono ?_); rintro e W9 ⟨rfl, hN⟩)))
      go_ret
      exact ⟨rfl, hB.trans (hN.mono hB.size)⟩

theorem own : ownKnob Try.prog.godebug = none := by kernel_rfl
theorem laidOut : laidOutB Try.prog = true := by kernel_rfl

/-! ### The row's step -/
set_option maxRecDepth 100000 in
theorem lifted (os : Os) (started : os.Started) (H : Type) (enc : TypeId × Value → H) :
    ReturnsInHanded {} Try.checked os 7 .any (Rows.peakNobodySpec.pre6 enc Try.prog Try.f7 Rows.peakNobodyRow.domain false) (Rows.peakNobodySpec.post enc Try.prog Try.f7 false true false false) := by
  refine returnsInHanded_of_change (C := Try.checked) own started (by kernel_rfl) Try.func7
    (ChangeSpec.witness6 (enc := enc) (C := Try.checked) false ⟨#[], #[.slice none 0 0], []⟩ 8 (by kernel_rfl) (by kernel_rfl) (by kernel_rfl) (by kernel_rfl)) ?_
  intro W base args ds gs before hval0 hW hcnd _
  have hval : ∀ (j : Nat) t v, Try.f7.params[j]? = some t → args[j]? = some v → Value.okWide Try.prog W .any base t v := hval0
  have hW' := hW
  obtain ⟨p, q, hA0, hV, rfl, hfz, hnd⟩ := hW
  have hA : DataW.TrodAll enc Try.prog W 0 (fun _ => true) true Try.f7.params.toList args.toList ds p := hA0
  rw [Try.params7] at hA hval
  obtain ⟨v0, vs0, d0, ds0, p0, q0, hargs, rfl, rfl, h0, r0⟩ := trodAll_cons hA
  obtain ⟨rfl, rfl, rfl⟩ := trodAll_nil r0
  obtain rfl : args = #[v0] := by cases args; simp_all
  obtain ⟨rfl, rfl⟩ := trodVars_none hV
  obtain ⟨a0, len0, cap0, rfl⟩ := okWide_slice Try.underlying22 (hval 0 22 v0 rfl rfl)
  have k0 := h0
  have lt0 : ∀ x ∈ p0, x.block < W.heap.size := by obtain ⟨m, hm⟩ := k0; exact DataW.trod_lt m _ _ _ hm
  obtain ⟨z0, w0⟩ : ∃ zs, Row.IsFlat Peak.stepS Peak.AnyStep W a0 len0 cap0 zs := by
    obtain ⟨fuel, hf⟩ := h0
    exact Row.flat_of Peak.stepS Peak.AnyStep Try.underlying22 (by kernel_rfl) (by kernel_rfl) rfl Peak.step_dec (by simpa [Value.cells] using hf)
  clear hA0 hval0
  refine (walk a0 len0 cap0 z0 W w0).mono fun e W' ⟨he, bel⟩ => ?_
  subst he
  exact ⟨_, rfl, _, _, _, [], _, [], hW', trodAll_mk1 (shut_bool Try.underlying4 _), (trodAll_cons_mk (Below.trod laidOut (by kernel_rfl) (of_decide_eq_true (by kernel_rfl)) k0 bel lt0) trodAll_mk0), rfl, bel.frame _, fun h => by cases h⟩

theorem over : Rows.peakNobodyRow.holds Try.pinned (OpenSpec.ofChange Rows.peakNobodySpec) :=
  OpenClaim.holds_of_wide 7 Try.f7 rfl rfl rfl rfl rfl rfl rfl ⟨rfl, rfl, rfl, rfl, rfl⟩ rfl rfl rfl rfl rfl (by kernel_rfl) Try.func7 (by kernel_rfl)
    (of_decide_eq_true (by kernel_rfl)) (by unfold Func.isWrapper; first | (rw [if_pos (by decide +kernel)]; kernel_rfl) | (rw [if_neg (by decide +kernel)]; exact ⟨rfl, rfl⟩))
    (fun os started H enc _ => lifted os started H enc)

theorem proved : Rows.PeakNobodySaid := over
#print axioms proved
end Go.Proofs.Ytoghdmoblehnmaa.peakNobody
