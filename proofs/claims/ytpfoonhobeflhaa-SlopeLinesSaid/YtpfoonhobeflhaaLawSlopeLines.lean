/- Whatever values ahead, first value and step come in, SlopeLines answers true, and writes nothing that was there. -/
import Derived.Test.YtpfoonhobeflhaaRows
import Derived.ShutString
import Derived.ChangeOld
import Derived.Below
import Derived.Test.YtpfoonhobeflhaaLawKit
import Derived.Test.YtpfoonhobeflhaaSlopeLive
set_option linter.unusedSimpArgs false
set_option linter.unusedVariables false
namespace Go.Proofs.Ytpfoonhobeflhaa.slopeLines
open Go.ChangeShapes Go.WideShapes Go.ChangeAt Go.RowKit
open Go.ChangeMaps (open_string shut_string)
open RI64 Slope
theorem step_bd (n : Int) : -999 ≤ Int.tmod n 1000 ∧ Int.tmod n 1000 ≤ 999 := by
  have h1 := Int.tmod_lt_of_pos n (show (0 : Int) < 1000 by omega)
  have h2 := Int.lt_tmod_of_pos n (show (0 : Int) < 1000 by omega)
  omega
set_option maxRecDepth 100000 in
set_option maxHeartbeats 2000000 in
theorem walk (a0 : Option Addr) (len0 cap0 : Nat) (z0 : List Int) (a1 a2 : Int) (w : World) (w0 : IsRow .i64 w a0 len0 cap0 z0) (w1 : (Lit.int .i16 a1).wf = true) (w2 : (Lit.int .i16 a2).wf = true) :
    Calls Try.prog 6 #[.slice a0 len0 cap0, .int .i16 a1, .int .i16 a2] w fun e w' => e = .returned (.bool true) ∧ Below w.heap.size w w' := by
  have b1 := bounds_i16 w1
  have b2 := bounds_i16 w2
  clear w1 w2
  obtain ⟨p, hp⟩ : ∃ p, min len0 50 = p := ⟨_, rfl⟩
  have hp1 : p ≤ len0 := by omega
  have hp2 : p ≤ 50 := by omega
  have hminA : (if (50 : Int) < (len0 : Int) then (50 : Int) else (len0 : Int)) = (p : Int) := by split <;> omega
  obtain ⟨hV, hc1, hc2, hltb⟩ := row_vals w0 p hp1
  clear w0 hp
  generalize z0.take p = ys at *
  have hp3 : p ≤ cap0 := by omega
  have hnew := fun W => new_any W
  unfold NewIs at hnew
  have hk := step_bd a2
  go_enter Try.func6, Try.ntmps6
  go_wp2_with (first
    | (go_at_call 7; ((with_reducible refine (hnew _).mono ?_); rintro e W1 ⟨bx, Sx, rfl, hFx, hSx, hC1⟩; have hbl := kit.block_any bx Sx [] a0 p cap0 ys W1 hFx (hV.below hC1) (by omega) hp3 hc2 (fun h0 x hx hm => by have h1 := hltb x h0 hx; have h2 := hSx _ hm; omega)))
    | (go_at_call 9; ((with_reducible refine hbl.mono ?_); rintro e W2 ⟨B2, d2, rfl, _, _, _, _, hF2, hK2⟩; have hC2 := below_kept hC1 hK2 hC1.size hSx)))
  clear hminA hnew hbl hFx hK2 b2
  generalize ys.reverse ++ [] = h0 at *
  generalize Int.tmod a2 1000 = k at *
  go_loopw [22] (fun i wr => ∃ j : Nat, j ≤ 20 ∧ i = .int .i64 (j : Nat) ∧ kit.Fil wr bx Sx (lineT a1 k j ++ h0) ∧ Kept Sx W2 wr) (fun i _ => 20 - (intOf i).toNat)
  case atStart => exact ⟨0, by omega, rfl, hF2, Kept.refl Sx W2⟩
  case round =>
    clear hF2
    obtain ⟨j, hj, rfl, hF, hK⟩ := hrel
    by_cases hjn : j < 20
    · have hpu := kit.push_any bx Sx (lineT a1 k j ++ h0) (a1 + 4 * k * (j : Int)) wr hF
      rw [show (a1 + 4 * k * (j : Int)) :: (lineT a1 k j ++ h0) = lineT a1 k (j + 1) ++ h0 from rfl] at hpu
      have hev := fun (hl : 4 ≤ (j : Int)) => slope_line a1 k h0 j hl hjn b1 hk
      have hrb := rise_bd a1 k j hjn b1 hk
      clear hF
      generalize slopeT (lineT a1 k (j + 1) ++ h0) = r at *
      have hjz : (j : Int) < 20 := by omega
      by_cases hlate : 4 ≤ (j : Int)
      · obtain rfl := hev hlate
        go_wp2_with (go_at_call 12; ((with_reducible refine hpu.mono ?_); rintro e W4 ⟨rfl, hF4, hK4⟩; have hK5 := hK.trans hK4))
        go_roundw
        case rel => exact ⟨j + 1, by omega, by go_num, hF4, hK5⟩
        case measure => simp [intOf]; omega
      · clear hev
        go_wp2_with (go_at_call 12; ((with_reducible refine hpu.mono ?_); rintro e W4 ⟨rfl, hF4, hK4⟩; have hK5 := hK.trans hK4))
        go_roundw
        case rel => exact ⟨j + 1, by omega, by go_num, by exact hF4, hK5⟩
        case measure => simp [intOf]; omega
    · obtain rfl : j = 20 := by omega
      have hC := below_kept hC2 hK hC2.size hSx
      go_wp2_with (go_at_call 13; ((with_reducible refine (live_k _).mono ?_); rintro e W9 ⟨rfl, hN⟩))
      go_ret
      exact ⟨rfl, hC.trans (hN.mono hC.size)⟩

theorem own : ownKnob Try.prog.godebug = none := by kernel_rfl
theorem laidOut : laidOutB Try.prog = true := by kernel_rfl

/-! ### The row's step -/
set_option maxRecDepth 100000 in
theorem lifted (os : Os) (started : os.Started) (H : Type) (enc : TypeId × Value → H) :
    ReturnsInHanded {} Try.checked os 6 .any (Rows.slopeLinesSpec.pre6 enc Try.prog Try.f6 Rows.slopeLinesRow.domain false) (Rows.slopeLinesSpec.post enc Try.prog Try.f6 false true false false) := by
  refine returnsInHanded_of_change (C := Try.checked) own started (by kernel_rfl) Try.func6
    (ChangeSpec.witness6 (enc := enc) (C := Try.checked) false ⟨#[], #[.slice none 0 0, .int .i16 0, .int .i16 0], []⟩ 8 (by kernel_rfl) (by kernel_rfl) (by kernel_rfl) (by kernel_rfl)) ?_
  intro W base args ds gs before hval0 hW hcnd _
  have hval : ∀ (j : Nat) t v, Try.f6.params[j]? = some t → args[j]? = some v → Value.okWide Try.prog W .any base t v := hval0
  have hW' := hW
  obtain ⟨p, q, hA0, hV, rfl, hfz, hnd⟩ := hW
  have hA : DataW.TrodAll enc Try.prog W 0 (fun _ => true) true Try.f6.params.toList args.toList ds p := hA0
  rw [Try.params6] at hA hval
  obtain ⟨v0, vs0, d0, ds0, p0, q0, hargs, rfl, rfl, h0, r0⟩ := trodAll_cons hA
  obtain ⟨v1, vs1, d1, ds1, p1, q1, rfl, rfl, rfl, h1, r1⟩ := trodAll_cons r0
  obtain ⟨v2, vs2, d2, ds2, p2, q2, rfl, rfl, rfl, h2, r2⟩ := trodAll_cons r1
  obtain ⟨rfl, rfl, rfl⟩ := trodAll_nil r2
  obtain rfl : args = #[v0, v1, v2] := by cases args; simp_all
  obtain ⟨rfl, rfl⟩ := trodVars_none hV
  obtain ⟨a0, len0, cap0, rfl⟩ := okWide_slice Try.underlying22 (hval 0 22 v0 rfl rfl)
  have k0 := h0
  have lt0 : ∀ x ∈ p0, x.block < W.heap.size := by obtain ⟨m, hm⟩ := k0; exact DataW.trod_lt m _ _ _ hm
  obtain ⟨z0, w0⟩ : ∃ zs, IsRow .i64 W a0 len0 cap0 zs := by
    obtain ⟨fuel, hf⟩ := h0
    rcases open_ints Try.underlying22 Try.underlying2 (by kernel_rfl) hf with ⟨hcs, _⟩ | ⟨x, l, c, zs, hcs, hx, hl, hm, hz, _, hcell, hwz⟩
    · simp [Value.cells] at hcs
      obtain ⟨rfl, rfl, rfl⟩ := hcs
      exact ⟨[], .inl ⟨rfl, rfl, rfl, rfl⟩⟩
    · simp [Value.cells] at hcs
      obtain ⟨rfl, rfl, rfl⟩ := hcs
      exact ⟨zs, isRow_some hl hm (by simpa using hz) hcell hwz⟩
  obtain ⟨a1, rfl, rfl, rfl, w1⟩ := open_int Try.underlying35 (hval 1 35 v1 rfl rfl) h1
  obtain ⟨a2, rfl, rfl, rfl, w2⟩ := open_int Try.underlying35 (hval 2 35 v2 rfl rfl) h2
  clear hA0 hval0
  refine (walk a0 len0 cap0 z0 a1 a2 W w0 w1 w2).mono fun e W' ⟨he, bel⟩ => ?_
  subst he
  exact ⟨_, rfl, _, _, _, [], _, [], hW', trodAll_mk1 (shut_bool Try.underlying4 _), (trodAll_cons_mk (Below.trod laidOut (by kernel_rfl) (of_decide_eq_true (by kernel_rfl)) k0 bel lt0) (trodAll_cons_mk (shut_int Try.underlying35 w1) (trodAll_cons_mk (shut_int Try.underlying35 w2) trodAll_mk0))), rfl, bel.frame _, fun h => by cases h⟩

theorem over : Rows.slopeLinesRow.holds Try.pinned (OpenSpec.ofChange Rows.slopeLinesSpec) :=
  OpenClaim.holds_of_wide 6 Try.f6 rfl rfl rfl rfl rfl rfl rfl ⟨rfl, rfl, rfl, rfl, rfl⟩ rfl rfl rfl rfl rfl (by kernel_rfl) Try.func6 (by kernel_rfl)
    (of_decide_eq_true (by kernel_rfl)) (by unfold Func.isWrapper; first | (rw [if_pos (by decide +kernel)]; kernel_rfl) | (rw [if_neg (by decide +kernel)]; exact ⟨rfl, rfl⟩))
    (fun os started H enc _ => lifted os started H enc)

theorem proved : Rows.SlopeLinesSaid := over
#print axioms proved
end Go.Proofs.Ytpfoonhobeflhaa.slopeLines
