/- Whatever pulses come in, PeakScaled answers true, and writes nothing that was there. -/
import Derived.Test.YtoghdmoblehnmaaRows
import Derived.ShutString
import Derived.ChangeOld
import Derived.Below
import Derived.Test.YtoghdmoblehnmaaLawKit
import Derived.Test.YtoghdmoblehnmaaPeakLive
import Derived.Test.YtoghdmoblehnmaaPeakArgs
set_option linter.unusedSimpArgs false
set_option linter.unusedVariables false
namespace Go.Proofs.Ytoghdmoblehnmaa.peakScaled
open Go.ChangeShapes Go.WideShapes Go.ChangeAt Go.RowKit
open Go.ChangeMaps (open_string shut_string)
open Peak
theorem pulse_zero (o : Option Int) (top n : Int) : Pulse o top n 0 = .falls o := rfl
set_option maxRecDepth 100000 in
set_option maxHeartbeats 2000000 in
theorem walk (a0 : Option Addr) (len0 cap0 : Nat) (z0 : List Int) (a1 : Int) (w : World) (w0 : IsRow .u32 w a0 len0 cap0 z0) (w1 : (Lit.int .u8 a1).wf = true) :
    Calls Try.prog 6 #[.slice a0 len0 cap0, .int .u8 a1] w fun e w' => e = .returned (.bool true) ∧ Below w.heap.size w w' := by
  have b1 : 0 ≤ a1 ∧ a1 ≤ 255 := bounds_u8 w1
  clear w1
  obtain ⟨p, hp⟩ : ∃ p, min len0 20 = p := ⟨_, rfl⟩
  have hp1 : p ≤ len0 := by omega
  have hp2 : p ≤ 20 := by omega
  have hminA : (if (20 : Int) < (len0 : Int) then (20 : Int) else (len0 : Int)) = (p : Int) := by split <;> omega
  obtain ⟨hc1, hc2, _, hcells⟩ := row_first bounds_u32 w0 p hp1
  clear w0 hp
  have hp3 : p ≤ cap0 := by omega
  generalize z0.take p = zs at *
  obtain ⟨m, k, hk1, hk2, hk3, hkm⟩ : ∃ (m k : Nat), 1 ≤ k ∧ k ≤ 10 ∧ a1.tmod 10 = (m : Int) ∧ 1 + (m : Int) = (k : Int) := by
    have h := Int.tmod_eq_emod_of_nonneg (a := a1) (b := 10) b1.1
    exact ⟨(a1.tmod 10).toNat, (1 + a1.tmod 10).toNat, by omega, by omega, by omega, by omega⟩
  go_enter Try.func6, Try.ntmps6
  go_wp2_with (go_at_call 8; ((with_reducible refine (new_any w).mono ?_); rintro e W1 ⟨b, rfl, hG, hs1, hB1⟩))
  clear hminA
  go_loopw [26] (fun i wr => ∃ (j N : Nat) (o : Option Int), j ≤ p ∧ i = .int .i64 (j : Nat) ∧ (j = 0 → N = 0 ∧ o = none) ∧ (0 < j → 0 < N ∧ o = some 0) ∧ N ≤ 12 * j ∧ Fil wr b (.falls o) (N : Int) ∧ Below w.heap.size w wr) (fun i _ => p - (intOf i).toNat)
  case atStart => exact ⟨0, 0, none, by omega, rfl, (fun _ => ⟨rfl, rfl⟩), (fun h => by omega), by omega, hG, hB1⟩
  case round =>
    clear hG hB1
    obtain ⟨j, N, o, hj, rfl, ho1, ho2, hN, hF, hC⟩ := hrel
    by_cases hjp : j < p
    · obtain ⟨x, rfl, hcx⟩ := hcells (by omega)
      obtain ⟨hcell0, hv1, hv2⟩ := hcx j hjp
      have hcell := (hC.cell (World.block_lt_of_cell? _ _ hcell0)).trans hcell0
      generalize zs.getD j 0 = v at *
      have hjz : (j : Int) < (p : Int) := by omega
      have hst := fun W (hF : Fil W b (.falls o) (N : Int)) => steps_any b (.falls o) (N : Int) W hF
      have ho : o = none ∨ o = some 0 := by
        rcases Nat.eq_zero_or_pos j with h | h
        · exact .inl (ho1 h).2
        · exact .inr (ho2 h).2
      obtain ⟨top, htop⟩ : ∃ top, v % 33554432 = top := ⟨_, rfl⟩
      have ht : 0 ≤ top ∧ top ≤ 33554431 := by omega
      clear hcx hcells hcell0
      go_wp2_with (go_at_call 11; ((with_reducible refine (hst _ hF).mono ?_); rintro e W3 ⟨rfl, rfl⟩))
      obtain ⟨W0, rfl⟩ : ∃ W0, W0 = wr := ⟨wr, rfl⟩
      go_loopw [36] (fun q wq => ∃ Q : Nat, Q ≤ k ∧ q = .int .i64 (Q : Nat) ∧ Fil wq b (Pulse o top (N : Int) Q) ((N : Int) + (Q : Int)) ∧ Below w.heap.size w wq) (fun q _ => k - (intOf q).toNat)
      case atStart => exact ⟨0, by omega, rfl, by rw [pulse_zero]; simpa using hF, hC⟩
      case round =>
        clear hF hC hcell hst
        obtain ⟨Q, hQ, rfl, hF, hC⟩ := hrel
        by_cases hQk : Q < k
        · have hQz : (Q : Int) < (k : Int) := by omega
          have hstp := pulse_step o ho top (N : Int) Q ht.1 (by omega)
          have hpu := fun W (hF : Fil W b (Pulse o top (N : Int) Q) ((N : Int) + (Q : Int))) => push_any b _ _ top 3 W hF (by omega)
          rw [hstp] at hpu
          dsimp only at hpu
          rw [show pkV none = .agg #[.int .i64 0, .int .i64 0, .int .i64 0, .int .i64 0] from rfl, show (none : Option Pk).isSome = false from rfl] at hpu
          clear hstp
          go_wp2_with (go_at_call 10; ((with_reducible refine (hpu _ hF).mono ?_); rintro e W4 ⟨rfl, hF4, hK4⟩; have hC4 := below_kept hC hK4 hC.size (by simpa using hs1); have hC5 := hC4.alloc hC4.size (.cells #[.int .i64 0, .int .i64 0, .int .i64 0, .int .i64 0] 30); have hF5 := hF4.alloc (.cells #[.int .i64 0, .int .i64 0, .int .i64 0, .int .i64 0] 30)))
          go_roundw
          case rel => exact ⟨Q + 1, by omega, by go_num, by rw [show (N : Int) + ((Q + 1 : Nat) : Int) = (N : Int) + (Q : Int) + 1 by omega]; exact hF5, hC5⟩
          case measure => simp [intOf]; omega
        · obtain rfl : k = Q := by omega
          have hq9 := fun W (hF : Fil W b (Pulse o top (N : Int) k) ((N : Int) + (k : Int))) => push_any b _ _ 0 9 W hF (by omega)
          have hNk : 0 ≤ (N : Int) ∧ (N : Int) ≤ 240 := by omega
          by_cases hj0 : j = 0
          · obtain ⟨hN0, rfl⟩ := ho1 hj0
            have hN1 : ¬ (0 : Int) < (N : Int) := by omega
            have hN2 : ¬ 0 < N := by omega
            have hN3 : decide (0 < N) = false := decide_eq_false hN2
            have hN4 : N + k + 2 ≤ 12 * (j + 1) := by omega
            clear hN0 ho1 ho2 ho
            rw [pulse_end0 top _ _ k (by omega) ht.1 (by omega)] at hq9
            dsimp only at hq9
            rw [show pkV none = .agg #[.int .i64 0, .int .i64 0, .int .i64 0, .int .i64 0] from rfl, show (none : Option Pk).isSome = false from rfl] at hq9
            have hz := fun W (hF : Fil W b (.falls (some 0)) ((N : Int) + (k : Int) + 1)) => push_any b (.falls (some 0)) ((N : Int) + (k : Int) + 1) 0 0 W hF (by omega)
            rw [zero_step] at hz
            dsimp only at hz
            rw [show pkV none = .agg #[.int .i64 0, .int .i64 0, .int .i64 0, .int .i64 0] from rfl, show (none : Option Pk).isSome = false from rfl] at hz
            go_wp2_with (first
              | (go_at_call 10; ((with_reducible refine (hq9 _ (by exact hF)).mono ?_); rintro e W4 ⟨rfl, hF4, hK4⟩; have hC4 := below_kept hC hK4 hC.size (by simpa using hs1); have hC5 := hC4.alloc hC4.size (.cells #[.int .i64 0, .int .i64 0, .int .i64 0, .int .i64 0] 30); have hF5 := hF4.alloc (.cells #[.int .i64 0, .int .i64 0, .int .i64 0, .int .i64 0] 30)))
              | (go_at_call 10; ((with_reducible refine (hz _ (by exact hF5)).mono ?_); rintro e W6 ⟨rfl, hF6, hK6⟩; have hC6 := below_kept hC5 hK6 hC5.size (by simpa using hs1))))
            go_roundw
            case rel => exact ⟨j + 1, N + k + 2, some 0, by omega, by go_num, (fun h => by omega), (fun _ => ⟨by omega, rfl⟩), by omega, by rw [show ((N + k + 2 : Nat) : Int) = (N : Int) + (k : Int) + 1 + 1 by omega]; exact hF6, hC6⟩
            case measure => simp [intOf]; omega
          · obtain ⟨hN0, rfl⟩ := ho2 (by omega)
            rw [pulse_end top _ _ k (by omega) ht.1 (by omega)] at hq9
            have hN0z : (0 : Int) < (N : Int) := by omega
            by_cases ht64 : 64 < top
            · rw [if_pos ht64] at hq9
              dsimp only at hq9
              rw [show pkV (some ((N : Int), (N : Int) + (k : Int), top, 9)) = .agg #[.int .i64 (N : Int), .int .i64 ((N : Int) + (k : Int)), .int .i64 top, .int .i64 9] from rfl, show (some ((N : Int), (N : Int) + (k : Int), top, (9 : Int))).isSome = true from rfl] at hq9
              have hz := fun W (hF : Fil W b (.falls (some 0)) ((N : Int) + (k : Int) + 1)) => push_any b (.falls (some 0)) ((N : Int) + (k : Int) + 1) 0 0 W hF (by omega)
              rw [zero_step] at hz
              dsimp only at hz
              rw [show pkV none = .agg #[.int .i64 0, .int .i64 0, .int .i64 0, .int .i64 0] from rfl, show (none : Option Pk).isSome = false from rfl] at hz
              go_wp2_with (first
                | (go_at_call 10; ((with_reducible refine (hq9 _ (by exact hF)).mono ?_); rintro e W4 ⟨rfl, hF4, hK4⟩; have hC4 := below_kept hC hK4 hC.size (by simpa using hs1); have hC5 := hC4.alloc hC4.size (.cells #[.int .i64 (N : Int), .int .i64 ((N : Int) + (k : Int)), .int .i64 top, .int .i64 9] 30); have hF5 := hF4.alloc (.cells #[.int .i64 (N : Int), .int .i64 ((N : Int) + (k : Int)), .int .i64 top, .int .i64 9] 30)))
                | (go_at_call 10; ((with_reducible refine (hz _ (by exact hF5)).mono ?_); rintro e W6 ⟨rfl, hF6, hK6⟩; have hC6 := below_kept hC5 hK6 hC5.size (by simpa using hs1))))
              go_roundw
              case rel => exact ⟨j + 1, N + k + 2, some 0, by omega, by go_num, (fun h => by omega), (fun _ => ⟨by omega, rfl⟩), by omega, by rw [show ((N + k + 2 : Nat) : Int) = (N : Int) + (k : Int) + 1 + 1 by omega]; exact hF6, hC6⟩
              case measure => simp [intOf]; omega
            · rw [if_neg ht64] at hq9
              dsimp only at hq9
              rw [show pkV none = .agg #[.int .i64 0, .int .i64 0, .int .i64 0, .int .i64 0] from rfl, show (none : Option Pk).isSome = false from rfl] at hq9
              have hz := fun W (hF : Fil W b (.falls (some 0)) ((N : Int) + (k : Int) + 1)) => push_any b (.falls (some 0)) ((N : Int) + (k : Int) + 1) 0 0 W hF (by omega)
              rw [zero_step] at hz
              dsimp only at hz
              rw [show pkV none = .agg #[.int .i64 0, .int .i64 0, .int .i64 0, .int .i64 0] from rfl, show (none : Option Pk).isSome = false from rfl] at hz
              go_wp2_with (first
                | (go_at_call 10; ((with_reducible refine (hq9 _ (by exact hF)).mono ?_); rintro e W4 ⟨rfl, hF4, hK4⟩; have hC4 := below_kept hC hK4 hC.size (by simpa using hs1); have hC5 := hC4.alloc hC4.size (.cells #[.int .i64 0, .int .i64 0, .int .i64 0, .int .i64 0] 30); have hF5 := hF4.alloc (.cells #[.int .i64 0, .int .i64 0, .int .i64 0, .int .i64 0] 30)))
                | (go_at_call 10; ((with_reducible refine (hz _ (by exact hF5)).mono ?_); rintro e W6 ⟨rfl, hF6, hK6⟩; have hC6 := below_kept hC5 hK6 hC5.size (by simpa using hs1))))
              go_roundw
              case rel => exact ⟨j + 1, N + k + 2, some 0, by omega, by go_num, (fun h => by omega), (fun _ => ⟨by omega, rfl⟩), by omega, by rw [show ((N + k + 2 : Nat) : Int) = (N : Int) + (k : Int) + 1 + 1 by omega]; exact hF6, hC6⟩
              case measure => simp [intOf]; omega
    · obtain rfl : j = p := by omega
      clear hcells
      go_wp2_with (go_at_call 16; ((with_reducible refine (live_k _).mono ?_); rintro e W9 ⟨rfl, hN⟩))
      go_ret
      exact ⟨rfl, hC.trans (hN.mono hC.size)⟩

theorem own : ownKnob Try.prog.godebug = none := by kernel_rfl
theorem laidOut : laidOutB Try.prog = true := by kernel_rfl

/-! ### The row's step -/
set_option maxRecDepth 100000 in
theorem lifted (os : Os) (started : os.Started) (H : Type) (enc : TypeId × Value → H) :
    ReturnsInHanded {} Try.checked os 6 .any (Rows.peakScaledSpec.pre6 enc Try.prog Try.f6 Rows.peakScaledRow.domain false) (Rows.peakScaledSpec.post enc Try.prog Try.f6 false true false false) := by
  refine returnsInHanded_of_change (C := Try.checked) own started (by kernel_rfl) Try.func6
    (ChangeSpec.witness6 (enc := enc) (C := Try.checked) false ⟨#[], #[.slice none 0 0, .int .u8 0], []⟩ 8 (by kernel_rfl) (by kernel_rfl) (by kernel_rfl) (by kernel_rfl)) ?_
  intro W base args ds gs before hval0 hW hcnd _
  have hval : ∀ (j : Nat) t v, Try.f6.params[j]? = some t → args[j]? = some v → Value.okWide Try.prog W .any base t v := hval0
  have hW' := hW
  obtain ⟨p, q, hA0, hV, rfl, hfz, hnd⟩ := hW
  have hA : DataW.TrodAll enc Try.prog W 0 (fun _ => true) true Try.f6.params.toList args.toList ds p := hA0
  rw [Try.params6] at hA hval
  obtain ⟨v0, vs0, d0, ds0, p0, q0, hargs, rfl, rfl, h0, r0⟩ := trodAll_cons hA
  obtain ⟨v1, vs1, d1, ds1, p1, q1, rfl, rfl, rfl, h1, r1⟩ := trodAll_cons r0
  obtain ⟨rfl, rfl, rfl⟩ := trodAll_nil r1
  obtain rfl : args = #[v0, v1] := by cases args; simp_all
  obtain ⟨rfl, rfl⟩ := trodVars_none hV
  obtain ⟨a0, len0, cap0, rfl⟩ := okWide_slice Try.underlying40 (hval 0 40 v0 rfl rfl)
  have k0 := h0
  have lt0 : ∀ x ∈ p0, x.block < W.heap.size := by obtain ⟨m, hm⟩ := k0; exact DataW.trod_lt m _ _ _ hm
  obtain ⟨z0, w0⟩ : ∃ zs, IsRow .u32 W a0 len0 cap0 zs := by
    obtain ⟨fuel, hf⟩ := h0
    rcases open_ints Try.underlying40 Try.underlying41 (by kernel_rfl) hf with ⟨hcs, _⟩ | ⟨x, l, c, zs, hcs, hx, hl, hm, hz, _, hcell, hwz⟩
    · simp [Value.cells] at hcs
      obtain ⟨rfl, rfl, rfl⟩ := hcs
      exact ⟨[], .inl ⟨rfl, rfl, rfl, rfl⟩⟩
    · simp [Value.cells] at hcs
      obtain ⟨rfl, rfl, rfl⟩ := hcs
      exact ⟨zs, isRow_some hl hm (by simpa using hz) hcell hwz⟩
  obtain ⟨a1, rfl, rfl, rfl, w1⟩ := open_int Try.underlying5 (hval 1 5 v1 rfl rfl) h1
  clear hA0 hval0
  refine (walk a0 len0 cap0 z0 a1 W w0 w1).mono fun e W' ⟨he, bel⟩ => ?_
  subst he
  exact ⟨_, rfl, _, _, _, [], _, [], hW', trodAll_mk1 (shut_bool Try.underlying4 _), (trodAll_cons_mk (Below.trod laidOut (by kernel_rfl) (of_decide_eq_true (by kernel_rfl)) k0 bel lt0) (trodAll_cons_mk (shut_int Try.underlying5 w1) trodAll_mk0)), rfl, bel.frame _, fun h => by cases h⟩

theorem over : Rows.peakScaledRow.holds Try.pinned (OpenSpec.ofChange Rows.peakScaledSpec) :=
  OpenClaim.holds_of_wide 6 Try.f6 rfl rfl rfl rfl rfl rfl rfl ⟨rfl, rfl, rfl, rfl, rfl⟩ rfl rfl rfl rfl rfl (by kernel_rfl) Try.func6 (by kernel_rfl)
    (of_decide_eq_true (by kernel_rfl)) (by unfold Func.isWrapper; first | (rw [if_pos (by decide +kernel)]; kernel_rfl) | (rw [if_neg (by decide +kernel)]; exact ⟨rfl, rfl⟩))
    (fun os started H enc _ => lifted os started H enc)

theorem proved : Rows.PeakScaledSaid := over
#print axioms proved
end Go.Proofs.Ytoghdmoblehnmaa.peakScaled
