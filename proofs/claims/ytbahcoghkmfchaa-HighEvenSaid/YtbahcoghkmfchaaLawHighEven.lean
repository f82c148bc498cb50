/- Whatever values ahead and value come in, HighEven answers true, and writes nothing that was there. -/
import Derived.Test.YtbahcoghkmfchaaRows
import Derived.ShutString
import Derived.ChangeOld
import Derived.Below
import Derived.Test.YtbahcoghkmfchaaLawKit
import Derived.Test.YtbahcoghkmfchaaHighLive
set_option linter.unusedSimpArgs false
set_option linter.unusedVariables false
namespace Go.Proofs.Ytbahcoghkmfchaa.highEven
open Go.ChangeShapes Go.WideShapes Go.ChangeAt Go.RowKit
open Go.ChangeMaps (open_string shut_string)
open RI64 High
theorem even_at (k : Nat) (h : List Int) (v : Int) (hk : 31 ≤ (k : Int)) : highT (List.replicate (k + 1) v ++ h) = 0 :=
  high_even _ h v (by simp; omega) (fun u hu => List.eq_of_mem_replicate hu)
set_option maxRecDepth 100000 in
set_option maxHeartbeats 2000000 in
theorem walk (a0 : Option Addr) (len0 cap0 : Nat) (z0 : List Int) (a1 : Int) (w : World) (w0 : IsRow .i64 w a0 len0 cap0 z0) (w1 : (Lit.int .i64 a1).wf = true) :
    Calls Try.prog 5 #[.slice a0 len0 cap0, .int .i64 a1] w fun e w' => e = .returned (.bool true) ∧ Below w.heap.size w w' := by
  clear w1
  obtain ⟨p, hp⟩ : ∃ p, min len0 100 = p := ⟨_, rfl⟩
  have hp1 : p ≤ len0 := by omega
  have hp2 : p ≤ 100 := by omega
  have hminA : (if (100 : Int) < (len0 : Int) then (100 : Int) else (len0 : Int)) = (p : Int) := by split <;> omega
  obtain ⟨hV, hc1, hc2, hltb⟩ := row_vals w0 p hp1
  clear w0 hp
  generalize z0.take p = ys at *
  have hp3 : p ≤ cap0 := by omega
  have hnew := fun W => new_any W
  unfold NewIs at hnew
  have HE := Lib.hid even_at
  go_enter Try.func5, Try.ntmps5
  go_wp2_with (first
    | (go_at_call 7; ((with_reducible refine (hnew _).mono ?_); rintro e W1 ⟨bx, Sx, rfl, hFx, hSx, hC1⟩; have hbl := kit.block_any bx Sx [] a0 p cap0 ys W1 hFx (hV.below hC1) (by omega) hp3 hc2 (fun h0 x hx hm => by have h1 := hltb x h0 hx; have h2 := hSx _ hm; omega)))
    | (go_at_call 9; ((with_reducible refine hbl.mono ?_); rintro e W2 ⟨B2, d2, rfl, _, _, _, _, hF2, hK2⟩; have hC2 := below_kept hC1 hK2 hC1.size hSx)))
  clear hminA hnew hbl hFx hK2
  generalize ys.reverse ++ [] = h0 at *
  go_loopw [16] (fun i wr => ∃ k : Nat, k ≤ 40 ∧ i = .int .i64 (k : Nat) ∧ kit.Fil wr bx Sx (List.replicate k a1 ++ h0) ∧ Kept Sx W2 wr) (fun i _ => 40 - (intOf i).toNat)
  case atStart => exact ⟨0, by omega, rfl, hF2, Kept.refl Sx W2⟩
  case round =>
    clear hF2
    obtain ⟨k, hk, rfl, hF, hK⟩ := hrel
    by_cases hkn : k < 40
    · have hpu := kit.push_any bx Sx (List.replicate k a1 ++ h0) a1 wr hF
      rw [show a1 :: (List.replicate k a1 ++ h0) = List.replicate (k + 1) a1 ++ h0 from rfl] at hpu
      have hev := HE.out k h0 a1
      clear hF
      generalize highT (List.replicate (k + 1) a1 ++ h0) = r at *
      have hkz : (k : Int) < 40 := by omega
      by_cases hlate : 31 ≤ (k : Int)
      · obtain rfl := hev hlate
        go_wp2_with (go_at_call 12; ((with_reducible refine hpu.mono ?_); rintro e W4 ⟨rfl, hF4, hK4⟩; have hK5 := hK.trans hK4))
        go_roundw
        case rel => exact ⟨k + 1, by omega, by go_num, hF4, hK5⟩
        case measure => simp [intOf]; omega
      · clear hev
        go_wp2_with (go_at_call 12; ((with_reducible refine hpu.mono ?_); rintro e W4 ⟨rfl, hF4, hK4⟩; have hK5 := hK.trans hK4))
        go_roundw
        case rel => exact ⟨k + 1, by omega, by go_num, hF4, hK5⟩
        case measure => simp [intOf]; omega
    · obtain rfl : k = 40 := by omega
      have hC := below_kept hC2 hK hC2.size hSx
      go_wp2_with (go_at_call 13; ((with_reducible refine (live_k _).mono ?_); rintro e W9 ⟨rfl, hN⟩))
      go_ret
      exact ⟨rfl, hC.trans (hN.mono hC.size)⟩

theorem own : ownKnob Try.prog.godebug = none := by kernel_rfl
theorem laidOut : laidOutB Try.prog = true := by kernel_rfl

/-! ### The row's step -/
set_option maxRecDepth 100000 in
theorem lifted (os : Os) (started : os.Started) (H : Type) (enc : TypeId × Value → H) :
    ReturnsInHanded {} Try.checked os 5 .any (Rows.highEvenSpec.pre6 enc Try.prog Try.f5 Rows.highEvenRow.domain false) (Rows.highEvenSpec.post enc Try.prog Try.f5 false true false false) := by
  refine returnsInHanded_of_change (C := Try.checked) own started (by kernel_rfl) Try.func5
    (ChangeSpec.witness6 (enc := enc) (C := Try.checked) false ⟨#[], #[.slice none 0 0, .int .i64 0], []⟩ 8 (by kernel_rfl) (by kernel_rfl) (by kernel_rfl) (by kernel_rfl)) ?_
  intro W base args ds gs before hval0 hW hcnd _
  have hval : ∀ (j : Nat) t v, Try.f5.params[j]? = some t → args[j]? = some v → Value.okWide Try.prog W .any base t v := hval0
  have hW' := hW
  obtain ⟨p, q, hA0, hV, rfl, hfz, hnd⟩ := hW
  have hA : DataW.TrodAll enc Try.prog W 0 (fun _ => true) true Try.f5.params.toList args.toList ds p := hA0
  rw [Try.params5] at hA hval
  obtain ⟨v0, vs0, d0, ds0, p0, q0, hargs, rfl, rfl, h0, r0⟩ := trodAll_cons hA
  obtain ⟨v1, vs1, d1, ds1, p1, q1, rfl, rfl, rfl, h1, r1⟩ := trodAll_cons r0
  obtain ⟨rfl, rfl, rfl⟩ := trodAll_nil r1
  obtain rfl : args = #[v0, v1] := by cases args; simp_all
  obtain ⟨rfl, rfl⟩ := trodVars_none hV
  obtain ⟨a0, len0, cap0, rfl⟩ := okWide_slice Try.underlying22 (hval 0 22 v0 rfl rfl)
  have k0 := h0
  have lt0 : ∀ x ∈ p0, x.block < W.heap.size := by obtain ⟨m, hm⟩ := k0; exact DataW.trod_lt m _ _ _ hm
  obtain ⟨z0, w0⟩ : ∃ zs, IsRow .i64 W a0 len0 cap0 zs := by
    obtain ⟨fuel, hf⟩ := h0
    rcases open_ints Try.underlying22 Try.underlying2 (by kernel_rfl) hf with ⟨hcs, _⟩ | ⟨x, l, c, zs, hcs, hx, hl, hm, hz, _, hcell, hwz⟩
    · simp [Value.cells] at hcs
      obtain ⟨rfl, rfl, rfl⟩ := hcs
      exact ⟨[], .inl ⟨rfl, rfl, rfl, rfl⟩⟩
    · simp [Value.cells] at hcs
      obtain ⟨rfl, rfl, rfl⟩ := hcs
      exact ⟨zs, isRow_some hl hm (by simpa using hz) hcell hwz⟩
  obtain ⟨a1, rfl, rfl, rfl, w1⟩ := open_int Try.underlying2 (hval 1 2 v1 rfl rfl) h1
  clear hA0 hval0
  refine (walk a0 len0 cap0 z0 a1 W w0 w1).mono fun e W' ⟨he, bel⟩ => ?_
  subst he
  exact ⟨_, rfl, _, _, _, [], _, [], hW', trodAll_mk1 (shut_bool Try.underlying4 _), (trodAll_cons_mk (Below.trod laidOut (by kernel_rfl) (of_decide_eq_true (by kernel_rfl)) k0 bel lt0) (trodAll_cons_mk (shut_int Try.underlying2 w1) trodAll_mk0)), rfl, bel.frame _, fun h => by cases h⟩

theorem over : Rows.highEvenRow.holds Try.pinned (OpenSpec.ofChange Rows.highEvenSpec) :=
  OpenClaim.holds_of_wide 5 Try.f5 rfl rfl rfl rfl rfl rfl rfl ⟨rfl, rfl, rfl, rfl, rfl⟩ rfl rfl rfl rfl rfl (by kernel_rfl) Try.func5 (by kernel_rfl)
    (of_decide_eq_true (by kernel_rfl)) (by unfold Func.isWrapper; first | (rw [if_pos (by decide +kernel)]; kernel_rfl) | (rw [if_neg (by decide +kernel)]; exact ⟨rfl, rfl⟩))
    (fun os started H enc _ => lifted os started H enc)

theorem proved : Rows.HighEvenSaid := over
#print axioms proved
end Go.Proofs.Ytbahcoghkmfchaa.highEven
