/- Whatever values come in, SlopeBounds answers true, and writes nothing that was there. -/
import Derived.Test.YtpfoonhobeflhaaRows
import Derived.ShutString
import Derived.ChangeOld
import Derived.Below
import Derived.Test.YtpfoonhobeflhaaLawKit
import Derived.Test.YtpfoonhobeflhaaSlopeLive
set_option linter.unusedSimpArgs false
set_option linter.unusedVariables false
namespace Go.Proofs.Ytpfoonhobeflhaa.slopeBounds
open Go.ChangeShapes Go.WideShapes Go.ChangeAt Go.RowKit
open Go.ChangeMaps (open_string shut_string)
open RI64 Slope
set_option maxRecDepth 100000 in
set_option maxHeartbeats 2000000 in
theorem walk (a0 : Option Addr) (len0 cap0 : Nat) (z0 : List Int) (w : World) (w0 : IsRow .i64 w a0 len0 cap0 z0) :
    Calls Try.prog 5 #[.slice a0 len0 cap0] w fun e w' => e = .returned (.bool true) ∧ Below w.heap.size w w' := by
  obtain ⟨p, hp⟩ : ∃ p, min len0 300 = p := ⟨_, rfl⟩
  have hp1 : p ≤ len0 := by omega
  have hp2 : p ≤ 300 := by omega
  have hminA : (if (300 : Int) < (len0 : Int) then (300 : Int) else (len0 : Int)) = (p : Int) := by split <;> omega
  obtain ⟨hV, hc1, hc2, hltb⟩ := row_vals w0 p hp1
  clear w0 hp
  generalize z0.take p = ys at *
  have hp3 : p ≤ cap0 := by omega
  have hnew := fun W => new_any W
  unfold NewIs at hnew
  go_enter Try.func5, Try.ntmps5
  go_wp2_with (first
    | (go_at_call 7; ((with_reducible refine (hnew w).mono ?_); rintro e W1 ⟨bx, Sx, rfl, hFx, hSx, hC1⟩))
    | (go_at_call 7; ((with_reducible refine (hnew W1).mono ?_); rintro e W2 ⟨bY, SY, rfl, hFy, hSy, hB2⟩; have hFx2 := kit.below hFx hB2; have hC2 := hC1.trans (hB2.mono hC1.size); have hltx := kit.lt hFx; have hbl := kit.block_any bx Sx [] a0 p cap0 ys W2 hFx2 (hV.below hC2) (by omega) hp3 hc2 (fun h0 x hx hm => by have h1 := hltb x h0 hx; have h2 := hSx _ hm; omega)))
    | (go_at_call 9; ((with_reducible refine hbl.mono ?_); rintro e W3 ⟨BX, dx, rfl, hd1, hd2, hVX, hfX, _, hK3⟩; have hC3 := below_kept hC2 hK3 hC2.size hSx; have hFy3 := kit.kept hFy hK3 (fun k hk hm => by have h1 := hSy k hk; have h2 := hltx _ hm; omega); have hlty := kit.lt hFy; have hlen := hV.len_; rw [hlen] at hVX hd1)))
  have HLEN := Lib.hid hlen
  clear hminA hnew hbl hFx2 hFx hFy hlen
  go_loopw [26] (fun i wr => ∃ j : Nat, j ≤ p ∧ i = .int .i64 (j : Nat) ∧ kit.Fil wr bY SY ((ys.take j).reverse ++ []) ∧ Kept SY W3 wr) (fun i _ => p - (intOf i).toNat)
  case atStart => exact ⟨0, by omega, rfl, hFy3, Kept.refl SY W3⟩
  case round =>
    clear hFy3
    obtain ⟨j, hj, rfl, hF, hK⟩ := hrel
    have hC := below_kept hC3 hK hC3.size (fun k hk => Nat.le_trans hC1.size (hSy k hk))
    by_cases hjp : j < p
    · obtain ⟨x1, rfl, hcx⟩ := (hV.below hC).cells (by omega)
      have hcell := hcx j hjp
      obtain ⟨xB, rfl, hcB⟩ := (hVX.kept hK (fun _ x hx hm => by have h1 := hfX x hx; have h2 := hlty _ hm; omega)).cells (by omega)
      have hcellB := hcB j hjp
      have hpu := kit.push_any bY SY ((ys.take j).reverse ++ []) (ys.getD j 0) wr hF
      rw [outs_at (slopeT) [] ys j (by have := HLEN.out; omega)] at hcellB
      rw [came_step [] ys j (by have := HLEN.out; omega)] at hpu
      have hbd := slope_bd ((ys.take (j + 1)).reverse ++ [])
      generalize slopeT ((ys.take (j + 1)).reverse ++ []) = r at *
      generalize ys.getD j 0 = v at *
      have hb1 : ¬ 107136 < r := by omega
      have hb2 : ¬ r < -107136 := by omega
      clear hcx hcB
      go_wp2_with (go_at_call 12; ((with_reducible refine hpu.mono ?_); rintro e W4 ⟨rfl, hF4, hK4⟩; have hK5 := hK.trans hK4; have hcellC := (hK4.cell (World.block_lt_of_cell? _ _ hcellB) (by rw [block_add]; intro hm; have h1 := hfX xB rfl; have h2 := hlty _ hm; omega)).trans hcellB))
      go_roundw
      case rel => exact ⟨j + 1, by omega, by go_num, hF4, hK5⟩
      case measure => simp [intOf]; omega
    · obtain rfl : j = p := by omega
      go_wp2_with (go_at_call 13; ((with_reducible refine (live_k _).mono ?_); rintro e W9 ⟨rfl, hN⟩))
      go_ret
      exact ⟨rfl, hC.trans (hN.mono hC.size)⟩

theorem own : ownKnob Try.prog.godebug = none := by kernel_rfl
theorem laidOut : laidOutB Try.prog = true := by kernel_rfl

/-! ### The row's step -/
set_option maxRecDepth 100000 in
theorem lifted (os : Os) (started : os.Started) (H : Type) (enc : TypeId × Value → H) :
    ReturnsInHanded {} Try.checked os 5 .any (Rows.slopeBoundsSpec.pre6 enc Try.prog Try.f5 Rows.slopeBoundsRow.domain false) (Rows.slopeBoundsSpec.post enc Try.prog Try.f5 false true false false) := by
  refine returnsInHanded_of_change (C := Try.checked) own started (by kernel_rfl) Try.func5
    (ChangeSpec.witness6 (enc := enc) (C := Try.checked) false ⟨#[], #[.slice none 0 0], []⟩ 8 (by kernel_rfl) (by kernel_rfl) (by kernel_rfl) (by kernel_rfl)) ?_
  intro W base args ds gs before hval0 hW hcnd _
  have hval : ∀ (j : Nat) t v, Try.f5.params[j]? = some t → args[j]? = some v → Value.okWide Try.prog W .any base t v := hval0
  have hW' := hW
  obtain ⟨p, q, hA0, hV, rfl, hfz, hnd⟩ := hW
  have hA : DataW.TrodAll enc Try.prog W 0 (fun _ => true) true Try.f5.params.toList args.toList ds p := hA0
  rw [Try.params5] at hA hval
  obtain ⟨v0, vs0, d0, ds0, p0, q0, hargs, rfl, rfl, h0, r0⟩ := trodAll_cons hA
  obtain ⟨rfl, rfl, rfl⟩ := trodAll_nil r0
  obtain rfl : args = #[v0] := by cases args; simp_all
  obtain ⟨rfl, rfl⟩ := trodVars_none hV
  obtain ⟨a0, len0, cap0, rfl⟩ := okWide_slice Try.underlying22 (hval 0 22 v0 rfl rfl)
  have k0 := h0
  have lt0 : ∀ x ∈ p0, x.block < W.heap.size := by obtain ⟨m, hm⟩ := k0; exact DataW.trod_lt m _ _ _ hm
  obtain ⟨z0, w0⟩ : ∃ zs, IsRow .i64 W a0 len0 cap0 zs := by
    obtain ⟨fuel, hf⟩ := h0
    rcases open_ints Try.underlying22 Try.underlying2 (by kernel_rfl) hf with ⟨hcs, _⟩ | ⟨x, l, c, zs, hcs, hx, hl, hm, hz, _, hcell, hwz⟩
    · simp [Value.cells] at hcs
      obtain ⟨rfl, rfl, rfl⟩ := hcs
      exact ⟨[], .inl ⟨rfl, rfl, rfl, rfl⟩⟩
    · simp [Value.cells] at hcs
      obtain ⟨rfl, rfl, rfl⟩ := hcs
      exact ⟨zs, isRow_some hl hm (by simpa using hz) hcell hwz⟩
  clear hA0 hval0
  refine (walk a0 len0 cap0 z0 W w0).mono fun e W' ⟨he, bel⟩ => ?_
  subst he
  exact ⟨_, rfl, _, _, _, [], _, [], hW', trodAll_mk1 (shut_bool Try.underlying4 _), (trodAll_cons_mk (Below.trod laidOut (by kernel_rfl) (of_decide_eq_true (by kernel_rfl)) k0 bel lt0) trodAll_mk0), rfl, bel.frame _, fun h => by cases h⟩

theorem over : Rows.slopeBoundsRow.holds Try.pinned (OpenSpec.ofChange Rows.slopeBoundsSpec) :=
  OpenClaim.holds_of_wide 5 Try.f5 rfl rfl rfl rfl rfl rfl rfl ⟨rfl, rfl, rfl, rfl, rfl⟩ rfl rfl rfl rfl rfl (by kernel_rfl) Try.func5 (by kernel_rfl)
    (of_decide_eq_true (by kernel_rfl)) (by unfold Func.isWrapper; first | (rw [if_pos (by decide +kernel)]; kernel_rfl) | (rw [if_neg (by decide +kernel)]; exact ⟨rfl, rfl⟩))
    (fun os started H enc _ => lifted os started H enc)

theorem proved : Rows.SlopeBoundsSaid := over
#print axioms proved
end Go.Proofs.Ytpfoonhobeflhaa.slopeBounds
