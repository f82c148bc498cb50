/- Whatever numbers come in, LevelAbove answers true, and writes nothing that was there. -/
import Derived.Test.YthhjgdephhfdhaaRows
import Derived.ShutString
import Derived.ChangeOld
import Derived.Below
import Derived.Test.YthhjgdephhfdhaaLawKit
import Derived.Test.YthhjgdephhfdhaaLevelLive
import Derived.Test.YthhjgdephhfdhaaRowFirst
set_option linter.unusedSimpArgs false
set_option linter.unusedVariables false
namespace Go.Proofs.Ythhjgdephhfdhaa.levelAbove
open Go.ChangeShapes Go.WideShapes Go.ChangeAt Go.RowKit
open Go.ChangeMaps (open_string shut_string)
open Level RI64
set_option maxRecDepth 100000 in
set_option maxHeartbeats 2000000 in
theorem walk (a0 : Int) (a1 : Option Addr) (len1 cap1 : Nat) (z1 : List Int) (w : World) (w0 : (Lit.int .u32 a0).wf = true) (w1 : IsRow .u32 w a1 len1 cap1 z1) :
    Calls Try.prog 7 #[.int .u32 a0, .slice a1 len1 cap1] w fun e w' => e = .returned (.bool true) ∧ Below w.heap.size w w' := by
  have b0 : 0 ≤ a0 ∧ a0 ≤ 4294967295 := bounds_u32 w0
  clear w0
  obtain ⟨p, hp⟩ : ∃ p, min len1 60 = p := ⟨_, rfl⟩
  have hp1 : p ≤ len1 := by omega
  have hp2 : p ≤ 60 := by omega
  have hminA : (if (60 : Int) < (len1 : Int) then (60 : Int) else (len1 : Int)) = (p : Int) := by split <;> omega
  obtain ⟨hc1, hc2, _, hcells⟩ := row_first bounds_u32 w1 p hp1
  clear w1 hp
  have hp3 : p ≤ cap1 := by omega
  generalize z1.take p = zs at *
  have hV1 : ∀ v : Int, Vals (w.alloc (.cells #[.int .i64 v] 2)) (some ⟨w.heap.size, 0, none⟩) 1 [v] := fun v => Vals.has (ys := [v]) (tl := []) (Has.new w _ _)
  have hfi := fun v => first_any _ 1 1 _ _ (hV1 v) (by omega)
  have hB1 : ∀ v : Int, Below w.heap.size w (w.alloc (.cells #[.int .i64 v] 2)) := fun v => (Below.refl _ w).alloc (Nat.le_refl _) _
  have hb : 257 ≤ 257 + a0 % 31457024 ∧ 257 + a0 % 31457024 ≤ 31457280 := by omega
  unfold lvV at hfi
  go_enter Try.func7, Try.ntmps7
  go_wp2_with (first
    | (go_at_call 8; (go_must (refine Calls.mono (by exact hfi _) ?_); rintro e W1 ⟨rfl, hBx⟩)))
  rw [first_one _ (by omega)] at *
  have hB2 := (hB1 (257 + a0 % 31457024)).trans (hBx.mono (hB1 _).size)
  clear hBx hV1 hfi hB1
  generalize 257 + a0 % 31457024 = base at *
  have hB3 := hB2.alloc hB2.size (.cells #[.int .i64 base, .int .i64 0] 23)
  have hH3 := Has.new W1 23 #[.int .i64 base, .int .i64 0]
  have hg := hB2.size
  generalize W1.alloc (.cells #[.int .i64 base, .int .i64 0] 23) = W2 at *
  generalize W1.heap.size = g at *
  clear hB2 hminA
  go_loopw [23] (fun i wr => ∃ (j : Nat) (s : Int), j ≤ p ∧ i = .int .i64 (j : Nat) ∧ base ≤ s ∧ s ≤ 2 * base ∧ Has wr g 23 #[.int .i64 s, .int .i64 0] ∧ Below w.heap.size w wr) (fun i _ => p - (intOf i).toNat)
  case atStart => exact ⟨0, base, by omega, rfl, by omega, by omega, hH3, hB3⟩
  case round =>
    clear hH3 hB3
    obtain ⟨j, s, hj, rfl, hs1, hs2, hH, hB⟩ := hrel
    by_cases hjp : j < p
    · obtain ⟨x, rfl, hcx⟩ := hcells (by omega)
      obtain ⟨hcell0, hv1, hv2⟩ := hcx j hjp
      have hcell := (hB.cell (World.block_lt_of_cell? _ _ hcell0)).trans hcell0
      generalize zs.getD j 0 = v at *
      have hjz : (j : Int) < (p : Int) := by omega
      have hr0 := Int.emod_nonneg v (show base ≠ 0 by omega)
      have hr1 := Int.emod_lt_of_pos v (show 0 < base by omega)
      have hrt : v.tmod base = v % base := Int.tmod_eq_emod_of_nonneg (by omega)
      obtain ⟨hup1, hgo1, hgo2⟩ := above_step base s (base + v % base) hb ⟨hs1, hs2⟩ (by omega)
      have hup := fun W => upper_any s 0 W
      have hub := upper_bd (s, 0)
      have c0 := hH.cell 0
      have c1 := hH.cell 1
      have hsi := fun A W hV => signal_any A 1 1 [base + v % base] s 0 W hV (by omega)
      rw [show signalT (s, 0) [base + v % base] = (goes s (base + v % base) 8, 0) by unfold signalT; rw [follow_one, nearB_in s (by omega), nearB_in _ (by omega)]; rfl] at hsi
      unfold lvV at hsi
      have hV8 : ∀ W : World, Vals (W.alloc (.cells #[.int .i64 (base + v % base)] 2)) (some ⟨W.heap.size, 0, none⟩) 1 [base + v % base] := fun W => Vals.has (ys := [base + v % base]) (tl := []) (Has.new W _ _)
      generalize upperT (s, 0) = u at *
      generalize goes s (base + v % base) 8 = s' at *
      have hlt1 : u < base + v % base := by omega
      clear hcx hcells hcell0 hrt
      go_wp2_with (first
        | (go_at_call 17; (go_must (refine Calls.mono (by exact hup _) ?_); rintro e W5 ⟨rfl, hBx⟩; replace hB := hB.trans (hBx.mono hB.size); replace hH := hH.below hBx hH.lt; clear hBx c0 c1; have c0 := hH.cell 0; have c1 := hH.cell 1))
        | (go_at_call 10; (go_must (refine Calls.mono (by exact hsi _ _ (hV8 _)) ?_); rintro e W6 ⟨rfl, hBx⟩; have hB5 := hB.alloc hB.size (.cells #[.int .i64 (base + v % base)] 2); have hB6 := hB5.trans (hBx.mono hB5.size); have hH6 := (hH.alloc (.cells #[.int .i64 (base + v % base)] 2)).below hBx (hH.alloc _).lt; have d0 := hH6.cell 0; have d1 := hH6.cell 1; have f0 := hH6.frozen 0; have f1 := hH6.frozen 1; clear hBx)))
      go_roundw
      case rel => exact ⟨j + 1, s', by omega, by go_num, hgo1, hgo2, Has.put2 hH6 _ _, below_put2 hB6 hg _ _⟩
      case measure => simp [intOf]; omega
    · obtain rfl : j = p := by omega
      have c1 := hH.cell 1
      clear hcells
      go_wp2_with (go_at_call 16; ((with_reducible refine (live_k _).mono ?_); rintro e W9 ⟨rfl, hN⟩))
      go_ret
      exact ⟨rfl, hB.trans (hN.mono hB.size)⟩

theorem own : ownKnob Try.prog.godebug = none := by kernel_rfl
theorem laidOut : laidOutB Try.prog = true := by kernel_rfl

/-! ### The row's step -/
set_option maxRecDepth 100000 in
theorem lifted (os : Os) (started : os.Started) (H : Type) (enc : TypeId × Value → H) :
    ReturnsInHanded {} Try.checked os 7 .any (Rows.levelAboveSpec.pre6 enc Try.prog Try.f7 Rows.levelAboveRow.domain false) (Rows.levelAboveSpec.post enc Try.prog Try.f7 false true false false) := by
  refine returnsInHanded_of_change (C := Try.checked) own started (by kernel_rfl) Try.func7
    (ChangeSpec.witness6 (enc := enc) (C := Try.checked) false ⟨#[], #[.int .u32 0, .slice none 0 0], []⟩ 8 (by kernel_rfl) (by kernel_rfl) (by kernel_rfl) (by kernel_rfl)) ?_
  intro W base args ds gs before hval0 hW hcnd _
  have hval : ∀ (j : Nat) t v, Try.f7.params[j]? = some t → args[j]? = some v → Value.okWide Try.prog W .any base t v := hval0
  have hW' := hW
  obtain ⟨p, q, hA0, hV, rfl, hfz, hnd⟩ := hW
  have hA : DataW.TrodAll enc Try.prog W 0 (fun _ => true) true Try.f7.params.toList args.toList ds p := hA0
  rw [Try.params7] at hA hval
  obtain ⟨v0, vs0, d0, ds0, p0, q0, hargs, rfl, rfl, h0, r0⟩ := trodAll_cons hA
  obtain ⟨v1, vs1, d1, ds1, p1, q1, rfl, rfl, rfl, h1, r1⟩ := trodAll_cons r0
  obtain ⟨rfl, rfl, rfl⟩ := trodAll_nil r1
  obtain rfl : args = #[v0, v1] := by cases args; simp_all
  obtain ⟨rfl, rfl⟩ := trodVars_none hV
  obtain ⟨a0, rfl, rfl, rfl, w0⟩ := open_int Try.underlying37 (hval 0 37 v0 rfl rfl) h0
  obtain ⟨a1, len1, cap1, rfl⟩ := okWide_slice Try.underlying39 (hval 1 39 v1 rfl rfl)
  have k1 := h1
  have lt1 : ∀ x ∈ p1, x.block < W.heap.size := by obtain ⟨m, hm⟩ := k1; exact DataW.trod_lt m _ _ _ hm
  obtain ⟨z1, w1⟩ : ∃ zs, IsRow .u32 W a1 len1 cap1 zs := by
    obtain ⟨fuel, hf⟩ := h1
    rcases open_ints Try.underlying39 Try.underlying37 (by kernel_rfl) hf with ⟨hcs, _⟩ | ⟨x, l, c, zs, hcs, hx, hl, hm, hz, _, hcell, hwz⟩
    · simp [Value.cells] at hcs
      obtain ⟨rfl, rfl, rfl⟩ := hcs
      exact ⟨[], .inl ⟨rfl, rfl, rfl, rfl⟩⟩
    · simp [Value.cells] at hcs
      obtain ⟨rfl, rfl, rfl⟩ := hcs
      exact ⟨zs, isRow_some hl hm (by simpa using hz) hcell hwz⟩
  clear hA0 hval0
  refine (walk a0 a1 len1 cap1 z1 W w0 w1).mono fun e W' ⟨he, bel⟩ => ?_
  subst he
  exact ⟨_, rfl, _, _, _, [], _, [], hW', trodAll_mk1 (shut_bool Try.underlying4 _), (trodAll_cons_mk (shut_int Try.underlying37 w0) (trodAll_cons_mk (Below.trod laidOut (by kernel_rfl) (of_decide_eq_true (by kernel_rfl)) k1 bel lt1) trodAll_mk0)), rfl, bel.frame _, fun h => by cases h⟩

theorem over : Rows.levelAboveRow.holds Try.pinned (OpenSpec.ofChange Rows.levelAboveSpec) :=
  OpenClaim.holds_of_wide 7 Try.f7 rfl rfl rfl rfl rfl rfl rfl ⟨rfl, rfl, rfl, rfl, rfl⟩ rfl rfl rfl rfl rfl (by kernel_rfl) Try.func7 (by kernel_rfl)
    (of_decide_eq_true (by kernel_rfl)) (by unfold Func.isWrapper; first | (rw [if_pos (by decide +kernel)]; kernel_rfl) | (rw [if_neg (by decide +kernel)]; exact ⟨rfl, rfl⟩))
    (fun os started H enc _ => lifted os started H enc)

theorem proved : Rows.LevelAboveSaid := over
#print axioms proved
end Go.Proofs.Ythhjgdephhfdhaa.levelAbove
