/- Whatever numbers come in, PeakQuiet answers true, and writes nothing that was there. -/
import Derived.Test.YtoghdmoblehnmaaRows
import Derived.ShutString
import Derived.ChangeOld
import Derived.Below
import Derived.Test.YtoghdmoblehnmaaLawKit
import Derived.Test.YtoghdmoblehnmaaPeakLive
import Derived.Test.YtoghdmoblehnmaaPeakArgs
set_option linter.unusedSimpArgs false
set_option linter.unusedVariables false
namespace Go.Proofs.Ytoghdmoblehnmaa.peakQuiet
open Go.ChangeShapes Go.WideShapes Go.ChangeAt Go.RowKit
open Go.ChangeMaps (open_string shut_string)
open Peak
set_option maxRecDepth 100000 in
set_option maxHeartbeats 2000000 in
theorem walk (a0 : Option Addr) (len0 cap0 : Nat) (z0 : List Int) (a1 : Int) (w : World) (w0 : IsRow .u16 w a0 len0 cap0 z0) (w1 : (Lit.int .u32 a1).wf = true) :
    Calls Try.prog 5 #[.slice a0 len0 cap0, .int .u32 a1] w fun e w' => e = .returned (.bool true) ∧ Below w.heap.size w w' := by
  have b1 : 0 ≤ a1 ∧ a1 ≤ 4294967295 := bounds_u32 w1
  clear w1
  obtain ⟨p, hp⟩ : ∃ p, min len0 300 = p := ⟨_, rfl⟩
  have hp1 : p ≤ len0 := by omega
  have hp2 : p ≤ 300 := by omega
  have hminA : (if (300 : Int) < (len0 : Int) then (300 : Int) else (len0 : Int)) = (p : Int) := by split <;> omega
  obtain ⟨hc1, hc2, _, hcells⟩ := row_first bounds_u16 w0 p hp1
  clear w0 hp
  have hp3 : p ≤ cap0 := by omega
  generalize z0.take p = zs at *
  go_enter Try.func5, Try.ntmps5
  go_wp2_with (first
    | (go_at_call 8; ((with_reducible refine (new_any w).mono ?_); rintro e W1 ⟨b1, rfl, hG1, hs1, hB1⟩))
    | (go_at_call 8; ((with_reducible refine (new_any W1).mono ?_); rintro e W2 ⟨b2, rfl, hG2, hs2, hB2⟩; have hG12 := hG1.below hB2))
    | (go_at_call 8; ((with_reducible refine (new_any W2).mono ?_); rintro e W3 ⟨b3, rfl, hG3, hs3, hB3⟩; have hG13 := hG12.below hB3; have hG23 := hG2.below hB3)))
  have hb1 := hG1.lt
  have hb2 := hG2.lt
  have hz1 := hB1.size
  have hz2 := hB2.size
  have hC3 : Below w.heap.size w W3 := (hB1.trans (hB2.mono hz1)).trans (hB3.mono (by omega))
  have n12 : b1 ≠ b2 := by omega
  have n13 : b1 ≠ b3 := by omega
  have n23 : b2 ≠ b3 := by omega
  have hs2' : w.heap.size ≤ b2 := by omega
  have hs3' : w.heap.size ≤ b3 := by omega
  clear hminA hG1 hG2 hG12 hB1 hB2 hB3 hb1 hb2 hz1 hz2 hs2 hs3
  go_loopw [8, 26] (fun v i wr => ∃ (j : Nat) (n : Int) (s1 s2 s3 : St), j ≤ p ∧ i = .int .i64 (j : Nat) ∧ v = .int .i64 n ∧ 0 ≤ n ∧ n ≤ 65535 * (j : Int) ∧ Same (sumW a1) s1 ∧ Grow (sumW n) s2 ∧ Flat s3 ∧
    Fil wr b1 s1 (j : Int) ∧ Fil wr b2 s2 (j : Int) ∧ Fil wr b3 s3 (j : Int) ∧ Below w.heap.size w wr) (fun _ i _ => p - (intOf i).toNat)
  case atStart => exact ⟨0, 0, .falls none, .falls none, .falls none, by omega, rfl, rfl, by omega, by omega, .inl rfl, trivial, (fun v hv => by cases hv), hG13, hG23, hG3, hC3⟩
  case round =>
    clear hG13 hG23 hG3 hC3
    obtain ⟨j, n, s1, s2, s3, hj, rfl, rfl, hn1, hn2, hsame, hgrow, hflat, hF1, hF2, hF3, hC⟩ := hrel
    by_cases hjp : j < p
    · obtain ⟨x, rfl, hcx⟩ := hcells (by omega)
      obtain ⟨hcell0, hv1, hv2⟩ := hcx j hjp
      have hcell := (hC.cell (World.block_lt_of_cell? _ _ hcell0)).trans hcell0
      generalize zs.getD j 0 = v at *
      have hjz : (j : Int) < (p : Int) := by omega
      have hm : 0 ≤ v % 1000 ∧ v % 1000 ≤ 999 := by omega
      have e1 := same_step a1 (j : Int) v s1 hsame
      obtain ⟨e2, hgrow2⟩ := grow_step (n + v) (j : Int) v n s2 hgrow (by omega)
      obtain ⟨e3, hflat2⟩ := flat_step (1000 + v % 1000) (j : Int) v s3 hflat (by omega) (by omega)
      have hp1 := fun W (hF : Fil W b1 s1 (j : Int)) => push_any b1 s1 (j : Int) a1 v W hF (by omega)
      have hp2 := fun W (hF : Fil W b2 s2 (j : Int)) => push_any b2 s2 (j : Int) (n + v) v W hF (by omega)
      have hp3 := fun W (hF : Fil W b3 s3 (j : Int)) => push_any b3 s3 (j : Int) (1000 + v % 1000) v W hF (by omega)
      rw [e1] at hp1
      rw [e2] at hp2
      rw [e3] at hp3
      dsimp only at hp1
      rw [show pkV none = .agg #[.int .i64 0, .int .i64 0, .int .i64 0, .int .i64 0] from rfl, show (none : Option Pk).isSome = false from rfl] at hp1 hp2 hp3
      generalize (Peak.stepT s2 (j : Int) (n + v) v).2 = t2 at *
      generalize (Peak.stepT s3 (j : Int) (1000 + v % 1000) v).2 = t3 at *
      have hw1 : 0 ≤ n + v ∧ n + v ≤ 65535 * ((j : Int) + 1) := by omega
      have HW := Lib.hid hw1
      have hw2 : n + v ≤ 20000000 := by omega
      have hw0 : 0 ≤ n + v := by omega
      have hs1' : Same (sumW a1) (.falls (some (sumW a1))) := .inr rfl
      clear e1 e2 e3 hcx hcells hcell0 hw1
      go_wp2_with (first
        | (go_at_call 10; ((with_reducible refine (hp1 _ hF1).mono ?_); rintro e W4 ⟨rfl, hF4, hK4⟩; have hC4 := (below_kept hC hK4 hC.size (by simpa using hs1)).alloc (below_kept hC hK4 hC.size (by simpa using hs1)).size (.cells #[.int .i64 0, .int .i64 0, .int .i64 0, .int .i64 0] 30); have hX2 := (hF2.kept hK4 (by simpa using n12.symm)).alloc (.cells #[.int .i64 0, .int .i64 0, .int .i64 0, .int .i64 0] 30); have hX3 := (hF3.kept hK4 (by simpa using n13.symm)).alloc (.cells #[.int .i64 0, .int .i64 0, .int .i64 0, .int .i64 0] 30); have hX1 := hF4.alloc (.cells #[.int .i64 0, .int .i64 0, .int .i64 0, .int .i64 0] 30)))
        | (go_at_call 10; ((with_reducible refine (hp2 _ hX2).mono ?_); rintro e W5 ⟨rfl, hF5, hK5⟩; have hC5 := (below_kept hC4 hK5 hC4.size (by simpa using hs2')).alloc (below_kept hC4 hK5 hC4.size (by simpa using hs2')).size (.cells #[.int .i64 0, .int .i64 0, .int .i64 0, .int .i64 0] 30); have hY1 := (hX1.kept hK5 (by simpa using n12)).alloc (.cells #[.int .i64 0, .int .i64 0, .int .i64 0, .int .i64 0] 30); have hY3 := (hX3.kept hK5 (by simpa using n23.symm)).alloc (.cells #[.int .i64 0, .int .i64 0, .int .i64 0, .int .i64 0] 30); have hY2 := hF5.alloc (.cells #[.int .i64 0, .int .i64 0, .int .i64 0, .int .i64 0] 30)))
        | (go_at_call 10; ((with_reducible refine (hp3 _ hY3).mono ?_); rintro e W6 ⟨rfl, hF6, hK6⟩; have hC6 := (below_kept hC5 hK6 hC5.size (by simpa using hs3')).alloc (below_kept hC5 hK6 hC5.size (by simpa using hs3')).size (.cells #[.int .i64 0, .int .i64 0, .int .i64 0, .int .i64 0] 30); have hZ1 := (hY1.kept hK6 (by simpa using n13)).alloc (.cells #[.int .i64 0, .int .i64 0, .int .i64 0, .int .i64 0] 30); have hZ2 := (hY2.kept hK6 (by simpa using n23)).alloc (.cells #[.int .i64 0, .int .i64 0, .int .i64 0, .int .i64 0] 30); have hZ3 := hF6.alloc (.cells #[.int .i64 0, .int .i64 0, .int .i64 0, .int .i64 0] 30))))
      go_roundw
      case rel => exact ⟨j + 1, n + v, _, t2, t3, by omega, by go_num, rfl, HW.out.1, by have := HW.out.2; push_cast; omega, hs1', hgrow2, hflat2, hZ1, hZ2, hZ3, hC6⟩
      case measure => simp [intOf]; omega
    · obtain rfl : j = p := by omega
      clear hcells
      go_wp2_with (go_at_call 16; ((with_reducible refine (live_k _).mono ?_); rintro e W9 ⟨rfl, hN⟩))
      go_ret
      exact ⟨rfl, hC.trans (hN.mono hC.size)⟩

theorem own : ownKnob Try.prog.godebug = none := by kernel_rfl
theorem laidOut : laidOutB Try.prog = true := by kernel_rfl

/-! ### The row's step -/
set_option maxRecDepth 100000 in
theorem lifted (os : Os) (started : os.Started) (H : Type) (enc : TypeId × Value → H) :
    ReturnsInHanded {} Try.checked os 5 .any (Rows.peakQuietSpec.pre6 enc Try.prog Try.f5 Rows.peakQuietRow.domain false) (Rows.peakQuietSpec.post enc Try.prog Try.f5 false true false false) := by
  refine returnsInHanded_of_change (C := Try.checked) own started (by kernel_rfl) Try.func5
    (ChangeSpec.witness6 (enc := enc) (C := Try.checked) false ⟨#[], #[.slice none 0 0, .int .u32 0], []⟩ 8 (by kernel_rfl) (by kernel_rfl) (by kernel_rfl) (by kernel_rfl)) ?_
  intro W base args ds gs before hval0 hW hcnd _
  have hval : ∀ (j : Nat) t v, Try.f5.params[j]? = some t → args[j]? = some v → Value.okWide Try.prog W .any base t v := hval0
  have hW' := hW
  obtain ⟨p, q, hA0, hV, rfl, hfz, hnd⟩ := hW
  have hA : DataW.TrodAll enc Try.prog W 0 (fun _ => true) true Try.f5.params.toList args.toList ds p := hA0
  rw [Try.params5] at hA hval
  obtain ⟨v0, vs0, d0, ds0, p0, q0, hargs, rfl, rfl, h0, r0⟩ := trodAll_cons hA
  obtain ⟨v1, vs1, d1, ds1, p1, q1, rfl, rfl, rfl, h1, r1⟩ := trodAll_cons r0
  obtain ⟨rfl, rfl, rfl⟩ := trodAll_nil r1
  obtain rfl : args = #[v0, v1] := by cases args; simp_all
  obtain ⟨rfl, rfl⟩ := trodVars_none hV
  obtain ⟨a0, len0, cap0, rfl⟩ := okWide_slice Try.underlying43 (hval 0 43 v0 rfl rfl)
  have k0 := h0
  have lt0 : ∀ x ∈ p0, x.block < W.heap.size := by obtain ⟨m, hm⟩ := k0; exact DataW.trod_lt m _ _ _ hm
  obtain ⟨z0, w0⟩ : ∃ zs, IsRow .u16 W a0 len0 cap0 zs := by
    obtain ⟨fuel, hf⟩ := h0
    rcases open_ints Try.underlying43 Try.underlying44 (by kernel_rfl) hf with ⟨hcs, _⟩ | ⟨x, l, c, zs, hcs, hx, hl, hm, hz, _, hcell, hwz⟩
    · simp [Value.cells] at hcs
      obtain ⟨rfl, rfl, rfl⟩ := hcs
      exact ⟨[], .inl ⟨rfl, rfl, rfl, rfl⟩⟩
    · simp [Value.cells] at hcs
      obtain ⟨rfl, rfl, rfl⟩ := hcs
      exact ⟨zs, isRow_some hl hm (by simpa using hz) hcell hwz⟩
  obtain ⟨a1, rfl, rfl, rfl, w1⟩ := open_int Try.underlying41 (hval 1 41 v1 rfl rfl) h1
  clear hA0 hval0
  refine (walk a0 len0 cap0 z0 a1 W w0 w1).mono fun e W' ⟨he, bel⟩ => ?_
  subst he
  exact ⟨_, rfl, _, _, _, [], _, [], hW', trodAll_mk1 (shut_bool Try.underlying4 _), (trodAll_cons_mk (Below.trod laidOut (by kernel_rfl) (of_decide_eq_true (by kernel_rfl)) k0 bel lt0) (trodAll_cons_mk (shut_int Try.underlying41 w1) trodAll_mk0)), rfl, bel.frame _, fun h => by cases h⟩

theorem over : Rows.peakQuietRow.holds Try.pinned (OpenSpec.ofChange Rows.peakQuietSpec) :=
  OpenClaim.holds_of_wide 5 Try.f5 rfl rfl rfl rfl rfl rfl rfl ⟨rfl, rfl, rfl, rfl, rfl⟩ rfl rfl rfl rfl rfl (by kernel_rfl) Try.func5 (by kernel_rfl)
    (of_decide_eq_true (by kernel_rfl)) (by unfold Func.isWrapper; first | (rw [if_pos (by decide +kernel)]; kernel_rfl) | (rw [if_neg (by decide +kernel)]; exact ⟨rfl, rfl⟩))
    (fun os started H enc _ => lifted os started H enc)

theorem proved : Rows.PeakQuietSaid := over
#print axioms proved
end Go.Proofs.Ytoghdmoblehnmaa.peakQuiet
