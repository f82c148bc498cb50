/- Whatever limits, number, runs and marks come in, RhythmPushes answers true, and writes nothing that was there. -/
import Derived.Test.YtpmjgomfjfhfkaaRows
import Derived.ShutString
import Derived.ChangeOld
import Derived.Below
import Derived.Test.YtpmjgomfjfhfkaaLawKit
import Derived.Test.YtpmjgomfjfhfkaaRhythmPushesK
import Derived.Test.YtpmjgomfjfhfkaaRhythmPush
import Derived.Test.YtpmjgomfjfhfkaaFlat
set_option linter.unusedSimpArgs false
set_option linter.unusedVariables false
namespace Go.Proofs.Ytpmjgomfjfhfkaa.rhythmPushes
open Go.ChangeShapes Go.WideShapes Go.ChangeAt Go.RowKit
open Go.ChangeMaps (open_string shut_string)
open Rhythm
theorem walk (z0 : Tally.Lim) (a1 : Int) (a2 : Option Addr) (len2 cap2 : Nat) (z2 : List Rn) (a3 : Option Addr) (len3 cap3 : Nat) (z3 : List Mk) (w : World) (w0 : Tally.LimOk z0) (w1 : (Lit.int .u16 a1).wf = true) (w2 : Row.IsFlat rnS RnOk w a2 len2 cap2 z2) (w3 : Row.IsFlat mkS MkOk w a3 len3 cap3 z3) :
    Calls Try.prog 3 #[Tally.limV z0, .int .u16 a1, .slice a2 len2 cap2, .slice a3 len3 cap3] w fun e w' => e = .returned (.bool true) ∧ Below w.heap.size w w' := pushes_k kit z0 a1 a2 len2 cap2 z2 a3 len3 cap3 z3 w (bounds_u16 w1) w2 w3

theorem own : ownKnob Try.prog.godebug = none := by kernel_rfl
theorem laidOut : laidOutB Try.prog = true := by kernel_rfl

/-! ### The row's step -/
set_option maxRecDepth 100000 in
theorem lifted (os : Os) (started : os.Started) (H : Type) (enc : TypeId × Value → H) :
    ReturnsInHanded {} Try.checked os 3 .any (Rows.rhythmPushesSpec.pre6 enc Try.prog Try.f3 Rows.rhythmPushesRow.domain false) (Rows.rhythmPushesSpec.post enc Try.prog Try.f3 false true false false) := by
  refine returnsInHanded_of_change (C := Try.checked) own started (by kernel_rfl) Try.func3
    (ChangeSpec.witness6 (enc := enc) (C := Try.checked) false ⟨#[], #[.agg #[.int .i64 0, .int .i64 0, .int .i64 0, .int .i64 0, .int .i64 0, .int .i64 0, .int .i64 0, .int .i64 0, .int .i64 0], .int .u16 0, .slice none 0 0, .slice none 0 0], []⟩ 8 (by kernel_rfl) (by kernel_rfl) (by kernel_rfl) (by kernel_rfl)) ?_
  intro W base args ds gs before hval0 hW hcnd _
  have hval : ∀ (j : Nat) t v, Try.f3.params[j]? = some t → args[j]? = some v → Value.okWide Try.prog W .any base t v := hval0
  have hW' := hW
  obtain ⟨p, q, hA0, hV, rfl, hfz, hnd⟩ := hW
  have hA : DataW.TrodAll enc Try.prog W 0 (fun _ => true) true Try.f3.params.toList args.toList ds p := hA0
  rw [Try.params3] at hA hval
  obtain ⟨v0, vs0, d0, ds0, p0, q0, hargs, rfl, rfl, h0, r0⟩ := trodAll_cons hA
  obtain ⟨v1, vs1, d1, ds1, p1, q1, rfl, rfl, rfl, h1, r1⟩ := trodAll_cons r0
  obtain ⟨v2, vs2, d2, ds2, p2, q2, rfl, rfl, rfl, h2, r2⟩ := trodAll_cons r1
  obtain ⟨v3, vs3, d3, ds3, p3, q3, rfl, rfl, rfl, h3, r3⟩ := trodAll_cons r2
  obtain ⟨rfl, rfl, rfl⟩ := trodAll_nil r3
  obtain rfl : args = #[v0, v1, v2, v3] := by cases args; simp_all
  obtain ⟨rfl, rfl⟩ := trodVars_none hV
  obtain ⟨cs0, rfl, _⟩ := okWide_struct Try.underlying23 (hval 0 23 v0 rfl rfl)
  have k0 := h0
  have lt0 : ∀ x ∈ p0, x.block < W.heap.size := by obtain ⟨m, hm⟩ := k0; exact DataW.trod_lt m _ _ _ hm
  obtain ⟨z0, hz0, w0⟩ : ∃ z, Tally.limS.enc z = cs0.toList ∧ Tally.LimOk z := by
    obtain ⟨fuel, hf⟩ := h0
    exact Tally.lim_dec _ ((Row.oks_all 20).1 _ _ _ _ _ (by kernel_rfl) hf)
  obtain rfl : cs0 = (Tally.limS.enc z0).toArray := by rw [hz0]
  obtain ⟨a1, rfl, rfl, rfl, w1⟩ := open_int Try.underlying24 (hval 1 24 v1 rfl rfl) h1
  obtain ⟨a2, len2, cap2, rfl⟩ := okWide_slice Try.underlying25 (hval 2 25 v2 rfl rfl)
  have k2 := h2
  have lt2 : ∀ x ∈ p2, x.block < W.heap.size := by obtain ⟨m, hm⟩ := k2; exact DataW.trod_lt m _ _ _ hm
  obtain ⟨z2, w2⟩ : ∃ zs, Row.IsFlat Rhythm.rnS Rhythm.RnOk W a2 len2 cap2 zs := by
    obtain ⟨fuel, hf⟩ := h2
    exact Row.flat_of Rhythm.rnS Rhythm.RnOk Try.underlying25 (by kernel_rfl) (by kernel_rfl) rfl Rhythm.rn_dec (by simpa [Value.cells] using hf)
  obtain ⟨a3, len3, cap3, rfl⟩ := okWide_slice Try.underlying26 (hval 3 26 v3 rfl rfl)
  have k3 := h3
  have lt3 : ∀ x ∈ p3, x.block < W.heap.size := by obtain ⟨m, hm⟩ := k3; exact DataW.trod_lt m _ _ _ hm
  obtain ⟨z3, w3⟩ : ∃ zs, Row.IsFlat Rhythm.mkS Rhythm.MkOk W a3 len3 cap3 zs := by
    obtain ⟨fuel, hf⟩ := h3
    exact Row.flat_of Rhythm.mkS Rhythm.MkOk Try.underlying26 (by kernel_rfl) (by kernel_rfl) rfl Rhythm.mk_dec (by simpa [Value.cells] using hf)
  clear hA0 hval0
  refine (walk z0 a1 a2 len2 cap2 z2 a3 len3 cap3 z3 W w0 w1 w2 w3).mono fun e W' ⟨he, bel⟩ => ?_
  subst he
  exact ⟨_, rfl, _, _, _, [], _, [], hW', trodAll_mk1 (shut_bool Try.underlying4 _), (trodAll_cons_mk (Below.trod laidOut (by kernel_rfl) (of_decide_eq_true (by kernel_rfl)) k0 bel lt0) (trodAll_cons_mk (shut_int Try.underlying24 w1) (trodAll_cons_mk (Below.trod laidOut (by kernel_rfl) (of_decide_eq_true (by kernel_rfl)) k2 bel lt2) (trodAll_cons_mk (Below.trod laidOut (by kernel_rfl) (of_decide_eq_true (by kernel_rfl)) k3 bel lt3) trodAll_mk0)))), rfl, bel.frame _, fun h => by cases h⟩

theorem over : Rows.rhythmPushesRow.holds Try.pinned (OpenSpec.ofChange Rows.rhythmPushesSpec) :=
  OpenClaim.holds_of_wide 3 Try.f3 rfl rfl rfl rfl rfl rfl rfl ⟨rfl, rfl, rfl, rfl, rfl⟩ rfl rfl rfl rfl rfl (by kernel_rfl) Try.func3 (by kernel_rfl)
    (of_decide_eq_true (by kernel_rfl)) (by unfold Func.isWrapper; first | (rw [if_pos (by decide +kernel)]; kernel_rfl) | (rw [if_neg (by decide +kernel)]; exact ⟨rfl, rfl⟩))
    (fun os started H enc _ => lifted os started H enc)

theorem proved : Rows.RhythmPushesSaid := over
#print axioms proved
end Go.Proofs.Ytpmjgomfjfhfkaa.rhythmPushes
