/- Whatever two numbers come in, FixqRest answers true, and writes nothing that was there. -/
import Derived.Test.YtmmmooanapodlaaRows
import Derived.ShutString
import Derived.ChangeOld
import Derived.Below
import Derived.Test.YtmmmooanapodlaaLawKit
import Derived.Test.YtmmmooanapodlaaFixqTimes
set_option linter.unusedSimpArgs false
set_option linter.unusedVariables false
namespace Go.Proofs.Ytmmmooanapodlaa.fixqRest
open Go.ChangeShapes Go.WideShapes Go.ChangeAt Go.RowKit
open Go.ChangeMaps (open_string shut_string)
theorem walk (a0 a1 : Int) (w : World) (w0 : (Lit.int .i64 a0).wf = true) (w1 : (Lit.int .i64 a1).wf = true) :
    Calls Try.prog 7 #[.int .i64 a0, .int .i64 a1] w fun e w' => e = .returned (.bool true) ∧ Below w.heap.size w w' := by
  have b0 : fits64 a0 := bounds_i64 w0
  have b1 : fits64 a1 := bounds_i64 w1
  clear w0 w1
  by_cases h0 : a1 = 0
  · subst h0
    go_enter Try.func7, Try.ntmps7
    go_wp2_with (first
      | (go_at_call 25; refine (div_zero _ _).mono ?_; rintro e w' ⟨rfl, hB1⟩)
      | (go_at_call 10; refine (live_ok _).mono ?_; rintro e w2 ⟨rfl, hB2⟩))
    go_ret
    exact ⟨rfl, chain hB1 hB2⟩
  by_cases h1 : a0 = -9223372036854775808 ∧ a1 = -1
  · obtain ⟨rfl, rfl⟩ := h1
    clear h0
    go_enter Try.func7, Try.ntmps7
    go_wp2_with (first
      | (go_at_call 25; refine (div_over _).mono ?_; rintro e w' ⟨rfl, hB1⟩)
      | (go_at_call 10; refine (live_ok _).mono ?_; rintro e w2 ⟨rfl, hB2⟩))
    go_ret
    exact ⟨rfl, chain hB1 hB2⟩
  have hq : fits64 (a0.fdiv a1) := fdiv_in a0 a1 b0 h0 h1
  have hv : (0 < a1 ∧ 0 ≤ a0 + -(a0.fdiv a1 * a1) ∧ a0 + -(a0.fdiv a1 * a1) < a1) ∨ (¬ 0 < a1 ∧ a0 + -(a0.fdiv a1 * a1) ≤ 0 ∧ a1 < a0 + -(a0.fdiv a1 * a1)) := by
    rcases (by omega : 0 < a1 ∨ a1 < 0) with h | h
    · have := rest_pos a0 a1 h; omega
    · have := rest_neg a0 a1 h; omega
  have hf : fits64 (a0 + -(a0.fdiv a1 * a1)) := by unfold fits64 at b1 ⊢; omega
  have H0 := Lib.hid h0
  have H1 := Lib.hid h1
  clear h0 h1
  have hB := Below.refl w.heap.size w
  rcases hv with ⟨h2, h3, h4⟩ | ⟨h2, h3, h4⟩
  all_goals
    go_enter Try.func7, Try.ntmps7
    go_wp2_with (first
      | (go_at_call 25; refine (div_yes _ _ _ b0 H0.out H1.out).mono ?_; rintro e w' ⟨rfl, hN⟩; replace hB := chain hB hN; clear hN)
      | (go_at_call 16; refine (of_any _ _ b0).mono ?_; rintro e w' ⟨rfl, hN⟩; replace hB := chain hB hN; clear hN)
      | (go_at_call 20; refine (times_any _ _ _ hq b1).mono ?_; rintro e w' ⟨rfl, hN⟩; replace hB := chain hB hN; clear hN)
      | (go_at_call 17; refine (minus_any _ _).mono ?_; rintro e w' ⟨rfl, hN⟩; replace hB := chain hB hN; clear hN)
      | (go_at_call 15; refine (plus_any _ _ _).mono ?_; rintro e w' ⟨rfl, hN⟩; replace hB := chain hB hN; clear hN)
      | (go_at_call 14; refine (fits_yes _ _ hf).mono ?_; rintro e w' ⟨rfl, hN⟩; replace hB := chain hB hN; clear hN)
      | (go_at_call 10; refine (live_ok _).mono ?_; rintro e w' ⟨rfl, hN⟩; replace hB := chain hB hN; clear hN))
    go_ret
    exact ⟨rfl, hB⟩

theorem own : ownKnob Try.prog.godebug = none := by kernel_rfl

/-! ### The row's step -/
set_option maxRecDepth 100000 in
theorem lifted (os : Os) (started : os.Started) (H : Type) (enc : TypeId × Value → H) :
    ReturnsInHanded {} Try.checked os 7 .any (Rows.fixqRestSpec.pre6 enc Try.prog Try.f7 Rows.fixqRestRow.domain false) (Rows.fixqRestSpec.post enc Try.prog Try.f7 false true false false) := by
  refine returnsInHanded_of_change (C := Try.checked) own started (by kernel_rfl) Try.func7
    (ChangeSpec.witness6 (enc := enc) (C := Try.checked) false ⟨#[], #[.int .i64 0, .int .i64 0], []⟩ 8 (by kernel_rfl) (by kernel_rfl) (by kernel_rfl) (by kernel_rfl)) ?_
  intro W base args ds gs before hval0 hW hcnd _
  have hval : ∀ (j : Nat) t v, Try.f7.params[j]? = some t → args[j]? = some v → Value.okWide Try.prog W .any base t v := hval0
  have hW' := hW
  obtain ⟨p, q, hA0, hV, rfl, hfz, hnd⟩ := hW
  have hA : DataW.TrodAll enc Try.prog W 0 (fun _ => true) true Try.f7.params.toList args.toList ds p := hA0
  rw [Try.params7] at hA hval
  obtain ⟨v0, vs0, d0, ds0, p0, q0, hargs, rfl, rfl, h0, r0⟩ := trodAll_cons hA
  obtain ⟨v1, vs1, d1, ds1, p1, q1, rfl, rfl, rfl, h1, r1⟩ := trodAll_cons r0
  obtain ⟨rfl, rfl, rfl⟩ := trodAll_nil r1
  obtain rfl : args = #[v0, v1] := by cases args; simp_all
  obtain ⟨rfl, rfl⟩ := trodVars_none hV
  obtain ⟨a0, rfl, rfl, rfl, w0⟩ := open_int Try.underlying2 (hval 0 2 v0 rfl rfl) h0
  obtain ⟨a1, rfl, rfl, rfl, w1⟩ := open_int Try.underlying2 (hval 1 2 v1 rfl rfl) h1
  clear hA0 hval0
  simp only [List.append_nil] at hW'
  refine (walk a0 a1 W w0 w1).mono fun e W' ⟨he, bel⟩ => ?_
  subst he
  exact ⟨_, rfl, _, _, _, [], [], [], hW', trodAll_mk1 (shut_bool Try.underlying4 _), (trodAll_cons_mk (shut_int Try.underlying2 w0) (trodAll_cons_mk (shut_int Try.underlying2 w1) trodAll_mk0)), rfl, bel.frame _, fun h => by cases h⟩

theorem over : Rows.fixqRestRow.holds Try.pinned (OpenSpec.ofChange Rows.fixqRestSpec) :=
  OpenClaim.holds_of_wide 7 Try.f7 rfl rfl rfl rfl rfl rfl rfl ⟨rfl, rfl, rfl, rfl, rfl⟩ rfl rfl rfl rfl rfl (by kernel_rfl) Try.func7 (by kernel_rfl)
    (of_decide_eq_true (by kernel_rfl)) (by unfold Func.isWrapper; first | (rw [if_pos (by decide +kernel)]; kernel_rfl) | (rw [if_neg (by decide +kernel)]; exact ⟨rfl, rfl⟩))
    (fun os started H enc _ => lifted os started H enc)

theorem proved : Rows.FixqRestSaid := over
#print axioms proved
end Go.Proofs.Ytmmmooanapodlaa.fixqRest
