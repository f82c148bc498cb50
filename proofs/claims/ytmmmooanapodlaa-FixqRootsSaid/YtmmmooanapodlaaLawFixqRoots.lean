/- Whatever number comes in, FixqRoots answers true, and writes nothing that was there. -/
import Derived.Test.YtmmmooanapodlaaRows
import Derived.ShutString
import Derived.ChangeOld
import Derived.Below
import Derived.Test.YtmmmooanapodlaaLawKit
import Derived.Test.YtmmmooanapodlaaFixqRef
import Derived.Test.YtmmmooanapodlaaFixqMul
set_option linter.unusedSimpArgs false
set_option linter.unusedVariables false
namespace Go.Proofs.Ytmmmooanapodlaa.fixqRoots
open Go.ChangeShapes Go.WideShapes Go.ChangeAt Go.RowKit
open Go.ChangeMaps (open_string shut_string)
theorem walk (a0 : Int) (w : World) (w0 : (Lit.int .i64 a0).wf = true) :
    Calls Try.prog 8 #[.int .i64 a0] w fun e w' => e = .returned (.bool true) ∧ Below w.heap.size w w' := by
  have b0 : fits64 a0 := bounds_i64 w0
  have hhi : a0 ≤ 9223372036854775807 := b0.2
  clear w0 b0
  by_cases h0 : a0 < 0
  · go_enter Try.func8, Try.ntmps8
    go_wp2_with (first
      | (go_at_call 30; refine (root_neg _ _ h0).mono ?_; rintro e w' ⟨rfl, rfl⟩)
      | (go_at_call 10; refine (live_ok _).mono ?_; rintro e w' ⟨rfl, hN⟩))
    go_ret
    exact ⟨rfl, hN⟩
  by_cases h1 : a0 = 0
  · subst h1
    go_enter Try.func8, Try.ntmps8
    go_wp2_with (first
      | (go_at_call 30; refine (root_any _ _ (by omega) (by omega)).mono ?_; rintro e w' ⟨hR, rfl⟩; obtain rfl := root_0 hR)
      | (go_at_call 10; refine (live_ok _).mono ?_; rintro e w' ⟨rfl, hN⟩))
    go_ret
    exact ⟨rfl, hN⟩
  have hpos : 1 ≤ a0 := by omega
  clear h0 h1
  go_enter Try.func8, Try.ntmps8
  go_wp2_with (first
    | (go_at_call 30; refine (root_any _ _ (by omega) hhi).mono ?_; rintro e w' ⟨⟨r, rfl, hr0, hr1, hlo, hup⟩, rfl⟩; have hr2 : 1 ≤ r := (by rcases (by omega : r = 0 ∨ 1 ≤ r) with h | h; (subst h; omega); exact h); have hr3 := (sq_le r hr0 (by omega)).1; have bf : fits64 (r + 1) := (by unfold fits64; omega))
    | (go_at_call 18; refine (mul_any _ _ _ _ _ (ints_pair _ _ _ _ bf bf)).mono ?_; rintro e w' ⟨he, rfl⟩; rw [prod_pair] at he; rcases addIs_cases he with ⟨hf, rfl⟩ | ⟨hf, rfl⟩)
    | (go_at_call 10; refine (live_ok _).mono ?_; rintro e w' ⟨rfl, hN⟩))
  all_goals
    go_ret
    exact ⟨rfl, ((Below.refl _ _).alloc (Nat.le_refl _) _).trans (hN.mono (by simp))⟩

theorem own : ownKnob Try.prog.godebug = none := by kernel_rfl

/-! ### The row's step -/
set_option maxRecDepth 100000 in
theorem lifted (os : Os) (started : os.Started) (H : Type) (enc : TypeId × Value → H) :
    ReturnsInHanded {} Try.checked os 8 .any (Rows.fixqRootsSpec.pre6 enc Try.prog Try.f8 Rows.fixqRootsRow.domain false) (Rows.fixqRootsSpec.post enc Try.prog Try.f8 false true false false) := by
  refine returnsInHanded_of_change (C := Try.checked) own started (by kernel_rfl) Try.func8
    (ChangeSpec.witness6 (enc := enc) (C := Try.checked) false ⟨#[], #[.int .i64 0], []⟩ 8 (by kernel_rfl) (by kernel_rfl) (by kernel_rfl) (by kernel_rfl)) ?_
  intro W base args ds gs before hval0 hW hcnd _
  have hval : ∀ (j : Nat) t v, Try.f8.params[j]? = some t → args[j]? = some v → Value.okWide Try.prog W .any base t v := hval0
  have hW' := hW
  obtain ⟨p, q, hA0, hV, rfl, hfz, hnd⟩ := hW
  have hA : DataW.TrodAll enc Try.prog W 0 (fun _ => true) true Try.f8.params.toList args.toList ds p := hA0
  rw [Try.params8] at hA hval
  obtain ⟨v0, vs0, d0, ds0, p0, q0, hargs, rfl, rfl, h0, r0⟩ := trodAll_cons hA
  obtain ⟨rfl, rfl, rfl⟩ := trodAll_nil r0
  obtain rfl : args = #[v0] := by cases args; simp_all
  obtain ⟨rfl, rfl⟩ := trodVars_none hV
  obtain ⟨a0, rfl, rfl, rfl, w0⟩ := open_int Try.underlying2 (hval 0 2 v0 rfl rfl) h0
  clear hA0 hval0
  simp only [List.append_nil] at hW'
  refine (walk a0 W w0).mono fun e W' ⟨he, bel⟩ => ?_
  subst he
  exact ⟨_, rfl, _, _, _, [], [], [], hW', trodAll_mk1 (shut_bool Try.underlying4 _), (trodAll_cons_mk (shut_int Try.underlying2 w0) trodAll_mk0), rfl, bel.frame _, fun h => by cases h⟩

theorem over : Rows.fixqRootsRow.holds Try.pinned (OpenSpec.ofChange Rows.fixqRootsSpec) :=
  OpenClaim.holds_of_wide 8 Try.f8 rfl rfl rfl rfl rfl rfl rfl ⟨rfl, rfl, rfl, rfl, rfl⟩ rfl rfl rfl rfl rfl (by kernel_rfl) Try.func8 (by kernel_rfl)
    (of_decide_eq_true (by kernel_rfl)) (by unfold Func.isWrapper; first | (rw [if_pos (by decide +kernel)]; kernel_rfl) | (rw [if_neg (by decide +kernel)]; exact ⟨rfl, rfl⟩))
    (fun os started H enc _ => lifted os started H enc)

theorem proved : Rows.FixqRootsSaid := over
#print axioms proved
end Go.Proofs.Ytmmmooanapodlaa.fixqRoots
