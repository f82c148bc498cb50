/- A delay line: Reset (a text of its own: a seat whose code resets windows alone has this function without a body). -/
import Derived.Test.YtpfoonhobeflhaaLinePush
import Derived.Deep.RegionWith
set_option linter.unusedSimpArgs false
set_option linter.unusedVariables false
namespace Go.Proofs.Ytpfoonhobeflhaa
open Go.RowKit RI64

theorem line_reset (x b g n most : Nat) (h : List Int) (w : World) (L : Line w x b g n most h) :
    Calls Try.prog 21 #[.pointer (some ⟨x, 0, none⟩)] w fun e w' => e = .returned (.tuple #[]) ∧ LineBecame w x b g n most [] w' := by
  have hcl := line_forget x b g n most h w L
  go_enter Try.func21, Try.ntmps21
  go_wp2_with (go_at_call 32; ((with_reducible refine hcl.mono ?_); rintro e w1 ⟨rfl, hB⟩))
  go_end0
  exact ⟨rfl, hB⟩
end Go.Proofs.Ytpfoonhobeflhaa
