/- A delay line: values in any number, and none any more. -/
import Derived.Test.YtpmjgomfjfhfkaaLine
import Derived.Deep.RegionWith
set_option linter.unusedSimpArgs false
set_option linter.unusedVariables false
namespace Go.Proofs.Ytpmjgomfjfhfkaa
open Go.RowKit RI64

theorem line_forget (x b g n most : Nat) (h : List Int) (w : World) (L : Line w x b g n most h) :
    Calls Try.prog 60 #[.pointer (some ⟨x, 0, none⟩)] w fun e w' => e = .returned (.tuple #[]) ∧ LineBecame w x b g n most [] w' := by
  obtain ⟨c0, c1⟩ := L.cells
  obtain ⟨f, cs, hR⟩ := L.ring
  have hne := L.ne_
  have hcl := clear_any b g n n f cs _ w hR
  go_enter Try.func60, Try.ntmps60
  go_wp2_with (go_at_call 62; ((with_reducible refine hcl.mono ?_); rintro e w1 ⟨rfl, cs1, hR1, hT1⟩))
  go_end0
  exact ⟨rfl, ⟨hT1.has L.head hne.1 hne.2, ⟨_, cs1, by simpa using hR1⟩, L.most_, L.room, hne⟩, Kept.of_turned hT1⟩
end Go.Proofs.Ytpmjgomfjfhfkaa
