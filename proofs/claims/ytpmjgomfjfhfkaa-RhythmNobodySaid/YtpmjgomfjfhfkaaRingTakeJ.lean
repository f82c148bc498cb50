/- A ring of int64: taking things out. -/
import Derived.Test.YtpmjgomfjfhfkaaRingDropJ
import Derived.Test.YtpmjgomfjfhfkaaRingPutJ
import Derived.Test.YtpmjgomfjfhfkaaRingNewJ
set_option linter.unusedSimpArgs false
set_option linter.unusedVariables false
namespace Go.Proofs.Ytpmjgomfjfhfkaa.RI64
open Go.RowKit

theorem pop_no (b : Nat) (w : World) (h2 : w.cell? ⟨b, 2, none⟩ = some (.int .i64 0)) :
    Calls Try.prog 68 #[.pointer (some ⟨b, 0, none⟩)] w fun e w' => e = .returned (.tuple #[.int .i64 0, .bool false]) ∧ w = w' := by
  have hat := at_no b 0 0 w (.inr (by omega)) h2
  go_enter Try.func68, Try.ntmps68
  go_wp2_with (go_at_call 71; ((with_reducible refine hat.mono ?_); rintro e w' ⟨rfl, rfl⟩))
  go_ret2
  exact ⟨rfl, rfl⟩
theorem pop_yes (b g n q f : Nat) (cs xs : List Int) (w : World) (h : Ring w b g n q f cs xs) (hx : 0 < xs.length) :
    Calls Try.prog 68 #[.pointer (some ⟨b, 0, none⟩)] w fun e w' => e = .returned (.tuple #[.int .i64 (xs.getD 0 0), .bool true]) ∧ Became w b g n q ((f + 1) % n) (xs.drop 1) w' := by
  have hat := at_yes b g n q f cs xs 0 w h hx
  rw [show ((0 : Nat) : Int) = 0 from rfl] at hat
  obtain ⟨v, hv⟩ : ∃ v, xs.getD 0 0 = v := ⟨_, rfl⟩
  rw [hv] at hat ⊢
  clear hv
  have hdr : ∀ W, Ring W b g n q f cs xs → Calls Try.prog 65 #[.pointer (some ⟨b, 0, none⟩), .int .i64 1] W fun e w' => e = .returned (.tuple #[]) ∧ Became W b g n q ((f + 1) % n) (xs.drop 1) w' := fun W hW => drop_any b g n q f cs xs 1 W hW hx
  go_enter Try.func68, Try.ntmps68
  go_wp2_with (first
    | (go_at_call 71; ((with_reducible refine hat.mono ?_); rintro e w' ⟨rfl, kk, rfl⟩))
    | (go_at_call 65; ((with_reducible refine (hdr _ (by exact h.same rfl)).mono ?_); rintro e w' ⟨rfl, hB⟩)))
  go_ret2
  obtain ⟨cs', hR, hT⟩ := hB
  exact ⟨rfl, cs', hR, ((Turned.refl b g w).drewN kk).trans hT⟩

theorem clear_any (b g n q f : Nat) (cs xs : List Int) (w : World) (h : Ring w b g n q f cs xs) :
    Calls Try.prog 62 #[.pointer (some ⟨b, 0, none⟩)] w fun e w' => e = .returned (.tuple #[]) ∧ Became w b g n q ((f + xs.length) % n) [] w' := by
  obtain ⟨c0, c1, c2⟩ := h.core.cells
  have hdr := drop_any b g n q f cs xs xs.length w h (Nat.le_refl _)
  rw [List.drop_length] at hdr
  go_enter Try.func62, Try.ntmps62
  go_wp2_with (go_at_call 65; ((with_reducible refine hdr.mono ?_); rintro e w' ⟨rfl, hB⟩))
  go_end0
  exact ⟨rfl, hB⟩
end Go.Proofs.Ytpmjgomfjfhfkaa.RI64
