/- The chapter's example of the line: so it is. -/
import Derived.Test.YtjjnabhkdhobiaaWindow
import Derived.ProofKit
set_option linter.unusedSimpArgs false
set_option linter.unusedVariables false
namespace Go.Proofs.Ytjjnabhkdhobiaa
open Go.RowKit

set_option maxHeartbeats 1000000 in
theorem live_ok (w : World) : Calls Try.prog 8 #[] w fun e w' => e = .returned (.bool true) ∧ Below w.heap.size w w' := by
  have hnew : Calls Try.prog 15 #[.int .i64 2] w fun e w' => e = .returned (.tuple #[.pointer (some ⟨w.heap.size + 3, 0, none⟩), .int .i64 0]) ∧
      (∃ n, Window w' (w.heap.size + 3) (w.heap.size + 2) (w.heap.size + 1) w.heap.size n 1 []) ∧ Below w.heap.size w w' ∧ w'.heap.size = w.heap.size + 4 := window_of_yes 1 w (by omega)
  obtain ⟨y, x, b, g, hy, hx, hb, hg, hbg⟩ : ∃ y x b g, w.heap.size ≤ y ∧ w.heap.size ≤ x ∧ w.heap.size ≤ b ∧ w.heap.size ≤ g ∧ (y = w.heap.size + 3 ∧ x = w.heap.size + 2 ∧ b = w.heap.size + 1 ∧ g = w.heap.size) := ⟨_, _, _, _, by omega, by omega, by omega, by omega, rfl, rfl, rfl, rfl⟩
  have hnew2 : Calls Try.prog 15 #[.int .i64 2] w fun e w' => e = .returned (.tuple #[.pointer (some ⟨y, 0, none⟩), .int .i64 0]) ∧ (∃ n, Window w' y x b g n 1 []) ∧ Below w.heap.size w w' := by
    rw [hbg.1, hbg.2.1, hbg.2.2.1, hbg.2.2.2]
    exact hnew.mono fun e w' ⟨h1, h2, h3, h4⟩ => ⟨h1, h2, h3⟩
  clear hnew hbg
  have e1 : wrap64 (winSum 1 [1]) = 1 := by unfold wrap64 winSum; decide
  have e2 : wrap64 (winSum 1 [2, 1]) = 3 := by unfold wrap64 winSum; decide
  have e3 : wrap64 (winSum 1 [4, 2, 1]) = 6 := by unfold wrap64 winSum; decide
  have a1 : agoTo 1 [4, 2, 1] 1 = 2 := by decide
  have a2 : agoTo 1 [4, 2, 1] 2 = 0 := by decide
  have p1 : ∀ W n, Window W y x b g n 1 [] → Calls Try.prog 17 #[.pointer (some ⟨y, 0, none⟩), .int .i64 1] W fun e w' => e = .returned (.int .i64 1) ∧ WindowBecame W y x b g n 1 [1] w' := fun W n hW => by
    have := window_push y x b g n 1 [] 1 W hW
    rwa [e1] at this
  have p2 : ∀ W n, Window W y x b g n 1 [1] → Calls Try.prog 17 #[.pointer (some ⟨y, 0, none⟩), .int .i64 2] W fun e w' => e = .returned (.int .i64 3) ∧ WindowBecame W y x b g n 1 [2, 1] w' := fun W n hW => by
    have := window_push y x b g n 1 [1] 2 W hW
    rwa [e2] at this
  have p3 : ∀ W n, Window W y x b g n 1 [2, 1] → Calls Try.prog 17 #[.pointer (some ⟨y, 0, none⟩), .int .i64 4] W fun e w' => e = .returned (.int .i64 6) ∧ WindowBecame W y x b g n 1 [4, 2, 1] w' := fun W n hW => by
    have := window_push y x b g n 1 [2, 1] 4 W hW
    rwa [e3] at this
  have b1 : ∀ W n, Window W y x b g n 1 [4, 2, 1] → Calls Try.prog 20 #[.pointer (some ⟨y, 0, none⟩), .int .i64 1] W fun e w' => e = .returned (.int .i64 2) ∧ ∃ d, w' = W.drewN d := fun W n hW => by
    have := window_back y x b g n 1 [4, 2, 1] 1 W hW (by omega)
    rwa [a1] at this
  have b2 : ∀ W n, Window W y x b g n 1 [4, 2, 1] → Calls Try.prog 20 #[.pointer (some ⟨y, 0, none⟩), .int .i64 2] W fun e w' => e = .returned (.int .i64 0) ∧ ∃ d, w' = W.drewN d := fun W n hW => by
    have := window_back y x b g n 1 [4, 2, 1] 2 W hW (by omega)
    rwa [a2] at this
  clear e1 e2 e3 a1 a2
  go_enter Try.func8, Try.ntmps8
  go_wp2_with (first
    | (go_at_call 15; ((with_reducible refine hnew2.mono ?_); rintro e w1 ⟨rfl, ⟨n, hW1⟩, hB1⟩))
    | (go_at_call 17; ((with_reducible refine (p1 _ _ hW1).mono ?_); rintro e w2 ⟨rfl, hW2, hK2⟩))
    | (go_at_call 17; ((with_reducible refine (p2 _ _ hW2).mono ?_); rintro e w3 ⟨rfl, hW3, hK3⟩))
    | (go_at_call 17; ((with_reducible refine (p3 _ _ hW3).mono ?_); rintro e w4 ⟨rfl, hW4, hK4⟩))
    | (go_at_call 20; ((with_reducible refine (b1 _ _ (by exact hW4)).mono ?_); rintro e w5 ⟨rfl, d1, rfl⟩))
    | (go_at_call 20; ((with_reducible refine (b2 _ _ (by exact hW4.same rfl)).mono ?_); rintro e w6 ⟨rfl, d2, rfl⟩)))
  go_ret
  have hs : ∀ k ∈ [y, b, g], w.heap.size ≤ k := by intro k hk; simp at hk; omega
  have h2 := below_kept hB1 hK2 hB1.size hs
  have h3 := below_kept h2 hK3 h2.size hs
  have h4 := below_kept h3 hK4 h3.size hs
  first | exact ⟨rfl, below_drewN h4 _⟩ | exact ⟨rfl, below_drewN (below_drewN h4 _) _⟩
end Go.Proofs.Ytjjnabhkdhobiaa
