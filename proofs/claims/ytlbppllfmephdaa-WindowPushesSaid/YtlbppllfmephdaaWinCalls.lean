/- The landed window of squares's other calls, and the kit. -/
import Derived.Test.YtlbppllfmephdaaWinCode
import Derived.Test.YtlbppllfmephdaaWinBlock
set_option linter.unusedSimpArgs false
set_option linter.unusedVariables false
namespace Go.Proofs.Ytlbppllfmephdaa.Win
open Go.RowKit RI64
theorem new_k (w : World) :
    Calls Try.prog 6 #[] w fun e w' => e = .returned (.pointer (some ⟨w.heap.size + 4, 0, none⟩)) ∧
      (∃ n, WinIs w' (w.heap.size + 4) (w.heap.size + 3) (w.heap.size + 2) (w.heap.size + 1) w.heap.size n []) ∧ Below w.heap.size w w' := by
  have hln := window_of_yes 29 w (by omega)
  rw [show ((29 : Nat) : Int) + 1 = 30 from rfl] at hln
  go_enter Try.func6, Try.ntmps6
  go_wp2_with (go_at_call 14; ((with_reducible refine hln.mono ?_); rintro e w2 ⟨rfl, ⟨n, hL⟩, hB, hz⟩))
  go_ret
  refine ⟨by first | rfl | simp [hz], ⟨n, ?_, by exact hL.alloc _, by omega⟩, hB.alloc hB.size _⟩
  have h9 := Has.new w2 39 #[.pointer (some ⟨w.heap.size + 3, 0, none⟩)]
  rw [hz] at h9
  exact h9
theorem reset_k (y z x b g n : Nat) (h : List Int) (w : World) (L : WinIs w y z x b g n h) :
    Calls Try.prog 11 #[.pointer (some ⟨y, 0, none⟩)] w fun e w' => e = .returned (.tuple #[]) ∧ WinIs w' y z x b g n [] ∧ Kept [z, b, g] w w' := by
  have c0 := L.cell
  have hr := window_reset z x b g n 29 _ w L.win
  go_enter Try.func11, Try.ntmps11
  go_wp2_with (go_at_call 17; ((with_reducible refine hr.mono ?_); rintro e w1 ⟨rfl, hL, hK⟩))
  go_end0
  exact ⟨rfl, L.turned (h' := []) hL hK, hK⟩
theorem no_push (v : Int) (w : World) : Calls Try.prog 12 #[.pointer none, .int .i64 v] w fun e w' => e = .returned (.int .i64 0) ∧ w = w' := by
  go_enter Try.func12, Try.ntmps12
  go_wp2
  go_ret
  exact ⟨rfl, rfl⟩
theorem no_block (A : Option Addr) (n c : Nat) (w : World) : Calls Try.prog 9 #[.pointer none, .slice A n c] w fun e w' => ∃ B d, e = .returned (.slice B 0 d) ∧ Below w.heap.size w w' := by
  go_enter Try.func9, Try.ntmps9
  go_wp2
  go_ret
  exact ⟨_, _, rfl, Below.refl _ _⟩
theorem no_reset (w : World) : Calls Try.prog 11 #[.pointer none] w fun e w' => e = .returned (.tuple #[]) ∧ w = w' := by
  go_enter Try.func11, Try.ntmps11
  go_wp2
  exact bodyPost_ret (results_none rfl _ _ _) rfl ⟨rfl, rfl⟩
theorem no_last (w : World) : Calls Try.prog 10 #[.pointer none] w fun e w' => e = .returned (.int .i64 0) ∧ w = w' := by
  go_enter Try.func10, Try.ntmps10
  go_wp2
  go_ret
  exact ⟨rfl, rfl⟩
theorem fil_lt {w : World} {b : Nat} {S : List Nat} {h : List Int} (hF : Fil w b S h) : ∀ k ∈ S, k < w.heap.size := by
  obtain ⟨z, x, b', g, n, rfl, L⟩ := hF
  intro k hk
  have := L.lt_
  simp at hk
  omega
theorem fil_kept {w w' : World} {b : Nat} {S T : List Nat} {h : List Int} (hF : Fil w b S h) (hK : Kept T w w') (hd : ∀ k ∈ S, k ∉ T) : Fil w' b S h := by
  obtain ⟨z, x, b', g, n, rfl, L⟩ := hF
  exact ⟨z, x, b', g, n, rfl, L.kept hK (hd _ (by simp)) (hd _ (by simp)) (hd _ (by simp)) (hd _ (by simp)) (hd _ (by simp))⟩
theorem push_any (b : Nat) (S : List Nat) (h : List Int) (v : Int) (w : World) (hF : Fil w b S h) :
    Calls Try.prog 12 #[.pointer (some ⟨b, 0, none⟩), .int .i64 v] w fun e w' => e = .returned (.int .i64 (winT (v :: h))) ∧ Fil w' b S (v :: h) ∧ Kept S w w' := by
  obtain ⟨z, x, b', g, n, rfl, L⟩ := hF
  exact (push_k b z x b' g n h v w L).mono fun e w' ⟨h1, h2, h3⟩ => ⟨h1, ⟨z, x, b', g, n, rfl, h2⟩, h3.wide (fun k hk _ => by simp at hk; rcases hk with rfl | rfl | rfl <;> simp)⟩
/-- What the landed window of squares answers, as a filter. -/
def kit : FilterKit 12 9 11 winT where
  Fil := Fil
  lt := fil_lt
  kept := fil_kept
  push_any := push_any
  block_any := fun b S h A n c ys w hF hv hn hc hc2 hfar => block_of winT Fil fil_lt fil_kept push_any b S h A n c ys w hF hv hn hc hc2 hfar
  reset_any := fun b S h w hF => by
    obtain ⟨z, x, b', g, n, rfl, L⟩ := hF
    exact (reset_k b z x b' g n h w L).mono fun e w' ⟨h1, h2, h3⟩ => ⟨h1, ⟨z, x, b', g, n, rfl, h2⟩, h3.wide (fun k hk _ => by simp at hk; rcases hk with rfl | rfl | rfl <;> simp)⟩
  no_push := no_push
  no_block := no_block
  no_reset := no_reset
theorem last_any (b : Nat) (S : List Nat) (h : List Int) (w : World) (hF : kit.Fil w b S h) :
    Calls Try.prog 10 #[.pointer (some ⟨b, 0, none⟩)] w fun e w' => e = .returned (.int .i64 (winT h)) ∧ w = w' := by
  obtain ⟨z, x, b', g, n, rfl, L⟩ := hF
  exact last_k b z x b' g n h w L
theorem new_any (w : World) :
    Calls Try.prog 6 #[] w fun e w' => ∃ b S, e = .returned (.pointer (some ⟨b, 0, none⟩)) ∧ NewIs kit.Fil w b S w' :=
  (new_k w).mono fun e w' ⟨h1, ⟨n, h2⟩, h3⟩ => ⟨_, _, h1, ⟨_, _, _, _, n, rfl, h2⟩, (fun k hk => by simp at hk; omega), h3⟩
end Go.Proofs.Ytlbppllfmephdaa.Win
