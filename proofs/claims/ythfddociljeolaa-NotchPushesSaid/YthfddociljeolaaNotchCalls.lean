/- The landed notch's other calls, and the kit. -/
import Derived.Test.YthfddociljeolaaNotchCode
import Derived.Test.YthfddociljeolaaNotchBlock
set_option linter.unusedSimpArgs false
set_option linter.unusedVariables false
namespace Go.Proofs.Ythfddociljeolaa.Notch
open Go.RowKit RI64
theorem weights_k {m : Nat} (hm : Known m) (w : World) :
    Calls Try.prog 14 #[.int .i64 (m : Nat)] w fun e w' => e = .returned (.tuple #[.slice (some ⟨w.heap.size, 0, none⟩) (weightsT m).length (weightsT m).length, .int .i64 (logT m : Nat)]) ∧ w' = w.alloc (.cells (vals (weightsT m)).toArray 2) := by
  rcases hm with rfl | rfl | rfl
  all_goals
    go_enter Try.func14, Try.ntmps14
    go_wp2
    go_ret2
    exact ⟨rfl, rfl⟩
theorem weights_no (m : Int) (w : World) (h : m ≠ 0 ∧ m ≠ 50 ∧ m ≠ 60) :
    Calls Try.prog 14 #[.int .i64 m] w fun e w' => e = .returned (.tuple #[.slice none 0 0, .int .i64 0]) ∧ w = w' := by
  have h1 : (m == 0) = false := by simp [h]
  have h2 : (m == 50) = false := by simp [h]
  have h3 : (m == 60) = false := by simp [h]
  go_enter Try.func14, Try.ntmps14
  go_wp2
  go_ret2
  exact ⟨rfl, rfl⟩
theorem new_no (m : Int) (w : World) (h : m ≠ 0 ∧ m ≠ 50 ∧ m ≠ 60) :
    Calls Try.prog 6 #[.int .i64 m] w fun e w' => e = .returned (.tuple #[.pointer none, .int .i64 1]) ∧ w = w' := by
  have hw := weights_no m w h
  go_enter Try.func6, Try.ntmps6
  go_wp2_with (go_at_call 14; ((with_reducible refine hw.mono ?_); rintro e w1 ⟨rfl, rfl⟩))
  go_ret2
  exact ⟨rfl, rfl⟩
theorem new_k {m : Nat} (hm : Known m) (w : World) :
    Calls Try.prog 6 #[.int .i64 (m : Nat)] w fun e w' => e = .returned (.tuple #[.pointer (some ⟨w.heap.size + 4, 0, none⟩), .int .i64 0]) ∧
      (∃ n, NotchIs w' (w.heap.size + 4) w.heap.size (w.heap.size + 3) (w.heap.size + 2) (w.heap.size + 1) n m []) ∧ Below w.heap.size w w' := by
  have hw := weights_k hm w
  obtain ⟨h4, h1, h15, _⟩ := weights_few hm
  have hln := line_new_yes ((weightsT m).length - 1) (w.alloc (.cells (vals (weightsT m)).toArray 2)) (by omega)
  rw [show (w.alloc (.cells (vals (weightsT m)).toArray 2)).heap.size = w.heap.size + 1 by simp] at hln
  have hH := Has.new w 2 (vals (weightsT m)).toArray
  have hB0 := (Below.refl w.heap.size w).alloc (Nat.le_refl _) (.cells (vals (weightsT m)).toArray 2)
  have hz0 : (w.alloc (.cells (vals (weightsT m)).toArray 2)).heap.size = w.heap.size + 1 := by simp
  have hpos : ((weightsT m).length : Int) - 1 = (((weightsT m).length - 1 : Nat) : Int) := by omega
  have hlen0 : (((weightsT m).length : Int) == 0) = false := beq_eq_false_iff_ne.2 (by omega)
  go_enter Try.func6, Try.ntmps6
  go_wp2_with (first
    | (go_at_call 14; ((with_reducible refine hw.mono ?_); rintro e w1 ⟨rfl, rfl⟩))
    | (go_at_call 15; ((with_reducible refine hln.mono ?_); rintro e w2 ⟨rfl, ⟨n, hL⟩, hB, hz⟩)))
  go_ret2
  have hB2 := hB0.trans (hB.mono (by omega))
  refine ⟨by first | rfl | simp [hz], ⟨n, ?_, ?_, by exact hL.alloc _, hm, by omega⟩, hB2.alloc hB2.size _⟩
  · have h9 := Has.new w2 43 #[.pointer (some ⟨w.heap.size + 3, 0, none⟩), .int .i64 m, .slice (some ⟨w.heap.size, 0, none⟩) (weightsT m).length (weightsT m).length, .int .i64 (logT m : Nat)]
    rw [hz] at h9
    exact h9
  · exact (hH.below hB (by omega)).alloc _
theorem reset_k (m y q x b g n : Nat) (h : List Int) (w : World) (L : NotchIs w y q x b g n m h) :
    Calls Try.prog 12 #[.pointer (some ⟨y, 0, none⟩)] w fun e w' => e = .returned (.tuple #[]) ∧ NotchIs w' y q x b g n m [] ∧ Kept [b, g] w w' := by
  obtain ⟨c0, c1, c2, c3⟩ := L.cells
  have hr := line_reset x b g n _ _ w L.line
  go_enter Try.func12, Try.ntmps12
  go_wp2_with (go_at_call 17; ((with_reducible refine hr.mono ?_); rintro e w1 ⟨rfl, hL, hK⟩))
  go_end0
  exact ⟨rfl, L.turned (h' := []) hL hK, hK⟩
theorem mains_k (m y q x b g n : Nat) (h : List Int) (w : World) (L : NotchIs w y q x b g n m h) :
    Calls Try.prog 11 #[.pointer (some ⟨y, 0, none⟩)] w fun e w' => e = .returned (.int .i64 (m : Nat)) ∧ w = w' := by
  obtain ⟨c0, c1, c2, c3⟩ := L.cells
  go_enter Try.func11, Try.ntmps11
  go_wp2
  go_ret
  exact ⟨rfl, rfl⟩
theorem no_push (v : Int) (w : World) : Calls Try.prog 13 #[.pointer none, .int .i64 v] w fun e w' => e = .returned (.int .i64 0) ∧ w = w' := by
  go_enter Try.func13, Try.ntmps13
  go_wp2
  go_ret
  exact ⟨rfl, rfl⟩
theorem no_block (A : Option Addr) (n c : Nat) (w : World) : Calls Try.prog 9 #[.pointer none, .slice A n c] w fun e w' => ∃ B d, e = .returned (.slice B 0 d) ∧ Below w.heap.size w w' := by
  go_enter Try.func9, Try.ntmps9
  go_wp2
  go_ret
  exact ⟨_, _, rfl, Below.refl _ _⟩
theorem no_reset (w : World) : Calls Try.prog 12 #[.pointer none] w fun e w' => e = .returned (.tuple #[]) ∧ w = w' := by
  go_enter Try.func12, Try.ntmps12
  go_wp2
  exact bodyPost_ret (results_none rfl _ _ _) rfl ⟨rfl, rfl⟩
theorem no_mains (w : World) : Calls Try.prog 11 #[.pointer none] w fun e w' => e = .returned (.int .i64 0) ∧ w = w' := by
  go_enter Try.func11, Try.ntmps11
  go_wp2
  go_ret
  exact ⟨rfl, rfl⟩
theorem fil_lt {m : Nat} {w : World} {b : Nat} {S : List Nat} {h : List Int} (hF : Fil m w b S h) : ∀ k ∈ S, k < w.heap.size := by
  obtain ⟨q, x, b', g, n, rfl, L⟩ := hF
  intro k hk
  have := L.lt_
  simp at hk
  omega
theorem fil_kept {m : Nat} {w w' : World} {b : Nat} {S T : List Nat} {h : List Int} (hF : Fil m w b S h) (hK : Kept T w w') (hd : ∀ k ∈ S, k ∉ T) : Fil m w' b S h := by
  obtain ⟨q, x, b', g, n, rfl, L⟩ := hF
  exact ⟨q, x, b', g, n, rfl, L.kept hK (hd _ (by simp)) (hd _ (by simp)) (hd _ (by simp)) (hd _ (by simp)) (hd _ (by simp))⟩
theorem push_any {m : Nat} (b : Nat) (S : List Nat) (h : List Int) (v : Int) (w : World) (hF : Fil m w b S h) :
    Calls Try.prog 13 #[.pointer (some ⟨b, 0, none⟩), .int .i64 v] w fun e w' => e = .returned (.int .i64 (notchT m (v :: h))) ∧ Fil m w' b S (v :: h) ∧ Kept S w w' := by
  obtain ⟨q, x, b', g, n, rfl, L⟩ := hF
  exact (push_k m b q x b' g n h v w L).mono fun e w' ⟨h1, h2, h3⟩ => ⟨h1, ⟨q, x, b', g, n, rfl, h2⟩, h3.wide (fun k hk _ => by simp at hk; rcases hk with rfl | rfl <;> simp)⟩
/-- What the landed notch answers, as a filter. -/
def kit (m : Nat) : FilterKit 13 9 12 (notchT m) where
  Fil := Fil m
  lt := fil_lt
  kept := fil_kept
  push_any := push_any
  block_any := fun b S h A n c ys w hF hv hn hc hc2 hfar => block_of (notchT m) (Fil m) fil_lt fil_kept push_any b S h A n c ys w hF hv hn hc hc2 hfar
  reset_any := fun b S h w hF => by
    obtain ⟨q, x, b', g, n, rfl, L⟩ := hF
    exact (reset_k m b q x b' g n h w L).mono fun e w' ⟨h1, h2, h3⟩ => ⟨h1, ⟨q, x, b', g, n, rfl, h2⟩, h3.wide (fun k hk _ => by simp at hk; rcases hk with rfl | rfl <;> simp)⟩
  no_push := no_push
  no_block := no_block
  no_reset := no_reset
theorem new_any {m : Nat} (hm : Known m) (w : World) :
    Calls Try.prog 6 #[.int .i64 (m : Nat)] w fun e w' => ∃ b S, e = .returned (.tuple #[.pointer (some ⟨b, 0, none⟩), .int .i64 0]) ∧ NewIs (kit m).Fil w b S w' :=
  (new_k hm w).mono fun e w' ⟨h1, ⟨n, h2⟩, h3⟩ => ⟨_, _, h1, ⟨_, _, _, _, n, rfl, h2⟩, (fun k hk => by simp at hk; omega), h3⟩
theorem mains_any {m : Nat} (b : Nat) (S : List Nat) (h : List Int) (w : World) (hF : (kit m).Fil w b S h) :
    Calls Try.prog 11 #[.pointer (some ⟨b, 0, none⟩)] w fun e w' => e = .returned (.int .i64 (m : Nat)) ∧ w = w' := by
  obtain ⟨q, x, b', g, n, rfl, L⟩ := hF
  exact mains_k m b q x b' g n h w L
end Go.Proofs.Ythfddociljeolaa.Notch
