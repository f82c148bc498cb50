/- The landed annal: the calls that only look at it. -/
import Derived.Test.YtjhpogiknhbegaaDoorAnnalIs
import Derived.Test.YtjhpogiknhbegaaDoorRingOutNew
import Derived.Lib.MinMax
set_option linter.unusedSimpArgs false
set_option linter.unusedVariables false
namespace Go.Proofs.YtjhpogiknhbegaaDoor.Annal
open Go.RowKit
open Alarm (Ot otS noOt ot_cells)
open RingO (Ring Became otV)
section
variable (w : World) (b : Nat) (S : List Nat) (all : List Ot) (h : Ann w b S all)
theorem len_k (h : Ann w b S all) : Calls Tryd.prog 10 #[.pointer (some ⟨b, 0, none⟩)] w fun e w' => e = .returned (.int .i64 ((keptA all).length : Nat)) ∧ ∃ z, w' = w.drewN z := by
  obtain ⟨r, g, q, f, cs, rfl, hM, hl⟩ := h
  have c0 := hM.cells.1
  have hln := RingO.len_q r g 64 q f cs (keptA all) _ w hM.ring rfl
  clear hM
  go_enter Tryd.func10, Tryd.ntmps10
  go_wp2_with (go_at_call 23; ((with_reducible refine hln.mono ?_); rintro e w' ⟨rfl, z, rfl⟩))
  go_ret
  exact ⟨rfl, z, rfl⟩
theorem dropped_k (h : Ann w b S all) : Calls Tryd.prog 11 #[.pointer (some ⟨b, 0, none⟩)] w fun e w' => e = .returned (.int .i64 ((all.length - (keptA all).length : Nat))) ∧ ∃ z, w' = w.drewN z := by
  obtain ⟨r, g, q, f, cs, rfl, hM, hl⟩ := h
  have c1 := hM.cells.2
  clear hM
  go_enter Tryd.func11, Tryd.ntmps11
  go_wp2
  go_ret
  exact ⟨rfl, 0, rfl⟩
theorem counted_k (k : Int) (w : World) : Calls Tryd.prog 25 #[.int .i64 k] w fun e w' => e = .returned (.bool (decide (0 ≤ k ∧ k ≤ 9))) ∧ w' = w := by
  by_cases h0 : 0 ≤ k
  · by_cases h1 : k < 10
    · rw [show decide (0 ≤ k ∧ k ≤ 9) = true by simp; omega]
      go_enter Tryd.func25, Tryd.ntmps25
      go_wp2
      go_ret
      exact ⟨rfl, rfl⟩
    · rw [show decide (0 ≤ k ∧ k ≤ 9) = false by simp; omega]
      go_enter Tryd.func25, Tryd.ntmps25
      go_wp2
      go_ret
      exact ⟨rfl, rfl⟩
  · rw [show decide (0 ≤ k ∧ k ≤ 9) = false by simp; omega]
    go_enter Tryd.func25, Tryd.ntmps25
    go_wp2
    go_ret
    exact ⟨rfl, rfl⟩
theorem count_k (k : Int) (h : Ann w b S all) : Calls Tryd.prog 15 #[.pointer (some ⟨b, 0, none⟩), .int .i64 k] w fun e w' => e = .returned (.int .i64 (countA all k : Nat)) ∧ ∃ z, w' = w.drewN z := by
  obtain ⟨r, g, q, f, cs, rfl, hM, hl⟩ := h
  have hct := fun W => counted_k k W
  by_cases hk : 0 ≤ k ∧ k ≤ 9
  · obtain ⟨n, rfl⟩ := Int.eq_ofNat_of_zero_le hk.1
    have h2 : decide (0 ≤ (n : Int) ∧ (n : Int) ≤ 9) = true := by simp; omega
    have c2 := hM.kind n (by omega)
    have hn : n < 10 := by omega
    rw [h2] at hct
    clear hM h2
    go_enter Tryd.func15, Tryd.ntmps15
    go_wp2_with (go_at_call 25; ((with_reducible refine (hct _).mono ?_); rintro e w' ⟨rfl, rfl⟩))
    go_ret
    exact ⟨rfl, 0, rfl⟩
  · have h2 : decide (0 ≤ k ∧ k ≤ 9) = false := by simpa using hk
    rw [h2] at hct
    rw [show countA all k = 0 by unfold countA; rw [if_neg hk]]
    clear hM h2
    go_enter Tryd.func15, Tryd.ntmps15
    go_wp2_with (go_at_call 25; ((with_reducible refine (hct _).mono ?_); rintro e w' ⟨rfl, rfl⟩))
    go_ret
    exact ⟨rfl, 0, rfl⟩
end
theorem at_k (w : World) (b : Nat) (S : List Nat) (all : List Ot) (i : Int) (h : Ann w b S all) : Calls Tryd.prog 9 #[.pointer (some ⟨b, 0, none⟩), .int .i64 i] w fun e w' => e = .returned (.tuple #[.agg #[.int .i64 (atA all i).1, .int .i64 (atA all i).2.1, .int .i64 (atA all i).2.2.1, .int .i64 (atA all i).2.2.2], .bool (isA all i)]) ∧ Below w.heap.size w w' := by
  obtain ⟨r, g, q, f, cs, rfl, hM, hl⟩ := h
  have hX0 := Has.new w 28 #[.int .i64 0, .int .i64 0, .int .i64 0, .int .i64 0]
  have hB0 := (Below.refl w.heap.size w).alloc (Nat.le_refl _) (.cells #[.int .i64 0, .int .i64 0, .int .i64 0, .int .i64 0] 28)
  have hM0 := hM.alloc (.cells #[.int .i64 0, .int .i64 0, .int .i64 0, .int .i64 0] 28)
  have c0 := hM0.cells.1
  have hat : Calls Tryd.prog 22 #[.pointer (some ⟨r, 0, none⟩), .int .i64 i] (w.alloc (.cells #[.int .i64 0, .int .i64 0, .int .i64 0, .int .i64 0] 28)) fun e w' => e = .returned (.tuple #[.agg #[.int .i64 (atA all i).1, .int .i64 (atA all i).2.1, .int .i64 (atA all i).2.2.1, .int .i64 (atA all i).2.2.2], .bool (isA all i)]) ∧ Below (w.alloc (.cells #[.int .i64 0, .int .i64 0, .int .i64 0, .int .i64 0] 28)).heap.size (w.alloc (.cells #[.int .i64 0, .int .i64 0, .int .i64 0, .int .i64 0] 28)) w' := by
    unfold atA isA
    by_cases hi : 0 ≤ i ∧ i < ((keptA all).length : Int)
    · obtain ⟨n, rfl⟩ := Int.eq_ofNat_of_zero_le hi.1
      rw [if_pos hi, decide_eq_true hi, Int.toNat_natCast]
      exact RingO.at_yes r g 64 q f cs (keptA all) n _ hM0.ring (by omega)
    · rw [if_neg hi, decide_eq_false hi]
      exact RingO.at_no r (keptA all).length i _ (by omega) hM0.ring.core.cells.2.2
  generalize atA all i = o at *
  generalize isA all i = v at *
  obtain ⟨o0, o1, o2, o3⟩ := o
  dsimp only at hat ⊢
  clear hM hM0
  go_enter Tryd.func9, Tryd.ntmps9
  go_wp2_with (go_at_call 22; ((with_reducible refine hat.mono ?_); rintro e W2 ⟨rfl, hB2⟩; have hX2 := hX0.below hB2 hX0.lt; have hB3 := hB0.trans (hB2.mono hB0.size); have z0 := hX2.cell 0; have z1 := hX2.cell 1; have z2 := hX2.cell 2; have z3 := hX2.cell 3; have f0 := hX2.frozen 0; have f1 := hX2.frozen 1; have f2 := hX2.frozen 2; have f3 := hX2.frozen 3))
  exact RingO.out_ret rfl w.heap.size rfl _ rfl _ (RingO.put4 hX2 _ _ _ _) rfl rfl ⟨rfl, RingO.below_put4 hB3 (Nat.le_refl _) _ _ _ _⟩
end Go.Proofs.YtjhpogiknhbegaaDoor.Annal
