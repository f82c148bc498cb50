/- What crc's sums of rows answer, and the references'; the chapter's example holds. -/
import Derived.Test.YtgeidghdigdldaaCrcA
import Derived.Test.YtgeidghdigdldaaArgsB
import Derived.Lib.SlBytesConst
set_option linter.unusedSimpArgs false
set_option linter.unusedVariables false
namespace Go.Proofs.Ytgeidghdigdldaa.Crc
open Go.RowKit RU8

/-- The sum behind the first j bytes. -/
theorem goZ_take (s : Nat) (ys : List Nat) (j : Nat) (hj : j < ys.length) : nextZ (goZ s (ys.take j)) (ys.getD j 0) = goZ s (ys.take (j + 1)) := by
  rw [List.take_succ_eq_append_getElem hj, goZ_append, List.getD_eq_getElem?_getD, List.getElem?_eq_getElem hj]
  rfl
theorem sum_any (A : Option Addr) (len c : Nat) (ys : List Nat) (w : World) (hv : Vals w A len ys) (hb : Bytes ys) (hl : len ≤ 9223372036854775807) :
    Calls Try.prog 10 #[.slice A len c] w fun e w' => e = .returned (.int .u16 (sumZ ys)) ∧ w = w' := by
  have hlen := hv.len_
  have hend : goZ 65535 (ys.take len) = sumZ ys := by rw [List.take_of_length_le (by omega)]; rfl
  have hst : ∀ j, j < len → nextZ (goZ 65535 (ys.take j)) (ys.getD j 0) = goZ 65535 (ys.take (j + 1)) := fun j hj => goZ_take _ _ _ (by omega)
  have hz : ∀ j, goZ 65535 (ys.take j) < 65536 := fun j => goZ_lt _ _ (by decide)
  have h0 : goZ 65535 (ys.take 0) = 65535 := rfl
  obtain ⟨f, hf⟩ : ∃ f : Nat → Nat, f = fun j => goZ 65535 (ys.take j) := ⟨_, rfl⟩
  have hend' : f len = sumZ ys := by rw [hf]; exact hend
  have hst' : ∀ j, j < len → nextZ (f j) (ys.getD j 0) = f (j + 1) := by rw [hf]; exact hst
  have hz' : ∀ j, f j < 65536 := by rw [hf]; exact hz
  have h0' : f 0 = 65535 := by rw [hf]; exact h0
  have hend2 := Lib.hid hend'
  clear hend hst hz h0 hf hend'
  go_enter Try.func10, Try.ntmps10
  go_wp2
  go_loop [3, 8] (fun a i => ∃ j : Nat, j ≤ len ∧ i = .int .i64 (j : Nat) ∧ a = .int .u16 (f j : Nat)) (fun _ i => len - (intOf i).toNat)
  case atStart => exact ⟨0, by omega, rfl, by rw [h0']; rfl⟩
  case round =>
    obtain ⟨j, hj, rfl, rfl⟩ := hrel
    by_cases h9 : j < len
    · obtain ⟨x, rfl, hx⟩ := hv.cells (by omega)
      have hc := hx j h9
      have hs := next_any (f j) (ys.getD j 0) w (hz' j) (hb.at_ j)
      rw [hst' j h9] at hs
      have hy := hb.at_ j
      clear hst' hz' h0' hx hv
      generalize ys.getD j 0 = y at *
      go_wp2_with (go_at_call 8; ((with_reducible refine hs.mono ?_); rintro e w' ⟨rfl, rfl⟩))
      go_round
      case rel => exact ⟨j + 1, by omega, by go_num, rfl⟩
      case measure => simp [intOf]; omega
    · obtain rfl : j = len := by omega
      clear hst' hz' h0'
      go_wp2
      go_ret
      exact ⟨by rw [← hend2.out]; rfl, rfl⟩
theorem refsum_any (A : Option Addr) (len c : Nat) (ys : List Nat) (w : World) (hv : Vals w A len ys) (hb : Bytes ys) (hl : len ≤ 9223372036854775807) :
    Calls Try.prog 11 #[.slice A len c] w fun e w' => e = .returned (.int .u16 (sumZ ys)) ∧ w = w' := by
  have hlen := hv.len_
  have hend : goZ 65535 (ys.take len) = sumZ ys := by rw [List.take_of_length_le (by omega)]; rfl
  have hst : ∀ j, j < len → nextZ (goZ 65535 (ys.take j)) (ys.getD j 0) = goZ 65535 (ys.take (j + 1)) := fun j hj => goZ_take _ _ _ (by omega)
  have hz : ∀ j, goZ 65535 (ys.take j) < 65536 := fun j => goZ_lt _ _ (by decide)
  have h0 : goZ 65535 (ys.take 0) = 65535 := rfl
  obtain ⟨f, hf⟩ : ∃ f : Nat → Nat, f = fun j => goZ 65535 (ys.take j) := ⟨_, rfl⟩
  have hend' : f len = sumZ ys := by rw [hf]; exact hend
  have hst' : ∀ j, j < len → nextZ (f j) (ys.getD j 0) = f (j + 1) := by rw [hf]; exact hst
  have hz' : ∀ j, f j < 65536 := by rw [hf]; exact hz
  have h0' : f 0 = 65535 := by rw [hf]; exact h0
  have hend2 := Lib.hid hend'
  clear hend hst hz h0 hf hend'
  go_enter Try.func11, Try.ntmps11
  go_wp2
  go_loop [3, 4] (fun a i => ∃ j : Nat, j ≤ len ∧ i = .int .i64 (j : Nat) ∧ a = .int .u16 (f j : Nat)) (fun _ i => len - (intOf i).toNat)
  case atStart => exact ⟨0, by omega, rfl, by rw [h0']; rfl⟩
  case round =>
    obtain ⟨j, hj, rfl, rfl⟩ := hrel
    by_cases h9 : j < len
    · obtain ⟨x, rfl, hx⟩ := hv.cells (by omega)
      have hc := hx j h9
      have hs := refnext_any (f j) (ys.getD j 0) w (hz' j) (hb.at_ j)
      rw [hst' j h9] at hs
      have hy := hb.at_ j
      clear hst' hz' h0' hx hv
      generalize ys.getD j 0 = y at *
      go_wp2_with (go_at_call 9; ((with_reducible refine hs.mono ?_); rintro e w' ⟨rfl, rfl⟩))
      go_round
      case rel => exact ⟨j + 1, by omega, by go_num, rfl⟩
      case measure => simp [intOf]; omega
    · obtain rfl : j = len := by omega
      clear hst' hz' h0'
      go_wp2
      go_ret
      exact ⟨by rw [← hend2.out]; rfl, rfl⟩
def example9 : List Nat := [49, 50, 51, 52, 53, 54, 55, 56, 57]
theorem example_sum : sumZ example9 = 10673 := by decide +kernel
theorem live_ok (w : World) : Calls Try.prog 7 #[] w fun e w' => e = .returned (.bool true) ∧ Below w.heap.size w w' := by
  have kc := fun (w : World) (C : Array Value) (n c : Nat) => Lib.run_convert_bytes_const (P := Try.prog) w 23 5 C n c Try.underlying23 Try.underlying5
  obtain ⟨C, hC⟩ : ∃ C : Array Value, C = #[.int .u8 49, .int .u8 50, .int .u8 51, .int .u8 52, .int .u8 53, .int .u8 54, .int .u8 55, .int .u8 56, .int .u8 57] := ⟨_, rfl⟩
  have hv : ∀ c, Calls Try.prog 10 #[.slice (some ⟨w.heap.size, 0, none⟩) 9 c] (w.alloc (.cells C 5 (9, 10))) fun e w' => e = .returned (.int .u16 10673) ∧ (w.alloc (.cells C 5 (9, 10))) = w' := fun c => by
    have hV : Vals (w.alloc (.cells C 5 (9, 10))) (some ⟨w.heap.size, 0, none⟩) 9 example9 := ⟨rfl, fun _ => ⟨_, rfl, fun i hi => by
      rw [show (Addr.add ⟨w.heap.size, 0, none⟩ i) = ⟨w.heap.size, i, none⟩ by simp [Addr.add]; rintro rfl; rfl, World.cell?_alloc_mark, hC]
      rcases (by omega : i = 0 ∨ i = 1 ∨ i = 2 ∨ i = 3 ∨ i = 4 ∨ i = 5 ∨ i = 6 ∨ i = 7 ∨ i = 8) with rfl | rfl | rfl | rfl | rfl | rfl | rfl | rfl | rfl <;> rfl⟩⟩
    have := sum_any (some ⟨w.heap.size, 0, none⟩) 9 c example9 _ hV (by unfold Bytes; decide) (by decide)
    rwa [example_sum] at this
  have hB := (Below.refl w.heap.size w).alloc (Nat.le_refl _) (.cells C 5 (9, 10))
  subst hC
  go_enter Try.func7, Try.ntmps7
  go_wp2_with (go_at_call 10; ((with_reducible refine (hv _).mono ?_); rintro e w' ⟨rfl, rfl⟩))
  go_ret
  exact ⟨rfl, hB⟩
end Go.Proofs.Ytgeidghdigdldaa.Crc
