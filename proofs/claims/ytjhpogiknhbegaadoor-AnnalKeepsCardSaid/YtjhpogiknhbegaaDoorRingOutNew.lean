/- A ring of outs: made. -/
import Derived.Test.YtjhpogiknhbegaaDoorRingOut
import Derived.Test.YtjhpogiknhbegaaDoorRowPut
import Derived.Laws.MakeOwn
set_option linter.unusedSimpArgs false
set_option linter.unusedVariables false
namespace Go.Proofs.YtjhpogiknhbegaaDoor.RingO
open Go.RowKit
open Alarm (Ot otS noOt ot_cells)
theorem make_run (m : Nat) (hm : m ≤ 65536) (W : World) : (Instr.makeSlice 25 (.int .i64 (m : Int)) (.int .i64 (m : Int))).run Tryd.prog W =
    .ok (.slice (some ⟨W.heap.size, 0, none⟩) m m) (W.alloc (.cells (Row.flat otS (List.replicate m noOt)).toArray 28)) :=
  Row.run_make_of (S := otS) (P := Tryd.prog) noOt 25 28 (.agg #[.int .i64 0, .int .i64 0, .int .i64 0, .int .i64 0]) 32 Tryd.underlying25 (by kernel_rfl) rfl (by omega) m (by omega) W
theorem new_no (log : Int) (w : World) (h : log < 0 ∨ 16 < log) :
    Calls Tryd.prog 18 #[.int .i64 log] w fun e w' => e = .returned (.tuple #[.pointer none, .int .i64 1]) ∧ w = w' := by
  rcases h with h | h
  · go_enter Tryd.func18, Tryd.ntmps18
    go_wp2
    go_ret2
    exact ⟨rfl, rfl⟩
  · have h0 : ¬ log < 0 := by omega
    go_enter Tryd.func18, Tryd.ntmps18
    go_wp2
    go_ret2
    exact ⟨rfl, rfl⟩
theorem new_ring (k : Nat) (hk : k ≤ 16) (w : World) :
    Ring ((w.alloc (.cells (Row.flat otS (List.replicate (2 ^ k) noOt)).toArray 28)).alloc (.cells #[.slice (some ⟨w.heap.size, 0, none⟩) (2 ^ k) (2 ^ k), .int .i64 0, .int .i64 0] 55))
      (w.heap.size + 1) w.heap.size (2 ^ k) (2 ^ k) 0 (List.replicate (2 ^ k) noOt) [] := by
  have hp : 0 < 2 ^ k := Nat.pos_of_ne_zero (by simp)
  refine ⟨⟨?_, ⟨[], by rw [List.append_nil]; exact (Has.new w _ _).alloc _⟩, by simp, hp, by simp, ⟨k, hk, rfl⟩, Nat.le_refl _, by have := Nat.pow_le_pow_right (show 0 < 2 by omega) hk; omega⟩, fun i hi => absurd hi (by simp)⟩
  have h := Has.new (w.alloc (.cells (Row.flat otS (List.replicate (2 ^ k) noOt)).toArray 28)) 55 #[.slice (some ⟨w.heap.size, 0, none⟩) (2 ^ k) (2 ^ k), .int .i64 0, .int .i64 0]
  rw [show (w.alloc (.cells (Row.flat otS (List.replicate (2 ^ k) noOt)).toArray 28)).heap.size = w.heap.size + 1 by simp] at h
  exact h
theorem new_yes (k : Nat) (hk : k ≤ 16) (w : World) :
    Calls Tryd.prog 18 #[.int .i64 (k : Int)] w fun e w' => e = .returned (.tuple #[.pointer (some ⟨w.heap.size + 1, 0, none⟩), .int .i64 0]) ∧
      Ring w' (w.heap.size + 1) w.heap.size (2 ^ k) (2 ^ k) 0 (List.replicate (2 ^ k) noOt) [] ∧ Below w.heap.size w w' ∧ w'.heap.size = w.heap.size + 2 := by
  have hp : (2 : Nat) ^ k ≤ 65536 := (Nat.pow_le_pow_right (by omega) hk : 2 ^ k ≤ 2 ^ 16)
  have hR := new_ring k hk w
  obtain ⟨n, hn⟩ : ∃ n, (2 : Nat) ^ k = n := ⟨_, rfl⟩
  have hw : wrap64 ((2 : Int) ^ k) = (n : Int) := by
    have h1 : ((2 : Int) ^ k) = ((2 ^ k : Nat) : Int) := by rw [Int.natCast_pow]; rfl
    rw [h1, hn]
    unfold wrap64
    omega
  rw [hn] at hp hR ⊢
  clear hn
  have hmk := fun W => make_run n hp W
  have HR := Lib.hid hR
  clear hR
  generalize Row.flat otS (List.replicate n noOt) = fl at *
  go_enter Tryd.func18, Tryd.ntmps18
  go_wp2
  go_ret2
  exact ⟨rfl, HR.out, ((Below.refl _ _).alloc (Nat.le_refl _) _).alloc (by simp) _, by simp⟩
end Go.Proofs.YtjhpogiknhbegaaDoor.RingO
