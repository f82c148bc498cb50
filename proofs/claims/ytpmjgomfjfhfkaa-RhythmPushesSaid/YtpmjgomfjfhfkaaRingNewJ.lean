/- A ring of int64: made. -/
import Derived.Test.YtpmjgomfjfhfkaaRingJ
import Derived.Laws.MakeOwn
set_option linter.unusedSimpArgs false
set_option linter.unusedVariables false
namespace Go.Proofs.Ytpmjgomfjfhfkaa.RI64
open Go.RowKit

theorem made_cells (m : Nat) : madeCells #[Value.int .i64 0] (m * 1) = Array.replicate m (Value.int .i64 0) := by
  rw [Nat.mul_one]
  apply Array.ext
  · simp [madeCells]
  · intro i h1 h2
    simp [madeCells, Nat.mod_one]
theorem rep_cells (m : Nat) : Array.replicate m (Value.int .i64 0) = ((List.replicate m 0).map fun (v : Int) => Value.int .i64 v).toArray := by simp
set_option maxRecDepth 100000 in
theorem make_run (m : Nat) (hm : m ≤ 65536) (W : World) : (Instr.makeSlice 36 (.int .i64 (m : Int)) (.int .i64 (m : Int))).run Try.prog W =
    .ok (.slice (some ⟨W.heap.size, 0, none⟩) m m) (W.alloc (.cells (Array.replicate m (Value.int .i64 0)) 2)) := by
  obtain ⟨i, hi, hz, h1, h2⟩ : ∃ i, Try.prog.info? 2 = some i ∧ i.zero = some (Value.int .i64 0) ∧ i.size = 1 ∧ i.bytes ≤ 16 := by
    refine ⟨_, rfl, ?_, ?_, ?_⟩ <;> first | rfl | decide
  have hr := run_make (P := Try.prog) W 36 2 i _ Try.underlying36 hi hz .i64 .i64 (m : Int) (m : Int) (by omega) (by omega) (by
    have : (i.bytes : Int) * (m : Int) ≤ 16 * 65536 := Int.mul_le_mul (by omega) (by omega) (by omega) (by omega)
    omega) (by omega)
  simp only [Int.toNat_natCast, h1] at hr
  rw [show (Value.int .i64 0).cells = #[Value.int .i64 0] from rfl, made_cells] at hr
  exact hr

theorem new_no (log : Int) (w : World) (h : log < 0 ∨ 16 < log) :
    Calls Try.prog 52 #[.int .i64 log] w fun e w' => e = .returned (.tuple #[.pointer none, .int .i64 1]) ∧ w = w' := by
  rcases h with h | h
  · go_enter Try.func52, Try.ntmps52
    go_wp2
    go_ret2
    exact ⟨rfl, rfl⟩
  · have h0 : ¬ log < 0 := by omega
    go_enter Try.func52, Try.ntmps52
    go_wp2
    go_ret2
    exact ⟨rfl, rfl⟩

theorem new_ring (k : Nat) (hk : k ≤ 16) (w : World) :
    Ring ((w.alloc (.cells (Array.replicate (2 ^ k) (Value.int .i64 0)) 2)).alloc (.cells #[.slice (some ⟨w.heap.size, 0, none⟩) (2 ^ k) (2 ^ k), .int .i64 0, .int .i64 0] 110))
      (w.heap.size + 1) w.heap.size (2 ^ k) (2 ^ k) 0 (List.replicate (2 ^ k) 0) [] := by
  have hp : 0 < 2 ^ k := Nat.pos_of_ne_zero (by simp)
  refine ⟨⟨?_, ⟨[], by rw [List.append_nil, ← rep_cells]; exact (Has.new w _ _).alloc _⟩, by simp, hp, by simp, ⟨k, hk, rfl⟩, Nat.le_refl _, by have := Nat.pow_le_pow_right (show 0 < 2 by omega) hk; omega⟩, fun i hi => absurd hi (by simp)⟩
  have h := Has.new (w.alloc (.cells (Array.replicate (2 ^ k) (Value.int .i64 0)) 2)) 110 #[.slice (some ⟨w.heap.size, 0, none⟩) (2 ^ k) (2 ^ k), .int .i64 0, .int .i64 0]
  rw [show (w.alloc (.cells (Array.replicate (2 ^ k) (Value.int .i64 0)) 2)).heap.size = w.heap.size + 1 by simp] at h
  exact h
theorem new_yes (k : Nat) (hk : k ≤ 16) (w : World) :
    Calls Try.prog 52 #[.int .i64 (k : Int)] w fun e w' => e = .returned (.tuple #[.pointer (some ⟨w.heap.size + 1, 0, none⟩), .int .i64 0]) ∧
      Ring w' (w.heap.size + 1) w.heap.size (2 ^ k) (2 ^ k) 0 (List.replicate (2 ^ k) 0) [] ∧ Below w.heap.size w w' ∧ w'.heap.size = w.heap.size + 2 := by
  have hp : (2 : Nat) ^ k ≤ 65536 := (Nat.pow_le_pow_right (by omega) hk : 2 ^ k ≤ 2 ^ 16)
  have hR := new_ring k hk w
  obtain ⟨n, hn⟩ : ∃ n, (2 : Nat) ^ k = n := ⟨_, rfl⟩
  have hw : wrap64 ((2 : Int) ^ k) = (n : Int) := by
    have h1 : ((2 : Int) ^ k) = ((2 ^ k : Nat) : Int) := by rw [Int.natCast_pow]; rfl
    rw [h1, hn]
    unfold wrap64
    omega
  rw [hn] at hp hR ⊢
  clear hn
  have hmk := fun W => make_run n hp W
  have HR := Lib.hid hR
  clear hR
  go_enter Try.func52, Try.ntmps52
  go_wp2
  go_ret2
  exact ⟨rfl, HR.out, ((Below.refl _ _).alloc (Nat.le_refl _) _).alloc (by simp) _, by simp⟩
end Go.Proofs.Ytpmjgomfjfhfkaa.RI64
