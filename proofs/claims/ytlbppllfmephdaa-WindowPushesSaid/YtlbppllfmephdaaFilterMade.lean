/- A new row of room for 64-bit values (make([]int64, 0, n)). -/
import Derived.Test.YtlbppllfmephdaaFilterRef
import Derived.Laws.MakeOwn
set_option linter.unusedSimpArgs false
set_option linter.unusedVariables false
namespace Go.Proofs.Ytlbppllfmephdaa
open Go.RowKit RI64
set_option maxRecDepth 100000 in
theorem made64 (m : Nat) (hm : m ≤ 100000) (W : World) : (Instr.makeSlice 22 (.int .i64 0) (.int .i64 (m : Int))).run Try.prog W =
    .ok (.slice (some ⟨W.heap.size, 0, none⟩) 0 m) (W.alloc (.cells (vals (List.replicate m 0)).toArray 2)) := by
  obtain ⟨i, hi, hz, h1, h2⟩ : ∃ i, Try.prog.info? 2 = some i ∧ i.zero = some (Value.int .i64 0) ∧ i.size = 1 ∧ i.bytes ≤ 16 := by
    refine ⟨_, rfl, ?_, ?_, ?_⟩ <;> first | rfl | decide
  have hr := run_make (P := Try.prog) W 22 2 i _ Try.underlying22 hi hz .i64 .i64 0 (m : Int) (by omega) (by omega) (by
    have : (i.bytes : Int) * (m : Int) ≤ 16 * 100000 := Int.mul_le_mul (by omega) (by omega) (by omega) (by omega)
    omega) (by omega)
  simp only [Int.toNat_natCast, Int.toNat_zero, h1] at hr
  rw [show (Value.int .i64 0).cells = #[Value.int .i64 0] from rfl] at hr
  rw [hr]
  congr 3
  apply Array.ext
  · simp [madeCells, vals]
  · intro i h1 h2
    simp [madeCells, Nat.mod_one, vals]
theorem own_made (W : World) (t : TypeId) (n : Nat) (hn : n ≤ 100000) : World.ownsRow (W.alloc (.cells (vals (List.replicate n 0)).toArray t)) W.heap.size t 1 (.slice (some ⟨W.heap.size, 0, none⟩) 0 n) 0 (vals ([] : List Int)) :=
  ⟨rfl, .inr ⟨_, n, _, rfl, Nat.le_refl _, Has.new W t _, by omega, by unfold maxLen; omega, by simp [vals], by simp [vals]⟩⟩
end Go.Proofs.Ytlbppllfmephdaa
