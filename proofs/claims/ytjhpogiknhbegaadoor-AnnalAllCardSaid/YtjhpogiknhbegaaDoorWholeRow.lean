/- A block read and written whole, whatever its cells. Of no program. -/
import Derived.Test.YtjhpogiknhbegaaDoorKept
import Derived.Deep.MidRow
import Derived.Laws.CopyOwn
set_option linter.unusedVariables false
namespace Go.Proofs.YtjhpogiknhbegaaDoor
open Go.RowKit
theorem load_has {P : Program} {w : World} {b : Nat} {t ty : TypeId} {cs : Array Value} {d : TypeDesc} (h : Has w b t cs) (hu : P.underlying ty = some d) (hd : (match d with | .struct _ | .array _ _ => true | _ => false) = true) (hi : (P.info? ty).map (·.size) = some cs.size) :
    (Instr.loadAt ty (.pointer (some ⟨b, 0, none⟩))).run P w = .ok (.agg cs) w := by
  simp only [Instr.loadAt, Instr.sureAddr, Sem.run_bind, Sem.run_pure, Result.andThen_ok, run_loadVar_row w b t ty cs (0, 0) d h hu hd hi]
theorem store_has {P : Program} {w : World} {b : Nat} {t ty : TypeId} {old cs : Array Value} (h : Has w b t old) (hi : (P.info? ty).map (·.size) = some cs.size) (ho : old.size = cs.size) (h1 : cs.all (·.oneCell') = true) :
    (Instr.storeAt ty (.pointer (some ⟨b, 0, none⟩)) (.agg cs)).run P w = .ok () (w.setRow b cs) := by
  simp only [Instr.storeAt, Instr.sureAddr, Sem.run_bind, Sem.run_pure, Result.andThen_ok, run_storeVar_row w b t ty old cs h hi ho h1]
theorem Has.row {w : World} {b : Nat} {t : TypeId} {old : Array Value} (h : Has w b t old) (cs : Array Value) : Has (w.setRow b cs) b t cs := setRow_heap w b old cs t (0, 0) h
theorem Has.farRow {w : World} {b g : Nat} {t : TypeId} {cs : Array Value} (h : Has w b t cs) (hg : b ≠ g) (xs : Array Value) : Has (w.setRow g xs) b t cs := (setRow_other w g b xs hg).trans h
theorem kept_row (w : World) (b : Nat) (cs : Array Value) : Kept [b] w (w.setRow b cs) := by
  have h9 : ∀ k, k < w.heap.size → k ∉ [b] → (w.setRow b cs).heap[k]? = w.heap[k]? := fun k _ hk => setRow_other w b k cs (by simpa using hk)
  refine ⟨?_, ?_, ?_, ?_, ?_⟩
  all_goals first | rfl | exact h9 | simp
end Go.Proofs.YtjhpogiknhbegaaDoor
