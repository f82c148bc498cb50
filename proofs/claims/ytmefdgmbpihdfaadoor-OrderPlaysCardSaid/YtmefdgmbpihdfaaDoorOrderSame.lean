/- Orders compared; the reference's Same of layer 24. -/
import Derived.Test.YtmefdgmbpihdfaaDoorChecked
import Derived.Test.YtmefdgmbpihdfaaDoorOrderMath
import Derived.Test.YtmefdgmbpihdfaaDoorShape
import Derived.ProofKit
import Derived.Handy
import Derived.Deep.QuietTactic
import Derived.BigQuiet
import Derived.Laws.StructEq
import Derived.Lib.Hide
set_option linter.unusedSimpArgs false
set_option linter.unusedVariables false
namespace Go.Proofs.YtmefdgmbpihdfaaDoor.Order
open Go.RowKit
open Alarm (Or orS noOr or_cells)
theorem neq_or (W : World) (a b c a' b' c' : Int) : (binOp .neq 23 (.agg #[.int .i64 a, .int .i64 b, .int .i64 c]) (.agg #[.int .i64 a', .int .i64 b', .int .i64 c'])).run Tryd.prog W = .ok (.bool (!decide (a = a' ∧ b = b' ∧ c = c'))) W := by
  have ht : Tryd.prog.underlying 23 = some (.struct (Tryd.prog.fieldsOf 23)) := by kernel_rfl
  have hst : Tryd.prog.stoodInHeld 23 = false := by kernel_rfl
  rw [run_neq_struct, run_equalIn_agg W 9999 23 _ _ ht hst]
  simp only [Program.fieldsOf, Tryd.underlying23]
  simp [go_sem, Op.eqFields]
  by_cases h1 : a = a' <;> by_cases h2 : b = b' <;> by_cases h3 : c = c' <;> simp [h1, h2, h3]
theorem guard_or (W : World) (x y : Operand) (a b c a' b' c' : Int) : (eqGuard .neq 23 x y (.agg #[.int .i64 a, .int .i64 b, .int .i64 c]) (.agg #[.int .i64 a', .int .i64 b', .int .i64 c'])).run Tryd.prog W = .ok () W := run_eqGuard_agg W _ _ _ _ _ _ (by kernel_rfl)
theorem eql_or (W : World) (a b c a' b' c' : Int) : (binOp .eql 23 (.agg #[.int .i64 a, .int .i64 b, .int .i64 c]) (.agg #[.int .i64 a', .int .i64 b', .int .i64 c'])).run Tryd.prog W = .ok (.bool (decide (a = a' ∧ b = b' ∧ c = c'))) W := by
  have ht : Tryd.prog.underlying 23 = some (.struct (Tryd.prog.fieldsOf 23)) := by kernel_rfl
  have hst : Tryd.prog.stoodInHeld 23 = false := by kernel_rfl
  rw [run_eql_struct, run_equalIn_agg W 9999 23 _ _ ht hst]
  simp only [Program.fieldsOf, Tryd.underlying23]
  simp [go_sem, Op.eqFields]
  by_cases h1 : a = a' <;> by_cases h2 : b = b' <;> by_cases h3 : c = c' <;> simp [h1, h2, h3]
theorem guard_eql (W : World) (x y : Operand) (a b c a' b' c' : Int) : (eqGuard .eql 23 x y (.agg #[.int .i64 a, .int .i64 b, .int .i64 c]) (.agg #[.int .i64 a', .int .i64 b', .int .i64 c'])).run Tryd.prog W = .ok () W := run_eqGuard_agg W _ _ _ _ _ _ (by kernel_rfl)
theorem same_yes (A B : Option Addr) (n c d : Nat) (ys : List Or) (w : World) (hv : Row.Vals orS w A n ys) (hu : Row.Vals orS w B n ys) (hn : n ≤ 1000000) :
    Calls Tryd.prog 19 #[.slice A n c, .slice B n d] w fun e w' => e = .returned (.bool true) ∧ ∃ z, w' = w.drewN z := by
  go_enter Tryd.func19, Tryd.ntmps19
  go_wp2
  go_loopw [5] (fun i wr => (∃ k : Nat, k ≤ n ∧ i = .int .i64 (k : Nat)) ∧ ∃ z, wr = w.drewN z) (fun i _ => n - (intOf i).toNat)
  case atStart => exact ⟨⟨0, by omega, rfl⟩, 0, rfl⟩
  case round =>
    obtain ⟨⟨k, hk, rfl⟩, z, rfl⟩ := hrel
    by_cases hlt : k < n
    · obtain ⟨x, rfl, _⟩ := hv.cells (by omega)
      obtain ⟨y, rfl, _⟩ := hu.cells (by omega)
      obtain ⟨x0, x1, x2⟩ := or_cells hv k hlt
      obtain ⟨y0, y1, y2⟩ := or_cells hu k hlt
      generalize (ys.getD k noOr).1 = a at *
      generalize (ys.getD k noOr).2.1 = b at *
      generalize (ys.getD k noOr).2.2 = q at *
      have hg := fun (W : World) (x y : Operand) => guard_or W x y a b q a b q
      have hc : ∀ W : World, (binOp .neq 23 (.agg #[.int .i64 a, .int .i64 b, .int .i64 q]) (.agg #[.int .i64 a, .int .i64 b, .int .i64 q])).run Tryd.prog W = .ok (.bool false) W := fun W => by rw [neq_or]; simp
      clear hu hv
      go_wp2
      go_quiet (fail)
      go_wp2
      go_roundw
      case rel => exact ⟨⟨k + 1, by omega, by go_num⟩, _, by first | rfl | rw [World.drewN_drewN]⟩
      case measure => simp [intOf]; omega
    · obtain rfl : k = n := by omega
      clear hu hv
      go_wp2
      go_ret
      exact ⟨rfl, z, rfl⟩
end Go.Proofs.YtmefdgmbpihdfaaDoor.Order
