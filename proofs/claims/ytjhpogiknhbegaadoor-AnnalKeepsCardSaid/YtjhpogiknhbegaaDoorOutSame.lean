/- Outs compared; the reference's Same of layer 23. -/
import Derived.Test.YtjhpogiknhbegaaDoorChecked
import Derived.Test.YtjhpogiknhbegaaDoorAlarmMath
import Derived.Test.YtjhpogiknhbegaaDoorShape
import Derived.ProofKit
import Derived.Handy
import Derived.Deep.QuietTactic
import Derived.BigQuiet
import Derived.Laws.StructEq
import Derived.Lib.Hide
set_option linter.unusedSimpArgs false
set_option linter.unusedVariables false
namespace Go.Proofs.YtjhpogiknhbegaaDoor.Alarm
open Go.RowKit
theorem neq_ot (W : World) (a b c d a' b' c' d' : Int) : (binOp .neq 28 (.agg #[.int .i64 a, .int .i64 b, .int .i64 c, .int .i64 d]) (.agg #[.int .i64 a', .int .i64 b', .int .i64 c', .int .i64 d'])).run Tryd.prog W = .ok (.bool (!decide (a = a' ∧ b = b' ∧ c = c' ∧ d = d'))) W := by
  have ht : Tryd.prog.underlying 28 = some (.struct (Tryd.prog.fieldsOf 28)) := by kernel_rfl
  have hst : Tryd.prog.stoodInHeld 28 = false := by kernel_rfl
  rw [run_neq_struct, run_equalIn_agg W 9999 28 _ _ ht hst]
  simp only [Program.fieldsOf, Tryd.underlying28]
  simp [go_sem, Op.eqFields]
  by_cases h1 : a = a' <;> by_cases h2 : b = b' <;> by_cases h3 : c = c' <;> by_cases h4 : d = d' <;> simp [h1, h2, h3, h4]
theorem guard_ot (W : World) (x y : Operand) (a b c d a' b' c' d' : Int) : (eqGuard .neq 28 x y (.agg #[.int .i64 a, .int .i64 b, .int .i64 c, .int .i64 d]) (.agg #[.int .i64 a', .int .i64 b', .int .i64 c', .int .i64 d'])).run Tryd.prog W = .ok () W := run_eqGuard_agg W _ _ _ _ _ _ (by kernel_rfl)
theorem same_yes (A B : Option Addr) (n c d : Nat) (ys : List Ot) (w : World) (hv : Row.Vals otS w A n ys) (hu : Row.Vals otS w B n ys) (hn : n ≤ 1000000) :
    Calls Tryd.prog 12 #[.slice A n c, .slice B n d] w fun e w' => e = .returned (.bool true) ∧ ∃ z, w' = w.drewN z := by
  go_enter Tryd.func12, Tryd.ntmps12
  go_wp2
  go_loopw [5] (fun i wr => (∃ k : Nat, k ≤ n ∧ i = .int .i64 (k : Nat)) ∧ ∃ z, wr = w.drewN z) (fun i _ => n - (intOf i).toNat)
  case atStart => exact ⟨⟨0, by omega, rfl⟩, 0, rfl⟩
  case round =>
    obtain ⟨⟨k, hk, rfl⟩, z, rfl⟩ := hrel
    by_cases hlt : k < n
    · obtain ⟨x, rfl, _⟩ := hv.cells (by omega)
      obtain ⟨y, rfl, _⟩ := hu.cells (by omega)
      obtain ⟨x0, x1, x2, x3⟩ := ot_cells hv k hlt
      obtain ⟨y0, y1, y2, y3⟩ := ot_cells hu k hlt
      generalize (ys.getD k noOt).1 = a at *
      generalize (ys.getD k noOt).2.1 = b at *
      generalize (ys.getD k noOt).2.2.1 = q at *
      generalize (ys.getD k noOt).2.2.2 = r at *
      have hg := fun (W : World) (x y : Operand) => guard_ot W x y a b q r a b q r
      have hc : ∀ W : World, (binOp .neq 28 (.agg #[.int .i64 a, .int .i64 b, .int .i64 q, .int .i64 r]) (.agg #[.int .i64 a, .int .i64 b, .int .i64 q, .int .i64 r])).run Tryd.prog W = .ok (.bool false) W := fun W => by rw [neq_ot]; simp
      clear hu hv
      go_wp2
      go_quiet (fail)
      go_wp2
      go_roundw
      case rel => exact ⟨⟨k + 1, by omega, by go_num⟩, _, by first | rfl | rw [World.drewN_drewN]⟩
      case measure => simp [intOf]; omega
    · obtain rfl : k = n := by omega
      clear hu hv
      go_wp2
      go_ret
      exact ⟨rfl, z, rfl⟩
end Go.Proofs.YtjhpogiknhbegaaDoor.Alarm
