/- What the references of the filters share: the nearest value, and whether two lists are the same. -/
import Derived.Test.YtlbppllfmephdaaFilterMath
import Derived.Test.YtlbppllfmephdaaLineRef
set_option linter.unusedSimpArgs false
set_option linter.unusedVariables false
namespace Go.Proofs.Ytlbppllfmephdaa
open Go.RowKit RI64
/-- One value in memory of its own, ready to be appended to an own row. -/
theorem one_ready {w W : World} {base : Nat} {v : Value} {k : Nat} {xs : List Int} (t : TypeId) (r : Int) (hO : W.ownsRow base t 1 v k (vals xs)) (hB : Below w.heap.size w W) :
    (W.alloc (.cells #[.int .i64 r] t)).ownsRow base t 1 v k (vals xs) ∧ Below w.heap.size w (W.alloc (.cells #[.int .i64 r] t)) ∧ Vals (W.alloc (.cells #[.int .i64 r] t)) (some ⟨W.heap.size, 0, none⟩) 1 [r] :=
  ⟨own_kept hO ((Kept.refl [] _).alloc _) (by simp), hB.alloc hB.size _, Vals.has (ys := [r]) (tl := []) (Has.new W _ _)⟩
theorem own_drewN {W : World} {base : Nat} {t : TypeId} {v : Value} {k : Nat} {xs : List Value} (hO : W.ownsRow base t 1 v k xs) (z : Nat) : (W.drewN z).ownsRow base t 1 v k xs := own_kept hO ((Kept.refl [] _).drewN z) (by simp)
theorem same_yes (A B : Option Addr) (n c d : Nat) (ys : List Int) (w : World) (hv : Vals w A n ys) (hu : Vals w B n ys) (hn : n ≤ 1000000) :
    Calls Try.prog 8 #[.slice A n c, .slice B n d] w fun e w' => e = .returned (.bool true) ∧ ∃ z, w' = w.drewN z := by
  go_enter Try.func8, Try.ntmps8
  go_wp2
  go_loopw [5] (fun i wr => (∃ j, j ≤ n ∧ i = .int .i64 (j : Nat)) ∧ ∃ z, wr = w.drewN z) (fun i _ => n - (intOf i).toNat)
  case atStart => exact ⟨⟨0, by omega, rfl⟩, 0, rfl⟩
  case round =>
    obtain ⟨⟨j, hj, rfl⟩, z, rfl⟩ := hrel
    by_cases hlt : j < n
    · obtain ⟨x, rfl, hx⟩ := hv.cells (by omega)
      obtain ⟨y, rfl, hy⟩ := hu.cells (by omega)
      have hcx := hx j hlt
      have hcy := hy j hlt
      generalize ys.getD j 0 = v at *
      clear hx hy hv hu
      go_wp2
      go_quiet (fail)
      go_wp2
      go_roundw
      case rel => exact ⟨⟨j + 1, by omega, by go_num⟩, _, by first | rfl | simp⟩
      case measure => simp [intOf]; omega
    · obtain rfl : j = n := by omega
      go_wp2
      go_ret
      exact ⟨rfl, z, rfl⟩
end Go.Proofs.Ytlbppllfmephdaa
