/- The reference's answers of layer 20. -/
import Derived.Test.YtpmjgomfjfhfkaaTallyLim
import Derived.Test.YtpmjgomfjfhfkaaOwnMore
import Derived.Test.YtpmjgomfjfhfkaaRegion
import Derived.Test.YtpmjgomfjfhfkaaRegionMore
import Derived.Test.YtpmjgomfjfhfkaaRegionTill
import Derived.Lib.Hide
import Derived.Deep.DeepMust
set_option linter.unusedSimpArgs false
set_option linter.unusedVariables false
namespace Go.Proofs.Ytpmjgomfjfhfkaa.Tally
open Go.RowKit RI64
theorem refnear_any (n : Int) (w : World) : Calls Try.prog 28 #[.int .i64 n] w fun e w' => e = .returned (.int .i64 (nearA n)) ∧ w = w' := by
  obtain ⟨m, hm⟩ : ∃ m, (if 1099511627776 < n then 1099511627776 else n) = m := ⟨_, rfl⟩
  obtain ⟨r, hr⟩ : ∃ r, (if 0 < m then m else 0) = r := ⟨_, rfl⟩
  rw [← nearA_ifs2 n m r hm hr]
  go_enter Try.func28, Try.ntmps28
  go_wp2
  go_ret
  exact ⟨rfl, rfl⟩
theorem may_dec (l : Lim) : mayT l = decide ((l.mains = 0 ∨ l.mains = 50 ∨ l.mains = 60) ∧ 200 ≤ l.asys ∧ l.asys ≤ 6000 ∧ 40 ≤ l.tach ∧ l.tach ≤ 400 ∧ 1 ≤ l.tachN ∧ l.tachN ≤ 20 ∧ l.tach < l.brad ∧ l.brad ≤ 2000 ∧ 1 ≤ l.bradN ∧ l.bradN ≤ 20 ∧ 1 ≤ l.fib ∧ l.fib ≤ 142847 ∧ 1 ≤ l.fibN ∧ l.fibN ≤ 200 ∧ 1 ≤ l.escape ∧ l.escape ≤ 1048576) := by
  unfold mayT mainsT within
  rw [Bool.eq_iff_iff]
  simp only [Bool.and_eq_true, decide_eq_true_eq]
  constructor
  · rintro ⟨⟨⟨⟨⟨⟨⟨⟨h1, h2⟩, h3⟩, h4⟩, h5⟩, h6⟩, h7⟩, h8⟩, h9⟩
    refine ⟨h1, ?_⟩
    omega
  · rintro ⟨h1, h2⟩
    refine ⟨⟨⟨⟨⟨⟨⟨⟨h1, ?_⟩, ?_⟩, ?_⟩, ?_⟩, ?_⟩, ?_⟩, ?_⟩, ?_⟩ <;> omega
theorem ret_no {p : Prop} [Decidable p] (h : ¬ p) : Ending.returned (.bool false) = .returned (.bool (decide p)) := by rw [decide_eq_false h]
theorem ret_yes {p q : Prop} [Decidable p] [Decidable q] (h : q ↔ p) : Ending.returned (.bool (decide q)) = .returned (.bool (decide p)) := by rw [decide_eq_decide.2 h]
set_option maxHeartbeats 4000000 in
theorem refcheck_any (l : Lim) (w : World) : Calls Try.prog 9 #[limV l] w fun e w' => e = .returned (.bool (mayT l)) ∧ Below w.heap.size w w' := by
  obtain ⟨l0, l1, l2, l3, l4, l5, l6, l7, l8⟩ := l
  have hr := may_dec ⟨l0, l1, l2, l3, l4, l5, l6, l7, l8⟩
  generalize mayT _ = r at *
  dsimp only at hr
  have HR := Lib.hid hr
  clear hr
  unfold limV
  dsimp only
  by_cases h0 : l0 = 0
  · skip
    go_enter Try.func9, Try.ntmps9
    go_wp2
    all_goals
      go_ret
      refine ⟨?_, (Below.refl _ w).alloc (Nat.le_refl _) _⟩
      rw [HR.out]
      first
        | exact ret_no (by omega)
        | exact ret_yes (by omega)
  have h0' : (l0 == 0) = false := beq_eq_false_iff_ne.2 h0
  by_cases h1 : l0 = 50
  · skip
    go_enter Try.func9, Try.ntmps9
    go_wp2
    all_goals
      go_ret
      refine ⟨?_, (Below.refl _ w).alloc (Nat.le_refl _) _⟩
      rw [HR.out]
      first
        | exact ret_no (by omega)
        | exact ret_yes (by omega)
  have h1' : (l0 == 50) = false := beq_eq_false_iff_ne.2 h1
  by_cases h2 : l0 = 60
  · skip
    go_enter Try.func9, Try.ntmps9
    go_wp2
    all_goals
      go_ret
      refine ⟨?_, (Below.refl _ w).alloc (Nat.le_refl _) _⟩
      rw [HR.out]
      first
        | exact ret_no (by omega)
        | exact ret_yes (by omega)
  have h2' : (l0 == 60) = false := beq_eq_false_iff_ne.2 h2
  go_enter Try.func9, Try.ntmps9
  go_wp2
  all_goals
    go_ret
    refine ⟨?_, (Below.refl _ w).alloc (Nat.le_refl _) _⟩
    rw [HR.out]
    first
      | exact ret_no (by omega)
      | exact ret_yes (by omega)
end Go.Proofs.Ytpmjgomfjfhfkaa.Tally
