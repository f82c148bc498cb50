/- The chapter's example of layer 12: so it is. -/
import Derived.Test.YtbahcoghkmfchaaHighCalls
import Derived.Test.YtbahcoghkmfchaaHighRef
set_option linter.unusedSimpArgs false
set_option linter.unusedVariables false
namespace Go.Proofs.Ytbahcoghkmfchaa.High
open Go.RowKit RI64
/-- What comes in the example: 32, and then 0. -/
def exT : List Int := 32 :: List.replicate 39 0
theorem ex_at : ∀ k, k < 40 → exT.getD k 0 = if k = 0 then 32 else 0 := by decide +kernel
theorem ex_out : ∀ k, k < 40 → highT ((exT.take (k + 1)).reverse ++ []) = if k = 16 then 31 else if 31 < k then 0 else -1 := by decide +kernel
theorem ex_case (k : Nat) (hk : k < 40) (v r : Int) (hv : exT.getD k 0 = v) (hr : highT ((exT.take (k + 1)).reverse ++ []) = r) :
    (((k : Int) = 0 ∧ ¬ (k : Int) = 16 ∧ ¬ 31 < (k : Int)) ∧ v = 32 ∧ r = -1) ∨ ((¬ (k : Int) = 0 ∧ (k : Int) = 16 ∧ ¬ 31 < (k : Int)) ∧ v = 0 ∧ r = 31) ∨ ((¬ (k : Int) = 0 ∧ ¬ (k : Int) = 16 ∧ 31 < (k : Int)) ∧ v = 0 ∧ r = 0) ∨ ((¬ (k : Int) = 0 ∧ ¬ (k : Int) = 16 ∧ ¬ 31 < (k : Int)) ∧ v = 0 ∧ r = -1) := by
  rw [ex_at k hk] at hv
  rw [ex_out k hk] at hr
  split at hv <;> split at hr <;> (try split at hr) <;> omega
set_option maxHeartbeats 1000000 in
theorem live_k (w : World) : Calls Try.prog 13 #[] w fun e w' => e = .returned (.bool true) ∧ Below w.heap.size w w' := by
  have hnew := new_any w
  unfold NewIs at hnew
  have hlen : exT.length = 40 := by simp [exT]
  have HCASE := Lib.hid ex_case
  have HLEN := Lib.hid hlen
  clear hlen
  go_enter Try.func13, Try.ntmps13
  go_wp2_with (go_at_call 7; ((with_reducible refine hnew.mono ?_); rintro e w1 ⟨b, S, rfl, hF, hS, hB⟩))
  go_loopw [6] (fun i wr => ∃ k : Nat, k ≤ 40 ∧ i = .int .i64 (k : Nat) ∧ kit.Fil wr b S ((exT.take k).reverse ++ []) ∧ Kept S w1 wr) (fun i _ => 40 - (intOf i).toNat)
  case atStart => exact ⟨0, by omega, rfl, hF, Kept.refl S w1⟩
  case round =>
    clear hF hnew
    obtain ⟨k, hk, rfl, hF, hK⟩ := hrel
    by_cases hkn : k < 40
    · have hpu := kit.push_any b S ((exT.take k).reverse ++ []) (exT.getD k 0) wr hF
      rw [came_step [] exT k (by have := HLEN.out; omega)] at hpu
      have hca := fun v r h1 h2 => HCASE.out k hkn v r h1 h2
      have hca2 := hca _ _ rfl rfl
      clear hca hF
      generalize highT ((exT.take (k + 1)).reverse ++ []) = r at *
      generalize exT.getD k 0 = v at *
      have hkz : (k : Int) < 40 := by omega
      rcases hca2 with ⟨⟨e1, e2, e3⟩, rfl, rfl⟩ | ⟨⟨e1, e2, e3⟩, rfl, rfl⟩ | ⟨⟨e1, e2, e3⟩, rfl, rfl⟩ | ⟨⟨e1, e2, e3⟩, rfl, rfl⟩
      all_goals
        go_wp2_with (go_at_call 12; ((with_reducible refine hpu.mono ?_); rintro e W4 ⟨rfl, hF4, hK4⟩; have hK5 := hK.trans hK4))
        go_roundw
        case rel => exact ⟨k + 1, by omega, by go_num, hF4, hK5⟩
        case measure => simp [intOf]; omega
    · obtain rfl : k = 40 := by omega
      go_wp2
      go_ret
      exact ⟨rfl, below_kept hB hK hB.size hS⟩
end Go.Proofs.Ytbahcoghkmfchaa.High
