/- The chapter's example of layer 14: so it is. -/
import Derived.Test.YtlbppllfmephdaaWinCalls
import Derived.Test.YtlbppllfmephdaaWinRef
set_option linter.unusedSimpArgs false
set_option linter.unusedVariables false
namespace Go.Proofs.Ytlbppllfmephdaa.Win
open Go.RowKit RI64
/-- What comes in the example behind k zeros: 32, and then 0. -/
theorem ex_out : ∀ k, k < 30 → winT (List.replicate k 0 ++ [32]) = 1 := by decide +kernel
theorem ex_end : winT (List.replicate 30 0 ++ [32]) = 0 := by decide +kernel
theorem ex_step (k : Nat) : (0 : Int) :: (List.replicate k 0 ++ [32]) = List.replicate (k + 1) 0 ++ [32] := by simp [List.replicate_succ]
set_option maxHeartbeats 1000000 in
theorem live_k (w : World) : Calls Try.prog 13 #[] w fun e w' => e = .returned (.bool true) ∧ Below w.heap.size w w' := by
  have hnew := new_any w
  unfold NewIs at hnew
  have hp0 := fun b S W (hF : kit.Fil W b S []) => kit.push_any b S [] 32 W hF
  rw [show winT [32] = 1 from ex_out 0 (by omega), show [(32 : Int)] = List.replicate 0 0 ++ [32] from rfl] at hp0
  go_enter Try.func13, Try.ntmps13
  go_wp2_with (first
    | (go_at_call 6; ((with_reducible refine hnew.mono ?_); rintro e w1 ⟨b, S, rfl, hF, hS, hB⟩; have hp1 := hp0 b S w1 hF))
    | (go_at_call 12; ((with_reducible refine hp1.mono ?_); rintro e w2 ⟨rfl, hF2, hK2⟩)))
  clear hp0 hp1 hF hnew
  go_loopw [6] (fun i wr => ∃ k : Nat, k ≤ 29 ∧ i = .int .i64 (k : Nat) ∧ kit.Fil wr b S (List.replicate k 0 ++ [32]) ∧ Kept S w1 wr) (fun i _ => 29 - (intOf i).toNat)
  case atStart => exact ⟨0, by omega, rfl, hF2, hK2⟩
  case round =>
    clear hF2 hK2
    obtain ⟨k, hk, rfl, hF, hK⟩ := hrel
    have hpu := kit.push_any b S _ 0 wr hF
    rw [ex_step] at hpu
    clear hF
    by_cases hkn : k < 29
    · have hkz : (k : Int) < 29 := by omega
      rw [ex_out (k + 1) (by omega)] at hpu
      go_wp2_with (go_at_call 12; ((with_reducible refine hpu.mono ?_); rintro e W4 ⟨rfl, hF4, hK4⟩; have hK5 := hK.trans hK4))
      go_roundw
      case rel => exact ⟨k + 1, by omega, by go_num, hF4, hK5⟩
      case measure => simp [intOf]; omega
    · obtain rfl : k = 29 := by omega
      rw [show 29 + 1 = 30 from rfl, ex_end] at hpu
      go_wp2_with (go_at_call 12; ((with_reducible refine hpu.mono ?_); rintro e W4 ⟨rfl, hF4, hK4⟩; have hK5 := hK.trans hK4))
      go_ret
      exact ⟨rfl, below_kept hB hK5 hB.size hS⟩
end Go.Proofs.Ytlbppllfmephdaa.Win
