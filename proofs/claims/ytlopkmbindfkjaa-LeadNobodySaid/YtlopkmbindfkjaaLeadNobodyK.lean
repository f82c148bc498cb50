/- LeadNobody, over whatever code answers as the kit says. -/
import Derived.Test.YtlopkmbindfkjaaLeadLive
set_option linter.unusedSimpArgs false
set_option linter.unusedVariables false
namespace Go.Proofs.Ytlopkmbindfkjaa.Lead
open Go.RowKit
set_option maxHeartbeats 1000000 in
theorem nobody_k (K : LeadKit) (a0 : Option Addr) (len0 cap0 : Nat) (z0 : List Ev) (w : World) (w0 : Row.IsFlat evS EvOk w a0 len0 cap0 z0) :
    Calls Try.prog 6 #[.slice a0 len0 cap0] w fun e w' => e = .returned (.bool true) ∧ Below w.heap.size w w' := by
  obtain ⟨hv, _, hle, hmax, _⟩ := w0
  obtain ⟨m, hm⟩ : ∃ m, min len0 50 = m := ⟨_, rfl⟩
  have hmin : (if (50 : Int) < (len0 : Int) then (50 : Int) else (len0 : Int)) = (m : Int) := by split <;> omega
  have hmb : m ≤ len0 ∧ m ≤ cap0 ∧ m ≤ 50 := by omega
  have hVm := hv.take m hmb.1
  have hpush := fun (W : World) (h : Row.Vals evS W a0 m (z0.take m)) => K.no_push a0 m cap0 _ W h (by omega) hmb.2.1 hmax
  have hlive := live_k K
  clear hm hv
  go_enter Try.func6, Try.ntmps6
  go_wp2_with (first
    | (go_at_call 10; ((with_reducible refine (hpush _ hVm).mono ?_); rintro e W1 ⟨B, d, rfl, hB1⟩))
    | (go_at_call 11; ((with_reducible refine (K.no_on _).mono ?_); rintro e W2 ⟨rfl, hB2⟩; have hC2 := hB1.trans (hB2.mono hB1.size)))
    | (go_at_call 12; ((with_reducible refine (K.no_clone _).mono ?_); rintro e W3 ⟨rfl, hB3⟩; have hC3 := hC2.trans (hB3.mono hC2.size)))
    | (go_at_call 15; ((with_reducible refine (hlive _).mono ?_); rintro e W4 ⟨rfl, hB4⟩; have hC4 := hC3.trans (hB4.mono hC3.size)))
  )
  go_ret
  exact ⟨rfl, hC4⟩
end Go.Proofs.Ytlopkmbindfkjaa.Lead
