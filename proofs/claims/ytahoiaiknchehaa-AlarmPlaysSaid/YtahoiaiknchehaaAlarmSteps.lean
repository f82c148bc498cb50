/- The steps of the reckoning of alarms, case by case. Of no program. -/
import Derived.Test.YtahoiaiknchehaaAlarmMath
set_option linter.unusedVariables false
set_option linter.unusedSimpArgs false
namespace Go.Proofs.Ytahoiaiknchehaa.Alarm
open Go.RowKit
theorem ack1_off (a : Int) {s : St} {k : Nat} (h : waits (s.get k) = false) : ack1 a s k = (s, []) := by unfold ack1; rw [h]; rfl
theorem ack1_on (a : Int) {s : St} {k : Nat} (h : waits (s.get k) = true) (ho : (s.get k).on = true) : ack1 a s k = (s.set k { s.get k with acked := true }, [(5, a, (k : Int), 0)]) := by unfold ack1; rw [if_pos h, if_pos ho]
theorem ack1_clr (a : Int) {s : St} {k : Nat} (h : waits (s.get k) = true) (ho : (s.get k).on = false) : ack1 a s k = (s.set k noOne, [(5, a, (k : Int), 0), (3, a, (k : Int), 0)]) := by unfold ack1; rw [if_pos h, ho, if_neg (by decide)]
theorem over_next (f : St → Nat → St × List Ot) (s : St) (k : Nat) {s1 s2 : St} {F F2 : List Ot} (h1 : (overT f s k).1 = s1) (h2 : (overT f s k).2 = F) (h : f s1 k = (s2, F2)) : overT f s (k + 1) = (s2, F ++ F2) := by
  show ((f (overT f s k).1 k).1, (overT f s k).2 ++ (f (overT f s k).1 k).2) = _
  rw [h1, h2, h]
theorem waits_in {s : St} {k : Nat} (h : waits (s.get k) = true) (hk : k < 6) : 1 ≤ k ∧ k ≤ 5 := by
  by_cases h0 : 1 ≤ k
  · omega
  · rw [get_off _ _ (by omega)] at h; cases h
theorem esc1_off (a : Int) {s : St} {k : Nat} (h : (waits (s.get k) && !s.high k && decide (s.escape ≤ a - (s.get k).since)) = false) : esc1 a s k = (s, []) := by unfold esc1; rw [h]; rfl
theorem esc1_on (a : Int) {s : St} {k : Nat} (h : (waits (s.get k) && !s.high k && decide (s.escape ≤ a - (s.get k).since)) = true) : esc1 a s k = (s.set k { s.get k with esc := true }, [(6, a, (k : Int), 0)]) := by unfold esc1; rw [if_pos h]
theorem os_next (os : List Or) (k : Nat) (hk : k < os.length) : os.take (k + 1) = os.take k ++ [os.getD k noOr] := by
  rw [List.take_succ_eq_append_getElem hk, getD_in hk]
theorem cs_next (cs : List Cd) (k : Nat) (hk : k < cs.length) : cs.take (k + 1) = cs.take k ++ [cs.getD k noCd] := by
  rw [List.take_succ_eq_append_getElem hk, getD_in hk]
theorem order_ack (a : Int) (s : St) {o : Or} (h : o.2.1 = 1) : orderT a s o = overT (ack1 a) s 6 := by unfold orderT; rw [if_pos h]
theorem order_silence (a : Int) (s : St) {o : Or} (h : o.2.1 = 2) (hn : 1 ≤ o.2.2 ∧ o.2.2 ≤ 24000) : orderT a s o = ({ s with till := a + o.2.2 }, [(8, a, 0, o.2.2)]) := by unfold orderT; rw [if_neg (by omega), if_pos ⟨h, hn⟩]
theorem order_loud (a : Int) (s : St) {o : Or} (h : o.2.1 = 2) (hn : ¬ (1 ≤ o.2.2 ∧ o.2.2 ≤ 24000)) : orderT a s o = (s, []) := by unfold orderT; rw [if_neg (by omega), if_neg (fun q => hn q.2)]
theorem order_no (a : Int) (s : St) {o : Or} (h : o.2.1 ≠ 1) (h2 : o.2.1 ≠ 2) : orderT a s o = (s, []) := by unfold orderT; rw [if_neg h, if_neg (fun q => h2 q.1)]
theorem sound_same {a : Int} {s : St} (h : loudT a s = s.sounds) : soundT a s = (s, []) := by unfold soundT; rw [if_pos h]
theorem sound_turn {a : Int} {s : St} {q : Bool} (h : loudT a s = q) (hs : s.sounds = !q) : soundT a s = ({ s with sounds := q }, [(7, a, 0, if q then 1 else 0)]) := by
  unfold soundT
  rw [if_neg (by rw [h, hs]; cases q <;> decide), h]
theorem over_zero (f : St → Nat → St × List Ot) (s : St) (hf : f s 0 = (s, [])) : overT f s 1 = (s, []) := by
  show ((f s 0).1, [] ++ (f s 0).2) = _
  rw [hf]; rfl
theorem ack_zero (a : Int) (s : St) : ack1 a s 0 = (s, []) := ack1_off a (by rw [get_off _ _ (by omega)]; rfl)
theorem esc_zero (a : Int) (s : St) : esc1 a s 0 = (s, []) := esc1_off a (by rw [get_off _ _ (by omega)]; rfl)
theorem any_one (s : St) : anyT s 1 = false := by
  show (false || waits (s.get 0)) = false
  rw [get_off _ _ (by omega)]; rfl
theorem any_over (a : Int) (s : St) (n : Nat) : ∀ k, anyT (overT (esc1 a) s k).1 n = anyT s n
  | 0 => rfl
  | k + 1 => by
    show anyT (esc1 a (overT (esc1 a) s k).1 k).1 n = anyT s n
    rw [any_esc, any_over a s n k]
end Go.Proofs.Ytahoiaiknchehaa.Alarm
