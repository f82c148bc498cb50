/- What an annal keeps, reckoned. Of no program. -/
import Derived.Test.YtjhpogiknhbegaaDoorAlarmMath
set_option linter.unusedVariables false
set_option linter.unusedSimpArgs false
namespace Go.Proofs.YtjhpogiknhbegaaDoor.Annal
open Go.RowKit
open Alarm (Ot otS noOt ot_cells)
/-- Of all that were added: what is kept; the last n of it; how many of a kind. -/
def keptA (l : List Ot) : List Ot := l.drop (l.length - 64)
def lastA (l : List Ot) (n : Int) : List Ot := (keptA l).drop ((keptA l).length - n.toNat)
def countA (l : List Ot) (k : Int) : Nat := if 0 ≤ k ∧ k ≤ 9 then (l.filter (fun o => decide (o.1 = k))).length else 0
theorem kept_len (l : List Ot) : (keptA l).length = min l.length 64 := by unfold keptA; rw [List.length_drop]; omega
theorem kept_few {l : List Ot} (h : l.length ≤ 64) : keptA l = l := by unfold keptA; rw [show l.length - 64 = 0 by omega, List.drop_zero]
/-- One more. -/
theorem kept_snoc (l : List Ot) (o : Ot) : keptA (l ++ [o]) = if l.length < 64 then keptA l ++ [o] else (keptA l).drop 1 ++ [o] := by
  unfold keptA
  rw [List.length_append, List.length_singleton]
  split
  · rename_i h
    rw [show l.length + 1 - 64 = 0 by omega, show l.length - 64 = 0 by omega, List.drop_zero, List.drop_zero]
  · rename_i h
    rw [List.drop_drop, List.drop_append, show l.length + 1 - 64 - l.length = 0 by omega, List.drop_zero, show l.length - 64 + 1 = l.length + 1 - 64 by omega]
theorem last_none (l : List Ot) (n : Int) (h : n < 1) : lastA l n = [] := by
  unfold lastA
  rw [show n.toNat = 0 by omega, Nat.sub_zero, List.drop_length]
theorem last_len (l : List Ot) (n : Int) : (lastA l n).length = min n.toNat (keptA l).length := by unfold lastA; rw [List.length_drop]; omega
theorem last_get (l : List Ot) (n : Nat) (i : Nat) (hn : n ≤ (keptA l).length) (hi : i < n) : (lastA l n).getD i noOt = (keptA l).getD ((keptA l).length - n + i) noOt := by
  unfold lastA
  rw [Int.toNat_natCast, List.getD_eq_getElem?_getD, List.getElem?_drop, List.getD_eq_getElem?_getD]
theorem last_all (l : List Ot) (n : Int) (h : ((keptA l).length : Int) ≤ n) : lastA l n = keptA l := by
  unfold lastA
  rw [show (keptA l).length - n.toNat = 0 by omega, List.drop_zero]
theorem count_snoc (l : List Ot) (o : Ot) (k : Int) : countA (l ++ [o]) k = if o.1 = k ∧ 0 ≤ k ∧ k ≤ 9 then countA l k + 1 else countA l k := by
  unfold countA
  rw [List.filter_append]
  by_cases h : 0 ≤ k ∧ k ≤ 9
  · rw [if_pos h, if_pos h]
    by_cases h2 : o.1 = k
    · rw [if_pos ⟨h2, h⟩, List.filter_cons_of_pos (by simpa using h2), List.filter_nil, List.length_append, List.length_singleton]
    · rw [if_neg (fun h3 => h2 h3.1), List.filter_cons_of_neg (by simpa using h2), List.filter_nil, List.append_nil]
  · rw [if_neg h, if_neg h, if_neg (fun h3 => h h3.2)]
theorem count_le (l : List Ot) (k : Int) : countA l k ≤ l.length := by
  unfold countA
  split
  · exact List.length_filter_le _ _
  · omega
end Go.Proofs.YtjhpogiknhbegaaDoor.Annal
