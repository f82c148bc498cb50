/- Are bytes some bytes and their check? -/
import Derived.Test.YtlhjligeigkbnaaCrcSealMath
import Derived.Laws.Strings
set_option linter.unusedSimpArgs false
set_option linter.unusedVariables false
namespace Go.Proofs.Ytlhjligeigkbnaa.Crc
open Go.RowKit RU8

/-- Are these bytes some bytes with their check behind them? -/
def sealedB (ys : List Nat) : Bool := decide (2 ≤ ys.length) && decide (sealZ (ys.take (ys.length - 2)) = ys)
theorem two_behind (ys : List Nat) (n : Nat) (h : ys.length = n + 2) : ys = ys.take n ++ [ys.getD n 0, ys.getD (n + 1) 0] := by
  apply List.ext_getElem?
  intro i
  rcases Nat.lt_or_ge i n with hi | hi
  · rw [List.getElem?_append_left (by rw [List.length_take]; omega), List.getElem?_take, if_pos hi]
  · rw [List.getElem?_append_right (by rw [List.length_take]; omega), List.length_take, Nat.min_eq_left (by omega)]
    rcases (by omega : i = n ∨ i = n + 1 ∨ n + 2 ≤ i) with rfl | rfl | h2
    · rw [Nat.sub_self, List.getD_eq_getElem?_getD, List.getElem?_eq_getElem (by omega)]; rfl
    · rw [show n + 1 - n = 1 by omega, List.getD_eq_getElem?_getD, List.getD_eq_getElem?_getD, List.getElem?_eq_getElem (by omega)]; simp
    · rw [List.getElem?_eq_none (by omega), List.getElem?_eq_none (by simp; omega)]
theorem sealed_two (ys : List Nat) (n : Nat) (h : ys.length = n + 2) : sealedB ys = (decide (ys.getD n 0 = sumZ (ys.take n) % 256) && decide (ys.getD (n + 1) 0 = sumZ (ys.take n) / 256)) := by
  unfold sealedB
  rw [decide_eq_true (by omega : 2 ≤ ys.length), Bool.true_and, show ys.length - 2 = n by omega, Bool.eq_iff_iff, Bool.and_eq_true, decide_eq_true_iff, decide_eq_true_iff, decide_eq_true_iff]
  have e := two_behind ys n h
  have hl : (ys.take n).length = n := by rw [List.length_take]; omega
  constructor
  · intro hs
    have hs' : ys.take n ++ checkZ (ys.take n) = ys.take n ++ [ys.getD n 0, ys.getD (n + 1) 0] := hs.trans e
    have := List.append_cancel_left hs'
    unfold checkZ at this
    injection this with h1 h2
    injection h2 with h2 _
    exact ⟨h1.symm, h2.symm⟩
  · rintro ⟨h1, h2⟩
    unfold sealZ checkZ
    rw [← h1, ← h2]
    exact e.symm
theorem sealed_few (ys : List Nat) (h : ys.length < 2) : sealedB ys = false := by
  unfold sealedB
  rw [decide_eq_false (by omega), Bool.false_and]
/-- Two strings of bytes are one just where the bytes are. -/
theorem strOf_beq {a b : List Nat} (ha : Bytes a) (hb : Bytes b) : ((strOf a).toList == (strOf b).toList) = decide (a = b) := by
  rw [Bool.eq_iff_iff, beq_iff_eq, decide_eq_true_iff, ByteArray.toList_eq, ByteArray.toList_eq]
  constructor
  · intro h
    refine strOf_inj ha hb ?_
    generalize strOf a = x at *
    generalize strOf b = y at *
    obtain ⟨x⟩ := x
    obtain ⟨y⟩ := y
    exact congrArg ByteArray.mk (Array.toList_inj.1 h)
  · rintro rfl; rfl
theorem ret_bool {a b : Bool} (h : a = b) : Ending.returned (.bool a) = .returned (.bool b) := by rw [h]
theorem cast_beq (a b : Nat) : ((a : Int) == (b : Int)) = decide (a = b) := by
  rw [Bool.eq_iff_iff, beq_iff_eq, decide_eq_true_iff]
  omega
end Go.Proofs.Ytlhjligeigkbnaa.Crc
