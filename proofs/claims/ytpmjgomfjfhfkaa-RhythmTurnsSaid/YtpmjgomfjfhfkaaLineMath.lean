/- What came k steps ago, of a list that has the last value first; sums modulo 2^64. -/
import GoSem.Claim
import Derived.IntWalk
import Derived.WalkKit
namespace Go.Proofs.Ytpmjgomfjfhfkaa
open Go.RowKit
/-- What came k steps ago (the last value first), 0 of any other k. -/
def ago (h : List Int) (k : Int) : Int := if k < 0 then 0 else h.getD k.toNat 0
/-- .. of a line that looks back so far. -/
def agoTo (most : Nat) (h : List Int) (k : Int) : Int := if (most : Int) < k then 0 else ago h k
theorem ago_nat (h : List Int) (k : Nat) : ago h k = h.getD k 0 := by simp [ago, show ¬ (k : Int) < 0 by omega]
theorem ago_neg (h : List Int) (k : Int) (hk : k < 0) : ago h k = 0 := by simp [ago, hk]
theorem ago_far (h : List Int) (k : Int) (hk : (h.length : Int) ≤ k) : ago h k = 0 := by
  unfold ago
  split
  · rfl
  · rw [List.getD_eq_getElem?_getD, List.getElem?_eq_none (by omega)]; rfl
theorem agoTo_in (most : Nat) (h : List Int) (k : Nat) (hk : k ≤ most) : agoTo most h k = h.getD k 0 := by
  unfold agoTo
  rw [if_neg (by omega), ago_nat]
/-- A line's things behind one more. -/
theorem kept_push (most : Nat) (h : List Int) (v : Int) :
    ((v :: h).take (most + 1)).reverse = (if most < (h.take (most + 1)).reverse.length then (h.take (most + 1)).reverse.drop 1 else (h.take (most + 1)).reverse) ++ [v] := by
  rw [List.take_succ_cons, List.reverse_cons]
  congr 1
  rw [List.length_reverse, List.length_take]
  split
  · rename_i hl
    have hl2 : most < h.length := by omega
    rw [List.take_succ_eq_append_getElem hl2, List.reverse_append]
    simp
  · rename_i hl
    rw [List.take_of_length_le (by omega), List.take_of_length_le (by omega)]
theorem kept_len (most : Nat) (h : List Int) : (h.take (most + 1)).reverse.length ≤ most + 1 := by
  rw [List.length_reverse, List.length_take]; omega
/-- What a line's ring has at a place from behind. -/
theorem kept_back (most : Nat) (h : List Int) (k : Nat) (hk : k < (h.take (most + 1)).reverse.length) :
    (h.take (most + 1)).reverse.getD ((h.take (most + 1)).reverse.length - 1 - k) 0 = agoTo most h k := by
  rw [List.length_reverse] at hk ⊢
  have hk2 := hk
  rw [List.length_take] at hk2
  rw [agoTo_in most h k (by omega), List.getD_eq_getElem?_getD, List.getElem?_reverse (by omega), show (h.take (most + 1)).length - 1 - ((h.take (most + 1)).length - 1 - k) = k by omega, List.getElem?_take_of_lt (by omega),
    List.getD_eq_getElem?_getD]
theorem kept_far (most : Nat) (h : List Int) (k : Int) (hk : k < 0 ∨ ((h.take (most + 1)).reverse.length : Int) ≤ k) : agoTo most h k = 0 := by
  rw [List.length_reverse, List.length_take] at hk
  unfold agoTo
  split
  · rfl
  · rcases hk with hk | hk
    · exact ago_neg h k hk
    · exact ago_far h k (by omega)
/-- The sum of the last values of a window that looks back so far. -/
def winSum (most : Nat) (h : List Int) : Int := (h.take (most + 1)).sum
theorem winSum_push (most : Nat) (h : List Int) (v : Int) : winSum most (v :: h) = winSum most h + v - h.getD most 0 := by
  unfold winSum
  rw [List.take_succ_cons, List.sum_cons]
  rcases Nat.lt_or_ge most h.length with hl | hl
  · rw [List.take_succ_eq_append_getElem hl, List.sum_append, List.getD_eq_getElem?_getD, List.getElem?_eq_getElem hl]
    simp
    omega
  · rw [List.take_of_length_le hl, List.take_of_length_le (by omega), List.getD_eq_getElem?_getD, List.getElem?_eq_none hl]
    simp
    omega
theorem winSum_nil (most : Nat) : winSum most [] = 0 := by simp [winSum]
theorem wrap64_idem (a : Int) : wrap64 (wrap64 a) = wrap64 a := by unfold wrap64; omega
theorem wrap64_add (a b : Int) : wrap64 (wrap64 a + b) = wrap64 (a + b) := by unfold wrap64; omega
theorem wrap64_sum (S v a : Int) : wrap64 (wrap64 S + wrap64 (v - a)) = wrap64 (S + v - a) := by unfold wrap64; omega
end Go.Proofs.Ytpmjgomfjfhfkaa
