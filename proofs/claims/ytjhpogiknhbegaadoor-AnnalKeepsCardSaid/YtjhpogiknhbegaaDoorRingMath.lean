/- Plain numbers: a mask is the rest of a division by a power of two; lists that go round. -/
import GoSem.Claim
import Derived.Laws.BitsAllLaws
import Derived.Laws.BitsLemmas
import Derived.IntWalk
namespace Go.Proofs.YtjhpogiknhbegaaDoor
theorem ofInt_i64 (a : Nat) (ha : a < 9223372036854775808) : (BitVec.ofInt 64 (a : Int)).toNat = a := by
  rw [BitVec.ofInt_natCast, BitVec.toNat_ofNat]; exact Nat.mod_eq_of_lt (by omega)
theorem i64_and_nat (a b : Nat) (ha : a < 9223372036854775808) (hb : b < 9223372036854775808) : bits .and .i64 (a : Int) (b : Int) = ((a &&& b : Nat) : Int) := by
  have hx : a &&& b < 2 ^ 63 := Nat.and_lt_two_pow _ (by omega)
  show IntKind.i64.wrap ((BitVec.ofInt 64 (a : Int) &&& BitVec.ofInt 64 (b : Int)).toNat : Int) = _
  rw [BitVec.toNat_and, ofInt_i64 a ha, ofInt_i64 b hb, IntKind.wrap_i64]
  omega
theorem mask_int (a k n : Nat) (ha : a < 9223372036854775808) (hn : n = 2 ^ k) (hl : n ≤ 65536) : bits .and .i64 (a : Int) ((n : Int) - 1) = ((a % n : Nat) : Int) := by
  have h1 : 1 ≤ n := by subst hn; exact Nat.one_le_two_pow
  rw [show ((n : Int) - 1) = ((n - 1 : Nat) : Int) by omega, i64_and_nat a (n - 1) ha (by omega), hn, Nat.and_two_pow_sub_one_eq_mod]
theorem rot_ne {f n i k : Nat} (hi : i < n) (hk : k < n) (h : i ≠ k) : (f + i) % n ≠ (f + k) % n := by
  intro he
  rcases Nat.lt_or_ge i k with hl | hl
  · have h1 := Nat.sub_mod_eq_zero_of_mod_eq he.symm
    rw [show f + k - (f + i) = k - i by omega, Nat.mod_eq_of_lt (by omega)] at h1
    omega
  · have h1 := Nat.sub_mod_eq_zero_of_mod_eq he
    rw [show f + i - (f + k) = i - k by omega, Nat.mod_eq_of_lt (by omega)] at h1
    omega
theorem rot_add (f m i n : Nat) : ((f + m) % n + i) % n = (f + (m + i)) % n := by
  rw [Nat.mod_add_mod, Nat.add_assoc]
theorem getD_set {α : Type} (l : List α) (i j : Nat) (v d : α) (hj : j < l.length) : (l.set j v).getD i d = if j = i then v else l.getD i d := by
  rw [List.getD_eq_getElem?_getD, List.getD_eq_getElem?_getD, List.getElem?_set]
  by_cases h : j = i
  · subst h; simp [hj]
  · simp [h]
theorem getD_drop {α : Type} (l : List α) (m i : Nat) (d : α) : (l.drop m).getD i d = l.getD (m + i) d := by
  rw [List.getD_eq_getElem?_getD, List.getD_eq_getElem?_getD, List.getElem?_drop]
theorem getD_left {α : Type} (l r : List α) (i : Nat) (d : α) (h : i < l.length) : (l ++ r).getD i d = l.getD i d := by
  rw [List.getD_eq_getElem?_getD, List.getD_eq_getElem?_getD, List.getElem?_append_left h]
theorem getD_right {α : Type} (l r : List α) (i : Nat) (d : α) : (l ++ r).getD (l.length + i) d = r.getD i d := by
  rw [List.getD_eq_getElem?_getD, List.getD_eq_getElem?_getD, List.getElem?_append_right (by omega)]
  simp
theorem getD_take {α : Type} (l r : List α) (m i : Nat) (d : α) (h : i < l.length + m) : (l ++ r).getD i d = (l ++ r.take m).getD i d := by
  rcases Nat.lt_or_ge i l.length with h1 | h1
  · rw [getD_left _ _ _ _ h1, getD_left _ _ _ _ h1]
  · obtain ⟨j, rfl⟩ : ∃ j, i = l.length + j := ⟨i - l.length, by omega⟩
    rw [getD_right, getD_right, List.getD_eq_getElem?_getD, List.getD_eq_getElem?_getD, List.getElem?_take_of_lt (by omega)]
theorem fill_step {α : Type} (xs : List α) (d : α) (m k : Nat) (hk : k < m) (hm : m ≤ xs.length) :
    (xs.take k ++ List.replicate (m - k) d).set k (xs.getD k d) = xs.take (k + 1) ++ List.replicate (m - (k + 1)) d := by
  have hl : (xs.take k).length = k := by rw [List.length_take]; omega
  rw [List.set_append_right _ _ (by omega), hl, Nat.sub_self, show m - k = (m - (k + 1)) + 1 by omega, List.replicate_succ, List.set_cons_zero,
    List.take_succ_eq_append_getElem (by omega), List.append_assoc, List.getD_eq_getElem?_getD, List.getElem?_eq_getElem (by omega)]
  simp
theorem fill_at {α : Type} (xs : List α) (d : α) (m k : Nat) (hk : k < m) (hm : m ≤ xs.length) : (xs.take k ++ List.replicate (m - k) d)[k]? = some d := by
  have hl : (xs.take k).length = k := by rw [List.length_take]; omega
  rw [List.getElem?_append_right (by omega), hl, Nat.sub_self, show m - k = (m - (k + 1)) + 1 by omega, List.replicate_succ]
  rfl
end Go.Proofs.YtjhpogiknhbegaaDoor
