/- What crc's and the references' Sealed answer. -/
import Derived.Test.YtgeidghdigdldaaCrcD
import Derived.Laws.Strings
set_option linter.unusedSimpArgs false
set_option linter.unusedVariables false
namespace Go.Proofs.Ytgeidghdigdldaa.Crc
open Go.RowKit RU8

/-- Are these bytes some bytes with their check behind them? -/
def sealedB (ys : List Nat) : Bool := decide (2 ≤ ys.length) && decide (sealZ (ys.take (ys.length - 2)) = ys)
theorem two_behind (ys : List Nat) (n : Nat) (h : ys.length = n + 2) : ys = ys.take n ++ [ys.getD n 0, ys.getD (n + 1) 0] := by
  apply List.ext_getElem?
  intro i
  rcases Nat.lt_or_ge i n with hi | hi
  · rw [List.getElem?_append_left (by rw [List.length_take]; omega), List.getElem?_take, if_pos hi]
  · rw [List.getElem?_append_right (by rw [List.length_take]; omega), List.length_take, Nat.min_eq_left (by omega)]
    rcases (by omega : i = n ∨ i = n + 1 ∨ n + 2 ≤ i) with rfl | rfl | h2
    · rw [Nat.sub_self, List.getD_eq_getElem?_getD, List.getElem?_eq_getElem (by omega)]; rfl
    · rw [show n + 1 - n = 1 by omega, List.getD_eq_getElem?_getD, List.getD_eq_getElem?_getD, List.getElem?_eq_getElem (by omega)]; simp
    · rw [List.getElem?_eq_none (by omega), List.getElem?_eq_none (by simp; omega)]
theorem sealed_two (ys : List Nat) (n : Nat) (h : ys.length = n + 2) : sealedB ys = (decide (ys.getD n 0 = sumZ (ys.take n) % 256) && decide (ys.getD (n + 1) 0 = sumZ (ys.take n) / 256)) := by
  unfold sealedB
  rw [decide_eq_true (by omega : 2 ≤ ys.length), Bool.true_and, show ys.length - 2 = n by omega, Bool.eq_iff_iff, Bool.and_eq_true, decide_eq_true_iff, decide_eq_true_iff, decide_eq_true_iff]
  have e := two_behind ys n h
  have hl : (ys.take n).length = n := by rw [List.length_take]; omega
  constructor
  · intro hs
    have hs' : ys.take n ++ checkZ (ys.take n) = ys.take n ++ [ys.getD n 0, ys.getD (n + 1) 0] := hs.trans e
    have := List.append_cancel_left hs'
    unfold checkZ at this
    injection this with h1 h2
    injection h2 with h2 _
    exact ⟨h1.symm, h2.symm⟩
  · rintro ⟨h1, h2⟩
    unfold sealZ checkZ
    rw [← h1, ← h2]
    exact e.symm
theorem sealed_few (ys : List Nat) (h : ys.length < 2) : sealedB ys = false := by
  unfold sealedB
  rw [decide_eq_false (by omega), Bool.false_and]
/-- Two strings of bytes are one just where the bytes are. -/
theorem strOf_beq {a b : List Nat} (ha : Bytes a) (hb : Bytes b) : ((strOf a).toList == (strOf b).toList) = decide (a = b) := by
  rw [Bool.eq_iff_iff, beq_iff_eq, decide_eq_true_iff, ByteArray.toList_eq, ByteArray.toList_eq]
  constructor
  · intro h
    refine strOf_inj ha hb ?_
    generalize strOf a = x at *
    generalize strOf b = y at *
    obtain ⟨x⟩ := x
    obtain ⟨y⟩ := y
    exact congrArg ByteArray.mk (Array.toList_inj.1 h)
  · rintro rfl; rfl
theorem ret_bool {a b : Bool} (h : a = b) : Ending.returned (.bool a) = .returned (.bool b) := by rw [h]
theorem cast_beq (a b : Nat) : ((a : Int) == (b : Int)) = decide (a = b) := by
  rw [Bool.eq_iff_iff, beq_iff_eq, decide_eq_true_iff]
  omega
theorem sealed_any (A : Option Addr) (len c : Nat) (ys : List Nat) (w : World) (hv : Vals w A len ys) (hb : Bytes ys) (hl : len ≤ 100000) (hc : len ≤ c) (hc2 : c ≤ 9223372036854775807) :
    Calls Try.prog 14 #[.slice A len c] w fun e w' => e = .returned (.bool (sealedB ys)) ∧ w = w' := by
  have hlen := hv.len_
  rcases Nat.lt_or_ge len 2 with h2 | h2
  · rw [sealed_few ys (by omega)]
    go_enter Try.func14, Try.ntmps14
    go_wp2
    go_ret
    exact ⟨rfl, rfl⟩
  · obtain ⟨n, hn⟩ : ∃ n, len = n + 2 := ⟨len - 2, by omega⟩
    rw [sealed_two ys n (by omega)]
    have hck := check_any A n c (ys.take n) w (hv.take n (by omega)) (hb.take n) (by omega)
    obtain ⟨x, rfl, hx⟩ := hv.cells (by omega)
    have hc0 := hx n (by omega)
    have hc1 := hx (n + 1) (by omega)
    have hnz : (len : Int) - 2 = (n : Int) := by omega
    obtain ⟨n1, hn1⟩ : ∃ n1, n + 1 = n1 := ⟨_, rfl⟩
    rw [hn1] at hc1 ⊢
    have hnz2 : (n : Int) + 1 = (n1 : Int) := by omega
    have hn2 : n1 < len := by omega
    have hn3 : n < len := by omega
    clear hn1
    clear hx hv hb hlen
    generalize sumZ (ys.take n) % 256 = lo at *
    generalize sumZ (ys.take n) / 256 = hi at *
    generalize ys.getD n 0 = y0 at *
    generalize ys.getD n1 0 = y1 at *
    clear hn
    go_enter Try.func14, Try.ntmps14
    go_wp2_with (go_at_call 18; ((with_reducible refine hck.mono ?_); rintro e w' ⟨rfl, rfl⟩))
    · have e : y0 = lo := by omega
      go_ret
      exact ⟨ret_bool (by rw [cast_beq, decide_eq_true e, Bool.true_and]), rfl⟩
    · have e : ¬ y0 = lo := by omega
      go_ret
      exact ⟨ret_bool (by rw [decide_eq_false e, Bool.false_and]), rfl⟩
end Go.Proofs.Ytgeidghdigdldaa.Crc
