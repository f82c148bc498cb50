/- The reference of the ring: what its calls answer. -/
import Derived.Test.YteiakpepdnhigaaRingArgs
import Derived.Test.YteiakpepdnhigaaRingMath
import Derived.ProofKit
import Derived.Lib.Hide
set_option linter.unusedSimpArgs false
set_option linter.unusedVariables false
namespace Go.Proofs.Yteiakpepdnhigaa.RInt
open Go.RowKit

theorem Vals.alloc {w : World} {a : Option Addr} {len : Nat} {ys : List Int} (h : Vals w a len ys) (o : Obj) : Vals (w.alloc o) a len ys := h.below ((Below.refl _ _).alloc (Nat.le_refl _) _)

set_option maxHeartbeats 1000000 in
theorem refat_yes (A : Option Addr) (n c : Nat) (M : Int) (xs : List Int) (i : Nat) (w : World) (h : Vals w A n xs) (hi : i < n) (hn : n ≤ 9223372036854775807) :
    Calls Try.prog 12 #[.agg #[.slice A n c, .int .i64 M], .int .i64 i] w fun e w' => e = .returned (.tuple #[.int .i64 (xs.getD i 0), .bool true]) ∧ Below w.heap.size w w' := by
  obtain ⟨x, rfl, hx⟩ := (h.alloc (.cells #[.slice A n c, .int .i64 M] 29)).cells (by omega)
  have hc := hx i hi
  generalize xs.getD i 0 = v at *
  clear hx h
  go_enter Try.func12, Try.ntmps12
  go_wp2
  go_ret2
  exact ⟨rfl, (Below.refl _ _).alloc (Nat.le_refl _) _⟩
theorem refat_no (A : Option Addr) (n c : Nat) (M : Int) (i : Int) (w : World) (hi : i < 0 ∨ (n : Int) ≤ i) (hn : n ≤ 9223372036854775807) :
    Calls Try.prog 12 #[.agg #[.slice A n c, .int .i64 M], .int .i64 i] w fun e w' => e = .returned (.tuple #[.int .i64 0, .bool false]) ∧ Below w.heap.size w w' := by
  by_cases h0 : i < 0
  all_goals
    go_enter Try.func12, Try.ntmps12
    go_wp2
    go_ret2
    exact ⟨rfl, (Below.refl _ _).alloc (Nat.le_refl _) _⟩
theorem refback_yes (A : Option Addr) (n c : Nat) (M : Int) (xs : List Int) (i : Nat) (w : World) (h : Vals w A n xs) (hi : i < n) (hn : n ≤ 9223372036854775807) :
    Calls Try.prog 30 #[.agg #[.slice A n c, .int .i64 M], .int .i64 i] w fun e w' => e = .returned (.tuple #[.int .i64 (xs.getD (n - 1 - i) 0), .bool true]) ∧ Below w.heap.size w w' := by
  obtain ⟨x, rfl, hx⟩ := (h.alloc (.cells #[.slice A n c, .int .i64 M] 29)).cells (by omega)
  have hc := hx (n - 1 - i) (by omega)
  generalize xs.getD (n - 1 - i) 0 = v at *
  obtain ⟨k, hk⟩ : ∃ k, n - 1 - i = k := ⟨_, rfl⟩
  rw [hk] at hc
  have hkn : k < n := by omega
  have he : (n : Int) - 1 - (i : Int) = (k : Int) := by omega
  clear hx h hk
  go_enter Try.func30, Try.ntmps30
  go_wp2
  go_ret2
  exact ⟨rfl, (Below.refl _ _).alloc (Nat.le_refl _) _⟩
theorem refback_no (A : Option Addr) (n c : Nat) (M : Int) (i : Int) (w : World) (hi : i < 0 ∨ (n : Int) ≤ i) (hn : n ≤ 9223372036854775807) :
    Calls Try.prog 30 #[.agg #[.slice A n c, .int .i64 M], .int .i64 i] w fun e w' => e = .returned (.tuple #[.int .i64 0, .bool false]) ∧ Below w.heap.size w w' := by
  by_cases h0 : i < 0
  all_goals
    go_enter Try.func30, Try.ntmps30
    go_wp2
    go_ret2
    exact ⟨rfl, (Below.refl _ _).alloc (Nat.le_refl _) _⟩

theorem refnew_no (k : Int) (w : World) (hk : k < 0 ∨ 16 < k) :
    Calls Try.prog 7 #[.int .i64 k] w fun e w' => e = .returned (.tuple #[.agg #[.slice none 0 0, .int .i64 0], .bool false]) ∧ Below w.heap.size w w' := by
  by_cases h0 : k < 0
  all_goals
    go_enter Try.func7, Try.ntmps7
    go_wp2
    refine bodyPost_ret (v := .tuple #[.agg #[.slice none 0 0, .int .i64 0], .bool false]) (by simp [results, Try.results7, go_sem]) rfl ⟨rfl, ?_⟩
    exact (Below.refl _ _).alloc (Nat.le_refl _) _
theorem refnew_yes (k N : Nat) (w : World) (hk : k ≤ 16) (hN : 2 ^ k = N) :
    Calls Try.prog 7 #[.int .i64 k] w fun e w' => e = .returned (.tuple #[.agg #[.slice none 0 0, .int .i64 (N : Int)], .bool true]) ∧ Below w.heap.size w w' := by
  have hO := Has.new w 29 #[.slice none 0 0, .int .i64 0]
  go_enter Try.func7, Try.ntmps7
  go_wp2
  have HN := Lib.hid hN
  clear hN
  go_loop [4, 5] (fun m i => ∃ j : Nat, j ≤ k ∧ i = .int .i64 j ∧ m = .int .i64 (2 ^ j : Nat)) (fun _ i => k - (intOf i).toNat)
  case atStart => exact ⟨0, by omega, rfl, rfl⟩
  case round =>
    obtain ⟨j, hj, rfl, rfl⟩ := hrel
    have hp : (2 : Nat) ^ j ≤ 65536 := (Nat.pow_le_pow_right (by omega) (by omega : j ≤ 16) : 2 ^ j ≤ 2 ^ 16)
    have HS := Lib.hid (show (2 : Nat) ^ (j + 1) = 2 * 2 ^ j by rw [Nat.pow_succ]; omega)
    generalize hq : (2 : Nat) ^ j = q at *
    by_cases hlt : j < k
    · clear hq
      go_wp2
      go_round
      case rel => exact ⟨j + 1, by omega, by go_num, by rw [HS.out]; go_num⟩
      case measure => simp [intOf]; omega
    · obtain rfl : j = k := by omega
      obtain rfl : N = q := HN.out.symm.trans hq
      clear hq
      go_wp2
      refine bodyPost_ret (v := .tuple #[.agg #[.slice none 0 0, .int .i64 N], .bool true]) (by simp [results, Try.results7, go_sem]) rfl ⟨rfl, ?_⟩
      exact (Below.refl _ _).alloc (Nat.le_refl _) _

theorem take_min {α : Type} (xs : List α) (t n m : Nat) (hl : xs.length = n) (hm : min t n = m) : xs.take t = xs.take m ∧ xs.drop t = xs.drop m := by
  rcases Nat.le_total t n with h | h
  · rw [show t = m by omega]; exact ⟨rfl, rfl⟩
  · rw [List.take_of_length_le (by omega), List.take_of_length_le (by omega), List.drop_of_length_le (by omega), List.drop_of_length_le (by omega)]; exact ⟨rfl, rfl⟩
theorem add_of_add (a : Addr) (i j : Nat) : (a.add i).add j = a.add (i + j) := by
  unfold Addr.add
  by_cases hi : i = 0 <;> by_cases hj : j = 0 <;> simp [hi, hj, Nat.add_assoc]
theorem Vals.drop {w : World} {a : Option Addr} {len : Nat} {ys : List Int} (h : Vals w a len ys) (p : Nat) (hp : p ≤ len) : Vals w (a.map (·.add p)) (len - p) (ys.drop p) := by
  have hl := h.len_
  refine ⟨by rw [List.length_drop]; omega, fun h0 => ?_⟩
  obtain ⟨x, rfl, hc⟩ := h.cells (by omega)
  refine ⟨_, rfl, fun i hi => ?_⟩
  rw [add_of_add, hc (p + i) (by omega), getD_drop]

/-- What the reference's Take leaves, and what it takes. -/
def RefTook (w : World) (A : Option Addr) (n c : Nat) (M : Int) (xs : List Int) (t : Nat) (e : Ending) (w' : World) : Prop :=
  ∃ A' c' m, e = .returned (.tuple #[.agg #[.slice A' (n - m) c', .int .i64 M], .slice A m c]) ∧ m = min t n ∧ Vals w' A' (n - m) (xs.drop t) ∧ Vals w' A m (xs.take t) ∧ n - m ≤ c' ∧ c' ≤ c ∧
    (∀ x, A' = some x → ∃ y, A = some y ∧ x.block = y.block) ∧ Below w.heap.size w w'
set_option maxHeartbeats 1000000 in
theorem reftake_any (A : Option Addr) (n c : Nat) (M : Int) (xs : List Int) (i : Int) (t : Nat) (w : World) (h : Vals w A n xs) (hn : n ≤ c) (hc : c ≤ 9223372036854775807) (ht : i.toNat = t) :
    Calls Try.prog 13 #[.agg #[.slice A n c, .int .i64 M], .int .i64 i] w (RefTook w A n c M xs t) := by
  obtain ⟨m, hm⟩ : ∃ m, min t n = m := ⟨_, rfl⟩
  have hmn : m ≤ n := by omega
  have hmi : (m : Int) < i ∨ i ≤ (m : Int) := by omega
  have hmt : m < t → m = n := by omega
  have hti : (t : Int) = i ∨ (t = 0 ∧ i < 0) := by omega
  go_enter Try.func13, Try.ntmps13
  go_wp2
  go_loop [6] (fun k => ∃ j : Nat, j ≤ m ∧ k = .int .i64 j) (fun k => m - (intOf k).toNat)
  case atStart => exact ⟨0, by omega, rfl⟩
  case round =>
    obtain ⟨j, hj, rfl⟩ := hrel
    by_cases hlt : j < m
    · have h1 : (j : Int) < i := by omega
      have h2 : j < n := by omega
      clear hmi hmt hti hm
      go_wp2
      go_round
      case rel => exact ⟨j + 1, by omega, by go_num⟩
      case measure => simp [intOf]; omega
    · obtain rfl : j = m := by omega
      by_cases hcap : c = j
      · by_cases h1 : (j : Int) < i
        all_goals
          clear hmi
          have HM := Lib.hid hm
          have HT := Lib.hid hmt
          have HI := Lib.hid hti
          clear hm hmt hti
          go_wp2
          refine bodyPost_ret (v := .tuple #[.agg #[.slice A (n - j) 0, .int .i64 M], .slice A j j]) (by simp [results, Try.results13, go_sem]) rfl ?_
          have hB : Below w.heap.size w ((w.alloc (Obj.cells #[.slice A (n - j) 0, .int .i64 M] 29)).alloc (Obj.cells #[.slice A (n - j) 0, .int .i64 M] 29)) := ((Below.refl _ _).alloc (Nat.le_refl _) _).alloc (by simp) _
          obtain ⟨e1, e2⟩ := take_min xs t n j h.len_ HM.out
          have hl := h.len_
          refine ⟨A, 0, j, rfl, HM.out.symm, ⟨by rw [e2, List.length_drop]; omega, fun h0 => absurd h0 (by omega)⟩, ?_, by omega, by omega, fun x hx => ⟨x, hx, rfl⟩, hB⟩
          rw [e1]
          exact (h.below hB).take j hmn
      · by_cases h1 : (j : Int) < i
        all_goals
          clear hmi
          have HM := Lib.hid hm
          have HT := Lib.hid hmt
          have HI := Lib.hid hti
          clear hm hmt hti
          go_wp2
          all_goals try (exfalso; have e1 := HT.out; have e2 := HI.out; omega)
          refine bodyPost_ret (v := .tuple #[.agg #[.slice (A.map (·.add j)) (n - j) (c - j), .int .i64 M], .slice A j c]) (by simp [results, Try.results13, go_sem]) rfl ?_
          have hB : Below w.heap.size w ((w.alloc (Obj.cells #[.slice (A.map (·.add j)) (n - j) (c - j), .int .i64 M] 29)).alloc (Obj.cells #[.slice (A.map (·.add j)) (n - j) (c - j), .int .i64 M] 29)) := ((Below.refl _ _).alloc (Nat.le_refl _) _).alloc (by simp) _
          obtain ⟨e1, e2⟩ := take_min xs t n j h.len_ HM.out
          refine ⟨A.map (·.add j), c - j, j, rfl, HM.out.symm, ?_, ?_, by omega, by omega, (fun x hx => ?_), hB⟩
          · rw [e2]
            exact (h.below hB).drop j hmn
          · rw [e1]
            exact (h.below hB).take j hmn
          · obtain ⟨y, hy, rfl⟩ := Option.map_eq_some_iff.1 hx
            exact ⟨y, hy, block_add _ _⟩
end Go.Proofs.Yteiakpepdnhigaa.RInt
