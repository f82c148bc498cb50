/- What fixq.Add answers of the numbers of a slice. -/
import Derived.Test.YtpfoonhobeflhaaFixqB
import Derived.Test.YtpfoonhobeflhaaMem
import Derived.Test.YtpfoonhobeflhaaLawKit
import Derived.Laws.Externs
set_option linter.unusedSimpArgs false
set_option linter.unusedVariables false
namespace Go.Proofs.Ytpfoonhobeflhaa
open Go.RowKit

/-- The slice (a, len) reads as the numbers xs, each of them one of 64 bits. -/
structure Ints (w : World) (a : Option Addr) (len : Nat) (xs : List Int) : Prop where
  len_ : xs.length = len
  bound : len ≤ 17592186044416
  wf : ∀ n ∈ xs, fits64 n
  cells : 0 < len → ∃ x, a = some x ∧ ∀ i, i < len → w.cell? (x.add i) = some (.int .i64 (xs.getD i 0))

theorem cell_below {w w' : World} (hb : Below w.heap.size w w') {p : Addr} {v : Value} (h : w.cell? p = some v) : w'.cell? p = some v :=
  (hb.cell (World.block_lt_of_cell? _ _ h)).trans h
theorem Ints.below {w w' : World} {a : Option Addr} {len : Nat} {xs : List Int} (h : Ints w a len xs) (hb : Below w.heap.size w w') : Ints w' a len xs :=
  ⟨h.len_, h.bound, h.wf, fun hl => by
    obtain ⟨x, hx, hc⟩ := h.cells hl
    exact ⟨x, hx, fun i hi => cell_below hb (hc i hi)⟩⟩

theorem row_ints {w : World} {a : Option Addr} {len cap : Nat} {zs : List Int} (h : IsRow .i64 w a len cap zs) (hl : len ≤ 17592186044416) : Ints w a len (zs.take len) := by
  rcases h with ⟨rfl, rfl, rfl, rfl⟩ | ⟨x, rfl, h1, h2, h3, h4, h5⟩
  · exact ⟨rfl, by omega, by simp, fun h => absurd h (by omega)⟩
  · refine ⟨by rw [List.length_take]; omega, hl, fun n hn => bounds_i64 (h5 n (List.mem_of_mem_take hn)), fun _ => ⟨x, rfl, fun i hi => ?_⟩⟩
    rw [h4 i (by omega)]
    simp [List.getD_eq_getElem?_getD, List.getElem?_take, hi]

def highZ (S : Int) : Int := (S / 18446744073709551616) % 18446744073709551616
def carryZ (S n : Int) : Int := (loW S + n % 18446744073709551616) / 18446744073709551616
theorem high_step (S n : Int) (h : fits64 n) : IntKind.u64.wrap (highZ S + IntKind.u64.wrap (signZ n + carryZ S n)) = highZ (S + n) := by
  unfold fits64 at h
  have hS : S = 18446744073709551616 * (S / 18446744073709551616) + S % 18446744073709551616 := by omega
  have hl : 0 ≤ S % 18446744073709551616 ∧ S % 18446744073709551616 < 18446744073709551616 := by omega
  unfold signZ highZ carryZ loW
  rw [u64_wrap, u64_wrap, u64_wrap]
  generalize S / 18446744073709551616 = a at *
  generalize S % 18446744073709551616 = l at *
  subst hS
  by_cases h0 : n < 0
  · have e1 : n / 9223372036854775808 = -1 := by omega
    have e2 : n % 18446744073709551616 = n + 18446744073709551616 := by omega
    rw [e1, e2]
    by_cases hc : l + n < 0
    · have e3 : (l + (n + 18446744073709551616)) / 18446744073709551616 = 0 := by omega
      have e4 : (18446744073709551616 * a + l + n) / 18446744073709551616 = a - 1 := by omega
      rw [e3, e4]; omega
    · have e3 : (l + (n + 18446744073709551616)) / 18446744073709551616 = 1 := by omega
      have e4 : (18446744073709551616 * a + l + n) / 18446744073709551616 = a := by omega
      rw [e3, e4]; omega
  · have e1 : n / 9223372036854775808 = 0 := by omega
    have e2 : n % 18446744073709551616 = n := by omega
    rw [e1, e2]
    by_cases hc : l + n < 18446744073709551616
    · have e3 : (l + n) / 18446744073709551616 = 0 := by omega
      have e4 : (18446744073709551616 * a + l + n) / 18446744073709551616 = a := by omega
      rw [e3, e4]; omega
    · have e3 : (l + n) / 18446744073709551616 = 1 := by omega
      have e4 : (18446744073709551616 * a + l + n) / 18446744073709551616 = a + 1 := by omega
      rw [e3, e4]; omega
theorem high_end (S : Int) (h : wide S) : (highZ S != signZ (wrap64 (loW S))) = decide (¬ fits64 S) := by
  rw [Bool.eq_iff_iff, bne_iff_ne, decide_eq_true_iff]
  unfold wide at h
  have hS : S = 18446744073709551616 * (S / 18446744073709551616) + S % 18446744073709551616 := by omega
  have hl : 0 ≤ S % 18446744073709551616 ∧ S % 18446744073709551616 < 18446744073709551616 := by omega
  unfold signZ highZ wrap64 loW fits64
  rw [u64_wrap]
  generalize S / 18446744073709551616 = a at *
  generalize S % 18446744073709551616 = l at *
  subst hS
  by_cases hc : l < 9223372036854775808
  · have e1 : ((l + 9223372036854775808) % 18446744073709551616 - 9223372036854775808) / 9223372036854775808 = 0 := by omega
    rw [e1]; omega
  · have e1 : ((l + 9223372036854775808) % 18446744073709551616 - 9223372036854775808) / 9223372036854775808 = -1 := by omega
    rw [e1]; omega
theorem low_end (S : Int) (h : fits64 S) : wrap64 (loW S) = S := by unfold fits64 at h; unfold wrap64 loW; omega
theorem sum_step (xs : List Int) (k : Nat) (h : k < xs.length) : (xs.take (k + 1)).sum = (xs.take k).sum + xs.getD k 0 := by
  rw [List.take_succ_eq_append_getElem h, List.sum_append]
  simp [List.getD_eq_getElem?_getD, List.getElem?_eq_getElem h]
theorem sum_bd (xs : List Int) (h : ∀ n ∈ xs, fits64 n) : -9223372036854775808 * xs.length ≤ xs.sum ∧ xs.sum ≤ 9223372036854775808 * xs.length := by
  induction xs with
  | nil => simp
  | cons x r ih =>
    have h1 := h x (by simp)
    have h2 := ih (fun n hn => h n (by simp [hn]))
    unfold fits64 at h1
    simp only [List.sum_cons, List.length_cons]
    omega
theorem sum_wide (xs : List Int) (h : ∀ n ∈ xs, fits64 n) (hl : xs.length ≤ 17592186044416) : wide xs.sum := by
  have := sum_bd xs h
  unfold wide
  omega

def addIs (S : Int) : Ending := if fits64 S then .returned (.tuple #[.int .i64 S, .int .i64 0]) else .returned (.tuple #[.int .i64 0, .int .i64 9])
theorem addIs_yes {S : Int} (h : fits64 S) : addIs S = .returned (.tuple #[.int .i64 S, .int .i64 0]) := if_pos h
theorem addIs_no {S : Int} (h : ¬ fits64 S) : addIs S = .returned (.tuple #[.int .i64 0, .int .i64 9]) := if_neg h
theorem addIs_cases {S : Int} {e : Ending} (h : e = addIs S) : (Hid (fits64 S) ∧ e = .returned (.tuple #[.int .i64 S, .int .i64 0])) ∨ (Hid (¬ fits64 S) ∧ e = .returned (.tuple #[.int .i64 0, .int .i64 9])) := by
  by_cases hf : fits64 S
  · exact .inl ⟨hf, h.trans (addIs_yes hf)⟩
  · exact .inr ⟨hf, h.trans (addIs_no hf)⟩
end Go.Proofs.Ytpfoonhobeflhaa
