/- The reference's Same of two lists that are the same; a Take, whatever its number. -/
import Derived.Test.YteiakpepdnhigaaRingTakeI
import Derived.ProofKit
set_option linter.unusedSimpArgs false
set_option linter.unusedVariables false
namespace Go.Proofs.Yteiakpepdnhigaa.RInt
open Go.RowKit

set_option maxHeartbeats 1000000 in
theorem same_yes (A A' : Option Addr) (n c c' : Nat) (xs : List Int) (w : World) (h : Vals w A n xs) (h' : Vals w A' n xs) (hn : n ≤ 9223372036854775807) :
    Calls Try.prog 14 #[.slice A n c, .slice A' n c'] w fun e w' => e = .returned (.bool true) ∧ ∃ k, w' = w.drewN k := by
  go_enter Try.func14, Try.ntmps14
  go_wp2
  go_loopw [5] (fun i wr => (∃ k, k ≤ n ∧ i = .int .i64 (k : Nat)) ∧ ∃ d, wr = w.drewN d) (fun i _ => n - (intOf i).toNat)
  case atStart => exact ⟨⟨0, by omega, rfl⟩, 0, rfl⟩
  case round =>
    obtain ⟨⟨k, hk, rfl⟩, d, rfl⟩ := hrel
    by_cases hlt : k < n
    · obtain ⟨x, rfl, hx⟩ := h.cells (by omega)
      obtain ⟨y, rfl, hy⟩ := h'.cells (by omega)
      have hcx := hx k hlt
      have hcy := hy k hlt
      generalize xs.getD k 0 = v at *
      clear hx hy h h'
      go_wp2
      go_quiet (fail)
      go_wp2
      go_roundw
      case rel => exact ⟨⟨k + 1, by omega, by go_num⟩, _, rfl⟩
      case measure => simp [intOf]; omega
    · go_wp2
      go_ret
      exact ⟨rfl, _, rfl⟩

/-- What a Take has taken, and what is left. -/
def TookAny (w : World) (b g n q : Nat) (xs : List Int) (t : Nat) (e : Ending) (w' : World) : Prop :=
  ∃ A m, e = .returned (.slice A m m) ∧ Vals w' A m (xs.take t) ∧ (∀ x, A = some x → w.heap.size ≤ x.block ∧ x.block < w'.heap.size) ∧ m ≤ n ∧ ∃ f' cs', Ring w' b g n q f' cs' (xs.drop t) ∧ Turned b g w w'
theorem take_any (b g n q f : Nat) (cs xs : List Int) (i : Int) (t : Nat) (w : World) (h : Ring w b g n q f cs xs) (ht : i.toNat = t) :
    Calls Try.prog 15 #[.pointer (some ⟨b, 0, none⟩), .int .i64 i] w (TookAny w b g n q xs t) := by
  have hr := h.core.room
  by_cases h0 : i < 1 ∨ xs.length = 0
  · refine (take_no b xs.length i w h.core.cells.2.2 h0).mono ?_
    rintro e w' ⟨rfl, rfl⟩
    have hx : xs.take t = [] ∧ xs.drop t = xs := by
      rcases h0 with h0 | h0
      · obtain rfl : t = 0 := by omega
        exact ⟨rfl, rfl⟩
      · obtain rfl := List.eq_nil_of_length_eq_zero h0
        exact ⟨by simp, by simp⟩
    refine ⟨none, 0, rfl, ?_, (fun x hx => by cases hx), by omega, f, cs, ?_, Turned.refl _ _ _⟩
    · rw [hx.1]; exact Vals.none_ _
    · rw [hx.2]; exact h
  · have two : ∃ m : Nat, 1 ≤ m ∧ (((m : Int) = i ∧ m ≤ xs.length) ∨ ((xs.length : Int) < i ∧ m = xs.length)) := by
      by_cases h1 : i ≤ (xs.length : Int)
      · exact ⟨i.toNat, by omega, .inl ⟨by omega, by omega⟩⟩
      · exact ⟨xs.length, by omega, .inr ⟨by omega, rfl⟩⟩
    obtain ⟨m, hm, two⟩ := two
    refine (take_yes b g n q f cs xs i m w h hm two).mono ?_
    rintro e w' ⟨rfl, ⟨cs', hR, hT⟩, hH⟩
    have hx : xs.take m = xs.take t ∧ xs.drop m = xs.drop t := by
      rcases two with ⟨h1, h2⟩ | ⟨h1, h2⟩
      · obtain rfl : m = t := by omega
        exact ⟨rfl, rfl⟩
      · rw [List.take_of_length_le (by omega), List.take_of_length_le (by omega), List.drop_of_length_le (by omega), List.drop_of_length_le (by omega)]
        exact ⟨rfl, rfl⟩
    have hml : (xs.take m).length = m := by rw [List.length_take]; omega
    have hV := Vals.has (ys := xs.take m) (tl := []) (by rw [List.append_nil]; exact hH)
    rw [hml] at hV
    refine ⟨_, m, rfl, ?_, (fun x hx => by cases hx; exact ⟨Nat.le_refl _, hH.lt⟩), by omega, (f + m) % n, cs', ?_, hT⟩
    · rw [← hx.1]; exact hV
    · rw [← hx.2]; exact hR
end Go.Proofs.Yteiakpepdnhigaa.RInt
