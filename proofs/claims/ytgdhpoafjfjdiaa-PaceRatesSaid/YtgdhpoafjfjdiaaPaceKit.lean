/- What a pace's calls answer and do: the laws and the layers above need these statements alone. -/
import Derived.Test.YtgdhpoafjfjdiaaPaceMath
import Derived.Test.YtgdhpoafjfjdiaaArgsJ
import Derived.ProofKit
import Derived.Handy
set_option linter.unusedVariables false
namespace Go.Proofs.Ytgdhpoafjfjdiaa.Pace
open Go.RowKit RI64
/-- Pac w b S h: the pace in block b lies in the blocks S and has had the distances h (the last one first). -/
structure PaceKit (Pac : World → Nat → List Nat → List Int → Prop) : Prop where
  lt : ∀ {w b S h}, Pac w b S h → b ∈ S ∧ ∀ k ∈ S, k < w.heap.size
  kept : ∀ {w w' b S h T}, Pac w b S h → Kept T w w' → (∀ k ∈ S, k ∉ T) → Pac w' b S h
  new_any : ∀ w : World, Calls Try.prog 7 #[] w fun e w' => ∃ b S, e = .returned (.pointer (some ⟨b, 0, none⟩)) ∧ Pac w' b S [] ∧ (∀ k ∈ S, w.heap.size ≤ k) ∧ Below w.heap.size w w'
  add_any : ∀ (w : World) (b : Nat) (S : List Nat) (h : List Int) (A : Option Addr) (n c : Nat) (ys : List Int), Pac w b S h → Vals w A n ys → n ≤ 100000 → (∀ x, 0 < n → A = some x → x.block ∉ S) →
    Calls Try.prog 12 #[.pointer (some ⟨b, 0, none⟩), .slice A n c] w fun e w' => e = .returned (.tuple #[]) ∧ Pac w' b S (ys.reverse ++ h) ∧ Kept S w w'
  mean_any : ∀ (w : World) (b : Nat) (S : List Nat) (h : List Int), Pac w b S h → Calls Try.prog 9 #[.pointer (some ⟨b, 0, none⟩)] w fun e w' => e = .returned (.int .i64 (meanT h)) ∧ Below w.heap.size w w'
  many_any : ∀ (w : World) (b : Nat) (S : List Nat) (h : List Int), Pac w b S h → Calls Try.prog 10 #[.pointer (some ⟨b, 0, none⟩)] w fun e w' => e = .returned (.int .i64 (many h : Nat)) ∧ Below w.heap.size w w'
  late_any : ∀ (w : World) (b : Nat) (S : List Nat) (h : List Int) (s : Int), Pac w b S h → Calls Try.prog 11 #[.pointer (some ⟨b, 0, none⟩), .int .i64 s] w fun e w' => e = .returned (.bool (lateT h s)) ∧ Below w.heap.size w w'
  reset_any : ∀ (w : World) (b : Nat) (S : List Nat) (h : List Int), Pac w b S h → Calls Try.prog 8 #[.pointer (some ⟨b, 0, none⟩)] w fun e w' => e = .returned (.tuple #[]) ∧ Pac w' b S [] ∧ Kept S w w'
  rate_any : ∀ (w : World) (rr : Int), fits64 rr → Calls Try.prog 16 #[.int .i64 rr] w fun e w' => e = .returned (.int .i64 (rateT rr)) ∧ Below w.heap.size w w'
  no_add : ∀ (w : World) (A : Option Addr) (n c : Nat), Calls Try.prog 12 #[.pointer none, .slice A n c] w fun e w' => e = .returned (.tuple #[]) ∧ Below w.heap.size w w'
  no_mean : ∀ w : World, Calls Try.prog 9 #[.pointer none] w fun e w' => e = .returned (.int .i64 0) ∧ Below w.heap.size w w'
  no_many : ∀ w : World, Calls Try.prog 10 #[.pointer none] w fun e w' => e = .returned (.int .i64 0) ∧ Below w.heap.size w w'
  no_late : ∀ (w : World) (s : Int), Calls Try.prog 11 #[.pointer none, .int .i64 s] w fun e w' => e = .returned (.bool false) ∧ Below w.heap.size w w'
  no_reset : ∀ w : World, Calls Try.prog 8 #[.pointer none] w fun e w' => e = .returned (.tuple #[]) ∧ Below w.heap.size w w'
section
variable {Pac : World → Nat → List Nat → List Int → Prop} (K : PaceKit Pac) {w w' : World} {b : Nat} {S : List Nat} {h : List Int}
include K
theorem PaceKit.below (hP : Pac w b S h) (hB : Below w.heap.size w w') : Pac w' b S h := K.kept hP (Kept.of_below (S := []) hB) (fun _ _ h => by cases h)
theorem PaceKit.alloc (hP : Pac w b S h) (o : Obj) : Pac (w.alloc o) b S h := K.below hP ((Below.refl _ w).alloc (Nat.le_refl _) o)
end
end Go.Proofs.Ytgdhpoafjfjdiaa.Pace
