/- What a counter's calls answer and do: the laws and the layers above need these statements alone. -/
import Derived.Test.YtpmjgomfjfhfkaaFibMath
import Derived.Test.YtpmjgomfjfhfkaaArgsJ
import Derived.ProofKit
import Derived.Handy
set_option linter.unusedVariables false
namespace Go.Proofs.Ytpmjgomfjfhfkaa.Fib
open Go.RowKit RI64
/-- Cnt w b S H h: the counter in block b, of that height, lies in the blocks S and has had the values h (the last one first). -/
structure FibKit (Cnt : World → Nat → List Nat → Int → List Int → Prop) : Prop where
  lt : ∀ {w b S H h}, Cnt w b S H h → b ∈ S ∧ ∀ k ∈ S, k < w.heap.size
  kept : ∀ {w w' b S H h T}, Cnt w b S H h → Kept T w w' → (∀ k ∈ S, k ∉ T) → Cnt w' b S H h
  new_no : ∀ (w : World) (H : Int), H < 1 ∨ 142847 < H → Calls Try.prog 20 #[.int .i64 H] w fun e w' => e = .returned (.tuple #[.pointer none, .int .i64 1]) ∧ Below w.heap.size w w'
  new_yes : ∀ (w : World) (H : Int), 1 ≤ H ∧ H ≤ 142847 → Calls Try.prog 20 #[.int .i64 H] w fun e w' => ∃ b S, e = .returned (.tuple #[.pointer (some ⟨b, 0, none⟩), .int .i64 0]) ∧ Cnt w' b S H [] ∧ (∀ k ∈ S, w.heap.size ≤ k) ∧ Below w.heap.size w w'
  push_any : ∀ (w : World) (b : Nat) (S : List Nat) (H : Int) (h : List Int) (A : Option Addr) (n c : Nat) (ys : List Int), Cnt w b S H h → Vals w A n ys → n ≤ 100000 → (∀ x, 0 < n → A = some x → x.block ∉ S) →
    Calls Try.prog 47 #[.pointer (some ⟨b, 0, none⟩), .slice A n c] w fun e w' => e = .returned (.int .i64 (countT H (ys.reverse ++ h))) ∧ Cnt w' b S H (ys.reverse ++ h) ∧ Kept S w w'
  count_any : ∀ (w : World) (b : Nat) (S : List Nat) (H : Int) (h : List Int), Cnt w b S H h → Calls Try.prog 49 #[.pointer (some ⟨b, 0, none⟩)] w fun e w' => e = .returned (.int .i64 (countT H h)) ∧ Below w.heap.size w w'
  reset_any : ∀ (w : World) (b : Nat) (S : List Nat) (H : Int) (h : List Int), Cnt w b S H h → Calls Try.prog 43 #[.pointer (some ⟨b, 0, none⟩)] w fun e w' => e = .returned (.tuple #[]) ∧ Cnt w' b S H [] ∧ Kept S w w'
  no_push : ∀ (w : World) (A : Option Addr) (n c : Nat), Calls Try.prog 47 #[.pointer none, .slice A n c] w fun e w' => e = .returned (.int .i64 0) ∧ Below w.heap.size w w'
  no_count : ∀ w : World, Calls Try.prog 49 #[.pointer none] w fun e w' => e = .returned (.int .i64 0) ∧ Below w.heap.size w w'
  no_reset : ∀ w : World, Calls Try.prog 43 #[.pointer none] w fun e w' => e = .returned (.tuple #[]) ∧ Below w.heap.size w w'
section
variable {Cnt : World → Nat → List Nat → Int → List Int → Prop} (K : FibKit Cnt) {w w' : World} {b : Nat} {S : List Nat} {H : Int} {h : List Int}
include K
theorem FibKit.below (hP : Cnt w b S H h) (hB : Below w.heap.size w w') : Cnt w' b S H h := K.kept hP (Kept.of_below (S := []) hB) (fun _ _ h => by cases h)
theorem FibKit.alloc (hP : Cnt w b S H h) (o : Obj) : Cnt (w.alloc o) b S H h := K.below hP ((Below.refl _ w).alloc (Nat.le_refl _) o)
/-- One value, in memory that was just made for it. -/
theorem FibKit.push_one (w : World) (t : TypeId) (v : Int) (hP : Cnt w b S H h) (hlt : ∀ k ∈ S, k < w.heap.size) (c : Nat) :
    Calls Try.prog 47 #[.pointer (some ⟨b, 0, none⟩), .slice (some ⟨w.heap.size, 0, none⟩) 1 c] (w.alloc (.cells #[.int .i64 v] t)) fun e w' => e = .returned (.int .i64 (countT H (v :: h))) ∧ Cnt w' b S H (v :: h) ∧ Kept S w w' :=
  (K.push_any _ b S H h _ 1 c [v] (K.alloc hP _) (Vals.has (ys := [v]) (tl := []) (Has.new w _ _)) (by omega) (fun x _ hx => by injection hx with hx; subst hx; intro hk; exact Nat.lt_irrefl _ (hlt _ hk))).mono fun e w' ⟨h1, h2, h3⟩ =>
    ⟨h1, h2, ((Kept.refl S w).alloc _).trans h3⟩
end
end Go.Proofs.Ytpmjgomfjfhfkaa.Fib
