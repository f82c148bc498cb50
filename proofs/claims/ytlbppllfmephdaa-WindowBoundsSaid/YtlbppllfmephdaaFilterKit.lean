/- What a filter's calls answer, as the laws of layers 10 to 14 (and 15) use it: each filter's own text gives one of these. -/
import Derived.Test.YtlbppllfmephdaaFilterMath
import Derived.Test.YtlbppllfmephdaaArgsJ
set_option linter.unusedVariables false
namespace Go.Proofs.Ytlbppllfmephdaa
open Go.RowKit RI64
/-- What a slice from p on reads as. -/
theorem vals_dropIf {w : World} {a : Option Addr} {len cap : Nat} {ys : List Int} (h : Vals w a len ys) (p : Nat) (hp : p ≤ len) (hc : len ≤ cap) : Vals w (if cap = p then a else a.map (fun x => x.add p)) (len - p) (ys.drop p) := by
  rcases Decidable.em (cap = p) with h1 | h1
  · rw [if_pos h1]
    exact ⟨by rw [List.length_drop, h.len_], fun h0 => absurd h0 (by omega)⟩
  · rw [if_neg h1]
    exact h.drop p hp
/-- What a Block answers: the answers, in memory of their own; of what was there only the filter's blocks turn. -/
def BlockIs (Fil : World → Nat → List Nat → List Int → Prop) (F : List Int → Int) (w : World) (b : Nat) (S : List Nat) (h ys : List Int) (e : Ending) (w' : World) : Prop :=
  ∃ B d, e = .returned (.slice B ys.length d) ∧ ys.length ≤ d ∧ d ≤ 9223372036854775807 ∧ Vals w' B ys.length (outsT F h ys) ∧ (∀ x, B = some x → w.heap.size ≤ x.block) ∧ Fil w' b S (ys.reverse ++ h) ∧ Kept S w w'
/-- A filter of this program, by its calls' numbers: what it answers of all that came (the last value first) is F of that. -/
structure FilterKit (push block reset : Nat) (F : List Int → Int) where
  /-- The filter in block b lies in the blocks S; this came (the last value first). -/
  Fil : World → Nat → List Nat → List Int → Prop
  lt : ∀ {w : World} {b : Nat} {S : List Nat} {h : List Int}, Fil w b S h → ∀ k ∈ S, k < w.heap.size
  kept : ∀ {w w' : World} {b : Nat} {S T : List Nat} {h : List Int}, Fil w b S h → Kept T w w' → (∀ k ∈ S, k ∉ T) → Fil w' b S h
  push_any : ∀ (b : Nat) (S : List Nat) (h : List Int) (v : Int) (w : World), Fil w b S h →
    Calls Try.prog push #[.pointer (some ⟨b, 0, none⟩), .int .i64 v] w fun e w' => e = .returned (.int .i64 (F (v :: h))) ∧ Fil w' b S (v :: h) ∧ Kept S w w'
  block_any : ∀ (b : Nat) (S : List Nat) (h : List Int) (A : Option Addr) (n c : Nat) (ys : List Int) (w : World), Fil w b S h → Vals w A n ys → n ≤ 100000 → n ≤ c → c ≤ 9223372036854775807 → (0 < n → ∀ x, A = some x → x.block ∉ S) →
    Calls Try.prog block #[.pointer (some ⟨b, 0, none⟩), .slice A n c] w (BlockIs Fil F w b S h ys)
  reset_any : ∀ (b : Nat) (S : List Nat) (h : List Int) (w : World), Fil w b S h → Calls Try.prog reset #[.pointer (some ⟨b, 0, none⟩)] w fun e w' => e = .returned (.tuple #[]) ∧ Fil w' b S [] ∧ Kept S w w'
  no_push : ∀ (v : Int) (w : World), Calls Try.prog push #[.pointer none, .int .i64 v] w fun e w' => e = .returned (.int .i64 0) ∧ w = w'
  no_block : ∀ (A : Option Addr) (n c : Nat) (w : World), Calls Try.prog block #[.pointer none, .slice A n c] w fun e w' => ∃ B d, e = .returned (.slice B 0 d) ∧ Below w.heap.size w w'
  no_reset : ∀ w : World, Calls Try.prog reset #[.pointer none] w fun e w' => e = .returned (.tuple #[]) ∧ w = w'
section
variable {push block reset : Nat} {F : List Int → Int} (K : FilterKit push block reset F) {w w' : World} {b : Nat} {S : List Nat} {h : List Int}
theorem FilterKit.below (hF : K.Fil w b S h) (hB : Below w.heap.size w w') : K.Fil w' b S h := K.kept hF (Kept.of_below (S := []) hB) (fun _ _ h => by cases h)
theorem FilterKit.drewN (hF : K.Fil w b S h) (n : Nat) : K.Fil (w.drewN n) b S h := K.kept hF ((Kept.refl [] w).drewN n) (fun _ _ h => by cases h)
end
/-- What a New of a filter gives: it lies in new blocks, and nothing came to it. -/
def NewIs (Fil : World → Nat → List Nat → List Int → Prop) (w : World) (b : Nat) (S : List Nat) (w' : World) : Prop := Fil w' b S [] ∧ (∀ k ∈ S, w.heap.size ≤ k) ∧ Below w.heap.size w w'
end Go.Proofs.Ytlbppllfmephdaa
