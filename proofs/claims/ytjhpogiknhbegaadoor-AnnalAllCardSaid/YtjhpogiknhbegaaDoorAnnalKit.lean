/- What an annal's calls answer and do: the laws and the layers above need these statements alone. -/
import Derived.Test.YtjhpogiknhbegaaDoorChecked
import Derived.Test.YtjhpogiknhbegaaDoorAnnalMath
import Derived.Test.YtjhpogiknhbegaaDoorShape
import Derived.Test.YtjhpogiknhbegaaDoorKept
import Derived.Test.YtjhpogiknhbegaaDoorOwnMore
import Derived.ProofKit
import Derived.Handy
import Derived.Deep.QuietTactic
import Derived.BigQuiet
import Derived.Lib.Hide
set_option linter.unusedSimpArgs false
set_option linter.unusedVariables false
namespace Go.Proofs.YtjhpogiknhbegaaDoor.Annal
open Go.RowKit
open Alarm (Ot otS noOt ot_cells)
/-- The i-th one that is kept, and whether there is one. -/
def atA (l : List Ot) (i : Int) : Ot := if 0 ≤ i ∧ i < ((keptA l).length : Int) then (keptA l).getD i.toNat noOt else noOt
def isA (l : List Ot) (i : Int) : Bool := decide (0 ≤ i ∧ i < ((keptA l).length : Int))
/-- What New reads of the library's table. -/
def Tab (w : World) : Prop := w.cell? ⟨1, 63, none⟩ = some (.int .u8 6)
theorem Tab.below {w w' : World} (h : Tab w) (hB : Below w.heap.size w w') : Tab w' := (hB.cell (p := ⟨1, 63, none⟩) (World.block_lt_of_cell? _ _ h)).trans h
/-- Ann w b S all: the annal in block b lies in the blocks S, and all were added. -/
structure AnnalKit (Ann : World → Nat → List Nat → List Ot → Prop) : Prop where
  lt : ∀ {w b S all}, Ann w b S all → b ∈ S ∧ ∀ k ∈ S, k < w.heap.size
  kept : ∀ {w w' b S all T}, Ann w b S all → Kept T w w' → (∀ k ∈ S, k ∉ T) → Ann w' b S all
  new_any : ∀ (w : World), Tab w → Calls Tryd.prog 5 #[] w fun e w' => ∃ b S, e = .returned (.pointer (some ⟨b, 0, none⟩)) ∧ Ann w' b S [] ∧ (∀ k ∈ S, w.heap.size ≤ k) ∧ Below w.heap.size w w'
  add_any : ∀ (w : World) (b : Nat) (S : List Nat) (all : List Ot) (A : Option Addr) (n c : Nat) (os : List Ot), Ann w b S all → Row.Vals otS w A n os → n ≤ c → c ≤ 9223372036854775807 → all.length + n ≤ 1000000 → (0 < n → ∀ x, A = some x → x.block ∉ S) →
    Calls Tryd.prog 6 #[.pointer (some ⟨b, 0, none⟩), .slice A n c] w fun e w' => e = .returned (.tuple #[]) ∧ Ann w' b S (all ++ os) ∧ Kept S w w'
  len_any : ∀ (w : World) (b : Nat) (S : List Nat) (all : List Ot), Ann w b S all → Calls Tryd.prog 10 #[.pointer (some ⟨b, 0, none⟩)] w fun e w' => e = .returned (.int .i64 ((keptA all).length : Nat)) ∧ ∃ z, w' = w.drewN z
  at_any : ∀ (w : World) (b : Nat) (S : List Nat) (all : List Ot) (i : Int), Ann w b S all → Calls Tryd.prog 9 #[.pointer (some ⟨b, 0, none⟩), .int .i64 i] w fun e w' => e = .returned (.tuple #[.agg #[.int .i64 (atA all i).1, .int .i64 (atA all i).2.1, .int .i64 (atA all i).2.2.1, .int .i64 (atA all i).2.2.2], .bool (isA all i)]) ∧ Below w.heap.size w w'
  last_any : ∀ (w : World) (b : Nat) (S : List Nat) (all : List Ot) (n : Int), Ann w b S all → -9223372036854775808 ≤ n ∧ n ≤ 9223372036854775807 → Calls Tryd.prog 13 #[.pointer (some ⟨b, 0, none⟩), .int .i64 n] w fun e w' => ∃ A c, e = .returned (.slice A (lastA all n).length c) ∧ Row.Vals otS w' A (lastA all n).length (lastA all n) ∧ (∀ x, A = some x → w.heap.size ≤ x.block ∧ x.block < w'.heap.size) ∧ Below w.heap.size w w'
  dropped_any : ∀ (w : World) (b : Nat) (S : List Nat) (all : List Ot), Ann w b S all → Calls Tryd.prog 11 #[.pointer (some ⟨b, 0, none⟩)] w fun e w' => e = .returned (.int .i64 ((all.length - (keptA all).length : Nat))) ∧ ∃ z, w' = w.drewN z
  count_any : ∀ (w : World) (b : Nat) (S : List Nat) (all : List Ot) (k : Int), Ann w b S all → Calls Tryd.prog 15 #[.pointer (some ⟨b, 0, none⟩), .int .i64 k] w fun e w' => e = .returned (.int .i64 (countA all k : Nat)) ∧ ∃ z, w' = w.drewN z
  clone_any : ∀ (w : World) (b : Nat) (S : List Nat) (all : List Ot), Ann w b S all → Calls Tryd.prog 7 #[.pointer (some ⟨b, 0, none⟩)] w fun e w' => ∃ c S', e = .returned (.pointer (some ⟨c, 0, none⟩)) ∧ Ann w' c S' all ∧ (∀ k ∈ S', w.heap.size ≤ k) ∧ Below w.heap.size w w'
theorem ot_new (W : World) (t : TypeId) (m : Ot) : Row.Vals otS (W.alloc (.cells #[.int .i64 m.1, .int .i64 m.2.1, .int .i64 m.2.2.1, .int .i64 m.2.2.2] t)) (some ⟨W.heap.size, 0, none⟩) 1 [m] :=
  Row.Vals.has (S := otS) (ys := [m]) (tl := []) (Has.new _ _ _)
/-- An annal that was made since w, and has had all. -/
structure Ma (Ann : World → Nat → List Nat → List Ot → Prop) (w : World) (b : Nat) (S : List Nat) (all : List Ot) (W : World) : Prop where
  ann : Ann W b S all
  below : Below w.heap.size w W
  far : ∀ k ∈ S, w.heap.size ≤ k
section
variable {Ann : World → Nat → List Nat → List Ot → Prop} (K : AnnalKit Ann) {w w' W W' : World} {b : Nat} {S T : List Nat} {all all' : List Ot}
include K
theorem AnnalKit.below (h : Ann w b S all) (hB : Below w.heap.size w w') : Ann w' b S all := K.kept h (Kept.of_below (S := []) hB) (fun _ _ => by simp)
theorem Ma.later (h : Ma Ann w b S all W) (hB : Below W.heap.size W W') : Ma Ann w b S all W' := ⟨K.below h.ann hB, h.below.trans (hB.mono h.below.size), h.far⟩
theorem Ma.alloc (h : Ma Ann w b S all W) (o : Obj) : Ma Ann w b S all (W.alloc o) := h.later K ((Below.refl _ W).alloc (Nat.le_refl _) o)
omit K in
theorem Ma.kept (h : Ma Ann w b S all W) (hA : Ann W' b S all') (hK : Kept S W W') : Ma Ann w b S all' W' := ⟨hA, below_kept h.below hK h.below.size h.far, h.far⟩
/-- Another one, beside it, has turned. -/
theorem Ma.beside (h : Ma Ann w b S all W) (hK : Kept T W W') (hT : ∀ k ∈ T, w.heap.size ≤ k) (hne : ∀ k ∈ S, k ∉ T) : Ma Ann w b S all W' :=
  ⟨K.kept h.ann hK hne, below_kept h.below hK h.below.size hT, h.far⟩
/-- Add of one, a value in memory just made for it. -/
theorem Ma.add_one (h : Ma Ann w b S all W) (m : Ot) (c : Nat) (hc : 1 ≤ c) (hc2 : c ≤ 9223372036854775807) (hl : all.length + 1 ≤ 1000000) :
    Calls Tryd.prog 6 #[.pointer (some ⟨b, 0, none⟩), .slice (some ⟨W.heap.size, 0, none⟩) 1 c] (W.alloc (.cells #[.int .i64 m.1, .int .i64 m.2.1, .int .i64 m.2.2.1, .int .i64 m.2.2.2] 28)) fun e w' =>
      e = .returned (.tuple #[]) ∧ Ma Ann w b S (all ++ [m]) w' ∧ Kept S W w' := by
  have hA := h.alloc K (.cells #[.int .i64 m.1, .int .i64 m.2.1, .int .i64 m.2.2.1, .int .i64 m.2.2.2] 28)
  refine (K.add_any _ b S all _ 1 c [m] hA.ann (ot_new W 28 m) hc hc2 hl (fun _ x hx hk => by injection hx with hx; subst hx; exact Nat.lt_irrefl _ ((K.lt h.ann).2 _ hk))).mono ?_
  rintro e w' ⟨rfl, hq, hK⟩
  exact ⟨rfl, hA.kept hq hK, ((Kept.refl S W).alloc _).trans hK⟩
end
end Go.Proofs.YtjhpogiknhbegaaDoor.Annal
