/- What a queue's calls answer and do: the laws and the layers above need these statements alone. -/
import Derived.Test.YtmefdgmbpihdfaaDoorChecked
import Derived.Test.YtmefdgmbpihdfaaDoorOrderMath
import Derived.Test.YtmefdgmbpihdfaaDoorShape
import Derived.Test.YtmefdgmbpihdfaaDoorKept
import Derived.Test.YtmefdgmbpihdfaaDoorOwnMore
import Derived.ProofKit
import Derived.Handy
import Derived.Deep.QuietTactic
import Derived.BigQuiet
import Derived.Laws.StructEq
import Derived.Lib.Hide
set_option linter.unusedSimpArgs false
set_option linter.unusedVariables false
namespace Go.Proofs.YtmefdgmbpihdfaaDoor.Order
open Go.RowKit
open Alarm (Or orS noOr or_cells)
/-- What is taken out: a row of its own; the queue stands so; nothing else has turned. -/
def GotIs (Que : World → Nat → St → Prop) (w : World) (b : Nat) (r : St × List Or) (e : Ending) (w' : World) : Prop :=
  ∃ V, e = .returned V ∧ w'.ownsRow w.heap.size 23 3 V r.2.length (Row.flat orS r.2) ∧ Que w' b r.1 ∧ Kept [b] w w'
/-- Que w b s: the queue in block b stands as s. -/
structure QueKit (Que : World → Nat → St → Prop) : Prop where
  lt : ∀ {w b s}, Que w b s → b < w.heap.size
  ok : ∀ {w b s}, Que w b s → Ok s
  kept : ∀ {w w' b s T}, Que w b s → Kept T w w' → b ∉ T → Que w' b s
  new_any : ∀ (w : World), Calls Tryd.prog 15 #[] w fun e w' => ∃ b, e = .returned (.pointer (some ⟨b, 0, none⟩)) ∧ Que w' b st0 ∧ w.heap.size ≤ b ∧ Below w.heap.size w w'
  put_any : ∀ (w : World) (b : Nat) (s : St) (A : Option Addr) (n c : Nat) (os : List Or), Que w b s → Row.Vals orS w A n os → n ≤ 10000 → (0 < n → ∀ x, A = some x → x.block ≠ b) →
    Calls Tryd.prog 17 #[.pointer (some ⟨b, 0, none⟩), .slice A n c] w fun e w' => e = .returned (.tuple #[.int .i64 ((putsT s os).2.1 : Nat), .int .i64 (putsT s os).2.2]) ∧ Que w' b (putsT s os).1 ∧ Kept [b] w w'
  due_any : ∀ (w : World) (b : Nat) (s : St) (a : Int), Que w b s → Calls Tryd.prog 20 #[.pointer (some ⟨b, 0, none⟩), .int .i64 a] w (GotIs Que w b (dueT s a))
  len_any : ∀ (w : World) (b : Nat) (s : St), Que w b s → Calls Tryd.prog 22 #[.pointer (some ⟨b, 0, none⟩)] w fun e w' => e = .returned (.int .i64 (s.l.length : Nat)) ∧ w' = w
  from_any : ∀ (w : World) (b : Nat) (s : St), Que w b s → Calls Tryd.prog 23 #[.pointer (some ⟨b, 0, none⟩)] w fun e w' => e = .returned (.int .i64 s.frm) ∧ w' = w
  clone_any : ∀ (w : World) (b : Nat) (s : St), Que w b s → Calls Tryd.prog 21 #[.pointer (some ⟨b, 0, none⟩)] w fun e w' => ∃ c, e = .returned (.pointer (some ⟨c, 0, none⟩)) ∧ Que w' c s ∧ w.heap.size ≤ c ∧ Below w.heap.size w w'
  no_put : ∀ (w : World) (A : Option Addr) (n c : Nat), Calls Tryd.prog 17 #[.pointer none, .slice A n c] w fun e w' => e = .returned (.tuple #[.int .i64 0, .int .i64 2]) ∧ w' = w
  no_due : ∀ (w : World) (a : Int), Calls Tryd.prog 20 #[.pointer none, .int .i64 a] w fun e w' => e = .returned (.slice none 0 0) ∧ w' = w
  no_len : ∀ (w : World), Calls Tryd.prog 22 #[.pointer none] w fun e w' => e = .returned (.int .i64 0) ∧ w' = w
  no_from : ∀ (w : World), Calls Tryd.prog 23 #[.pointer none] w fun e w' => e = .returned (.int .i64 0) ∧ w' = w
  no_clone : ∀ (w : World), Calls Tryd.prog 21 #[.pointer none] w fun e w' => e = .returned (.pointer none) ∧ w' = w
section
variable {Que : World → Nat → St → Prop} (K : QueKit Que) {w w' W W' : World} {b : Nat} {s s' : St}
include K
theorem QueKit.below (hP : Que w b s) (hB : Below w.heap.size w w') : Que w' b s := K.kept hP (Kept.of_below (S := []) hB) (by simp)
theorem QueKit.alloc (hP : Que w b s) (o : Obj) : Que (w.alloc o) b s := K.below hP ((Below.refl _ w).alloc (Nat.le_refl _) o)
omit K in
theorem or_new (W : World) (t : TypeId) (m : Or) : Row.Vals orS (W.alloc (.cells #[.int .i64 m.1, .int .i64 m.2.1, .int .i64 m.2.2] t)) (some ⟨W.heap.size, 0, none⟩) 1 [m] :=
  Row.Vals.has (S := orS) (ys := [m]) (tl := []) (Has.new _ _ _)
end
/-- A queue that was made since w, and stands so. -/
structure Mr (Que : World → Nat → St → Prop) (w : World) (b : Nat) (s : St) (W : World) : Prop where
  que : Que W b s
  below : Below w.heap.size w W
  far : w.heap.size ≤ b
section
variable {Que : World → Nat → St → Prop} (K : QueKit Que) {w w' W W' : World} {b : Nat} {s s' : St}
include K
theorem Mr.later (h : Mr Que w b s W) (hB : Below W.heap.size W W') : Mr Que w b s W' := ⟨K.below h.que hB, h.below.trans (hB.mono h.below.size), h.far⟩
theorem Mr.alloc (h : Mr Que w b s W) (o : Obj) : Mr Que w b s (W.alloc o) := h.later K ((Below.refl _ W).alloc (Nat.le_refl _) o)
omit K in
theorem Mr.kept (h : Mr Que w b s W) (hq : Que W' b s') (hK : Kept [b] W W') : Mr Que w b s' W' := ⟨hq, below_kept h.below hK h.below.size (fun x hx => by simp at hx; subst hx; exact h.far), h.far⟩
/-- Another one, beside it. -/
theorem Mr.beside (h : Mr Que w b s W) {c : Nat} (hK : Kept [c] W W') (hc : w.heap.size ≤ c) (hne : b ≠ c) : Mr Que w b s W' :=
  ⟨K.kept h.que hK (by simp; exact hne), below_kept h.below hK h.below.size (fun x hx => by simp at hx; subst hx; exact hc), h.far⟩
/-- Put of one, a value in memory just made for it. -/
theorem Mr.put_one (h : Mr Que w b s W) (m : Or) (c : Nat) :
    Calls Tryd.prog 17 #[.pointer (some ⟨b, 0, none⟩), .slice (some ⟨W.heap.size, 0, none⟩) 1 c] (W.alloc (.cells #[.int .i64 m.1, .int .i64 m.2.1, .int .i64 m.2.2] 23)) fun e w' =>
      e = .returned (.tuple #[.int .i64 (if (putT s m).2 = 0 then 1 else 0), .int .i64 (putT s m).2]) ∧ Mr Que w b (putT s m).1 w' ∧ Kept [b] W w' := by
  have hA := h.alloc K (.cells #[.int .i64 m.1, .int .i64 m.2.1, .int .i64 m.2.2] 23)
  refine (K.put_any _ b s _ 1 c [m] hA.que (or_new W 23 m) (by omega) (fun _ x hx => by injection hx with hx; subst hx; exact Ne.symm (Nat.ne_of_lt (K.lt h.que)))).mono ?_
  rintro e w' ⟨rfl, hq, hK⟩
  have e1 : putsT s [m] = ((putT s m).1, (if (putT s m).2 = 0 then 1 else 0), (putT s m).2) := by
    simp only [putsT]
    split
    · rename_i h0; rw [h0]
    · rfl
  rw [e1] at hq ⊢
  dsimp only at hq ⊢
  refine ⟨?_, hA.kept hq hK, ((Kept.refl [b] W).alloc _).trans hK⟩
  split <;> rfl
theorem Mr.due (h : Mr Que w b s W) (a : Int) :
    Calls Tryd.prog 20 #[.pointer (some ⟨b, 0, none⟩), .int .i64 a] W fun e w' => ∃ A c, e = .returned (.slice A (dueT s a).2.length c) ∧ Row.Vals orS w' A (dueT s a).2.length (dueT s a).2 ∧ (dueT s a).2.length ≤ c ∧ c ≤ 9223372036854775807 ∧ (∀ x, A = some x → W.heap.size ≤ x.block ∧ x.block < w'.heap.size) ∧ Mr Que w b (dueT s a).1 w' ∧ Kept [b] W w' := by
  refine (K.due_any W b s a h.que).mono ?_
  rintro e w' ⟨V, rfl, hO, hq, hK⟩
  obtain ⟨A, c, rfl, h1, h2, h3, h4, h5⟩ := Row.Vals.own hO
  exact ⟨A, c, rfl, h3, h1, h2, h4, h.kept hq hK, hK⟩
end
end Go.Proofs.YtmefdgmbpihdfaaDoor.Order
