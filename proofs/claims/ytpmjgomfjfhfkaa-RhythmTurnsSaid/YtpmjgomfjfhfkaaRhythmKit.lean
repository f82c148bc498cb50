/- What a rhythm's calls answer and do: the laws and the layers above need these statements alone. Marks and conditions as they lie. -/
import Derived.Test.YtpmjgomfjfhfkaaRows
import Derived.Test.YtpmjgomfjfhfkaaRhythmMath
import Derived.Test.YtpmjgomfjfhfkaaShape
import Derived.Test.YtpmjgomfjfhfkaaKept
import Derived.ProofKit
import Derived.Handy
import Derived.Deep.QuietTactic
import Derived.BigQuiet
import Derived.Laws.StructEq
import Derived.Lib.Hide
set_option linter.unusedSimpArgs false
set_option linter.unusedVariables false
namespace Go.Proofs.Ytpmjgomfjfhfkaa.Rhythm
open Go.RowKit
open Tally (Lim May mayT limV)
/-- A mark's cells, and its value. -/
def mkC (m : Mk) : Array Value := #[.int .i64 m.kind, .int .i64 m.at_, .int .i64 m.h, .int .i64 m.bat, .int .i64 m.seen, .int .i64 m.rr, .bool m.back]
def mkV (m : Mk) : Value := .agg #[.int .i64 m.kind, .int .i64 m.at_, .int .i64 m.h, .int .i64 m.bat, .int .i64 m.seen, .int .i64 m.rr, .bool m.back]
def mkS : Row.Shape Mk := ⟨7, fun m => [.int .i64 m.kind, .int .i64 m.at_, .int .i64 m.h, .int .i64 m.bat, .int .i64 m.seen, .int .i64 m.rr, .bool m.back], fun _ => rfl, by decide, fun p u hu => by
  simp at hu
  rcases hu with rfl | rfl | rfl | rfl | rfl | rfl | rfl <;> rfl⟩
def noMk : Mk := ⟨0, 0, 0, 0, 0, 0, false⟩
/-- A condition's cells. -/
def cdS : Row.Shape Cd := ⟨3, fun c => [.int .i64 c.1, .int .i64 c.2.1, .bool c.2.2], fun _ => rfl, by decide, fun p u hu => by
  simp at hu
  rcases hu with rfl | rfl | rfl <;> rfl⟩
theorem part_at {α : Type} {S : Row.Shape α} {w : World} {x : Addr} {len : Nat} {ys : List α} (h : Row.Vals S w (some x) len ys) (i m : Nat) (hi : i < ys.length) (u : Value) (hu : (S.enc ys[i])[m]? = some u) (h0 : m ≠ 0) :
    w.cell? ⟨(x.add (i * S.k)).block, (x.add (i * S.k)).off + m, none⟩ = some u := by
  have h1 := h.at_ i m hi u hu
  rwa [show x.add (i * S.k + m) = ⟨(x.add (i * S.k)).block, (x.add (i * S.k)).off + m, none⟩ by
    unfold Addr.add
    by_cases h2 : i * S.k = 0 <;> simp [h2, h0, Nat.add_assoc]] at h1
theorem mk_cells {w : World} {x : Addr} {len : Nat} {ys : List Mk} (h : Row.Vals mkS w (some x) len ys) (i : Nat) (hi : i < len) :
    w.cell? (x.add (i * 7)) = some (.int .i64 (ys.getD i noMk).kind) ∧ w.cell? ⟨(x.add (i * 7)).block, (x.add (i * 7)).off + 1, none⟩ = some (.int .i64 (ys.getD i noMk).at_) ∧
    w.cell? ⟨(x.add (i * 7)).block, (x.add (i * 7)).off + 2, none⟩ = some (.int .i64 (ys.getD i noMk).h) ∧ w.cell? ⟨(x.add (i * 7)).block, (x.add (i * 7)).off + 3, none⟩ = some (.int .i64 (ys.getD i noMk).bat) ∧
    w.cell? ⟨(x.add (i * 7)).block, (x.add (i * 7)).off + 4, none⟩ = some (.int .i64 (ys.getD i noMk).seen) ∧ w.cell? ⟨(x.add (i * 7)).block, (x.add (i * 7)).off + 5, none⟩ = some (.int .i64 (ys.getD i noMk).rr) ∧
    w.cell? ⟨(x.add (i * 7)).block, (x.add (i * 7)).off + 6, none⟩ = some (.bool (ys.getD i noMk).back) := by
  have hl := h.len_
  have e : ys.getD i noMk = ys[i]'(by omega) := by rw [List.getD_eq_getElem?_getD, List.getElem?_eq_getElem (by omega)]; rfl
  rw [e]
  exact ⟨by simpa [mkS] using h.at_ i 0 (by omega) _ rfl, part_at h i 1 (by omega) _ rfl (by omega), part_at h i 2 (by omega) _ rfl (by omega), part_at h i 3 (by omega) _ rfl (by omega), part_at h i 4 (by omega) _ rfl (by omega), part_at h i 5 (by omega) _ rfl (by omega), part_at h i 6 (by omega) _ rfl (by omega)⟩
theorem cd_cells {w : World} {x : Addr} {len : Nat} {ys : List Cd} (h : Row.Vals cdS w (some x) len ys) (i : Nat) (hi : i < len) :
    w.cell? (x.add (i * 3)) = some (.int .i64 (ys.getD i noCd).1) ∧ w.cell? ⟨(x.add (i * 3)).block, (x.add (i * 3)).off + 1, none⟩ = some (.int .i64 (ys.getD i noCd).2.1) ∧
    w.cell? ⟨(x.add (i * 3)).block, (x.add (i * 3)).off + 2, none⟩ = some (.bool (ys.getD i noCd).2.2) := by
  have hl := h.len_
  have e : ys.getD i noCd = ys[i]'(by omega) := by rw [List.getD_eq_getElem?_getD, List.getElem?_eq_getElem (by omega)]; rfl
  rw [e]
  exact ⟨by simpa [cdS] using h.at_ i 0 (by omega) _ rfl, part_at h i 1 (by omega) _ rfl (by omega), part_at h i 2 (by omega) _ rfl (by omega)⟩
theorem neq_cd (W : World) (a b a' b' : Int) (d d' : Bool) : (binOp .neq 52 (.agg #[.int .i64 a, .int .i64 b, .bool d]) (.agg #[.int .i64 a', .int .i64 b', .bool d'])).run Try.prog W = .ok (.bool (!decide (a = a' ∧ b = b' ∧ d = d'))) W := by
  have ht : Try.prog.underlying 52 = some (.struct (Try.prog.fieldsOf 52)) := by kernel_rfl
  have hst : Try.prog.stoodInHeld 52 = false := by kernel_rfl
  rw [run_neq_struct, run_equalIn_agg W 9999 52 _ _ ht hst]
  simp only [Program.fieldsOf, Try.underlying52]
  simp [go_sem, Op.eqFields]
  by_cases h1 : a = a' <;> by_cases h2 : b = b' <;> cases d <;> cases d' <;> simp [h1, h2]
theorem guard_neq (W : World) (x y : Operand) (a b a' b' : Int) (d d' : Bool) : (eqGuard .neq 52 x y (.agg #[.int .i64 a, .int .i64 b, .bool d]) (.agg #[.int .i64 a', .int .i64 b', .bool d'])).run Try.prog W = .ok () W := run_eqGuard_agg W _ _ _ _ _ _ (by kernel_rfl)
/-- What a Push answers: what is told, in memory of its own. -/
def PushIs (Rhy : World → Nat → List Nat → Lim → St → Prop) (w : World) (b : Nat) (S : List Nat) (l : Lim) (s : St) (ms : List Mk) (e : Ending) (w' : World) : Prop :=
  ∃ B d, e = .returned (.slice B (toldT l s ms).length d) ∧ (toldT l s ms).length ≤ d ∧ d ≤ 9223372036854775807 ∧ Row.Vals cdS w' B (toldT l s ms).length (toldT l s ms) ∧ (∀ x, B = some x → w.heap.size ≤ x.block) ∧ Rhy w' b S l (runT l s ms) ∧ Kept S w w'
/-- Rhy w b S l s: the rhythm in block b lies in the blocks S, has the limits l and stands as s. -/
structure RhyKit (Rhy : World → Nat → List Nat → Lim → St → Prop) : Prop where
  lt : ∀ {w b S l s}, Rhy w b S l s → b ∈ S ∧ ∀ k ∈ S, k < w.heap.size
  kept : ∀ {w w' b S l s T}, Rhy w b S l s → Kept T w w' → (∀ k ∈ S, k ∉ T) → Rhy w' b S l s
  new_no : ∀ (w : World) (l : Lim), mayT l = false → Calls Try.prog 8 #[limV l] w fun e w' => e = .returned (.tuple #[.pointer none, .int .i64 200]) ∧ Below w.heap.size w w'
  new_yes : ∀ (w : World) (l : Lim), mayT l = true → Calls Try.prog 8 #[limV l] w fun e w' => ∃ b S, e = .returned (.tuple #[.pointer (some ⟨b, 0, none⟩), .int .i64 0]) ∧ Rhy w' b S l noSt ∧ (∀ k ∈ S, w.heap.size ≤ k) ∧ Below w.heap.size w w'
  push_any : ∀ (w : World) (b : Nat) (S : List Nat) (l : Lim) (s : St) (A : Option Addr) (n c : Nat) (ms : List Mk), Rhy w b S l s → s.t.rs.length ≤ 1000000 → Row.Vals mkS w A n ms → n ≤ 100000 → (0 < n → ∀ x, A = some x → x.block ∉ S) →
    Calls Try.prog 15 #[.pointer (some ⟨b, 0, none⟩), .slice A n c] w (PushIs Rhy w b S l s ms)
  on_any : ∀ (w : World) (b : Nat) (S : List Nat) (l : Lim) (s : St) (k : Int), Rhy w b S l s → Calls Try.prog 17 #[.pointer (some ⟨b, 0, none⟩), .int .i64 k] w fun e w' => e = .returned (.bool (s.on.get k)) ∧ Below w.heap.size w w'
  off_any : ∀ (w : World) (b : Nat) (S : List Nat) (l : Lim) (s : St), Rhy w b S l s → Calls Try.prog 16 #[.pointer (some ⟨b, 0, none⟩)] w fun e w' => e = .returned (.bool s.dark) ∧ Below w.heap.size w w'
  all_yes : ∀ (w : World) (l : Lim) (A : Option Addr) (n c : Nat) (ms : List Mk), mayT l = true → Row.Vals mkS w A n ms → n ≤ 100000 →
    Calls Try.prog 10 #[limV l, .slice A n c] w fun e w' => ∃ B d, e = .returned (.slice B (toldT l noSt ms).length d) ∧ Row.Vals cdS w' B (toldT l noSt ms).length (toldT l noSt ms) ∧ (∀ x, B = some x → w.heap.size ≤ x.block) ∧ Below w.heap.size w w'
  all_no : ∀ (w : World) (l : Lim) (A : Option Addr) (n c : Nat), mayT l = false → Calls Try.prog 10 #[limV l, .slice A n c] w fun e w' => ∃ B d, e = .returned (.slice B 0 d) ∧ Below w.heap.size w w'
  no_push : ∀ (w : World) (A : Option Addr) (n c : Nat), Calls Try.prog 15 #[.pointer none, .slice A n c] w fun e w' => ∃ B d, e = .returned (.slice B 0 d) ∧ Below w.heap.size w w'
  no_on : ∀ (w : World) (k : Int), Calls Try.prog 17 #[.pointer none, .int .i64 k] w fun e w' => e = .returned (.bool false) ∧ Below w.heap.size w w'
  no_off : ∀ w : World, Calls Try.prog 16 #[.pointer none] w fun e w' => e = .returned (.bool false) ∧ Below w.heap.size w w'
section
variable {Rhy : World → Nat → List Nat → Lim → St → Prop} (K : RhyKit Rhy) {w w' W W' : World} {b : Nat} {S : List Nat} {l : Lim} {s s' : St}
include K
theorem RhyKit.below (hP : Rhy w b S l s) (hB : Below w.heap.size w w') : Rhy w' b S l s := K.kept hP (Kept.of_below (S := []) hB) (fun _ _ h => by cases h)
theorem RhyKit.alloc (hP : Rhy w b S l s) (o : Obj) : Rhy (w.alloc o) b S l s := K.below hP ((Below.refl _ w).alloc (Nat.le_refl _) o)
omit K in
theorem mk_new (W : World) (t : TypeId) (m : Mk) : Row.Vals mkS (W.alloc (.cells (mkC m) t)) (some ⟨W.heap.size, 0, none⟩) 1 [m] :=
  Row.Vals.has (S := mkS) (ys := [m]) (tl := []) (Has.new _ _ _)
end
/-- A rhythm that was made since w, and stands so. -/
structure Mr (Rhy : World → Nat → List Nat → Lim → St → Prop) (w : World) (b : Nat) (S : List Nat) (l : Lim) (s : St) (W : World) : Prop where
  rhy : Rhy W b S l s
  below : Below w.heap.size w W
  far : ∀ k ∈ S, w.heap.size ≤ k
section
variable {Rhy : World → Nat → List Nat → Lim → St → Prop} (K : RhyKit Rhy) {w w' W W' : World} {b : Nat} {S : List Nat} {l : Lim} {s s' : St}
include K
theorem Mr.grow (h : Mr Rhy w b S l s W) (hB : Below W.heap.size W W') : Mr Rhy w b S l s W' := ⟨K.below h.rhy hB, h.below.trans (hB.mono h.below.size), h.far⟩
theorem Mr.alloc (h : Mr Rhy w b S l s W) (o : Obj) : Mr Rhy w b S l s (W.alloc o) := Mr.grow K h ((Below.refl _ W).alloc (Nat.le_refl _) o)
theorem Mr.drewN (h : Mr Rhy w b S l s W) (n : Nat) : Mr Rhy w b S l s (W.drewN n) := Mr.grow K h (below_drewN (Below.refl _ W) n)
/-- Blocks that came later and aren't its own have turned. -/
theorem Mr.late (h : Mr Rhy w b S l s W) {T : List Nat} (hK : Kept T W W') (hT : ∀ k ∈ T, w.heap.size ≤ k ∧ k ∉ S) : Mr Rhy w b S l s W' :=
  ⟨K.kept h.rhy hK (fun k hk hT2 => (hT k hT2).2 hk), below_kept h.below hK h.below.size (fun k hk => (hT k hk).1), h.far⟩
omit K in
theorem Mr.turn (h : Mr Rhy w b S l s W) (hT : Rhy W' b S l s') (hK : Kept S W W') : Mr Rhy w b S l s' W' := ⟨hT, below_kept h.below hK h.below.size h.far, h.far⟩
/-- One mark, in memory that was just made for it. -/
theorem Mr.push_one (h : Mr Rhy w b S l s W) (t : TypeId) (m : Mk) (c : Nat) (hr : s.t.rs.length ≤ 1000000) :
    Calls Try.prog 15 #[.pointer (some ⟨b, 0, none⟩), .slice (some ⟨W.heap.size, 0, none⟩) 1 c] (W.alloc (.cells (mkC m) t)) fun e w' => ∃ B d, e = .returned (.slice B (saysT l s m).length d) ∧ (saysT l s m).length ≤ d ∧ d ≤ 9223372036854775807 ∧ Row.Vals cdS w' B (saysT l s m).length (saysT l s m) ∧ (∀ x, B = some x → W.heap.size ≤ x.block ∧ x.block ∉ S) ∧ Mr Rhy w b S l (stepT l s m) w' ∧ Kept S W w' := by
  have hlt := (K.lt h.rhy).2
  refine (K.push_any _ b S l s _ 1 c [m] (K.alloc h.rhy _) hr (mk_new W t m) (by omega) (fun _ x hx => by injection hx with hx; subst hx; intro hk; exact Nat.lt_irrefl _ (hlt _ hk))).mono ?_
  rintro e w' ⟨B, d, rfl, g1, g2, hV, hf, hR, hK⟩
  have e1 : toldT l s [m] = saysT l s m := by show saysT l s m ++ [] = _; rw [List.append_nil]
  rw [e1] at g1 hV ⊢
  have hK2 : Kept S W w' := ((Kept.refl S W).alloc _).trans hK
  refine ⟨B, d, rfl, g1, g2, hV, fun x hx => ?_, Mr.turn h hR hK2, hK2⟩
  have h5 := hf x hx
  simp at h5
  exact ⟨by omega, fun h6 => by have := hlt _ h6; omega⟩
end
end Go.Proofs.Ytpmjgomfjfhfkaa.Rhythm
