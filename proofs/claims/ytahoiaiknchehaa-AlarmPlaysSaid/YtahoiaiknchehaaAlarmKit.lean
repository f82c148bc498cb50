/- What an alarm's calls answer and do: the laws and the layers above need these statements alone. -/
import Derived.Test.YtahoiaiknchehaaRows
import Derived.Test.YtahoiaiknchehaaAlarmMath
import Derived.Test.YtahoiaiknchehaaShape
import Derived.Test.YtahoiaiknchehaaKept
import Derived.Test.YtahoiaiknchehaaOwnMore
import Derived.ProofKit
import Derived.Handy
import Derived.Deep.QuietTactic
import Derived.BigQuiet
import Derived.Laws.StructEq
import Derived.Lib.Hide
set_option linter.unusedSimpArgs false
set_option linter.unusedVariables false
namespace Go.Proofs.Ytahoiaiknchehaa.Alarm
open Go.RowKit
/-- What is answered: a row of its own; the alarm stands so; nothing else has turned. -/
def AnsIs (Alm : World → Nat → St → Prop) (w : World) (b : Nat) (r : St × List Ot) (e : Ending) (w' : World) : Prop :=
  ∃ V, e = .returned V ∧ w'.ownsRow w.heap.size 53 4 V r.2.length (Row.flat otS r.2) ∧ Alm w' b r.1 ∧ Kept [b] w w'
/-- Alm w b s: the alarm in block b stands as s. -/
structure AlmKit (Alm : World → Nat → St → Prop) : Prop where
  lt : ∀ {w b s}, Alm w b s → b < w.heap.size
  ok : ∀ {w b s}, Alm w b s → Ok s
  kept : ∀ {w w' b s T}, Alm w b s → Kept T w w' → b ∉ T → Alm w' b s
  new_no : ∀ (w : World) (n : Int), ¬ (1 ≤ n ∧ n ≤ 1048576) → Calls Try.prog 8 #[.int .i64 n] w fun e w' => e = .returned (.tuple #[.pointer none, .int .i64 1]) ∧ Below w.heap.size w w'
  new_yes : ∀ (w : World) (n : Int), 1 ≤ n ∧ n ≤ 1048576 → Calls Try.prog 8 #[.int .i64 n] w fun e w' => ∃ b, e = .returned (.tuple #[.pointer (some ⟨b, 0, none⟩), .int .i64 0]) ∧ Alm w' b (st0 n) ∧ w.heap.size ≤ b ∧ Below w.heap.size w w'
  conds_any : ∀ (w : World) (b : Nat) (s : St) (A : Option Addr) (n c : Nat) (cs : List Cd), Alm w b s → Row.Vals cdS w A n cs → n ≤ 100000 → (0 < n → ∀ x, A = some x → x.block ≠ b) →
    Calls Try.prog 10 #[.pointer (some ⟨b, 0, none⟩), .slice A n c] w (AnsIs Alm w b (condsT s cs))
  tick_any : ∀ (w : World) (b : Nat) (s : St) (a : Int) (A : Option Addr) (n c : Nat) (os : List Or), Alm w b s → Row.Vals orS w A n os → n ≤ 10000 → (0 < n → ∀ x, A = some x → x.block ≠ b) →
    Calls Try.prog 12 #[.pointer (some ⟨b, 0, none⟩), .int .i64 a, .slice A n c] w (AnsIs Alm w b (tickT s a os))
  stands_any : ∀ (w : World) (b : Nat) (s : St) (k : Int), Alm w b s → Calls Try.prog 17 #[.pointer (some ⟨b, 0, none⟩), .int .i64 k] w fun e w' => e = .returned (.bool (s.getZ k).stands) ∧ Below w.heap.size w w'
  high_any : ∀ (w : World) (b : Nat) (s : St) (k : Int), Alm w b s → Calls Try.prog 18 #[.pointer (some ⟨b, 0, none⟩), .int .i64 k] w fun e w' => e = .returned (.bool (s.highZ k)) ∧ Below w.heap.size w w'
  acked_any : ∀ (w : World) (b : Nat) (s : St) (k : Int), Alm w b s → Calls Try.prog 19 #[.pointer (some ⟨b, 0, none⟩), .int .i64 k] w fun e w' => e = .returned (.bool (s.getZ k).acked) ∧ Below w.heap.size w w'
  sounds_any : ∀ (w : World) (b : Nat) (s : St), Alm w b s → Calls Try.prog 20 #[.pointer (some ⟨b, 0, none⟩)] w fun e w' => e = .returned (.bool s.sounds) ∧ Below w.heap.size w w'
  clone_any : ∀ (w : World) (b : Nat) (s : St), Alm w b s → Calls Try.prog 14 #[.pointer (some ⟨b, 0, none⟩)] w fun e w' => ∃ c, e = .returned (.pointer (some ⟨c, 0, none⟩)) ∧ Alm w' c s ∧ w.heap.size ≤ c ∧ Below w.heap.size w w'
  no_conds : ∀ (w : World) (A : Option Addr) (n c : Nat), Calls Try.prog 10 #[.pointer none, .slice A n c] w fun e w' => e = .returned (.slice none 0 0) ∧ w' = w
  no_tick : ∀ (w : World) (a : Int) (A : Option Addr) (n c : Nat), Calls Try.prog 12 #[.pointer none, .int .i64 a, .slice A n c] w fun e w' => e = .returned (.slice none 0 0) ∧ w' = w
  no_stands : ∀ (w : World) (k : Int), Calls Try.prog 17 #[.pointer none, .int .i64 k] w fun e w' => e = .returned (.bool false) ∧ w' = w
  no_high : ∀ (w : World) (k : Int), Calls Try.prog 18 #[.pointer none, .int .i64 k] w fun e w' => e = .returned (.bool false) ∧ w' = w
  no_acked : ∀ (w : World) (k : Int), Calls Try.prog 19 #[.pointer none, .int .i64 k] w fun e w' => e = .returned (.bool false) ∧ w' = w
  no_sounds : ∀ (w : World), Calls Try.prog 20 #[.pointer none] w fun e w' => e = .returned (.bool false) ∧ w' = w
  no_clone : ∀ (w : World), Calls Try.prog 14 #[.pointer none] w fun e w' => e = .returned (.pointer none) ∧ w' = w
section
variable {Alm : World → Nat → St → Prop} (K : AlmKit Alm) {w w' W W' : World} {b : Nat} {s s' : St}
include K
theorem AlmKit.below (hP : Alm w b s) (hB : Below w.heap.size w w') : Alm w' b s := K.kept hP (Kept.of_below (S := []) hB) (by simp)
theorem AlmKit.alloc (hP : Alm w b s) (o : Obj) : Alm (w.alloc o) b s := K.below hP ((Below.refl _ w).alloc (Nat.le_refl _) o)
omit K in
theorem cd_new (W : World) (t : TypeId) (m : Cd) : Row.Vals cdS (W.alloc (.cells #[.int .i64 m.1, .int .i64 m.2.1, .bool m.2.2] t)) (some ⟨W.heap.size, 0, none⟩) 1 [m] :=
  Row.Vals.has (S := cdS) (ys := [m]) (tl := []) (Has.new _ _ _)
omit K in
theorem or_new (W : World) (t : TypeId) (m : Or) : Row.Vals orS (W.alloc (.cells #[.int .i64 m.1, .int .i64 m.2.1, .int .i64 m.2.2] t)) (some ⟨W.heap.size, 0, none⟩) 1 [m] :=
  Row.Vals.has (S := orS) (ys := [m]) (tl := []) (Has.new _ _ _)
end
/-- An alarm that was made since w, and stands so. -/
structure Mr (Alm : World → Nat → St → Prop) (w : World) (b : Nat) (s : St) (W : World) : Prop where
  alm : Alm W b s
  below : Below w.heap.size w W
  far : w.heap.size ≤ b
section
variable {Alm : World → Nat → St → Prop} (K : AlmKit Alm) {w w' W W' : World} {b : Nat} {s s' : St}
include K
theorem Mr.grow (h : Mr Alm w b s W) (hB : Below W.heap.size W W') : Mr Alm w b s W' := ⟨K.below h.alm hB, h.below.trans (hB.mono h.below.size), h.far⟩
theorem Mr.alloc (h : Mr Alm w b s W) (o : Obj) : Mr Alm w b s (W.alloc o) := Mr.grow K h ((Below.refl _ W).alloc (Nat.le_refl _) o)
theorem Mr.drewN (h : Mr Alm w b s W) (n : Nat) : Mr Alm w b s (W.drewN n) := Mr.grow K h (below_drewN (Below.refl _ W) n)
/-- Blocks that came later and aren't its own have turned. -/
theorem Mr.late (h : Mr Alm w b s W) {T : List Nat} (hK : Kept T W W') (hT : ∀ k ∈ T, w.heap.size ≤ k ∧ k ≠ b) : Mr Alm w b s W' :=
  ⟨K.kept h.alm hK (fun hT2 => (hT b hT2).2 rfl), below_kept h.below hK h.below.size (fun k hk => (hT k hk).1), h.far⟩
omit K in
theorem Mr.turn (h : Mr Alm w b s W) (hT : Alm W' b s') (hK : Kept [b] W W') : Mr Alm w b s' W' := ⟨hT, below_kept h.below hK h.below.size (fun k hk => by simp at hk; have := h.far; omega), h.far⟩
/-- What is answered, by an alarm that was made since w. -/
def MrAns (Alm : World → Nat → St → Prop) (w : World) (b : Nat) (W : World) (r : St × List Ot) (e : Ending) (w' : World) : Prop :=
  ∃ V, e = .returned V ∧ w'.ownsRow W.heap.size 53 4 V r.2.length (Row.flat otS r.2) ∧ Mr Alm w b r.1 w' ∧ Kept [b] W w'
theorem Mr.conds (h : Mr Alm w b s W) (A : Option Addr) (n c : Nat) (cs : List Cd) (hv : Row.Vals cdS W A n cs) (hn : n ≤ 100000) (hf : 0 < n → ∀ x, A = some x → x.block ≠ b) :
    Calls Try.prog 10 #[.pointer (some ⟨b, 0, none⟩), .slice A n c] W (MrAns Alm w b W (condsT s cs)) := by
  refine (K.conds_any W b s A n c cs h.alm hv hn hf).mono ?_
  rintro e w' ⟨V, rfl, hV, hR, hK⟩
  exact ⟨V, rfl, hV, Mr.turn h hR hK, hK⟩
theorem Mr.tick (h : Mr Alm w b s W) (a : Int) (A : Option Addr) (n c : Nat) (os : List Or) (hv : Row.Vals orS W A n os) (hn : n ≤ 10000) (hf : 0 < n → ∀ x, A = some x → x.block ≠ b) :
    Calls Try.prog 12 #[.pointer (some ⟨b, 0, none⟩), .int .i64 a, .slice A n c] W (MrAns Alm w b W (tickT s a os)) := by
  refine (K.tick_any W b s a A n c os h.alm hv hn hf).mono ?_
  rintro e w' ⟨V, rfl, hV, hR, hK⟩
  exact ⟨V, rfl, hV, Mr.turn h hR hK, hK⟩
omit K in
theorem MrAns.down {o : Obj} {r : St × List Ot} {e : Ending} (h : MrAns Alm w b (W.alloc o) r e w') : MrAns Alm w b W r e w' := by
  obtain ⟨V, rfl, hV, hR, hK⟩ := h
  exact ⟨V, rfl, ⟨hV.1, hV.2.imp id fun ⟨k, cap, cur, h1, h2, h3⟩ => ⟨k, cap, cur, h1, by simp at h2; omega, h3⟩⟩, hR, ((Kept.refl [b] W).alloc _).trans hK⟩
/-- One condition, one order, in memory that was just made for it; no order. -/
theorem Mr.cond_one (h : Mr Alm w b s W) (t : TypeId) (m : Cd) (c : Nat) :
    Calls Try.prog 10 #[.pointer (some ⟨b, 0, none⟩), .slice (some ⟨W.heap.size, 0, none⟩) 1 c] (W.alloc (.cells #[.int .i64 m.1, .int .i64 m.2.1, .bool m.2.2] t)) (MrAns Alm w b W (condT s m)) := by
  have hlt := K.lt h.alm
  refine (Mr.conds K (Mr.alloc K h _) (some ⟨W.heap.size, 0, none⟩) 1 c [m] (cd_new W t m) (by omega) (fun _ x hx => by injection hx with hx; subst hx; intro hk; exact Nat.lt_irrefl _ (hk ▸ hlt))).mono ?_
  intro e w' hA
  have e1 : condsT s [m] = condT s m := by show ((condT s m).1, (condT s m).2 ++ []) = _; rw [List.append_nil]
  rw [e1] at hA
  exact MrAns.down hA
theorem Mr.tick_one (h : Mr Alm w b s W) (a : Int) (t : TypeId) (m : Or) (c : Nat) :
    Calls Try.prog 12 #[.pointer (some ⟨b, 0, none⟩), .int .i64 a, .slice (some ⟨W.heap.size, 0, none⟩) 1 c] (W.alloc (.cells #[.int .i64 m.1, .int .i64 m.2.1, .int .i64 m.2.2] t)) (MrAns Alm w b W (tickT s a [m])) := by
  have hlt := K.lt h.alm
  refine (Mr.tick K (Mr.alloc K h _) a (some ⟨W.heap.size, 0, none⟩) 1 c [m] (or_new W t m) (by omega) (fun _ x hx => by injection hx with hx; subst hx; intro hk; exact Nat.lt_irrefl _ (hk ▸ hlt))).mono ?_
  exact fun e w' hA => MrAns.down hA
theorem Mr.tick_none (h : Mr Alm w b s W) (a : Int) (c : Nat) :
    Calls Try.prog 12 #[.pointer (some ⟨b, 0, none⟩), .int .i64 a, .slice none 0 c] W (MrAns Alm w b W (tickT s a [])) :=
  Mr.tick K h a none 0 c [] (Row.Vals.none_ W) (by omega) (fun h0 => absurd h0 (by omega))
end
/-- Beside it a row of its own, with outs. -/
structure Rw (Alm : World → Nat → St → Prop) (w : World) (b base : Nat) (s : St) (V : Value) (E : List Ot) (W : World) : Prop where
  mr : Mr Alm w b s W
  own : W.ownsRow base 53 4 V E.length (Row.flat otS E)
  lo : b < base
  hi : base ≤ W.heap.size
section
variable {Alm : World → Nat → St → Prop} (K : AlmKit Alm) {w w' W W' : World} {b base : Nat} {s s' : St} {V V' : Value} {E F : List Ot}
include K
theorem Rw.grow (h : Rw Alm w b base s V E W) (hB : Below W.heap.size W W') : Rw Alm w b base s V E W' :=
  ⟨Mr.grow K h.mr hB, own_kept h.own (Kept.of_below (S := []) hB) (by simp), h.lo, Nat.le_trans h.hi hB.size⟩
theorem Rw.alloc (h : Rw Alm w b base s V E W) (o : Obj) : Rw Alm w b base s V E (W.alloc o) := Rw.grow K h ((Below.refl _ W).alloc (Nat.le_refl _) o)
theorem Rw.drewN (h : Rw Alm w b base s V E W) (n : Nat) : Rw Alm w b base s V E (W.drewN n) := Rw.grow K h (below_drewN (Below.refl _ W) n)
omit K in
theorem Rw.pushed (h : Rw Alm w b base s V E W) (hM : Mr Alm w b s' W') (hK : Kept [b] W W') : Rw Alm w b base s' V E W' :=
  ⟨hM, own_kept h.own hK (fun k hk => by simp at hk; have := h.lo; omega), h.lo, Nat.le_trans h.hi hK.size⟩
theorem Rw.grown (h : Rw Alm w b base s V E W) (ho : W'.ownsRow base 53 4 V' (E.length + F.length) (Row.flat otS (E ++ F))) (hg : W.grownBy W' V.ownBlock) : Rw Alm w b base s V' (E ++ F) W' :=
  ⟨Mr.late K h.mr (Kept.of_grown hg) (fun k hk => by have h1 := own_in h.own k hk; have := h.lo; have := h.mr.far; omega), by rw [List.length_append]; exact ho, h.lo, Nat.le_trans h.hi (Kept.of_grown hg).size⟩
end
end Go.Proofs.Ytahoiaiknchehaa.Alarm
