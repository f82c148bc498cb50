/- The reference of layer 22: where a Push stands. -/
import Derived.Test.YtpmjgomfjfhfkaaRhythmRef2
set_option linter.unusedSimpArgs false
set_option linter.unusedVariables false
namespace Go.Proofs.Ytpmjgomfjfhfkaa.Rhythm
open Go.RowKit
open Tally (Lim May mayT limV limC stV)
def lookT (l : Lim) (d : Bool) (t : Tally.St) (h : List Int) (a : Int) : On5 := ⟨d, !d && Tally.stillT l t a, !d && decide (l.fibN ≤ Fib.countT l.fib h), !d && Tally.tachT l t.rs, !d && Tally.bradT l t.rs⟩
theorem look_now {l : Lim} (hm : May l) (s : St) (m : Mk) (hc : counts s m = true) : lookT l (takeT s m).dark (takeT s m).t (takeT s m).h m.at_ = onT l s m := by
  unfold lookT
  cases hd : (takeT s m).dark with
  | true =>
    obtain ⟨h2, h3, h4, h5⟩ := now_dark hm s m hc hd
    have h1 : (onT l s m).o1 = true := hd
    generalize onT l s m = o at *
    obtain ⟨p1, p2, p3, p4, p5⟩ := o
    dsimp only at h1 h2 h3 h4 h5
    subst h1 h2 h3 h4 h5
    rfl
  | false =>
    unfold onT nowT
    rw [hd]
    rfl
/-- Where a Push stands: the state's box is the first new block, the mark's the next, the answer's the third. -/
structure Ps (w : World) (base : Nat) (l : Lim) (m : Mk) (s : St) (E : List Cd) (A : Option Addr) (ca : Nat) (B : Option Addr) (cb : Nat) (C : Option Addr) (cc : Nat) (W : World) : Prop where
  X : Has W w.heap.size 41 (refC l s A ca B cb C E.length cc)
  M : Has W (w.heap.size + 1) 45 (mkC m)
  Y : Has W (w.heap.size + 1 + 1) 41 zeroC
  R : RfIs W base s E A ca B cb C cc
  low : Below w.heap.size w W
  oa : ∀ x, A = some x → x.block < w.heap.size ∨ w.heap.size + 1 + 1 < x.block
  ob : ∀ x, B = some x → x.block < w.heap.size ∨ w.heap.size + 1 + 1 < x.block
  oc : ∀ x, C = some x → x.block < w.heap.size
section
variable {w W W' : World} {base : Nat} {l : Lim} {m : Mk} {s s' : St} {E : List Cd} {A B C A' B' : Option Addr} {ca cb cc ca' cb' : Nat}
theorem Ps.grow (h : Ps w base l m s E A ca B cb C cc W) (hB : Below W.heap.size W W') : Ps w base l m s E A ca B cb C cc W' :=
  ⟨h.X.below hB h.X.lt, h.M.below hB h.M.lt, h.Y.below hB h.Y.lt, h.R.below hB, h.low.trans (hB.mono h.low.size), h.oa, h.ob, h.oc⟩
/-- The state's cells turned. -/
theorem Ps.turn (h : Ps w base l m s E A ca B cb C cc W) (hX : Has W' w.heap.size 41 (refC l s' A' ca' B' cb' C E.length cc)) (hK : Kept [w.heap.size] W W')
    (h1 : RI64.Vals W A' s'.t.rs.length s'.t.rs.reverse) (h2 : RI64.Vals W B' s'.h.length s'.h.reverse) (h3 : 0 ≤ s'.t.last ∧ s'.t.last ≤ 1099511627776)
    (fa : ∀ x, A' = some x → base ≤ x.block ∧ x.block < W.heap.size) (fb : ∀ x, B' = some x → base ≤ x.block ∧ x.block < W.heap.size)
    (oa : ∀ x, A' = some x → x.block < w.heap.size ∨ w.heap.size + 1 + 1 < x.block) (ob : ∀ x, B' = some x → x.block < w.heap.size ∨ w.heap.size + 1 + 1 < x.block) : Ps w base l m s' E A' ca' B' cb' C cc W' :=
  ⟨hX, hK.has h.M (by simp), hK.has h.Y (by simp; omega),
   rf_row ⟨h1, h2, h.R.es, h3, fa, fb, h.R.fc, h.R.cap⟩ hK (fun x hx hk => by have := oa x hx; simp at hk; omega) (fun x hx hk => by have := ob x hx; simp at hk; omega) (fun x hx hk => by have := h.oc x hx; simp at hk; omega),
   below_kept h.low hK h.low.size (fun x hx => by simp at hx; omega), oa, ob, h.oc⟩
end
def RPushIs (w : World) (base : Nat) (l : Lim) (s : St) (E : List Cd) (m : Mk) (e : Ending) (w' : World) : Prop :=
  ∃ A' ca' B' cb' C' cc' E', E' = E ++ saysT l s m ∧ e = .returned (refV l (stepT l s m) A' ca' B' cb' C' E'.length cc') ∧ RfIs w' base (stepT l s m) E' A' ca' B' cb' C' cc' ∧ Below w.heap.size w w'
end Go.Proofs.Ytpmjgomfjfhfkaa.Rhythm
