/- A round of a range over a function, under the widest fence: regions that draw their order go by the plain walk's laws; what the rounds leave as it was. -/
import Derived.RangeFuncNested
import Derived.RangeFuncBound
import Derived.RangeFuncCalls
import Derived.RangeFuncLeaves
import Derived.RangeFuncBox
import Derived.Shelf.Abstract
import Derived.Shelf.RegionOpen
import Derived.WalkKit
import Derived.OwnWalkIn
import Derived.TacticsInMore
import Derived.LoopNIn
import Derived.LoopIn
import Derived.Test.YtlhjligeigkbnaaRegion
import Derived.Test.YtlhjligeigkbnaaKept
set_option linter.unusedVariables false
namespace Go.Proofs.Ytlhjligeigkbnaa.Reg
open Go.RowKit
section
variable {P : Program} {md : Region.Mode} {ops : Array Oper} {Q : Exit → Act → World → Prop} {S : World → Prop} {n : Nat}
/-- The widest fence, in a round or not. -/
def Wide (F : Fence) : Prop := F.plain = Fence.wide
theorem wide_plain : Wide Fence.wide := rfl
theorem wide_round (r : Nat) : Wide (Fence.wide.inRound r) := rfl
variable {F : Fence}
theorem Wide.fn (h : Wide F) (f : FuncId) : F.fn f := by
  have : F.plain.fn f := by rw [show F.plain = Fence.wide from h]; exact trivial
  exact this
theorem Wide.depth (h : Wide F) : F.depth = none := by
  have : F.plain.depth = none := by rw [show F.plain = Fence.wide from h]; rfl
  exact this
theorem Wide.calls (h : Wide F) {f : FuncId} {args : Array Value} {w : World} {R : Ending → World → Prop} (hc : Calls P f args w R) : CallsIn F n P f args w R := by
  have : CallsIn F.plain n P f args w R := by rw [show F.plain = Fence.wide from h]; exact callsIn_wide.2 hc
  exact this
theorem Wide.rows (h : Wide F) {row : String} {args : Array Value} {w : World} {R : Value → World → Prop} (hc : Rows P row args w R) : RowsIn F n P row args w R := by
  have : RowsIn F.plain n P row args w R := by rw [show F.plain = Fence.wide from h]; exact fun c cs _ => let ⟨v, w', h1, h2⟩ := hc c cs; ⟨v, w', h1, stepsIn_wide.2 h2⟩
  exact this
/-- An operation that is no defer statement: what the plain walk shows of it holds under that fence. -/
theorem oper_wide (hF : Wide F) {o : Oper} {a : Act} {w : World} {K : Act → World → Prop} (hd : ∀ c, o.op ≠ .defer c) (h : o.wp P a w K Q) : o.wpIn F n P a w K Q := by
  refine ⟨fun f _ => hF.fn f, ?_⟩
  rw [Oper.semAt_plain F _ _ hd]
  unfold Oper.wp at h
  generalize (execOp a.eval o).run P w = x at *
  have hn : F.depth.isSome = true → 1 ≤ n := fun h => by rw [hF.depth] at h; cases h
  cases x with
  | ok x w' =>
    cases x <;> simp only [Oper.upon, Oper.uponIn] at h ⊢ <;>
      first
        | exact h
        | exact ⟨hn, hF.calls (h.mono fun e w'' he => by cases e <;> exact he)⟩
        | exact ⟨hn, hF.rows h⟩
  | halt x w' => cases x <;> simp only [Oper.upon, Oper.uponIn] at h ⊢ <;> exact h
theorem any_wide (hF : Wide F) (hd : ∀ (i : Nat) (o : Oper), ops[i]? = some o → ∀ c, o.op ≠ .defer c) (hq : ¬ LetsOut Q) : ∀ (fuel : Nat) (listed : Array Bool) (a : Act) (w : World),
    wpAny P md ops Q fuel listed a w → wpAnyIn F n P md ops Q fuel listed a w
  | 0, _, _, _, H => H
  | fuel + 1, listed, a, w, H => by
    refine ⟨H.1, fun i hi => ?_⟩
    have h := H.2 i hi
    unfold wpOp at h
    unfold wpOpIn
    cases ho : ops[i]? with
    | none => simp only [ho] at h ⊢; exact any_wide hF hd hq fuel _ _ _ h
    | some o =>
      simp only [ho] at h ⊢
      split
      · rename_i hw
        rw [if_pos hw] at h
        rcases h with h | h
        · exact oper_wide hF (hd i o ho) (Oper.wp_mono (fun a' w' => any_wide hF hd hq fuel _ a' w') h)
        · exact absurd h.2 hq
      · rename_i hw
        rw [if_neg hw] at h
        exact ⟨fun f _ => hF.fn f, any_wide hF hd hq fuel _ _ _ h⟩
def noDefer (l : List Oper) : Bool := l.all fun o => match o.op with | .defer _ => false | _ => true
theorem noDefer_spec {l : List Oper} (h : noDefer l = true) : ∀ (i : Nat) (o : Oper), l.toArray[i]? = some o → ∀ c, o.op ≠ .defer c := by
  intro i o hi c hc
  rw [List.getElem?_toArray] at hi
  have := List.all_eq_true.1 h o (List.mem_of_getElem? hi)
  rw [hc] at this
  cases this
/-- Q, but 'False' where the machine has no room. -/
def NoOut (Q : Exit → Act → World → Prop) : Exit → Act → World → Prop
  | .outgrown, _, _ => False
  | e, a, w => Q e a w
theorem NoOut.imp : ∀ (e : Exit) (a : Act) (w : World), NoPanic (NoOut Q) e a w → Q e a w := fun e a w h => by
  cases e <;> first | exact h | exact (h : False).elim
theorem not_out : ¬ LetsOut (NoPanic (NoOut Q)) := fun ⟨_, _, h⟩ => h
/-- The beginning, under that fence. -/
theorem beginW (hF : Wide F) {l : List Oper} {id : Nat} {a : Act} {w : World} (hm : P.follows .mixedOrders = true) (hd : noDefer l = true) (hS : S w.drew)
    (h : S w.drew → wpAnyH P .any l.toArray (NoPanic (NoOut Q)) S l.toArray.size (Array.replicate l.toArray.size false) a w.drew) : (Code.region id l.toArray true).wpIn F n P Q a w :=
  wpIn_mono (wpIn_region_any hm (any_wide hF (noDefer_spec hd) not_out _ _ _ _ (wpAny_of_held _ _ _ _ (h hS)))) NoOut.imp
theorem doneW {l : List Oper} {listed : Array Bool} {a : Act} {w : World} (hr : Region.ready md l.toArray listed = []) (h : Q .normal a w) (fuel : Nat) : wpAnyH P md l.toArray (NoPanic (NoOut Q)) S fuel listed a w := done (Q := NoOut Q) hr h fuel
end
end Go.Proofs.Ytlhjligeigkbnaa.Reg
namespace Go.Proofs.Ytlhjligeigkbnaa
open Go.RowKit
/-- What lies below B is as it was, but for the blocks of S. -/
structure KeptTo (B : Nat) (S : List Nat) (w w' : World) : Prop where
  os : w'.os = w.os
  tape : w'.tape = w.tape
  output : w'.output = w.output
  size : w.heap.size ≤ w'.heap.size
  block : ∀ k, k < B → k ∉ S → w'.heap[k]? = w.heap[k]?
theorem KeptTo.refl (B : Nat) (S : List Nat) (w : World) : KeptTo B S w w := ⟨rfl, rfl, rfl, Nat.le_refl _, fun _ _ _ => rfl⟩
theorem KeptTo.trans {B : Nat} {S : List Nat} {a b c : World} (h : KeptTo B S a b) (k : KeptTo B S b c) : KeptTo B S a c :=
  ⟨k.os.trans h.os, k.tape.trans h.tape, k.output.trans h.output, Nat.le_trans h.size k.size, fun i hi h1 => (k.block i hi h1).trans (h.block i hi h1)⟩
theorem KeptTo.of_kept {B : Nat} {S T : List Nat} {a b : World} (h : Kept T a b) (hB : B ≤ a.heap.size) (hs : ∀ k ∈ T, k < B → k ∈ S) : KeptTo B S a b :=
  ⟨h.os, h.tape, h.output, h.size, fun k hk h1 => h.block k (by omega) fun h2 => h1 (hs k h2 hk)⟩
theorem KeptTo.of_below {B B' : Nat} {S : List Nat} {a b : World} (h : Below B' a b) (hB : B ≤ B') : KeptTo B S a b := ⟨h.os, h.tape, h.output, h.size, fun k hk _ => h.block k (by omega)⟩
theorem KeptTo.cell {B : Nat} {S : List Nat} {a b : World} (h : KeptTo B S a b) {p : Addr} (hp : p.block < B) (h1 : p.block ∉ S) : b.cell? p = a.cell? p := World.cell?_of_block (w := a) (h.block p.block hp h1)
theorem KeptTo.drew_ {B : Nat} {S : List Nat} {a b : World} (h : KeptTo B S a.drew b) : KeptTo B S a b := ⟨h.os, h.tape, h.output, h.size, h.block⟩
theorem keptTo_b {B : Nat} {S : List Nat} {w : World} (hn : B ≤ w.heap.size) (W : World) (l : Nat) (o o' : Obj) (hl : w.heap.size ≤ l) (_ : W.heap[l]? = some o) (_ : o.isCells = false) (_ : o.isWalk = false) : KeptTo B S W (W.putObj l o') :=
  ⟨rfl, rfl, rfl, by simp, fun k hk _ => World.putObj_heap_other (by omega)⟩
theorem KeepsOthers.of_below {B : Nat} {a b : World} (h : Below B a b) (hk : ∀ (k : Nat) (o : Obj), a.heap[k]? = some o → o.isCells = false → k < B) : KeepsOthers a b :=
  ⟨h.size, fun k o h1 h2 => (h.block k (hk k o h1 h2)).trans h1⟩
end Go.Proofs.Ytlhjligeigkbnaa
