/- Orders of rising samples, put early or late, reckoned; and where two queues and two rows stand. -/
import Derived.Test.YtmefdgmbpihdfaaDoorOrderKit
import Derived.Test.YtmefdgmbpihdfaaDoorOrderSame
import Derived.Test.YtmefdgmbpihdfaaDoorOwnMore
set_option linter.unusedVariables false
set_option linter.unusedSimpArgs false
namespace Go.Proofs.YtmefdgmbpihdfaaDoor.Order
open Go.RowKit
open Alarm (Or orS noOr or_cells)
def atFrom : Nat → List Nat → Nat
  | s, [] => s
  | s, g :: r => atFrom (s + 1 + g) r
def upFrom : Nat → List Nat → List Or
  | _, [] => []
  | s, g :: r => (((s + 1 + g : Nat) : Int), 2, ((1 + g : Nat) : Int)) :: upFrom (s + 1 + g) r
theorem at_snoc (s : Nat) (gs : List Nat) (g : Nat) : atFrom s (gs ++ [g]) = atFrom s gs + 1 + g := by
  induction gs generalizing s with
  | nil => rfl
  | cons x gs ih => exact ih _
theorem up_snoc (s : Nat) (gs : List Nat) (g : Nat) : upFrom s (gs ++ [g]) = upFrom s gs ++ [(((atFrom s gs + 1 + g : Nat) : Int), 2, ((1 + g : Nat) : Int))] := by
  induction gs generalizing s with
  | nil => rfl
  | cons x gs ih => rw [List.cons_append, upFrom, ih]; rfl
theorem up_len (s : Nat) (gs : List Nat) : (upFrom s gs).length = gs.length := by
  induction gs generalizing s with
  | nil => rfl
  | cons x gs ih => rw [upFrom, List.length_cons, ih, List.length_cons]
theorem at_bd (s : Nat) (gs : List Nat) (h : ∀ g ∈ gs, g < 256) : s ≤ atFrom s gs ∧ atFrom s gs ≤ s + 256 * gs.length := by
  induction gs generalizing s with
  | nil => exact ⟨Nat.le_refl _, by simp [atFrom]⟩
  | cons x gs ih =>
    have h1 := ih (s + 1 + x) (fun g hg => h g (by simp [hg]))
    have h2 := h x (by simp)
    rw [atFrom, List.length_cons]
    omega
theorem up_gt (s : Nat) (gs : List Nat) : ∀ o ∈ upFrom s gs, (s : Int) < o.1 := by
  induction gs generalizing s with
  | nil => intro o ho; simp [upFrom] at ho
  | cons x gs ih =>
    intro o ho
    rw [upFrom] at ho
    rcases List.mem_cons.1 ho with rfl | ho
    · dsimp only; omega
    · have := ih _ o ho; omega
def Rise (l : List Or) : Prop := l.Pairwise (fun a b => a.1 < b.1)
theorem up_rise (s : Nat) (gs : List Nat) : Rise (upFrom s gs) := by
  induction gs generalizing s with
  | nil => exact List.Pairwise.nil
  | cons x gs ih => exact List.pairwise_cons.2 ⟨fun o ho => up_gt _ _ o ho, ih _⟩
theorem up_may (s : Nat) (gs : List Nat) (h : ∀ g ∈ gs, g < 256) (hs : s + 256 * gs.length ≤ 100000) : ∀ o ∈ upFrom s gs, May o := by
  induction gs generalizing s with
  | nil => intro o ho; simp [upFrom] at ho
  | cons x gs ih =>
    have h2 := h x (by simp)
    rw [List.length_cons] at hs
    intro o ho
    rw [upFrom] at ho
    rcases List.mem_cons.1 ho with rfl | ho
    · exact ⟨by dsimp only; omega, by dsimp only; omega, .inr ⟨rfl, by dsimp only; omega, by dsimp only; omega⟩⟩
    · exact ih _ (fun g hg => h g (by simp [hg])) (by omega) o ho
theorem rise_up {l : List Or} (h : Rise l) : Up l := h.imp (fun hab => by omega)
theorem rise_get {l : List Or} (h : Rise l) (i j : Nat) (hij : i < j) (hj : j < l.length) : (l.getD i noOr).1 < (l.getD j noOr).1 := by
  rw [List.getD_eq_getElem?_getD, List.getD_eq_getElem?_getD, List.getElem?_eq_getElem (by omega), List.getElem?_eq_getElem hj]
  exact List.pairwise_iff_getElem.1 h i j (by omega) hj hij
theorem get_mem {l : List Or} {k : Nat} (hk : k < l.length) : l.getD k noOr ∈ l := by
  rw [List.getD_eq_getElem?_getD, List.getElem?_eq_getElem hk]
  exact List.getElem_mem _
theorem drop_get {l : List Or} {k : Nat} (hk : k < l.length) : l.drop k = l.getD k noOr :: l.drop (k + 1) := by
  rw [List.drop_eq_getElem_cons hk, List.getD_eq_getElem?_getD, List.getElem?_eq_getElem hk]; rfl
theorem take_get {l : List Or} {k : Nat} (hk : k < l.length) : l.take (k + 1) = l.take k ++ [l.getD k noOr] := by
  rw [List.take_succ_eq_append_getElem hk, List.getD_eq_getElem?_getD, List.getElem?_eq_getElem hk, Option.getD_some]
/-- From behind: each comes ahead of all that wait. -/
theorem put_front {l : List Or} (h : Rise l) (hm : ∀ o ∈ l, May o) (hl : l.length ≤ 20) (k : Nat) (hk : k < l.length) : putT ⟨l.drop (k + 1), 0⟩ (l.getD k noOr) = (⟨l.drop k, 0⟩, 0) := by
  have hmay := hm _ (get_mem hk)
  have hd : due (l.getD k noOr).1 (l.drop (k + 1)) = 0 := by
    rcases Nat.lt_or_ge (k + 1) l.length with h1 | h1
    · rw [drop_get h1, due_cons, if_neg (by have := rise_get h k (k + 1) (by omega) h1; omega)]
    · rw [List.drop_of_length_le h1]; rfl
  unfold putT insT
  rw [if_neg (fun hn => hn hmay), if_neg (by have := hmay.1; dsimp only; omega), if_neg (by dsimp only; rw [List.length_drop]; omega)]
  dsimp only
  rw [hd, List.take_zero, List.drop_zero, List.nil_append, ← drop_get hk]
/-- In their order: each comes behind all that wait. -/
theorem put_back {l : List Or} (h : Rise l) (hm : ∀ o ∈ l, May o) (hl : l.length ≤ 20) (j k : Nat) (hj : j ≤ k) (hk : k < l.length) (f : Int) (hf : f ≤ (l.getD k noOr).1) : putT ⟨(l.take k).drop j, f⟩ (l.getD k noOr) = (⟨(l.take (k + 1)).drop j, f⟩, 0) := by
  have hmay := hm _ (get_mem hk)
  have hall : ∀ x ∈ (l.take k).drop j, x.1 ≤ (l.getD k noOr).1 := fun x hx => by
    have h1 := List.mem_of_mem_drop hx
    obtain ⟨i, hi, rfl⟩ := List.getElem_of_mem h1
    rw [List.length_take] at hi
    have h2 := rise_get h i k (by omega) hk
    rw [List.getD_eq_getElem?_getD, List.getElem?_eq_getElem (by omega)] at h2
    rw [List.getElem_take]
    exact Int.le_of_lt h2
  have hd : due (l.getD k noOr).1 ((l.take k).drop j) = ((l.take k).drop j).length := by
    have := due_apart (l.getD k noOr).1 ((l.take k).drop j) [] hall (by simp)
    rwa [List.append_nil] at this
  unfold putT insT
  rw [if_neg (fun hn => hn hmay), if_neg (by dsimp only; omega), if_neg (by dsimp only; rw [List.length_drop, List.length_take]; omega)]
  dsimp only
  rw [hd, List.take_length, List.drop_length, take_get hk, List.drop_append_of_le_length (by rw [List.length_take]; omega)]
/-- What is due of the rest of them. -/
theorem due_rest {l : List Or} (h : Rise l) (j k : Nat) (now : Int) (hj : j ≤ due now l) (hk : due now l ≤ k) : due now ((l.take k).drop j) = due now l - j ∧ due now (l.drop j) = due now l - j := by
  have hl := due_le now l
  have hA : ∀ x ∈ (l.take (due now l)).drop j, x.1 ≤ now := fun x hx => ahead_due l now x (List.mem_of_mem_drop hx)
  have hB := up_behind (rise_up h) now
  have hlen : ((l.take (due now l)).drop j).length = due now l - j := by rw [List.length_drop, List.length_take]; omega
  have e1 : l.drop j = (l.take (due now l)).drop j ++ l.drop (due now l) := by
    conv => lhs; rw [← List.take_append_drop (due now l) l]
    rw [List.drop_append_of_le_length (by rw [List.length_take]; omega)]
  have e2 : (l.take k).drop j = (l.take (due now l)).drop j ++ (l.take k).drop (due now l) := by
    conv => lhs; rw [← List.take_append_drop (due now l) (l.take k)]
    rw [List.take_take, Nat.min_eq_left hk, List.drop_append_of_le_length (by rw [List.length_take]; omega)]
  refine ⟨?_, ?_⟩
  · rw [e2, due_apart now _ _ hA (fun x hx => hB x (by
      rw [List.drop_take] at hx
      exact List.mem_of_mem_take hx)), hlen]
  · rw [e1, due_apart now _ _ hA hB, hlen]
theorem due_early {l : List Or} (h : Rise l) (j k : Nat) (now f : Int) (hj : j ≤ due now l) (hk : due now l ≤ k) (h0 : 0 ≤ now ∧ now ≤ 1099511627776) (hf : f ≤ now) :
    dueT ⟨l.drop j, f⟩ now = (⟨l.drop (due now l), now + 1⟩, (l.drop j).take (due now l - j)) := by
  unfold dueT takeT maxT
  rw [nearA_id now (by omega)]
  dsimp only
  rw [(due_rest h j k now hj hk).2, if_pos (by omega), List.drop_drop, show j + (due now l - j) = due now l by omega]
theorem due_late {l : List Or} (h : Rise l) (j k : Nat) (now f : Int) (hj : j ≤ due now l) (hk : due now l ≤ k) (h0 : 0 ≤ now ∧ now ≤ 1099511627776) (hf : f ≤ now) :
    dueT ⟨(l.take k).drop j, f⟩ now = (⟨(l.take k).drop (due now l), now + 1⟩, (l.drop j).take (due now l - j)) := by
  unfold dueT takeT maxT
  rw [nearA_id now (by omega)]
  dsimp only
  rw [(due_rest h j k now hj hk).1, if_pos (by omega), List.drop_drop, show j + (due now l - j) = due now l by omega]
  congr 1
  rw [List.drop_take, List.take_take, Nat.min_eq_left (by omega)]
theorem due_next (l : List Or) (j : Nat) (now : Int) (hj : j ≤ due now l) : l.take j ++ (l.drop j).take (due now l - j) = l.take (due now l) := by
  conv => rhs; rw [show due now l = j + (due now l - j) by omega, List.take_add]
theorem due_in (l : List Or) (k : Nat) (now : Int) (h : k < l.length → now < (l.getD k noOr).1) (hk : k ≤ l.length) : due now l ≤ k := by
  rcases Nat.lt_or_ge k (due now l) with h1 | h1
  · have h2 := due_lt now l k h1
    have h3 := due_le now l
    have := h (by omega)
    omega
  · exact h1
theorem due_mono (l : List Or) (a b : Int) (h : a ≤ b) : due a l ≤ due b l := by
  induction l with
  | nil => exact Nat.le_refl _
  | cons o l ih =>
    rw [due_cons, due_cons]
    split
    · rw [if_pos (by omega)]; omega
    · omega
/-- Two queues, two rows that grow, and the list of the orders. -/
structure Wh (Que : World → Nat → St → Prop) (w : World) (a b : Nat) (sa sb : St) (V1 V2 : Value) (xs ys : List Or) (base : Nat) (A : Option Addr) (n : Nat) (l : List Or) (W : World) : Prop where
  ma : Mr Que w a sa W
  mb : Mr Que w b sb W
  ne : a ≠ b
  o1 : W.ownsRow base 23 3 V1 xs.length (Row.flat orS xs)
  o2 : W.ownsRow base 23 3 V2 ys.length (Row.flat orS ys)
  ap : Apart V1 V2
  la : a < base
  lb : b < base
  hi : base ≤ W.heap.size
  lv : Row.Vals orS W A n l
  lf : ∀ x, A = some x → x.block < base ∧ x.block ≠ a ∧ x.block ≠ b
  lo : w.heap.size ≤ base
section
variable {Que : World → Nat → St → Prop} (K : QueKit Que) {w W W' : World} {a b : Nat} {sa sb sa' sb' : St} {V1 V2 V1' V2' : Value} {xs ys : List Or} {base : Nat} {A : Option Addr} {n : Nat} {l : List Or}
include K
theorem Wh.later (h : Wh Que w a b sa sb V1 V2 xs ys base A n l W) (hB : Below W.heap.size W W') : Wh Que w a b sa sb V1 V2 xs ys base A n l W' :=
  ⟨h.ma.later K hB, h.mb.later K hB, h.ne, own_kept h.o1 (Kept.of_below (S := []) hB) (by simp), own_kept h.o2 (Kept.of_below (S := []) hB) (by simp), h.ap, h.la, h.lb, Nat.le_trans h.hi hB.size, h.lv.below hB, h.lf, h.lo⟩
theorem Wh.alloc (h : Wh Que w a b sa sb V1 V2 xs ys base A n l W) (o : Obj) : Wh Que w a b sa sb V1 V2 xs ys base A n l (W.alloc o) := h.later K ((Below.refl _ W).alloc (Nat.le_refl _) o)
theorem Wh.step_a (h : Wh Que w a b sa sb V1 V2 xs ys base A n l W) (hm : Mr Que w a sa' W') (hK : Kept [a] W W') : Wh Que w a b sa' sb V1 V2 xs ys base A n l W' :=
  ⟨hm, h.mb.beside K hK h.ma.far (Ne.symm h.ne), h.ne, own_kept h.o1 hK (by simp; exact h.la), own_kept h.o2 hK (by simp; exact h.la), h.ap, h.la, h.lb, Nat.le_trans h.hi hK.size, h.lv.kept hK (fun _ x hx => by simp; exact (h.lf x hx).2.1), h.lf, h.lo⟩
theorem Wh.step_b (h : Wh Que w a b sa sb V1 V2 xs ys base A n l W) (hm : Mr Que w b sb' W') (hK : Kept [b] W W') : Wh Que w a b sa sb' V1 V2 xs ys base A n l W' :=
  ⟨h.ma.beside K hK h.mb.far h.ne, hm, h.ne, own_kept h.o1 hK (by simp; exact h.lb), own_kept h.o2 hK (by simp; exact h.lb), h.ap, h.la, h.lb, Nat.le_trans h.hi hK.size, h.lv.kept hK (fun _ x hx => by simp; exact (h.lf x hx).2.2), h.lf, h.lo⟩
omit K in
/-- What lies below a row of the call's own is left by its growing. -/
theorem grown_kept {t : TypeId} {k m : Nat} {V : Value} {us : List Value} (h : W.ownsRow base t k V m us) (hg : W.grownBy W' V.ownBlock) : Kept V.ownBlock.toList W W' ∧ ∀ x, x < base → x ∉ V.ownBlock.toList :=
  ⟨Kept.of_grown hg, fun x hx => own_apart h hx⟩
theorem Wh.grow1 (h : Wh Que w a b sa sb V1 V2 xs ys base A n l W) {zs : List Or} (ho : W'.ownsRow base 23 3 V1' (xs ++ zs).length (Row.flat orS (xs ++ zs))) (hg : W.grownBy W' V1.ownBlock) (hs : V1'.ownBlock = V1.ownBlock ∨ V1'.ownBlock = some W.heap.size) :
    Wh Que w a b sa sb V1' V2 (xs ++ zs) ys base A n l W' := by
  obtain ⟨hK, hx⟩ := grown_kept h.o1 hg
  refine ⟨⟨K.kept h.ma.que hK (hx a h.la), h.ma.below.trans (hK.below (B := w.heap.size) h.ma.below.size (fun k hk => by have := own_in h.o1 k hk; have := h.lo; omega)), h.ma.far⟩,
    ⟨K.kept h.mb.que hK (hx b h.lb), h.mb.below.trans (hK.below (B := w.heap.size) h.mb.below.size (fun k hk => by have := own_in h.o1 k hk; have := h.lo; omega)), h.mb.far⟩, h.ne, ho, own_grown h.o2 hg h.ap.symm, h.ap.step h.o2 hs, h.la, h.lb, Nat.le_trans h.hi hK.size, h.lv.kept hK (fun _ x he => hx _ (h.lf x he).1), h.lf, h.lo⟩
theorem Wh.grow2 (h : Wh Que w a b sa sb V1 V2 xs ys base A n l W) {zs : List Or} (ho : W'.ownsRow base 23 3 V2' (ys ++ zs).length (Row.flat orS (ys ++ zs))) (hg : W.grownBy W' V2.ownBlock) (hs : V2'.ownBlock = V2.ownBlock ∨ V2'.ownBlock = some W.heap.size) :
    Wh Que w a b sa sb V1 V2' xs (ys ++ zs) base A n l W' := by
  obtain ⟨hK, hx⟩ := grown_kept h.o2 hg
  refine ⟨⟨K.kept h.ma.que hK (hx a h.la), h.ma.below.trans (hK.below (B := w.heap.size) h.ma.below.size (fun k hk => by have := own_in h.o2 k hk; have := h.lo; omega)), h.ma.far⟩,
    ⟨K.kept h.mb.que hK (hx b h.lb), h.mb.below.trans (hK.below (B := w.heap.size) h.mb.below.size (fun k hk => by have := own_in h.o2 k hk; have := h.lo; omega)), h.mb.far⟩, h.ne, own_grown h.o1 hg h.ap, ho, (h.ap.symm.step h.o1 hs).symm, h.la, h.lb, Nat.le_trans h.hi hK.size, h.lv.kept hK (fun _ x he => hx _ (h.lf x he).1), h.lf, h.lo⟩
omit K in
/-- The list has grown; now it is read alone. -/
theorem Wh.start (h : Wh Que w a b sa sb V1 V2 xs ys base A n l W) {B : Option Addr} {c : Nat} (hV : V1 = .slice B xs.length c) : Wh Que w a b sa sb (.slice none 0 0) (.slice none 0 0) [] [] W.heap.size B xs.length xs W := by
  subst hV
  have ho := h.o1
  obtain ⟨B', c', he, h1, h2, h3, h4, h5⟩ := Row.Vals.own ho
  injection he with he1 he2 he3
  subst he1
  exact ⟨h.ma, h.mb, h.ne, Row.own_none (S := orS) _ _ _, Row.own_none (S := orS) _ _ _, (fun k hk => by cases hk), Nat.lt_of_lt_of_le h.la h.hi, Nat.lt_of_lt_of_le h.lb h.hi, Nat.le_refl _, h3,
    fun x hx => ⟨(h4 x hx).2, by have := (h4 x hx).1; have := h.la; omega, by have := (h4 x hx).1; have := h.lb; omega⟩, Nat.le_trans h.lo h.hi⟩
end
end Go.Proofs.YtmefdgmbpihdfaaDoor.Order
