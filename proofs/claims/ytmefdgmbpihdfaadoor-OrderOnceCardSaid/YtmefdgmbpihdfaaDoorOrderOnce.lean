/- Each order once, reckoned: which ones of a list have been due; and where the law's closure stands. -/
import Derived.Test.YtmefdgmbpihdfaaDoorOrderKit
import Derived.Test.YtmefdgmbpihdfaaDoorOrderWhen
set_option linter.unusedVariables false
set_option linter.unusedSimpArgs false
namespace Go.Proofs.YtmefdgmbpihdfaaDoor.Order
open Go.RowKit
open Alarm (Or orS noOr or_cells)
/-- Those that aren't marked. -/
def leftT : List Or → List Bool → List Or
  | x :: l, h :: hd => if h then leftT l hd else x :: leftT l hd
  | _, _ => []
theorem left_set (l : List Or) (hd : List Bool) (p : Nat) (hl : hd.length = l.length) (hp : p < l.length) (h : hd.getD p true = false) : (leftT l hd).Perm (l.getD p noOr :: leftT l (hd.set p true)) := by
  induction l generalizing hd p with
  | nil => simp at hp
  | cons x l ih =>
    cases hd with
    | nil => simp at hl
    | cons b hd =>
      cases p with
      | zero =>
        have hb : b = false := by simpa using h
        subst hb
        simp [leftT]
      | succ p =>
        have h9 := ih hd p (by simpa using hl) (by simpa using hp) (by simpa using h)
        rw [List.set_cons_succ, List.getD_cons_succ]
        unfold leftT
        cases b
        · simp only [Bool.false_eq_true, if_false]
          exact (h9.cons x).trans (List.Perm.swap _ _ _)
        · simpa using h9
theorem left_mem (l : List Or) (hd : List Bool) (hl : hd.length = l.length) (o : Or) : o ∈ leftT l hd ↔ ∃ j, j < l.length ∧ l.getD j noOr = o ∧ hd.getD j true = false := by
  induction l generalizing hd with
  | nil => simp [leftT]
  | cons x l ih =>
    cases hd with
    | nil => simp at hl
    | cons b hd =>
      have h9 := ih hd (by simpa using hl)
      unfold leftT
      constructor
      · intro ho
        cases b
        · simp only [Bool.false_eq_true, if_false] at ho
          rcases List.mem_cons.1 ho with rfl | ho
          · exact ⟨0, by simp, rfl, rfl⟩
          · obtain ⟨j, h1, h2, h3⟩ := h9.1 ho
            exact ⟨j + 1, by simpa using h1, by simpa using h2, by simpa using h3⟩
        · simp only [if_true] at ho
          obtain ⟨j, h1, h2, h3⟩ := h9.1 ho
          exact ⟨j + 1, by simpa using h1, by simpa using h2, by simpa using h3⟩
      · rintro ⟨j, h1, h2, h3⟩
        cases j with
        | zero =>
          have hb : b = false := by simpa using h3
          subst hb
          have : x = o := by simpa using h2
          simp [this]
        | succ j =>
          have := h9.2 ⟨j, by simpa using h1, by simpa using h2, by simpa using h3⟩
          cases b
          · simp [this]
          · simpa using this
def hadT (l : List Or) (a : Int) : List Bool := l.map (fun o => decide (o.1 ≤ a))
theorem had_left (l : List Or) (a : Int) : leftT l (hadT l a) = restT a l := by
  induction l with
  | nil => rfl
  | cons x l ih =>
    unfold hadT restT at *
    rw [List.map_cons]
    unfold leftT
    by_cases h : x.1 ≤ a
    · rw [decide_eq_true h, if_pos rfl, ih, List.filter_cons_of_neg (by simp; omega)]
    · rw [decide_eq_false h, if_neg (by simp), ih, List.filter_cons_of_pos (by simp; omega)]
theorem had_len (l : List Or) (a : Int) : (hadT l a).length = l.length := by unfold hadT; rw [List.length_map]
theorem had_get (l : List Or) (a : Int) (j : Nat) (h : j < l.length) : (hadT l a).getD j true = decide ((l.getD j noOr).1 ≤ a) := by
  unfold hadT
  rw [List.getD_eq_getElem?_getD, List.getElem?_map, List.getD_eq_getElem?_getD, List.getElem?_eq_getElem h]
  rfl
theorem rest_rest (l : List Or) (a b : Int) (h : a ≤ b) : restT b (restT a l) = restT b l := by
  unfold restT
  rw [List.filter_filter]
  congr 1
  funext o
  by_cases h1 : b < o.1
  · rw [decide_eq_true h1, decide_eq_true (show a < o.1 by omega)]; rfl
  · rw [decide_eq_false h1]; rfl
/-- What is due, and what is left. -/
def dueNow (l : List Or) (a b : Int) : List Or := sortT (goneT b (restT a l))
theorem due_once (l : List Or) (a b f : Int) (h : a ≤ b) (h0 : -1 ≤ b ∧ b ≤ 1099511627776) : dueT ⟨sortT (restT a l), f⟩ b = (⟨sortT (restT b l), maxT f b⟩, dueNow l a b) := by
  have hA : ∀ x ∈ sortT (goneT b (restT a l)), x.1 ≤ b := fun x hx => by
    have := (sort_perm _).mem_iff.1 hx
    simpa using (List.mem_filter.1 this).2
  have hB : ∀ x ∈ sortT (restT b (restT a l)), b < x.1 := fun x hx => by
    have := (sort_perm _).mem_iff.1 hx
    simpa using (List.mem_filter.1 this).2
  unfold dueT takeT dueNow
  rw [nearA_id b h0]
  dsimp only
  rw [sort_apart b (restT a l), due_apart b _ _ hA hB, List.drop_left, List.take_left, rest_rest l a b h]
theorem now_len (l : List Or) (a b : Int) : (dueNow l a b).length ≤ l.length := by
  unfold dueNow
  rw [sort_len]
  exact Nat.le_trans (List.length_filter_le _ _) (List.length_filter_le _ _)
theorem now_mem (l : List Or) (a b : Int) (k : Nat) (hk : k < (dueNow l a b).length) : a < ((dueNow l a b).getD k noOr).1 ∧ ((dueNow l a b).getD k noOr).1 ≤ b := by
  have h1 := get_mem hk
  have h2 := (sort_perm _).mem_iff.1 h1
  obtain ⟨h3, h4⟩ := List.mem_filter.1 h2
  have h5 := (List.mem_filter.1 h3).2
  exact ⟨by simpa using h5, by simpa using h4⟩
/-- Where the marks stand behind so many of those that are due. -/
structure Marks (l : List Or) (a b : Int) (k : Nat) (hd : List Bool) : Prop where
  len : hd.length = l.length
  le : ∀ j, j < l.length → hd.getD j true = true → (l.getD j noOr).1 ≤ b
  perm : (leftT l hd).Perm ((dueNow l a b).drop k ++ sortT (restT b l))
theorem marks_0 (l : List Or) (a b : Int) (h : a ≤ b) : Marks l a b 0 (hadT l a) := by
  refine ⟨had_len l a, fun j hj ht => ?_, ?_⟩
  · rw [had_get l a j hj] at ht
    have := of_decide_eq_true ht
    omega
  · rw [had_left, List.drop_zero]
    have h1 := sort_apart b (restT a l)
    rw [rest_rest l a b h] at h1
    unfold dueNow
    rw [← h1]
    exact (sort_perm _).symm
theorem marks_next {l : List Or} {a b : Int} {k : Nat} {hd : List Bool} (h : Marks l a b k hd) (hk : k < (dueNow l a b).length) (p : Nat) (hp : p < l.length) (ho : l.getD p noOr = (dueNow l a b).getD k noOr) (hf : hd.getD p true = false) : Marks l a b (k + 1) (hd.set p true) := by
  refine ⟨by rw [List.length_set]; exact h.len, fun j hj ht => ?_, ?_⟩
  · by_cases hjp : j = p
    · subst hjp
      rw [ho]
      exact (now_mem l a b k hk).2
    · refine h.le j hj ?_
      rw [List.getD_eq_getElem?_getD, List.getElem?_set_ne (by omega), ← List.getD_eq_getElem?_getD] at ht
      exact ht
  · have h1 := left_set l hd p h.len hp hf
    have h2 := h.perm
    rw [drop_get hk, List.cons_append, ← ho] at h2
    exact (h1.symm.trans h2).cons_inv
theorem marks_find {l : List Or} {a b : Int} {k : Nat} {hd : List Bool} (h : Marks l a b k hd) (hk : k < (dueNow l a b).length) : ∃ j, j < l.length ∧ l.getD j noOr = (dueNow l a b).getD k noOr ∧ hd.getD j true = false := by
  refine (left_mem l hd h.len _).1 (h.perm.mem_iff.2 ?_)
  rw [drop_get hk]
  simp
theorem marks_end {l : List Or} {a b : Int} {hd : List Bool} (h : Marks l a b (dueNow l a b).length hd) : hd = hadT l b := by
  have h1 := h.perm
  rw [List.drop_length, List.nil_append] at h1
  apply List.ext_getElem?
  intro j
  rcases Nat.lt_or_ge j l.length with hj | hj
  · have h2 := had_get l b j hj
    have hdj : j < hd.length := by rw [h.len]; exact hj
    rw [List.getD_eq_getElem?_getD, List.getElem?_eq_getElem (by rw [had_len]; exact hj), Option.getD_some] at h2
    rw [List.getElem?_eq_getElem hdj, List.getElem?_eq_getElem (by rw [had_len]; exact hj), h2]
    congr 1
    cases hb : hd[j] with
    | true =>
      have := h.le j hj (by rw [List.getD_eq_getElem?_getD, List.getElem?_eq_getElem hdj, hb]; rfl)
      rw [decide_eq_true this]
    | false =>
      have h3 : l.getD j noOr ∈ leftT l hd := (left_mem l hd h.len _).2 ⟨j, hj, rfl, by rw [List.getD_eq_getElem?_getD, List.getElem?_eq_getElem hdj, hb]; rfl⟩
      have h4 := (sort_perm _).mem_iff.1 (h1.mem_iff.1 h3)
      have h5 := (List.mem_filter.1 h4).2
      rw [decide_eq_false (by have := of_decide_eq_true h5; omega)]
  · rw [List.getElem?_eq_none (by rw [h.len]; exact hj), List.getElem?_eq_none (by rw [had_len]; exact hj)]
/-! ### What Put of several leaves -/
theorem puts_sorted (r xs : List Or) : (putsT ⟨sortT r, 0⟩ xs).1 = ⟨sortT (r ++ xs.take (putsT ⟨sortT r, 0⟩ xs).2.1), 0⟩ ∧ ∀ o ∈ xs.take (putsT ⟨sortT r, 0⟩ xs).2.1, May o := by
  induction xs generalizing r with
  | nil => simp [putsT]
  | cons x xs ih =>
    rw [putsT]
    by_cases h0 : (putT ⟨sortT r, 0⟩ x).2 = 0
    · rw [if_pos h0]
      have hx : (putT ⟨sortT r, 0⟩ x).1 = ⟨sortT (r ++ [x]), 0⟩ ∧ May x := by
        unfold putT at h0 ⊢
        by_cases h1 : May x
        · rw [if_neg (fun h => h h1)] at h0 ⊢
          split at h0
          · cases h0
          · rename_i h2
            rw [if_neg h2]
            split at h0
            · cases h0
            · rename_i h3
              rw [if_neg h3, sort_snoc]
              exact ⟨rfl, h1⟩
        · rw [if_pos h1] at h0; cases h0
      rw [hx.1]
      obtain ⟨h1, h2⟩ := ih (r ++ [x])
      refine ⟨?_, fun o ho => ?_⟩
      · rw [h1]
        dsimp only
        rw [List.take_succ_cons, List.append_assoc]
        rfl
      · dsimp only at ho
        rw [List.take_succ_cons] at ho
        rcases List.mem_cons.1 ho with rfl | ho
        · exact hx.2
        · exact h2 o ho
    · rw [if_neg h0, put_err h0]
      simp
theorem puts_lt {s : St} {xs : List Or} (h : (putsT s xs).2.2 ≠ 0) : (putsT s xs).2.1 < xs.length := by
  induction xs generalizing s with
  | nil => simp [putsT] at h
  | cons x xs ih =>
    rw [putsT] at h ⊢
    by_cases h0 : (putT s x).2 = 0
    · rw [if_pos h0] at h ⊢
      have := ih (s := (putT s x).1) h
      simp
      exact this
    · rw [if_neg h0]
      simp
theorem rest_all (l : List Or) (h : ∀ o ∈ l, May o) : restT (-1) l = l := by
  unfold restT
  rw [List.filter_eq_self]
  intro o ho
  have := (h o ho).1
  simp
  omega
theorem rest_none (l : List Or) (h : ∀ o ∈ l, May o) : restT 1099511627776 l = [] := by
  unfold restT
  rw [List.filter_eq_nil_iff]
  intro o ho
  have := (h o ho).2.1
  simp
  omega
/-! ### Where the closure stands -/
structure On (Que : World → Nat → St → Prop) (w : World) (q5 q9 q2 q8 g b : Nat) (A : Option Addr) (n c : Nat) (l : List Or) (last : Int) (s : St) (hd : List Bool) (W : World) : Prop where
  mq : Mr Que w b s W
  p5 : Has W q5 37 #[.pointer (some ⟨b, 0, none⟩)]
  p9 : Has W q9 2 #[.int .i64 last]
  p2 : Has W q2 39 #[.slice A n c]
  p8 : Has W q8 56 #[.slice (some ⟨g, 0, none⟩) n n]
  pg : Has W g 4 (hd.map Value.bool).toArray
  lv : Row.Vals orS W A n l
  lf : 0 < n → ∀ x, A = some x → x.block < w.heap.size
  hl : hd.length = n
  nb : b ≠ q5 ∧ b ≠ q9 ∧ b ≠ q2 ∧ b ≠ q8 ∧ b ≠ g
  ng : g ≠ q5 ∧ g ≠ q9 ∧ g ≠ q2 ∧ g ≠ q8
  nl : q9 ≠ q5 ∧ q9 ≠ q2 ∧ q9 ≠ q8
  fg : w.heap.size ≤ g
  fl : w.heap.size ≤ q9
section
variable {Que : World → Nat → St → Prop} (K : QueKit Que) {w W W' : World} {q5 q9 q2 q8 g b : Nat} {A : Option Addr} {n c : Nat} {l : List Or} {last : Int} {s s' : St} {hd : List Bool}
include K
theorem On.later (h : On Que w q5 q9 q2 q8 g b A n c l last s hd W) (hB : Below W.heap.size W W') : On Que w q5 q9 q2 q8 g b A n c l last s hd W' :=
  ⟨h.mq.later K hB, h.p5.below hB h.p5.lt, h.p9.below hB h.p9.lt, h.p2.below hB h.p2.lt, h.p8.below hB h.p8.lt, h.pg.below hB h.pg.lt, h.lv.below hB, h.lf, h.hl, h.nb, h.ng, h.nl, h.fg, h.fl⟩
theorem On.alloc (h : On Que w q5 q9 q2 q8 g b A n c l last s hd W) (o : Obj) : On Que w q5 q9 q2 q8 g b A n c l last s hd (W.alloc o) := h.later K ((Below.refl _ W).alloc (Nat.le_refl _) o)
omit K in
theorem On.due (h : On Que w q5 q9 q2 q8 g b A n c l last s hd W) (hm : Mr Que w b s' W') (hK : Kept [b] W W') : On Que w q5 q9 q2 q8 g b A n c l last s' hd W' :=
  ⟨hm, hK.has h.p5 (by simp; exact Ne.symm h.nb.1), hK.has h.p9 (by simp; exact Ne.symm h.nb.2.1), hK.has h.p2 (by simp; exact Ne.symm h.nb.2.2.1), hK.has h.p8 (by simp; exact Ne.symm h.nb.2.2.2.1), hK.has h.pg (by simp; exact Ne.symm h.nb.2.2.2.2),
    h.lv.kept hK (fun h0 x hx => by simp; have := h.lf h0 x hx; have := h.mq.far; omega), h.lf, h.hl, h.nb, h.ng, h.nl, h.fg, h.fl⟩
theorem On.mark (h : On Que w q5 q9 q2 q8 g b A n c l last s hd W) (p : Nat) : On Que w q5 q9 q2 q8 g b A n c l last s (hd.set p true) (W.setCell ⟨g, p, none⟩ (.bool true)) := by
  have hK : Kept [g] W (W.setCell ⟨g, p, none⟩ (.bool true)) := (Kept.refl _ _).setCell (.inl (by simp)) _
  have hg := h.pg.set_ p (.bool true)
  have e : (hd.map Value.bool).toArray.setIfInBounds p (.bool true) = ((hd.set p true).map Value.bool).toArray := by rw [List.setIfInBounds_toArray, List.map_set]
  rw [e] at hg
  exact ⟨h.mq.beside K hK h.fg h.nb.2.2.2.2, hK.has h.p5 (by simp; exact Ne.symm h.ng.1), hK.has h.p9 (by simp; exact Ne.symm h.ng.2.1), hK.has h.p2 (by simp; exact Ne.symm h.ng.2.2.1), hK.has h.p8 (by simp; exact Ne.symm h.ng.2.2.2), hg,
    h.lv.kept hK (fun h0 x hx => by simp; have := h.lf h0 x hx; have := h.fg; omega), h.lf, by rw [List.length_set]; exact h.hl, h.nb, h.ng, h.nl, h.fg, h.fl⟩
theorem On.told (h : On Que w q5 q9 q2 q8 g b A n c l last s hd W) (a : Int) : On Que w q5 q9 q2 q8 g b A n c l a s hd (W.setCell ⟨q9, 0, none⟩ (.int .i64 a)) := by
  have hK : Kept [q9] W (W.setCell ⟨q9, 0, none⟩ (.int .i64 a)) := (Kept.refl _ _).setCell (.inl (by simp)) _
  have hg := h.p9.set_ 0 (.int .i64 a)
  exact ⟨h.mq.beside K hK h.fl h.nb.2.1, hK.has h.p5 (by simp; exact Ne.symm h.nl.1), hg, hK.has h.p2 (by simp; exact Ne.symm h.nl.2.1), hK.has h.p8 (by simp; exact Ne.symm h.nl.2.2), hK.has h.pg (by simp; exact h.ng.2.1),
    h.lv.kept hK (fun h0 x hx => by simp; have := h.lf h0 x hx; have := h.fl; omega), h.lf, h.hl, h.nb, h.ng, h.nl, h.fg, h.fl⟩
/-- The first of it. -/
theorem On.start {v0 : Value} (hm : Mr Que w b s W) (h5 : Has W q5 37 #[.pointer (some ⟨b, 0, none⟩)]) (h2 : Has W q2 39 #[v0]) (hv : Row.Vals orS w A n l) (hf : 0 < n → ∀ x, A = some x → x.block < w.heap.size) (hb5 : b ≠ q5) (hb2 : b ≠ q2) (h52 : q2 ≠ q5) (hq2 : w.heap.size ≤ q2) :
    On Que w q5 (W.heap.size + 1 + 1) q2 (W.heap.size + 1) W.heap.size b A n c l (-1) s (List.replicate n false) ((((W.setCell ⟨q2, 0, none⟩ (.slice A n c)).alloc (.cells (Array.replicate n (.bool false)) 4)).alloc (.cells #[.slice (some ⟨W.heap.size, 0, none⟩) n n] 56)).alloc (.cells #[.int .i64 (-1)] 2)) := by
  have hK : Kept [q2] W (W.setCell ⟨q2, 0, none⟩ (.slice A n c)) := (Kept.refl _ _).setCell (.inl (by simp)) _
  have hm1 := hm.beside K hK hq2 hb2
  have h51 := hK.has h5 (by simp; exact Ne.symm h52)
  have h21 := h2.set_ 0 (.slice A n c)
  have hs : (W.setCell ⟨q2, 0, none⟩ (.slice A n c)).heap.size = W.heap.size := by simp
  have hbl := K.lt hm.que
  have h5l := h5.lt
  have h2l := h2.lt
  have hlo := hm.below.size
  generalize W.setCell ⟨q2, 0, none⟩ (.slice A n c) = W1 at *
  have hg := Has.new W1 4 (Array.replicate n (.bool false))
  have e : ((List.replicate n false).map Value.bool).toArray = Array.replicate n (.bool false) := by simp
  rw [hs, ← e] at hg
  have hm2 := hm1.alloc K (.cells (Array.replicate n (.bool false)) 4)
  have h52' := h51.alloc (.cells (Array.replicate n (.bool false)) 4)
  have h22 := h21.alloc (.cells (Array.replicate n (.bool false)) 4)
  have hs2 : (W1.alloc (.cells (Array.replicate n (.bool false)) 4)).heap.size = W.heap.size + 1 := by rw [World.size_alloc, hs]
  rw [← e] at hm2 h52' h22 hs2 ⊢
  generalize W1.alloc (.cells ((List.replicate n false).map Value.bool).toArray 4) = W2 at *
  have h8 := Has.new W2 56 #[.slice (some ⟨W.heap.size, 0, none⟩) n n]
  rw [hs2] at h8
  have hm3 := hm2.alloc K (.cells #[.slice (some ⟨W.heap.size, 0, none⟩) n n] 56)
  have h53 := h52'.alloc (.cells #[.slice (some ⟨W.heap.size, 0, none⟩) n n] 56)
  have h23 := h22.alloc (.cells #[.slice (some ⟨W.heap.size, 0, none⟩) n n] 56)
  have hg3 := hg.alloc (.cells #[.slice (some ⟨W.heap.size, 0, none⟩) n n] 56)
  have hs3 : (W2.alloc (.cells #[.slice (some ⟨W.heap.size, 0, none⟩) n n] 56)).heap.size = W.heap.size + 1 + 1 := by rw [World.size_alloc, hs2]
  generalize W2.alloc (.cells #[.slice (some ⟨W.heap.size, 0, none⟩) n n] 56) = W3 at *
  have h9 := Has.new W3 2 #[.int .i64 (-1)]
  rw [hs3] at h9
  have hm4 := hm3.alloc K (.cells #[.int .i64 (-1)] 2)
  exact ⟨hm4, h53.alloc _, h9, h23.alloc _, h8.alloc _, hg3.alloc _, hv.below hm4.below, hf, by simp, ⟨hb5, by omega, hb2, by omega, by omega⟩, ⟨by omega, by omega, by omega, by omega⟩, ⟨by omega, by omega, by omega⟩, hlo, by omega⟩
end
end Go.Proofs.YtmefdgmbpihdfaaDoor.Order
