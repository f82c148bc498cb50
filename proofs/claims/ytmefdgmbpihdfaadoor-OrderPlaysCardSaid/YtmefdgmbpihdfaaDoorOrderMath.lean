/- Orders, reckoned: which may be; a queue of those that wait, by rising samples; the document's queue beside it. Of no program. -/
import Derived.ProofKit
import Derived.Test.YtmefdgmbpihdfaaDoorAlarmMath
set_option linter.unusedVariables false
set_option linter.unusedSimpArgs false
namespace Go.Proofs.YtmefdgmbpihdfaaDoor.Order
open Go.RowKit
open Alarm (Or orS noOr or_cells)
/-- An order may be. -/
def May (o : Or) : Prop := 0 ≤ o.1 ∧ o.1 ≤ 1099511627776 ∧ ((o.2.1 = 1 ∧ o.2.2 = 0) ∨ (o.2.1 = 2 ∧ 1 ≤ o.2.2 ∧ o.2.2 ≤ 24000))
instance (o : Or) : Decidable (May o) := by unfold May; infer_instance
/-- How many of the first ones are due at a sample. -/
def due (a : Int) (l : List Or) : Nat := (l.takeWhile (fun o => decide (o.1 ≤ a))).length
/-- Behind those of its own sample, too. -/
def insT (o : Or) (l : List Or) : List Or := l.take (due o.1 l) ++ o :: l.drop (due o.1 l)
/-- Things that came one by one, by rising samples. -/
def sortT (l : List Or) : List Or := l.foldl (fun s o => insT o s) []
def Up (l : List Or) : Prop := l.Pairwise (fun a b => a.1 ≤ b.1)
theorem due_nil (a : Int) : due a [] = 0 := rfl
theorem due_cons (a : Int) (o : Or) (l : List Or) : due a (o :: l) = if o.1 ≤ a then due a l + 1 else 0 := by
  unfold due
  rw [List.takeWhile_cons]
  by_cases h : o.1 ≤ a <;> simp [h]
theorem due_le (a : Int) (l : List Or) : due a l ≤ l.length := by
  induction l with
  | nil => simp [due]
  | cons o l ih => rw [due_cons]; split <;> simp <;> omega
theorem due_lt (a : Int) (l : List Or) (k : Nat) (h : k < due a l) : (l.getD k noOr).1 ≤ a := by
  induction l generalizing k with
  | nil => simp [due] at h
  | cons o l ih =>
    rw [due_cons] at h
    split at h
    · rename_i h1
      cases k with
      | zero => simpa using h1
      | succ k => simpa using ih k (by omega)
    · omega
theorem due_at (a : Int) (l : List Or) (h : due a l < l.length) : a < (l.getD (due a l) noOr).1 := by
  induction l with
  | nil => simp at h
  | cons o l ih =>
    rw [due_cons] at h ⊢
    split
    · rename_i h1
      rw [if_pos h1] at h
      simpa using ih (by simpa using h)
    · simpa using (by omega)
/-- A loop that goes on while the next one is due. -/
theorem due_is (a : Int) (l : List Or) (k : Nat) (hk : k ≤ l.length) (h1 : ∀ i, i < k → (l.getD i noOr).1 ≤ a) (h2 : k < l.length → ¬ (l.getD k noOr).1 ≤ a) : due a l = k := by
  induction l generalizing k with
  | nil => simp at hk; subst hk; rfl
  | cons o l ih =>
    rw [due_cons]
    cases k with
    | zero => rw [if_neg (by simpa using h2 (by simp))]
    | succ k =>
      rw [if_pos (by simpa using h1 0 (by omega)), ih k (by simpa using hk) (fun i hi => by simpa using h1 (i + 1) (by omega)) (fun h => by simpa using h2 (by simpa using h))]
theorem ins_len (o : Or) (l : List Or) : (insT o l).length = l.length + 1 := by
  have := due_le o.1 l
  unfold insT
  simp
  omega
theorem sort_snoc (l : List Or) (o : Or) : sortT (l ++ [o]) = insT o (sortT l) := by unfold sortT; rw [List.foldl_append]; rfl
theorem sort_len (l : List Or) : (sortT l).length = l.length := by
  suffices h : ∀ (l s : List Or), (l.foldl (fun s o => insT o s) s).length = s.length + l.length by simpa [sortT] using h l []
  intro l
  induction l with
  | nil => intro s; simp
  | cons o l ih => intro s; rw [List.foldl_cons, ih, ins_len]; simp; omega
theorem mem_ins {o x : Or} {l : List Or} : x ∈ insT o l ↔ x = o ∨ x ∈ l := by
  have h := List.take_append_drop (due o.1 l) l
  unfold insT
  constructor
  · intro hx
    simp only [List.mem_append, List.mem_cons] at hx
    rcases hx with h1 | h1 | h1
    · exact .inr (List.mem_of_mem_take h1)
    · exact .inl h1
    · exact .inr (List.mem_of_mem_drop h1)
  · intro hx
    simp only [List.mem_append, List.mem_cons]
    rcases hx with h1 | h1
    · exact .inr (.inl h1)
    · rw [← h] at h1
      rcases List.mem_append.1 h1 with h1 | h1
      · exact .inl h1
      · exact .inr (.inr h1)
theorem ins_perm (o : Or) (l : List Or) : (insT o l).Perm (o :: l) := by
  unfold insT
  refine List.perm_middle.trans ?_
  rw [List.take_append_drop]
theorem sort_perm (l : List Or) : (sortT l).Perm l := by
  suffices h : ∀ (l s : List Or), (l.foldl (fun s o => insT o s) s).Perm (l ++ s) by simpa [sortT] using h l []
  intro l
  induction l with
  | nil => intro s; simp
  | cons o l ih =>
    intro s
    rw [List.foldl_cons]
    refine (ih _).trans ?_
    refine ((ins_perm o s).append_left l).trans ?_
    exact List.perm_middle
/-- All that are ahead of the place are due, all behind aren't: of rising ones. -/
theorem up_behind {l : List Or} (h : Up l) (a : Int) : ∀ x ∈ l.drop (due a l), a < x.1 := by
  induction l with
  | nil => intro x hx; simp at hx
  | cons o l ih =>
    rw [due_cons]
    split
    · intro x hx
      exact ih (List.pairwise_cons.1 h).2 x (by simpa using hx)
    · rename_i h1
      intro x hx
      rw [List.drop_zero] at hx
      rcases List.mem_cons.1 hx with rfl | hx
      · omega
      · have := (List.pairwise_cons.1 h).1 x hx
        omega
theorem ahead_due (l : List Or) (a : Int) : ∀ x ∈ l.take (due a l), x.1 ≤ a := by
  intro x hx
  obtain ⟨i, hi, rfl⟩ := List.getElem_of_mem hx
  rw [List.length_take] at hi
  have h1 := due_lt a l i (by omega)
  rw [List.getD_eq_getElem?_getD, List.getElem?_eq_getElem (by omega)] at h1
  rw [List.getElem_take]
  exact h1
theorem up_ins {l : List Or} (h : Up l) (o : Or) : Up (insT o l) := by
  unfold Up insT
  have h0 : (l.take (due o.1 l) ++ l.drop (due o.1 l)).Pairwise (fun a b => a.1 ≤ b.1) := by rw [List.take_append_drop]; exact h
  obtain ⟨h1, h2, h3⟩ := List.pairwise_append.1 h0
  refine List.pairwise_append.2 ⟨h1, List.pairwise_cons.2 ⟨fun x hx => ?_, h2⟩, fun x hx y hy => ?_⟩
  · have := up_behind h o.1 x hx
    omega
  · rcases List.mem_cons.1 hy with rfl | hy
    · exact ahead_due l _ x hx
    · exact h3 x hx y hy
theorem up_sort (l : List Or) : Up (sortT l) := by
  suffices h : ∀ (l s : List Or), Up s → Up (l.foldl (fun s o => insT o s) s) from h l [] List.Pairwise.nil
  intro l
  induction l with
  | nil => intro s hs; exact hs
  | cons o l ih => intro s hs; exact ih _ (up_ins hs o)
theorem up_drop {l : List Or} (h : Up l) (n : Nat) : Up (l.drop n) := List.Pairwise.sublist (List.drop_sublist n l) h
/-! ### The queue -/
structure St where
  l : List Or
  frm : Int
def st0 : St := ⟨[], 0⟩
/-- What a queue keeps. -/
structure Ok (s : St) : Prop where
  len : s.l.length ≤ 32
  lo : 0 ≤ s.frm
  hi : s.frm ≤ 1099511627777
  up : Up s.l
theorem ok_0 : Ok st0 := ⟨by simp [st0], by simp [st0], by simp [st0], List.Pairwise.nil⟩
/-- Put of one: its error. -/
def putT (s : St) (o : Or) : St × Int := if ¬ May o then (s, 1) else if o.1 < s.frm then (s, 240) else if s.l.length = 32 then (s, 5) else (⟨insT o s.l, s.frm⟩, 0)
theorem ok_put {s : St} (h : Ok s) (o : Or) : Ok (putT s o).1 := by
  unfold putT
  split
  · exact h
  · split
    · exact h
    · split
      · exact h
      · exact ⟨by dsimp only; rw [ins_len]; have := h.len; omega, h.lo, h.hi, up_ins h.up o⟩
/-- Put of several: how many, and the next one's error. -/
def putsT (s : St) : List Or → St × Nat × Int
  | [] => (s, 0, 0)
  | o :: r => if (putT s o).2 = 0 then ((putsT (putT s o).1 r).1, (putsT (putT s o).1 r).2.1 + 1, (putsT (putT s o).1 r).2.2) else ((putT s o).1, 0, (putT s o).2)
theorem puts_go {s : St} {o : Or} {xs : List Or} (h : (putsT s xs).2.2 = 0) : putsT s (xs ++ [o]) = if (putT (putsT s xs).1 o).2 = 0 then ((putT (putsT s xs).1 o).1, (putsT s xs).2.1 + 1, 0) else ((putT (putsT s xs).1 o).1, (putsT s xs).2.1, (putT (putsT s xs).1 o).2) := by
  induction xs generalizing s with
  | nil => simp [putsT]
  | cons x xs ih =>
    rw [List.cons_append, putsT, putsT]
    by_cases h0 : (putT s x).2 = 0
    · rw [if_pos h0, if_pos h0]
      rw [putsT, if_pos h0] at h
      have h1 := ih (s := (putT s x).1) h
      rw [h1]
      split <;> simp
    · rw [putsT, if_neg h0] at h
      exact absurd h h0
theorem puts_stop {s : St} {xs ys : List Or} (h : (putsT s xs).2.2 ≠ 0) : putsT s (xs ++ ys) = putsT s xs := by
  induction xs generalizing s with
  | nil => simp [putsT] at h
  | cons x xs ih =>
    rw [List.cons_append, putsT, putsT]
    by_cases h0 : (putT s x).2 = 0
    · rw [if_pos h0, if_pos h0]
      rw [putsT, if_pos h0] at h
      rw [ih h]
    · rw [if_neg h0, if_neg h0]
theorem puts_len {s : St} {xs : List Or} : (putsT s xs).2.1 ≤ xs.length := by
  induction xs generalizing s with
  | nil => simp [putsT]
  | cons x xs ih =>
    rw [putsT]
    split
    · have := ih (s := (putT s x).1); simp; omega
    · simp
theorem puts_all {s : St} {xs : List Or} (h : (putsT s xs).2.2 = 0) : (putsT s xs).2.1 = xs.length := by
  induction xs generalizing s with
  | nil => rfl
  | cons x xs ih =>
    rw [putsT] at h ⊢
    split
    · rename_i h0
      rw [if_pos h0] at h
      simp [ih h]
    · rename_i h0
      rw [if_neg h0] at h
      exact absurd h h0
theorem ok_puts {s : St} (h : Ok s) (xs : List Or) : Ok (putsT s xs).1 := by
  induction xs generalizing s with
  | nil => exact h
  | cons x xs ih =>
    rw [putsT]
    split
    · exact ih (ok_put h x)
    · exact ok_put h x
theorem put_err {s : St} {o : Or} (h : (putT s o).2 ≠ 0) : (putT s o).1 = s := by
  unfold putT at h ⊢
  split
  · rfl
  · split
    · rfl
    · split
      · rfl
      · rename_i h1 h2 h3
        rw [if_neg h1, if_neg h2, if_neg h3] at h
        exact absurd rfl h
theorem put_bd (s : St) (o : Or) : 0 ≤ (putT s o).2 ∧ (putT s o).2 ≤ 240 := by
  unfold putT
  split
  · simp
  · split
    · simp
    · split <;> simp
theorem puts_bd (s : St) (xs : List Or) : 0 ≤ (putsT s xs).2.2 ∧ (putsT s xs).2.2 ≤ 240 := by
  induction xs generalizing s with
  | nil => simp [putsT]
  | cons x xs ih =>
    rw [putsT]
    split
    · exact ih _
    · exact put_bd s x
/-- A sample as it counts. -/
def nearA (a : Int) : Int := if a < -1 then -1 else if 1099511627776 < a then 1099511627776 else a
theorem nearA_bd (a : Int) : -1 ≤ nearA a ∧ nearA a ≤ 1099511627776 := by unfold nearA; split <;> (try split) <;> omega
theorem nearA_id (a : Int) (h : -1 ≤ a ∧ a ≤ 1099511627776) : nearA a = a := by unfold nearA; split <;> (try split) <;> omega
def maxT (f a : Int) : Int := if f < a + 1 then a + 1 else f
/-- What is taken out at a sample (that counts so). -/
def takeT (s : St) (a : Int) : St × List Or := (⟨s.l.drop (due a s.l), maxT s.frm a⟩, s.l.take (due a s.l))
def dueT (s : St) (a : Int) : St × List Or := takeT s (nearA a)
theorem ok_due {s : St} (h : Ok s) (a : Int) : Ok (dueT s a).1 := by
  have h1 := nearA_bd a
  unfold dueT takeT maxT
  refine ⟨by dsimp only; rw [List.length_drop]; have := h.len; omega, ?_, ?_, up_drop h.up _⟩
  · dsimp only; have := h.lo; split <;> omega
  · dsimp only; have := h.hi; split <;> omega
/-! ### Its places -/
/-- So many places, the first ones with those that wait. -/
def padT (l : List Or) : List Or := l ++ List.replicate (32 - l.length) noOr
theorem pad_len (l : List Or) (h : l.length ≤ 32) : (padT l).length = 32 := by unfold padT; simp; omega
theorem pad_get (l : List Or) (i : Nat) (h : i < l.length) : (padT l).getD i noOr = l.getD i noOr := by
  unfold padT
  rw [List.getD_eq_getElem?_getD, List.getElem?_append_left h, ← List.getD_eq_getElem?_getD]
/-- The row with the elements from p on, n of them, laid at q. -/
def movedT (ys : List Or) (q p n : Nat) : List Or := ys.take q ++ (ys.drop p).take n ++ ys.drop (q + n)
theorem moved_len (ys : List Or) (q p n : Nat) (h1 : q + n ≤ ys.length) (h2 : p + n ≤ ys.length) : (movedT ys q p n).length = ys.length := by unfold movedT; simp; omega
theorem put_places (l : List Or) (o : Or) (h : l.length < 32) : (movedT (padT l) (due o.1 l + 1) (due o.1 l) (l.length - due o.1 l)).set (due o.1 l) o = padT (insT o l) := by
  have hd := due_le o.1 l
  generalize hp : due o.1 l = p at *
  unfold padT insT movedT
  rw [hp]
  apply List.ext_getElem?
  intro i
  simp only [List.getElem?_set, List.getElem?_append, List.length_append, List.length_take, List.length_replicate, List.length_drop, List.length_cons, List.getElem?_take, List.getElem?_drop, List.getElem?_replicate, List.getElem?_cons]
  have e1 : min (p + 1) (l.length + (32 - l.length)) = p + 1 := by omega
  have e2 : min (l.length - p) (l.length + (32 - l.length) - p) = l.length - p := by omega
  have e3 : min p l.length = p := by omega
  simp only [e1, e2, e3]
  (repeat' split) <;> first
    | rfl
    | (exfalso; omega)
    | (congr 1; omega)
theorem take_places (l : List Or) (n : Nat) (hn : n ≤ l.length) (h : l.length ≤ 32) : (movedT (padT l) 0 n (l.length - n)).take (l.length - n) ++ List.replicate n noOr ++ (movedT (padT l) 0 n (l.length - n)).drop l.length = padT (l.drop n) := by
  unfold padT movedT
  apply List.ext_getElem?
  intro i
  simp only [List.getElem?_append, List.length_append, List.length_take, List.length_replicate, List.length_drop, List.getElem?_take, List.getElem?_drop, List.getElem?_replicate, Nat.zero_add, List.take_zero, List.nil_append, List.length_nil, Nat.zero_min]
  have e1 : min (l.length - n) (l.length + (32 - l.length) - n) = l.length - n := by omega
  simp only [e1]
  have e2 : min (l.length - n) (l.length - n + (l.length + (32 - l.length) - (l.length - n))) = l.length - n := by omega
  simp only [e2]
  (repeat' split) <;> first
    | rfl
    | (exfalso; omega)
    | (congr 1; omega)
theorem got_places (l : List Or) (n : Nat) (hn : n ≤ l.length) : (padT l).take n = l.take n := by
  unfold padT
  rw [List.take_append_of_le_length hn]
/-! ### The document's queue: as they came -/
structure Rf where
  l : List Or
  frm : Int
def rf0 : Rf := ⟨[], 0⟩
def rputT (r : Rf) (o : Or) : Rf × Int := if ¬ May o then (r, 1) else if o.1 < r.frm then (r, 240) else if r.l.length = 32 then (r, 5) else (⟨r.l ++ [o], r.frm⟩, 0)
def restT (a : Int) (l : List Or) : List Or := l.filter (fun o => decide (a < o.1))
def goneT (a : Int) (l : List Or) : List Or := l.filter (fun o => decide (o.1 ≤ a))
def rdueT (r : Rf) (a : Int) : Rf × List Or := (⟨restT (nearA a) r.l, maxT r.frm (nearA a)⟩, sortT (goneT (nearA a) r.l))
/-- Both queues are alike. -/
def Alike (s : St) (r : Rf) : Prop := s.l = sortT r.l ∧ s.frm = r.frm
theorem alike_0 : Alike st0 rf0 := ⟨rfl, rfl⟩
theorem alike_put {s : St} {r : Rf} (h : Alike s r) (o : Or) : Alike (putT s o).1 (rputT r o).1 ∧ (putT s o).2 = (rputT r o).2 := by
  obtain ⟨h1, h2⟩ := h
  unfold putT rputT
  rw [h1, h2, sort_len]
  split
  · exact ⟨⟨h1, h2⟩, rfl⟩
  · split
    · exact ⟨⟨h1, h2⟩, rfl⟩
    · split
      · exact ⟨⟨h1, h2⟩, rfl⟩
      · exact ⟨⟨(sort_snoc _ _).symm, by first | exact h2 | rfl⟩, rfl⟩
theorem ins_apart (a : Int) (o : Or) (A B : List Or) (hA : ∀ x ∈ A, x.1 ≤ a) (hB : ∀ x ∈ B, a < x.1) : insT o (A ++ B) = if o.1 ≤ a then insT o A ++ B else A ++ insT o B := by
  by_cases h : o.1 ≤ a
  · rw [if_pos h]
    have hd : due o.1 (A ++ B) = due o.1 A := by
      induction A with
      | nil => cases B with
        | nil => rfl
        | cons x B => rw [List.nil_append, due_cons, due_nil, if_neg (by have := hB x (by simp); omega)]
      | cons x A ih => rw [List.cons_append, due_cons, due_cons, ih (fun y hy => hA y (by simp [hy]))]
    have hl := due_le o.1 A
    unfold insT
    rw [hd, List.take_append_of_le_length hl, List.drop_append_of_le_length hl]
    simp
  · rw [if_neg h]
    have hd : due o.1 (A ++ B) = A.length + due o.1 B := by
      induction A with
      | nil => simp
      | cons x A ih =>
        rw [List.cons_append, due_cons, ih (fun y hy => hA y (by simp [hy])), if_pos (by have := hA x (by simp); omega)]
        simp
        omega
    unfold insT
    rw [hd, List.take_append, List.drop_append, List.take_of_length_le (by omega), List.drop_of_length_le (by omega), List.nil_append, Nat.add_sub_cancel_left, List.append_assoc]
/-- By the last one. -/
theorem snoc_ind {motive : List Or → Prop} (nil : motive []) (snoc : ∀ l o, motive l → motive (l ++ [o])) (l : List Or) : motive l := by
  suffices h : ∀ r : List Or, motive r.reverse by simpa using h l.reverse
  intro r
  induction r with
  | nil => exact nil
  | cons x r ih => rw [List.reverse_cons]; exact snoc _ _ ih
theorem sort_apart (a : Int) (l : List Or) : sortT l = sortT (goneT a l) ++ sortT (restT a l) := by
  induction l using snoc_ind with
  | nil => rfl
  | snoc l o ih =>
    have hA : ∀ x ∈ sortT (goneT a l), x.1 ≤ a := fun x hx => by
      have := (sort_perm _).mem_iff.1 hx
      simpa using (List.mem_filter.1 this).2
    have hB : ∀ x ∈ sortT (restT a l), a < x.1 := fun x hx => by
      have := (sort_perm _).mem_iff.1 hx
      simpa using (List.mem_filter.1 this).2
    rw [sort_snoc, ih, ins_apart a o _ _ hA hB]
    unfold goneT restT at *
    rw [List.filter_append, List.filter_append]
    by_cases h : o.1 ≤ a
    · rw [if_pos h, List.filter_cons_of_pos (by simpa using h), List.filter_cons_of_neg (by simp; omega), List.filter_nil, List.filter_nil, List.append_nil, sort_snoc]
    · rw [if_neg h, List.filter_cons_of_neg (by simpa using h), List.filter_cons_of_pos (by simp; omega), List.filter_nil, List.filter_nil, List.append_nil, sort_snoc]
theorem due_apart (a : Int) (A B : List Or) (hA : ∀ x ∈ A, x.1 ≤ a) (hB : ∀ x ∈ B, a < x.1) : due a (A ++ B) = A.length := by
  induction A with
  | nil => cases B with
    | nil => rfl
    | cons x B => rw [List.nil_append, due_cons, if_neg (by have := hB x (by simp); omega)]; rfl
  | cons x A ih => rw [List.cons_append, due_cons, ih (fun y hy => hA y (by simp [hy])), if_pos (hA x (by simp))]; simp
theorem alike_due {s : St} {r : Rf} (h : Alike s r) (a : Int) : Alike (dueT s a).1 (rdueT r a).1 ∧ (dueT s a).2 = (rdueT r a).2 := by
  obtain ⟨h1, h2⟩ := h
  unfold dueT takeT rdueT Alike
  generalize nearA a = n
  dsimp only
  have hA : ∀ x ∈ sortT (goneT n r.l), x.1 ≤ n := fun x hx => by
    have := (sort_perm _).mem_iff.1 hx
    simpa using (List.mem_filter.1 this).2
  have hB : ∀ x ∈ sortT (restT n r.l), n < x.1 := fun x hx => by
    have := (sort_perm _).mem_iff.1 hx
    simpa using (List.mem_filter.1 this).2
  rw [h1, h2, sort_apart n r.l, due_apart n _ _ hA hB]
  exact ⟨⟨by rw [List.drop_left], rfl⟩, by rw [List.take_left]⟩
end Go.Proofs.YtmefdgmbpihdfaaDoor.Order
