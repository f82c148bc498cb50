/- LeadEach, over whatever code answers as the kit says. -/
import Derived.Test.YtlopkmbindfkjaaLeadLive
import Derived.Test.YtlopkmbindfkjaaFlat
set_option linter.unusedSimpArgs false
set_option linter.unusedVariables false
namespace Go.Proofs.Ytlopkmbindfkjaa.Lead
open Go.RowKit
/-- An event that says nothing. -/
def dumb (e : Ev) : Prop := e.1 ≠ 1 ∧ e.1 ≠ 2
theorem items_dumb (st : St) (e : Ev) (h : dumb e) : st.items e = [] ∧ st.next e = st := by
  unfold St.items St.next
  rw [if_neg h.1, if_neg h.2, if_neg h.1, if_neg h.2]
  exact ⟨rfl, rfl⟩
/-- What is left of a list of events: nothing that speaks, or one that does behind some that don't. -/
theorem parts (st : St) (l : List Ev) (q : Nat) : ((∀ i, q ≤ i → i < l.length → dumb (l.getD i noEv)) ∧ itemsL st (l.drop q) = []) ∨
    ∃ p, q ≤ p ∧ p < l.length ∧ (∀ i, q ≤ i → i < p → dumb (l.getD i noEv)) ∧ ((l.getD p noEv).1 = 1 ∨ (l.getD p noEv).1 = 2) ∧ itemsL st (l.drop q) = st.items (l.getD p noEv) ++ itemsL (st.next (l.getD p noEv)) (l.drop (p + 1)) := by
  obtain ⟨k, hk⟩ : ∃ k, l.length - q = k := ⟨_, rfl⟩
  induction k generalizing q with
  | zero => exact .inl ⟨fun i h1 h2 => by omega, by rw [List.drop_eq_nil_of_le (by omega)]; rfl⟩
  | succ k ih =>
    have hd : l.drop q = l.getD q noEv :: l.drop (q + 1) := by
      rw [List.drop_eq_getElem_cons (by omega), List.getD_eq_getElem?_getD, List.getElem?_eq_getElem (by omega)]; rfl
    have hi : itemsL st (l.drop q) = st.items (l.getD q noEv) ++ itemsL (st.next (l.getD q noEv)) (l.drop (q + 1)) := by rw [hd]; rfl
    by_cases hdm : dumb (l.getD q noEv)
    · obtain ⟨h1, h2⟩ := items_dumb st _ hdm
      rw [hi, h1, h2, List.nil_append]
      rcases ih (q + 1) (by omega) with ⟨h3, h4⟩ | ⟨p, h3, h4, h5, h6, h7⟩
      · refine .inl ⟨fun i h8 h9 => ?_, h4⟩
        rcases Nat.eq_or_lt_of_le h8 with rfl | h8
        · exact hdm
        · exact h3 i h8 h9
      · refine .inr ⟨p, by omega, h4, fun i h8 h9 => ?_, h6, h7⟩
        rcases Nat.eq_or_lt_of_le h8 with rfl | h8
        · exact hdm
        · exact h5 i h8 h9
    · refine .inr ⟨q, Nat.le_refl _, by omega, fun i h1 h2 => by omega, ?_, hi⟩
      unfold dumb at hdm
      by_cases h1 : (l.getD q noEv).1 = 1
      · exact .inl h1
      · exact .inr (Decidable.byContradiction fun h2 => hdm ⟨h1, h2⟩)
/-- What the law's loop has before it: the items that are left, whether the lead is on, how many events are done with. -/
inductive Left (l : List Ev) (on : Bool) (q : Nat) : List It → Prop
  | open_ (st : St) (h : st.on = on) : Left l on q (itemsL st (l.drop q))
  | mid (st : St) (p : Nat) (h : st.on = on) (h1 : q ≤ p) (h2 : p < l.length) (h3 : ∀ i, q ≤ i → i < p → dumb (l.getD i noEv)) (h4 : (l.getD p noEv).1 = 2) :
      Left l on q ((if on then (4, (l.getD p noEv).2.1, (l.getD p noEv).2.2.1) else (5, (l.getD p noEv).2.1, 0)) :: itemsL st (l.drop (p + 1)))
/-- What comes next of what is left. -/
theorem left_next {l : List Ev} {on : Bool} {q : Nat} {R : List It} (h : Left l on q R) :
    (R = [] ∧ ∀ i, q ≤ i → i < l.length → dumb (l.getD i noEv)) ∨
    (∃ a R', R = ((if on then 2 else 3 : Int), a, (0 : Int)) :: R' ∧ Left l (!on) q R') ∨
    (∃ p R', q ≤ p ∧ p < l.length ∧ (∀ i, q ≤ i → i < p → dumb (l.getD i noEv)) ∧ Left l on (p + 1) R' ∧
      (((l.getD p noEv).1 = 1 ∧ R = (1, (l.getD p noEv).2.1, 0) :: R') ∨
       ((l.getD p noEv).1 = 2 ∧ R = (if on then (4, (l.getD p noEv).2.1, (l.getD p noEv).2.2.1) else (5, (l.getD p noEv).2.1, 0)) :: R'))) := by
  cases h with
  | mid st p h h1 h2 h3 h4 => exact .inr (.inr ⟨p, _, h1, h2, h3, .open_ st h, .inr ⟨h4, rfl⟩⟩)
  | open_ st h =>
    rcases parts st l q with ⟨h1, h2⟩ | ⟨p, h1, h2, h3, h4, h5⟩
    · exact .inl ⟨h2, h1⟩
    · rcases h4 with h4 | h4
      · refine .inr (.inr ⟨p, _, h1, h2, h3, .open_ (st.next (l.getD p noEv)) ?_, .inl ⟨h4, ?_⟩⟩)
        · unfold St.next; rw [if_pos h4]; exact h
        · rw [h5]; unfold St.items; rw [if_pos h4]; rfl
      · have hn : (st.next (l.getD p noEv)).on = st.on' (l.getD p noEv).2.2.2 := by unfold St.next; rw [if_neg (by omega), if_pos h4]
        have hi : st.items (l.getD p noEv) = (if st.on' (l.getD p noEv).2.2.2 ≠ st.on then [(if st.on then 2 else 3, (l.getD p noEv).2.1, 0)] else []) ++ [if st.on' (l.getD p noEv).2.2.2 then (4, (l.getD p noEv).2.1, (l.getD p noEv).2.2.1) else (5, (l.getD p noEv).2.1, 0)] := by unfold St.items; rw [if_neg (by omega), if_pos h4]
        rw [hi] at h5
        by_cases hc : st.on' (l.getD p noEv).2.2.2 = st.on
        · rw [hc, if_neg (by simp), h] at h5
          rw [hc, h] at hn
          exact .inr (.inr ⟨p, _, h1, h2, h3, .open_ _ hn, .inr ⟨h4, h5⟩⟩)
        · have hno : st.on' (l.getD p noEv).2.2.2 = !on := by rw [h] at hc; revert hc; cases st.on' (l.getD p noEv).2.2.2 <;> cases on <;> simp
          rw [hno] at h5 hn
          rw [if_pos (by rw [h]; cases on <;> simp), h] at h5
          exact .inr (.inl ⟨_, _, h5, .mid _ p hn h1 h2 h3 h4⟩)
end Go.Proofs.Ytlopkmbindfkjaa.Lead
