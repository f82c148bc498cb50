/- Where the frames of a walk stand; the samples of events; reckoned. Nothing here speaks of a program. -/
import Derived.Test.YtlhjligeigkbnaaParseIs
set_option linter.unusedSimpArgs false
set_option linter.unusedVariables false
namespace Go.Proofs.Ytlhjligeigkbnaa.Par
open Go.RowKit RU8 Frm
/-- Each frame of a walk stands behind the one ahead. -/
theorem walk_stands (o : Nat) (b : List Nat) (hb : Bytes b) : ∀ i, i < (walkP o b).length → ∃ k, ((walkP o b).getD i noPlace).at_ = o + k ∧ lookE (b.drop k) = 0 ∧ lookSeq (b.drop k) = ((walkP o b).getD i noPlace).seq ∧ lookL (b.drop k) = ((walkP o b).getD i noPlace).l ∧
    lastEnd o ((walkP o b).take i) ≤ o + k ∧ k < b.length ∧ lastEnd o ((walkP o b).take (i + 1)) ≤ endP o b := by
  induction o, b using walk_ind with
  | hend o b h => rw [(walk_end o h).1]; intro i hi; simp at hi
  | hbad o b h6 h0 ih =>
    rw [(walk_bad o h6 h0).1, (walk_bad o h6 h0).2]
    have hl := ne_nil h6
    intro i hi
    obtain ⟨k, h1, h2, h3, h4, h5, h7, h8⟩ := ih (bytes_drop hb 1) i hi
    rw [List.drop_drop] at h2 h3 h4
    rw [List.length_drop] at h7
    refine ⟨1 + k, by omega, h2, h3, h4, ?_, by omega, ?_⟩
    · cases i with
      | zero => simp [lastEnd]
      | succ i =>
        have e : ∀ pend, lastEnd pend ((walkP (o + 1) (b.drop 1)).take (i + 1)) = ((walkP (o + 1) (b.drop 1)).getD i noPlace).end_ := fun pend => by rw [take_step _ noPlace i (by omega), lastEnd_snoc]
        rw [e] at h5 ⊢
        omega
    · have e : ∀ pend, lastEnd pend ((walkP (o + 1) (b.drop 1)).take (i + 1)) = ((walkP (o + 1) (b.drop 1)).getD i noPlace).end_ := fun pend => by rw [take_step _ noPlace i hi, lastEnd_snoc]
      rw [e] at h8 ⊢
      exact h8
  | hgood o b h0 ih =>
    have hn := look_size hb h0
    have he := end_ge (o + lookN b) (b.drop (lookN b))
    have g1 := (walk_good o h0).1
    have g2 := (walk_good o h0).2
    rw [g1, g2]
    have ih := ih (bytes_drop hb _)
    obtain ⟨n1, n2, n3, n4, n5⟩ := hn
    obtain ⟨q, hq⟩ : ∃ q, lookSeq b = q := ⟨_, rfl⟩
    obtain ⟨l, hl⟩ : ∃ l, lookL b = l := ⟨_, rfl⟩
    obtain ⟨N, hN⟩ : ∃ N, lookN b = N := ⟨_, rfl⟩
    rw [hl, hN] at n1
    rw [hN] at n2 he ih ⊢
    rw [hq, hl]
    clear g1 g2 n3 n4 n5
    generalize walkP (o + N) (b.drop N) = ps at *
    generalize endP (o + N) (b.drop N) = E at *
    intro i hi
    cases i with
    | zero =>
      refine ⟨0, rfl, by rw [List.drop_zero]; exact h0, by rw [List.drop_zero, hq]; rfl, by rw [List.drop_zero, hl]; rfl, Nat.le_refl _, by omega, ?_⟩
      have : lastEnd o ((({ at_ := o, seq := q, l := l } : Place) :: ps).take 1) = o + (6 + 3 * l.length) := rfl
      rw [this, ← n1]
      exact he
    | succ i =>
      obtain ⟨k, h1, h2, h3, h4, h5, h7, h8⟩ := ih i (by simpa using hi)
      rw [List.drop_drop] at h2 h3 h4
      rw [List.length_drop] at h7
      have e : ∀ m, lastEnd o ((({ at_ := o, seq := q, l := l } : Place) :: ps).take (m + 1)) = lastEnd (o + N) (ps.take m) := fun m => by
        rw [n1]; rfl
      exact ⟨N + k, by rw [List.getD_cons_succ]; omega, h2, by rw [List.getD_cons_succ]; exact h3, by rw [List.getD_cons_succ]; exact h4, by rw [e]; omega, by omega, by rw [e]; exact h8⟩
/-- The samples of events. -/
def samplesOf (es : List Ev) : List Samp := es.filterMap fun e => if e.1 = 2 then some e.2.2 else none
theorem samplesOf_append (a b : List Ev) : samplesOf (a ++ b) = samplesOf a ++ samplesOf b := List.filterMap_append
theorem samplesOf_evS (s : Nat) (l : List Samp) : samplesOf (evS s l) = l := by
  induction l generalizing s with
  | nil => rfl
  | cons x l ih =>
    have := ih (s + 1)
    unfold samplesOf at this ⊢
    simp [evS, this]
theorem samplesOf_evs (st : St) (p : Place) : samplesOf (st.evs p) = if inOrder st.prev p.seq then p.l else [] := by
  unfold St.evs
  split
  · rw [samplesOf_append, samplesOf_evS]
    split <;> simp [samplesOf]
  · rfl
theorem want_step (ps : List Place) (i : Nat) (h : i < ps.length) : samplesOf (eventsL start (ps.take (i + 1))) = samplesOf (eventsL start (ps.take i)) ++ (if inOrder (stAt ps i).prev (ps.getD i noPlace).seq then (ps.getD i noPlace).l else []) := by
  rw [ev_step ps i h, samplesOf_append, samplesOf_evs]
theorem got_step (es : List Ev) (i : Nat) (h : i < es.length) : samplesOf (es.take (i + 1)) = samplesOf (es.take i) ++ (if (es.getD i noEv).1 = 2 then [(es.getD i noEv).2.2] else []) := by
  rw [take_step es noEv i h, samplesOf_append]
  congr 1
  unfold samplesOf
  split <;> simp_all
theorem samples_few (es : List Ev) : (samplesOf es).length ≤ es.length := List.length_filterMap_le _ _
/-- A gap is empty, and a sample stands behind it. -/
def GoodEv (es : List Ev) : Prop := ∀ i, i < es.length → (es.getD i noEv).1 = 2 ∨ ((es.getD i noEv).1 = 1 ∧ (es.getD i noEv).2.2 = (0, false) ∧ i + 1 < es.length ∧ (es.getD (i + 1) noEv).1 = 2)
theorem getD_left {α : Type} (a b : List α) (d : α) (i : Nat) (h : i < a.length) : (a ++ b).getD i d = a.getD i d := by
  rw [List.getD_eq_getElem?_getD, List.getElem?_append_left h, ← List.getD_eq_getElem?_getD]
theorem getD_right {α : Type} (a b : List α) (d : α) (i : Nat) (h : a.length ≤ i) : (a ++ b).getD i d = b.getD (i - a.length) d := by
  rw [List.getD_eq_getElem?_getD, List.getElem?_append_right h, ← List.getD_eq_getElem?_getD]
theorem good_append {a b : List Ev} (ha : GoodEv a) (hb : GoodEv b) : GoodEv (a ++ b) := by
  intro i hi
  rw [List.length_append] at hi ⊢
  rcases Nat.lt_or_ge i a.length with h | h
  · rw [getD_left a b noEv i h]
    rcases ha i h with h1 | ⟨h1, h2, h3, h4⟩
    · exact .inl h1
    · exact .inr ⟨h1, h2, by omega, by rw [getD_left a b noEv _ h3]; exact h4⟩
  · rw [getD_right a b noEv i h, getD_right a b noEv (i + 1) (by omega), show i + 1 - a.length = i - a.length + 1 by omega]
    rcases hb (i - a.length) (by omega) with h1 | ⟨h1, h2, h3, h4⟩
    · exact .inl h1
    · exact .inr ⟨h1, h2, by omega, h4⟩
theorem good_evS (s : Nat) (l : List Samp) : GoodEv (evS s l) := by
  induction l generalizing s with
  | nil => intro i hi; simp [evS] at hi
  | cons x l ih =>
    intro i hi
    cases i with
    | zero => exact .inl rfl
    | succ i =>
      have h1 := ih (s + 1) i (by simpa [evS] using hi)
      simp only [evS, List.getD_cons_succ, List.length_cons]
      rcases h1 with h1 | ⟨h1, h2, h3, h4⟩
      · exact .inl h1
      · exact .inr ⟨h1, h2, by omega, h4⟩
theorem good_evs (st : St) (p : Place) (h : 1 ≤ p.l.length) : GoodEv (st.evs p) := by
  unfold St.evs
  split
  · split
    · intro i hi
      cases i with
      | zero =>
        cases hl : p.l with
        | nil => rw [hl] at h; simp at h
        | cons x l => exact .inr ⟨rfl, rfl, by simp [evS], rfl⟩
      | succ i =>
        have h1 := good_evS st.s p.l i (by simpa using hi)
        simp only [List.cons_append, List.nil_append, List.getD_cons_succ, List.length_cons]
        rcases h1 with h1 | ⟨h1, h2, h3, h4⟩
        · exact .inl h1
        · exact .inr ⟨h1, h2, by omega, h4⟩
    · exact good_evS _ _
  · intro i hi; simp at hi
theorem good_events (st : St) (ps : List Place) (h : ∀ p ∈ ps, 1 ≤ p.l.length) : GoodEv (eventsL st ps) := by
  induction ps generalizing st with
  | nil => intro i hi; simp [eventsL] at hi
  | cons p ps ih => exact good_append (good_evs st p (h p (by simp))) (ih _ (fun q hq => h q (by simp [hq])))
end Go.Proofs.Ytlhjligeigkbnaa.Par
