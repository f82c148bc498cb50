/- The walk over bytes, and its events, reckoned. Nothing here speaks of a program. -/
import Derived.Test.YtlhjligeigkbnaaFrameBackMath
set_option linter.unusedSimpArgs false
set_option linter.unusedVariables false
namespace Go.Proofs.Ytlhjligeigkbnaa.Par
open Go.RowKit RU8 Frm

theorem look_nil : lookE [] = 6 := lookE_bad (i := 0) rfl (by decide) (by decide)
theorem err_before {b : List Nat} {k : Nat} (h : firstErr b k = 0) (j : Nat) (hj : j < k) : errAt b j = 0 := by
  induction k with
  | zero => omega
  | succ k ih =>
    have h1 : firstErr b k = 0 := Classical.byContradiction fun h2 => by
      have := firstErr_stay h2 (k + 1) (by omega)
      rw [h] at this
      exact h2 this.symm
    rw [firstErr, if_neg (by rw [h1]; simp)] at h
    rcases (by omega : j = k ∨ j < k) with rfl | h2
    · exact h
    · exact ih h1 h2
theorem getD_more (c r : List Nat) (i : Nat) (h : i < c.length) : (c ++ r).getD i 0 = c.getD i 0 := by
  rw [List.getD_eq_getElem?_getD, List.getElem?_append_left h, ← List.getD_eq_getElem?_getD]
theorem err_more {c : List Nat} (r : List Nat) {k : Nat} (h0 : firstErr c k = 0) (h6 : errAt c k ≠ 6) : errAt (c ++ r) k = errAt c k := by
  have hlen : 4 ≤ k → 3 < c.length := fun h => by
    have := err_before h0 3 (by omega)
    rcases Nat.lt_or_ge 3 c.length with h1 | h1
    · exact h1
    · unfold errAt at this
      rw [if_neg (by omega), if_pos h1] at this
      exact absurd this (by decide)
  have hs : 3 < c.length → sizeT (c ++ r) = sizeT c := fun h => by unfold sizeT; rw [getD_more c r 3 h]
  by_cases hz : 4 ≤ k ∧ sizeT c ≤ k
  · unfold errAt
    rw [if_pos hz, if_pos (by rw [hs (hlen hz.1)]; exact hz)]
  · have hk : k < c.length := by
      rcases Nat.lt_or_ge k c.length with h1 | h1
      · exact h1
      · unfold errAt at h6
        rw [if_neg hz, if_pos h1] at h6
        exact absurd rfl h6
    have hkr : ¬ (c ++ r).length ≤ k := by rw [List.length_append]; omega
    have g0 := getD_more c r 0 (by omega)
    have gk := getD_more c r k hk
    by_cases h4 : 4 ≤ k
    · have g1 := getD_more c r 1 (by omega)
      have g3 := getD_more c r 3 (by omega)
      have e := hs (by omega)
      have ht : k + 1 = sizeT c → (c ++ r).take (sizeT c) = c.take (sizeT c) := fun h => by rw [List.take_append_of_le_length (by omega)]
      unfold errAt
      rw [e, if_neg hz, if_neg hz, if_neg hkr, if_neg (by omega : ¬ c.length ≤ k), g0, g1, g3, gk]
      by_cases h1 : k + 1 = sizeT c
      · rw [ht h1]
      · simp only [h1, false_and]
    · unfold errAt
      rw [if_neg (show ¬ (4 ≤ k ∧ sizeT (c ++ r) ≤ k) by omega), if_neg hkr, if_neg (show ¬ (4 ≤ k ∧ sizeT c ≤ k) by omega), if_neg (show ¬ c.length ≤ k by omega)]
      rcases (by omega : k = 0 ∨ k = 1 ∨ k = 2 ∨ k = 3) with rfl | rfl | rfl | rfl
      · rw [g0]; simp
      · rw [gk]; simp
      · simp
      · rw [gk]; simp
theorem first_more {c : List Nat} (r : List Nat) (k : Nat) (h : firstErr c k ≠ 6) : firstErr (c ++ r) k = firstErr c k := by
  induction k with
  | zero => rfl
  | succ k ih =>
    by_cases h0 : firstErr c k = 0
    · have e := ih (by rw [h0]; decide)
      rw [firstErr, if_neg (by rw [h0]; simp)] at h
      rw [firstErr, if_neg (by rw [e, h0]; simp), firstErr, if_neg (by rw [h0]; simp)]
      exact err_more r h0 h
    · rw [firstErr, if_pos h0] at h
      have e := ih h
      rw [firstErr, if_pos (by rw [e]; exact h0), firstErr, if_pos h0, e]
/-- What isn't cut off reads the same, whatever stands behind. -/
theorem look_more {c : List Nat} (hc : Bytes c) (r : List Nat) (h : lookE c ≠ 6) : lookE (c ++ r) = lookE c ∧ lookSeq (c ++ r) = lookSeq c ∧ lookL (c ++ r) = lookL c ∧ lookN (c ++ r) = lookN c := by
  have e : lookE (c ++ r) = lookE c := first_more r 102 h
  by_cases h0 : lookE c = 0
  · obtain ⟨h1, h2, h3, _⟩ := look_made hc h0
    have hf := look_frame h1 (c.drop (lookN c) ++ r) (seq := lookSeq c)
    rw [h2, ← List.append_assoc, List.take_append_drop] at hf
    have hn : lookN c = 6 + 3 * (lookL c).length := by
      have := congrArg List.length h2
      rw [frameT_length, List.length_take] at this
      omega
    exact ⟨hf.1.trans h0.symm, hf.2.1, hf.2.2.1, hf.2.2.2.trans hn.symm⟩
  · have h1 := look_bad h0
    have h2 := look_bad (b := c ++ r) (by rw [e]; exact h0)
    exact ⟨e, by rw [h1.1, h2.1], by rw [h1.2.1, h2.2.1], by rw [h1.2.2, h2.2.2]⟩
theorem look_size {b : List Nat} (hb : Bytes b) (h : lookE b = 0) : lookN b = 6 + 3 * (lookL b).length ∧ lookN b ≤ b.length ∧ 1 ≤ (lookL b).length ∧ (lookL b).length ≤ 32 ∧ lookSeq b < 256 := by
  obtain ⟨h1, h2, h3, h4⟩ := look_made hb h
  have := congrArg List.length h2
  rw [frameT_length, List.length_take] at this
  have hm := of_decide_eq_true (by simpa only [mayT] using h1)
  exact ⟨by omega, h3, hm.1, hm.2.1, h4⟩
theorem lookN_pos {b : List Nat} (h : lookE b = 0) : 6 ≤ lookN b := by rw [(look_ok h).2.2]; unfold sizeT; omega

/-- A frame of the walk: where it begins, its number, its samples. -/
structure Place where
  at_ : Nat
  seq : Nat
  l : List Samp
def Place.end_ (p : Place) : Nat := p.at_ + (6 + 3 * p.l.length)
def walkP (o : Nat) (b : List Nat) : List Place :=
  if h6 : lookE b = 6 then [] else if h0 : lookE b ≠ 0 then walkP (o + 1) (b.drop 1) else ⟨o, lookSeq b, lookL b⟩ :: walkP (o + lookN b) (b.drop (lookN b))
termination_by b.length
decreasing_by
  · cases b with
    | nil => exact absurd look_nil h6
    | cons => simp
  · cases b with
    | nil => exact absurd look_nil h6
    | cons =>
      have := lookN_pos (Classical.byContradiction h0)
      rw [List.length_drop]
      simp
      omega
def endP (o : Nat) (b : List Nat) : Nat :=
  if h6 : lookE b = 6 then o else if h0 : lookE b ≠ 0 then endP (o + 1) (b.drop 1) else endP (o + lookN b) (b.drop (lookN b))
termination_by b.length
decreasing_by
  · cases b with
    | nil => exact absurd look_nil h6
    | cons => simp
  · cases b with
    | nil => exact absurd look_nil h6
    | cons =>
      have := lookN_pos (Classical.byContradiction h0)
      rw [List.length_drop]
      simp
      omega
theorem walk_end {b : List Nat} (o : Nat) (h : lookE b = 6) : walkP o b = [] ∧ endP o b = o := by
  constructor
  · unfold walkP; exact dif_pos h
  · unfold endP; exact dif_pos h
theorem walk_bad {b : List Nat} (o : Nat) (h6 : lookE b ≠ 6) (h0 : lookE b ≠ 0) : walkP o b = walkP (o + 1) (b.drop 1) ∧ endP o b = endP (o + 1) (b.drop 1) := by
  constructor
  · conv => lhs; unfold walkP
    exact (dif_neg h6).trans (dif_pos h0)
  · conv => lhs; unfold endP
    exact (dif_neg h6).trans (dif_pos h0)
theorem walk_good {b : List Nat} (o : Nat) (h0 : lookE b = 0) : walkP o b = ⟨o, lookSeq b, lookL b⟩ :: walkP (o + lookN b) (b.drop (lookN b)) ∧ endP o b = endP (o + lookN b) (b.drop (lookN b)) := by
  have h6 : ¬ lookE b = 6 := by rw [h0]; decide
  have h1 : ¬ lookE b ≠ 0 := fun h => h h0
  constructor
  · conv => lhs; unfold walkP
    exact (dif_neg h6).trans (dif_neg h1)
  · conv => lhs; unfold endP
    exact (dif_neg h6).trans (dif_neg h1)
theorem ne_nil {b : List Nat} (h6 : lookE b ≠ 6) : 1 ≤ b.length := by
  cases b with
  | nil => exact absurd look_nil h6
  | cons => simp
theorem bytes_drop {b : List Nat} (h : Bytes b) (k : Nat) : Bytes (b.drop k) := fun y hy => h y (List.mem_of_mem_drop hy)
theorem bytes_take {b : List Nat} (h : Bytes b) (k : Nat) : Bytes (b.take k) := fun y hy => h y (List.mem_of_mem_take hy)
/-- An induction over the walk. -/
theorem walk_ind {motive : Nat → List Nat → Prop} (hend : ∀ o b, lookE b = 6 → motive o b) (hbad : ∀ o b, lookE b ≠ 6 → lookE b ≠ 0 → motive (o + 1) (b.drop 1) → motive o b)
    (hgood : ∀ o b, lookE b = 0 → motive (o + lookN b) (b.drop (lookN b)) → motive o b) (o : Nat) (b : List Nat) : motive o b := by
  obtain ⟨n, hn⟩ : ∃ n, b.length = n := ⟨_, rfl⟩
  induction n using Nat.strongRecOn generalizing o b with
  | ind n ih =>
    by_cases h6 : lookE b = 6
    · exact hend o b h6
    · have h1 := ne_nil h6
      by_cases h0 : lookE b = 0
      · have := lookN_pos h0
        exact hgood o b h0 (ih (b.drop (lookN b)).length (by rw [List.length_drop]; omega) _ _ rfl)
      · exact hbad o b h6 h0 (ih (b.drop 1).length (by rw [List.length_drop]; omega) _ _ rfl)
theorem end_ge (o : Nat) (b : List Nat) : o ≤ endP o b := by
  induction o, b using walk_ind with
  | hend o b h => rw [(walk_end o h).2]; omega
  | hbad o b h6 h0 ih => rw [(walk_bad o h6 h0).2]; omega
  | hgood o b h0 ih => rw [(walk_good o h0).2]; omega
theorem end_le (o : Nat) (b : List Nat) (hb : Bytes b) : endP o b ≤ o + b.length := by
  induction o, b using walk_ind with
  | hend o b h => rw [(walk_end o h).2]; omega
  | hbad o b h6 h0 ih =>
    rw [(walk_bad o h6 h0).2]
    have := ih (bytes_drop hb 1)
    have := ne_nil h6
    rw [List.length_drop] at *
    omega
  | hgood o b h0 ih =>
    rw [(walk_good o h0).2]
    have := ih (bytes_drop hb _)
    have := (look_size hb h0).2.1
    rw [List.length_drop] at *
    omega
def Place.shift (s : Nat) (p : Place) : Place := { p with at_ := p.at_ + s }
theorem walk_shift (o : Nat) (b : List Nat) (s : Nat) : walkP (o + s) b = (walkP o b).map (Place.shift s) ∧ endP (o + s) b = endP o b + s := by
  induction o, b using walk_ind with
  | hend o b h => rw [(walk_end _ h).1, (walk_end _ h).1, (walk_end _ h).2, (walk_end _ h).2]; exact ⟨rfl, rfl⟩
  | hbad o b h6 h0 ih =>
    rw [(walk_bad (o + s) h6 h0).1, (walk_bad o h6 h0).1, (walk_bad (o + s) h6 h0).2, (walk_bad o h6 h0).2, show o + s + 1 = o + 1 + s by omega]
    exact ih
  | hgood o b h0 ih =>
    rw [(walk_good (o + s) h0).1, (walk_good o h0).1, (walk_good (o + s) h0).2, (walk_good o h0).2, show o + s + lookN b = o + lookN b + s by omega, List.map_cons, ih.1]
    generalize lookSeq b = q
    generalize lookL b = l
    generalize (walkP (o + lookN b) (b.drop (lookN b))).map (Place.shift s) = r
    exact ⟨rfl, ih.2⟩
/-- Of what is cut, the walk is the beginning of the walk of all; the rest is walked as by itself. -/
theorem walk_cut (o : Nat) (c : List Nat) (hc : Bytes c) (r : List Nat) :
    walkP o (c ++ r) = walkP o c ++ walkP (endP o c) ((c ++ r).drop (endP o c - o)) ∧ endP o (c ++ r) = endP (endP o c) ((c ++ r).drop (endP o c - o)) := by
  induction o, c using walk_ind with
  | hend o c h =>
    rw [(walk_end o h).1, (walk_end o h).2, Nat.sub_self, List.nil_append, List.drop_zero]
    exact ⟨rfl, rfl⟩
  | hbad o c h6 h0 ih =>
    have e := (look_more hc r h6).1
    have h6' : lookE (c ++ r) ≠ 6 := by rw [e]; exact h6
    have h0' : lookE (c ++ r) ≠ 0 := by rw [e]; exact h0
    have hl := ne_nil h6
    obtain ⟨i1, i2⟩ := ih (bytes_drop hc 1)
    have hge := end_ge (o + 1) (c.drop 1)
    have hd : c.drop 1 ++ r = (c ++ r).drop 1 := by rw [List.drop_append_of_le_length hl]
    rw [(walk_bad o h6' h0').1, (walk_bad o h6' h0').2, (walk_bad o h6 h0).1, (walk_bad o h6 h0).2, ← hd, i1, i2, hd, List.drop_drop, show 1 + (endP (o + 1) (c.drop 1) - (o + 1)) = endP (o + 1) (c.drop 1) - o by omega]
    exact ⟨rfl, rfl⟩
  | hgood o c h0 ih =>
    obtain ⟨e, e1, e2, e3⟩ := look_more hc r (by rw [h0]; decide)
    have hl := (look_size hc h0).2.1
    obtain ⟨i1, i2⟩ := ih (bytes_drop hc _)
    have hge := end_ge (o + lookN c) (c.drop (lookN c))
    have hd : c.drop (lookN c) ++ r = (c ++ r).drop (lookN c) := by rw [List.drop_append_of_le_length hl]
    rw [(walk_good o (e.trans h0)).1, (walk_good o (e.trans h0)).2, (walk_good o h0).1, (walk_good o h0).2, e1, e2, e3, ← hd, i1, i2, hd, List.drop_drop, show lookN c + (endP (o + lookN c) (c.drop (lookN c)) - (o + lookN c)) = endP (o + lookN c) (c.drop (lookN c)) - o by omega]
    exact ⟨rfl, rfl⟩

/-! ### Events -/
/-- An event: its kind, its At, its sample. -/
abbrev Ev := Nat × Nat × Samp
def evS (s : Nat) : List Samp → List Ev
  | [] => []
  | x :: l => (2, s, x) :: evS (s + 1) l
theorem evS_length (s : Nat) (l : List Samp) : (evS s l).length = l.length := by
  induction l generalizing s with
  | nil => rfl
  | cons x l ih => simp [evS, ih]
theorem evS_append (s : Nat) (l m : List Samp) : evS s (l ++ m) = evS s l ++ evS (s + l.length) m := by
  induction l generalizing s with
  | nil => rfl
  | cons x l ih => simp only [List.cons_append, evS, ih, List.length_cons, show s + 1 + l.length = s + (l.length + 1) by omega]
/-- Where the events stand: where the last frame ended, its number, how many samples there were, and whether there is a gap. -/
structure St where
  pend : Nat
  prev : Option Nat
  s : Nat
  gap : Bool
def inOrder (prev : Option Nat) (q : Nat) : Bool := match prev with
  | none => true
  | some p => decide (q = (p + 1) % 256)
def St.next (st : St) (p : Place) : St := if inOrder st.prev p.seq then ⟨p.end_, some p.seq, st.s + p.l.length, false⟩ else ⟨p.end_, some p.seq, st.s, true⟩
def St.evs (st : St) (p : Place) : List Ev := if inOrder st.prev p.seq then (if st.gap || decide (p.at_ ≠ st.pend) then [(1, st.s, (0, false))] else []) ++ evS st.s p.l else []
def eventsL (st : St) : List Place → List Ev
  | [] => []
  | p :: ps => st.evs p ++ eventsL (st.next p) ps
def afterL (st : St) : List Place → St
  | [] => st
  | p :: ps => afterL (st.next p) ps
theorem events_append (st : St) (ps qs : List Place) : eventsL st (ps ++ qs) = eventsL st ps ++ eventsL (afterL st ps) qs := by
  induction ps generalizing st with
  | nil => rfl
  | cons p ps ih => simp only [List.cons_append, eventsL, afterL, ih, List.append_assoc]
theorem after_append (st : St) (ps qs : List Place) : afterL st (ps ++ qs) = afterL (afterL st ps) qs := by
  induction ps generalizing st with
  | nil => rfl
  | cons p ps ih => simp only [List.cons_append, afterL, ih]
def start : St := ⟨0, none, 0, false⟩
def eventsT (b : List Nat) : List Ev := eventsL start (walkP 0 b)
def endT (b : List Nat) : Nat := endP 0 b
/-- P7.3. -/
theorem events_cut (b : List Nat) (hb : Bytes b) (k : Nat) (hk : k ≤ b.length) :
    (∃ r, eventsT b = eventsT (b.take k) ++ r) ∧ endT (b.take k) ≤ k ∧ endT (b.take k) ≤ endT b ∧ endT (b.drop (endT (b.take k))) = endT b - endT (b.take k) ∧
      (walkP 0 (b.drop (endT (b.take k)))).length + (walkP 0 (b.take k)).length = (walkP 0 b).length := by
  obtain ⟨h1, h2⟩ := walk_cut 0 (b.take k) (bytes_take hb k) (b.drop k)
  rw [List.take_append_drop] at h1 h2
  have hle := end_le 0 (b.take k) (bytes_take hb k)
  rw [List.length_take] at hle
  have hge := end_ge (endP 0 (b.take k)) (b.drop (endP 0 (b.take k)))
  have hs := walk_shift 0 (b.drop (endP 0 (b.take k))) (endP 0 (b.take k))
  rw [Nat.zero_add] at hs
  rw [Nat.sub_zero] at h1 h2
  unfold eventsT endT
  refine ⟨⟨_, by rw [h1, events_append]⟩, by omega, by rw [h2]; exact hge, by rw [h2, hs.2]; omega, ?_⟩
  rw [h1, hs.1, List.length_append, List.length_map]
  omega
end Go.Proofs.Ytlhjligeigkbnaa.Par
