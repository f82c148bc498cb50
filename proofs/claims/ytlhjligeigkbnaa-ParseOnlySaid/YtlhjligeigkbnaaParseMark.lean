/- What parse's told stands for; the walk's places rise. Nothing here speaks of a program. -/
import Derived.Test.YtlhjligeigkbnaaParseTake
set_option linter.unusedSimpArgs false
set_option linter.unusedVariables false
namespace Go.Proofs.Ytlhjligeigkbnaa.Par
open Go.RowKit RU8 Frm
theorem walk_many (o : Nat) (b : List Nat) : (walkP o b).length ≤ b.length := by
  induction o, b using walk_ind with
  | hend o b h => rw [(walk_end o h).1]; exact Nat.zero_le _
  | hbad o b h6 h0 ih =>
    rw [(walk_bad o h6 h0).1]
    rw [List.length_drop] at ih
    omega
  | hgood o b h0 ih =>
    rw [(walk_good o h0).1]
    rw [List.length_drop] at ih
    have h1 := ne_nil (b := b) (by rw [h0]; decide)
    have h2 := lookN_pos h0
    rw [List.length_cons]
    omega
theorem lastEnd_cons (pend : Nat) (p : Place) (ps : List Place) : lastEnd pend (p :: ps) = lastEnd p.end_ ps := rfl
/-- Each place is behind the one ahead. -/
theorem walk_rise (o : Nat) (b : List Nat) (hb : Bytes b) : ∀ pend, pend ≤ o → ∀ k, k < (walkP o b).length → lastEnd pend ((walkP o b).take k) ≤ ((walkP o b).getD k noPlace).at_ := by
  induction o, b using walk_ind with
  | hend o b h => rw [(walk_end o h).1]; intro pend _ k hk; simp at hk
  | hbad o b h6 h0 ih => rw [(walk_bad o h6 h0).1]; exact fun pend hp k hk => ih (bytes_drop hb 1) pend (by omega) k hk
  | hgood o b h0 ih =>
    have hs := (look_size hb h0).1
    have ih := ih (bytes_drop hb _)
    rw [(walk_good o h0).1]
    intro pend hp k hk
    cases k with
    | zero => exact hp
    | succ k =>
      have := ih (o + lookN b) (Nat.le_refl _) k (by simpa using hk)
      rw [List.take_succ_cons, List.getD_cons_succ]
      have e : (⟨o, lookSeq b, lookL b⟩ : Place).end_ = o + lookN b := by unfold Place.end_; rw [hs]
      rw [lastEnd_cons]
      rw [e]
      exact this
/-- A told stands where the events stand. -/
structure Marks (st : St) (nx en : Nat) (bg : Bool) : Prop where
  bg_ : bg = st.prev.isSome
  nx_ : ∀ p, st.prev = some p → nx = (p + 1) % 256
  en0 : st.gap = false → en = st.pend
  en1 : st.gap = true → en < st.pend
theorem marks_start (nx : Nat) : Marks start nx 0 false := ⟨rfl, (fun p h => by cases h), fun _ => rfl, (fun h => by cases h)⟩
theorem marks_order {st : St} {nx en : Nat} {bg : Bool} (h : Marks st nx en bg) (q : Nat) : inO bg nx q = inOrder st.prev q := by
  obtain ⟨pend, prev, s, gap⟩ := st
  have h1 := h.bg_
  have h2 := h.nx_
  cases prev with
  | none => subst h1; rfl
  | some p => subst h1; rw [h2 p rfl]; rfl
theorem marks_gap {st : St} {nx en : Nat} {bg : Bool} (h : Marks st nx en bg) {at_ : Nat} (ha : st.pend ≤ at_) : (st.gap || decide (at_ ≠ st.pend)) = decide (at_ ≠ en) := by
  cases hg : st.gap with
  | false => rw [h.en0 hg]; rfl
  | true =>
    have := h.en1 hg
    rw [Bool.true_or]
    exact (decide_eq_true (by omega)).symm
theorem marks_next {st : St} {nx en : Nat} {bg : Bool} (h : Marks st nx en bg) (p : Place) (hp : st.pend ≤ p.at_) : Marks (st.next p) ((p.seq + 1) % 256) (if inOrder st.prev p.seq then p.end_ else en) true := by
  have hen : en ≤ st.pend := by
    cases hg : st.gap with
    | false => rw [h.en0 hg]; exact Nat.le_refl _
    | true => exact Nat.le_of_lt (h.en1 hg)
  cases hi : inOrder st.prev p.seq with
  | true =>
    rw [(evs_in hi).2]
    exact ⟨rfl, (fun q hq => by injection hq with hq; rw [← hq]), (fun _ => rfl), (fun h => by cases h)⟩
  | false =>
    rw [(evs_out hi).2]
    exact ⟨rfl, (fun q hq => by injection hq with hq; rw [← hq]), (fun h => by cases h), (fun _ => by show en < p.end_; unfold Place.end_; omega)⟩
theorem marks_evs {st : St} {nx en : Nat} {bg : Bool} (h : Marks st nx en bg) (p : Place) (hp : st.pend ≤ p.at_) (hi : inOrder st.prev p.seq = true) : st.evs p = (if p.at_ ≠ en then [(1, st.s, (0, false))] else []) ++ evS st.s p.l := by
  rw [(evs_in hi).1, marks_gap h hp]
  by_cases e : p.at_ = en <;> simp [e]
end Go.Proofs.Ytlhjligeigkbnaa.Par
