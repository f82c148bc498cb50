/- Garbage, and frames one behind the other, walked; their events; reckoned. Nothing here speaks of a program. -/
import Derived.Test.YtlhjligeigkbnaaParseIs
set_option linter.unusedSimpArgs false
set_option linter.unusedVariables false
namespace Go.Proofs.Ytlhjligeigkbnaa.Par
open Go.RowKit RU8 Frm
theorem junk_look (x : Nat) (r : List Nat) (h : x ≠ 165) : lookE (x :: r) = 60 := by
  have e := err_at0 (b := x :: r) (by simp)
  rw [if_pos (by simpa using h)] at e
  exact (lookE_bad (i := 0) rfl (by decide) (by rw [e]; decide)).trans e
theorem walk_junk (o : Nat) (J r : List Nat) (h : ∀ x ∈ J, x ≠ 165) : walkP o (J ++ r) = walkP (o + J.length) r ∧ endP o (J ++ r) = endP (o + J.length) r := by
  induction J generalizing o with
  | nil => exact ⟨rfl, rfl⟩
  | cons x J ih =>
    have hl := junk_look x (J ++ r) (h x (by simp))
    obtain ⟨g1, g2⟩ := walk_bad o (b := x :: (J ++ r)) (by rw [hl]; decide) (by rw [hl]; decide)
    obtain ⟨i1, i2⟩ := ih (o + 1) (fun y hy => h y (by simp [hy]))
    rw [List.cons_append, g1, g2, List.drop_one, List.tail_cons, i1, i2, List.length_cons, show o + 1 + J.length = o + (J.length + 1) by omega]
    exact ⟨rfl, rfl⟩
/-- Frames one behind the other, with numbers that go on. -/
def framesOf (q : Nat) : List (List Samp) → List Nat
  | [] => []
  | l :: ls => frameT q l ++ framesOf ((q + 1) % 256) ls
def placesOf (o q : Nat) : List (List Samp) → List Place
  | [] => []
  | l :: ls => ⟨o, q, l⟩ :: placesOf (o + (6 + 3 * l.length)) ((q + 1) % 256) ls
def evsOf (s : Nat) : List (List Samp) → List Ev
  | [] => []
  | l :: ls => evS s l ++ evsOf (s + l.length) ls
def total (ls : List (List Samp)) : Nat := (ls.map List.length).sum
theorem total_snoc (ls : List (List Samp)) (l : List Samp) : total (ls ++ [l]) = total ls + l.length := by simp [total]
theorem walk_frames (o q : Nat) (ls : List (List Samp)) (h : ∀ l ∈ ls, mayT l = true) : walkP o (framesOf q ls) = placesOf o q ls ∧ endP o (framesOf q ls) = o + (framesOf q ls).length := by
  induction ls generalizing o q with
  | nil => obtain ⟨h1, h2⟩ := walk_end o look_nil; exact ⟨h1, h2⟩
  | cons l ls ih =>
    obtain ⟨g1, g2⟩ := walk_frame o q l (h l (by simp)) (framesOf ((q + 1) % 256) ls)
    obtain ⟨i1, i2⟩ := ih (o + (6 + 3 * l.length)) ((q + 1) % 256) (fun m hm => h m (by simp [hm]))
    have e : framesOf q (l :: ls) = frameT q l ++ framesOf ((q + 1) % 256) ls := rfl
    have p : placesOf o q (l :: ls) = ⟨o, q, l⟩ :: placesOf (o + (6 + 3 * l.length)) ((q + 1) % 256) ls := rfl
    rw [e, p, g1, g2, i1, i2, List.length_append, frameT_length, Nat.add_assoc]
    exact ⟨rfl, rfl⟩
theorem events_on (o p s : Nat) (ls : List (List Samp)) : eventsL ⟨o, some p, s, false⟩ (placesOf o ((p + 1) % 256) ls) = evsOf s ls := by
  induction ls generalizing o p s with
  | nil => rfl
  | cons l ls ih =>
    have h := ih (o + (6 + 3 * l.length)) ((p + 1) % 256) (s + l.length)
    rw [show ((p + 1) % 256 + 1) % 256 = (p + 1 + 1) % 256 by omega] at h
    simp only [placesOf, eventsL, evsOf, St.evs, St.next, inOrder, Place.end_]
    simp
    exact h
/-- P7.5. -/
def wantT (dirty : Bool) (ls : List (List Samp)) : List Ev := (if dirty && decide (ls ≠ []) then [(1, 0, (0, false))] else []) ++ evsOf 0 ls
theorem events_first (o q : Nat) (ls : List (List Samp)) : eventsL start (placesOf o q ls) = wantT (decide (0 < o)) ls := by
  cases ls with
  | nil => simp [wantT, placesOf, eventsL, evsOf]
  | cons l ls =>
    have h := events_on (o + (6 + 3 * l.length)) q l.length ls
    unfold wantT
    simp only [placesOf, eventsL, evsOf, St.evs, St.next, inOrder, Place.end_, start]
    simp only [if_true, Bool.false_or, Nat.zero_add, ne_eq, reduceCtorEq, not_false_eq_true, decide_true, Bool.and_true]
    rw [h]
    by_cases ho : o = 0
    · simp [ho]
    · simp [ho, Nat.pos_of_ne_zero ho]
theorem resumes (J : List Nat) (hJ : ∀ x ∈ J, x ≠ 165) (q : Nat) (ls : List (List Samp)) (h : ∀ l ∈ ls, mayT l = true) :
    eventsT (J ++ framesOf q ls) = wantT (decide (0 < J.length)) ls ∧ endT (J ++ framesOf q ls) = J.length + (framesOf q ls).length := by
  obtain ⟨j1, j2⟩ := walk_junk 0 J (framesOf q ls) hJ
  obtain ⟨f1, f2⟩ := walk_frames (0 + J.length) q ls h
  unfold eventsT endT
  rw [j1, j2, f1, f2, Nat.zero_add]
  exact ⟨events_first _ _ _, rfl⟩
theorem mod_step (q n : Nat) : ((q + 1) % 256 + n) % 256 = (q + (n + 1)) % 256 := by omega
theorem framesOf_snoc (q : Nat) (hq : q < 256) (ls : List (List Samp)) (l : List Samp) : framesOf q (ls ++ [l]) = framesOf q ls ++ frameT ((q + ls.length) % 256) l := by
  induction ls generalizing q with
  | nil => simp [framesOf, Nat.mod_eq_of_lt hq]
  | cons m ls ih => rw [List.cons_append, framesOf, framesOf, ih ((q + 1) % 256) (by omega), mod_step, List.append_assoc, List.length_cons]
theorem evsOf_snoc (s : Nat) (ls : List (List Samp)) (l : List Samp) : evsOf s (ls ++ [l]) = evsOf s ls ++ evS (s + total ls) l := by
  induction ls generalizing s with
  | nil => simp [evsOf, total]
  | cons m ls ih => rw [List.cons_append, evsOf, evsOf, ih, List.append_assoc, show s + m.length + total ls = s + total (m :: ls) by simp [total]; omega]
theorem wantT_snoc (d : Bool) (ls : List (List Samp)) (l : List Samp) : wantT d (ls ++ [l]) = wantT d ls ++ (if d && decide (ls = []) then [(1, 0, (0, false))] else []) ++ evS (total ls) l := by
  unfold wantT
  rw [evsOf_snoc, Nat.zero_add]
  cases ls with
  | nil => cases d <;> simp [evsOf]
  | cons m ls => cases d <;> simp
theorem want_nil (d : Bool) (ls : List (List Samp)) (h : ∀ l ∈ ls, mayT l = true) : (wantT d ls).length = 0 ↔ ls = [] := by
  constructor
  · intro h0
    cases ls with
    | nil => rfl
    | cons l ls =>
      exfalso
      have h1 := (may_len (h l (by simp))).1
      unfold wantT at h0
      rw [List.length_append, evsOf, List.length_append, evS_length] at h0
      omega
  · rintro rfl; cases d <;> rfl
theorem evsOf_length (s : Nat) (ls : List (List Samp)) : (evsOf s ls).length = total ls := by
  induction ls generalizing s with
  | nil => rfl
  | cons m ls ih => rw [evsOf, List.length_append, evS_length, ih]; simp [total]
theorem total_le (ls : List (List Samp)) (h : ∀ l ∈ ls, mayT l = true) : total ls ≤ 32 * ls.length := by
  induction ls with
  | nil => simp [total]
  | cons m ls ih =>
    have h1 := (may_len (h m (by simp))).2
    have h2 := ih (fun l hl => h l (by simp [hl]))
    have e : total (m :: ls) = m.length + total ls := by simp [total]
    rw [e, List.length_cons]; omega
theorem framesOf_length (q : Nat) (ls : List (List Samp)) : (framesOf q ls).length = 6 * ls.length + 3 * total ls := by
  induction ls generalizing q with
  | nil => simp [framesOf, total]
  | cons m ls ih =>
    have e : total (m :: ls) = m.length + total ls := by simp [total]
    rw [framesOf, List.length_append, frameT_length, ih, e, List.length_cons]; omega
theorem framesOf_bytes (q : Nat) (hq : q < 256) (ls : List (List Samp)) (h : ∀ l ∈ ls, mayT l = true) : Bytes (framesOf q ls) := by
  induction ls generalizing q with
  | nil => intro y hy; cases hy
  | cons m ls ih =>
    intro y hy
    rcases List.mem_append.1 (show y ∈ frameT q m ++ framesOf ((q + 1) % 256) ls from hy) with h1 | h1
    · rcases List.mem_append.1 (show y ∈ [165, 90] ++ Crc.sealZ (bodyT q m) from h1) with h2 | h2
      · simp at h2; omega
      · exact Crc.seal_bytes (bodyT_bytes hq (by have := (may_len (h m (by simp))).2; omega)) y h2
    · exact ih ((q + 1) % 256) (by omega) (fun l hl => h l (by simp [hl])) y h1
/-- The lists that may be frames. -/
def validT (ls : List (List Samp)) (i : Nat) : List (List Samp) := (ls.take i).filter mayT
theorem valid_may (ls : List (List Samp)) (i : Nat) : ∀ l ∈ validT ls i, mayT l = true := fun l hl => (List.mem_filter.1 hl).2
theorem valid_step (ls : List (List Samp)) (i : Nat) (h : i < ls.length) : validT ls (i + 1) = validT ls i ++ (if mayT (ls.getD i []) = true then [ls.getD i []] else []) := by
  unfold validT
  rw [take_step ls [] i h, List.filter_append]
  congr 1
  generalize ls.getD i [] = l
  cases hm : mayT l <;> simp [hm]
theorem valid_len (ls : List (List Samp)) (i : Nat) : (validT ls i).length ≤ i := by
  unfold validT
  exact Nat.le_trans (List.length_filter_le _ _) (by rw [List.length_take]; omega)
end Go.Proofs.Ytlhjligeigkbnaa.Par
