/- Events that came in, and items, as they lie. Of no program. -/
import Derived.Test.YtjhpogiknhbegaaDoorFlat
set_option linter.unusedSimpArgs false
set_option linter.unusedVariables false
namespace Go.Proofs.YtjhpogiknhbegaaDoor.Row
theorem oks_nil {vs : List Value} (h : Oks [] vs) : vs = [] := List.eq_nil_of_length_eq_zero h.1
theorem oks_cons {k : Kind} {ks : List Kind} {vs : List Value} (h : Oks (k :: ks) vs) : ∃ v r, vs = v :: r ∧ k.ok v ∧ Oks ks r := by
  cases vs with
  | nil => have := h.1; simp at this
  | cons v r =>
    obtain ⟨u, hu, hok⟩ := h.2 0 k rfl
    simp at hu
    subst hu
    refine ⟨v, r, rfl, hok, by have := h.1; simpa using this, fun i k' hi => ?_⟩
    obtain ⟨u, hu, h1⟩ := h.2 (i + 1) k' (by simpa using hi)
    exact ⟨u, by simpa using hu, h1⟩
end Go.Proofs.YtjhpogiknhbegaaDoor.Row
namespace Go.Proofs.YtjhpogiknhbegaaDoor.Lead
open Go.RowKit
/-- An event: its kind, its At, its value, whether its lead is off. -/
abbrev Ev := Int × Int × Int × Bool
def noEv : Ev := (0, 0, 0, false)
def evS : Row.Shape Ev := ⟨4, fun e => [.int .i64 e.1, .int .i64 e.2.1, .int .i32 e.2.2.1, .bool e.2.2.2], fun _ => rfl, by decide, fun p u hu => by
  simp at hu
  rcases hu with rfl | rfl | rfl | rfl <;> rfl⟩
def EvOk (e : Ev) : Prop := (-9223372036854775808 ≤ e.1 ∧ e.1 ≤ 9223372036854775807) ∧ (-9223372036854775808 ≤ e.2.1 ∧ e.2.1 ≤ 9223372036854775807) ∧ (-2147483648 ≤ e.2.2.1 ∧ e.2.2.1 ≤ 2147483647)
theorem ev_dec (vs : List Value) (h : Row.Oks [.int .i64, .int .i64, .int .i32, .bool] vs) : ∃ z : Ev, evS.enc z = vs ∧ EvOk z := by
  obtain ⟨v1, r1, rfl, ⟨k, rfl, hk⟩, h1⟩ := Row.oks_cons h
  obtain ⟨v2, r2, rfl, ⟨a, rfl, ha⟩, h2⟩ := Row.oks_cons h1
  obtain ⟨v3, r3, rfl, ⟨v, rfl, hv⟩, h3⟩ := Row.oks_cons h2
  obtain ⟨v4, r4, rfl, ⟨b, rfl⟩, h4⟩ := Row.oks_cons h3
  obtain rfl := Row.oks_nil h4
  exact ⟨(k, a, v, b), rfl, bounds_i64 hk, bounds_i64 ha, bounds_i32 hv⟩
/-- An item: its kind, its At, its value. -/
abbrev It := Int × Int × Int
def noIt : It := (0, 0, 0)
def itS : Row.Shape It := ⟨3, fun e => [.int .i64 e.1, .int .i64 e.2.1, .int .i32 e.2.2], fun _ => rfl, by decide, fun p u hu => by
  simp at hu
  rcases hu with rfl | rfl | rfl <;> rfl⟩
/-! ### What is said of events -/
/-- Whether the lead is on; what the run says, and how many samples it has. -/
structure St where
  on : Bool
  off : Bool
  n : Nat
def start : St := ⟨true, false, 0⟩
def St.run (st : St) (off : Bool) : Nat := if st.n ≠ 0 ∧ st.off = off then st.n + 1 else 1
def St.on' (st : St) (off : Bool) : Bool := if st.on = true ∧ off = true ∧ 20 ≤ st.run off then false else if st.on = false ∧ off = false ∧ 100 ≤ st.run off then true else st.on
def St.next (st : St) (e : Ev) : St := if e.1 = 1 then { st with n := 0 } else if e.1 = 2 then ⟨st.on' e.2.2.2, e.2.2.2, st.run e.2.2.2⟩ else st
def St.items (st : St) (e : Ev) : List It :=
  if e.1 = 1 then [(1, e.2.1, 0)] else if e.1 = 2 then
    (if st.on' e.2.2.2 ≠ st.on then [(if st.on then 2 else 3, e.2.1, 0)] else []) ++ [if st.on' e.2.2.2 then (4, e.2.1, e.2.2.1) else (5, e.2.1, 0)] else []
def itemsL (st : St) : List Ev → List It
  | [] => []
  | e :: l => st.items e ++ itemsL (st.next e) l
def afterL (st : St) : List Ev → St
  | [] => st
  | e :: l => afterL (st.next e) l
theorem items_append (st : St) (l m : List Ev) : itemsL st (l ++ m) = itemsL st l ++ itemsL (afterL st l) m := by
  induction l generalizing st with
  | nil => rfl
  | cons e l ih => simp only [List.cons_append, itemsL, afterL, ih, List.append_assoc]
theorem after_append (st : St) (l m : List Ev) : afterL st (l ++ m) = afterL (afterL st l) m := by
  induction l generalizing st with
  | nil => rfl
  | cons e l ih => simp only [List.cons_append, afterL, ih]
def itemsT (l : List Ev) : List It := itemsL start l
def onT (l : List Ev) : Bool := (afterL start l).on
/-- The items that come when events come behind others. -/
def behindT (a l : List Ev) : List It := itemsL (afterL start a) l
theorem behind_all (a l : List Ev) : itemsT a ++ behindT a l = itemsT (a ++ l) := (items_append start a l).symm
theorem behind_drop (a l : List Ev) : (itemsT (a ++ l)).drop (itemsT a).length = behindT a l := by rw [← behind_all, List.drop_left' rfl]
theorem items_few (st : St) (e : Ev) : (st.items e).length ≤ 2 := by
  unfold St.items
  split
  · simp
  · split
    · split <;> simp
    · simp
theorem itemsL_few (st : St) (l : List Ev) : (itemsL st l).length ≤ 2 * l.length := by
  induction l generalizing st with
  | nil => simp [itemsL]
  | cons e l ih =>
    have h1 := items_few st e
    have h2 := ih (st.next e)
    simp only [itemsL, List.length_append, List.length_cons]
    omega
/-- How many samples of a run stand up to the end of these events (the last one first), all of which say the same. -/
def runH (off : Bool) : List Ev → Nat
  | [] => 0
  | e :: h => if e.1 ≠ 1 ∧ e.1 ≠ 2 then runH off h else if e.1 = 1 ∨ e.2.2.2 ≠ off then 0 else runH off h + 1
theorem run_state (l : List Ev) (off : Bool) : runH off l.reverse = if (afterL start l).n ≠ 0 ∧ (afterL start l).off = off then (afterL start l).n else 0 := by
  obtain ⟨h, hh⟩ : ∃ h, l.reverse = h := ⟨_, rfl⟩
  rw [hh]
  have hl : l = h.reverse := by rw [← hh, List.reverse_reverse]
  subst hl
  clear hh
  induction h generalizing off with
  | nil => rfl
  | cons e h ih =>
    rw [List.reverse_cons, after_append]
    have hn : afterL (afterL start h.reverse) [e] = (afterL start h.reverse).next e := rfl
    rw [hn]
    generalize afterL start h.reverse = st at *
    unfold runH St.next
    by_cases h1 : e.1 = 1
    · rw [if_neg (fun h => h.1 h1), if_pos (.inl h1), if_pos h1, if_neg (fun h => h.1 rfl)]
    · by_cases h2 : e.1 = 2
      · rw [if_neg (fun h => h.2 h2), if_neg h1, if_pos h2]
        by_cases ho : e.2.2.2 = off
        · rw [if_neg (fun h => h.elim h1 (fun h => h ho)), ih off]
          have hr : st.run e.2.2.2 ≠ 0 := by unfold St.run; split <;> omega
          subst ho
          show _ = if st.run e.2.2.2 ≠ 0 ∧ e.2.2.2 = e.2.2.2 then st.run e.2.2.2 else 0
          have hc : (st.run e.2.2.2 ≠ 0 ∧ e.2.2.2 = e.2.2.2) := ⟨hr, rfl⟩
          simp only [if_pos hc]
          unfold St.run
          by_cases hs : st.n ≠ 0 ∧ st.off = e.2.2.2
          · simp [if_pos hs]
          · simp [if_neg hs]
        · rw [if_pos (.inr ho)]
          show _ = if st.run e.2.2.2 ≠ 0 ∧ e.2.2.2 = off then st.run e.2.2.2 else 0
          rw [if_neg (fun h => ho h.2)]
      · rw [if_pos ⟨h1, h2⟩, if_neg h1, if_neg h2, ih off]
end Go.Proofs.YtjhpogiknhbegaaDoor.Lead
