/- What is too fast, too slow, or missing: the reckoning. Of no program. -/
import Derived.ProofKit
set_option linter.unusedVariables false
namespace Go.Proofs.Ytpmjgomfjfhfkaa.Tally
/-- A number of a sample as it counts. -/
def nearA (n : Int) : Int := if n < 0 then 0 else if 1099511627776 < n then 1099511627776 else n
theorem nearA_bd (n : Int) : 0 ≤ nearA n ∧ nearA n ≤ 1099511627776 := by unfold nearA; split <;> (try split) <;> omega
theorem nearA_ifs (n m r : Int) (h1 : (if n < 0 then 0 else n) = m) (h2 : (if 1099511627776 < m then 1099511627776 else m) = r) : r = nearA n := by
  unfold nearA; subst h1; subst h2; split <;> split <;> (try split) <;> omega
theorem nearA_ifs2 (n m r : Int) (h1 : (if 1099511627776 < n then 1099511627776 else n) = m) (h2 : (if 0 < m then m else 0) = r) : r = nearA n := by
  unfold nearA; subst h1; subst h2; split <;> split <;> (try split) <;> omega
theorem nearA_id (n : Int) (h : 0 ≤ n ∧ n ≤ 1099511627776) : nearA n = n := by unfold nearA; split <;> (try split) <;> omega
/-- Limits. -/
structure Lim where
  mains : Int
  asys : Int
  tach : Int
  tachN : Int
  brad : Int
  bradN : Int
  fib : Int
  fibN : Int
  escape : Int
def limV (l : Lim) : Value := .agg #[.int .i64 l.mains, .int .i64 l.asys, .int .i64 l.tach, .int .i64 l.tachN, .int .i64 l.brad, .int .i64 l.bradN, .int .i64 l.fib, .int .i64 l.fibN, .int .i64 l.escape]
def limC (l : Lim) : Array Value := #[.int .i64 l.mains, .int .i64 l.asys, .int .i64 l.tach, .int .i64 l.tachN, .int .i64 l.brad, .int .i64 l.bradN, .int .i64 l.fib, .int .i64 l.fibN, .int .i64 l.escape]
def within (n lo hi : Int) : Bool := decide (lo ≤ n ∧ n ≤ hi)
def mainsT (n : Int) : Bool := decide (n = 0 ∨ n = 50 ∨ n = 60)
/-- May they be? -/
def mayT (l : Lim) : Bool := mainsT l.mains && within l.asys 200 6000 && within l.tach 40 400 && within l.tachN 1 20 && within l.brad (l.tach + 1) 2000 && within l.bradN 1 20 && within l.fib 1 142847 && within l.fibN 1 200 && within l.escape 1 1048576
def usualT : Lim := ⟨50, 800, 100, 5, 240, 3, 200, 12, 2000⟩
/-- What holds of limits that may be. -/
structure May (l : Lim) : Prop where
  mains : l.mains = 0 ∨ l.mains = 50 ∨ l.mains = 60
  asys : 200 ≤ l.asys ∧ l.asys ≤ 6000
  tach : 40 ≤ l.tach ∧ l.tach ≤ 400
  tachN : 1 ≤ l.tachN ∧ l.tachN ≤ 20
  brad : l.tach < l.brad ∧ l.brad ≤ 2000
  bradN : 1 ≤ l.bradN ∧ l.bradN ≤ 20
  fib : 1 ≤ l.fib ∧ l.fib ≤ 142847
  fibN : 1 ≤ l.fibN ∧ l.fibN ≤ 200
  escape : 1 ≤ l.escape ∧ l.escape ≤ 1048576
theorem may_of {l : Lim} (h : mayT l = true) : May l := by
  unfold mayT mainsT within at h
  simp only [Bool.and_eq_true, decide_eq_true_eq] at h
  obtain ⟨⟨⟨⟨⟨⟨⟨⟨h1, h2⟩, h3⟩, h4⟩, h5⟩, h6⟩, h7⟩, h8⟩, h9⟩ := h
  exact ⟨h1, h2, h3, h4, ⟨by omega, h5.2⟩, h6, h7, h8, h9⟩
/-- The counted ones of some distances, the last one first, on top of others. -/
def cntT (ys rs : List Int) : List Int := (ys.filter (fun v => decide (1 ≤ v))).reverse ++ rs
theorem cnt_nil (rs : List Int) : cntT [] rs = rs := rfl
theorem cnt_append (xs ys rs : List Int) : cntT (xs ++ ys) rs = cntT ys (cntT xs rs) := by unfold cntT; rw [List.filter_append, List.reverse_append, List.append_assoc]
theorem cnt_one (v : Int) (rs : List Int) : cntT [v] rs = if v < 1 then rs else v :: rs := by
  unfold cntT
  by_cases h : v < 1
  · rw [if_pos h, List.filter_cons_of_neg (by simp; omega)]; rfl
  · rw [if_neg h, List.filter_cons_of_pos (by simp; omega)]; rfl
theorem cnt_len (ys rs : List Int) : (cntT ys rs).length ≤ ys.length + rs.length := by
  unfold cntT
  rw [List.length_append, List.length_reverse]
  have := List.length_filter_le (fun v => decide (1 ≤ v)) ys
  omega
theorem cnt_step (ys rs : List Int) (k : Nat) (hk : k < ys.length) : cntT (ys.take (k + 1)) rs = if ys.getD k 0 < 1 then cntT (ys.take k) rs else ys.getD k 0 :: cntT (ys.take k) rs := by
  rw [List.take_succ_eq_append_getElem hk, cnt_append, cnt_one, List.getD_eq_getElem?_getD, List.getElem?_eq_getElem hk]
  rfl
/-- How many there are in a row, of distances the last one first. -/
def inRow (p : Int → Bool) (rs : List Int) : Nat := (rs.takeWhile p).length
theorem inRow_le (p : Int → Bool) (rs : List Int) : inRow p rs ≤ rs.length := List.Sublist.length_le (List.takeWhile_sublist p)
theorem inRow_nil (p : Int → Bool) : inRow p [] = 0 := rfl
theorem inRow_cons (p : Int → Bool) (v : Int) (rs : List Int) : inRow p (v :: rs) = if p v then inRow p rs + 1 else 0 := by
  unfold inRow
  rw [List.takeWhile_cons]
  split <;> simp
theorem inRow_iff (p : Int → Bool) : ∀ (n : Nat) (rs : List Int), n ≤ inRow p rs ↔ ∀ i, i < n → ∃ v, rs[i]? = some v ∧ p v = true
  | 0, rs => by simp
  | n + 1, [] => by rw [inRow_nil]; constructor
                    · intro h; omega
                    · intro h; obtain ⟨v, hv, _⟩ := h 0 (by omega); simp at hv
  | n + 1, v :: rs => by
    rw [inRow_cons]
    constructor
    · intro h i hi
      split at h
      · rename_i hp
        cases i with
        | zero => exact ⟨v, rfl, hp⟩
        | succ i => exact (inRow_iff p n rs).1 (by omega) i (by omega)
      · omega
    · intro h
      obtain ⟨u, hu, hp⟩ := h 0 (by omega)
      simp at hu
      subst hu
      rw [if_pos hp]
      have := (inRow_iff p n rs).2 (fun i hi => h (i + 1) (by omega))
      omega
theorem inRow_next {p : Int → Bool} {rs : List Int} {j : Nat} {v : Int} (h : j ≤ inRow p rs) (hv : rs[j]? = some v) (hp : p v = true) : j + 1 ≤ inRow p rs :=
  (inRow_iff p (j + 1) rs).2 fun i hi => by
    by_cases h1 : i = j
    · subst h1; exact ⟨v, hv, hp⟩
    · exact (inRow_iff p j rs).1 h i (by omega)
theorem inRow_stop {p : Int → Bool} {rs : List Int} {j : Nat} {v : Int} (hv : rs[j]? = some v) (hp : p v = false) : inRow p rs ≤ j := by
  rcases Nat.lt_or_ge j (inRow p rs) with h | h
  · obtain ⟨u, hu, hq⟩ := (inRow_iff p (j + 1) rs).1 h j (by omega)
    rw [hv] at hu
    injection hu with hu
    subst hu
    rw [hp] at hq
    cases hq
  · exact h
def isFast (l : Lim) (v : Int) : Bool := decide (v ≤ l.tach)
def isSlow (l : Lim) (v : Int) : Bool := decide (l.brad ≤ v)
def fastT (l : Lim) (rs : List Int) : Nat := inRow (isFast l) rs
def slowT (l : Lim) (rs : List Int) : Nat := inRow (isSlow l) rs
def tachT (l : Lim) (rs : List Int) : Bool := decide (l.tachN ≤ (fastT l rs : Int))
def bradT (l : Lim) (rs : List Int) : Bool := decide (l.bradN ≤ (slowT l rs : Int))
theorem never_both {l : Lim} (h : May l) (rs : List Int) : (tachT l rs && bradT l rs) = false := by
  rw [Bool.and_eq_false_iff]
  by_cases h1 : tachT l rs = true
  · right
    unfold tachT fastT at h1
    rw [decide_eq_true_eq] at h1
    have h2 := h.tachN
    have h3 := h.bradN
    have h4 := h.brad
    obtain ⟨v, hv, hp⟩ := (inRow_iff (isFast l) 1 rs).1 (by omega) 0 (by omega)
    unfold bradT slowT
    rw [decide_eq_false_iff_not]
    intro h5
    obtain ⟨u, hu, hq⟩ := (inRow_iff (isSlow l) 1 rs).1 (by omega) 0 (by omega)
    rw [hv] at hu
    injection hu with hu
    subst hu
    unfold isFast at hp
    unfold isSlow at hq
    rw [decide_eq_true_eq] at hp hq
    omega
  · left
    simpa using h1
/-- The last so many, one by one, till one of them isn't so. -/
def lastAll (p : Int → Bool) (n : Nat) (rs : List Int) : Bool := decide (n ≤ inRow p rs)
/-- Where a tally stands. -/
structure St where
  begun : Bool
  last : Int
  rs : List Int
def st0 : St := ⟨false, 0, []⟩
def beginT (a : Int) : St := ⟨true, nearA a, []⟩
def beatT (s : St) (a : Int) (ys : List Int) : St := ⟨true, nearA a, cntT ys s.rs⟩
def stillT (l : Lim) (s : St) (a : Int) : Bool := s.begun && decide (l.asys ≤ nearA a - s.last)
end Go.Proofs.Ytpmjgomfjfhfkaa.Tally
