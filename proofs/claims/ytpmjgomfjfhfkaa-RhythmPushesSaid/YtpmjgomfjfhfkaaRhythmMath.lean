/- Which conditions there are: the reckoning, mark by mark. Of no program. -/
import Derived.Test.YtpmjgomfjfhfkaaTallyMath
import Derived.Test.YtpmjgomfjfhfkaaFibMath
set_option linter.unusedVariables false
namespace Go.Proofs.Ytpmjgomfjfhfkaa.Rhythm
open Tally (Lim May mayT)
/-- A mark, as its cells lie. -/
structure Mk where
  kind : Int
  at_ : Int
  h : Int
  bat : Int
  seen : Int
  rr : Int
  back : Bool
/-- Which of the five there are. -/
structure On5 where
  o1 : Bool
  o2 : Bool
  o3 : Bool
  o4 : Bool
  o5 : Bool
def off5 : On5 := ⟨false, false, false, false, false⟩
def On5.get (o : On5) (k : Int) : Bool := if k = 1 then o.o1 else if k = 2 then o.o2 else if k = 3 then o.o3 else if k = 4 then o.o4 else if k = 5 then o.o5 else false
def On5.set (o : On5) (k : Int) (b : Bool) : On5 := if k = 1 then { o with o1 := b } else if k = 2 then { o with o2 := b } else if k = 3 then { o with o3 := b } else if k = 4 then { o with o4 := b } else if k = 5 then { o with o5 := b } else o
/-- A condition that begins or ends: kind, sample, on. -/
abbrev Cd := Int × Int × Bool
def noCd : Cd := (0, 0, false)
def turnT (k a : Int) (old new : Bool) : List Cd := if old = new then [] else [(k, a, new)]
def tellT (a : Int) (o n : On5) : List Cd := turnT 1 a o.o1 n.o1 ++ (turnT 2 a o.o2 n.o2 ++ (turnT 3 a o.o3 n.o3 ++ (turnT 4 a o.o4 n.o4 ++ turnT 5 a o.o5 n.o5)))
theorem turn_len (k a : Int) (o n : Bool) : (turnT k a o n).length ≤ 1 := by unfold turnT; split <;> simp
theorem tell_len (a : Int) (o n : On5) : (tellT a o n).length ≤ 5 := by
  unfold tellT
  simp only [List.length_append]
  have := turn_len 1 a o.o1 n.o1
  have := turn_len 2 a o.o2 n.o2
  have := turn_len 3 a o.o3 n.o3
  have := turn_len 4 a o.o4 n.o4
  have := turn_len 5 a o.o5 n.o5
  omega
/-- Where a rhythm stands: is the lead off; the tally; what came of the wave (the last value first); which there are. -/
structure St where
  dark : Bool
  t : Tally.St
  h : List Int
  on : On5
def noSt : St := ⟨false, Tally.st0, [], off5⟩
def nowT (l : Lim) (dark : Bool) (t : Tally.St) (h : List Int) (a : Int) : On5 :=
  ⟨dark, Tally.stillT l t a, decide (l.fibN ≤ Fib.countT l.fib h), Tally.tachT l t.rs, Tally.bradT l t.rs⟩
/-- Does a mark count? -/
def counts (s : St) (m : Mk) : Bool := decide (m.kind = 1 ∨ m.kind = 2 ∨ m.kind = 3 ∨ ((m.kind = 4 ∨ m.kind = 6) ∧ s.dark = false))
/-- One that counts. -/
def takeT (s : St) (m : Mk) : St :=
  if m.kind = 1 then ⟨s.dark, Tally.beginT m.at_, [], s.on⟩
  else if m.kind = 2 then ⟨true, Tally.st0, [], s.on⟩
  else if m.kind = 3 then ⟨false, Tally.beginT m.at_, [], s.on⟩
  else if m.kind = 6 then ⟨s.dark, Tally.beatT s.t m.at_ [m.rr], s.h, s.on⟩
  else ⟨s.dark, if s.t.begun then s.t else Tally.beginT m.at_, m.h :: s.h, s.on⟩
def onT (l : Lim) (s : St) (m : Mk) : On5 := nowT l (takeT s m).dark (takeT s m).t (takeT s m).h m.at_
def stepT (l : Lim) (s : St) (m : Mk) : St := if counts s m then ⟨(takeT s m).dark, (takeT s m).t, (takeT s m).h, onT l s m⟩ else s
def saysT (l : Lim) (s : St) (m : Mk) : List Cd := if counts s m then tellT m.at_ s.on (onT l s m) else []
def runT (l : Lim) : St → List Mk → St
  | s, [] => s
  | s, m :: ms => runT l (stepT l s m) ms
def toldT (l : Lim) : St → List Mk → List Cd
  | _, [] => []
  | s, m :: ms => saysT l s m ++ toldT l (stepT l s m) ms
theorem run_append (l : Lim) (s : St) (xs ys : List Mk) : runT l s (xs ++ ys) = runT l (runT l s xs) ys := by
  induction xs generalizing s with
  | nil => rfl
  | cons x xs ih => exact ih _
theorem told_append (l : Lim) (s : St) (xs ys : List Mk) : toldT l s (xs ++ ys) = toldT l s xs ++ toldT l (runT l s xs) ys := by
  induction xs generalizing s with
  | nil => rfl
  | cons x xs ih => simp only [List.cons_append, toldT, runT, ih, List.append_assoc]
theorem run_snoc (l : Lim) (s : St) (xs : List Mk) (m : Mk) : runT l s (xs ++ [m]) = stepT l (runT l s xs) m := run_append l s xs [m]
theorem told_snoc (l : Lim) (s : St) (xs : List Mk) (m : Mk) : toldT l s (xs ++ [m]) = toldT l s xs ++ saysT l (runT l s xs) m := by
  rw [told_append]
  show _ ++ (saysT l _ m ++ []) = _
  rw [List.append_nil]
theorem says_len (l : Lim) (s : St) (m : Mk) : (saysT l s m).length ≤ 5 := by
  unfold saysT
  split
  · exact tell_len _ _ _
  · simp
theorem told_len (l : Lim) : ∀ (ms : List Mk) (s : St), (toldT l s ms).length ≤ 5 * ms.length
  | [], s => by simp [toldT]
  | m :: ms, s => by
    have h1 := says_len l s m
    have h2 := told_len l ms (stepT l s m)
    show (saysT l s m ++ _).length ≤ 5 * (ms.length + 1)
    rw [List.length_append]
    omega
theorem step_rs (l : Lim) (s : St) (m : Mk) : (stepT l s m).t.rs.length ≤ s.t.rs.length + 1 := by
  unfold stepT takeT
  split
  · split
    · simp [Tally.beginT]
    split
    · simp [Tally.st0]
    split
    · simp [Tally.beginT]
    split
    · dsimp only [Tally.beatT]
      have := Tally.cnt_len [m.rr] s.t.rs
      simp at this
      omega
    · dsimp only
      split
      · omega
      · simp [Tally.beginT]
  · omega
theorem run_rs (l : Lim) : ∀ (ms : List Mk) (s : St), (runT l s ms).t.rs.length ≤ s.t.rs.length + ms.length
  | [], s => by simp [runT]
  | m :: ms, s => by
    have h1 := step_rs l s m
    have h2 := run_rs l ms (stepT l s m)
    show (runT l (stepT l s m) ms).t.rs.length ≤ s.t.rs.length + (ms.length + 1)
    omega
/-- While the lead is off nothing else is there. -/
theorem now_dark {l : Lim} (hm : May l) (s : St) (m : Mk) (hc : counts s m = true) (hd : (takeT s m).dark = true) :
    (onT l s m).o2 = false ∧ (onT l s m).o3 = false ∧ (onT l s m).o4 = false ∧ (onT l s m).o5 = false := by
  have hf := hm.fibN
  have ht := hm.tachN
  have hb := hm.bradN
  have ha := hm.asys
  have key : ∀ T : Tally.St, (T = Tally.st0 ∨ T = Tally.beginT m.at_) → Tally.stillT l T m.at_ = false ∧ decide (l.fibN ≤ Fib.countT l.fib []) = false ∧ Tally.tachT l T.rs = false ∧ Tally.bradT l T.rs = false := fun T hT => by
    refine ⟨?_, ?_, ?_, ?_⟩
    · rcases hT with rfl | rfl
      · rfl
      · show (true && decide (l.asys ≤ Tally.nearA m.at_ - Tally.nearA m.at_)) = false
        rw [decide_eq_false (by omega)]
        rfl
    · rw [Fib.count_none, decide_eq_false (by omega)]
    · rw [show T.rs = [] by rcases hT with rfl | rfl <;> rfl]
      exact decide_eq_false (by show ¬ l.tachN ≤ 0; omega)
    · rw [show T.rs = [] by rcases hT with rfl | rfl <;> rfl]
      exact decide_eq_false (by show ¬ l.bradN ≤ 0; omega)
  unfold counts at hc
  rw [decide_eq_true_eq] at hc
  unfold onT nowT
  have h9 : (takeT s m).h = [] ∧ ((takeT s m).t = Tally.st0 ∨ (takeT s m).t = Tally.beginT m.at_) := by
    unfold takeT at hd ⊢
    by_cases h1 : m.kind = 1
    · rw [if_pos h1]; exact ⟨rfl, .inr rfl⟩
    rw [if_neg h1] at hd ⊢
    by_cases h2 : m.kind = 2
    · rw [if_pos h2]; exact ⟨rfl, .inl rfl⟩
    rw [if_neg h2] at hd ⊢
    by_cases h3 : m.kind = 3
    · rw [if_pos h3] at hd; cases hd
    rw [if_neg h3] at hd ⊢
    rcases hc with h | h | h | ⟨_, h⟩
    · exact absurd h h1
    · exact absurd h h2
    · exact absurd h h3
    · split at hd <;> (dsimp only at hd; rw [h] at hd; cases hd)
  rw [h9.1]
  exact key _ h9.2
/-- What was told of is so, one by one. -/
def Valid (a : Int) : On5 → List Cd → On5 → Prop
  | o, [], n => o = n
  | o, c :: cs, n => (1 ≤ c.1 ∧ c.1 ≤ 5) ∧ o.get c.1 = !c.2.2 ∧ c.2.1 = a ∧ Valid a (o.set c.1 c.2.2) cs n
theorem valid_turn (a k : Int) (hk : 1 ≤ k ∧ k ≤ 5) (o n : On5) (b : Bool) (cs : List Cd) (hset : o.get k = b → o.set k b = o) (h : Valid a (o.set k b) cs n) : Valid a o (turnT k a (o.get k) b ++ cs) n := by
  unfold turnT
  split
  · rename_i e
    rw [hset e] at h
    exact h
  · rename_i e
    exact ⟨hk, by cases h1 : o.get k <;> cases b <;> simp_all, rfl, h⟩
theorem valid_tell (a : Int) (o n : On5) : Valid a o (tellT a o n) n := by
  obtain ⟨o1, o2, o3, o4, o5⟩ := o
  obtain ⟨n1, n2, n3, n4, n5⟩ := n
  unfold tellT
  refine valid_turn a 1 (by omega) ⟨o1, o2, o3, o4, o5⟩ _ n1 _ (fun h => by subst h; rfl) ?_
  refine valid_turn a 2 (by omega) ⟨n1, o2, o3, o4, o5⟩ _ n2 _ (fun h => by subst h; rfl) ?_
  refine valid_turn a 3 (by omega) ⟨n1, n2, o3, o4, o5⟩ _ n3 _ (fun h => by subst h; rfl) ?_
  refine valid_turn a 4 (by omega) ⟨n1, n2, n3, o4, o5⟩ _ n4 _ (fun h => by subst h; rfl) ?_
  rw [show turnT 5 a o5 n5 = turnT 5 a (On5.get ⟨n1, n2, n3, n4, o5⟩ 5) n5 ++ [] from by rw [List.append_nil]; rfl]
  exact valid_turn a 5 (by omega) ⟨n1, n2, n3, n4, o5⟩ _ n5 [] (fun h => by subst h; rfl) rfl
theorem valid_says (l : Lim) (s : St) (m : Mk) : Valid m.at_ s.on (saysT l s m) (stepT l s m).on := by
  unfold saysT stepT
  split
  · exact valid_tell _ _ _
  · exact rfl
/-- Is it told that this one begins at a? -/
def begins (k a : Int) (c : Cd) : Bool := decide (c.1 = k) && c.2.2 && decide (c.2.1 = a)
theorem any_turn (k j a : Int) (o n : Bool) : (turnT k a o n).any (begins j a) = (decide (k = j) && !o && n) := by
  unfold turnT
  cases o <;> cases n <;> simp [begins]
theorem begins_asys (a : Int) (o n : On5) : (tellT a o n).any (begins 2 a) = (!o.o2 && n.o2) := by
  unfold tellT
  simp only [List.any_append, any_turn]
  simp
end Go.Proofs.Ytpmjgomfjfhfkaa.Rhythm
