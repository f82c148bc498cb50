/- By turns: what is told of each alarm. Of no program. -/
import Derived.Test.YtahoiaiknchehaaAlarmMath
set_option linter.unusedVariables false
set_option linter.unusedSimpArgs false
namespace Go.Proofs.Ytahoiaiknchehaa.Alarm
open Go.RowKit
/-- Which of the five stand. -/
structure Up5 where
  u1 : Bool
  u2 : Bool
  u3 : Bool
  u4 : Bool
  u5 : Bool
def Up5.get (o : Up5) (k : Int) : Bool := if k = 1 then o.u1 else if k = 2 then o.u2 else if k = 3 then o.u3 else if k = 4 then o.u4 else if k = 5 then o.u5 else false
def Up5.set (o : Up5) (k : Int) (b : Bool) : Up5 := if k = 1 then { o with u1 := b } else if k = 2 then { o with u2 := b } else if k = 3 then { o with u3 := b } else if k = 4 then { o with u4 := b } else if k = 5 then { o with u5 := b } else o
def no5 : Up5 := ⟨false, false, false, false, false⟩
def upT (s : St) : Up5 := ⟨s.a1.stands, s.a2.stands, s.a3.stands, s.a4.stands, s.a5.stands⟩
/-- May this be told where these stand? And what stands behind it. -/
def fineT (u : Up5) (o : Ot) : Prop :=
  if o.1 = 8 ∨ o.1 = 7 then o.2.2.1 = 0
  else (1 ≤ o.2.2.1 ∧ o.2.2.1 ≤ 5) ∧ u.get o.2.2.1 = !decide (o.1 = 2)
def nextT (u : Up5) (o : Ot) : Up5 := if o.1 = 8 ∨ o.1 = 7 then u else if o.1 = 2 ∨ o.1 = 3 then u.set o.2.2.1 (decide (o.1 = 2)) else u
/-- All of it, from these to those. -/
def Told (u : Up5) : List Ot → Up5 → Prop
  | [], v => u = v
  | o :: E, v => fineT u o ∧ Told (nextT u o) E v
theorem told_append {u v x : Up5} {E F : List Ot} (h : Told u E v) (k : Told v F x) : Told u (E ++ F) x := by
  induction E generalizing u with
  | nil => obtain rfl : u = v := h; exact k
  | cons o E ih => exact ⟨h.1, ih h.2⟩
theorem told_drop {u v : Up5} {E : List Ot} {z : Nat} (h : Told u (E.drop z) v) (hz : z < E.length) : fineT u (E.getD z noOt) ∧ Told (nextT u (E.getD z noOt)) (E.drop (z + 1)) v := by
  rw [List.drop_eq_getElem_cons hz] at h
  rw [getD_in hz]
  exact h
theorem up_get (s : St) (k : Nat) : (upT s).get (k : Int) = (s.get k).stands := by
  by_cases hk : 1 ≤ k ∧ k ≤ 5
  · rcases k_cases hk with rfl | rfl | rfl | rfl | rfl <;> rfl
  · rw [get_off s k hk]
    unfold Up5.get
    rw [if_neg (by omega), if_neg (by omega), if_neg (by omega), if_neg (by omega), if_neg (by omega)]
    rfl
theorem up_set5 (s : St) (k : Nat) (o : One) (hk : 1 ≤ k ∧ k ≤ 5) : upT (s.set k o) = (upT s).set (k : Int) o.stands := by
  rcases k_cases hk with rfl | rfl | rfl | rfl | rfl <;> rfl
theorem up_set_get (u : Up5) (k : Nat) (q : Bool) (h : u.get (k : Int) = q) : u.set (k : Int) q = u := by
  obtain ⟨u1, u2, u3, u4, u5⟩ := u
  by_cases hk : 1 ≤ k ∧ k ≤ 5
  · rcases k_cases hk with rfl | rfl | rfl | rfl | rfl <;> (have h : _ = q := h; subst h; rfl)
  · unfold Up5.set
    rw [if_neg (by omega), if_neg (by omega), if_neg (by omega), if_neg (by omega), if_neg (by omega)]
theorem get_set5 (u : Up5) (k : Nat) (q : Bool) (hk : 1 ≤ k ∧ k ≤ 5) : (u.set (k : Int) q).get (k : Int) = q := by
  rcases k_cases hk with rfl | rfl | rfl | rfl | rfl <;> rfl
theorem set_set5 (u : Up5) (k : Nat) (q r : Bool) (hk : 1 ≤ k ∧ k ≤ 5) : (u.set (k : Int) q).set (k : Int) r = u.set (k : Int) r := by
  rcases k_cases hk with rfl | rfl | rfl | rfl | rfl <;> rfl
/-- One that leaves standing what stands. -/
theorem up_same {s : St} {k : Nat} {o : One} (ho : o.stands = (s.get k).stands) : upT (s.set k o) = upT s := by
  by_cases hk : 1 ≤ k ∧ k ≤ 5
  · rw [up_set5 s k o hk, up_set_get _ _ _ ((up_get s k).trans ho.symm)]
  · have h9 : s.set k o = s := by
      unfold St.set
      rw [if_neg (by omega), if_neg (by omega), if_neg (by omega), if_neg (by omega), if_neg (by omega)]
    rw [h9]
/-- A word of one alarm that stands: 4, 5, 6 leave it standing, 3 doesn't. -/
theorem told_of {u : Up5} {k : Nat} {kd a n : Int} (hk : 1 ≤ k ∧ k ≤ 5) (hu : u.get (k : Int) = true) (hd : kd = 4 ∨ kd = 5 ∨ kd = 6) : Told u [(kd, a, (k : Int), n)] u := by
  refine ⟨?_, ?_⟩
  · unfold fineT
    dsimp only
    rw [if_neg (by omega), hu, decide_eq_false (by omega)]
    exact ⟨by omega, rfl⟩
  · show nextT u (kd, a, (k : Int), n) = u
    unfold nextT
    dsimp only
    rw [if_neg (by omega), if_neg (by omega)]
theorem told_clear {u : Up5} {k : Nat} {a n : Int} (hk : 1 ≤ k ∧ k ≤ 5) (hu : u.get (k : Int) = true) : Told u [(3, a, (k : Int), n)] (u.set (k : Int) false) := by
  refine ⟨?_, ?_⟩
  · unfold fineT
    dsimp only
    rw [if_neg (by omega), hu, decide_eq_false (by omega)]
    exact ⟨by omega, rfl⟩
  · show nextT u (3, a, (k : Int), n) = _
    unfold nextT
    dsimp only
    rw [if_neg (by omega), if_pos (.inr rfl), decide_eq_false (by omega)]
theorem told_raise {u : Up5} {k : Nat} {a n : Int} (hk : 1 ≤ k ∧ k ≤ 5) (hu : u.get (k : Int) = false) : Told u [(2, a, (k : Int), n)] (u.set (k : Int) true) := by
  refine ⟨?_, ?_⟩
  · unfold fineT
    dsimp only
    rw [if_neg (by omega), hu]
    exact ⟨by omega, rfl⟩
  · show nextT u (2, a, (k : Int), n) = _
    unfold nextT
    dsimp only
    rw [if_neg (by omega), if_pos (.inl rfl)]
    rfl
theorem told_rest {u : Up5} {kd a n : Int} (h : kd = 8 ∨ kd = 7) : Told u [(kd, a, 0, n)] u := by
  refine ⟨?_, ?_⟩
  · unfold fineT
    dsimp only
    rw [if_pos h]
  · show nextT u (kd, a, 0, n) = u
    unfold nextT
    dsimp only
    rw [if_pos h]
theorem up_till (s : St) (t : Int) : upT { s with till := t } = upT s := rfl
theorem up_sounds (s : St) (t : Bool) : upT { s with sounds := t } = upT s := rfl
theorem on_stands {k : Nat} {o : One} (h : Ok1 k o) (ho : o.on = true) : o.stands = true := by
  cases hs : o.stands with
  | true => rfl
  | false => rw [h.none_ hs] at ho; cases ho
theorem told_cond {s : St} (h : Ok s) (c : Cd) : Told (upT s) (condT s c).2 (upT (condT s c).1) := by
  unfold condT
  split
  · rename_i hc
    have hk : 1 ≤ c.1.toNat ∧ c.1.toNat ≤ 5 := by omega
    have h1 := h c.1.toNat
    generalize c.1.toNat = k at *
    generalize nearT c.2.1 = a at *
    split
    · unfold beginT
      split
      · rename_i hs
        exact (up_same (s := s) (k := k) (o := { s.get k with on := true }) rfl).symm
      · rename_i hs
        rw [Bool.not_eq_true] at hs
        have h2 : upT (if grave k = true then { s.set k ⟨true, true, false, false, a⟩ with till := 0 } else s.set k ⟨true, true, false, false, a⟩) = (upT s).set (k : Int) true := by
          split
          · rw [up_till, up_set5 _ _ _ hk]
          · rw [up_set5 _ _ _ hk]
        dsimp only
        rw [h2]
        exact told_raise hk ((up_get s k).trans hs)
    · unfold endT
      split
      · rename_i hon
        have hst := on_stands h1 hon
        split
        · dsimp only
          rw [up_same (s := s) (k := k) (o := { s.get k with on := false }) rfl]
          exact told_of hk ((up_get s k).trans hst) (.inl rfl)
        · dsimp only
          rw [up_set5 _ _ _ hk]
          exact told_clear hk ((up_get s k).trans hst)
      · exact rfl
  · exact rfl
theorem told_conds (cs : List Cd) : ∀ {s : St}, Ok s → Told (upT s) (condsT s cs).2 (upT (condsT s cs).1) := by
  induction cs with
  | nil => exact fun _ => rfl
  | cons c cs ih => exact fun h => told_append (told_cond h c) (ih (ok_cond h c))
theorem told_ack1 (a : Int) (s : St) (k : Nat) (hk6 : k < 6) : Told (upT s) (ack1 a s k).2 (upT (ack1 a s k).1) := by
  unfold ack1
  split
  · rename_i hw
    have hst := (waits_iff.1 hw).1
    have hk : 1 ≤ k ∧ k ≤ 5 := by
      by_cases h0 : 1 ≤ k
      · omega
      · rw [get_off _ _ (by omega)] at hw; cases hw
    split
    · dsimp only
      rw [up_same (s := s) (k := k) (o := { s.get k with acked := true }) rfl]
      exact told_of hk ((up_get s k).trans hst) (.inr (.inl rfl))
    · dsimp only
      rw [up_set5 _ _ _ hk]
      exact told_append (F := [(3, a, (k : Int), 0)]) (told_of hk ((up_get s k).trans hst) (.inr (.inl rfl))) (told_clear hk ((up_get s k).trans hst))
  · exact rfl
theorem told_esc1 (a : Int) (s : St) (k : Nat) (hk6 : k < 6) : Told (upT s) (esc1 a s k).2 (upT (esc1 a s k).1) := by
  unfold esc1
  split
  · rename_i hw
    rw [Bool.and_eq_true, Bool.and_eq_true] at hw
    have hw := hw.1.1
    have hst := (waits_iff.1 hw).1
    have hk : 1 ≤ k ∧ k ≤ 5 := by
      by_cases h0 : 1 ≤ k
      · omega
      · rw [get_off _ _ (by omega)] at hw; cases hw
    dsimp only
    rw [up_same (s := s) (k := k) (o := { s.get k with esc := true }) rfl]
    exact told_of hk ((up_get s k).trans hst) (.inr (.inr rfl))
  · exact rfl
theorem told_over (f : St → Nat → St × List Ot) (hf : ∀ s k, k < 6 → Told (upT s) (f s k).2 (upT (f s k).1)) (s : St) : ∀ n, n ≤ 6 → Told (upT s) (overT f s n).2 (upT (overT f s n).1)
  | 0, _ => rfl
  | n + 1, h => told_append (told_over f hf s n (by omega)) (hf _ n (by omega))
theorem told_orders (a : Int) (os : List Or) : ∀ s : St, Told (upT s) (ordersT a s os).2 (upT (ordersT a s os).1) := by
  induction os with
  | nil => exact fun _ => rfl
  | cons o os ih =>
    intro s
    refine told_append ?_ (ih (orderT a s o).1)
    unfold orderT
    split
    · exact told_over _ (told_ack1 a) s 6 (Nat.le_refl _)
    · split
      · exact told_rest (.inl rfl)
      · exact rfl
theorem told_tick (s : St) (a : Int) (os : List Or) : Told (upT s) (tickT s a os).2 (upT (tickT s a os).1) := by
  unfold tickT
  refine told_append (told_append (told_orders _ os s) (told_over _ (told_esc1 _) _ 6 (Nat.le_refl _))) ?_
  unfold soundT
  split
  · exact rfl
  · exact told_rest (.inr rfl)
end Go.Proofs.Ytahoiaiknchehaa.Alarm
