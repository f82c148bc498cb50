/- What follows of the reckoning of alarms: latched, by turns, heard. Of no program. -/
import Derived.Test.YtahoiaiknchehaaAlarmMath
set_option linter.unusedVariables false
set_option linter.unusedSimpArgs false
namespace Go.Proofs.Ytahoiaiknchehaa.Alarm
open Go.RowKit
/- Latched. -/
/-- The alarm of kind g stands, and nobody has acknowledged it. -/
def Up (g : Nat) (s : St) : Prop := (s.get g).stands = true ∧ (s.get g).acked = false
theorem up_set {g k : Nat} {s : St} {o : One} (h : Up g s) (hk : 1 ≤ k ∧ k ≤ 5) (ho : k = g → o.stands = true ∧ o.acked = false) : Up g (s.set k o) := by
  unfold Up
  by_cases e : g = k
  · subst e; rw [get_set _ _ _ hk]; exact ho rfl
  · rw [get_set_ne _ _ _ _ e]; exact h
theorem up_cond {g : Nat} {s : St} (hg : grave g = true) (h : Up g s) (c : Cd) : Up g (condT s c).1 := by
  unfold condT
  split
  · rename_i hc
    have hk : 1 ≤ c.1.toNat ∧ c.1.toNat ≤ 5 := by omega
    generalize c.1.toNat = k at *
    split
    · unfold beginT
      split
      · exact up_set h hk (fun e => by subst e; exact h)
      · rename_i hs
        have h2 : Up g (s.set k ⟨true, true, false, false, nearT c.2.1⟩) := up_set h hk (fun _ => ⟨rfl, rfl⟩)
        dsimp only
        split
        · unfold Up; rw [get_till]; exact h2
        · exact h2
    · unfold endT
      split
      · split
        · exact up_set h hk (fun e => by subst e; exact h)
        · rename_i hh
          refine up_set h hk (fun e => ?_)
          subst e
          exfalso
          apply hh
          unfold St.high
          rw [hg, h.2]; rfl
      · exact h
  · exact h
theorem esc1_all (a : Int) (s : St) (k j : Nat) : ((esc1 a s k).1.get j).stands = (s.get j).stands ∧ ((esc1 a s k).1.get j).acked = (s.get j).acked ∧ ((esc1 a s k).1.get j).on = (s.get j).on := by
  unfold esc1
  split
  · dsimp only
    by_cases hj : j = k
    · subst hj
      by_cases hk : 1 ≤ j ∧ j ≤ 5
      · rw [get_set _ _ _ hk]; exact ⟨rfl, rfl, rfl⟩
      · rw [get_off _ _ hk, get_off _ _ hk]; exact ⟨rfl, rfl, rfl⟩
    · rw [get_set_ne _ _ _ _ hj]; exact ⟨rfl, rfl, rfl⟩
  · exact ⟨rfl, rfl, rfl⟩
theorem esc_all (a : Int) (s : St) (j : Nat) : ∀ n, ((overT (esc1 a) s n).1.get j).stands = (s.get j).stands ∧ ((overT (esc1 a) s n).1.get j).acked = (s.get j).acked ∧ ((overT (esc1 a) s n).1.get j).on = (s.get j).on
  | 0 => ⟨rfl, rfl, rfl⟩
  | n + 1 => by
    have h1 := esc_all a s j n
    have h2 := esc1_all a (overT (esc1 a) s n).1 n j
    exact ⟨h2.1.trans h1.1, h2.2.1.trans h1.2.1, h2.2.2.trans h1.2.2⟩
theorem sound_get (a : Int) (s : St) (j : Nat) : (soundT a s).1.get j = s.get j := by unfold soundT; split <;> first | rfl | exact get_sounds _ _ _
/-- Of what the orders left, a tick keeps all but that it escalates. -/
theorem tick_all (s : St) (a : Int) (os : List Or) (j : Nat) : ((tickT s a os).1.get j).stands = ((ordersT (nearT a) s os).1.get j).stands ∧ ((tickT s a os).1.get j).acked = ((ordersT (nearT a) s os).1.get j).acked ∧ ((tickT s a os).1.get j).on = ((ordersT (nearT a) s os).1.get j).on := by
  have h := esc_all (nearT a) (ordersT (nearT a) s os).1 j 6
  unfold tickT
  dsimp only
  rw [sound_get]
  exact h
theorem up_tick {g : Nat} {s : St} (h : Up g s) (a : Int) : Up g (tickT s a []).1 := by
  have h1 := tick_all s a [] g
  exact ⟨h1.1.trans h.1, h1.2.1.trans h.2⟩
/-- Of the outs, how often the alarm of kind g is no more. -/
def cntC (g : Nat) : List Ot → Nat
  | [] => 0
  | o :: E => (if o.2.2.1 = (g : Int) ∧ o.1 = 3 then 1 else 0) + cntC g E
theorem cntC_append (g : Nat) (E F : List Ot) : cntC g (E ++ F) = cntC g E + cntC g F := by
  induction E with
  | nil => simp [cntC]
  | cons o E ih => simp only [List.cons_append, cntC, ih]; omega
theorem cntC_take (g : Nat) (E : List Ot) (k : Nat) (hk : k < E.length) : cntC g (E.take (k + 1)) = cntC g (E.take k) + (if (E.getD k noOt).2.2.1 = (g : Int) ∧ (E.getD k noOt).1 = 3 then 1 else 0) := by
  rw [List.take_succ_eq_append_getElem hk, cntC_append, getD_in hk]
  simp [cntC]
theorem cntC_le (g : Nat) (E : List Ot) : cntC g E ≤ E.length := by
  induction E with
  | nil => simp [cntC]
  | cons o E ih => simp only [cntC, List.length_cons]; split <;> omega
theorem cnt_over (f : St → Nat → St × List Ot) (g : Nat) (hf : ∀ s k j, j ≠ k → (f s k).1.get j = s.get j) (hc : ∀ s k, k ≠ g → cntC g (f s k).2 = 0) (s : St) : ∀ n, n ≤ g → cntC g (overT f s n).2 = 0
  | 0, _ => rfl
  | n + 1, h => by
    show cntC g ((overT f s n).2 ++ (f (overT f s n).1 n).2) = 0
    rw [cntC_append, cnt_over f g hf hc s n (by omega), hc _ _ (by omega)]
theorem cnt_over2 (f : St → Nat → St × List Ot) (g : Nat) (hf : ∀ s k j, j ≠ k → (f s k).1.get j = s.get j) (hc : ∀ s k, k ≠ g → cntC g (f s k).2 = 0) (s : St) : ∀ n, g < n → cntC g (overT f s n).2 = cntC g (f (overT f s g).1 g).2
  | 0, h => by omega
  | n + 1, h => by
    show cntC g ((overT f s n).2 ++ (f (overT f s n).1 n).2) = _
    rw [cntC_append]
    by_cases e : n = g
    · subst e; rw [cnt_over f n hf hc s n (Nat.le_refl _), Nat.zero_add]
    · rw [cnt_over2 f g hf hc s n (by omega), hc _ _ e, Nat.add_zero]
theorem ack1_cnt (a : Int) (g : Nat) (s : St) (k : Nat) (h : k ≠ g) : cntC g (ack1 a s k).2 = 0 := by
  have h2 : ¬ ((k : Int) = (g : Int)) := by omega
  unfold ack1
  (repeat' split) <;> simp [cntC, h2]
theorem esc1_cnt (a : Int) (g : Nat) (s : St) (k : Nat) : cntC g (esc1 a s k).2 = 0 := by unfold esc1; split <;> simp [cntC]
theorem esc_cnt (a : Int) (g : Nat) (s : St) : ∀ n, cntC g (overT (esc1 a) s n).2 = 0
  | 0 => rfl
  | n + 1 => by
    show cntC g ((overT (esc1 a) s n).2 ++ (esc1 a (overT (esc1 a) s n).1 n).2) = 0
    rw [cntC_append, esc_cnt a g s n, esc1_cnt]
theorem sound_cnt (a : Int) (g : Nat) (s : St) : cntC g (soundT a s).2 = 0 := by unfold soundT; split <;> simp [cntC]
/-- What acknowledging does with one that waits. -/
theorem ack_up {g : Nat} {s : St} (hg : 1 ≤ g ∧ g ≤ 5) (h : Up g s) (a t : Int) : ((s.get g).on = true → ((tickT s a [(t, 1, 0)]).1.get g).stands = true ∧ ((tickT s a [(t, 1, 0)]).1.get g).acked = true ∧ ((tickT s a [(t, 1, 0)]).1.get g).on = true ∧ cntC g (tickT s a [(t, 1, 0)]).2 = 0) ∧
    ((s.get g).on = false → ((tickT s a [(t, 1, 0)]).1.get g).stands = false ∧ ((tickT s a [(t, 1, 0)]).1.get g).on = false ∧ cntC g (tickT s a [(t, 1, 0)]).2 = 1) := by
  have h1 := tick_all s a [(t, 1, 0)] g
  have ho : ordersT (nearT a) s [(t, 1, 0)] = overT (ack1 (nearT a)) s 6 := by
    show ((orderT (nearT a) s (t, 1, 0)).1, (orderT (nearT a) s (t, 1, 0)).2 ++ []) = _
    rw [List.append_nil]
    unfold orderT
    rw [if_pos rfl]
  have hc : cntC g (tickT s a [(t, 1, 0)]).2 = cntC g (overT (ack1 (nearT a)) s 6).2 := by
    unfold tickT
    dsimp only
    rw [cntC_append, cntC_append, esc_cnt, sound_cnt, ho]
    omega
  rw [ho] at h1
  have h2 := over_above (ack1 (nearT a)) (ack1_ne _) s g g (Nat.le_refl _)
  have h3 : (overT (ack1 (nearT a)) s 6).1.get g = (ack1 (nearT a) (overT (ack1 (nearT a)) s g).1 g).1.get g := over_below (ack1 (nearT a)) (ack1_ne _) s g 6 (by omega)
  rw [cnt_over2 _ g (ack1_ne _) (fun s k hk => ack1_cnt _ g s k hk) s 6 (by omega)] at hc
  rw [h3] at h1
  rw [hc]
  generalize (overT (ack1 (nearT a)) s g).1 = s1 at *
  have hw : waits (s1.get g) = true := by rw [h2]; exact waits_iff.2 h
  have hs : (s1.get g).stands = true := by rw [h2]; exact h.1
  rw [h1.1, h1.2.1, h1.2.2, ← h2]
  unfold ack1
  rw [if_pos hw]
  constructor
  · intro hon
    rw [if_pos hon]
    dsimp only
    rw [get_set _ _ _ hg]
    exact ⟨hs, rfl, hon, by simp [cntC]⟩
  · intro hon
    rw [hon, if_neg (by decide)]
    dsimp only
    rw [get_set _ _ _ hg]
    exact ⟨rfl, rfl, by simp [cntC]⟩
theorem condT_in (s : St) (g : Nat) (hg : 1 ≤ g ∧ g ≤ 5) (a : Int) (q : Bool) : condT s ((g : Int), a, q) = if q then beginT s g (nearT a) else endT s g (nearT a) := by
  unfold condT
  rw [if_pos (show 1 ≤ (g : Int) ∧ (g : Int) ≤ 5 by omega)]
  rfl
/-- It begins, or ends. -/
theorem cond_on {g : Nat} {s : St} (hg : 1 ≤ g ∧ g ≤ 5) (hgr : grave g = true) (h : Up g s) (a : Int) (q : Bool) : ((condT s ((g : Int), a, q)).1.get g).on = q := by
  rw [condT_in s g hg]
  cases q
  · rw [if_neg (by decide)]
    unfold endT
    cases ho : (s.get g).on
    · rw [if_neg (by decide)]; exact ho
    · rw [if_pos rfl, if_pos (by unfold St.high; rw [hgr, h.2]; rfl)]
      dsimp only
      rw [get_set _ _ _ hg]
  · rw [if_pos rfl]
    unfold beginT
    rw [if_pos h.1]
    dsimp only
    rw [get_set _ _ _ hg]
theorem cond_end {g : Nat} {s : St} (hg : 1 ≤ g ∧ g ≤ 5) (a : Int) (h : ((s.get g).on = true ∧ (s.get g).acked = true) ∨ ((s.get g).on = false ∧ (s.get g).stands = false)) : ((condT s ((g : Int), a, false)).1.get g).stands = false := by
  rw [condT_in s g hg, if_neg (by decide)]
  unfold endT
  rcases h with ⟨h1, h2⟩ | ⟨h1, h2⟩
  · rw [if_pos h1, if_neg (by rw [h2]; simp)]
    dsimp only
    rw [get_set _ _ _ hg]; rfl
  · rw [h1, if_neg (by decide)]; exact h2
theorem up_first {g : Nat} (hg : 1 ≤ g ∧ g ≤ 5) (e a : Int) : Up g (condT (st0 e) ((g : Int), a, true)).1 := by
  have h0 : (st0 e).get g = noOne := by
    rcases k_cases hg with rfl | rfl | rfl | rfl | rfl <;> rfl
  rw [condT_in _ g hg, if_pos rfl]
  unfold beginT
  rw [h0, if_neg (by decide)]
  dsimp only
  unfold Up
  split
  · rw [get_till, get_set _ _ _ hg]; exact ⟨rfl, rfl⟩
  · rw [get_set _ _ _ hg]; exact ⟨rfl, rfl⟩
/- Heard: one alarm alone. -/
theorem any_of {s : St} {k : Nat} (h : waits (s.get k) = true) : ∀ n, k < n → anyT s n = true
  | 0, hn => by omega
  | n + 1, hn => by
    show (anyT s n || waits (s.get n)) = true
    by_cases hk : k = n
    · subst hk; rw [h, Bool.or_true]
    · rw [any_of h n (by omega), Bool.true_or]
/-- Of the outs, does the alarm of kind k escalate? -/
def anyE (k : Nat) : List Ot → Bool
  | [] => false
  | o :: E => (decide (o.1 = 6) && decide (o.2.2.1 = (k : Int))) || anyE k E
theorem anyE_append (k : Nat) (E F : List Ot) : anyE k (E ++ F) = (anyE k E || anyE k F) := by
  induction E with
  | nil => simp [anyE]
  | cons o E ih => simp only [List.cons_append, anyE, ih, Bool.or_assoc]
theorem anyE_take (k : Nat) (E : List Ot) (z : Nat) (hz : z < E.length) : anyE k (E.take (z + 1)) = (anyE k (E.take z) || (decide ((E.getD z noOt).1 = 6) && decide ((E.getD z noOt).2.2.1 = (k : Int)))) := by
  rw [List.take_succ_eq_append_getElem hz, anyE_append, getD_in hz]
  simp [anyE]
theorem esc1_none (a : Int) (s : St) (j : Nat) (h : s.get j = noOne) : esc1 a s j = (s, []) := by
  unfold esc1
  rw [h]
  rfl
theorem over_single (a : Int) (k : Nat) (s : St) (hs : ∀ j, j ≠ k → s.get j = noOne) : ∀ n, overT (esc1 a) s n = if k < n then esc1 a s k else (s, [])
  | 0 => by rw [if_neg (by omega)]; rfl
  | n + 1 => by
    have h1 := over_single a k s hs n
    show ((esc1 a (overT (esc1 a) s n).1 n).1, (overT (esc1 a) s n).2 ++ (esc1 a (overT (esc1 a) s n).1 n).2) = _
    rw [h1]
    by_cases hk : k < n
    · rw [if_pos hk, if_pos (by omega), esc1_none a (esc1 a s k).1 n (by rw [esc1_ne _ _ _ _ (by omega)]; exact hs n (by omega))]
      simp
    · rw [if_neg hk]
      by_cases e : k = n
      · subst e
        rw [if_pos (by omega)]
        simp
      · rw [if_neg (by omega), esc1_none a s n (hs n (by omega))]
        simp
/-- Behind n ticks. -/
structure Hd (k : Nat) (long : Int) (at_ : Int) (quiet : Int) (n : Nat) (s : St) : Prop where
  esc : s.escape = long
  me : s.get k = ⟨true, true, false, !grave k && decide (long < (n : Int)), at_⟩
  others : ∀ j, j ≠ k → s.get j = noOne
  till : s.till = if n = 0 ∨ quiet = 0 then 0 else at_ + quiet
theorem hd_first {k : Nat} (hk : 1 ≤ k ∧ k ≤ 5) (long at_ quiet : Int) (hl : 1 ≤ long) (ha : 0 ≤ at_ ∧ at_ ≤ 100000) : Hd k long at_ quiet 0 (condT (st0 long) ((k : Int), at_, true)).1 := by
  have h0 : ∀ j, (st0 long).get j = noOne := fun j => by unfold St.get st0; (repeat' split) <;> rfl
  rw [condT_in _ k hk, if_pos rfl, nearT_id _ (by omega)]
  unfold beginT
  rw [h0, if_neg (by decide)]
  dsimp only
  have hd : (!grave k && decide (long < ((0 : Nat) : Int))) = false := by rw [decide_eq_false (by omega), Bool.and_false]
  split
  · exact ⟨by show (St.set _ _ _).escape = long; rw [set_escape]; rfl, by rw [get_till, get_set _ _ _ hk, hd], fun j hj => by rw [get_till, get_set_ne _ _ _ _ hj]; exact h0 j, by rw [if_pos (.inl rfl)]⟩
  · exact ⟨by rw [set_escape]; rfl, by rw [get_set _ _ _ hk, hd], fun j hj => by rw [get_set_ne _ _ _ _ hj]; exact h0 j, by rw [set_till, if_pos (.inl rfl)]; rfl⟩
/-- The orders of a tick. -/
def osH (n : Nat) (quiet : Int) : List Or := if n = 0 ∧ 0 < quiet then [(0, 2, quiet)] else []
theorem hd_tick {k : Nat} (hk : 1 ≤ k ∧ k ≤ 5) {long at_ quiet : Int} (hl : 1 ≤ long) (ha : 0 ≤ at_ ∧ at_ ≤ 100000) (hq : 0 ≤ quiet ∧ quiet < 200) {n : Nat} (hn : n < 400) {s : St} (h : Hd k long at_ quiet n s) :
    Hd k long at_ quiet (n + 1) (tickT s (at_ + (n : Int)) (osH n quiet)).1 ∧ (tickT s (at_ + (n : Int)) (osH n quiet)).1.sounds = decide (quiet ≤ (n : Int)) ∧
    anyE k (tickT s (at_ + (n : Int)) (osH n quiet)).2 = (!grave k && decide ((n : Int) = long)) ∧ (tickT s (at_ + (n : Int)) (osH n quiet)).1.high k = (grave k || decide (long ≤ (n : Int))) := by
  have hnr : nearT (at_ + (n : Int)) = at_ + (n : Int) := nearT_id _ (by omega)
  -- behind the orders
  have ho : ∃ s1 E1, ordersT (at_ + (n : Int)) s (osH n quiet) = (s1, E1) ∧ s1.escape = long ∧ s1.get k = s.get k ∧ (∀ j, j ≠ k → s1.get j = noOne) ∧ (s1.till = if quiet = 0 then 0 else at_ + quiet) ∧ anyE k E1 = false := by
    unfold osH
    by_cases hc : n = 0 ∧ 0 < quiet
    · rw [if_pos hc]
      refine ⟨{ s with till := at_ + (n : Int) + quiet }, [(8, at_ + (n : Int), 0, quiet)], ?_, h.esc, rfl, h.others, ?_, by simp [anyE]⟩
      · show ((orderT _ s (0, 2, quiet)).1, (orderT _ s (0, 2, quiet)).2 ++ []) = _
        rw [List.append_nil]
        unfold orderT
        rw [if_neg (show ¬ (2 : Int) = 1 by decide), if_pos ⟨rfl, by show 1 ≤ quiet; omega, by show quiet ≤ 24000; omega⟩]
      · rw [if_neg (by omega)]
        show at_ + (n : Int) + quiet = at_ + quiet
        omega
    · rw [if_neg hc]
      refine ⟨s, [], rfl, h.esc, rfl, h.others, ?_, rfl⟩
      rw [h.till]
      by_cases hq0 : quiet = 0
      · rw [if_pos (.inr hq0), if_pos hq0]
      · rw [if_neg (by omega), if_neg hq0]
  obtain ⟨s1, E1, e1, h1, h2, h3, h4, h5⟩ := ho
  have hT : tickT s (at_ + (n : Int)) (osH n quiet) = ((soundT (at_ + (n : Int)) (esc1 (at_ + (n : Int)) s1 k).1).1, (E1 ++ (esc1 (at_ + (n : Int)) s1 k).2) ++ (soundT (at_ + (n : Int)) (esc1 (at_ + (n : Int)) s1 k).1).2) := by
    unfold tickT
    rw [hnr, e1]
    dsimp only
    rw [over_single _ k s1 h3 6, if_pos (by omega)]
  rw [hT]
  dsimp only
  -- behind the escalation
  have hE : ∃ s2 E2, esc1 (at_ + (n : Int)) s1 k = (s2, E2) ∧ s2.escape = long ∧ s2.get k = ⟨true, true, false, !grave k && decide (long < ((n + 1 : Nat) : Int)), at_⟩ ∧ (∀ j, j ≠ k → s2.get j = noOne) ∧ s2.till = s1.till ∧ anyE k E2 = (!grave k && decide ((n : Int) = long)) := by
    refine ⟨(esc1 (at_ + (n : Int)) s1 k).1, (esc1 (at_ + (n : Int)) s1 k).2, rfl, by rw [(esc1_rest _ s1 k).1, h1], ?_, fun j hj => by rw [esc1_ne _ _ _ _ hj]; exact h3 j hj, (esc1_rest _ s1 k).2.1, ?_⟩
    · unfold esc1 St.high
      rw [h2, h.me, h1]
      dsimp only
      have hs : at_ + (n : Int) - at_ = (n : Int) := by omega
      rw [hs]
      by_cases hg : grave k = true
      · rw [hg]
        simp
        rw [h2, h.me, hg]; rfl
      · rw [Bool.not_eq_true] at hg
        rw [hg]
        by_cases hlt : long < (n : Int)
        · rw [decide_eq_true hlt, decide_eq_true (show long < ((n + 1 : Nat) : Int) by omega)]
          simp
          rw [h2, h.me, hg, decide_eq_true hlt]; rfl
        · rw [decide_eq_false hlt]
          by_cases hle : long ≤ (n : Int)
          · rw [decide_eq_true hle, decide_eq_true (show long < ((n + 1 : Nat) : Int) by omega)]
            simp [waits]
            rw [get_set _ _ _ hk]
          · rw [decide_eq_false hle, decide_eq_false (show ¬ long < ((n + 1 : Nat) : Int) by omega)]
            simp
            rw [h2, h.me, hg, decide_eq_false hlt]; rfl
    · unfold esc1 St.high
      rw [h2, h.me, h1]
      dsimp only
      have hs : at_ + (n : Int) - at_ = (n : Int) := by omega
      rw [hs]
      by_cases hg : grave k = true
      · rw [hg]; simp [anyE]
      · rw [Bool.not_eq_true] at hg
        rw [hg]
        by_cases hlt : long < (n : Int)
        · rw [decide_eq_true hlt, decide_eq_false (show ¬ (n : Int) = long by omega)]
          simp [anyE]
        · rw [decide_eq_false hlt]
          by_cases hle : long ≤ (n : Int)
          · rw [decide_eq_true hle, decide_eq_true (show (n : Int) = long by omega)]
            simp [anyE, waits]
          · rw [decide_eq_false hle, decide_eq_false (show ¬ (n : Int) = long by omega)]
            simp [anyE]
  obtain ⟨s2, E2, e2, g1, g2, g3, g4, g5⟩ := hE
  rw [e2]
  dsimp only
  have hw : anyT s2 6 = true := any_of (k := k) (by rw [g2]; rfl) 6 (by omega)
  have hld : loudT (at_ + (n : Int)) s2 = decide (quiet ≤ (n : Int)) := by
    unfold loudT
    rw [hw, g4, h4, Bool.true_and]
    apply decide_eq_decide.2
    split <;> omega
  have hsd : (soundT (at_ + (n : Int)) s2).1.sounds = decide (quiet ≤ (n : Int)) ∧ (soundT (at_ + (n : Int)) s2).1.escape = s2.escape ∧ (soundT (at_ + (n : Int)) s2).1.till = s2.till ∧ anyE k (soundT (at_ + (n : Int)) s2).2 = false := by
    unfold soundT
    rw [hld]
    split
    · rename_i hh
      exact ⟨hh.symm, rfl, rfl, rfl⟩
    · exact ⟨rfl, rfl, rfl, by simp [anyE]⟩
  refine ⟨⟨by rw [hsd.2.1, g1], by rw [sound_get, g2], fun j hj => by rw [sound_get]; exact g3 j hj, ?_⟩, hsd.1, by rw [anyE_append, anyE_append, h5, g5, hsd.2.2.2]; simp, ?_⟩
  · rw [hsd.2.2.1, g4, h4]
    by_cases hq0 : quiet = 0
    · rw [if_pos hq0, if_pos (.inr hq0)]
    · rw [if_neg hq0, if_neg (by omega)]
  · unfold St.high
    rw [sound_get, g2]
    dsimp only
    have : decide (long < ((n + 1 : Nat) : Int)) = decide (long ≤ (n : Int)) := decide_eq_decide.2 (by omega)
    rw [this]
    cases grave k <;> simp
end Go.Proofs.Ytahoiaiknchehaa.Alarm
