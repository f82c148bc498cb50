/- What a finder of peaks answers of all that came, as a machine; what follows of it (each a peak, apart, quiet, pulses). Nothing here speaks of a program. -/
import Derived.Test.YtoghdmoblehnmaaSlopeMath
set_option linter.unusedVariables false
namespace Go.Proofs.Ytoghdmoblehnmaa.Peak
open Go.RowKit
/-- What a sum counts as. -/
def sumW (w : Int) : Int := clampZ w 0 62914560
theorem sumW_bd (w : Int) : 0 ≤ sumW w ∧ sumW w ≤ 62914560 := by unfold sumW clampZ; split <;> (try split) <;> omega
theorem sumW_in (w : Int) (h1 : 0 ≤ w) (h2 : w ≤ 62914560) : sumW w = w := by unfold sumW clampZ; rw [if_neg (by omega), if_neg (by omega)]
theorem sumW_mono (u v : Int) (h : u ≤ v) : sumW u ≤ sumW v := by unfold sumW clampZ; split <;> split <;> (try split) <;> (try split) <;> omega
theorem sumW_twice (w : Int) : sumW (sumW w) = sumW w := sumW_in _ (sumW_bd w).1 (sumW_bd w).2
/-- As min and max read. -/
theorem sumW_ifs (v : Int) : sumW v = if 62914560 < (if v < 0 then 0 else v) then 62914560 else (if v < 0 then 0 else v) := by unfold sumW clampZ; split <;> (try split) <;> (try split) <;> omega
/-- How far from 0 a slope counts as. -/
def distD (d : Int) : Int := Slope.distT (nearTo 107136 d)
theorem distD_bd (d : Int) : 0 ≤ distD d ∧ distD d ≤ 107136 := by
  have := nearTo_bd 107136 d (by omega)
  unfold distD Slope.distT
  split
  · omega
  · split <;> omega
/-- The first is how it stands while it falls (the valley, if there is one); the second while it rises: the top, at which step, how steep. -/
inductive St where
  | falls (o : Option Int)
  | rises (t a p : Int)
/-- A peak: at, seen, top, steep. -/
abbrev Pk := Int × Int × Int × Int
/-- The valley, with one more sum. -/
def valley (o : Option Int) (u : Int) : Int := match o with
  | none => u
  | some v => if u < v then u else v
def more (p q : Int) : Int := if p < q then q else p
/-- One step. -/
def stepT (s : St) (n w d : Int) : Option Pk × St := match s with
  | .falls o => if 2 * valley o (sumW w) + 64 < sumW w then (none, .rises (sumW w) n (distD d)) else (none, .falls (some (valley o (sumW w))))
  | .rises t a p => if t < sumW w then (none, .rises (sumW w) n (more p (distD d))) else if 2 * sumW w < t then (some (a, n, t, more p (distD d)), .falls (some (sumW w))) else (none, .rises t a (more p (distD d)))
/-- Many steps, the first one with this number: the peaks, and how it stands. -/
def runT (s : St) (n : Int) : List (Int × Int) → List Pk × St
  | [] => ([], s)
  | x :: l => ((stepT s n x.1 x.2).1.toList ++ (runT (stepT s n x.1 x.2).2 (n + 1) l).1, (runT (stepT s n x.1 x.2).2 (n + 1) l).2)
theorem run_append (m : List (Int × Int)) : ∀ (l : List (Int × Int)) (s : St) (n : Int), runT s n (l ++ m) = ((runT s n l).1 ++ (runT (runT s n l).2 (n + l.length) m).1, (runT (runT s n l).2 (n + l.length) m).2)
  | [], s, n => by simp [runT]
  | x :: l, s, n => by
    simp only [List.cons_append, runT, run_append m l, List.length_cons, List.append_assoc]
    rw [show n + 1 + (l.length : Int) = n + ((l.length + 1 : Nat) : Int) by omega]
theorem run_snoc (l : List (Int × Int)) (x : Int × Int) (s : St) (n : Int) : runT s n (l ++ [x]) = ((runT s n l).1 ++ (stepT (runT s n l).2 (n + l.length) x.1 x.2).1.toList, (stepT (runT s n l).2 (n + l.length) x.1 x.2).2) := by
  rw [run_append]; simp [runT]
theorem run_step (l : List (Int × Int)) (s : St) (n : Int) (j : Nat) (hj : j < l.length) (w d : Int) (h : l[j]? = some (w, d)) :
    runT s n (l.take (j + 1)) = ((runT s n (l.take j)).1 ++ (stepT (runT s n (l.take j)).2 (n + j) w d).1.toList, (stepT (runT s n (l.take j)).2 (n + j) w d).2) := by
  have h1 : l[j] = (w, d) := by rw [List.getElem?_eq_getElem hj] at h; exact Option.some.inj h
  rw [List.take_succ_eq_append_getElem hj, run_snoc, List.length_take, Nat.min_eq_left (by omega), h1]
/-- Is it rising? -/
def up : St → Bool
  | .falls _ => false
  | .rises _ _ _ => true
/-- What it rises to, when nothing was seen yet. -/
theorem valley_none (u : Int) (h : 0 ≤ u) : ¬ 2 * valley none u + 64 < u := by show ¬ 2 * u + 64 < u; omega
theorem valley_bd (o : Option Int) (u : Int) : valley o u ≤ u := by unfold valley; split <;> (try split) <;> omega
/-- A first sum never rises, and is the valley. -/
theorem run_first (n w d : Int) (l : List (Int × Int)) : runT (.falls none) n ((w, d) :: l) = runT (.falls (some (sumW w))) (n + 1) l := by
  have h := valley_none (sumW w) (sumW_bd w).1
  simp only [runT, stepT]
  rw [if_neg h]
  simp [valley]
theorem run_low (o : Option Int) (n w d : Int) (l : List (Int × Int)) (h : ¬ 2 * valley o (sumW w) + 64 < sumW w) : runT (.falls o) n ((w, d) :: l) = runT (.falls (some (valley o (sumW w)))) (n + 1) l := by
  simp only [runT, stepT]
  rw [if_neg h]
  simp
theorem run_up (o : Option Int) (n w d : Int) (l : List (Int × Int)) (h : 2 * valley o (sumW w) + 64 < sumW w) : runT (.falls o) n ((w, d) :: l) = runT (.rises (sumW w) n (distD d)) (n + 1) l := by
  simp only [runT, stepT]
  rw [if_pos h]
  simp
theorem run_top (t a p n w d : Int) (l : List (Int × Int)) (h : t < sumW w) : runT (.rises t a p) n ((w, d) :: l) = runT (.rises (sumW w) n (more p (distD d))) (n + 1) l := by
  simp only [runT, stepT]
  rw [if_pos h]
  simp
theorem run_on (t a p n w d : Int) (l : List (Int × Int)) (h : ¬ t < sumW w) (h2 : ¬ 2 * sumW w < t) : runT (.rises t a p) n ((w, d) :: l) = runT (.rises t a (more p (distD d))) (n + 1) l := by
  simp only [runT, stepT]
  rw [if_neg h, if_neg h2]
  simp
/-- The step at which a peak is seen is the first one of the fall behind it. -/
theorem run_down (t a p n w d : Int) (l : List (Int × Int)) (h : ¬ t < sumW w) (h2 : 2 * sumW w < t) :
    runT (.rises t a p) n ((w, d) :: l) = ((a, n, t, more p (distD d)) :: (runT (.falls none) n ((w, d) :: l)).1, (runT (.falls none) n ((w, d) :: l)).2) := by
  rw [run_first]
  simp only [runT, stepT]
  rw [if_neg h, if_pos h2]
  simp
/-- A peak of sums that are themselves, all slopes 1: behind the one ahead, the highest up to where it was seen. -/
def Good (ws : List Int) (last : Int) (q : Pk) : Prop :=
  ∃ at_ seen : Nat, q.1 = (at_ : Int) ∧ q.2.1 = (seen : Int) ∧ last < (at_ : Int) ∧ at_ < seen ∧ seen < ws.length ∧ ws.getD at_ 0 = q.2.2.1 ∧ 2 * ws.getD seen 0 < q.2.2.1 ∧ 64 < q.2.2.1 ∧ q.2.2.2 = 1 ∧
    ∀ k, at_ ≤ k → k ≤ seen → ws.getD k 0 ≤ q.2.2.1 ∧ (k < seen → ¬ 2 * ws.getD k 0 < q.2.2.1)
/-- Each of them is good, and behind the one ahead. -/
def Goods (ws : List Int) : Int → List Pk → Prop
  | _, [] => True
  | last, q :: l => Good ws last q ∧ Goods ws q.2.1 l
/-- How it stands ahead of step j, when the last peak was seen at last. -/
def Stood (ws : List Int) (last : Int) (j : Nat) : St → Prop
  | .falls o => last < (j : Int) ∧ ∀ v, o = some v → 0 ≤ v
  | .rises t a p => ∃ at_ : Nat, a = (at_ : Int) ∧ last < a ∧ at_ < j ∧ ws.getD at_ 0 = t ∧ 64 < t ∧ p = 1 ∧ ∀ k, at_ ≤ k → k < j → ws.getD k 0 ≤ t ∧ ¬ 2 * ws.getD k 0 < t
theorem dist_one : distD 1 = 1 := by decide
theorem goods_run (ws : List Int) (hw : ∀ k, 0 ≤ ws.getD k 0 ∧ ws.getD k 0 ≤ 62914560) : ∀ (l : List Int) (j : Nat) (last : Int) (s : St), ws = ws.take j ++ l → j ≤ ws.length → Stood ws last j s →
    Goods ws last (runT s (j : Int) (l.map fun w => (w, 1))).1
  | [], _, _, _, _, _, _ => trivial
  | w :: l, j, last, s, hws, hj, hs => by
    have hl := congrArg List.length hws
    rw [List.length_append, List.length_take, List.length_cons, Nat.min_eq_left hj] at hl
    have hjl : j < ws.length := by omega
    have hat : ws.getD j 0 = w := by
      have h1 : ws[j]? = some w := by
        rw [hws, List.getElem?_append_right (by rw [List.length_take]; omega), List.length_take, Nat.min_eq_left hj]
        simp
      rw [List.getD_eq_getElem?_getD, h1]; rfl
    have hb := hw j
    rw [hat] at hb
    have hsw : sumW w = w := sumW_in w hb.1 hb.2
    have hnext : ws = ws.take (j + 1) ++ l := by
      have h2 : ws.drop j = w :: l := by
        have h3 : ws.drop j = (ws.take j ++ (w :: l)).drop j := by rw [← hws]
        rw [h3, List.drop_append_of_le_length (by rw [List.length_take]; omega), List.drop_of_length_le (by rw [List.length_take]; omega), List.nil_append]
      have h4 : ws.drop (j + 1) = l := by
        rw [← List.drop_drop, h2]; rfl
      rw [← h4, List.take_append_drop]
    have hcast : (j : Int) + 1 = ((j + 1 : Nat) : Int) := by omega
    rw [List.map_cons]
    cases s with
    | falls o =>
      obtain ⟨hs1, hs2⟩ := hs
      by_cases hr : 2 * valley o (sumW w) + 64 < sumW w
      · rw [run_up _ _ _ _ _ hr, hcast]
        refine goods_run ws hw l (j + 1) last _ hnext (by omega) ⟨j, rfl, hs1, by omega, by rw [hat, hsw], ?_, dist_one, ?_⟩
        · have : 0 ≤ valley o (sumW w) := by
            unfold valley
            cases o with
            | none => exact (sumW_bd w).1
            | some v => have := hs2 v rfl; have := (sumW_bd w).1; simp only; split <;> omega
          omega
        · intro k h1 h2
          obtain rfl : k = j := by omega
          rw [hat, hsw]; omega
      · rw [run_low _ _ _ _ _ hr, hcast]
        refine goods_run ws hw l (j + 1) last _ hnext (by omega) ⟨by omega, ?_⟩
        intro v hv
        obtain rfl := Option.some.inj hv
        unfold valley
        cases o with
        | none => exact (sumW_bd w).1
        | some v => have := hs2 v rfl; have := (sumW_bd w).1; simp only; split <;> omega
    | rises t a p =>
      obtain ⟨at_, rfl, h1, h2, h3, h4, rfl, h6⟩ := hs
      have hm : more 1 (distD 1) = 1 := by rw [dist_one]; rfl
      by_cases hr : t < sumW w
      · rw [run_top _ _ _ _ _ _ _ hr, hcast, hm]
        refine goods_run ws hw l (j + 1) last _ hnext (by omega) ⟨j, rfl, by omega, by omega, by rw [hat, hsw], by omega, rfl, ?_⟩
        intro k h7 h8
        obtain rfl : k = j := by omega
        rw [hat, hsw]; omega
      · by_cases hd : 2 * sumW w < t
        · rw [run_down _ _ _ _ _ _ _ hr hd, run_first, hcast, hm]
          refine ⟨⟨at_, j, rfl, rfl, h1, by omega, hjl, h3, by rw [hat]; show 2 * w < t; omega, h4, rfl, ?_⟩, ?_⟩
          · intro k h7 h8
            by_cases hk : k < j
            · exact ⟨(h6 k h7 hk).1, fun _ => (h6 k h7 hk).2⟩
            · obtain rfl : k = j := by omega
              exact ⟨by rw [hat]; show w ≤ t; omega, fun h => absurd h hk⟩
          · exact goods_run ws hw l (j + 1) (j : Int) _ hnext (by omega) ⟨by omega, fun v hv => by obtain rfl := Option.some.inj hv; exact (sumW_bd w).1⟩
        · rw [run_on _ _ _ _ _ _ _ hr hd, hcast, hm]
          refine goods_run ws hw l (j + 1) last _ hnext (by omega) ⟨at_, rfl, h1, by omega, h3, h4, rfl, ?_⟩
          intro k h7 h8
          by_cases hk : k < j
          · exact h6 k h7 hk
          · obtain rfl : k = j := by omega
            rw [hat]; omega
theorem goods_all (ws : List Int) (hw : ∀ k, 0 ≤ ws.getD k 0 ∧ ws.getD k 0 ≤ 62914560) : Goods ws (-1) (runT (.falls none) 0 (ws.map fun w => (w, 1))).1 :=
  goods_run ws hw ws 0 (-1) (.falls none) (by simp) (by omega) ⟨by omega, fun v hv => by cases hv⟩
/-- Sums that are all the same: no peak. -/
def Same (u : Int) : St → Prop
  | .falls o => o = none ∨ o = some u
  | .rises _ _ _ => False
theorem same_step (v n d : Int) (s : St) (h : Same (sumW v) s) : stepT s n v d = (none, .falls (some (sumW v))) := by
  have hb := sumW_bd v
  cases s with
  | rises t a p => exact absurd h id
  | falls o =>
    have hv : valley o (sumW v) = sumW v := by
      rcases h with rfl | rfl
      · rfl
      · unfold valley; simp
    unfold stepT
    simp only [hv]
    rw [if_neg (by omega)]
/-- Sums that never fall: no peak. -/
def Grow (u : Int) : St → Prop
  | .falls o => True
  | .rises t _ _ => t ≤ u
theorem grow_step (v n d u : Int) (s : St) (h : Grow (sumW u) s) (hu : u ≤ v) : (stepT s n v d).1 = none ∧ Grow (sumW v) (stepT s n v d).2 := by
  have hm := sumW_mono u v hu
  have hb := sumW_bd v
  cases s with
  | falls o =>
    unfold stepT
    simp only
    split
    · exact ⟨rfl, Int.le_refl _⟩
    · exact ⟨rfl, trivial⟩
  | rises t a p =>
    have ht : t ≤ sumW u := h
    unfold stepT
    simp only
    split
    · exact ⟨rfl, Int.le_refl _⟩
    · rw [if_neg (by omega)]
      exact ⟨rfl, by show t ≤ sumW v; omega⟩
/-- Sums from 1000 to 1999: no peak. -/
def Flat : St → Prop
  | .falls o => ∀ v, o = some v → 1000 ≤ v
  | .rises _ _ _ => False
theorem flat_step (v n d : Int) (s : St) (h : Flat s) (h1 : 1000 ≤ v) (h2 : v ≤ 1999) : (stepT s n v d).1 = none ∧ Flat (stepT s n v d).2 := by
  have hv := sumW_in v (by omega) (by omega)
  cases s with
  | rises t a p => exact absurd h id
  | falls o =>
    have hy : 1000 ≤ valley o (sumW v) := by
      unfold valley
      cases o with
      | none => simp only; omega
      | some u => have := h u rfl; simp only; split <;> omega
    unfold stepT
    simp only
    rw [if_neg (by omega)]
    exact ⟨rfl, fun u hu => by obtain rfl := Option.some.inj hu; exact hy⟩
/-- A pulse: it stands so behind k of its steps, the first one with the number n; ahead of it there was a sum of 0, or none. -/
def Pulse (o : Option Int) (top n : Int) (k : Nat) : St :=
  if k = 0 then .falls o else if o = some 0 ∧ 64 < top then .rises top n 3 else .falls (some (valley o top))
theorem dist_three : distD 3 = 3 := by decide
theorem dist_nine : distD 9 = 9 := by decide
theorem pulse_step (o : Option Int) (ho : o = none ∨ o = some 0) (top n : Int) (k : Nat) (h1 : 0 ≤ top) (h2 : top ≤ 62914560) : stepT (Pulse o top n k) (n + k) top 3 = (none, Pulse o top n (k + 1)) := by
  have hs := sumW_in top h1 h2
  unfold Pulse
  rw [if_neg (by omega : ¬ k + 1 = 0)]
  rcases ho with rfl | rfl
  · by_cases hk : k = 0
    · subst hk
      simp [stepT, hs, valley]
      omega
    · simp [stepT, hs, valley, hk]
      omega
  · by_cases hk : k = 0
    · subst hk
      by_cases ht : 64 < top
      · have hn : ¬ top < 0 := by omega
        simp [stepT, hs, valley, ht, dist_three, hn]
      · have hn : ¬ top < 0 := by omega
        simp [stepT, hs, valley, ht, hn]
    · by_cases ht : 64 < top
      · have hn : ¬ 2 * top < top := by omega
        simp [stepT, hs, hk, ht, dist_three, more, hn]
      · have hn : ¬ top < 0 := by omega
        simp [stepT, hs, hk, ht, valley, hn]
/-- The first sum of 0 behind it: a peak, if it was high enough. -/
theorem pulse_end (top n m : Int) (k : Nat) (hk : 0 < k) (h1 : 0 ≤ top) (h2 : top ≤ 62914560) : stepT (Pulse (some 0) top n k) m 0 9 = (if 64 < top then some (n, m, top, 9) else none, .falls (some 0)) := by
  have hs : sumW 0 = 0 := rfl
  have hk0 : ¬ k = 0 := by omega
  unfold Pulse
  by_cases ht : 64 < top
  · have hn : ¬ top < 0 := by omega
    have hp : 0 < top := by omega
    simp [stepT, hs, hk0, ht, dist_nine, more, hn, hp]
  · have hn : ¬ top < 0 := by omega
    simp [stepT, hs, hk0, ht, valley, hn]
theorem pulse_end0 (top n m : Int) (k : Nat) (hk : 0 < k) (h1 : 0 ≤ top) (h2 : top ≤ 62914560) : stepT (Pulse none top n k) m 0 9 = (none, .falls (some 0)) := by
  have hs : sumW 0 = 0 := rfl
  have hk0 : ¬ k = 0 := by omega
  unfold Pulse
  rcases Int.lt_or_le 0 top with ht | ht
  · simp [stepT, hs, hk0, valley, ht]
  · obtain rfl : top = 0 := by omega
    simp [stepT, hs, hk0, valley]
theorem zero_step (m : Int) : stepT (.falls (some 0)) m 0 0 = (none, .falls (some 0)) := by
  have hs : sumW 0 = 0 := rfl
  simp [stepT, hs, valley]
end Go.Proofs.Ytoghdmoblehnmaa.Peak
