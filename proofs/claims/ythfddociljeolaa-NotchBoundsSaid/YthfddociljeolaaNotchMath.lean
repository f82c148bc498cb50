/- What a notch answers of all that came; its weights; what follows of it (bounds, what is even). Nothing here speaks of a program. -/
import Derived.Test.YthfddociljeolaaFilterMath
set_option linter.unusedVariables false
namespace Go.Proofs.Ythfddociljeolaa.Notch
open Go.RowKit
def sum50 (h : List Int) : Int := cameT 65535 h 0 + cameT 65535 h 1 + cameT 65535 h 2 + cameT 65535 h 3
def sum60 (h : List Int) : Int := 12516 * cameT 65535 h 0 + 7736 * cameT 65535 h 1 + 12516 * cameT 65535 h 2
/-- What a notch for these mains answers of all that came, the last value first. -/
def notchT (m : Nat) (h : List Int) : Int := if m = 50 then sum50 h / 4 else if m = 60 then sum60 h / 32768 else cameT 65535 h 0
/-- The mains that there are. -/
def Known (m : Nat) : Prop := m = 0 ∨ m = 50 ∨ m = 60
def weightsT (m : Nat) : List Int := if m = 50 then [1, 1, 1, 1] else if m = 60 then [12516, 7736, 12516] else [1]
def logT (m : Nat) : Nat := if m = 50 then 2 else if m = 60 then 15 else 0
theorem came4 (h : List Int) (k : Nat) : -65535 ≤ cameT 65535 h k ∧ cameT 65535 h k ≤ 65535 := came_bd 65535 h k (by omega)
theorem notch_weighed {m : Nat} (hm : Known m) (h : List Int) : weighed 65535 h 0 (weightsT m) / 2 ^ logT m = notchT m h := by
  rcases hm with rfl | rfl | rfl <;> simp [weightsT, logT, notchT, weighed, sum50, sum60]
  · congr 1; omega
  · congr 1; omega
theorem weights_few {m : Nat} (hm : Known m) : (weightsT m).length ≤ 4 ∧ 1 ≤ (weightsT m).length ∧ logT m ≤ 15 ∧ ∀ w ∈ weightsT m, -12516 ≤ w ∧ w ≤ 12516 := by
  rcases hm with rfl | rfl | rfl <;> simp [weightsT, logT]
theorem partial_bd {m : Nat} (hm : Known m) (h : List Int) (j : Nat) (hj : j < (weightsT m).length) :
    (-4000000000 ≤ weighed 65535 h 0 ((weightsT m).take j) ∧ weighed 65535 h 0 ((weightsT m).take j) ≤ 4000000000) ∧
    (-4000000000 ≤ (weightsT m).getD j 0 * cameT 65535 h j ∧ (weightsT m).getD j 0 * cameT 65535 h j ≤ 4000000000) := by
  obtain ⟨h4, _, _, hw⟩ := weights_few hm
  have h1 := weighed_bd 65535 12516 h (by omega) (by omega) ((weightsT m).take j) 0 (fun w hu => hw w (List.mem_of_mem_take hu))
  have hw2 : -12516 ≤ (weightsT m).getD j 0 ∧ (weightsT m).getD j 0 ≤ 12516 := by
    rw [List.getD_eq_getElem?_getD, List.getElem?_eq_getElem hj]
    exact hw _ (List.getElem_mem hj)
  have h2 := mul_bd _ _ 12516 65535 hw2 (came4 h j)
  rw [List.length_take, Nat.min_eq_left (by omega)] at h1
  refine ⟨?_, by omega⟩
  have h3 : (j : Int) ≤ 3 := by omega
  have h5 : (j : Int) * (12516 * 65535) ≤ 3 * (12516 * 65535) := Int.mul_le_mul_of_nonneg_right h3 (by omega)
  omega
theorem sum50_bd (h : List Int) : -262140 ≤ sum50 h ∧ sum50 h ≤ 262140 := by
  have h0 := came4 h 0; have h1 := came4 h 1; have h2 := came4 h 2; have h3 := came4 h 3
  unfold sum50; omega
theorem sum60_bd (h : List Int) : -2147450880 ≤ sum60 h ∧ sum60 h ≤ 2147450880 := by
  have h0 := came4 h 0; have h1 := came4 h 1; have h2 := came4 h 2
  unfold sum60; omega
theorem notch_bd (m : Nat) (h : List Int) : -65535 ≤ notchT m h ∧ notchT m h ≤ 65535 := by
  have h0 := came4 h 0; have h1 := sum50_bd h; have h2 := sum60_bd h
  unfold notchT
  split
  · omega
  · split <;> omega
/-- Four of one value: it is that value. -/
theorem notch_even (m : Nat) (l h : List Int) (v : Int) (hl : 4 ≤ l.length) (hv : ∀ u ∈ l, u = v) (h1 : -65535 ≤ v) (h2 : v ≤ 65535) : notchT m (l ++ h) = v := by
  have hc : ∀ k, k < 4 → cameT 65535 (l ++ h) k = v := fun k hk => by
    rw [came_append 65535 l h k (by omega), came_mem 65535 l k v (by omega) hv, nearTo_in 65535 v h1 h2]
  have c0 := hc 0 (by omega); have c1 := hc 1 (by omega); have c2 := hc 2 (by omega); have c3 := hc 3 (by omega)
  unfold notchT sum50 sum60
  rw [c0, c1, c2, c3]
  split
  · omega
  · split <;> omega
end Go.Proofs.Ythfddociljeolaa.Notch
