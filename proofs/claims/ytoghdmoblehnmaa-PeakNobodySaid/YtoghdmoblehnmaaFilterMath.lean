/- Filters over what came (the last value first): the nearest value within a bound, weights, the answers of many pushes. Nothing here speaks of a program. -/
import Derived.Test.YtoghdmoblehnmaaFixqMath
set_option linter.unusedVariables false
namespace Go.Proofs.Ytoghdmoblehnmaa
open Go.RowKit
/-- The nearest number that is not farther from 0 than B. -/
def nearTo (B v : Int) : Int := if B < v then B else if v < -B then -B else v
theorem nearTo_bd (B v : Int) (hB : 0 ≤ B) : -B ≤ nearTo B v ∧ nearTo B v ≤ B := by unfold nearTo; split <;> (try split) <;> omega
theorem nearTo_zero (B : Int) (hB : 0 ≤ B) : nearTo B 0 = 0 := by unfold nearTo; rw [if_neg (by omega), if_neg (by omega)]
theorem nearTo_in (B v : Int) (h1 : -B ≤ v) (h2 : v ≤ B) : nearTo B v = v := by unfold nearTo; rw [if_neg (by omega), if_neg (by omega)]
theorem nearTo_clamp (B v : Int) (hB : 0 ≤ B) : clampZ v (-B) B = nearTo B v := by unfold nearTo clampZ; split <;> (try split) <;> (try split) <;> omega
theorem nearTo_mono (B u v : Int) (hB : 0 ≤ B) (h : u ≤ v) : nearTo B u ≤ nearTo B v := by unfold nearTo; split <;> split <;> (try split) <;> (try split) <;> omega
/-- What counts of what came k steps ago. -/
def cameT (B : Int) (h : List Int) (k : Nat) : Int := nearTo B (h.getD k 0)
theorem came_bd (B : Int) (h : List Int) (k : Nat) (hB : 0 ≤ B) : -B ≤ cameT B h k ∧ cameT B h k ≤ B := nearTo_bd B _ hB
theorem came_map (B : Int) (h : List Int) (k : Nat) (hB : 0 ≤ B) : (h.map (nearTo B)).getD k 0 = cameT B h k := by
  unfold cameT
  rw [List.getD_eq_getElem?_getD, List.getD_eq_getElem?_getD, List.getElem?_map]
  cases h[k]? with
  | none => simp [nearTo_zero B hB]
  | some v => rfl
theorem came_append (B : Int) (l h : List Int) (k : Nat) (hk : k < l.length) : cameT B (l ++ h) k = cameT B l k := by
  unfold cameT
  rw [List.getD_eq_getElem?_getD, List.getD_eq_getElem?_getD, List.getElem?_append_left hk]
theorem came_mem (B : Int) (h : List Int) (k : Nat) (v : Int) (hk : k < h.length) (hv : ∀ u ∈ h, u = v) : cameT B h k = nearTo B v := by
  unfold cameT
  rw [List.getD_eq_getElem?_getD, List.getElem?_eq_getElem hk]
  show nearTo B h[k] = _
  rw [hv _ (List.getElem_mem hk)]
/-- Weights from a place on, times what came. -/
def weighed (B : Int) (h : List Int) : Nat → List Int → Int
  | _, [] => 0
  | k, w :: ws => w * cameT B h k + weighed B h (k + 1) ws
theorem weighed_append (B : Int) (h : List Int) : ∀ (ws vs : List Int) (k : Nat), weighed B h k (ws ++ vs) = weighed B h k ws + weighed B h (k + ws.length) vs
  | [], vs, k => by simp [weighed]
  | w :: ws, vs, k => by
    simp only [List.cons_append, weighed, List.length_cons]
    rw [weighed_append B h ws vs (k + 1), show k + 1 + ws.length = k + (ws.length + 1) by omega]
    omega
theorem weighed_step (B : Int) (h ws : List Int) (j : Nat) (hj : j < ws.length) : weighed B h 0 (ws.take (j + 1)) = weighed B h 0 (ws.take j) + ws.getD j 0 * cameT B h j := by
  rw [List.take_succ_eq_append_getElem hj, weighed_append, List.length_take, Nat.min_eq_left (by omega), List.getD_eq_getElem?_getD, List.getElem?_eq_getElem hj]
  simp [weighed]
theorem mul_bd (w v M B : Int) (hw : -M ≤ w ∧ w ≤ M) (hv : -B ≤ v ∧ v ≤ B) : -(M * B) ≤ w * v ∧ w * v ≤ M * B := by
  have h1 : (w * v).natAbs ≤ M.toNat * B.toNat := by
    rw [Int.natAbs_mul]
    exact Nat.mul_le_mul (by omega) (by omega)
  have h2 : ((M.toNat * B.toNat : Nat) : Int) = M * B := by
    rw [Int.natCast_mul, Int.toNat_of_nonneg (by omega), Int.toNat_of_nonneg (by omega)]
  omega
theorem weighed_bd (B M : Int) (h : List Int) (hB : 0 ≤ B) (hM : 0 ≤ M) : ∀ (ws : List Int) (k : Nat), (∀ w ∈ ws, -M ≤ w ∧ w ≤ M) → -(ws.length * (M * B)) ≤ weighed B h k ws ∧ weighed B h k ws ≤ ws.length * (M * B)
  | [], k, _ => by simp [weighed]
  | w :: ws, k, hw => by
    have h1 := weighed_bd B M h hB hM ws (k + 1) (fun u hu => hw u (List.mem_cons_of_mem _ hu))
    have h2 := mul_bd w (cameT B h k) M B (hw w (List.mem_cons_self ..)) (came_bd B h k hB)
    simp only [weighed, List.length_cons]
    have h3 : ((ws.length + 1 : Nat) : Int) * (M * B) = ws.length * (M * B) + M * B := by rw [Int.natCast_add, Int.add_mul]; simp
    rw [h3]
    omega
/-- The answers of many pushes, one by one. -/
def outsT (F : List Int → Int) : List Int → List Int → List Int
  | _, [] => []
  | h, y :: ys => F (y :: h) :: outsT F (y :: h) ys
section
variable (F : List Int → Int)
theorem outs_len : ∀ (h ys : List Int), (outsT F h ys).length = ys.length
  | _, [] => rfl
  | h, y :: ys => by simp [outsT, outs_len (y :: h) ys]
theorem outs_append : ∀ (h xs ys : List Int), outsT F h (xs ++ ys) = outsT F h xs ++ outsT F (xs.reverse ++ h) ys
  | _, [], _ => rfl
  | h, x :: xs, ys => by simp [outsT, outs_append (x :: h) xs ys]
theorem outs_at : ∀ (h ys : List Int) (i : Nat), i < ys.length → (outsT F h ys).getD i 0 = F ((ys.take (i + 1)).reverse ++ h)
  | _, [], i, hi => absurd hi (by simp)
  | h, y :: ys, 0, _ => by simp [outsT]
  | h, y :: ys, i + 1, hi => by
    have := outs_at (y :: h) ys i (by simpa using hi)
    simpa [outsT] using this
theorem outs_step (h ys : List Int) (j : Nat) (hj : j < ys.length) : outsT F h (ys.take (j + 1)) = outsT F h (ys.take j) ++ [F (ys.getD j 0 :: ((ys.take j).reverse ++ h))] := by
  rw [List.take_succ_eq_append_getElem hj, outs_append, List.getD_eq_getElem?_getD, List.getElem?_eq_getElem hj]
  rfl
theorem came_step (h ys : List Int) (j : Nat) (hj : j < ys.length) : ys.getD j 0 :: ((ys.take j).reverse ++ h) = (ys.take (j + 1)).reverse ++ h := by
  rw [List.take_succ_eq_append_getElem hj, List.reverse_append, List.getD_eq_getElem?_getD, List.getElem?_eq_getElem hj]
  simp
end
end Go.Proofs.Ytoghdmoblehnmaa
