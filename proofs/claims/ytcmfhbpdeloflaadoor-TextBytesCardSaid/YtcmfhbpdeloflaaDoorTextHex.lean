/- Bytes as texts, reckoned: there and back. Nothing here speaks of a program. -/
import Derived.Test.YtcmfhbpdeloflaaDoorTextKit
set_option linter.unusedSimpArgs false
set_option linter.unusedVariables false
namespace Go.Proofs.YtcmfhbpdeloflaaDoor.Txt
open RU8

/-- The sign of a number below 16, and the number of a sign (16: it is none). -/
def hexD (n : Nat) : Nat := if n < 10 then 48 + n else 87 + n
def signT (c : Nat) : Nat := if 48 ≤ c ∧ c ≤ 57 then c - 48 else if 97 ≤ c ∧ c ≤ 102 then c - 87 else 16
theorem sign_hex (n : Nat) (h : n < 16) : signT (hexD n) = n := by unfold signT hexD; split <;> (try split) <;> (try split) <;> omega
theorem hex_sign (c : Nat) (h : signT c ≠ 16) : hexD (signT c) = c ∧ signT c < 16 := by
  unfold signT at h ⊢
  unfold hexD
  split
  · exact ⟨by split <;> omega, by omega⟩
  · rename_i h1
    rw [if_neg h1] at h
    split
    · exact ⟨by split <;> omega, by omega⟩
    · rename_i h2; rw [if_neg h2] at h; exact absurd rfl h
theorem hexD_byte (n : Nat) (h : n < 16) : hexD n < 256 := by unfold hexD; split <;> omega
def hexT (l : List Nat) : List Nat := l.flatMap fun b => [hexD (b / 16), hexD (b % 16)]
theorem hexT_cons (b : Nat) (l : List Nat) : hexT (b :: l) = hexD (b / 16) :: hexD (b % 16) :: hexT l := by simp [hexT]
theorem hexT_append (a b : List Nat) : hexT (a ++ b) = hexT a ++ hexT b := by simp [hexT]
theorem hexT_length (l : List Nat) : (hexT l).length = 2 * l.length := by
  induction l with
  | nil => rfl
  | cons b l ih => rw [hexT_cons]; simp only [List.length_cons, ih]; omega
theorem hexT_bytes {l : List Nat} (h : Bytes l) : Bytes (hexT l) := by
  induction l with
  | nil => exact bytes_nil
  | cons b l ih =>
    rw [hexT_cons]
    have hb := h b (by simp)
    exact bytes_cons (hexD_byte _ (by omega)) (bytes_cons (hexD_byte _ (by omega)) (ih fun y hy => h y (by simp [hy])))
def unhexT : List Nat → Option (List Nat)
  | [] => some []
  | [_] => none
  | h :: k :: l => if signT h = 16 ∨ signT k = 16 then none else (unhexT l).map fun r => (16 * signT h + signT k) :: r
theorem unhex_hex (l : List Nat) (h : Bytes l) : unhexT (hexT l) = some l := by
  induction l with
  | nil => rfl
  | cons b l ih =>
    have hb := h b (by simp)
    rw [hexT_cons, unhexT, sign_hex _ (by omega), sign_hex _ (by omega), if_neg (by omega), ih fun y hy => h y (by simp [hy])]
    simp
    omega
theorem hex_unhex (l : List Nat) : ∀ a, unhexT l = some a → hexT a = l ∧ Bytes a := by
  induction l using unhexT.induct with
  | case1 => intro a h; unfold unhexT at h; injection h with h; subst h; exact ⟨rfl, bytes_nil⟩
  | case2 x => intro a h; unfold unhexT at h; cases h
  | case3 h k l hbad => intro a ha; rw [unhexT, if_pos hbad] at ha; cases ha
  | case4 h k l hok ih =>
    intro a ha
    rw [unhexT, if_neg hok] at ha
    obtain ⟨r, hr, rfl⟩ := Option.map_eq_some_iff.1 ha
    obtain ⟨h1, h2⟩ := ih r hr
    have e1 := hex_sign h (fun e => hok (.inl e))
    have e2 := hex_sign k (fun e => hok (.inr e))
    refine ⟨?_, bytes_cons (by omega) h2⟩
    rw [hexT_cons, h1, show (16 * signT h + signT k) / 16 = signT h by omega, show (16 * signT h + signT k) % 16 = signT k by omega, e1.1, e2.1]
theorem unhex_odd (l : List Nat) (h : l.length % 2 = 1) : unhexT l = none := by
  induction l using unhexT.induct with
  | case1 => simp at h
  | case2 x => rfl
  | case3 a k l hbad => rw [unhexT, if_pos hbad]
  | case4 a k l hok ih => rw [unhexT, if_neg hok, ih (by simp at h; omega)]; rfl
def unhexE (l : List Nat) : Int := if (unhexT l).isSome then 0 else 8
def unhexB (l : List Nat) : List Nat := (unhexT l).getD []
theorem unhexB_bytes (l : List Nat) : Bytes (unhexB l) := by
  unfold unhexB
  cases h : unhexT l with
  | none => exact bytes_nil
  | some a => exact (hex_unhex l a h).2
/-- So much is read, and is ds; the rest is l from 2 j on. -/
def Read2 (l : List Nat) (j : Nat) (ds : List Nat) : Prop := unhexT l = (unhexT (l.drop (2 * j))).map (ds ++ ·) ∧ ds.length = j ∧ 2 * j ≤ l.length
theorem read2_start (l : List Nat) : Read2 l 0 [] := ⟨by simp, rfl, by omega⟩
theorem drop_two {l : List Nat} {j : Nat} (h : 2 * j + 2 ≤ l.length) : l.drop (2 * j) = l.getD (2 * j) 0 :: l.getD (2 * j + 1) 0 :: l.drop (2 * (j + 1)) := by
  rw [List.drop_eq_getElem_cons (by omega), List.drop_eq_getElem_cons (by omega), List.getD_eq_getElem?_getD, List.getD_eq_getElem?_getD, List.getElem?_eq_getElem (by omega), List.getElem?_eq_getElem (by omega)]
  rfl
theorem read2_bad {l ds : List Nat} {j : Nat} (h : Read2 l j ds) (hj : 2 * j + 2 ≤ l.length) (hb : signT (l.getD (2 * j) 0) = 16 ∨ signT (l.getD (2 * j + 1) 0) = 16) : unhexT l = none := by
  rw [h.1, drop_two hj, unhexT, if_pos hb]; rfl
theorem read2_step {l ds : List Nat} {j : Nat} (h : Read2 l j ds) (hj : 2 * j + 2 ≤ l.length) (hb : ¬ (signT (l.getD (2 * j) 0) = 16 ∨ signT (l.getD (2 * j + 1) 0) = 16)) :
    Read2 l (j + 1) (ds ++ [16 * signT (l.getD (2 * j) 0) + signT (l.getD (2 * j + 1) 0)]) := by
  refine ⟨?_, by simp [h.2.1], by omega⟩
  rw [h.1, drop_two hj, unhexT, if_neg hb, Option.map_map]
  congr 1
  funext r
  simp
theorem read2_end {l ds : List Nat} {j : Nat} (h : Read2 l j ds) (hj : 2 * j = l.length) : unhexT l = some ds := by
  rw [h.1, hj, List.drop_length]
  simp [unhexT]
end Go.Proofs.YtcmfhbpdeloflaaDoor.Txt
