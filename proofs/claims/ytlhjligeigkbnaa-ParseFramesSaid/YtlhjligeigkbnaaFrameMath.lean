/- Frames, reckoned: their bytes. Nothing here speaks of a program. -/
import Derived.Test.YtlhjligeigkbnaaCrcMath
import Derived.Test.YtlhjligeigkbnaaArgsB
import Derived.Test.YtlhjligeigkbnaaSamps
set_option linter.unusedSimpArgs false
set_option linter.unusedVariables false
namespace Go.Proofs.Ytlhjligeigkbnaa.Frm
open Go.RowKit RU8

def Fits (s : Samp) : Prop := -32768 ≤ s.1 ∧ s.1 ≤ 32767
instance (s : Samp) : Decidable (Fits s) := by unfold Fits; infer_instance
def mayT (l : List Samp) : Bool := decide (1 ≤ l.length ∧ l.length ≤ 32 ∧ ∀ s ∈ l, Fits s)
def modT (v : Int) : Nat := ((v + 65536) % 65536).toNat
def sampT (s : Samp) : List Nat := [if s.2 then 1 else 0, modT s.1 % 256, modT s.1 / 256]
def sampsT (l : List Samp) : List Nat := l.flatMap sampT
theorem modT_lt (v : Int) : modT v < 65536 := by unfold modT; omega
theorem sampsT_length (l : List Samp) : (sampsT l).length = 3 * l.length := by
  induction l with
  | nil => rfl
  | cons s l ih => rw [show sampsT (s :: l) = sampT s ++ sampsT l from rfl, List.length_append, ih, List.length_cons]; simp [sampT]; omega
theorem sampT_bytes (s : Samp) : Bytes (sampT s) := by
  have := modT_lt s.1
  intro y hy
  simp [sampT] at hy
  rcases hy with rfl | rfl | rfl
  · split <;> decide
  · omega
  · omega
theorem sampsT_bytes (l : List Samp) : Bytes (sampsT l) := by
  intro y hy
  obtain ⟨s, _, hs⟩ := List.mem_flatMap.1 hy
  exact sampT_bytes s y hs
theorem sampsT_take (l : List Samp) (j : Nat) (hj : j < l.length) : sampsT (l.take (j + 1)) = sampsT (l.take j) ++ sampT (l.getD j (0, false)) := by
  unfold sampsT
  rw [List.take_succ_eq_append_getElem hj, List.getD_eq_getElem?_getD, List.getElem?_eq_getElem hj, List.flatMap_append]
  simp only [List.flatMap_cons, List.flatMap_nil, List.append_nil]
  rfl
/-- What the check is of: the number, how many, the samples. -/
def bodyT (seq : Nat) (l : List Samp) : List Nat := seq :: l.length :: sampsT l
end Go.Proofs.Ytlhjligeigkbnaa.Frm
