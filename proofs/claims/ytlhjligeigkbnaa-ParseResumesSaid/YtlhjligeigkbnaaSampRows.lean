/- Slices of slices of samples that came in. -/
import Derived.Test.YtlhjligeigkbnaaPlaces
import Derived.Test.YtlhjligeigkbnaaSamps
import Derived.Deep.Matrix
set_option linter.unusedSimpArgs false
set_option linter.unusedVariables false
namespace Go.Proofs.Ytlhjligeigkbnaa
open Go.ChangeShapes Go.WideShapes Go.Deep Go.RowKit
/-- A slice of slices of samples that came in. -/
def IsSampRows (w : World) (a : Option Addr) (len cap : Nat) : Prop :=
  (a = none ∧ len = 0 ∧ cap = 0) ∨ ∃ x, a = some x ∧ len ≤ cap ∧ cap ≤ maxLen ∧ ∀ r, r < cap → ∃ A L C Z, w.cell? (x.add r) = some (.slice A L C) ∧ IsSamps w A L C Z
theorem samp_rows_of {H : Type} {enc : TypeId × Value → H} {w : World} {held : Bool} {fuel : Nat} {a : Option Addr} {len cap : Nat} {x : DataW H × List MemPlace}
    (h : DataW.trod enc Try.prog w 0 (fun _ => true) held fuel 52 [.slice a len cap] = some x) : IsSampRows w a len cap := by
  rcases open_slice1 Try.underlying52 (by kernel_rfl) h with ⟨h0, _⟩ | ⟨y, l, c, m, n, V, D, Pl, hcs, hb, hl, hm, hmm, hx, hi⟩
  · simp at h0
    obtain ⟨rfl, rfl, rfl⟩ := h0
    exact .inl ⟨rfl, rfl, rfl⟩
  · simp at hcs
    obtain ⟨rfl, rfl, rfl⟩ := hcs
    simp only [if_true] at hmm
    subst hmm
    refine .inr ⟨y, rfl, hl, hm, fun r hr => ?_⟩
    obtain ⟨h1, h2⟩ := hi r hr
    rcases open_slice Try.underlying32 h2 with ⟨h0, _⟩ | ⟨y2, l2, c2, m2, n2, D2, Pl2, hcs, _⟩
    · simp at h0
      rw [h0] at h1 h2
      obtain ⟨Z, hZ⟩ := samps_of h2
      exact ⟨_, _, _, Z, h1, hZ⟩
    · simp at hcs
      rw [hcs] at h1 h2
      obtain ⟨Z, hZ⟩ := samps_of h2
      exact ⟨_, _, _, Z, h1, hZ⟩
namespace Par
open RU8 Frm
/-- The lists of a slice of slices that came in: where each lies, and what it reads as. -/
theorem rows_lists {w : World} {a : Option Addr} {len cap : Nat} (h : IsSampRows w a len cap) : ∃ (Q : Nat → Ptr) (Ls : Nat → List Samp), len ≤ cap ∧ cap ≤ 9223372036854775807 ∧
    (0 < len → ∃ x, a = some x ∧ ∀ r, r < len → w.cell? (x.add r) = some (.slice (Q r).A (Q r).n (Q r).c) ∧ Row.Vals sampS w (Q r).A (Q r).n (Ls r) ∧ Small (Ls r) ∧ (Q r).n ≤ (Q r).c ∧ (Q r).c ≤ 9223372036854775807) := by
  rcases h with ⟨rfl, rfl, rfl⟩ | ⟨x, rfl, h1, h2, h3⟩
  · exact ⟨fun _ => Ptr.none_, fun _ => [], by omega, by omega, fun h => absurd h (by omega)⟩
  · have each : ∀ r, r < cap → ∃ p : Ptr × List Samp, w.cell? (x.add r) = some (.slice p.1.A p.1.n p.1.c) ∧ Row.Vals sampS w p.1.A p.1.n p.2 ∧ Small p.2 ∧ p.1.n ≤ p.1.c ∧ p.1.c ≤ 9223372036854775807 := fun r hr => by
      obtain ⟨A, L, C, Z, hc, hZ⟩ := h3 r hr
      obtain ⟨ys, hv, hs, hl, hm⟩ := row_samps hZ
      exact ⟨(⟨A, L, C⟩, ys), hc, hv, hs, hl, hm⟩
    have inst : Inhabited (Ptr × List Samp) := ⟨(Ptr.none_, [])⟩
    obtain ⟨f, hf⟩ := choose_lt each
    unfold maxLen at h2
    exact ⟨fun r => (f r).1, fun r => (f r).2, h1, by omega, fun _ => ⟨x, rfl, fun r hr => hf r (by omega)⟩⟩
end Par
end Go.Proofs.Ytlhjligeigkbnaa
