/- A slice of the law's deeds that came in. -/
import Derived.Test.YteiakpepdnhigaaChecked
import Derived.Test.YteiakpepdnhigaaLawKit
import Derived.Deep.Slices
import Derived.Deep.Fields
import Derived.ChangeSame
import Derived.ChangeSlices
import Derived.KernelRfl
set_option linter.unusedVariables false
namespace Go.Proofs.Yteiakpepdnhigaa
open Go.ChangeShapes Go.WideShapes Go.Deep Go.RowKit

/-- Each deed: what is done, the things, a number. -/
def IsDeeds (w : World) (a : Option Addr) (len cap : Nat) : Prop :=
  (a = none ∧ len = 0 ∧ cap = 0) ∨ ∃ x, a = some x ∧ len ≤ cap ∧ cap ≤ maxLen ∧ ∀ r, r < cap → ∃ D A L C Z N, w.cell? (x.add (r * 3)) = some (.int .i64 D) ∧ w.cell? (x.add (r * 3 + 1)) = some (.slice A L C) ∧ w.cell? (x.add (r * 3 + 2)) = some (.int .i64 N) ∧
    (Lit.int .i64 D).wf = true ∧ IsRow .i64 w A L C Z ∧ (Lit.int .i64 N).wf = true
theorem deeds_of {H : Type} {enc : TypeId × Value → H} {w : World} {held : Bool} {fuel : Nat} {a : Option Addr} {len cap : Nat} {x : DataW H × List MemPlace}
    (h : DataW.trod enc Try.prog w 0 (fun _ => true) held fuel 22 [.slice a len cap] = some x) : IsDeeds w a len cap := by
  rcases open_slice Try.underlying22 h with ⟨h0, _⟩ | ⟨y, l, c, m, n, D, Pl, hcs, hb, hl, hm, hmm, hx, hi⟩
  · simp at h0
    exact .inl h0
  · simp at hcs
    obtain ⟨rfl, rfl, rfl⟩ := hcs
    refine .inr ⟨y, rfl, hl, hm, fun r hr => ?_⟩
    simp only [if_true] at hmm
    subst hmm
    obtain ⟨cs', hc, ht'⟩ := hi r hr
    have hC : Try.prog.cellsOf 34 = 3 := by kernel_rfl
    rw [hC] at hc
    obtain ⟨ys, n', hn', hy, hlen, hyl, hf⟩ := DataW.trod_struct Try.underlying34 ht'
    obtain ⟨_, hcl, hat⟩ := World.cells?_some hc
    have e3 : Try.prog.cellsOf 3 = 1 := by kernel_rfl
    have e27 : Try.prog.cellsOf 27 = 1 := by kernel_rfl
    match cs', hcl with
    | [c0, c1, c2], _ =>
      match ys, hyl with
      | [y0, y1, y2], _ =>
        have h0 : DataW.trod enc Try.prog w 0 (fun _ => true) held n' 3 (([c0, c1, c2].drop 0).take (Try.prog.cellsOf 3)) = some y0 := hf 0 _ rfl
        have h1 : DataW.trod enc Try.prog w 0 (fun _ => true) held n' 27 (([c0, c1, c2].drop 1).take (Try.prog.cellsOf 27)) = some y1 := hf 1 _ rfl
        have h2 : DataW.trod enc Try.prog w 0 (fun _ => true) held n' 3 (([c0, c1, c2].drop 2).take (Try.prog.cellsOf 3)) = some y2 := hf 2 _ rfl
        rw [e3] at h0 h2
        rw [e27] at h1
        replace h0 : DataW.trod enc Try.prog w 0 (fun _ => true) held n' 3 [c0] = some y0 := h0
        replace h1 : DataW.trod enc Try.prog w 0 (fun _ => true) held n' 27 [c1] = some y1 := h1
        replace h2 : DataW.trod enc Try.prog w 0 (fun _ => true) held n' 3 [c2] = some y2 := h2
        obtain ⟨q0, k0, _, g0⟩ := DataW.trod_int Try.underlying3 h0
        obtain ⟨q2, k2, _, g2⟩ := DataW.trod_int Try.underlying3 h2
        injection k0 with k0
        injection k2 with k2
        have a0 := hat 0 (by omega)
        have a1 := hat 1 (by omega)
        have a2 := hat 2 (by omega)
        rw [add_add] at a0 a1 a2
        replace a0 : w.cell? (y.add (r * 3)) = _ := a0
        rcases open_ints Try.underlying27 Try.underlying3 e3 h1 with ⟨hcs, _⟩ | ⟨z, l2, c2', zs, hcs, hx2, hl2, hm2, hz2, _, hcell, hwz⟩
        · injection hcs with hcs
          exact ⟨q0, none, 0, 0, [], q2, by rw [a0, k0]; rfl, by rw [a1, hcs]; rfl, by rw [a2, k2]; rfl, g0, .inl ⟨rfl, rfl, rfl, rfl⟩, g2⟩
        · injection hcs with hcs
          exact ⟨q0, some z, l2, c2', zs, q2, by rw [a0, k0]; rfl, by rw [a1, hcs]; rfl, by rw [a2, k2]; rfl, g0, isRow_some hl2 hm2 (by simpa using hz2) hcell hwz, g2⟩
end Go.Proofs.Yteiakpepdnhigaa
