/- A slice of the law's deeds that came in. -/
import Derived.Test.YtnoppoimahfknaaChecked
import Derived.Test.YtnoppoimahfknaaLawKit
import Derived.Deep.Slices
import Derived.Deep.Fields
import Derived.ChangeSame
import Derived.ChangeSlices
import Derived.KernelRfl
set_option linter.unusedVariables false
namespace Go.Proofs.Ytnoppoimahfknaa
open Go.ChangeShapes Go.WideShapes Go.Deep Go.RowKit

/-- Each deed: what is done, a number, the distances. -/
def IsDeeds (w : World) (a : Option Addr) (len cap : Nat) : Prop :=
  (a = none ∧ len = 0 ∧ cap = 0) ∨ ∃ x, a = some x ∧ len ≤ cap ∧ cap ≤ maxLen ∧ ∀ r, r < cap → ∃ D A L C Z N, w.cell? (x.add (r * 3)) = some (.int .i64 D) ∧ w.cell? (x.add (r * 3 + 1)) = some (.int .i64 N) ∧ w.cell? (x.add (r * 3 + 2)) = some (.slice A L C) ∧
    (Lit.int .i64 D).wf = true ∧ IsRow .i64 w A L C Z ∧ (Lit.int .i64 N).wf = true
set_option maxRecDepth 20000 in
theorem deeds_of {H : Type} {enc : TypeId × Value → H} {w : World} {held : Bool} {fuel : Nat} {a : Option Addr} {len cap : Nat} {x : DataW H × List MemPlace}
    (h : DataW.trod enc Try.prog w 0 (fun _ => true) held fuel 60 [.slice a len cap] = some x) : IsDeeds w a len cap := by
  rcases open_slice Try.underlying60 h with ⟨h0, _⟩ | ⟨y, l, c, m, n, D, Pl, hcs, hb, hl, hm, hmm, hx, hi⟩
  · simp at h0
    exact .inl h0
  · simp at hcs
    obtain ⟨rfl, rfl, rfl⟩ := hcs
    refine .inr ⟨y, rfl, hl, hm, fun r hr => ?_⟩
    simp only [if_true] at hmm
    subst hmm
    obtain ⟨cs', hc, ht'⟩ := hi r hr
    have hC : Try.prog.cellsOf 65 = 3 := by kernel_rfl
    rw [hC] at hc
    obtain ⟨ys, n', hn', hy, hlen, hyl, hf⟩ := DataW.trod_struct Try.underlying65 ht'
    obtain ⟨_, hcl, hat⟩ := World.cells?_some hc
    have e3 : Try.prog.cellsOf 3 = 1 := by kernel_rfl
    have e2 : Try.prog.cellsOf 2 = 1 := by kernel_rfl
    have e27 : Try.prog.cellsOf 61 = 1 := by kernel_rfl
    match cs', hcl with
    | [c0, c1, c2], _ =>
      match ys, hyl with
      | [y0, y1, y2], _ =>
        have h0 : DataW.trod enc Try.prog w 0 (fun _ => true) held n' 3 (([c0, c1, c2].drop 0).take (Try.prog.cellsOf 3)) = some y0 := hf 0 _ rfl
        have h1 : DataW.trod enc Try.prog w 0 (fun _ => true) held n' 2 (([c0, c1, c2].drop 1).take (Try.prog.cellsOf 2)) = some y1 := hf 1 _ rfl
        have h2 : DataW.trod enc Try.prog w 0 (fun _ => true) held n' 61 (([c0, c1, c2].drop 2).take (Try.prog.cellsOf 61)) = some y2 := hf 2 _ rfl
        rw [e3] at h0
        rw [e2] at h1
        rw [e27] at h2
        replace h0 : DataW.trod enc Try.prog w 0 (fun _ => true) held n' 3 [c0] = some y0 := h0
        replace h1 : DataW.trod enc Try.prog w 0 (fun _ => true) held n' 2 [c1] = some y1 := h1
        replace h2 : DataW.trod enc Try.prog w 0 (fun _ => true) held n' 61 [c2] = some y2 := h2
        obtain ⟨q0, k0, _, g0⟩ := DataW.trod_int Try.underlying3 h0
        obtain ⟨q1, k1, _, g1⟩ := DataW.trod_int Try.underlying2 h1
        injection k0 with k0
        injection k1 with k1
        have a0 := hat 0 (by omega)
        have a1 := hat 1 (by omega)
        have a2 := hat 2 (by omega)
        rw [add_add] at a0 a1 a2
        replace a0 : w.cell? (y.add (r * 3)) = _ := a0
        rcases open_ints Try.underlying61 Try.underlying2 e2 h2 with ⟨hcs, _⟩ | ⟨z, l2, c2', zs, hcs, hx2, hl2, hm2, hz2, _, hcell, hwz⟩
        · injection hcs with hcs
          exact ⟨q0, none, 0, 0, [], q1, by rw [a0, k0]; rfl, by rw [a1, k1]; rfl, by rw [a2, hcs]; rfl, g0, .inl ⟨rfl, rfl, rfl, rfl⟩, g1⟩
        · injection hcs with hcs
          exact ⟨q0, some z, l2, c2', zs, q1, by rw [a0, k0]; rfl, by rw [a1, k1]; rfl, by rw [a2, hcs]; rfl, g0, isRow_some hl2 hm2 (by simpa using hz2) hcell hwz, g1⟩
end Go.Proofs.Ytnoppoimahfknaa
