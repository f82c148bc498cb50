/- A slice of the law's deeds that came in: what is done, orders, a number. -/
import Derived.Test.YtmefdgmbpihdfaaDoorChecked
import Derived.Test.YtmefdgmbpihdfaaDoorLawKit
import Derived.Test.YtmefdgmbpihdfaaDoorOrderArgs
import Derived.Deep.Slices
import Derived.Deep.Fields
import Derived.ChangeSame
import Derived.ChangeSlices
import Derived.KernelRfl
set_option linter.unusedVariables false
namespace Go.Proofs.YtmefdgmbpihdfaaDoor
open Go.ChangeShapes Go.WideShapes Go.Deep Go.RowKit
open Alarm (Or orS)
open Order (OrOk or_dec)
/-- A cell that holds a slice of structs. -/
theorem flat_cell {H : Type} {enc : TypeId × Value → H} {P : Program} {w : World} {held : Bool} {α : Type} (S : Row.Shape α) (Q : α → Prop) {t e : TypeId} {ks : List Row.Kind} {fuel : Nat} {c : Value} {x : DataW H × List MemPlace} (ht : P.underlying t = some (.slice e)) (hk : Row.kindsOf P 20 e = some ks) (hc : P.cellsOf e = ks.length) (hS : S.k = ks.length)
    (hdec : ∀ vs : List Value, Row.Oks ks vs → ∃ z : α, S.enc z = vs ∧ Q z)
    (h : DataW.trod enc P w 0 (fun _ => true) held fuel t [c] = some x) : ∃ A L C ys, c = .slice A L C ∧ Row.IsFlat S Q w A L C ys := by
  rcases open_slice ht h with ⟨h0, _⟩ | ⟨y2, l2, c2, m2, n2, D2, Pl2, hcs, _⟩
  · simp at h0
    rw [h0] at h
    obtain ⟨ys, hZ⟩ := Row.flat_of S Q ht hk hc hS hdec h
    exact ⟨_, _, _, ys, h0, hZ⟩
  · simp at hcs
    rw [hcs] at h
    obtain ⟨ys, hZ⟩ := Row.flat_of S Q ht hk hc hS hdec h
    exact ⟨_, _, _, ys, hcs, hZ⟩
/-- Each deed. -/
def IsDeeds (w : World) (a : Option Addr) (len cap : Nat) : Prop :=
  (a = none ∧ len = 0 ∧ cap = 0) ∨ ∃ x, a = some x ∧ len ≤ cap ∧ cap ≤ maxLen ∧ ∀ r, r < cap → ∃ D B M E N z2, w.cell? (x.add (r * 3)) = some (.int .i64 D) ∧ w.cell? (x.add (r * 3 + 1)) = some (.slice B M E) ∧ w.cell? (x.add (r * 3 + 2)) = some (.int .i64 N) ∧
    (Lit.int .i64 D).wf = true ∧ Row.IsFlat orS OrOk w B M E z2 ∧ (Lit.int .i64 N).wf = true
set_option maxRecDepth 20000 in
theorem deeds_of {H : Type} {enc : TypeId × Value → H} {w : World} {held : Bool} {fuel : Nat} {a : Option Addr} {len cap : Nat} {x : DataW H × List MemPlace}
    (h : DataW.trod enc Tryd.prog w 0 (fun _ => true) held fuel 36 [.slice a len cap] = some x) : IsDeeds w a len cap := by
  rcases open_slice Tryd.underlying36 h with ⟨h0, _⟩ | ⟨y, l, c, m, n, D, Pl, hcs, hb, hl, hm, hmm, hx, hi⟩
  · simp at h0
    exact .inl h0
  · simp at hcs
    obtain ⟨rfl, rfl, rfl⟩ := hcs
    refine .inr ⟨y, rfl, hl, hm, fun r hr => ?_⟩
    simp only [if_true] at hmm
    subst hmm
    obtain ⟨cs', hc, ht'⟩ := hi r hr
    have hC : Tryd.prog.cellsOf 43 = 3 := by kernel_rfl
    rw [hC] at hc
    obtain ⟨ys, n', hn', hy, hlen, hyl, hf⟩ := DataW.trod_struct Tryd.underlying43 ht'
    obtain ⟨_, hcl, hat⟩ := World.cells?_some hc
    have e3 : Tryd.prog.cellsOf 3 = 1 := by kernel_rfl
    have e2 : Tryd.prog.cellsOf 2 = 1 := by kernel_rfl
    have e8 : Tryd.prog.cellsOf 39 = 1 := by kernel_rfl
    match cs', hcl with
    | [c0, c1, c2], _ =>
      match ys, hyl with
      | [y0, y1, y2], _ =>
        have h0 : DataW.trod enc Tryd.prog w 0 (fun _ => true) held n' 3 (([c0, c1, c2].drop 0).take (Tryd.prog.cellsOf 3)) = some y0 := hf 0 _ rfl
        have h1 : DataW.trod enc Tryd.prog w 0 (fun _ => true) held n' 39 (([c0, c1, c2].drop 1).take (Tryd.prog.cellsOf 39)) = some y1 := hf 1 _ rfl
        have h2 : DataW.trod enc Tryd.prog w 0 (fun _ => true) held n' 2 (([c0, c1, c2].drop 2).take (Tryd.prog.cellsOf 2)) = some y2 := hf 2 _ rfl
        rw [e3] at h0
        rw [e8] at h1
        rw [e2] at h2
        replace h0 : DataW.trod enc Tryd.prog w 0 (fun _ => true) held n' 3 [c0] = some y0 := h0
        replace h1 : DataW.trod enc Tryd.prog w 0 (fun _ => true) held n' 39 [c1] = some y1 := h1
        replace h2 : DataW.trod enc Tryd.prog w 0 (fun _ => true) held n' 2 [c2] = some y2 := h2
        obtain ⟨q0, k0, _, g0⟩ := DataW.trod_int Tryd.underlying3 h0
        obtain ⟨q2, k2, _, g2⟩ := DataW.trod_int Tryd.underlying2 h2
        injection k0 with k0
        injection k2 with k2
        obtain ⟨B, M, E, z2, k1, g1⟩ := flat_cell orS OrOk Tryd.underlying39 (by kernel_rfl) (by kernel_rfl) rfl or_dec h1
        have a0 := hat 0 (by omega)
        have a1 := hat 1 (by omega)
        have a2 := hat 2 (by omega)
        rw [add_add] at a0 a1 a2
        replace a0 : w.cell? (y.add (r * 3)) = _ := a0
        exact ⟨q0, B, M, E, q2, z2, by rw [a0, k0]; rfl, by rw [a1, k1]; rfl, by rw [a2, k2]; rfl, g0, g1, g2⟩
end Go.Proofs.YtmefdgmbpihdfaaDoor
