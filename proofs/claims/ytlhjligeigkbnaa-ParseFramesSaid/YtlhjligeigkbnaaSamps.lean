/- Slices of samples (a value of 32 bits, and whether the lead is off): that came in, as lists, rows of the call's own. -/
import Derived.Test.YtlhjligeigkbnaaChecked
import Derived.Test.YtlhjligeigkbnaaLawKit
import Derived.Test.YtlhjligeigkbnaaKept
import Derived.Test.YtlhjligeigkbnaaOwn
import Derived.Test.YtlhjligeigkbnaaShape
import Derived.Deep.Slices
import Derived.Deep.Fields
import Derived.ChangeSame
import Derived.ChangeSlices
import Derived.Maps.AppendAt
import Derived.OwnWalk
import Derived.KernelRfl
set_option linter.unusedSimpArgs false
set_option linter.unusedVariables false
namespace Go.Proofs.Ytlhjligeigkbnaa
open Go.ChangeShapes Go.WideShapes Go.Deep Go.RowKit

/-- A sample: its value, and whether its lead is off. -/
abbrev Samp := Int × Bool
/-- A slice of samples that came in. -/
def IsSamps (w : World) (a : Option Addr) (len cap : Nat) (zs : List Samp) : Prop :=
  (a = none ∧ len = 0 ∧ cap = 0 ∧ zs = []) ∨ ∃ x, a = some x ∧ len ≤ cap ∧ cap ≤ maxLen ∧ zs.length = cap ∧ ∀ r, r < cap → w.cell? (x.add (r * 2)) = some (.int .i32 (zs.getD r (0, false)).1) ∧ w.cell? (x.add (r * 2 + 1)) = some (.bool (zs.getD r (0, false)).2) ∧ (Lit.int .i32 (zs.getD r (0, false)).1).wf = true
theorem samps_of {H : Type} {enc : TypeId × Value → H} {w : World} {held : Bool} {fuel : Nat} {a : Option Addr} {len cap : Nat} {x : DataW H × List MemPlace}
    (h : DataW.trod enc Try.prog w 0 (fun _ => true) held fuel 32 [.slice a len cap] = some x) : ∃ zs, IsSamps w a len cap zs := by
  rcases open_slice Try.underlying32 h with ⟨h0, _⟩ | ⟨y, l, c, m, n, D, Pl, hcs, hb, hl, hm, hmm, hx, hi⟩
  · simp at h0
    obtain ⟨rfl, rfl, rfl⟩ := h0
    exact ⟨[], .inl ⟨rfl, rfl, rfl, rfl⟩⟩
  · simp at hcs
    obtain ⟨rfl, rfl, rfl⟩ := hcs
    simp only [if_true] at hmm
    subst hmm
    have each : ∀ r, r < m → ∃ s : Samp, w.cell? (y.add (r * 2)) = some (.int .i32 s.1) ∧ w.cell? (y.add (r * 2 + 1)) = some (.bool s.2) ∧ (Lit.int .i32 s.1).wf = true := fun r hr => by
      obtain ⟨cs', hc, ht'⟩ := hi r hr
      have hC : Try.prog.cellsOf 49 = 2 := by kernel_rfl
      rw [hC] at hc
      obtain ⟨ys, n', hn', hy, hlen, hyl, hf⟩ := DataW.trod_struct Try.underlying49 ht'
      obtain ⟨_, hcl, hat⟩ := World.cells?_some hc
      have e3 : Try.prog.cellsOf 21 = 1 := by kernel_rfl
      have e4 : Try.prog.cellsOf 4 = 1 := by kernel_rfl
      match cs', hcl with
      | [c0, c1], _ =>
        match ys, hyl with
        | [y0, y1], _ =>
          have h0 : DataW.trod enc Try.prog w 0 (fun _ => true) held n' 21 (([c0, c1].drop 0).take (Try.prog.cellsOf 21)) = some y0 := hf 0 _ rfl
          have h1 : DataW.trod enc Try.prog w 0 (fun _ => true) held n' 4 (([c0, c1].drop 1).take (Try.prog.cellsOf 4)) = some y1 := hf 1 _ rfl
          rw [e3] at h0
          rw [e4] at h1
          replace h0 : DataW.trod enc Try.prog w 0 (fun _ => true) held n' 21 [c0] = some y0 := h0
          replace h1 : DataW.trod enc Try.prog w 0 (fun _ => true) held n' 4 [c1] = some y1 := h1
          obtain ⟨q0, k0, _, g0⟩ := DataW.trod_int Try.underlying21 h0
          obtain ⟨q1, k1, _⟩ := DataW.trod_bool Try.underlying4 h1
          injection k0 with k0
          injection k1 with k1
          have a0 := hat 0 (by omega)
          have a1 := hat 1 (by omega)
          rw [add_add] at a0 a1
          replace a0 : w.cell? (y.add (r * 2)) = _ := a0
          exact ⟨(q0, q1), by rw [a0, k0]; rfl, by rw [a1, k1]; rfl, g0⟩
    refine ⟨(List.range m).map fun r => if h : r < m then (each r h).choose else (0, false), .inr ⟨y, rfl, hl, hm, by simp, fun r hr => ?_⟩⟩
    have e : ((List.range m).map fun r => if h : r < m then (each r h).choose else ((0, false) : Samp)).getD r (0, false) = (each r hr).choose := by
      rw [List.getD_eq_getElem?_getD, List.getElem?_map, List.getElem?_range hr]
      simp [hr]
    rw [e]
    exact (each r hr).choose_spec
/-- How a sample lies. -/
def sampS : Row.Shape Samp := ⟨2, fun s => [.int .i32 s.1, .bool s.2], fun _ => rfl, by decide, fun s u hu => by
  rcases List.mem_cons.1 hu with rfl | hu
  · rfl
  · rcases List.mem_cons.1 hu with rfl | hu
    · rfl
    · cases hu⟩
/-- Values of 32 bits. -/
def Small (ys : List Samp) : Prop := ∀ s ∈ ys, -2147483648 ≤ s.1 ∧ s.1 ≤ 2147483647
theorem Small.at_ {ys : List Samp} (h : Small ys) (j : Nat) : -2147483648 ≤ (ys.getD j (0, false)).1 ∧ (ys.getD j (0, false)).1 ≤ 2147483647 := by
  rcases Nat.lt_or_ge j ys.length with hj | hj
  · rw [List.getD_eq_getElem?_getD, List.getElem?_eq_getElem hj]; exact h _ (List.getElem_mem hj)
  · rw [List.getD_eq_getElem?_getD, List.getElem?_eq_none hj]; decide
theorem samp_cells {w : World} {x : Addr} {len : Nat} {ys : List Samp} (h : Row.Vals sampS w (some x) len ys) (i : Nat) (hi : i < len) : w.cell? (x.add (i * 2)) = some (.int .i32 (ys.getD i (0, false)).1) ∧ w.cell? ⟨(x.add (i * 2)).block, (x.add (i * 2)).off + 1, none⟩ = some (.bool (ys.getD i (0, false)).2) := by
  have hl : i < ys.length := by have := h.len_; omega
  rw [List.getD_eq_getElem?_getD, List.getElem?_eq_getElem hl]
  have e : (⟨(x.add (i * 2)).block, (x.add (i * 2)).off + 1, none⟩ : Addr) = x.add (i * 2 + 1) := by
    rw [← add_add x (i * 2) 1]
    simp [Addr.add]
  rw [e]
  exact ⟨h.at_ i 0 hl _ rfl, h.at_ i 1 hl _ rfl⟩
theorem row_samps {w : World} {a : Option Addr} {len cap : Nat} {zs : List Samp} (h : IsSamps w a len cap zs) : ∃ ys : List Samp, Row.Vals sampS w a len ys ∧ Small ys ∧ len ≤ cap ∧ cap ≤ 9223372036854775807 := by
  refine ⟨zs.take len, ?_⟩
  rcases h with ⟨rfl, rfl, rfl, rfl⟩ | ⟨x, rfl, h1, h2, h3, h4⟩
  · exact ⟨⟨rfl, fun h => absurd h (by omega)⟩, fun s hs => by simp at hs, by omega, by omega⟩
  · unfold maxLen at h2
    refine ⟨⟨by rw [List.length_take]; omega, fun _ => ⟨x, rfl, fun j u hu => ?_⟩⟩, fun s hs => ?_, h1, by omega⟩
    · have hj : j < (Row.flat sampS (zs.take len)).length := (List.getElem?_eq_some_iff.1 hu).1
      rw [Row.flat_length, List.length_take, Nat.min_eq_left (by omega)] at hj
      have hk : sampS.k = 2 := rfl
      rw [hk] at hj
      have hr : j / 2 < (zs.take len).length := by rw [List.length_take]; omega
      have hg := Row.flat_get (S := sampS) (zs.take len) (j / 2) (j % 2) hr (by rw [hk]; omega)
      rw [hk, show j / 2 * 2 + j % 2 = j by omega, hu] at hg
      obtain ⟨c0, c1, _⟩ := h4 (j / 2) (by rw [List.length_take] at hr; omega)
      have e : zs.getD (j / 2) (0, false) = (zs.take len)[j / 2] := by
        rw [List.getD_eq_getElem?_getD, List.getElem?_eq_getElem (by rw [List.length_take] at hr; omega)]
        simp
      rw [e] at c0 c1
      rcases (by omega : j % 2 = 0 ∨ j % 2 = 1) with h5 | h5
      · rw [h5] at hg
        rw [show j = j / 2 * 2 by omega, c0]
        exact hg.symm
      · rw [h5] at hg
        rw [show j = j / 2 * 2 + 1 by omega, c1]
        exact hg.symm
    · obtain ⟨i, hi, rfl⟩ := List.getElem_of_mem hs
      rw [List.length_take] at hi
      have := bounds_i32 (h4 i (by omega)).2.2
      rw [List.getD_eq_getElem?_getD, List.getElem?_eq_getElem (by omega)] at this
      simpa using this
end Go.Proofs.Ytlhjligeigkbnaa
