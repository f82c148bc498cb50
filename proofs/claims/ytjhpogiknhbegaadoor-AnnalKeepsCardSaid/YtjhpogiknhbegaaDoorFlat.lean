/- Slices of structs of whole numbers, booleans and strings that came in (structs within structs, too), and slices of those: as rows. Of no program. -/
import Derived.Test.YtjhpogiknhbegaaDoorShape
import Derived.Test.YtjhpogiknhbegaaDoorLawKit
import Derived.Deep.Slices
import Derived.Deep.Fields
import Derived.Deep.Matrix
import Derived.ChangeSame
import Derived.ChangeSlices
set_option linter.unusedSimpArgs false
set_option linter.unusedVariables false
namespace Go.Proofs.YtjhpogiknhbegaaDoor.Row
open Go.ChangeShapes Go.WideShapes Go.Deep Go.RowKit
/-- What a cell holds. -/
inductive Kind where
  | int (k : IntKind)
  | bool
  | str
def Kind.ok : Kind → Value → Prop
  | .int k, v => ∃ n, v = .int k n ∧ (Lit.int k n).wf = true
  | .bool, v => ∃ b, v = .bool b
  | .str, v => ∃ s : ByteArray, v = .string s ∧ s.size ≤ maxLen
mutual
/-- What the cells of a type hold, one after the other. -/
def kindsOf (P : Program) : Nat → TypeId → Option (List Kind)
  | 0, _ => none
  | n + 1, t => match P.underlying t with
    | some (.int k) => some [.int k]
    | some .bool => some [.bool]
    | some .string => some [.str]
    | some (.struct fs) => match fieldKinds P n fs.toList 0 with
      | some ks => if P.cellsOf t = ks.length then some ks else none
      | none => none
    | _ => none
def fieldKinds (P : Program) : Nat → List Field → Nat → Option (List Kind)
  | 0, _, _ => none
  | _ + 1, [], _ => some []
  | n + 1, f :: fs, o => match kindsOf P n f.type with
    | some ks => if f.offset = o ∧ P.cellsOf f.type = ks.length then (match fieldKinds P n fs (o + ks.length) with | some r => some (ks ++ r) | none => none) else none
    | none => none
end
section
variable {H : Type} {enc : TypeId × Value → H} {P : Program} {w : World} {base : Nat} {spare : Nat → Bool} {held : Bool}
/-- These cells hold that. -/
def Oks (ks : List Kind) (cs : List Value) : Prop := cs.length = ks.length ∧ ∀ (i : Nat) (k : Kind), ks[i]? = some k → ∃ v, cs[i]? = some v ∧ k.ok v
theorem oks_one {k : Kind} {v : Value} (h : k.ok v) : Oks [k] [v] := ⟨rfl, fun i k' hk => by
  cases i with
  | zero => simp at hk; subst hk; exact ⟨v, rfl, h⟩
  | succ i => simp at hk⟩
theorem oks_all : ∀ (m : Nat),
    (∀ (t : TypeId) (ks : List Kind) (fuel : Nat) (cs : List Value) (x : DataW H × List MemPlace), kindsOf P m t = some ks → DataW.trod enc P w base spare held fuel t cs = some x → Oks ks cs) ∧
    (∀ (fs : List Field) (o : Nat) (ks : List Kind) (fuel : Nat) (cs : List Value), fieldKinds P m fs o = some ks → cs.length = o + ks.length →
      (∀ (f : Field), f ∈ fs → ∃ x, DataW.trod enc P w base spare held fuel f.type ((cs.drop f.offset).take (P.cellsOf f.type)) = some x) → Oks ks (cs.drop o))
  | 0 => ⟨fun t ks fuel cs x h => by simp [kindsOf] at h, fun fs o ks fuel cs h => by simp [fieldKinds] at h⟩
  | m + 1 => by
    obtain ⟨ih1, ih2⟩ := oks_all m
    refine ⟨fun t ks fuel cs x hk h => ?_, fun fs o ks fuel cs hk hl h => ?_⟩
    · unfold kindsOf at hk
      split at hk
      · rename_i k hu
        obtain ⟨n, rfl, _, hw⟩ := DataW.trod_int hu h
        injection hk with hk
        subst hk
        exact oks_one ⟨n, rfl, hw⟩
      · rename_i hu
        obtain ⟨b, rfl, _⟩ := DataW.trod_bool hu h
        injection hk with hk
        subst hk
        exact oks_one ⟨b, rfl⟩
      · rename_i hu
        obtain ⟨s, rfl, _, hs⟩ := DataW.trod_string hu h
        injection hk with hk
        subst hk
        exact oks_one ⟨s, rfl, hs⟩
      · rename_i fs hu
        split at hk
        · rename_i ks' hks
          split at hk
          · rename_i hc
            injection hk with hk
            subst hk
            obtain ⟨xs, n, rfl, _, hlen, hxl, hf⟩ := DataW.trod_struct hu h
            have := ih2 fs.toList 0 ks' n cs hks (by omega) (fun f hm => by
              obtain ⟨i, hi, rfl⟩ := List.getElem_of_mem hm
              have hi' : i < fs.size := by simpa using hi
              have h9 := hf i fs[i] (by rw [Array.getElem?_eq_getElem hi'])
              rw [List.getElem?_eq_getElem (by omega)] at h9
              exact ⟨_, by simpa using h9⟩)
            rwa [List.drop_zero] at this
          · cases hk
        · cases hk
      · cases hk
    · cases fs with
      | nil =>
        simp [fieldKinds] at hk
        subst hk
        refine ⟨by simp; simp at hl; omega, fun i k hi => by simp at hi⟩
      | cons f fs =>
        unfold fieldKinds at hk
        split at hk
        · rename_i k1 hk1
          split at hk
          · rename_i hc
            obtain ⟨ho, hce⟩ := hc
            split at hk
            · rename_i r hr
              injection hk with hk
              subst hk
              obtain ⟨x, hx⟩ := h f (by simp)
              have h1 := ih1 f.type k1 fuel _ x hk1 hx
              have h2 := ih2 fs (o + k1.length) r fuel cs hr (by rw [List.length_append] at hl; omega) (fun g hg => h g (by simp [hg]))
              rw [ho, hce] at h1
              refine ⟨by rw [List.length_drop, List.length_append]; rw [List.length_append] at hl; omega, fun i k hi => ?_⟩
              rcases Nat.lt_or_ge i k1.length with h3 | h3
              · rw [List.getElem?_append_left h3] at hi
                obtain ⟨v, hv, hok⟩ := h1.2 i k hi
                rw [List.getElem?_take, if_pos h3] at hv
                exact ⟨v, hv, hok⟩
              · rw [List.getElem?_append_right h3] at hi
                obtain ⟨v, hv, hok⟩ := h2.2 _ k hi
                rw [List.getElem?_drop] at hv ⊢
                rw [show o + i = o + k1.length + (i - k1.length) by omega]
                exact ⟨v, hv, hok⟩
            · cases hk
          · cases hk
        · cases hk
/-- A slice of structs that came in: as a row of things of which each lies as the shape says. -/
structure IsFlat {α : Type} (S : Shape α) (Q : α → Prop) (w : World) (a : Option Addr) (len cap : Nat) (ys : List α) : Prop where
  row : Vals S w a len ys
  each : ∀ z ∈ ys, Q z
  le : len ≤ cap
  max : cap ≤ 9223372036854775807
  far : 0 < len → ∀ x, a = some x → x.block < w.heap.size
theorem flat_of {α : Type} (S : Shape α) (Q : α → Prop) {t e : TypeId} {ks : List Kind} {fuel : Nat} {a : Option Addr} {len cap : Nat} {x : DataW H × List MemPlace} (ht : P.underlying t = some (.slice e)) (hk : kindsOf P 20 e = some ks) (hc : P.cellsOf e = ks.length) (hS : S.k = ks.length)
    (hdec : ∀ vs : List Value, Oks ks vs → ∃ z : α, S.enc z = vs ∧ Q z)
    (h : DataW.trod enc P w base (fun _ => true) held fuel t [.slice a len cap] = some x) : ∃ ys : List α, IsFlat S Q w a len cap ys := by
  rcases open_slice ht h with ⟨h0, _⟩ | ⟨y, l, c, m, n, D, Pl, hcs, hb, hl, hm, hmm, hx, hi⟩
  · simp at h0
    obtain ⟨rfl, rfl, rfl⟩ := h0
    exact ⟨[], ⟨rfl, fun h => absurd h (by omega)⟩, (fun z hz => by cases hz), by omega, by omega, fun h => absurd h (by omega)⟩
  · simp at hcs
    obtain ⟨rfl, rfl, rfl⟩ := hcs
    simp only [if_true] at hmm
    subst hmm
    unfold maxLen at hm
    have each : ∀ r, r < m → ∃ z : α, Q z ∧ ∀ i u, (S.enc z)[i]? = some u → w.cell? (y.add (r * S.k + i)) = some u := fun r hr => by
      obtain ⟨cs', hcc, ht'⟩ := hi r hr
      obtain ⟨_, hcl, hat⟩ := World.cells?_some hcc
      obtain ⟨z, hz, hq⟩ := hdec cs' ((oks_all 20).1 e ks n cs' _ hk ht')
      refine ⟨z, hq, fun i u hu => ?_⟩
      rw [hz] at hu
      have hi9 : i < P.cellsOf e := by rw [← hcl]; exact (List.getElem?_eq_some_iff.1 hu).1
      have := hat i hi9
      rw [add_add, hu, hc, ← hS] at this
      exact this
    have hz0 : 0 < len → ∃ z : α, Q z := fun h0 => by obtain ⟨z, hq, _⟩ := each 0 (by omega); exact ⟨z, hq⟩
    rcases Nat.eq_zero_or_pos len with h0 | h0
    · subst h0
      exact ⟨[], ⟨rfl, fun h => absurd h (by omega)⟩, (fun z hz => by cases hz), by omega, by omega, fun h => absurd h (by omega)⟩
    · obtain ⟨z0, _⟩ := hz0 h0
      have inst : Inhabited α := ⟨z0⟩
      obtain ⟨f, hf⟩ := choose_lt each
      refine ⟨(List.range len).map f, ⟨by simp, fun _ => ⟨y, rfl, fun j u hu => ?_⟩⟩, (fun z hz => ?_), hl, by omega, fun _ x hx => ?_⟩
      · have hj : j < (flat S ((List.range len).map f)).length := (List.getElem?_eq_some_iff.1 hu).1
        rw [flat_length, List.length_map, List.length_range] at hj
        have hkp := S.pos
        have hdm := Nat.div_add_mod j S.k
        have hd : j / S.k < len := Nat.div_lt_of_lt_mul (by rwa [Nat.mul_comm] at hj)
        have hmo : j % S.k < S.k := Nat.mod_lt _ hkp
        have hg := flat_get (S := S) ((List.range len).map f) (j / S.k) (j % S.k) (by simpa using hd) hmo
        rw [show j / S.k * S.k + j % S.k = j by rw [Nat.mul_comm]; exact hdm, hu] at hg
        have h9 := (hf (j / S.k) (by omega)).2 (j % S.k) u (by rw [hg]; simp)
        rwa [show j / S.k * S.k + j % S.k = j by rw [Nat.mul_comm]; exact hdm] at h9
      · obtain ⟨r, hr, rfl⟩ := List.mem_map.1 hz
        exact (hf r (by have := List.mem_range.1 hr; omega)).1
      · injection hx with hx
        subst hx
        have h9 : 0 < (S.enc (f 0)).length := by rw [S.len]; exact S.pos
        have := World.block_lt_of_cell? _ _ ((hf 0 (by omega)).2 0 _ (List.getElem?_eq_getElem h9))
        rwa [block_add] at this
/-- A slice of such slices that came in. -/
def IsFlats {α : Type} (S : Shape α) (Q : α → Prop) (w : World) (a : Option Addr) (len cap : Nat) : Prop :=
  (a = none ∧ len = 0 ∧ cap = 0) ∨ ∃ x, a = some x ∧ len ≤ cap ∧ cap ≤ 9223372036854775807 ∧ ∀ r, r < cap → ∃ A L C ys, w.cell? (x.add r) = some (.slice A L C) ∧ IsFlat S Q w A L C ys
theorem flats_of {α : Type} (S : Shape α) (Q : α → Prop) {t e q : TypeId} {ks : List Kind} {fuel : Nat} {a : Option Addr} {len cap : Nat} {x : DataW H × List MemPlace} (ht : P.underlying t = some (.slice e)) (ce : P.cellsOf e = 1) (he : P.underlying e = some (.slice q)) (hk : kindsOf P 20 q = some ks) (hc : P.cellsOf q = ks.length) (hS : S.k = ks.length)
    (hdec : ∀ vs : List Value, Oks ks vs → ∃ z : α, S.enc z = vs ∧ Q z)
    (h : DataW.trod enc P w base (fun _ => true) held fuel t [.slice a len cap] = some x) : IsFlats S Q w a len cap := by
  rcases open_slice1 ht ce h with ⟨h0, _⟩ | ⟨y, l, c, m, n, V, D, Pl, hcs, hb, hl, hm, hmm, hx, hi⟩
  · simp at h0
    obtain ⟨rfl, rfl, rfl⟩ := h0
    exact .inl ⟨rfl, rfl, rfl⟩
  · simp at hcs
    obtain ⟨rfl, rfl, rfl⟩ := hcs
    simp only [if_true] at hmm
    subst hmm
    unfold maxLen at hm
    refine .inr ⟨y, rfl, hl, by omega, fun r hr => ?_⟩
    obtain ⟨h1, h2⟩ := hi r hr
    rcases open_slice he h2 with ⟨h0, _⟩ | ⟨y2, l2, c2, m2, n2, D2, Pl2, hcs, _⟩
    · simp at h0
      rw [h0] at h1 h2
      obtain ⟨ys, hZ⟩ := flat_of S Q he hk hc hS hdec h2
      exact ⟨_, _, _, ys, h1, hZ⟩
    · simp at hcs
      rw [hcs] at h1 h2
      obtain ⟨ys, hZ⟩ := flat_of S Q he hk hc hS hdec h2
      exact ⟨_, _, _, ys, h1, hZ⟩
end
end Go.Proofs.YtjhpogiknhbegaaDoor.Row
