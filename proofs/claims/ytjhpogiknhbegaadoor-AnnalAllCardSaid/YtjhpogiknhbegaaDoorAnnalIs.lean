/- The landed annal: what its memory holds. -/
import Derived.Test.YtjhpogiknhbegaaDoorAnnalKit
import Derived.Test.YtjhpogiknhbegaaDoorRingOutPut
import Derived.Test.YtjhpogiknhbegaaDoorWholeRow
import Derived.Test.YtjhpogiknhbegaaDoorRegion
import Derived.Test.YtjhpogiknhbegaaDoorRegionTill
import Derived.Lib.Hide
set_option linter.unusedSimpArgs false
set_option linter.unusedVariables false
namespace Go.Proofs.YtjhpogiknhbegaaDoor.Annal
open Go.RowKit
open Alarm (Ot otS noOt ot_cells)
open RingO (Ring Became)
/-- An annal's cells: its ring's struct, how many were dropped, how many of each kind. -/
def cellsA (r d : Nat) (c : Nat → Nat) : Array Value := (.pointer (some ⟨r, 0, none⟩) :: .int .i64 (d : Nat) :: (List.range 10).map fun k => Value.int .i64 (c k : Nat)).toArray
theorem cellsA_size (r d : Nat) (c : Nat → Nat) : (cellsA r d c).size = 12 := by unfold cellsA; simp
theorem cellsA_one (r d : Nat) (c : Nat → Nat) : (cellsA r d c).all (·.oneCell') = true := by
  unfold cellsA
  simp [List.range, List.range.loop, Value.oneCell']
theorem cellsA_kind (r d : Nat) (c : Nat → Nat) (k : Nat) (hk : k < 10) : (cellsA r d c)[2 + k]? = some (.int .i64 (c k : Nat)) := by
  unfold cellsA
  rw [List.getElem?_toArray, show 2 + k = k + 1 + 1 by omega, List.getElem?_cons_succ, List.getElem?_cons_succ, List.getElem?_map, List.getElem?_range hk]
  rfl
theorem cellsA_ring (r d : Nat) (c : Nat → Nat) (r' : Nat) : (cellsA r d c).setIfInBounds 0 (.pointer (some ⟨r', 0, none⟩)) = cellsA r' d c := by unfold cellsA; simp
theorem cellsA_drop (r d : Nat) (c : Nat → Nat) (d' : Nat) : (cellsA r d c).setIfInBounds 1 (.int .i64 (d' : Nat)) = cellsA r d' c := by unfold cellsA; simp
theorem cellsA_put (r d : Nat) (c : Nat → Nat) (k : Nat) (u : Nat) : (cellsA r d c).setIfInBounds (2 + k) (.int .i64 (u : Nat)) = cellsA r d (fun j => if j = k then u else c j) := by
  unfold cellsA
  rw [List.setIfInBounds_toArray, show 2 + k = k + 1 + 1 by omega, List.set_cons_succ, List.set_cons_succ]
  congr 3
  apply List.ext_getElem?
  intro i
  rw [List.getElem?_set, List.getElem?_map, List.length_map, List.length_range, List.getElem?_map]
  by_cases hi : i < 10
  · rw [List.getElem?_range hi]
    by_cases h : k = i
    · subst h; simp [hi]
    · have h2 : ¬ i = k := fun e => h e.symm
      simp [h, h2]
  · rw [List.getElem?_eq_none (by simp; omega)]
    by_cases h : k = i
    · subst h; simp [hi]
    · simp [h]
theorem cellsA_congr (r d : Nat) {c c' : Nat → Nat} (h : ∀ k, k < 10 → c k = c' k) : cellsA r d c = cellsA r d c' := by
  unfold cellsA
  congr 3
  apply List.map_congr_left
  intro k hk
  rw [h k (List.mem_range.1 hk)]
/-- Block b is an annal's struct, over the ring in blocks r and g; xs are kept, d were dropped, c k of kind k came. -/
structure Mid (w : World) (b r g q f : Nat) (cs xs : List Ot) (d : Nat) (c : Nat → Nat) : Prop where
  head : Has w b 50 (cellsA r d c)
  ring : Ring w r g 64 q f cs xs
  ne_ : b ≠ r ∧ b ≠ g
section
variable {w w' : World} {b r g q f d : Nat} {cs xs : List Ot} {c : Nat → Nat}
theorem Mid.lt_ (h : Mid w b r g q f cs xs d c) : b < w.heap.size ∧ r < w.heap.size ∧ g < w.heap.size := ⟨h.head.lt, h.ring.core.lt_⟩
theorem ring_kept {T : List Nat} {n : Nat} (h : Ring w r g n q f cs xs) (hk : Kept T w w') (h1 : r ∉ T) (h2 : g ∉ T) : Ring w' r g n q f cs xs := by
  obtain ⟨⟨h3, ⟨tl, h4⟩, s1, s2, s3, s4, s5⟩, h6⟩ := h
  exact ⟨⟨hk.has h3 h1, ⟨tl, hk.has h4 h2⟩, s1, s2, s3, s4, s5⟩, h6⟩
theorem Mid.kept {T : List Nat} (h : Mid w b r g q f cs xs d c) (hk : Kept T w w') (h1 : b ∉ T) (h2 : r ∉ T) (h3 : g ∉ T) : Mid w' b r g q f cs xs d c :=
  ⟨hk.has h.head h1, ring_kept h.ring hk h2 h3, h.ne_⟩
theorem Mid.below (h : Mid w b r g q f cs xs d c) (hB : Below w.heap.size w w') : Mid w' b r g q f cs xs d c := h.kept (Kept.of_below (S := []) hB) (by simp) (by simp) (by simp)
theorem Mid.alloc (h : Mid w b r g q f cs xs d c) (o : Obj) : Mid (w.alloc o) b r g q f cs xs d c := h.kept ((Kept.refl [] w).alloc o) (by simp) (by simp) (by simp)
theorem Mid.drewN (h : Mid w b r g q f cs xs d c) (k : Nat) : Mid (w.drewN k) b r g q f cs xs d c := h.kept ((Kept.refl [] w).drewN k) (by simp) (by simp) (by simp)
theorem Mid.drew (h : Mid w b r g q f cs xs d c) : Mid w.drew b r g q f cs xs d c := h.drewN 1
theorem Mid.cells (h : Mid w b r g q f cs xs d c) : w.cell? ⟨b, 0, none⟩ = some (.pointer (some ⟨r, 0, none⟩)) ∧ w.cell? ⟨b, 1, none⟩ = some (.int .i64 (d : Nat)) := ⟨h.head.cell 0, h.head.cell 1⟩
theorem Mid.kind (h : Mid w b r g q f cs xs d c) (k : Nat) (hk : k < 10) : w.cell? ⟨b, 2 + k, none⟩ = some (.int .i64 (c k : Nat)) := (h.head.cell (2 + k)).trans (cellsA_kind r d c k hk)
/-- The ring has turned. -/
theorem Mid.became {zs : List Ot} {f' : Nat} (h : Mid w b r g q f cs xs d c) (hb : Became w r g 64 q f' zs w') : (∃ cs', Mid w' b r g q f' cs' zs d c) ∧ Kept [b, r, g] w w' := by
  obtain ⟨cs', hR, hT⟩ := hb
  have hk := Kept.of_turned hT
  exact ⟨⟨cs', hk.has h.head (by have := h.ne_; simp; exact this), hR, h.ne_⟩, hk.wide (fun k hk _ => by simp at hk ⊢; exact .inr hk)⟩
theorem Mid.drop_ (h : Mid w b r g q f cs xs d c) (d' : Nat) : Mid (w.setCell ⟨b, 1, none⟩ (.int .i64 (d' : Nat))) b r g q f cs xs d' c := by
  refine ⟨?_, ring_kept h.ring ((Kept.refl [b] w).setCell (p := ⟨b, 1, none⟩) (.inl (by simp)) _) (by simpa using Ne.symm h.ne_.1) (by simpa using Ne.symm h.ne_.2), h.ne_⟩
  rw [← cellsA_drop r d c d']
  exact h.head.set_ 1 _
theorem Mid.put_ (h : Mid w b r g q f cs xs d c) (k u : Nat) : Mid (w.setCell ⟨b, 2 + k, none⟩ (.int .i64 (u : Nat))) b r g q f cs xs d (fun j => if j = k then u else c j) := by
  refine ⟨?_, ring_kept h.ring ((Kept.refl [b] w).setCell (p := ⟨b, 2 + k, none⟩) (.inl (by simp)) _) (by simpa using Ne.symm h.ne_.1) (by simpa using Ne.symm h.ne_.2), h.ne_⟩
  rw [← cellsA_put r d c k u]
  exact h.head.set_ (2 + k) _
theorem Mid.congr {c' : Nat → Nat} (h : Mid w b r g q f cs xs d c) (hc : ∀ k, k < 10 → c k = c' k) : Mid w b r g q f cs xs d c' := ⟨by rw [← cellsA_congr r d hc]; exact h.head, h.ring, h.ne_⟩
end
/-- All were added to the annal in block b. -/
def Ann (w : World) (b : Nat) (S : List Nat) (all : List Ot) : Prop :=
  ∃ r g q f cs, S = [b, r, g] ∧ Mid w b r g q f cs (keptA all) (all.length - (keptA all).length) (fun k => countA all (k : Nat)) ∧ all.length ≤ 1000000
theorem ann_lt {w : World} {b : Nat} {S : List Nat} {all : List Ot} (h : Ann w b S all) : b ∈ S ∧ ∀ k ∈ S, k < w.heap.size := by
  obtain ⟨r, g, q, f, cs, rfl, hM, -⟩ := h
  have := hM.lt_
  exact ⟨by simp, fun k hk => by simp at hk; omega⟩
theorem ann_kept {w w' : World} {b : Nat} {S T : List Nat} {all : List Ot} (h : Ann w b S all) (hk : Kept T w w') (hne : ∀ k ∈ S, k ∉ T) : Ann w' b S all := by
  obtain ⟨r, g, q, f, cs, rfl, hM, hl⟩ := h
  exact ⟨r, g, q, f, cs, rfl, hM.kept hk (hne b (by simp)) (hne r (by simp)) (hne g (by simp)), hl⟩
end Go.Proofs.YtjhpogiknhbegaaDoor.Annal
