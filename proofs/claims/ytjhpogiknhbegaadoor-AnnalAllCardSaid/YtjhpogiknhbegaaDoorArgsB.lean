/- Slices of uint8 that came in, as lists; rows of the call's own. -/
import Derived.Test.YtjhpogiknhbegaaDoorValsB
import Derived.Test.YtjhpogiknhbegaaDoorKept
import Derived.Test.YtjhpogiknhbegaaDoorLawKit
set_option linter.unusedSimpArgs false
set_option linter.unusedVariables false
namespace Go.Proofs.YtjhpogiknhbegaaDoor.RU8
open Go.RowKit

theorem addr_add (x : Addr) (p i : Nat) : (x.add p).add i = x.add (p + i) := by
  unfold Addr.add
  by_cases h1 : p = 0 <;> by_cases h2 : i = 0 <;> simp [h1, h2, Nat.add_assoc]
theorem Vals.take {w : World} {a : Option Addr} {len : Nat} {ys : List Nat} (h : Vals w a len ys) (p : Nat) (hp : p ≤ len) : Vals w a p (ys.take p) := by
  have hl := h.len_
  refine ⟨by rw [List.length_take]; omega, fun h0 => ?_⟩
  obtain ⟨x, hx, hc⟩ := h.cells (by omega)
  refine ⟨x, hx, fun i hi => ?_⟩
  rw [hc i (by omega)]
  simp [List.getD_eq_getElem?_getD, List.getElem?_take, hi]
theorem Vals.drop {w : World} {a : Option Addr} {len : Nat} {ys : List Nat} (h : Vals w a len ys) (p : Nat) (hp : p ≤ len) : Vals w (a.map (·.add p)) (len - p) (ys.drop p) := by
  have hl := h.len_
  refine ⟨by rw [List.length_drop]; omega, fun h0 => ?_⟩
  obtain ⟨x, hx, hc⟩ := h.cells (by omega)
  refine ⟨x.add p, by rw [hx]; rfl, fun i hi => ?_⟩
  rw [show (x.add p).add i = x.add (p + i) from addr_add x p i, hc (p + i) (by omega)]
  simp [List.getD_eq_getElem?_getD, List.getElem?_drop]
theorem Vals.drewN {w : World} {a : Option Addr} {len : Nat} {ys : List Nat} (h : Vals w a len ys) (k : Nat) : Vals (w.drewN k) a len ys := h.same rfl
theorem Vals.alloc {w : World} {a : Option Addr} {len : Nat} {ys : List Nat} (h : Vals w a len ys) (o : Obj) : Vals (w.alloc o) a len ys := h.below ((Below.refl _ _).alloc (Nat.le_refl _) _)
theorem Vals.kept {w w' : World} {S : List Nat} {a : Option Addr} {len : Nat} {ys : List Nat} (h : Vals w a len ys) (hb : Kept S w w') (h1 : 0 < len → ∀ x, a = some x → x.block ∉ S) : Vals w' a len ys :=
  ⟨h.len_, fun hl => by
    obtain ⟨x, hx, hc⟩ := h.cells hl
    have hxb := h1 hl x hx
    exact ⟨x, hx, fun i hi => (hb.cell (World.block_lt_of_cell? _ _ (hc i hi)) (by rw [block_add]; exact hxb)).trans (hc i hi)⟩⟩
theorem own_none (w : World) (base : Nat) (e : TypeId) : w.ownsRow base e 1 (.slice none 0 0) 0 (vals ([] : List Nat)) := ⟨rfl, .inl ⟨rfl, rfl⟩⟩
theorem own_len {w : World} {base : Nat} {e : TypeId} {n : Nat} {v : Value} {xs : List Nat} (h : w.ownsRow base e 1 v n (vals xs)) : xs.length = n := by have := h.1; simpa [vals] using this
/-- One element of an own row is set anew. -/
theorem own_set {w : World} {base : Nat} {e : TypeId} {n c : Nat} {A : Option Addr} {ys : List Nat} (h : w.ownsRow base e 1 (.slice A n c) n (vals ys)) (i : Nat) (hi : i < n) :
    ∃ g, A = some ⟨g, 0, none⟩ ∧ base ≤ g ∧ g < w.heap.size ∧ w.cell? ⟨g, i, none⟩ = some (.int .u8 (ys.getD i 0)) ∧ w.frozen? ⟨g, i, none⟩ = false ∧
      ∀ y : Nat, (w.setCell ⟨g, i, none⟩ (.int .u8 y)).ownsRow base e 1 (.slice A n c) n (vals (ys.set i y)) := by
  have hl : ys.length = n := own_len h
  rcases h.2 with ⟨_, h0⟩ | ⟨g, cap, cur, hv, hb, hh, h1, h2, h3, h4⟩
  · omega
  · injection hv with hv1 hv2 hv3
    subst hv1
    subst hv3
    have hH : Has w g e cur := hh
    refine ⟨g, rfl, hb, hH.lt, ?_, hH.frozen i, fun y => ⟨?_, .inr ⟨g, c, cur.setIfInBounds i (.int .u8 y), rfl, hb, hH.set_ i _, h1, h2, by simpa using h3, ?_⟩⟩⟩
    · rw [hH.cell i]
      have h5 : (cur.toList.take (n * 1))[i]? = (vals ys)[i]? := by rw [h4]
      rw [List.getElem?_take, if_pos (by omega)] at h5
      rw [← Array.getElem?_toList, h5]
      simp [vals, List.getD_eq_getElem?_getD, List.getElem?_eq_getElem (show i < ys.length by omega)]
    · simp [vals, hl]
    · rw [Array.toList_setIfInBounds, List.take_set, h4]
      simp [vals, List.map_set]
/-- The bytes of a row are bytes. -/
def Bytes (ys : List Nat) : Prop := ∀ y ∈ ys, y < 256
theorem Bytes.at_ {ys : List Nat} (h : Bytes ys) (j : Nat) : ys.getD j 0 < 256 := by
  rcases Nat.lt_or_ge j ys.length with hj | hj
  · rw [List.getD_eq_getElem?_getD, List.getElem?_eq_getElem hj]; exact h _ (List.getElem_mem hj)
  · rw [List.getD_eq_getElem?_getD, List.getElem?_eq_none hj]; decide
theorem Bytes.append {xs ys : List Nat} (h : Bytes xs) (h' : Bytes ys) : Bytes (xs ++ ys) := fun y hy => (List.mem_append.1 hy).elim (h y) (h' y)
theorem Bytes.set {ys : List Nat} (h : Bytes ys) (i y : Nat) (hy : y < 256) : Bytes (ys.set i y) := fun z hz => (List.mem_or_eq_of_mem_set hz).elim (h z) (fun e => e ▸ hy)
theorem Bytes.take {ys : List Nat} (h : Bytes ys) (n : Nat) : Bytes (ys.take n) := fun y hy => h y (List.mem_of_mem_take hy)
/-- The bytes of a slice that came in. -/
theorem row_vals {w : World} {a : Option Addr} {len cap : Nat} {zs : List Int} (h : IsRow .u8 w a len cap zs) : ∃ ys : List Nat, Vals w a len ys ∧ Bytes ys ∧ len ≤ cap ∧ cap ≤ 9223372036854775807 ∧ ∀ x, 0 < len → a = some x → x.block < w.heap.size := by
  refine ⟨(zs.take len).map Int.toNat, ?_⟩
  rcases h with ⟨rfl, rfl, rfl, rfl⟩ | ⟨x, rfl, h1, h2, h3, h4, h5⟩
  · exact ⟨⟨rfl, fun h => absurd h (by omega)⟩, fun y hy => by simp at hy, by omega, by omega, fun x h => absurd h (by omega)⟩
  · unfold maxLen at h2
    have hb : ∀ n ∈ zs, 0 ≤ n ∧ n ≤ 255 := fun n hn => bounds_u8 (h5 n hn)
    refine ⟨⟨by rw [List.length_map, List.length_take]; omega, fun _ => ⟨x, rfl, fun i hi => ?_⟩⟩, fun y hy => ?_, h1, by omega, fun x' h hx => ?_⟩
    · have hz : i < zs.length := by omega
      rw [h4 i (by omega)]
      have := hb zs[i] (List.getElem_mem hz)
      simp [List.getD_eq_getElem?_getD, List.getElem?_take, hi, List.getElem?_eq_getElem hz]
      omega
    · obtain ⟨n, hn, rfl⟩ := List.mem_map.1 hy
      have := hb n (List.mem_of_mem_take hn)
      omega
    · injection hx with hx
      subst hx
      have := World.block_lt_of_cell? _ _ (h4 0 (by omega))
      rwa [block_add] at this
end Go.Proofs.YtjhpogiknhbegaaDoor.RU8
