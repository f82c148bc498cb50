/- A slice that reads as a list of int64 values; appending one to a row of the call's own. -/
import Derived.Test.YtjhpogiknhbegaaDoorChecked
import Derived.Test.YtjhpogiknhbegaaDoorTurned
import Derived.WalkKit
import Derived.Maps.AppendAt
import Derived.OwnWalk
import Derived.KernelRfl
set_option linter.unusedSimpArgs false
set_option linter.unusedVariables false
namespace Go.Proofs.YtjhpogiknhbegaaDoor.RI64
open Go.RowKit

/-- The slice (a, len) reads as these values. -/
structure Vals (w : World) (a : Option Addr) (len : Nat) (ys : List Int) : Prop where
  len_ : ys.length = len
  cells : 0 < len → ∃ x, a = some x ∧ ∀ i, i < len → w.cell? (x.add i) = some (.int .i64 (ys.getD i 0))
theorem Vals.none_ (w : World) : Vals w none 0 [] := ⟨rfl, fun h => absurd h (by omega)⟩
theorem Vals.same {w w' : World} {a : Option Addr} {len : Nat} {ys : List Int} (h : Vals w a len ys) (e : w'.heap = w.heap) : Vals w' a len ys :=
  ⟨h.len_, fun hl => by
    obtain ⟨x, hx, hc⟩ := h.cells hl
    exact ⟨x, hx, fun i hi => by have := hc i hi; unfold World.cell? at *; rw [e]; exact this⟩⟩
theorem Vals.below {w w' : World} {a : Option Addr} {len : Nat} {ys : List Int} (h : Vals w a len ys) (hb : Below w.heap.size w w') : Vals w' a len ys :=
  ⟨h.len_, fun hl => by
    obtain ⟨x, hx, hc⟩ := h.cells hl
    exact ⟨x, hx, fun i hi => (hb.cell (World.block_lt_of_cell? _ _ (hc i hi))).trans (hc i hi)⟩⟩
theorem Vals.turned {w w' : World} {b g : Nat} {a : Option Addr} {len : Nat} {ys : List Int} (h : Vals w a len ys) (hb : Turned b g w w') (h1 : 0 < len → ∀ x, a = some x → x.block ≠ b ∧ x.block ≠ g) : Vals w' a len ys :=
  ⟨h.len_, fun hl => by
    obtain ⟨x, hx, hc⟩ := h.cells hl
    have hxb := h1 hl x hx
    exact ⟨x, hx, fun i hi => (hb.cell (World.block_lt_of_cell? _ _ (hc i hi)) (by rw [block_add]; exact hxb.1) (by rw [block_add]; exact hxb.2)).trans (hc i hi)⟩⟩


def vals (xs : List Int) : List Value := xs.map fun (v : Int) => Value.int .i64 v
theorem vals_one (xs : List Int) : ∀ u ∈ vals xs, u.oneCell' = true := by
  intro u hu
  obtain ⟨n, _, rfl⟩ := List.mem_map.1 hu
  rfl
theorem vals_append (xs ys : List Int) : vals (xs ++ ys) = vals xs ++ vals ys := List.map_append
theorem Vals.get {w : World} {A : Addr} {m : Nat} {ys : List Int} (h : Vals w (some A) m ys) (j : Nat) (u : Value) (hu : (vals ys)[j]? = some u) : w.cell? (A.add j) = some u := by
  have hj : j < ys.length := by
    have := (List.getElem?_eq_some_iff.1 hu).1
    simpa [vals] using this
  obtain ⟨x, hx, hc⟩ := h.cells (by have := h.len_; omega)
  injection hx with hx
  subst hx
  rw [hc j (by have := h.len_; omega), ← hu]
  simp [vals, List.getD_eq_getElem?_getD, List.getElem?_eq_getElem hj]
theorem Vals.grown {w w' : World} {row : Option Nat} {a : Option Addr} {len : Nat} {ys : List Int} (h : Vals w a len ys) (hg : w.grownBy w' row) (h1 : 0 < len → ∀ x, a = some x → some x.block ≠ row) : Vals w' a len ys :=
  ⟨h.len_, fun hl => by
    obtain ⟨x, hx, hc⟩ := h.cells hl
    exact ⟨x, hx, fun i hi => (World.cell?_of_block (hg.block (x.add i).block (World.block_lt_of_cell? _ _ (hc i hi)) (by rw [block_add]; exact h1 hl x hx))).trans (hc i hi)⟩⟩
theorem Vals.has {w : World} {g : Nat} {t : TypeId} {ys : List Int} {tl : List Value} (h : Has w g t (vals ys ++ tl).toArray) : Vals w (some ⟨g, 0, none⟩) ys.length ys :=
  ⟨rfl, fun _ => ⟨_, rfl, fun i hi => by
    have h9 := h.cell i
    rw [List.getElem?_toArray, List.getElem?_append_left (by simpa [vals] using hi)] at h9
    rw [show (Addr.add ⟨g, 0, none⟩ i) = ⟨g, i, none⟩ by simp [Addr.add]; rintro rfl; rfl, h9]
    simp [vals, List.getD_eq_getElem?_getD, List.getElem?_eq_getElem hi]⟩⟩
theorem Vals.own {w : World} {base : Nat} {t : TypeId} {v : Value} {n : Nat} {xs : List Int} (h : w.ownsRow base t 1 v n (vals xs)) : ∃ A c, v = .slice A n c ∧ n ≤ c ∧ c ≤ 9223372036854775807 ∧ Vals w A n xs ∧ (∀ x, A = some x → base ≤ x.block ∧ x.block < w.heap.size) ∧ Value.ownBlock v = A.map (·.block) := by
  have hl : xs.length = n := by have := h.1; simpa [vals] using this
  rcases h.2 with ⟨rfl, rfl⟩ | ⟨g, cap, cur, rfl, hb, hh, h1, h2, h3, h4⟩
  · exact ⟨_, _, rfl, Nat.le_refl _, by omega, ⟨hl, fun h0 => absurd h0 (by omega)⟩, (fun x hx => by cases hx), rfl⟩
  · unfold maxLen at h2
    have hlt : g < w.heap.size := Has.lt (w := w) (b := g) hh
    refine ⟨_, _, rfl, h1, by omega, ⟨hl, fun _ => ⟨_, rfl, fun i hi => ?_⟩⟩, (fun x hx => by injection hx with hx; subst hx; exact ⟨hb, hlt⟩), rfl⟩
    have hc := h.cells (g := g) rfl
    refine hc i _ ?_
    have hi' : i < xs.length := by omega
    simp [vals, List.getD_eq_getElem?_getD, List.getElem?_eq_getElem hi']

section
variable {P : Program} {w : World}
theorem run_append_vals (base : Nat) (t ty e : TypeId) (bytes : Nat) (hby : bytes ≤ 16) (ht : P.underlying t = some (.slice e)) (hinfo : (P.info? e).map (fun i => (i.zero, i.size, i.bytes)) = some (some (.int .i64 0), 1, bytes))
    (v : Value) (n : Nat) (xs : List Int) (hown : w.ownsRow base e 1 v n (vals xs)) (A : Option Addr) (m c : Nat) (ys : List Int) (hr : Vals w A m ys)
    (h63 : n + m ≤ 1048576) (hbase : base ≤ w.heap.size) :
    ∃ v' w', (Builtin.append_ #[t, t] ty #[v, .slice A m c]).run P w = .ok v' w' ∧ w'.ownsRow base e 1 v' (n + m) (vals (xs ++ ys)) ∧ w.grownBy w' v.ownBlock ∧
      (v'.ownBlock = v.ownBlock ∨ v'.ownBlock = some w.heap.size) := by
  obtain ⟨i, hi, hz0, hz1, hz2⟩ := info_parts hinfo
  rcases A with _ | ad
  · have hm : m = 0 := by
      rcases Nat.eq_zero_or_pos m with h0 | h0
      · exact h0
      · obtain ⟨x, hx, _⟩ := hr.cells h0
        cases hx
    subst hm
    have hy : ys = [] := List.eq_nil_of_length_eq_zero hr.len_
    subst hy
    refine ⟨v, w, ?_, by simpa using hown, World.grownBy.refl w _, .inl rfl⟩
    rcases hown.2 with ⟨rfl, rfl⟩ | ⟨g, cap, cur, rfl, _, _, hnc, _⟩
    · simp [Builtin.append_, run_underlying ht, sizeOf, typeInfo, hi, Builtin.lenOf, Builtin.firstCells]
    · simp [Builtin.append_, run_underlying ht, sizeOf, typeInfo, hi, Builtin.lenOf, Builtin.firstCells, hnc, storeCells]
  · obtain ⟨v', w', hrun, h2, h3, _, h5⟩ := run_append_own_at (P := P) w base t ty e i _ 1 bytes ht hi hz0 hz1 hz2 rfl (by omega) v n (vals xs) hown ad m c (vals ys) (by simp [vals, hr.len_]) hr.get (vals_one ys)
      (by simp only [maxLen]; omega) (by
        have : (n + m) * bytes ≤ 1048576 * 16 := Nat.mul_le_mul h63 hby
        omega) hbase
    exact ⟨v', w', hrun, by rw [vals_append]; exact h2, h3, h5⟩
theorem wpList_append_vals {ops : Array Oper} {rest : List Oper} {o : Oper} {a : Act} {Q : Exit → Act → World → Prop} (hgd : o.guard = none) (s x : Operand) (t : TypeId)
    (ho : o.op = .call { callee := .builtin .append, args := #[s, x], argTypes := #[t, t] })
    (base : Nat) (e : TypeId) (bytes : Nat) (hby : bytes ≤ 16) (ht : P.underlying t = some (.slice e)) (hinfo : (P.info? e).map (fun i => (i.zero, i.size, i.bytes)) = some (some (.int .i64 0), 1, bytes))
    (v : Value) (n : Nat) (xs : List Int) (hs : a.eval s = v) (hown : w.ownsRow base e 1 v n (vals xs)) (A : Option Addr) (m c : Nat) (ys : List Int) (hx : a.eval x = .slice A m c) (hr : Vals w A m ys)
    (h63 : n + m ≤ 1048576) (hbase : base ≤ w.heap.size)
    (h : ∀ v' w', w'.ownsRow base e 1 v' (n + m) (vals (xs ++ ys)) → w.grownBy w' v.ownBlock → (v'.ownBlock = v.ownBlock ∨ v'.ownBlock = some w.heap.size) → wpList P ops Q rest (a.put o.dst v') w') : wpList P ops Q (o :: rest) a w := by
  refine wpList_plain hgd fun _ hK => ?_
  obtain ⟨v', w', hrun, h2, h3, h4⟩ := run_append_vals (P := P) base t o.type e bytes hby ht hinfo v n xs hown A m c ys hr h63 hbase
  unfold Oper.wp execOp
  simp only [ho, resolve, invoke, builtin, Sem.run_bind, Sem.run_pure, Result.andThen_ok, List.map_toArray, List.map_cons, List.map_nil, hs, hx, hrun]
  exact hK _ _ (h v' w' h2 h3 h4)
/-- An empty row that a literal made. -/
theorem own_empty (w : World) (e : TypeId) : World.ownsRow (w.alloc (.cells #[] e)) w.heap.size e 1 (.slice (some ⟨w.heap.size, 0, none⟩) 0 0) 0 (vals ([] : List Int)) :=
  ⟨rfl, .inr ⟨_, 0, #[], rfl, Nat.le_refl _, Has.new w e #[], Nat.le_refl _, by unfold maxLen; omega, rfl, rfl⟩⟩
end
end Go.Proofs.YtjhpogiknhbegaaDoor.RI64
