/- Appending a slice of whole numbers, nil or not, to a row that the call made itself. -/
import Derived.Test.YtmmmooanapodlaaFixqSum
import Derived.Maps.AppendAt
import Derived.OwnWalk
set_option linter.unusedSimpArgs false
set_option linter.unusedVariables false
namespace Go.Proofs.Ytmmmooanapodlaa
open Go.RowKit

section
variable {P : Program} {w : World}
def nums (xs : List Int) : List Value := xs.map (.int .i64)
theorem nums_one (xs : List Int) : ∀ u ∈ nums xs, u.oneCell' = true := by
  intro u hu
  obtain ⟨n, _, rfl⟩ := List.mem_map.1 hu
  rfl
theorem nums_append (xs ys : List Int) : nums (xs ++ ys) = nums xs ++ nums ys := List.map_append
theorem Ints.get {A : Addr} {m : Nat} {ys : List Int} (h : Ints w (some A) m ys) (j : Nat) (u : Value) (hu : (nums ys)[j]? = some u) : w.cell? (A.add j) = some u := by
  have hj : j < ys.length := by
    have := (List.getElem?_eq_some_iff.1 hu).1
    simpa [nums] using this
  obtain ⟨x, hx, hc⟩ := h.cells (by have := h.len_; omega)
  injection hx with hx
  subst hx
  rw [hc j (by have := h.len_; omega), ← hu]
  simp [nums, List.getD_eq_getElem?_getD, List.getElem?_eq_getElem hj]

theorem run_append_ints (base : Nat) (t ty e : TypeId) (ht : P.underlying t = some (.slice e)) (hinfo : (P.info? e).map (fun i => (i.zero, i.size, i.bytes)) = some (some (.int .i64 0), 1, 8))
    (v : Value) (n : Nat) (xs : List Int) (hown : w.ownsRow base e 1 v n (nums xs)) (A : Option Addr) (m c : Nat) (ys : List Int) (hr : Ints w A m ys)
    (h63 : n + m ≤ 17592186044416) (hbase : base ≤ w.heap.size) :
    ∃ v' w', (Builtin.append_ #[t, t] ty #[v, .slice A m c]).run P w = .ok v' w' ∧ w'.ownsRow base e 1 v' (n + m) (nums (xs ++ ys)) ∧ w.grownBy w' v.ownBlock ∧
      (v'.ownBlock = v.ownBlock ∨ v'.ownBlock = some w.heap.size) := by
  obtain ⟨i, hi, hz0, hz1, hz2⟩ := info_parts hinfo
  rcases A with _ | ad
  · have hm : m = 0 := by
      rcases Nat.eq_zero_or_pos m with h0 | h0
      · exact h0
      · obtain ⟨x, hx, _⟩ := hr.cells h0
        cases hx
    subst hm
    have hy : ys = [] := List.eq_nil_of_length_eq_zero hr.len_
    subst hy
    refine ⟨v, w, ?_, by simpa using hown, World.grownBy.refl w _, .inl rfl⟩
    rcases hown.2 with ⟨rfl, rfl⟩ | ⟨g, cap, cur, rfl, _, _, hnc, _⟩
    · simp [Builtin.append_, run_underlying ht, sizeOf, typeInfo, hi, Builtin.lenOf, Builtin.firstCells]
    · simp [Builtin.append_, run_underlying ht, sizeOf, typeInfo, hi, Builtin.lenOf, Builtin.firstCells, hnc, storeCells]
  · obtain ⟨v', w', hrun, h2, h3, _, h5⟩ := run_append_own_at (P := P) w base t ty e i _ 1 8 ht hi hz0 hz1 hz2 rfl (by omega) v n (nums xs) hown ad m c (nums ys) (by simp [nums, hr.len_]) hr.get (nums_one ys)
      (by simp only [maxLen]; omega) (by omega) hbase
    exact ⟨v', w', hrun, by rw [nums_append]; exact h2, h3, h5⟩
theorem wpList_append_ints {ops : Array Oper} {rest : List Oper} {o : Oper} {a : Act} {Q : Exit → Act → World → Prop} (hgd : o.guard = none) (s x : Operand) (t : TypeId)
    (ho : o.op = .call { callee := .builtin .append, args := #[s, x], argTypes := #[t, t] })
    (base : Nat) (e : TypeId) (ht : P.underlying t = some (.slice e)) (hinfo : (P.info? e).map (fun i => (i.zero, i.size, i.bytes)) = some (some (.int .i64 0), 1, 8))
    (v : Value) (n : Nat) (xs : List Int) (hs : a.eval s = v) (hown : w.ownsRow base e 1 v n (nums xs)) (A : Option Addr) (m c : Nat) (ys : List Int) (hx : a.eval x = .slice A m c) (hr : Ints w A m ys)
    (h63 : n + m ≤ 17592186044416) (hbase : base ≤ w.heap.size)
    (h : ∀ v' w', w'.ownsRow base e 1 v' (n + m) (nums (xs ++ ys)) → w.grownBy w' v.ownBlock → (v'.ownBlock = v.ownBlock ∨ v'.ownBlock = some w.heap.size) → wpList P ops Q rest (a.put o.dst v') w') : wpList P ops Q (o :: rest) a w := by
  refine wpList_plain hgd fun _ hK => ?_
  obtain ⟨v', w', hrun, h2, h3, h4⟩ := run_append_ints (P := P) base t o.type e ht hinfo v n xs hown A m c ys hr h63 hbase
  unfold Oper.wp execOp
  simp only [ho, resolve, invoke, builtin, Sem.run_bind, Sem.run_pure, Result.andThen_ok, List.map_toArray, List.map_cons, List.map_nil, hs, hx, hrun]
  exact hK _ _ (h v' w' h2 h3 h4)
/-- A row of one's own, read as numbers. -/
theorem own_ints {base : Nat} {e : TypeId} {v : Value} {n : Nat} {xs : List Int} (h : w.ownsRow base e 1 v n (nums xs)) (hw : ∀ x ∈ xs, fits64 x) (hb : n ≤ 17592186044416) : ∃ A c, v = .slice A n c ∧ Ints w A n xs := by
  have hl : xs.length = n := by have := h.1; simpa [nums] using this
  rcases h.2 with ⟨rfl, rfl⟩ | ⟨g, cap, cur, rfl, _⟩
  · exact ⟨_, _, rfl, hl, hb, hw, fun h0 => absurd h0 (by omega)⟩
  · refine ⟨_, _, rfl, hl, hb, hw, fun _ => ⟨_, rfl, fun i hi => ?_⟩⟩
    have hc := h.cells (g := g) rfl
    refine hc i _ ?_
    have hi' : i < xs.length := by omega
    simp [nums, List.getD_eq_getElem?_getD, List.getElem?_eq_getElem hi']
end
end Go.Proofs.Ytmmmooanapodlaa
