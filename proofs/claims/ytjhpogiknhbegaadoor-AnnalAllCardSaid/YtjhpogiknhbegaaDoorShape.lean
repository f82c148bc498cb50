/- Rows of elements of several cells each (structs), as lists: what reads so, rows of the call's own, appending. Of no program. -/
import Derived.Test.YtjhpogiknhbegaaDoorKept
import Derived.Test.YtjhpogiknhbegaaDoorOwn
import Derived.WalkKit
import Derived.Maps.AppendAt
import Derived.OwnWalk
import Derived.KernelRfl
set_option linter.unusedSimpArgs false
set_option linter.unusedVariables false
namespace Go.Proofs.YtjhpogiknhbegaaDoor.Row
open Go.RowKit

/-- How an element lies: k cells. -/
structure Shape (α : Type) where
  k : Nat
  enc : α → List Value
  len : ∀ a, (enc a).length = k
  pos : 0 < k
  one : ∀ a, ∀ u ∈ enc a, u.oneCell' = true
section
variable {α : Type} {S : Shape α}
def flat (S : Shape α) (ys : List α) : List Value := ys.flatMap S.enc
theorem flat_nil : flat S [] = [] := rfl
theorem flat_append (xs ys : List α) : flat S (xs ++ ys) = flat S xs ++ flat S ys := List.flatMap_append
theorem flat_length (ys : List α) : (flat S ys).length = ys.length * S.k := by
  induction ys with
  | nil => simp [flat]
  | cons y ys ih => rw [show flat S (y :: ys) = S.enc y ++ flat S ys from rfl, List.length_append, S.len, ih, List.length_cons, Nat.add_mul, Nat.one_mul, Nat.add_comm]
theorem flat_one (ys : List α) : ∀ u ∈ flat S ys, u.oneCell' = true := by
  intro u hu
  obtain ⟨y, _, hy⟩ := List.mem_flatMap.1 hu
  exact S.one y u hy
theorem flat_get (ys : List α) (i m : Nat) (hi : i < ys.length) (hm : m < S.k) : (flat S ys)[i * S.k + m]? = (S.enc ys[i])[m]? := by
  induction ys generalizing i with
  | nil => simp at hi
  | cons y ys ih =>
    rw [show flat S (y :: ys) = S.enc y ++ flat S ys from rfl]
    cases i with
    | zero => rw [Nat.zero_mul, Nat.zero_add, List.getElem?_append_left (by rw [S.len]; exact hm)]; rfl
    | succ i =>
      rw [Nat.add_mul, Nat.one_mul, List.getElem?_append_right (by rw [S.len]; omega), S.len, show i * S.k + S.k + m - S.k = i * S.k + m by omega]
      exact ih i (by simpa using hi)
theorem flat_take (ys : List α) (n : Nat) : (flat S ys).take (n * S.k) = flat S (ys.take n) := by
  induction ys generalizing n with
  | nil => simp [flat]
  | cons y ys ih =>
    cases n with
    | zero => simp [flat]
    | succ n =>
      rw [show flat S (y :: ys) = S.enc y ++ flat S ys from rfl, List.take_succ_cons, show flat S (y :: ys.take n) = S.enc y ++ flat S (ys.take n) from rfl, ← ih n, List.take_append, S.len, Nat.add_mul, Nat.one_mul]
      rw [List.take_of_length_le (by rw [S.len]; omega), Nat.add_sub_cancel]

/-- The slice (a, len) reads as these elements. -/
structure Vals (S : Shape α) (w : World) (a : Option Addr) (len : Nat) (ys : List α) : Prop where
  len_ : ys.length = len
  cells : 0 < len → ∃ x, a = some x ∧ ∀ j u, (flat S ys)[j]? = some u → w.cell? (x.add j) = some u
theorem Vals.none_ (w : World) : Vals S w none 0 [] := ⟨rfl, fun h => absurd h (by omega)⟩
theorem Vals.same {w w' : World} {a : Option Addr} {len : Nat} {ys : List α} (h : Vals S w a len ys) (e : w'.heap = w.heap) : Vals S w' a len ys :=
  ⟨h.len_, fun hl => by
    obtain ⟨x, hx, hc⟩ := h.cells hl
    exact ⟨x, hx, fun j u hu => by have := hc j u hu; unfold World.cell? at *; rw [e]; exact this⟩⟩
theorem Vals.drewN {w : World} {a : Option Addr} {len : Nat} {ys : List α} (h : Vals S w a len ys) (k : Nat) : Vals S (w.drewN k) a len ys := h.same rfl
theorem Vals.below {w w' : World} {a : Option Addr} {len : Nat} {ys : List α} (h : Vals S w a len ys) (hb : Below w.heap.size w w') : Vals S w' a len ys :=
  ⟨h.len_, fun hl => by
    obtain ⟨x, hx, hc⟩ := h.cells hl
    exact ⟨x, hx, fun j u hu => (hb.cell (World.block_lt_of_cell? _ _ (hc j u hu))).trans (hc j u hu)⟩⟩
theorem Vals.alloc {w : World} {a : Option Addr} {len : Nat} {ys : List α} (h : Vals S w a len ys) (o : Obj) : Vals S (w.alloc o) a len ys := h.below ((Below.refl _ _).alloc (Nat.le_refl _) _)
theorem Vals.kept {w w' : World} {T : List Nat} {a : Option Addr} {len : Nat} {ys : List α} (h : Vals S w a len ys) (hb : Kept T w w') (h1 : 0 < len → ∀ x, a = some x → x.block ∉ T) : Vals S w' a len ys :=
  ⟨h.len_, fun hl => by
    obtain ⟨x, hx, hc⟩ := h.cells hl
    have hxb := h1 hl x hx
    exact ⟨x, hx, fun j u hu => (hb.cell (World.block_lt_of_cell? _ _ (hc j u hu)) (by rw [block_add]; exact hxb)).trans (hc j u hu)⟩⟩
/-- Cell m of element i. -/
theorem Vals.at_ {w : World} {x : Addr} {len : Nat} {ys : List α} (h : Vals S w (some x) len ys) (i m : Nat) (hi : i < ys.length) (u : Value) (hu : (S.enc ys[i])[m]? = some u) : w.cell? (x.add (i * S.k + m)) = some u := by
  have hm : m < S.k := by rw [← S.len ys[i]]; exact (List.getElem?_eq_some_iff.1 hu).1
  obtain ⟨y, hy, hc⟩ := h.cells (by have := h.len_; omega)
  injection hy with hy
  subst hy
  exact hc _ u (by rw [flat_get ys i m hi hm]; exact hu)
theorem Vals.take {w : World} {a : Option Addr} {len : Nat} {ys : List α} (h : Vals S w a len ys) (p : Nat) (hp : p ≤ len) : Vals S w a p (ys.take p) := by
  have hl := h.len_
  refine ⟨by rw [List.length_take]; omega, fun h0 => ?_⟩
  obtain ⟨x, hx, hc⟩ := h.cells (by omega)
  refine ⟨x, hx, fun j u hu => hc j u ?_⟩
  rw [← flat_take] at hu
  rw [List.getElem?_take] at hu
  split at hu
  · exact hu
  · cases hu
theorem Vals.has {w : World} {g : Nat} {t : TypeId} {ys : List α} {tl : List Value} (h : Has w g t (flat S ys ++ tl).toArray) : Vals S w (some ⟨g, 0, none⟩) ys.length ys :=
  ⟨rfl, fun _ => ⟨_, rfl, fun j u hu => by
    have hj : j < (flat S ys).length := (List.getElem?_eq_some_iff.1 hu).1
    have h9 := h.cell j
    rw [List.getElem?_toArray, List.getElem?_append_left hj, hu] at h9
    rwa [show (Addr.add ⟨g, 0, none⟩ j) = ⟨g, j, none⟩ by simp [Addr.add]; rintro rfl; rfl]⟩⟩
theorem Vals.own {w : World} {base : Nat} {t : TypeId} {v : Value} {n : Nat} {xs : List α} (h : w.ownsRow base t S.k v n (flat S xs)) : ∃ A c, v = .slice A n c ∧ n ≤ c ∧ c ≤ 9223372036854775807 ∧ Vals S w A n xs ∧ (∀ x, A = some x → base ≤ x.block ∧ x.block < w.heap.size) ∧ Value.ownBlock v = A.map (·.block) := by
  have hl : xs.length = n := by
    have := h.1
    rw [flat_length] at this
    exact Nat.eq_of_mul_eq_mul_right S.pos this
  rcases h.2 with ⟨rfl, rfl⟩ | ⟨g, cap, cur, rfl, hb, hh, h1, h2, h3, h4⟩
  · exact ⟨_, _, rfl, Nat.le_refl _, by omega, ⟨hl, fun h0 => absurd h0 (by omega)⟩, (fun x hx => by cases hx), rfl⟩
  · unfold maxLen at h2
    have hlt : g < w.heap.size := Has.lt (w := w) (b := g) hh
    refine ⟨_, _, rfl, h1, by omega, ⟨hl, fun _ => ⟨_, rfl, fun j u hu => ?_⟩⟩, (fun x hx => by injection hx with hx; subst hx; exact ⟨hb, hlt⟩), rfl⟩
    exact h.cells (g := g) rfl j u hu
theorem own_none (w : World) (base : Nat) (e : TypeId) : w.ownsRow base e S.k (.slice none 0 0) 0 (flat S ([] : List α)) := ⟨by simp [flat], .inl ⟨rfl, rfl⟩⟩
theorem own_empty (w : World) (e : TypeId) : World.ownsRow (w.alloc (.cells #[] e)) w.heap.size e S.k (.slice (some ⟨w.heap.size, 0, none⟩) 0 0) 0 (flat S ([] : List α)) :=
  ⟨by simp [flat], .inr ⟨_, 0, #[], rfl, Nat.le_refl _, Has.new w e #[], Nat.le_refl _, by unfold maxLen; omega, by simp, by simp [flat]⟩⟩
variable {P : Program} {w : World}
theorem run_append (base : Nat) (t ty e : TypeId) (z : Value) (bytes : Nat) (hby : bytes ≤ 64) (ht : P.underlying t = some (.slice e)) (hinfo : (P.info? e).map (fun i => (i.zero, i.size, i.bytes)) = some (some z, S.k, bytes)) (hzs : z.cells.size = S.k)
    (v : Value) (n : Nat) (xs : List α) (hown : w.ownsRow base e S.k v n (flat S xs)) (A : Option Addr) (m c : Nat) (ys : List α) (hr : Vals S w A m ys)
    (h63 : n + m ≤ 1048576) (hbase : base ≤ w.heap.size) :
    ∃ v' w', (Builtin.append_ #[t, t] ty #[v, .slice A m c]).run P w = .ok v' w' ∧ w'.ownsRow base e S.k v' (n + m) (flat S (xs ++ ys)) ∧ w.grownBy w' v.ownBlock ∧
      (v'.ownBlock = v.ownBlock ∨ v'.ownBlock = some w.heap.size) := by
  obtain ⟨i, hi, hz0, hz1, hz2⟩ := info_parts hinfo
  rcases A with _ | ad
  · have hm : m = 0 := by
      rcases Nat.eq_zero_or_pos m with h0 | h0
      · exact h0
      · obtain ⟨x, hx, _⟩ := hr.cells h0
        cases hx
    subst hm
    have hy : ys = [] := List.eq_nil_of_length_eq_zero hr.len_
    subst hy
    refine ⟨v, w, ?_, by simpa using hown, World.grownBy.refl w _, .inl rfl⟩
    rcases hown.2 with ⟨rfl, rfl⟩ | ⟨g, cap, cur, rfl, _, _, hnc, _⟩
    · simp [Builtin.append_, run_underlying ht, sizeOf, typeInfo, hi, Builtin.lenOf, Builtin.firstCells]
    · simp [Builtin.append_, run_underlying ht, sizeOf, typeInfo, hi, Builtin.lenOf, Builtin.firstCells, hnc, storeCells]
  · rcases Nat.eq_zero_or_pos m with h0 | h0
    · subst h0
      have hy : ys = [] := List.eq_nil_of_length_eq_zero hr.len_
      subst hy
      obtain ⟨v', w', hrun, h2, h3, _, h5⟩ := run_append_own_at (P := P) w base t ty e i z S.k bytes ht hi hz0 hz1 hz2 hzs S.pos v n (flat S xs) hown ad 0 c (flat S []) (by simp [flat]) (fun j u hu => by simp [flat] at hu) (flat_one _)
        (by simp only [maxLen]; omega) (by
          have : (n + 0) * bytes ≤ 1048576 * 64 := Nat.mul_le_mul h63 hby
          omega) hbase
      exact ⟨v', w', hrun, by rw [flat_append]; exact h2, h3, h5⟩
    · obtain ⟨x, hx, hc⟩ := hr.cells h0
      injection hx with hx
      subst hx
      obtain ⟨v', w', hrun, h2, h3, _, h5⟩ := run_append_own_at (P := P) w base t ty e i z S.k bytes ht hi hz0 hz1 hz2 hzs S.pos v n (flat S xs) hown ad m c (flat S ys) (by rw [flat_length, hr.len_]) hc (flat_one _)
        (by simp only [maxLen]; omega) (by
          have : (n + m) * bytes ≤ 1048576 * 64 := Nat.mul_le_mul h63 hby
          omega) hbase
      exact ⟨v', w', hrun, by rw [flat_append]; exact h2, h3, h5⟩
theorem wpList_append {ops : Array Oper} {rest : List Oper} {o : Oper} {a : Act} {Q : Exit → Act → World → Prop} (hgd : o.guard = none) (s x : Operand) (t : TypeId)
    (ho : o.op = .call { callee := .builtin .append, args := #[s, x], argTypes := #[t, t] })
    (base : Nat) (e : TypeId) (z : Value) (bytes : Nat) (hby : bytes ≤ 64) (ht : P.underlying t = some (.slice e)) (hinfo : (P.info? e).map (fun i => (i.zero, i.size, i.bytes)) = some (some z, S.k, bytes)) (hzs : z.cells.size = S.k)
    (v : Value) (n : Nat) (xs : List α) (hs : a.eval s = v) (hown : w.ownsRow base e S.k v n (flat S xs)) (A : Option Addr) (m c : Nat) (ys : List α) (hx : a.eval x = .slice A m c) (hr : Vals S w A m ys)
    (h63 : n + m ≤ 1048576) (hbase : base ≤ w.heap.size)
    (h : ∀ v' w', w'.ownsRow base e S.k v' (n + m) (flat S (xs ++ ys)) → w.grownBy w' v.ownBlock → (v'.ownBlock = v.ownBlock ∨ v'.ownBlock = some w.heap.size) → wpList P ops Q rest (a.put o.dst v') w') : wpList P ops Q (o :: rest) a w := by
  refine wpList_plain hgd fun _ hK => ?_
  obtain ⟨v', w', hrun, h2, h3, h4⟩ := run_append (P := P) base t o.type e z bytes hby ht hinfo hzs v n xs hown A m c ys hr h63 hbase
  unfold Oper.wp execOp
  simp only [ho, resolve, invoke, builtin, Sem.run_bind, Sem.run_pure, Result.andThen_ok, List.map_toArray, List.map_cons, List.map_nil, hs, hx, hrun]
  exact hK _ _ (h v' w' h2 h3 h4)
/-- The same as one operation, wherever it stands. -/
theorem wp_append {o : Oper} {a : Act} {K : Act → World → Prop} {Q : Exit → Act → World → Prop} (s x : Operand) (t : TypeId)
    (ho : o.op = .call { callee := .builtin .append, args := #[s, x], argTypes := #[t, t] })
    (base : Nat) (e : TypeId) (z : Value) (bytes : Nat) (hby : bytes ≤ 64) (ht : P.underlying t = some (.slice e)) (hinfo : (P.info? e).map (fun i => (i.zero, i.size, i.bytes)) = some (some z, S.k, bytes)) (hzs : z.cells.size = S.k)
    (v : Value) (n : Nat) (xs : List α) (hs : a.eval s = v) (hown : w.ownsRow base e S.k v n (flat S xs)) (A : Option Addr) (m c : Nat) (ys : List α) (hx : a.eval x = .slice A m c) (hr : Vals S w A m ys)
    (h63 : n + m ≤ 1048576) (hbase : base ≤ w.heap.size)
    (h : ∀ v' w', w'.ownsRow base e S.k v' (n + m) (flat S (xs ++ ys)) → w.grownBy w' v.ownBlock → (v'.ownBlock = v.ownBlock ∨ v'.ownBlock = some w.heap.size) → K (a.put o.dst v') w') : Oper.wp P o a w K Q := by
  obtain ⟨v', w', hrun, h2, h3, h4⟩ := run_append (P := P) base t o.type e z bytes hby ht hinfo hzs v n xs hown A m c ys hr h63 hbase
  unfold Oper.wp execOp
  simp only [ho, resolve, invoke, builtin, Sem.run_bind, Sem.run_pure, Result.andThen_ok, List.map_toArray, List.map_cons, List.map_nil, hs, hx, hrun]
  exact h v' w' h2 h3 h4
end
end Go.Proofs.YtjhpogiknhbegaaDoor.Row
