/- copy and clear over elements of several cells, into a block's cells: what the block holds behind it. Of no program. -/
import Derived.Test.YtjhpogiknhbegaaDoorShape
import Derived.Test.YtjhpogiknhbegaaDoorWholeRow
import Derived.Laws.CopyRow
import Derived.Laws.MakeOwn
set_option linter.unusedSimpArgs false
set_option linter.unusedVariables false
namespace Go.Proofs.YtjhpogiknhbegaaDoor.Row
open Go.RowKit
/-- A list with these laid from a place on. -/
def laidT (cur : List Value) (o : Nat) (vs : List Value) : List Value := cur.take o ++ vs ++ cur.drop (o + vs.length)
theorem laid_nil (cur : List Value) (o : Nat) : laidT cur o [] = cur := by unfold laidT; simp
theorem laid_len (cur : List Value) (o : Nat) (vs : List Value) (h : o + vs.length ≤ cur.length) : (laidT cur o vs).length = cur.length := by unfold laidT; simp; omega
section
variable {α : Type} {S : Shape α} {P : Program} {w : World}
/-- n elements read from somewhere. -/
theorem run_cells (A : Option Addr) (m : Nat) (ys : List α) (hv : Vals S w A m ys) (n : Nat) (hn : n ≤ m) (h0 : 0 < n) : ∃ x, A = some x ∧ (loadCells x (n * S.k)).run P w = .ok (flat S (ys.take n)).toArray w := by
  obtain ⟨x, rfl, hc⟩ := (hv.take n hn).cells h0
  have hl := run_loadCells_list (P := P) w x (flat S (ys.take n)) hc
  rw [flat_length, List.length_take, show min n ys.length = n by have := hv.len_; omega] at hl
  exact ⟨x, rfl, hl⟩
theorem run_copy_into (dT sT ty e : TypeId) (ht : P.underlying dT = some (.slice e)) (hs : (P.info? e).map (·.size) = some S.k)
    (g : Nat) (t : TypeId) (cur : List Value) (hg : Has w g t cur.toArray) (d : Option Addr) (o dLen dCap : Nat) (A : Option Addr) (m c : Nat) (ys : List α) (hv : Vals S w A m ys) (n : Nat) (hn : Nat.min m dLen = n)
    (hd : 0 < n → d = some ⟨g, o, none⟩ ∧ o + n * S.k ≤ cur.length) :
    ∃ w', (Builtin.copy_ #[dT, sT] ty #[.slice d dLen dCap, .slice A m c]).run P w = .ok (goInt n) w' ∧ Has w' g t (laidT cur o (flat S (ys.take n))).toArray ∧ Kept [g] w w' := by
  have hnm : n ≤ m := by rw [← hn]; exact Nat.min_le_left _ _
  cases hq : P.info? e with
  | none => simp [hq] at hs
  | some i =>
    have hi : i.size = S.k := by simpa [hq] using hs
    rcases Nat.eq_zero_or_pos n with h0 | h0
    · subst h0
      refine ⟨w, ?_, ?_, Kept.refl _ _⟩
      · rcases A with _ | x <;> rcases d with _ | y
        all_goals
          have hl := fun y : Addr => run_loadCells_list (P := P) w y [] (by simp)
          rw [List.length_nil] at hl
          simp [Builtin.copy_, run_underlying ht, Builtin.lenOf, Builtin.firstCells, sizeOf, typeInfo, hq, hi, hn, hl, storeCells]
      · rw [List.take_zero, flat_nil, laid_nil]; exact hg
    · obtain ⟨x, rfl, hl⟩ := run_cells (P := P) A m ys hv n hnm h0
      obtain ⟨rfl, hfit⟩ := hd h0
      have hlen : (flat S (ys.take n)).length = n * S.k := by rw [flat_length, List.length_take, show min n ys.length = n by have := hv.len_; omega]
      have hst := run_storeCells_at P g o t (flat S (ys.take n)) 0 cur.toArray w hg (by rw [hlen]; simpa using hfit) (flat_one _)
      refine ⟨w.setRow g (laidT cur o (flat S (ys.take n))).toArray, ?_, Has.row hg _, kept_row w g _⟩
      simp [Builtin.copy_, run_underlying ht, Builtin.lenOf, Builtin.firstCells, sizeOf, typeInfo, hq, hi, hn, hl, hst, laidT]
theorem run_clear_into (z : α) (sT ty e : TypeId) (u : Value) (ht : P.underlying sT = some (.slice e)) (hz : ∀ w, (zeroValue e).run P w = .ok u w) (hu : u.cells = (S.enc z).toArray)
    (g : Nat) (t : TypeId) (cur : List Value) (hg : Has w g t cur.toArray) (o n c : Nat) (hn : 0 < n) (hfit : o + n * S.k ≤ cur.length) :
    ∃ w', (Builtin.clear_ #[sT] ty #[.slice (some ⟨g, o, none⟩) n c]).run P w = .ok (.tuple #[]) w' ∧ Has w' g t (laidT cur o (flat S (List.replicate n z))).toArray ∧ Kept [g] w w' := by
  have hzc : (Builtin.zeroCells u.cells n).toList = flat S (List.replicate n z) := by
    rw [hu]
    have hk : (S.enc z).toArray.size = S.k := by simp [S.len]
    have hkp := S.pos
    apply List.ext_getElem?
    intro i
    rcases Nat.lt_or_ge i (n * S.k) with h1 | h1
    · have hmo : i % S.k < S.k := Nat.mod_lt _ hkp
      have hd : i / S.k < n := Nat.div_lt_of_lt_mul (by rwa [Nat.mul_comm] at h1)
      have hg := flat_get (S := S) (List.replicate n z) (i / S.k) (i % S.k) (by simpa using hd) hmo
      rw [show i / S.k * S.k + i % S.k = i by rw [Nat.mul_comm]; exact Nat.div_add_mod i S.k] at hg
      rw [hg]
      simp [Builtin.zeroCells, hk, List.getElem?_range h1, S.len]
      rw [List.getElem?_eq_getElem (by rw [S.len]; exact hmo)]
      rfl
    · rw [List.getElem?_eq_none (by simp [Builtin.zeroCells, hk, S.len]; exact h1), List.getElem?_eq_none (by rw [flat_length, List.length_replicate]; exact h1)]
  have hlen : (flat S (List.replicate n z)).length = n * S.k := by rw [flat_length, List.length_replicate]
  have hst := run_storeCells_at P g o t (flat S (List.replicate n z)) 0 cur.toArray w hg (by rw [hlen]; simpa using hfit) (flat_one _)
  refine ⟨w.setRow g (laidT cur o (flat S (List.replicate n z))).toArray, ?_, Has.row hg _, kept_row w g _⟩
  obtain ⟨m, rfl⟩ : ∃ m, n = m + 1 := ⟨n - 1, by omega⟩
  simp [Builtin.clear_, run_underlying ht, hz, hzc, hst, laidT]
theorem wp_copy_into {o : Oper} {a : Act} {K : Act → World → Prop} {Q : Exit → Act → World → Prop} (d s : Operand) (dT sT : TypeId) (ho : o.op = .call { callee := .builtin .copy, args := #[d, s], argTypes := #[dT, sT] })
    (e : TypeId) (ht : P.underlying dT = some (.slice e)) (hs : (P.info? e).map (·.size) = some S.k) (g : Nat) (t : TypeId) (cur : List Value) (hg : Has w g t cur.toArray) (da : Option Addr) (off dLen dCap : Nat) (hda : a.eval d = .slice da dLen dCap)
    (A : Option Addr) (m c : Nat) (hsa : a.eval s = .slice A m c) (ys : List α) (hv : Vals S w A m ys) (n : Nat) (hn : Nat.min m dLen = n) (hd : 0 < n → da = some ⟨g, off, none⟩ ∧ off + n * S.k ≤ cur.length)
    (h : ∀ w', Has w' g t (laidT cur off (flat S (ys.take n))).toArray → Kept [g] w w' → K (a.put o.dst (goInt n)) w') : Oper.wp P o a w K Q := by
  obtain ⟨w', hrun, h1, h2⟩ := run_copy_into (P := P) dT sT o.type e ht hs g t cur hg da off dLen dCap A m c ys hv n hn hd
  unfold Oper.wp execOp
  simp only [ho, resolve, invoke, builtin, Sem.run_bind, Sem.run_pure, Result.andThen_ok, List.map_toArray, List.map_cons, List.map_nil, hda, hsa, hrun]
  exact h w' h1 h2
theorem wpList_copy_into {ops : Array Oper} {rest : List Oper} {o : Oper} {a : Act} {Q : Exit → Act → World → Prop} (hgd : o.guard = none) (d s : Operand) (dT sT : TypeId) (ho : o.op = .call { callee := .builtin .copy, args := #[d, s], argTypes := #[dT, sT] })
    (e : TypeId) (ht : P.underlying dT = some (.slice e)) (hs : (P.info? e).map (·.size) = some S.k) (g : Nat) (t : TypeId) (cur : List Value) (hg : Has w g t cur.toArray) (da : Option Addr) (off dLen dCap : Nat) (hda : a.eval d = .slice da dLen dCap)
    (A : Option Addr) (m c : Nat) (hsa : a.eval s = .slice A m c) (ys : List α) (hv : Vals S w A m ys) (n : Nat) (hn : Nat.min m dLen = n) (hd : 0 < n → da = some ⟨g, off, none⟩ ∧ off + n * S.k ≤ cur.length)
    (h : ∀ w', Has w' g t (laidT cur off (flat S (ys.take n))).toArray → Kept [g] w w' → wpList P ops Q rest (a.put o.dst (goInt n)) w') : wpList P ops Q (o :: rest) a w := by
  refine wpList_plain hgd fun _ hK => ?_
  obtain ⟨w', hrun, h1, h2⟩ := run_copy_into (P := P) dT sT o.type e ht hs g t cur hg da off dLen dCap A m c ys hv n hn hd
  unfold Oper.wp execOp
  simp only [ho, resolve, invoke, builtin, Sem.run_bind, Sem.run_pure, Result.andThen_ok, List.map_toArray, List.map_cons, List.map_nil, hda, hsa, hrun]
  exact hK _ _ (h w' h1 h2)
theorem wp_clear_into {o : Oper} {a : Act} {K : Act → World → Prop} {Q : Exit → Act → World → Prop} (z : α) (s : Operand) (sT : TypeId) (ho : o.op = .call { callee := .builtin .clear, args := #[s], argTypes := #[sT] })
    (e : TypeId) (u : Value) (ht : P.underlying sT = some (.slice e)) (hz : ∀ w, (zeroValue e).run P w = .ok u w) (hu : u.cells = (S.enc z).toArray) (g : Nat) (t : TypeId) (cur : List Value) (hg : Has w g t cur.toArray)
    (off n c : Nat) (hsa : a.eval s = .slice (some ⟨g, off, none⟩) n c) (hn : 0 < n) (hfit : off + n * S.k ≤ cur.length)
    (h : ∀ w', Has w' g t (laidT cur off (flat S (List.replicate n z))).toArray → Kept [g] w w' → K (a.put o.dst (.tuple #[])) w') : Oper.wp P o a w K Q := by
  obtain ⟨w', hrun, h1, h2⟩ := run_clear_into (P := P) z sT o.type e u ht hz hu g t cur hg off n c hn hfit
  unfold Oper.wp execOp
  simp only [ho, resolve, invoke, builtin, Sem.run_bind, Sem.run_pure, Result.andThen_ok, List.map_toArray, List.map_cons, List.map_nil, hsa, hrun]
  exact h w' h1 h2
/-- make of n elements. -/
theorem made_cells (z : α) (u : Value) (hu : u.cells = (S.enc z).toArray) (n : Nat) : madeCells u.cells (n * S.k) = (flat S (List.replicate n z)).toArray := by
  rw [hu]
  have hk : (S.enc z).toArray.size = S.k := by simp [S.len]
  have hkp := S.pos
  have e : (madeCells (S.enc z).toArray (n * S.k)).toList = flat S (List.replicate n z) := by
    apply List.ext_getElem?
    intro i
    rcases Nat.lt_or_ge i (n * S.k) with h1 | h1
    · have hmo : i % S.k < S.k := Nat.mod_lt _ hkp
      have hd : i / S.k < n := Nat.div_lt_of_lt_mul (by rwa [Nat.mul_comm] at h1)
      have hg := flat_get (S := S) (List.replicate n z) (i / S.k) (i % S.k) (by simpa using hd) hmo
      rw [show i / S.k * S.k + i % S.k = i by rw [Nat.mul_comm]; exact Nat.div_add_mod i S.k] at hg
      rw [hg]
      simp [madeCells, List.getElem?_range h1, S.len]
      rw [List.getElem?_eq_getElem (by rw [S.len]; exact hmo)]
      rfl
    · rw [List.getElem?_eq_none (by simp [madeCells]; exact h1), List.getElem?_eq_none (by rw [flat_length, List.length_replicate]; exact h1)]
  rw [← e]
theorem run_make_of (z : α) (t e : TypeId) (u : Value) (bytes : Nat) (ht : P.underlying t = some (.slice e)) (hinfo : (P.info? e).map (fun i => (i.zero, i.size, i.bytes)) = some (some u, S.k, bytes)) (hu : u.cells = (S.enc z).toArray) (hby : bytes ≤ 64)
    (n : Nat) (hn : n ≤ 100000) (W : World) : (Instr.makeSlice t (.int .i64 (n : Nat)) (.int .i64 (n : Nat))).run P W = .ok (.slice (some ⟨W.heap.size, 0, none⟩) n n) (W.alloc (.cells (flat S (List.replicate n z)).toArray e)) := by
  obtain ⟨i, hi, hz0, hz1, hz2⟩ := info_parts hinfo
  have hr := run_make (P := P) W t e i u ht hi hz0 .i64 .i64 (n : Int) (n : Int) (by omega) (Int.le_refl _) (by
    have : (i.bytes : Int) * (n : Int) ≤ 64 * 100000 := Int.mul_le_mul (by omega) (by omega) (by omega) (by omega)
    omega) (by omega)
  simp only [Int.toNat_natCast, hz1] at hr
  rw [made_cells z u hu n] at hr
  exact hr
theorem own_row {g : Nat} {t : TypeId} {xs : List α} (h : Has w g t (flat S xs).toArray) (base n : Nat) (hb : base ≤ g) (hl : xs.length = n) (hn : n ≤ 100000) : w.ownsRow base t S.k (.slice (some ⟨g, 0, none⟩) n n) n (flat S xs) := by
  subst hl
  exact ⟨by rw [flat_length], .inr ⟨g, xs.length, _, rfl, hb, h, Nat.le_refl _, by unfold maxLen; omega, by simp [flat_length], by rw [List.take_of_length_le (by rw [flat_length]; exact Nat.le_refl _)]⟩⟩
end
end Go.Proofs.YtjhpogiknhbegaaDoor.Row
