/- What the proofs stand on, part 2. -/
import Derived.Test.YtnoppoimahfknaaPack1
import Derived.Lib.AppendZeros
import Derived.Maps.AppendAt
import Derived.Test.YtnoppoimahfknaaChecked
import Derived.WalkKit
import Derived.OwnWalk
import Derived.KernelRfl
import Derived.ProofKit
import Derived.Handy
import Derived.Lib.Hide
import Derived.Test.YtnoppoimahfknaaRows
import Derived.Deep.QuietTactic
import Derived.BigQuiet
import Derived.RegionTactic
import Derived.Lib.Mul64
import Derived.Laws.Bits64b
import Derived.Deep.Slices
import Derived.Deep.Fields
import Derived.Deep.Matrix
import Derived.ChangeSame
import Derived.ChangeSlices
import Derived.Deep.RegionWith
import Derived.Laws.MakeOwn
import Derived.Laws.StructEq
import Derived.Deep.DeepMust
import Derived.Deep.DeepCutAuto
section
/- append of a make: `append(out, make([]T, n)...)` onto a row of the call's own, elements of several cells each: n zero elements more. Of no program. -/
set_option linter.unusedSimpArgs false
set_option linter.unusedVariables false
namespace Go.Proofs.Ytnoppoimahfknaa.Row
open Go.RowKit
section
variable {P : Program} (w : World)
theorem run_zeros_room (t tn ty e : TypeId) (i : TypeInfo) (z : Value) (kn : IntKind) (ht : P.underlying t = some (.slice e)) (htn : P.underlying tn = some (.int kn)) (hi : P.info? e = some i) (hz : i.zero = some z)
    (g sLen sCap : Nat) (cur : Array Value) (hg : w.heap[g]? = some (.cells cur e (0, 0))) (m : Nat) (h0 : 0 < m) (hs : 0 < i.size) (hzs : z.cells.size = i.size) (h1 : ∀ u ∈ (Builtin.zeroCells z.cells m).toList, u.oneCell' = true)
    (h63 : (m : Int) ≤ 9223372036854775807) (h48 : m * i.bytes ≤ 281474976710656) (hroom : sLen + m ≤ sCap) (hfit : sLen * i.size + m * i.size ≤ cur.size) :
    (Builtin.append_ #[t, tn] ty #[.slice (some ⟨g, 0, none⟩) sLen sCap, .int .i64 m]).run P w =
      .ok (.slice (some ⟨g, 0, none⟩) (sLen + m) sCap) (w.setRow g (cur.toList.take (sLen * i.size) ++ (Builtin.zeroCells z.cells m).toList ++ cur.toList.drop (sLen * i.size + m * i.size)).toArray) := by
  have hl : (Builtin.zeroCells z.cells m).toList.length = m * i.size := by rw [Array.length_toList, size_zeroCells, hzs]
  have hst := run_storeCells_at P g (sLen * i.size) e (Builtin.zeroCells z.cells m).toList 0 cur w hg (by rw [hl]; simpa using hfit) h1
  simp only [Nat.add_zero] at hst
  rw [hl] at hst
  have hw : IntKind.i64.wrap (m : Int) = m := by rw [IntKind.wrap_i64]; omega
  have hneg : ¬ ((m : Int) < 0) := by omega
  have h48i : ¬ (281474976710656 < (m : Int) * (i.bytes : Int)) := by rw [← Int.natCast_mul]; omega
  have hns : ¬ (m * i.size = 0) := Nat.mul_ne_zero (by omega) (by omega)
  simp [Builtin.append_, run_underlying ht, run_underlying htn, sizeOf, typeInfo, zeroValue, hi, hz, asInt, asIntOf, hw, hneg, h48i, hns, hroom, Addr.add_lit, hst]
theorem run_zeros_grow (t tn ty e : TypeId) (i : TypeInfo) (z : Value) (kn : IntKind) (ht : P.underlying t = some (.slice e)) (htn : P.underlying tn = some (.int kn)) (hi : P.info? e = some i) (hz : i.zero = some z)
    (b : Addr) (sLen sCap : Nat) (olds : List Value) (hlo : olds.length = sLen * i.size) (holds : ∀ j v, olds[j]? = some v → w.cell? (b.add j) = some v)
    (m : Nat) (h0 : 0 < m) (hs : 0 < i.size) (h48 : m * i.bytes ≤ 281474976710656)
    (hg : sCap < sLen + m) (h63 : ((sLen + m : Nat) : Int) ≤ 9223372036854775807) (hfit : Builtin.nextslicecap (sLen + m) sCap * i.bytes ≤ 281474976710656) :
    (Builtin.append_ #[t, tn] ty #[.slice (some b) sLen sCap, .int .i64 m]).run P w =
      .ok (.slice (some ⟨w.heap.size, 0, none⟩) (sLen + m) (grownCap w (sLen + m) sCap e))
        (w.drew.alloc (.cells (olds.toArray ++ Builtin.zeroCells z.cells m ++ Builtin.zeroCells z.cells (grownCap w (sLen + m) sCap e - (sLen + m))) e)) := by
  have hn : ¬ (sLen + m ≤ sCap) := by omega
  have h63' : ¬ (9223372036854775807 < ((sLen : Int) + (m : Int))) := by omega
  have h48' : ¬ (281474976710656 < Builtin.nextslicecap (sLen + m) sCap * i.bytes) := by omega
  have hfo := run_firstCells_some (P := P) w.drew i.size sLen b sLen sCap olds hlo (by simpa using holds)
  have hw : IntKind.i64.wrap (m : Int) = m := by rw [IntKind.wrap_i64]; omega
  have hneg : ¬ ((m : Int) < 0) := by omega
  have h48i : ¬ (281474976710656 < (m : Int) * (i.bytes : Int)) := by rw [← Int.natCast_mul]; omega
  have hns : ¬ (m * i.size = 0) := Nat.mul_ne_zero (by omega) (by omega)
  simp [Builtin.append_, run_underlying ht, run_underlying htn, sizeOf, typeInfo, zeroValue, hi, hz, asInt, asIntOf, hw, hneg, h48i, hns, hn, h63', h48', Question.forced, hfo, newRow, grownCap]
/-- With none of them: as it was. -/
theorem run_zeros_none (t tn ty e : TypeId) (i : TypeInfo) (z : Value) (kn : IntKind) (ht : P.underlying t = some (.slice e)) (htn : P.underlying tn = some (.int kn)) (hi : P.info? e = some i) (hz : i.zero = some z) (A : Option Addr) (sLen sCap : Nat) (hc : sLen ≤ sCap) :
    (Builtin.append_ #[t, tn] ty #[.slice A sLen sCap, .int .i64 0]).run P w = .ok (.slice A sLen sCap) w := by
  have hw : IntKind.i64.wrap (0 : Int) = 0 := by rw [IntKind.wrap_i64]; omega
  cases A with
  | none => simp [Builtin.append_, run_underlying ht, run_underlying htn, sizeOf, typeInfo, zeroValue, hi, hz, asInt, asIntOf, hw, hc]
  | some a => simp [Builtin.append_, run_underlying ht, run_underlying htn, sizeOf, typeInfo, zeroValue, hi, hz, asInt, asIntOf, hw, hc, storeCells]
end
section
variable {α : Type} {S : Shape α} {P : Program} {w : World}
theorem flat_replicate (zero : α) (c : Array Value) (hc : S.enc zero = c.toList) (m : Nat) : (Builtin.zeroCells c m).toList = flat S (List.replicate m zero) := by
  have hk : c.size = S.k := by have := S.len zero; rw [hc] at this; simpa using this
  have hpos := S.pos
  refine List.ext_getElem? fun p => ?_
  have hfl : (flat S (List.replicate m zero)).length = m * S.k := by rw [flat_length, List.length_replicate]
  by_cases hp : p < m * S.k
  · have hd : p / S.k < m := Nat.div_lt_of_lt_mul (by rw [Nat.mul_comm]; exact hp)
    have hm := Nat.mod_lt p hpos
    have h1 := flat_get (S := S) (List.replicate m zero) (p / S.k) (p % S.k) (by rw [List.length_replicate]; exact hd) hm
    rw [Nat.mul_comm, Nat.div_add_mod] at h1
    rw [h1]
    simp only [List.getElem_replicate]
    rw [hc]
    have hm2 : p % S.k < c.size := by omega
    unfold Builtin.zeroCells
    simp [hk, hp]
    rw [getElem!_pos c _ hm2, Array.getElem?_eq_getElem hm2]
  · have h2 : (Builtin.zeroCells c m).toList.length = m * S.k := by rw [Array.length_toList, size_zeroCells, hk]
    rw [List.getElem?_eq_none (by omega), List.getElem?_eq_none (by omega)]
theorem append_zeros (base : Nat) (t tn ty e : TypeId) (z : Value) (kn : IntKind) (bytes : Nat) (hby : bytes ≤ 64) (ht : P.underlying t = some (.slice e)) (htn : P.underlying tn = some (.int kn)) (hinfo : (P.info? e).map (fun i => (i.zero, i.size, i.bytes)) = some (some z, S.k, bytes)) (hzs : z.cells.size = S.k)
    (v : Value) (n : Nat) (xs : List α) (hown : w.ownsRow base e S.k v n (flat S xs)) (zero : α) (hze : S.enc zero = z.cells.toList) (m : Nat)
    (h63 : n + m ≤ 1048576) (hbase : base ≤ w.heap.size) :
    ∃ v' w', (Builtin.append_ #[t, tn] ty #[v, .int .i64 (m : Nat)]).run P w = .ok v' w' ∧ w'.ownsRow base e S.k v' (n + m) (flat S (xs ++ List.replicate m zero)) ∧ w.grownBy w' v.ownBlock ∧
      (v'.ownBlock = v.ownBlock ∨ v'.ownBlock = some w.heap.size) := by
  obtain ⟨i, hi, hz0, hz1, hz2⟩ := info_parts hinfo
  have hpos := S.pos
  have hfl := flat_replicate (S := S) zero z.cells hze m
  have hlz : (flat S (List.replicate m zero)).length = m * S.k := by rw [flat_length, List.length_replicate]
  rcases Nat.eq_zero_or_pos m with hm0 | hm0
  · subst hm0
    refine ⟨v, w, ?_, by simpa using hown, World.grownBy.refl w _, .inl rfl⟩
    rcases hown.2 with ⟨rfl, rfl⟩ | ⟨g, cap, cur, rfl, _, _, hnc, _⟩
    · exact run_zeros_none w t tn ty e i z kn ht htn hi hz0 none 0 0 (Nat.le_refl _)
    · exact run_zeros_none w t tn ty e i z kn ht htn hi hz0 _ n cap hnc
  have hlen : (flat S xs ++ flat S (List.replicate m zero)).length = (n + m) * S.k := by rw [List.length_append, hown.1, hlz, Nat.add_mul]
  have hb1 : m * i.bytes ≤ 281474976710656 := by
    rw [hz2]
    exact Nat.le_trans (Nat.mul_le_mul (show m ≤ 1048576 by omega) hby) (by omega)
  have hb2 : (n + m) * bytes ≤ 140737488355328 := Nat.le_trans (Nat.mul_le_mul h63 hby) (by omega)
  have grown : ∀ (old : Nat), old < n + m → ∀ (row : Option Nat),
      (w.drew.alloc (.cells ((flat S xs).toArray ++ Builtin.zeroCells z.cells m ++ Builtin.zeroCells z.cells (grownCap w (n + m) old e - (n + m))) e)).ownsRow base e S.k
        (.slice (some ⟨w.heap.size, 0, none⟩) (n + m) (grownCap w (n + m) old e)) (n + m) (flat S xs ++ flat S (List.replicate m zero)) ∧
      w.grownBy (w.drew.alloc (.cells ((flat S xs).toArray ++ Builtin.zeroCells z.cells m ++ Builtin.zeroCells z.cells (grownCap w (n + m) old e - (n + m))) e)) row := by
    intro old ho row
    have hge := grownCap_ge w (n + m) old e
    have hcm : grownCap w (n + m) old e ≤ maxLen := grownCap_le_maxLen w (n + m) old e (by simp only [maxLen]; omega)
    refine ⟨⟨hlen, .inr ⟨w.heap.size, _, _, rfl, hbase, heap_alloc_new w.drew _, hge, hcm, ?_, ?_⟩⟩, ⟨rfl, rfl, rfl, by simp, fun q hq _ => heap_alloc_old w.drew _ (by simpa using hq)⟩⟩
    · simp only [Array.size_append, List.size_toArray, size_zeroCells, hzs, hown.1, ← Nat.add_mul]
      congr 1
      omega
    · simp only [Array.toList_append, List.append_assoc, hfl]
      rw [← List.append_assoc, ← hlen]
      exact List.take_left
  rw [flat_append]
  rcases hown.2 with ⟨rfl, rfl⟩ | ⟨g, cap, cur, rfl, hbg, hg, hnc, hcm, hcs, htake⟩
  · have hx : flat S xs = [] := List.eq_nil_of_length_eq_zero (by simpa using hown.1)
    have hr := Lib.run_append_nil_zeros (P := P) w t tn ty e i z .i64 kn ht htn hi hz0 m hm0 (by omega) (by omega) hb1
    have hgr := grown 0 (by omega) (Value.ownBlock (.slice none 0 0))
    rw [hx] at hgr ⊢
    simp only [Nat.zero_add, List.nil_append, Array.empty_append] at hgr ⊢
    exact ⟨_, _, hr, hgr.1, hgr.2, Or.inr rfl⟩
  · by_cases hroom : n + m ≤ cap
    · have hfit : n * i.size + m * i.size ≤ cur.size := by rw [hz1, hcs, ← Nat.add_mul]; exact Nat.mul_le_mul_right _ hroom
      have hr := run_zeros_room (P := P) w t tn ty e i z kn ht htn hi hz0 g n cap cur hg m hm0 (by omega) (by omega) (by rw [hfl]; exact flat_one _) (by omega) hb1 hroom hfit
      rw [hz1, hfl] at hr
      refine ⟨_, _, hr, ⟨hlen, .inr ⟨g, cap, _, rfl, hbg, setRow_heap w g cur _ e _ hg, hroom, hcm, ?_, ?_⟩⟩, ⟨rfl, rfl, rfl, by simp, fun q _ hq => setRow_other w g q _ (fun e => hq (by simp [Value.ownBlock, e]))⟩, Or.inl rfl⟩
      · rw [hz1] at hfit
        simp only [List.size_toArray, List.length_append, List.length_take, List.length_drop, Array.length_toList, hlz]
        omega
      · rw [htake, ← hlen]
        exact List.take_left
    · have holds : ∀ j u, (flat S xs)[j]? = some u → w.cell? ((⟨g, 0, none⟩ : Addr).add j) = some u := hown.cells (g := g) rfl
      have hr := run_zeros_grow (P := P) w t tn ty e i z kn ht htn hi hz0 ⟨g, 0, none⟩ n cap (flat S xs) (by rw [hz1]; exact hown.1) holds m hm0 (by omega) hb1 (by omega) (by omega) (by rw [hz2]; exact growslice_fits (by omega) hb2)
      have hgr := grown cap (by omega) (Value.ownBlock (.slice (some ⟨g, 0, none⟩) n cap))
      exact ⟨_, _, hr, hgr.1, hgr.2, Or.inr rfl⟩
end
end Go.Proofs.Ytnoppoimahfknaa.Row
end
section
/- A slice that reads as a list of int64 values; appending one to a row of the call's own. -/
set_option linter.unusedSimpArgs false
set_option linter.unusedVariables false
namespace Go.Proofs.Ytnoppoimahfknaa.RI64
open Go.RowKit

/-- The slice (a, len) reads as these values. -/
structure Vals (w : World) (a : Option Addr) (len : Nat) (ys : List Int) : Prop where
  len_ : ys.length = len
  cells : 0 < len → ∃ x, a = some x ∧ ∀ i, i < len → w.cell? (x.add i) = some (.int .i64 (ys.getD i 0))
theorem Vals.none_ (w : World) : Vals w none 0 [] := ⟨rfl, fun h => absurd h (by omega)⟩
theorem Vals.same {w w' : World} {a : Option Addr} {len : Nat} {ys : List Int} (h : Vals w a len ys) (e : w'.heap = w.heap) : Vals w' a len ys :=
  ⟨h.len_, fun hl => by
    obtain ⟨x, hx, hc⟩ := h.cells hl
    exact ⟨x, hx, fun i hi => by have := hc i hi; unfold World.cell? at *; rw [e]; exact this⟩⟩
theorem Vals.below {w w' : World} {a : Option Addr} {len : Nat} {ys : List Int} (h : Vals w a len ys) (hb : Below w.heap.size w w') : Vals w' a len ys :=
  ⟨h.len_, fun hl => by
    obtain ⟨x, hx, hc⟩ := h.cells hl
    exact ⟨x, hx, fun i hi => (hb.cell (World.block_lt_of_cell? _ _ (hc i hi))).trans (hc i hi)⟩⟩
theorem Vals.turned {w w' : World} {b g : Nat} {a : Option Addr} {len : Nat} {ys : List Int} (h : Vals w a len ys) (hb : Turned b g w w') (h1 : 0 < len → ∀ x, a = some x → x.block ≠ b ∧ x.block ≠ g) : Vals w' a len ys :=
  ⟨h.len_, fun hl => by
    obtain ⟨x, hx, hc⟩ := h.cells hl
    have hxb := h1 hl x hx
    exact ⟨x, hx, fun i hi => (hb.cell (World.block_lt_of_cell? _ _ (hc i hi)) (by rw [block_add]; exact hxb.1) (by rw [block_add]; exact hxb.2)).trans (hc i hi)⟩⟩


def vals (xs : List Int) : List Value := xs.map fun (v : Int) => Value.int .i64 v
theorem vals_one (xs : List Int) : ∀ u ∈ vals xs, u.oneCell' = true := by
  intro u hu
  obtain ⟨n, _, rfl⟩ := List.mem_map.1 hu
  rfl
theorem vals_append (xs ys : List Int) : vals (xs ++ ys) = vals xs ++ vals ys := List.map_append
theorem Vals.get {w : World} {A : Addr} {m : Nat} {ys : List Int} (h : Vals w (some A) m ys) (j : Nat) (u : Value) (hu : (vals ys)[j]? = some u) : w.cell? (A.add j) = some u := by
  have hj : j < ys.length := by
    have := (List.getElem?_eq_some_iff.1 hu).1
    simpa [vals] using this
  obtain ⟨x, hx, hc⟩ := h.cells (by have := h.len_; omega)
  injection hx with hx
  subst hx
  rw [hc j (by have := h.len_; omega), ← hu]
  simp [vals, List.getD_eq_getElem?_getD, List.getElem?_eq_getElem hj]
theorem Vals.grown {w w' : World} {row : Option Nat} {a : Option Addr} {len : Nat} {ys : List Int} (h : Vals w a len ys) (hg : w.grownBy w' row) (h1 : 0 < len → ∀ x, a = some x → some x.block ≠ row) : Vals w' a len ys :=
  ⟨h.len_, fun hl => by
    obtain ⟨x, hx, hc⟩ := h.cells hl
    exact ⟨x, hx, fun i hi => (World.cell?_of_block (hg.block (x.add i).block (World.block_lt_of_cell? _ _ (hc i hi)) (by rw [block_add]; exact h1 hl x hx))).trans (hc i hi)⟩⟩
theorem Vals.has {w : World} {g : Nat} {t : TypeId} {ys : List Int} {tl : List Value} (h : Has w g t (vals ys ++ tl).toArray) : Vals w (some ⟨g, 0, none⟩) ys.length ys :=
  ⟨rfl, fun _ => ⟨_, rfl, fun i hi => by
    have h9 := h.cell i
    rw [List.getElem?_toArray, List.getElem?_append_left (by simpa [vals] using hi)] at h9
    rw [show (Addr.add ⟨g, 0, none⟩ i) = ⟨g, i, none⟩ by simp [Addr.add]; rintro rfl; rfl, h9]
    simp [vals, List.getD_eq_getElem?_getD, List.getElem?_eq_getElem hi]⟩⟩
theorem Vals.own {w : World} {base : Nat} {t : TypeId} {v : Value} {n : Nat} {xs : List Int} (h : w.ownsRow base t 1 v n (vals xs)) : ∃ A c, v = .slice A n c ∧ n ≤ c ∧ c ≤ 9223372036854775807 ∧ Vals w A n xs ∧ (∀ x, A = some x → base ≤ x.block ∧ x.block < w.heap.size) ∧ Value.ownBlock v = A.map (·.block) := by
  have hl : xs.length = n := by have := h.1; simpa [vals] using this
  rcases h.2 with ⟨rfl, rfl⟩ | ⟨g, cap, cur, rfl, hb, hh, h1, h2, h3, h4⟩
  · exact ⟨_, _, rfl, Nat.le_refl _, by omega, ⟨hl, fun h0 => absurd h0 (by omega)⟩, (fun x hx => by cases hx), rfl⟩
  · unfold maxLen at h2
    have hlt : g < w.heap.size := Has.lt (w := w) (b := g) hh
    refine ⟨_, _, rfl, h1, by omega, ⟨hl, fun _ => ⟨_, rfl, fun i hi => ?_⟩⟩, (fun x hx => by injection hx with hx; subst hx; exact ⟨hb, hlt⟩), rfl⟩
    have hc := h.cells (g := g) rfl
    refine hc i _ ?_
    have hi' : i < xs.length := by omega
    simp [vals, List.getD_eq_getElem?_getD, List.getElem?_eq_getElem hi']

section
variable {P : Program} {w : World}
theorem run_append_vals (base : Nat) (t ty e : TypeId) (bytes : Nat) (hby : bytes ≤ 16) (ht : P.underlying t = some (.slice e)) (hinfo : (P.info? e).map (fun i => (i.zero, i.size, i.bytes)) = some (some (.int .i64 0), 1, bytes))
    (v : Value) (n : Nat) (xs : List Int) (hown : w.ownsRow base e 1 v n (vals xs)) (A : Option Addr) (m c : Nat) (ys : List Int) (hr : Vals w A m ys)
    (h63 : n + m ≤ 1048576) (hbase : base ≤ w.heap.size) :
    ∃ v' w', (Builtin.append_ #[t, t] ty #[v, .slice A m c]).run P w = .ok v' w' ∧ w'.ownsRow base e 1 v' (n + m) (vals (xs ++ ys)) ∧ w.grownBy w' v.ownBlock ∧
      (v'.ownBlock = v.ownBlock ∨ v'.ownBlock = some w.heap.size) := by
  obtain ⟨i, hi, hz0, hz1, hz2⟩ := info_parts hinfo
  rcases A with _ | ad
  · have hm : m = 0 := by
      rcases Nat.eq_zero_or_pos m with h0 | h0
      · exact h0
      · obtain ⟨x, hx, _⟩ := hr.cells h0
        cases hx
    subst hm
    have hy : ys = [] := List.eq_nil_of_length_eq_zero hr.len_
    subst hy
    refine ⟨v, w, ?_, by simpa using hown, World.grownBy.refl w _, .inl rfl⟩
    rcases hown.2 with ⟨rfl, rfl⟩ | ⟨g, cap, cur, rfl, _, _, hnc, _⟩
    · simp [Builtin.append_, run_underlying ht, sizeOf, typeInfo, hi, Builtin.lenOf, Builtin.firstCells]
    · simp [Builtin.append_, run_underlying ht, sizeOf, typeInfo, hi, Builtin.lenOf, Builtin.firstCells, hnc, storeCells]
  · obtain ⟨v', w', hrun, h2, h3, _, h5⟩ := run_append_own_at (P := P) w base t ty e i _ 1 bytes ht hi hz0 hz1 hz2 rfl (by omega) v n (vals xs) hown ad m c (vals ys) (by simp [vals, hr.len_]) hr.get (vals_one ys)
      (by simp only [maxLen]; omega) (by
        have : (n + m) * bytes ≤ 1048576 * 16 := Nat.mul_le_mul h63 hby
        omega) hbase
    exact ⟨v', w', hrun, by rw [vals_append]; exact h2, h3, h5⟩
theorem wpList_append_vals {ops : Array Oper} {rest : List Oper} {o : Oper} {a : Act} {Q : Exit → Act → World → Prop} (hgd : o.guard = none) (s x : Operand) (t : TypeId)
    (ho : o.op = .call { callee := .builtin .append, args := #[s, x], argTypes := #[t, t] })
    (base : Nat) (e : TypeId) (bytes : Nat) (hby : bytes ≤ 16) (ht : P.underlying t = some (.slice e)) (hinfo : (P.info? e).map (fun i => (i.zero, i.size, i.bytes)) = some (some (.int .i64 0), 1, bytes))
    (v : Value) (n : Nat) (xs : List Int) (hs : a.eval s = v) (hown : w.ownsRow base e 1 v n (vals xs)) (A : Option Addr) (m c : Nat) (ys : List Int) (hx : a.eval x = .slice A m c) (hr : Vals w A m ys)
    (h63 : n + m ≤ 1048576) (hbase : base ≤ w.heap.size)
    (h : ∀ v' w', w'.ownsRow base e 1 v' (n + m) (vals (xs ++ ys)) → w.grownBy w' v.ownBlock → (v'.ownBlock = v.ownBlock ∨ v'.ownBlock = some w.heap.size) → wpList P ops Q rest (a.put o.dst v') w') : wpList P ops Q (o :: rest) a w := by
  refine wpList_plain hgd fun _ hK => ?_
  obtain ⟨v', w', hrun, h2, h3, h4⟩ := run_append_vals (P := P) base t o.type e bytes hby ht hinfo v n xs hown A m c ys hr h63 hbase
  unfold Oper.wp execOp
  simp only [ho, resolve, invoke, builtin, Sem.run_bind, Sem.run_pure, Result.andThen_ok, List.map_toArray, List.map_cons, List.map_nil, hs, hx, hrun]
  exact hK _ _ (h v' w' h2 h3 h4)
/-- An empty row that a literal made. -/
theorem own_empty (w : World) (e : TypeId) : World.ownsRow (w.alloc (.cells #[] e)) w.heap.size e 1 (.slice (some ⟨w.heap.size, 0, none⟩) 0 0) 0 (vals ([] : List Int)) :=
  ⟨rfl, .inr ⟨_, 0, #[], rfl, Nat.le_refl _, Has.new w e #[], Nat.le_refl _, by unfold maxLen; omega, rfl, rfl⟩⟩
end
end Go.Proofs.Ytnoppoimahfknaa.RI64
end
section
/- Slices of int64 that came in, as lists; rows of the call's own. -/
set_option linter.unusedSimpArgs false
set_option linter.unusedVariables false
namespace Go.Proofs.Ytnoppoimahfknaa.RI64
open Go.RowKit

theorem addr_add (x : Addr) (p i : Nat) : (x.add p).add i = x.add (p + i) := by
  unfold Addr.add
  by_cases h1 : p = 0 <;> by_cases h2 : i = 0 <;> simp [h1, h2, Nat.add_assoc]
theorem Vals.take {w : World} {a : Option Addr} {len : Nat} {ys : List Int} (h : Vals w a len ys) (p : Nat) (hp : p ≤ len) : Vals w a p (ys.take p) := by
  have hl := h.len_
  refine ⟨by rw [List.length_take]; omega, fun h0 => ?_⟩
  obtain ⟨x, hx, hc⟩ := h.cells (by omega)
  refine ⟨x, hx, fun i hi => ?_⟩
  rw [hc i (by omega)]
  simp [List.getD_eq_getElem?_getD, List.getElem?_take, hi]
theorem Vals.drop {w : World} {a : Option Addr} {len : Nat} {ys : List Int} (h : Vals w a len ys) (p : Nat) (hp : p ≤ len) : Vals w (a.map (·.add p)) (len - p) (ys.drop p) := by
  have hl := h.len_
  refine ⟨by rw [List.length_drop]; omega, fun h0 => ?_⟩
  obtain ⟨x, hx, hc⟩ := h.cells (by omega)
  refine ⟨x.add p, by rw [hx]; rfl, fun i hi => ?_⟩
  rw [show (x.add p).add i = x.add (p + i) from addr_add x p i, hc (p + i) (by omega)]
  simp [List.getD_eq_getElem?_getD, List.getElem?_drop]
theorem Vals.drewN {w : World} {a : Option Addr} {len : Nat} {ys : List Int} (h : Vals w a len ys) (k : Nat) : Vals (w.drewN k) a len ys := h.same rfl
theorem Vals.alloc {w : World} {a : Option Addr} {len : Nat} {ys : List Int} (h : Vals w a len ys) (o : Obj) : Vals (w.alloc o) a len ys := h.below ((Below.refl _ _).alloc (Nat.le_refl _) _)
theorem Vals.kept {w w' : World} {S : List Nat} {a : Option Addr} {len : Nat} {ys : List Int} (h : Vals w a len ys) (hb : Kept S w w') (h1 : 0 < len → ∀ x, a = some x → x.block ∉ S) : Vals w' a len ys :=
  ⟨h.len_, fun hl => by
    obtain ⟨x, hx, hc⟩ := h.cells hl
    have hxb := h1 hl x hx
    exact ⟨x, hx, fun i hi => (hb.cell (World.block_lt_of_cell? _ _ (hc i hi)) (by rw [block_add]; exact hxb)).trans (hc i hi)⟩⟩
theorem own_none (w : World) (base : Nat) (e : TypeId) : w.ownsRow base e 1 (.slice none 0 0) 0 (vals ([] : List Int)) := ⟨rfl, .inl ⟨rfl, rfl⟩⟩
theorem own_len {w : World} {base : Nat} {e : TypeId} {n : Nat} {v : Value} {xs : List Int} (h : w.ownsRow base e 1 v n (vals xs)) : xs.length = n := by have := h.1; simpa [vals] using this
/-- One element of an own row is set anew. -/
theorem own_set {w : World} {base : Nat} {e : TypeId} {n c : Nat} {A : Option Addr} {ys : List Int} (h : w.ownsRow base e 1 (.slice A n c) n (vals ys)) (i : Nat) (hi : i < n) :
    ∃ g, A = some ⟨g, 0, none⟩ ∧ base ≤ g ∧ g < w.heap.size ∧ w.cell? ⟨g, i, none⟩ = some (.int .i64 (ys.getD i 0)) ∧ w.frozen? ⟨g, i, none⟩ = false ∧
      ∀ y : Int, (w.setCell ⟨g, i, none⟩ (.int .i64 y)).ownsRow base e 1 (.slice A n c) n (vals (ys.set i y)) := by
  have hl : ys.length = n := own_len h
  rcases h.2 with ⟨_, h0⟩ | ⟨g, cap, cur, hv, hb, hh, h1, h2, h3, h4⟩
  · omega
  · injection hv with hv1 hv2 hv3
    subst hv1
    subst hv3
    have hH : Has w g e cur := hh
    refine ⟨g, rfl, hb, hH.lt, ?_, hH.frozen i, fun y => ⟨?_, .inr ⟨g, c, cur.setIfInBounds i (.int .i64 y), rfl, hb, hH.set_ i _, h1, h2, by simpa using h3, ?_⟩⟩⟩
    · rw [hH.cell i]
      have h5 : (cur.toList.take (n * 1))[i]? = (vals ys)[i]? := by rw [h4]
      rw [List.getElem?_take, if_pos (by omega)] at h5
      rw [← Array.getElem?_toList, h5]
      simp [vals, List.getD_eq_getElem?_getD, List.getElem?_eq_getElem (show i < ys.length by omega)]
    · simp [vals, hl]
    · rw [Array.toList_setIfInBounds, List.take_set, h4]
      simp [vals, List.map_set]
theorem row_vals {w : World} {a : Option Addr} {len cap : Nat} {zs : List Int} (h : IsRow .i64 w a len cap zs) (m : Nat) (hm : m ≤ len) :
    Vals w a m (zs.take m) ∧ len ≤ cap ∧ cap ≤ 9223372036854775807 ∧ ∀ x, 0 < m → a = some x → x.block < w.heap.size := by
  rcases h with ⟨rfl, rfl, rfl, rfl⟩ | ⟨x, rfl, h1, h2, h3, h4, h5⟩
  · obtain rfl : m = 0 := by omega
    exact ⟨⟨rfl, fun h => absurd h (by omega)⟩, by omega, by omega, fun x h => absurd h (by omega)⟩
  · unfold maxLen at h2
    refine ⟨⟨by rw [List.length_take]; omega, fun _ => ⟨x, rfl, fun i hi => ?_⟩⟩, h1, by omega, fun x h hx => ?_⟩
    · rw [h4 i (by omega)]
      simp [List.getD_eq_getElem?_getD, List.getElem?_take, hi]
    · injection hx with hx
      subst hx
      have := World.block_lt_of_cell? _ _ (h4 0 (by omega))
      rwa [block_add] at this
end Go.Proofs.Ytnoppoimahfknaa.RI64
end
section
/- Two more moves of a walk through a drawn region: two operations may come up; an append to a row of 64-bit values. -/
set_option linter.unusedVariables false
namespace Go.Proofs.Ytnoppoimahfknaa.Reg
open Go.RowKit
/-- Two operations may come up: each is walked. -/
theorem both {P : Program} {md : Region.Mode} {l : List Oper} {Q : Exit → Act → World → Prop} {S : World → Prop} {i j : Nat} {oi oj : Oper} {fuel : Nat} {listed : Array Bool} {a : Act} {w : World} (hi : l[i]? = some oi) (hj : l[j]? = some oj) (hr : Region.ready md l.toArray listed = [i, j]) (hwi : Region.wanted oi (yielded l.toArray a.tmps) = true) (hwj : Region.wanted oj (yielded l.toArray a.tmps) = true)
    (h : ∀ K : Act → World → Prop, Shut (∀ a w, S w → (S w → wpAnyH P md l.toArray Q S fuel (listed.setIfInBounds i true) a w) → K a w) → Oper.wp P oi a w K Q)
    (h' : ∀ K : Act → World → Prop, Shut (∀ a w, S w → (S w → wpAnyH P md l.toArray Q S fuel (listed.setIfInBounds j true) a w) → K a w) → Oper.wp P oj a w K Q) : wpAnyH P md l.toArray Q S (fuel + 1) listed a w :=
  wpAnyH_ready hr (by simp) (AllReadyH.cons (o := oi) (by rw [List.getElem?_toArray]; exact hi) (fun K hK => by rw [if_pos hwi]; exact h K hK) (AllReadyH.cons (o := oj) (by rw [List.getElem?_toArray]; exact hj) (fun K hK => by rw [if_pos hwj]; exact h' K hK) AllReadyH.nil))
end Go.Proofs.Ytnoppoimahfknaa.Reg
namespace Go.Proofs.Ytnoppoimahfknaa.RI64
open Go.RowKit
/-- An append, as one operation, wherever it stands. -/
theorem wp_append_one {P : Program} {w : World} {o : Oper} {a : Act} {K : Act → World → Prop} {Q : Exit → Act → World → Prop} (s x : Operand) (t : TypeId)
    (ho : o.op = .call { callee := .builtin .append, args := #[s, x], argTypes := #[t, t] })
    (base : Nat) (e : TypeId) (bytes : Nat) (hby : bytes ≤ 16) (ht : P.underlying t = some (.slice e)) (hinfo : (P.info? e).map (fun i => (i.zero, i.size, i.bytes)) = some (some (.int .i64 0), 1, bytes))
    (v : Value) (n : Nat) (xs : List Int) (hs : a.eval s = v) (hown : w.ownsRow base e 1 v n (vals xs)) (A : Option Addr) (m c : Nat) (ys : List Int) (hx : a.eval x = .slice A m c) (hr : Vals w A m ys)
    (h63 : n + m ≤ 1048576) (hbase : base ≤ w.heap.size)
    (h : ∀ v' w', w'.ownsRow base e 1 v' (n + m) (vals (xs ++ ys)) → w.grownBy w' v.ownBlock → (v'.ownBlock = v.ownBlock ∨ v'.ownBlock = some w.heap.size) → K (a.put o.dst v') w') : Oper.wp P o a w K Q := by
  obtain ⟨v', w', hrun, h2, h3, h4⟩ := run_append_vals (P := P) base t o.type e bytes hby ht hinfo v n xs hown A m c ys hr h63 hbase
  unfold Oper.wp execOp
  simp only [ho, resolve, invoke, builtin, Sem.run_bind, Sem.run_pure, Result.andThen_ok, List.map_toArray, List.map_cons, List.map_nil, hs, hx, hrun]
  exact h v' w' h2 h3 h4
end Go.Proofs.Ytnoppoimahfknaa.RI64
end
section
/- What a pace's calls answer and do: the laws and the layers above need these statements alone. -/
set_option linter.unusedVariables false
namespace Go.Proofs.Ytnoppoimahfknaa.Pace
open Go.RowKit RI64
/-- Pac w b S h: the pace in block b lies in the blocks S and has had the distances h (the last one first). -/
structure PaceKit (Pac : World → Nat → List Nat → List Int → Prop) : Prop where
  lt : ∀ {w b S h}, Pac w b S h → b ∈ S ∧ ∀ k ∈ S, k < w.heap.size
  kept : ∀ {w w' b S h T}, Pac w b S h → Kept T w w' → (∀ k ∈ S, k ∉ T) → Pac w' b S h
  new_any : ∀ w : World, Calls Try.prog 41 #[] w fun e w' => ∃ b S, e = .returned (.pointer (some ⟨b, 0, none⟩)) ∧ Pac w' b S [] ∧ (∀ k ∈ S, w.heap.size ≤ k) ∧ Below w.heap.size w w'
  add_any : ∀ (w : World) (b : Nat) (S : List Nat) (h : List Int) (A : Option Addr) (n c : Nat) (ys : List Int), Pac w b S h → Vals w A n ys → n ≤ 100000 → (∀ x, 0 < n → A = some x → x.block ∉ S) →
    Calls Try.prog 81 #[.pointer (some ⟨b, 0, none⟩), .slice A n c] w fun e w' => e = .returned (.tuple #[]) ∧ Pac w' b S (ys.reverse ++ h) ∧ Kept S w w'
  mean_any : ∀ (w : World) (b : Nat) (S : List Nat) (h : List Int), Pac w b S h → Calls Try.prog 49 #[.pointer (some ⟨b, 0, none⟩)] w fun e w' => e = .returned (.int .i64 (meanT h)) ∧ Below w.heap.size w w'
  many_any : ∀ (w : World) (b : Nat) (S : List Nat) (h : List Int), Pac w b S h → Calls Try.prog 71 #[.pointer (some ⟨b, 0, none⟩)] w fun e w' => e = .returned (.int .i64 (many h : Nat)) ∧ Below w.heap.size w w'
  late_any : ∀ (w : World) (b : Nat) (S : List Nat) (h : List Int) (s : Int), Pac w b S h → Calls Try.prog 68 #[.pointer (some ⟨b, 0, none⟩), .int .i64 s] w fun e w' => e = .returned (.bool (lateT h s)) ∧ Below w.heap.size w w'
  no_add : ∀ (w : World) (A : Option Addr) (n c : Nat), Calls Try.prog 81 #[.pointer none, .slice A n c] w fun e w' => e = .returned (.tuple #[]) ∧ Below w.heap.size w w'
  no_mean : ∀ w : World, Calls Try.prog 49 #[.pointer none] w fun e w' => e = .returned (.int .i64 0) ∧ Below w.heap.size w w'
  no_many : ∀ w : World, Calls Try.prog 71 #[.pointer none] w fun e w' => e = .returned (.int .i64 0) ∧ Below w.heap.size w w'
  no_late : ∀ (w : World) (s : Int), Calls Try.prog 68 #[.pointer none, .int .i64 s] w fun e w' => e = .returned (.bool false) ∧ Below w.heap.size w w'
section
variable {Pac : World → Nat → List Nat → List Int → Prop} (K : PaceKit Pac) {w w' : World} {b : Nat} {S : List Nat} {h : List Int}
include K
theorem PaceKit.below (hP : Pac w b S h) (hB : Below w.heap.size w w') : Pac w' b S h := K.kept hP (Kept.of_below (S := []) hB) (fun _ _ h => by cases h)
theorem PaceKit.alloc (hP : Pac w b S h) (o : Obj) : Pac (w.alloc o) b S h := K.below hP ((Below.refl _ w).alloc (Nat.le_refl _) o)
end
end Go.Proofs.Ytnoppoimahfknaa.Pace
end
section
/- What the landed Steepest answers, and the reference's. -/
set_option linter.unusedSimpArgs false
set_option linter.unusedVariables false
namespace Go.Proofs.Ytnoppoimahfknaa.Slope
open Go.RowKit RI64
theorem distance_any (d : Int) (w : World) (hd : fits64 d) :
    Calls Try.prog 85 #[.int .i64 d] w fun e w' => e = .returned (.int .i64 (distT d)) ∧ w = w' := by
  unfold fits64 at hd
  unfold distT
  by_cases h0 : d = -9223372036854775808
  · subst h0
    go_enter Try.func85, Try.ntmps85
    go_wp2
    go_ret
    exact ⟨rfl, rfl⟩
  · rw [if_neg h0]
    by_cases h1 : d < 0
    · rw [if_pos h1]
      go_enter Try.func85, Try.ntmps85
      go_wp2
      go_ret
      exact ⟨rfl, rfl⟩
    · rw [if_neg h1]
      go_enter Try.func85, Try.ntmps85
      go_wp2
      go_ret
      exact ⟨rfl, rfl⟩
set_option maxHeartbeats 1000000 in
theorem steepest_any (A : Option Addr) (n c : Nat) (ys : List Int) (w : World) (hv : Vals w A n ys) (hn : n ≤ 100000) (hf : ∀ d ∈ ys, fits64 d) :
    Calls Try.prog 75 #[.slice A n c] w fun e w' => e = .returned (.int .i64 (steepT ys)) ∧ w = w' := by
  have hlen := hv.len_
  go_enter Try.func75, Try.ntmps75
  go_wp2
  go_loop [3, 8] (fun s i => ∃ j : Nat, j ≤ n ∧ i = .int .i64 (j : Nat) ∧ s = .int .i64 (steepT (ys.take j))) (fun _ i => n - (intOf i).toNat)
  case atStart => exact ⟨0, by omega, rfl, rfl⟩
  case round =>
    obtain ⟨j, hj, rfl, rfl⟩ := hrel
    by_cases hjn : j < n
    · obtain ⟨x, rfl, hcx⟩ := hv.cells (by omega)
      have hcell := hcx j hjn
      have hfd : fits64 (ys.getD j 0) := hf _ (by rw [List.getD_eq_getElem?_getD, List.getElem?_eq_getElem (by omega)]; simp)
      have hdi := fun W => distance_any (ys.getD j 0) W hfd
      have HST := Lib.hid (steep_step ys j (by omega))
      generalize distT (ys.getD j 0) = t at *
      generalize ys.getD j 0 = d at *
      generalize steepT (ys.take j) = s at *
      clear hcx hv hf hlen hfd
      go_wp2_with (go_at_call 85; ((with_reducible refine (hdi _).mono ?_); rintro e w1 ⟨rfl, rfl⟩))
      go_round
      case rel => exact ⟨j + 1, by omega, by go_num, by rw [HST.out]⟩
      case measure => simp [intOf]; omega
    · obtain rfl : j = n := by omega
      rw [List.take_of_length_le (by omega)]
      clear hv hf
      go_wp2
      go_ret
      exact ⟨rfl, rfl⟩
end Go.Proofs.Ytnoppoimahfknaa.Slope
end
section
/- What fixq's calls on single numbers answer, and the references' (clamps, floors, differences, signs, magnitudes). -/
set_option linter.unusedSimpArgs false
set_option linter.unusedVariables false
namespace Go.Proofs.Ytnoppoimahfknaa
open Go.RowKit

theorem clamp_any (n lo hi : Int) (w : World) :
    Calls Try.prog 43 #[.int .i64 n, .int .i64 lo, .int .i64 hi] w fun e w' => e = .returned (.int .i64 (clampZ n lo hi)) ∧ w = w' := by
  unfold clampZ
  by_cases h1 : n < lo <;> by_cases h2 : hi < lo <;> by_cases h3 : hi < n
  all_goals
    go_enter Try.func43, Try.ntmps43
    go_wp2
    go_ret
    exact ⟨by simp [*], rfl⟩


theorem shift_any (n k : Int) (w : World) (hk : 0 ≤ k) :
    Calls Try.prog 82 #[.int .i64 n, .int .i64 k] w fun e w' => e = .returned (.int .i64 (n / 2 ^ min k.toNat 64)) ∧ w = w' := by
  go_enter Try.func82, Try.ntmps82
  go_wp2
  go_ret
  exact ⟨by simp [*], rfl⟩
theorem shift_neg (n k : Int) (w : World) (hk : k < 0) :
    Calls Try.prog 82 #[.int .i64 n, .int .i64 k] w fun e w' => e = .returned (.int .i64 n) ∧ w = w' := by
  go_enter Try.func82, Try.ntmps82
  go_wp2
  go_ret
  exact ⟨by simp [*], rfl⟩

end Go.Proofs.Ytnoppoimahfknaa
end
section
/- A ring of int64: what its memory holds, and what the calls that only look at it answer. -/
set_option linter.unusedSimpArgs false
set_option linter.unusedVariables false
namespace Go.Proofs.Ytnoppoimahfknaa.RI64
open Go.RowKit

/-- Block b is a ring's struct, block g its n slots (and what may lie behind them), cs: the first thing at slot f, and c things there. -/
structure Core (w : World) (b g n q f c : Nat) (cs : List Int) : Prop where
  head : Has w b 146 #[.slice (some ⟨g, 0, none⟩) n q, .int .i64 f, .int .i64 c]
  slots : ∃ tl : List Value, Has w g 2 ((cs.map fun (v : Int) => Value.int .i64 v) ++ tl).toArray
  size : cs.length = n
  first : f < n
  room : c ≤ n
  pow : ∃ k, k ≤ 16 ∧ n = 2 ^ k
  cap : n ≤ q ∧ q ≤ 9223372036854775807
/-- .. and the things are xs. -/
structure Ring (w : World) (b g n q f : Nat) (cs xs : List Int) : Prop where
  core : Core w b g n q f xs.length cs
  at_ : ∀ i, i < xs.length → cs.getD ((f + i) % n) 0 = xs.getD i 0

section
variable {w w' : World} {b g n q f c : Nat} {cs xs : List Int}
theorem Core.le (h : Core w b g n q f c cs) : n ≤ 65536 := by
  obtain ⟨k, hk, rfl⟩ := h.pow
  exact Nat.pow_le_pow_right (by omega) hk
theorem Core.ne_ (h : Core w b g n q f c cs) : b ≠ g := by
  rintro rfl
  have h1 := h.head
  obtain ⟨tl, h2⟩ := h.slots
  unfold Has at h1 h2
  rw [h1] at h2
  injection h2 with h2
  injection h2 with _ h3
  exact absurd h3 (by decide)
theorem Core.same (h : Core w b g n q f c cs) (e : w'.heap = w.heap) : Core w' b g n q f c cs := by
  obtain ⟨h1, ⟨tl, h2⟩, s1, s2, s3, s4, s5⟩ := h
  exact ⟨by unfold Has at *; rw [e]; exact h1, ⟨tl, by unfold Has at *; rw [e]; exact h2⟩, s1, s2, s3, s4, s5⟩
theorem Core.below {B : Nat} (h : Core w b g n q f c cs) (hb : Below B w w') (h1 : b < B) (h2 : g < B) : Core w' b g n q f c cs := by
  obtain ⟨h3, ⟨tl, h4⟩, s1, s2, s3, s4, s5⟩ := h
  exact ⟨h3.below hb h1, ⟨tl, h4.below hb h2⟩, s1, s2, s3, s4, s5⟩
theorem Core.far (h : Core w b g n q f c cs) {p : Addr} (h1 : b ≠ p.block) (h2 : g ≠ p.block) (u : Value) : Core (w.setCell p u) b g n q f c cs := by
  obtain ⟨h3, ⟨tl, h4⟩, s1, s2, s3, s4, s5⟩ := h
  exact ⟨h3.far h1 u, ⟨tl, h4.far h2 u⟩, s1, s2, s3, s4, s5⟩
theorem Core.alloc (h : Core w b g n q f c cs) (o : Obj) : Core (w.alloc o) b g n q f c cs := by
  obtain ⟨h3, ⟨tl, h4⟩, s1, s2, s3, s4, s5⟩ := h
  exact ⟨h3.alloc o, ⟨tl, h4.alloc o⟩, s1, s2, s3, s4, s5⟩
theorem Core.turned {b' g' : Nat} (h : Core w b g n q f c cs) (ht : Turned b' g' w w') (h1 : b ≠ b') (h2 : b ≠ g') (h3 : g ≠ b') (h4 : g ≠ g') : Core w' b g n q f c cs := by
  obtain ⟨e3, ⟨tl, e4⟩, s1, s2, s3, s4, s5⟩ := h
  exact ⟨ht.has e3 h1 h2, ⟨tl, ht.has e4 h3 h4⟩, s1, s2, s3, s4, s5⟩
theorem Core.grown {row : Option Nat} (h : Core w b g n q f c cs) (hg : w.grownBy w' row) (h1 : some b ≠ row) (h2 : some g ≠ row) : Core w' b g n q f c cs := by
  obtain ⟨e3, ⟨tl, e4⟩, s1, s2, s3, s4, s5⟩ := h
  exact ⟨(hg.block b e3.lt h1).trans e3, ⟨tl, (hg.block g e4.lt h2).trans e4⟩, s1, s2, s3, s4, s5⟩
theorem Core.lt_ (h : Core w b g n q f c cs) : b < w.heap.size ∧ g < w.heap.size := by
  obtain ⟨tl, h4⟩ := h.slots
  exact ⟨h.head.lt, h4.lt⟩
theorem Core.cells (h : Core w b g n q f c cs) : w.cell? ⟨b, 0, none⟩ = some (.slice (some ⟨g, 0, none⟩) n q) ∧ w.cell? ⟨b, 1, none⟩ = some (.int .i64 f) ∧ w.cell? ⟨b, 2, none⟩ = some (.int .i64 c) := ⟨h.head.cell 0, h.head.cell 1, h.head.cell 2⟩
theorem Core.froz (h : Core w b g n q f c cs) : w.frozen? ⟨b, 1, none⟩ = false ∧ w.frozen? ⟨b, 2, none⟩ = false := ⟨h.head.frozen 1, h.head.frozen 2⟩
theorem Core.slotz (h : Core w b g n q f c cs) (j : Nat) : w.frozen? ⟨g, j, none⟩ = false := by
  obtain ⟨tl, h4⟩ := h.slots
  exact h4.frozen j
theorem Core.slot_ (h : Core w b g n q f c cs) (j : Nat) (hj : j < n) : w.cell? ⟨g, j, none⟩ = some (.int .i64 (cs.getD j 0)) := by
  obtain ⟨tl, h4⟩ := h.slots
  rw [h4.cell j]
  have := h.size
  rw [List.getElem?_toArray, List.getElem?_append_left (by simp; omega)]
  simp [List.getD_eq_getElem?_getD, List.getElem?_eq_getElem (show j < cs.length by omega)]
theorem Core.put (h : Core w b g n q f c cs) (j : Nat) (hj : j < n) (v : Int) : Core (w.setCell ⟨g, j, none⟩ (.int .i64 v)) b g n q f c (cs.set j v) := by
  obtain ⟨tl, h4⟩ := h.slots
  have hs := h.size
  refine ⟨h.head.far h.ne_ _, ⟨tl, ?_⟩, by rw [List.length_set]; exact h.size, h.first, h.room, h.pow, h.cap⟩
  have := h4.set_ j (.int .i64 v)
  rwa [List.setIfInBounds_toArray, List.set_append_left _ _ (by simp; omega), ← List.map_set] at this
theorem Core.first_ (h : Core w b g n q f c cs) (f' : Nat) (hf : f' < n) : Core (w.setCell ⟨b, 1, none⟩ (.int .i64 f')) b g n q f' c cs := by
  obtain ⟨tl, h4⟩ := h.slots
  refine ⟨?_, ⟨tl, h4.far (p := ⟨b, 1, none⟩) (fun e => h.ne_ e.symm) _⟩, h.size, hf, h.room, h.pow, h.cap⟩
  simpa using h.head.set_ 1 (.int .i64 f')
theorem Core.count_ (h : Core w b g n q f c cs) (c' : Nat) (hc : c' ≤ n) : Core (w.setCell ⟨b, 2, none⟩ (.int .i64 c')) b g n q f c' cs := by
  obtain ⟨tl, h4⟩ := h.slots
  refine ⟨?_, ⟨tl, h4.far (p := ⟨b, 2, none⟩) (fun e => h.ne_ e.symm) _⟩, h.size, h.first, hc, h.pow, h.cap⟩
  simpa using h.head.set_ 2 (.int .i64 c')
theorem Ring.turned {b' g' : Nat} (h : Ring w b g n q f cs xs) (ht : Turned b' g' w w') (h1 : b ≠ b') (h2 : b ≠ g') (h3 : g ≠ b') (h4 : g ≠ g') : Ring w' b g n q f cs xs := ⟨h.core.turned ht h1 h2 h3 h4, h.at_⟩
theorem Ring.grown {row : Option Nat} (h : Ring w b g n q f cs xs) (hg : w.grownBy w' row) (h1 : some b ≠ row) (h2 : some g ≠ row) : Ring w' b g n q f cs xs := ⟨h.core.grown hg h1 h2, h.at_⟩
theorem Ring.alloc (h : Ring w b g n q f cs xs) (o : Obj) : Ring (w.alloc o) b g n q f cs xs := ⟨h.core.alloc o, h.at_⟩
theorem Ring.same (h : Ring w b g n q f cs xs) (e : w'.heap = w.heap) : Ring w' b g n q f cs xs := ⟨h.core.same e, h.at_⟩
theorem Ring.below {B : Nat} (h : Ring w b g n q f cs xs) (hb : Below B w w') (h1 : b < B) (h2 : g < B) : Ring w' b g n q f cs xs := ⟨h.core.below hb h1 h2, h.at_⟩
theorem Ring.here (h : Ring w b g n q f cs xs) (i : Nat) (hi : i < xs.length) : w.cell? ⟨g, (f + i) % n, none⟩ = some (.int .i64 (xs.getD i 0)) := by
  rw [h.core.slot_ _ (Nat.mod_lt _ (by have := h.core.first; omega)), h.at_ i hi]
end

/-- The ring has these things now; it, and its slots, have turned, and no other block that was there. -/
def Became (w : World) (b g n q f : Nat) (zs : List Int) (w' : World) : Prop := ∃ cs', Ring w' b g n q f cs' zs ∧ Turned b g w w'

theorem len_any (b c : Nat) (w : World) (h2 : w.cell? ⟨b, 2, none⟩ = some (.int .i64 c)) :
    Calls Try.prog 92 #[.pointer (some ⟨b, 0, none⟩)] w fun e w' => e = .returned (.int .i64 c) ∧ w = w' := by
  go_enter Try.func92, Try.ntmps92
  go_wp2
  go_ret
  simp

theorem len_q (b g n q f : Nat) (cs xs : List Int) (c : Nat) (w : World) (h : Ring w b g n q f cs xs) (hc : xs.length = c) :
    Calls Try.prog 92 #[.pointer (some ⟨b, 0, none⟩)] w fun e w' => e = .returned (.int .i64 (c : Int)) ∧ ∃ k, w' = w.drewN k := by
  subst hc
  exact (len_any b _ w h.core.cells.2.2).mono fun e w' ⟨he, hw⟩ => ⟨he, 0, hw.symm⟩

theorem room_any (b g n q f : Nat) (cs xs : List Int) (w : World) (h : Ring w b g n q f cs xs) :
    Calls Try.prog 97 #[.pointer (some ⟨b, 0, none⟩)] w fun e w' => e = .returned (.int .i64 ((n : Int) - (xs.length : Int))) ∧ ∃ k, w' = w.drewN k := by
  obtain ⟨c0, c1, c2⟩ := h.core.cells
  have hn := h.core.le
  have hq := h.core.cap
  have hr := h.core.room
  clear h
  generalize xs.length = c at *
  go_enter Try.func97, Try.ntmps97
  go_wp2
  go_quiet (fail)
  go_wp2
  go_ret
  exact ⟨rfl, _, rfl⟩

theorem room_nat (b g n q f : Nat) (cs xs : List Int) (r : Nat) (w : World) (h : Ring w b g n q f cs xs) (hr : n - xs.length = r) :
    Calls Try.prog 97 #[.pointer (some ⟨b, 0, none⟩)] w fun e w' => e = .returned (.int .i64 (r : Int)) ∧ ∃ k, w' = w.drewN k :=
  (room_any b g n q f cs xs w h).mono fun e w' ⟨he, hw⟩ => ⟨by rw [he, show ((n : Int) - (xs.length : Int)) = (r : Int) by have := h.core.room; omega], hw⟩

theorem slot_any (b g n q f : Nat) (c : Nat) (cs : List Int) (i : Nat) (w : World) (h : Core w b g n q f c cs) (hi : i ≤ 1000000) :
    Calls Try.prog 98 #[.pointer (some ⟨b, 0, none⟩), .int .i64 i] w fun e w' => e = .returned (.int .i64 (((f + i) % n : Nat) : Int)) ∧ ∃ k, w' = w.drewN k := by
  obtain ⟨c0, c1, c2⟩ := h.cells
  have hn := h.le
  have hf := h.first
  have hq := h.cap
  obtain ⟨k, hk, hp⟩ := h.pow
  have hm := Lib.hid (mask_int (f + i) k n (by omega) hp (by omega))
  clear h hp
  go_enter Try.func98, Try.ntmps98
  go_wp2
  go_quiet (fail)
  go_wp2
  go_ret
  have h9 := hm.out
  rw [Int.natCast_add] at h9
  exact ⟨(show Ending.returned (Value.int .i64 (bits BinOp.and .i64 ((f : Int) + (i : Int)) ((n : Int) - 1))) = _ by rw [h9]), _, rfl⟩

theorem at_yes (b g n q f : Nat) (cs xs : List Int) (i : Nat) (w : World) (h : Ring w b g n q f cs xs) (hi : i < xs.length) :
    Calls Try.prog 95 #[.pointer (some ⟨b, 0, none⟩), .int .i64 i] w fun e w' => e = .returned (.tuple #[.int .i64 (xs.getD i 0), .bool true]) ∧ ∃ k, w' = w.drewN k := by
  obtain ⟨c0, c1, c2⟩ := h.core.cells
  have hn := h.core.le
  have hq := h.core.cap
  have hr := h.core.room
  have hh := h.here i hi
  have hm : (f + i) % n < n := Nat.mod_lt _ (by omega)
  have hs := fun W (hW : Core W b g n q f xs.length cs) => slot_any b g n q f _ cs i W hW (by omega)
  have hC := h.core
  generalize (f + i) % n = m at *
  generalize xs.getD i 0 = v at *
  generalize xs.length = c at *
  go_enter Try.func95, Try.ntmps95
  go_wp2_with (go_at_call 92; refine (len_any b _ _ c2).mono ?_; rintro e w' ⟨rfl, rfl⟩)
  go_quiet ((go_at_call 98; exact Calls.quiet_of (hs _ (hC.same rfl))))
  go_wp2
  go_ret2
  exact ⟨rfl, _, rfl⟩

theorem at_no (b c : Nat) (i : Int) (w : World) (hi : i < 0 ∨ (c : Int) ≤ i) (h2 : w.cell? ⟨b, 2, none⟩ = some (.int .i64 c)) :
    Calls Try.prog 95 #[.pointer (some ⟨b, 0, none⟩), .int .i64 i] w fun e w' => e = .returned (.tuple #[.int .i64 0, .bool false]) ∧ w = w' := by
  rcases hi with hi | hi
  · go_enter Try.func95, Try.ntmps95
    go_wp2_with (go_at_call 92; refine (len_any b _ _ h2).mono ?_; rintro e w' ⟨rfl, rfl⟩)
    go_ret2
    exact ⟨rfl, rfl⟩
  · by_cases h0 : i < 0
    all_goals
      go_enter Try.func95, Try.ntmps95
      go_wp2_with (go_at_call 92; refine (len_any b _ _ h2).mono ?_; rintro e w' ⟨rfl, rfl⟩)
      go_ret2
      exact ⟨rfl, rfl⟩

theorem back_yes (b g n q f : Nat) (cs xs : List Int) (i : Nat) (w : World) (h : Ring w b g n q f cs xs) (hi : i < xs.length) :
    Calls Try.prog 91 #[.pointer (some ⟨b, 0, none⟩), .int .i64 i] w fun e w' => e = .returned (.tuple #[.int .i64 (xs.getD (xs.length - 1 - i) 0), .bool true]) ∧ ∃ k, w' = w.drewN k := by
  obtain ⟨c0, c1, c2⟩ := h.core.cells
  have hn := h.core.le
  have hq := h.core.cap
  have hr := h.core.room
  have hs := at_yes b g n q f cs xs (xs.length - 1 - i) w h (by omega)
  rw [show ((xs.length - 1 - i : Nat) : Int) = (xs.length : Int) - 1 - (i : Int) by omega] at hs
  generalize xs.getD (xs.length - 1 - i) 0 = v at *
  clear h
  generalize xs.length = c at *
  go_enter Try.func91, Try.ntmps91
  go_wp2_with (first
    | (go_at_call 92; refine (len_any b _ _ c2).mono ?_; rintro e w' ⟨rfl, rfl⟩)
    | (go_at_call 95; refine hs.mono ?_; rintro e w' ⟨rfl, k, rfl⟩))
  go_ret2
  exact ⟨rfl, _, rfl⟩

theorem back_no (b c : Nat) (i : Int) (w : World) (hi : i < 0 ∨ (c : Int) ≤ i) (hb : i ≤ 9223372036854775807) (hc : c ≤ 65536) (h2 : w.cell? ⟨b, 2, none⟩ = some (.int .i64 c)) :
    Calls Try.prog 91 #[.pointer (some ⟨b, 0, none⟩), .int .i64 i] w fun e w' => e = .returned (.tuple #[.int .i64 0, .bool false]) ∧ w = w' := by
  by_cases h0 : i < 0
  · clear hi
    go_enter Try.func91, Try.ntmps91
    go_wp2_with (go_at_call 95; refine (at_no b _ _ _ (.inl h0) h2).mono ?_; rintro e w' ⟨rfl, rfl⟩)
    go_ret2
    exact ⟨rfl, rfl⟩
  · have hi' : (c : Int) ≤ i := by omega
    clear hi
    go_enter Try.func91, Try.ntmps91
    go_wp2_with (first
      | (go_at_call 92; refine (len_any b _ _ h2).mono ?_; rintro e w' ⟨rfl, rfl⟩)
      | (go_at_call 95; refine (at_no b c _ _ (.inl (by omega)) h2).mono ?_; rintro e w' ⟨rfl, rfl⟩))
    go_ret2
    exact ⟨rfl, rfl⟩
end Go.Proofs.Ytnoppoimahfknaa.RI64
end
section
/- Slices of structs of whole numbers, booleans and strings that came in (structs within structs, too), and slices of those: as rows. Of no program. -/
set_option linter.unusedSimpArgs false
set_option linter.unusedVariables false
namespace Go.Proofs.Ytnoppoimahfknaa.Row
open Go.ChangeShapes Go.WideShapes Go.Deep Go.RowKit
/-- What a cell holds. -/
inductive Kind where
  | int (k : IntKind)
  | bool
  | str
def Kind.ok : Kind → Value → Prop
  | .int k, v => ∃ n, v = .int k n ∧ (Lit.int k n).wf = true
  | .bool, v => ∃ b, v = .bool b
  | .str, v => ∃ s : ByteArray, v = .string s ∧ s.size ≤ maxLen
mutual
/-- What the cells of a type hold, one after the other. -/
def kindsOf (P : Program) : Nat → TypeId → Option (List Kind)
  | 0, _ => none
  | n + 1, t => match P.underlying t with
    | some (.int k) => some [.int k]
    | some .bool => some [.bool]
    | some .string => some [.str]
    | some (.struct fs) => match fieldKinds P n fs.toList 0 with
      | some ks => if P.cellsOf t = ks.length then some ks else none
      | none => none
    | _ => none
def fieldKinds (P : Program) : Nat → List Field → Nat → Option (List Kind)
  | 0, _, _ => none
  | _ + 1, [], _ => some []
  | n + 1, f :: fs, o => match kindsOf P n f.type with
    | some ks => if f.offset = o ∧ P.cellsOf f.type = ks.length then (match fieldKinds P n fs (o + ks.length) with | some r => some (ks ++ r) | none => none) else none
    | none => none
end
section
variable {H : Type} {enc : TypeId × Value → H} {P : Program} {w : World} {base : Nat} {spare : Nat → Bool} {held : Bool}
/-- These cells hold that. -/
def Oks (ks : List Kind) (cs : List Value) : Prop := cs.length = ks.length ∧ ∀ (i : Nat) (k : Kind), ks[i]? = some k → ∃ v, cs[i]? = some v ∧ k.ok v
theorem oks_one {k : Kind} {v : Value} (h : k.ok v) : Oks [k] [v] := ⟨rfl, fun i k' hk => by
  cases i with
  | zero => simp at hk; subst hk; exact ⟨v, rfl, h⟩
  | succ i => simp at hk⟩
theorem oks_all : ∀ (m : Nat),
    (∀ (t : TypeId) (ks : List Kind) (fuel : Nat) (cs : List Value) (x : DataW H × List MemPlace), kindsOf P m t = some ks → DataW.trod enc P w base spare held fuel t cs = some x → Oks ks cs) ∧
    (∀ (fs : List Field) (o : Nat) (ks : List Kind) (fuel : Nat) (cs : List Value), fieldKinds P m fs o = some ks → cs.length = o + ks.length →
      (∀ (f : Field), f ∈ fs → ∃ x, DataW.trod enc P w base spare held fuel f.type ((cs.drop f.offset).take (P.cellsOf f.type)) = some x) → Oks ks (cs.drop o))
  | 0 => ⟨fun t ks fuel cs x h => by simp [kindsOf] at h, fun fs o ks fuel cs h => by simp [fieldKinds] at h⟩
  | m + 1 => by
    obtain ⟨ih1, ih2⟩ := oks_all m
    refine ⟨fun t ks fuel cs x hk h => ?_, fun fs o ks fuel cs hk hl h => ?_⟩
    · unfold kindsOf at hk
      split at hk
      · rename_i k hu
        obtain ⟨n, rfl, _, hw⟩ := DataW.trod_int hu h
        injection hk with hk
        subst hk
        exact oks_one ⟨n, rfl, hw⟩
      · rename_i hu
        obtain ⟨b, rfl, _⟩ := DataW.trod_bool hu h
        injection hk with hk
        subst hk
        exact oks_one ⟨b, rfl⟩
      · rename_i hu
        obtain ⟨s, rfl, _, hs⟩ := DataW.trod_string hu h
        injection hk with hk
        subst hk
        exact oks_one ⟨s, rfl, hs⟩
      · rename_i fs hu
        split at hk
        · rename_i ks' hks
          split at hk
          · rename_i hc
            injection hk with hk
            subst hk
            obtain ⟨xs, n, rfl, _, hlen, hxl, hf⟩ := DataW.trod_struct hu h
            have := ih2 fs.toList 0 ks' n cs hks (by omega) (fun f hm => by
              obtain ⟨i, hi, rfl⟩ := List.getElem_of_mem hm
              have hi' : i < fs.size := by simpa using hi
              have h9 := hf i fs[i] (by rw [Array.getElem?_eq_getElem hi'])
              rw [List.getElem?_eq_getElem (by omega)] at h9
              exact ⟨_, by simpa using h9⟩)
            rwa [List.drop_zero] at this
          · cases hk
        · cases hk
      · cases hk
    · cases fs with
      | nil =>
        simp [fieldKinds] at hk
        subst hk
        refine ⟨by simp; simp at hl; omega, fun i k hi => by simp at hi⟩
      | cons f fs =>
        unfold fieldKinds at hk
        split at hk
        · rename_i k1 hk1
          split at hk
          · rename_i hc
            obtain ⟨ho, hce⟩ := hc
            split at hk
            · rename_i r hr
              injection hk with hk
              subst hk
              obtain ⟨x, hx⟩ := h f (by simp)
              have h1 := ih1 f.type k1 fuel _ x hk1 hx
              have h2 := ih2 fs (o + k1.length) r fuel cs hr (by rw [List.length_append] at hl; omega) (fun g hg => h g (by simp [hg]))
              rw [ho, hce] at h1
              refine ⟨by rw [List.length_drop, List.length_append]; rw [List.length_append] at hl; omega, fun i k hi => ?_⟩
              rcases Nat.lt_or_ge i k1.length with h3 | h3
              · rw [List.getElem?_append_left h3] at hi
                obtain ⟨v, hv, hok⟩ := h1.2 i k hi
                rw [List.getElem?_take, if_pos h3] at hv
                exact ⟨v, hv, hok⟩
              · rw [List.getElem?_append_right h3] at hi
                obtain ⟨v, hv, hok⟩ := h2.2 _ k hi
                rw [List.getElem?_drop] at hv ⊢
                rw [show o + i = o + k1.length + (i - k1.length) by omega]
                exact ⟨v, hv, hok⟩
            · cases hk
          · cases hk
        · cases hk
/-- A slice of structs that came in: as a row of things of which each lies as the shape says. -/
structure IsFlat {α : Type} (S : Shape α) (Q : α → Prop) (w : World) (a : Option Addr) (len cap : Nat) (ys : List α) : Prop where
  row : Vals S w a len ys
  each : ∀ z ∈ ys, Q z
  le : len ≤ cap
  max : cap ≤ 9223372036854775807
  far : 0 < len → ∀ x, a = some x → x.block < w.heap.size
theorem flat_of {α : Type} (S : Shape α) (Q : α → Prop) {t e : TypeId} {ks : List Kind} {fuel : Nat} {a : Option Addr} {len cap : Nat} {x : DataW H × List MemPlace} (ht : P.underlying t = some (.slice e)) (hk : kindsOf P 20 e = some ks) (hc : P.cellsOf e = ks.length) (hS : S.k = ks.length)
    (hdec : ∀ vs : List Value, Oks ks vs → ∃ z : α, S.enc z = vs ∧ Q z)
    (h : DataW.trod enc P w base (fun _ => true) held fuel t [.slice a len cap] = some x) : ∃ ys : List α, IsFlat S Q w a len cap ys := by
  rcases open_slice ht h with ⟨h0, _⟩ | ⟨y, l, c, m, n, D, Pl, hcs, hb, hl, hm, hmm, hx, hi⟩
  · simp at h0
    obtain ⟨rfl, rfl, rfl⟩ := h0
    exact ⟨[], ⟨rfl, fun h => absurd h (by omega)⟩, (fun z hz => by cases hz), by omega, by omega, fun h => absurd h (by omega)⟩
  · simp at hcs
    obtain ⟨rfl, rfl, rfl⟩ := hcs
    simp only [if_true] at hmm
    subst hmm
    unfold maxLen at hm
    have each : ∀ r, r < m → ∃ z : α, Q z ∧ ∀ i u, (S.enc z)[i]? = some u → w.cell? (y.add (r * S.k + i)) = some u := fun r hr => by
      obtain ⟨cs', hcc, ht'⟩ := hi r hr
      obtain ⟨_, hcl, hat⟩ := World.cells?_some hcc
      obtain ⟨z, hz, hq⟩ := hdec cs' ((oks_all 20).1 e ks n cs' _ hk ht')
      refine ⟨z, hq, fun i u hu => ?_⟩
      rw [hz] at hu
      have hi9 : i < P.cellsOf e := by rw [← hcl]; exact (List.getElem?_eq_some_iff.1 hu).1
      have := hat i hi9
      rw [add_add, hu, hc, ← hS] at this
      exact this
    have hz0 : 0 < len → ∃ z : α, Q z := fun h0 => by obtain ⟨z, hq, _⟩ := each 0 (by omega); exact ⟨z, hq⟩
    rcases Nat.eq_zero_or_pos len with h0 | h0
    · subst h0
      exact ⟨[], ⟨rfl, fun h => absurd h (by omega)⟩, (fun z hz => by cases hz), by omega, by omega, fun h => absurd h (by omega)⟩
    · obtain ⟨z0, _⟩ := hz0 h0
      have inst : Inhabited α := ⟨z0⟩
      obtain ⟨f, hf⟩ := choose_lt each
      refine ⟨(List.range len).map f, ⟨by simp, fun _ => ⟨y, rfl, fun j u hu => ?_⟩⟩, (fun z hz => ?_), hl, by omega, fun _ x hx => ?_⟩
      · have hj : j < (flat S ((List.range len).map f)).length := (List.getElem?_eq_some_iff.1 hu).1
        rw [flat_length, List.length_map, List.length_range] at hj
        have hkp := S.pos
        have hdm := Nat.div_add_mod j S.k
        have hd : j / S.k < len := Nat.div_lt_of_lt_mul (by rwa [Nat.mul_comm] at hj)
        have hmo : j % S.k < S.k := Nat.mod_lt _ hkp
        have hg := flat_get (S := S) ((List.range len).map f) (j / S.k) (j % S.k) (by simpa using hd) hmo
        rw [show j / S.k * S.k + j % S.k = j by rw [Nat.mul_comm]; exact hdm, hu] at hg
        have h9 := (hf (j / S.k) (by omega)).2 (j % S.k) u (by rw [hg]; simp)
        rwa [show j / S.k * S.k + j % S.k = j by rw [Nat.mul_comm]; exact hdm] at h9
      · obtain ⟨r, hr, rfl⟩ := List.mem_map.1 hz
        exact (hf r (by have := List.mem_range.1 hr; omega)).1
      · injection hx with hx
        subst hx
        have h9 : 0 < (S.enc (f 0)).length := by rw [S.len]; exact S.pos
        have := World.block_lt_of_cell? _ _ ((hf 0 (by omega)).2 0 _ (List.getElem?_eq_getElem h9))
        rwa [block_add] at this
/-- A slice of such slices that came in. -/
def IsFlats {α : Type} (S : Shape α) (Q : α → Prop) (w : World) (a : Option Addr) (len cap : Nat) : Prop :=
  (a = none ∧ len = 0 ∧ cap = 0) ∨ ∃ x, a = some x ∧ len ≤ cap ∧ cap ≤ 9223372036854775807 ∧ ∀ r, r < cap → ∃ A L C ys, w.cell? (x.add r) = some (.slice A L C) ∧ IsFlat S Q w A L C ys
theorem flats_of {α : Type} (S : Shape α) (Q : α → Prop) {t e q : TypeId} {ks : List Kind} {fuel : Nat} {a : Option Addr} {len cap : Nat} {x : DataW H × List MemPlace} (ht : P.underlying t = some (.slice e)) (ce : P.cellsOf e = 1) (he : P.underlying e = some (.slice q)) (hk : kindsOf P 20 q = some ks) (hc : P.cellsOf q = ks.length) (hS : S.k = ks.length)
    (hdec : ∀ vs : List Value, Oks ks vs → ∃ z : α, S.enc z = vs ∧ Q z)
    (h : DataW.trod enc P w base (fun _ => true) held fuel t [.slice a len cap] = some x) : IsFlats S Q w a len cap := by
  rcases open_slice1 ht ce h with ⟨h0, _⟩ | ⟨y, l, c, m, n, V, D, Pl, hcs, hb, hl, hm, hmm, hx, hi⟩
  · simp at h0
    obtain ⟨rfl, rfl, rfl⟩ := h0
    exact .inl ⟨rfl, rfl, rfl⟩
  · simp at hcs
    obtain ⟨rfl, rfl, rfl⟩ := hcs
    simp only [if_true] at hmm
    subst hmm
    unfold maxLen at hm
    refine .inr ⟨y, rfl, hl, by omega, fun r hr => ?_⟩
    obtain ⟨h1, h2⟩ := hi r hr
    rcases open_slice he h2 with ⟨h0, _⟩ | ⟨y2, l2, c2, m2, n2, D2, Pl2, hcs, _⟩
    · simp at h0
      rw [h0] at h1 h2
      obtain ⟨ys, hZ⟩ := flat_of S Q he hk hc hS hdec h2
      exact ⟨_, _, _, ys, h1, hZ⟩
    · simp at hcs
      rw [hcs] at h1 h2
      obtain ⟨ys, hZ⟩ := flat_of S Q he hk hc hS hdec h2
      exact ⟨_, _, _, ys, h1, hZ⟩
end
end Go.Proofs.Ytnoppoimahfknaa.Row
end
section
/- Events that came in, and items, as they lie. Of no program. -/
set_option linter.unusedSimpArgs false
set_option linter.unusedVariables false
namespace Go.Proofs.Ytnoppoimahfknaa.Row
theorem oks_nil {vs : List Value} (h : Oks [] vs) : vs = [] := List.eq_nil_of_length_eq_zero h.1
theorem oks_cons {k : Kind} {ks : List Kind} {vs : List Value} (h : Oks (k :: ks) vs) : ∃ v r, vs = v :: r ∧ k.ok v ∧ Oks ks r := by
  cases vs with
  | nil => have := h.1; simp at this
  | cons v r =>
    obtain ⟨u, hu, hok⟩ := h.2 0 k rfl
    simp at hu
    subst hu
    refine ⟨v, r, rfl, hok, by have := h.1; simpa using this, fun i k' hi => ?_⟩
    obtain ⟨u, hu, h1⟩ := h.2 (i + 1) k' (by simpa using hi)
    exact ⟨u, by simpa using hu, h1⟩
end Go.Proofs.Ytnoppoimahfknaa.Row
namespace Go.Proofs.Ytnoppoimahfknaa.Lead
open Go.RowKit
/-- An event: its kind, its At, its value, whether its lead is off. -/
abbrev Ev := Int × Int × Int × Bool
def noEv : Ev := (0, 0, 0, false)
def evS : Row.Shape Ev := ⟨4, fun e => [.int .i64 e.1, .int .i64 e.2.1, .int .i32 e.2.2.1, .bool e.2.2.2], fun _ => rfl, by decide, fun p u hu => by
  simp at hu
  rcases hu with rfl | rfl | rfl | rfl <;> rfl⟩
def EvOk (e : Ev) : Prop := (-9223372036854775808 ≤ e.1 ∧ e.1 ≤ 9223372036854775807) ∧ (-9223372036854775808 ≤ e.2.1 ∧ e.2.1 ≤ 9223372036854775807) ∧ (-2147483648 ≤ e.2.2.1 ∧ e.2.2.1 ≤ 2147483647)
theorem ev_dec (vs : List Value) (h : Row.Oks [.int .i64, .int .i64, .int .i32, .bool] vs) : ∃ z : Ev, evS.enc z = vs ∧ EvOk z := by
  obtain ⟨v1, r1, rfl, ⟨k, rfl, hk⟩, h1⟩ := Row.oks_cons h
  obtain ⟨v2, r2, rfl, ⟨a, rfl, ha⟩, h2⟩ := Row.oks_cons h1
  obtain ⟨v3, r3, rfl, ⟨v, rfl, hv⟩, h3⟩ := Row.oks_cons h2
  obtain ⟨v4, r4, rfl, ⟨b, rfl⟩, h4⟩ := Row.oks_cons h3
  obtain rfl := Row.oks_nil h4
  exact ⟨(k, a, v, b), rfl, bounds_i64 hk, bounds_i64 ha, bounds_i32 hv⟩
/-- An item: its kind, its At, its value. -/
abbrev It := Int × Int × Int
def noIt : It := (0, 0, 0)
def itS : Row.Shape It := ⟨3, fun e => [.int .i64 e.1, .int .i64 e.2.1, .int .i32 e.2.2], fun _ => rfl, by decide, fun p u hu => by
  simp at hu
  rcases hu with rfl | rfl | rfl <;> rfl⟩
/-! ### What is said of events -/
/-- Whether the lead is on; what the run says, and how many samples it has. -/
structure St where
  on : Bool
  off : Bool
  n : Nat
def start : St := ⟨true, false, 0⟩
def St.run (st : St) (off : Bool) : Nat := if st.n ≠ 0 ∧ st.off = off then st.n + 1 else 1
def St.on' (st : St) (off : Bool) : Bool := if st.on = true ∧ off = true ∧ 20 ≤ st.run off then false else if st.on = false ∧ off = false ∧ 100 ≤ st.run off then true else st.on
def St.next (st : St) (e : Ev) : St := if e.1 = 1 then { st with n := 0 } else if e.1 = 2 then ⟨st.on' e.2.2.2, e.2.2.2, st.run e.2.2.2⟩ else st
def St.items (st : St) (e : Ev) : List It :=
  if e.1 = 1 then [(1, e.2.1, 0)] else if e.1 = 2 then
    (if st.on' e.2.2.2 ≠ st.on then [(if st.on then 2 else 3, e.2.1, 0)] else []) ++ [if st.on' e.2.2.2 then (4, e.2.1, e.2.2.1) else (5, e.2.1, 0)] else []
def itemsL (st : St) : List Ev → List It
  | [] => []
  | e :: l => st.items e ++ itemsL (st.next e) l
def afterL (st : St) : List Ev → St
  | [] => st
  | e :: l => afterL (st.next e) l
theorem items_append (st : St) (l m : List Ev) : itemsL st (l ++ m) = itemsL st l ++ itemsL (afterL st l) m := by
  induction l generalizing st with
  | nil => rfl
  | cons e l ih => simp only [List.cons_append, itemsL, afterL, ih, List.append_assoc]
theorem after_append (st : St) (l m : List Ev) : afterL st (l ++ m) = afterL (afterL st l) m := by
  induction l generalizing st with
  | nil => rfl
  | cons e l ih => simp only [List.cons_append, afterL, ih]
def itemsT (l : List Ev) : List It := itemsL start l
def onT (l : List Ev) : Bool := (afterL start l).on
/-- The items that come when events come behind others. -/
def behindT (a l : List Ev) : List It := itemsL (afterL start a) l
theorem behind_all (a l : List Ev) : itemsT a ++ behindT a l = itemsT (a ++ l) := (items_append start a l).symm
theorem behind_drop (a l : List Ev) : (itemsT (a ++ l)).drop (itemsT a).length = behindT a l := by rw [← behind_all, List.drop_left' rfl]
theorem items_few (st : St) (e : Ev) : (st.items e).length ≤ 2 := by
  unfold St.items
  split
  · simp
  · split
    · split <;> simp
    · simp
theorem itemsL_few (st : St) (l : List Ev) : (itemsL st l).length ≤ 2 * l.length := by
  induction l generalizing st with
  | nil => simp [itemsL]
  | cons e l ih =>
    have h1 := items_few st e
    have h2 := ih (st.next e)
    simp only [itemsL, List.length_append, List.length_cons]
    omega
/-- How many samples of a run stand up to the end of these events (the last one first), all of which say the same. -/
def runH (off : Bool) : List Ev → Nat
  | [] => 0
  | e :: h => if e.1 ≠ 1 ∧ e.1 ≠ 2 then runH off h else if e.1 = 1 ∨ e.2.2.2 ≠ off then 0 else runH off h + 1
theorem run_state (l : List Ev) (off : Bool) : runH off l.reverse = if (afterL start l).n ≠ 0 ∧ (afterL start l).off = off then (afterL start l).n else 0 := by
  obtain ⟨h, hh⟩ : ∃ h, l.reverse = h := ⟨_, rfl⟩
  rw [hh]
  have hl : l = h.reverse := by rw [← hh, List.reverse_reverse]
  subst hl
  clear hh
  induction h generalizing off with
  | nil => rfl
  | cons e h ih =>
    rw [List.reverse_cons, after_append]
    have hn : afterL (afterL start h.reverse) [e] = (afterL start h.reverse).next e := rfl
    rw [hn]
    generalize afterL start h.reverse = st at *
    unfold runH St.next
    by_cases h1 : e.1 = 1
    · rw [if_neg (fun h => h.1 h1), if_pos (.inl h1), if_pos h1, if_neg (fun h => h.1 rfl)]
    · by_cases h2 : e.1 = 2
      · rw [if_neg (fun h => h.2 h2), if_neg h1, if_pos h2]
        by_cases ho : e.2.2.2 = off
        · rw [if_neg (fun h => h.elim h1 (fun h => h ho)), ih off]
          have hr : st.run e.2.2.2 ≠ 0 := by unfold St.run; split <;> omega
          subst ho
          show _ = if st.run e.2.2.2 ≠ 0 ∧ e.2.2.2 = e.2.2.2 then st.run e.2.2.2 else 0
          have hc : (st.run e.2.2.2 ≠ 0 ∧ e.2.2.2 = e.2.2.2) := ⟨hr, rfl⟩
          simp only [if_pos hc]
          unfold St.run
          by_cases hs : st.n ≠ 0 ∧ st.off = e.2.2.2
          · simp [if_pos hs]
          · simp [if_neg hs]
        · rw [if_pos (.inr ho)]
          show _ = if st.run e.2.2.2 ≠ 0 ∧ e.2.2.2 = off then st.run e.2.2.2 else 0
          rw [if_neg (fun h => ho h.2)]
      · rw [if_pos ⟨h1, h2⟩, if_neg h1, if_neg h2, ih off]
end Go.Proofs.Ytnoppoimahfknaa.Lead
end
section
/- A ring of int64: letting the first things go. -/
set_option linter.unusedSimpArgs false
set_option linter.unusedVariables false
namespace Go.Proofs.Ytnoppoimahfknaa.RI64
open Go.RowKit

def Dropping (w : World) (b g n q f : Nat) (xs : List Int) (m : Nat) (i : Value) (wr : World) : Prop :=
  ∃ k, k ≤ m ∧ i = .int .i64 (k : Nat) ∧ Turned b g w wr ∧ ∃ cs, Core wr b g n q f xs.length cs ∧ ∀ i, k ≤ i → i < xs.length → cs.getD ((f + i) % n) 0 = xs.getD i 0
set_option maxHeartbeats 1000000 in
theorem drop_any (b g n q f : Nat) (cs xs : List Int) (m : Nat) (w : World) (h : Ring w b g n q f cs xs) (hm : m ≤ xs.length) :
    Calls Try.prog 96 #[.pointer (some ⟨b, 0, none⟩), .int .i64 m] w fun e w' => e = .returned (.tuple #[]) ∧ Became w b g n q ((f + m) % n) (xs.drop m) w' := by
  have hn := h.core.le
  have hq := h.core.cap
  have hr := h.core.room
  have hT := Turned.refl b g w
  go_enter Try.func96, Try.ntmps96
  go_wp2
  go_loopw [7] (fun i wr => Dropping w b g n q f xs m i wr) (fun i _ => m - (intOf i).toNat)
  case atStart => exact ⟨0, by omega, rfl, hT, cs, h.core, fun i _ hi => h.at_ i hi⟩
  case round =>
    clear h hT
    obtain ⟨k, hk, rfl, hT, cs', hC, hat⟩ := hrel
    obtain ⟨c0, c1, c2⟩ := hC.cells
    obtain ⟨z1, z2⟩ := hC.froz
    have hf := hC.first
    by_cases hlt : k < m
    · have hj : (f + k) % n < n := Nat.mod_lt _ (by omega)
      have hcell := hC.slot_ _ hj
      have hfz := hC.slotz ((f + k) % n)
      have hs := fun W (hW : Core W b g n q f xs.length cs') => slot_any b g n q f _ cs' k W hW (by omega)
      have hat' : ∀ i, k + 1 ≤ i → i < xs.length → (cs'.set ((f + k) % n) 0).getD ((f + i) % n) 0 = xs.getD i 0 := fun i h1 h2 => by
        rw [getD_set _ _ _ _ _ (by rw [hC.size]; exact hj), if_neg (rot_ne (by omega) (by omega) (by omega))]
        exact hat i (by omega) h2
      have HAT := Lib.hid hat'
      clear hat hat'
      generalize (f + k) % n = p at *
      generalize cs'.getD p 0 = old at *
      go_wp2
      go_region_with (go_at_call 98; refine (hs _ (by exact hC.same rfl)).mono ?_; rintro e W2 ⟨rfl, kk, rfl⟩)
      all_goals
        go_wp2
        go_roundw
        case rel => exact ⟨k + 1, by omega, by go_num, (hT.setCell (p := ⟨g, p, none⟩) (.inr (.inl rfl)) (.int .i64 0)).like rfl rfl rfl rfl, _, (hC.put p hj 0).same rfl, HAT.out⟩
        case measure => simp [intOf]; omega
    · have hk' : k = m := by omega
      subst hk'
      have hj : (f + k) % n < n := Nat.mod_lt _ (by omega)
      have hs := fun W (hW : Core W b g n q f xs.length cs') => slot_any b g n q f _ cs' k W hW (by omega)
      have hat' : ∀ i, i < (xs.drop k).length → cs'.getD (((f + k) % n + i) % n) 0 = (xs.drop k).getD i 0 := fun i hi => by
        rw [rot_add, getD_drop]
        rw [List.length_drop] at hi
        exact hat (k + i) (by omega) (by omega)
      have HL := Lib.hid (show (xs.drop k).length = xs.length - k from List.length_drop)
      have HAT := Lib.hid hat'
      clear hat hat'
      generalize hp : (f + k) % n = p at *
      generalize hys : xs.drop k = ys at *
      generalize hc : xs.length = c at *
      have HP := Lib.hid hp
      have HY := Lib.hid hys
      have HC := Lib.hid hc
      clear hp hys hc
      go_wp2_with (go_at_call 98; refine (hs _ (by exact hC.same rfl)).mono ?_; rintro e W2 ⟨rfl, kk, rfl⟩)
      go_end0
      refine ⟨rfl, cs', ?_, ?_⟩
      · rw [HP.out, HY.out]
        refine ⟨?_, HAT.out⟩
        have hC2 := ((hC.first_ p hj).count_ (c - k) (by omega))
        rw [HL.out, show ((c - k : Nat) : Int) = (c : Int) - (k : Int) by omega] at *
        exact hC2.same rfl
      · exact ((hT.setCell (p := ⟨b, 1, none⟩) (.inl rfl) _).setCell (p := ⟨b, 2, none⟩) (.inl rfl) _).like rfl rfl rfl rfl
end Go.Proofs.Ytnoppoimahfknaa.RI64
end
section
/- A ring of int64: made. -/
set_option linter.unusedSimpArgs false
set_option linter.unusedVariables false
namespace Go.Proofs.Ytnoppoimahfknaa.RI64
open Go.RowKit

theorem made_cells (m : Nat) : madeCells #[Value.int .i64 0] (m * 1) = Array.replicate m (Value.int .i64 0) := by
  rw [Nat.mul_one]
  apply Array.ext
  · simp [madeCells]
  · intro i h1 h2
    simp [madeCells, Nat.mod_one]
theorem rep_cells (m : Nat) : Array.replicate m (Value.int .i64 0) = ((List.replicate m 0).map fun (v : Int) => Value.int .i64 v).toArray := by simp
set_option maxRecDepth 100000 in
theorem make_run (m : Nat) (hm : m ≤ 65536) (W : World) : (Instr.makeSlice 61 (.int .i64 (m : Int)) (.int .i64 (m : Int))).run Try.prog W =
    .ok (.slice (some ⟨W.heap.size, 0, none⟩) m m) (W.alloc (.cells (Array.replicate m (Value.int .i64 0)) 2)) := by
  obtain ⟨i, hi, hz, h1, h2⟩ : ∃ i, Try.prog.info? 2 = some i ∧ i.zero = some (Value.int .i64 0) ∧ i.size = 1 ∧ i.bytes ≤ 16 := by
    refine ⟨_, rfl, ?_, ?_, ?_⟩ <;> first | rfl | decide
  have hr := run_make (P := Try.prog) W 61 2 i _ Try.underlying61 hi hz .i64 .i64 (m : Int) (m : Int) (by omega) (by omega) (by
    have : (i.bytes : Int) * (m : Int) ≤ 16 * 65536 := Int.mul_le_mul (by omega) (by omega) (by omega) (by omega)
    omega) (by omega)
  simp only [Int.toNat_natCast, h1] at hr
  rw [show (Value.int .i64 0).cells = #[Value.int .i64 0] from rfl, made_cells] at hr
  exact hr

theorem new_no (log : Int) (w : World) (h : log < 0 ∨ 16 < log) :
    Calls Try.prog 83 #[.int .i64 log] w fun e w' => e = .returned (.tuple #[.pointer none, .int .i64 1]) ∧ w = w' := by
  rcases h with h | h
  · go_enter Try.func83, Try.ntmps83
    go_wp2
    go_ret2
    exact ⟨rfl, rfl⟩
  · have h0 : ¬ log < 0 := by omega
    go_enter Try.func83, Try.ntmps83
    go_wp2
    go_ret2
    exact ⟨rfl, rfl⟩

theorem new_ring (k : Nat) (hk : k ≤ 16) (w : World) :
    Ring ((w.alloc (.cells (Array.replicate (2 ^ k) (Value.int .i64 0)) 2)).alloc (.cells #[.slice (some ⟨w.heap.size, 0, none⟩) (2 ^ k) (2 ^ k), .int .i64 0, .int .i64 0] 146))
      (w.heap.size + 1) w.heap.size (2 ^ k) (2 ^ k) 0 (List.replicate (2 ^ k) 0) [] := by
  have hp : 0 < 2 ^ k := Nat.pos_of_ne_zero (by simp)
  refine ⟨⟨?_, ⟨[], by rw [List.append_nil, ← rep_cells]; exact (Has.new w _ _).alloc _⟩, by simp, hp, by simp, ⟨k, hk, rfl⟩, Nat.le_refl _, by have := Nat.pow_le_pow_right (show 0 < 2 by omega) hk; omega⟩, fun i hi => absurd hi (by simp)⟩
  have h := Has.new (w.alloc (.cells (Array.replicate (2 ^ k) (Value.int .i64 0)) 2)) 146 #[.slice (some ⟨w.heap.size, 0, none⟩) (2 ^ k) (2 ^ k), .int .i64 0, .int .i64 0]
  rw [show (w.alloc (.cells (Array.replicate (2 ^ k) (Value.int .i64 0)) 2)).heap.size = w.heap.size + 1 by simp] at h
  exact h
theorem new_yes (k : Nat) (hk : k ≤ 16) (w : World) :
    Calls Try.prog 83 #[.int .i64 (k : Int)] w fun e w' => e = .returned (.tuple #[.pointer (some ⟨w.heap.size + 1, 0, none⟩), .int .i64 0]) ∧
      Ring w' (w.heap.size + 1) w.heap.size (2 ^ k) (2 ^ k) 0 (List.replicate (2 ^ k) 0) [] ∧ Below w.heap.size w w' ∧ w'.heap.size = w.heap.size + 2 := by
  have hp : (2 : Nat) ^ k ≤ 65536 := (Nat.pow_le_pow_right (by omega) hk : 2 ^ k ≤ 2 ^ 16)
  have hR := new_ring k hk w
  obtain ⟨n, hn⟩ : ∃ n, (2 : Nat) ^ k = n := ⟨_, rfl⟩
  have hw : wrap64 ((2 : Int) ^ k) = (n : Int) := by
    have h1 : ((2 : Int) ^ k) = ((2 ^ k : Nat) : Int) := by rw [Int.natCast_pow]; rfl
    rw [h1, hn]
    unfold wrap64
    omega
  rw [hn] at hp hR ⊢
  clear hn
  have hmk := fun W => make_run n hp W
  have HR := Lib.hid hR
  clear hR
  go_enter Try.func83, Try.ntmps83
  go_wp2
  go_ret2
  exact ⟨rfl, HR.out, ((Below.refl _ _).alloc (Nat.le_refl _) _).alloc (by simp) _, by simp⟩
end Go.Proofs.Ytnoppoimahfknaa.RI64
end
section
/- What a detector's calls answer and do: the laws and the layers above need these statements alone. Beats and waves as they lie. -/
set_option linter.unusedSimpArgs false
set_option linter.unusedVariables false
namespace Go.Proofs.Ytnoppoimahfknaa.Qrs
open Go.RowKit
/-- A beat's cells. -/
def btS : Row.Shape Bt := ⟨4, fun v => [.int .i64 v.1, .int .i64 v.2.1, .int .i64 v.2.2.1, .bool v.2.2.2], fun _ => rfl, by decide, fun p u hu => by
  simp at hu
  rcases hu with rfl | rfl | rfl | rfl <;> rfl⟩
def noBt : Bt := (0, 0, 0, false)
def btV (b : Bt) : Value := .agg #[.int .i64 b.1, .int .i64 b.2.1, .int .i64 b.2.2.1, .bool b.2.2.2]
/-- A wave: H, D, E, W. -/
abbrev Wv := Int × Int × Int × Int
def wvV (v : Wv) : Value := .agg #[.int .i64 v.1, .int .i64 v.2.1, .int .i64 v.2.2.1, .int .i64 v.2.2.2]
theorem part_at {α : Type} {S : Row.Shape α} {w : World} {x : Addr} {len : Nat} {ys : List α} (h : Row.Vals S w (some x) len ys) (i m : Nat) (hi : i < ys.length) (u : Value) (hu : (S.enc ys[i])[m]? = some u) (h0 : m ≠ 0) :
    w.cell? ⟨(x.add (i * S.k)).block, (x.add (i * S.k)).off + m, none⟩ = some u := by
  have h1 := h.at_ i m hi u hu
  rwa [show x.add (i * S.k + m) = ⟨(x.add (i * S.k)).block, (x.add (i * S.k)).off + m, none⟩ by
    unfold Addr.add
    by_cases h2 : i * S.k = 0 <;> simp [h2, h0, Nat.add_assoc]] at h1
theorem bt_cells {w : World} {x : Addr} {len : Nat} {ys : List Bt} (h : Row.Vals btS w (some x) len ys) (i : Nat) (hi : i < len) :
    w.cell? (x.add (i * 4)) = some (.int .i64 (ys.getD i noBt).1) ∧ w.cell? ⟨(x.add (i * 4)).block, (x.add (i * 4)).off + 1, none⟩ = some (.int .i64 (ys.getD i noBt).2.1) ∧
    w.cell? ⟨(x.add (i * 4)).block, (x.add (i * 4)).off + 2, none⟩ = some (.int .i64 (ys.getD i noBt).2.2.1) ∧ w.cell? ⟨(x.add (i * 4)).block, (x.add (i * 4)).off + 3, none⟩ = some (.bool (ys.getD i noBt).2.2.2) := by
  have hl := h.len_
  have e : ys.getD i noBt = ys[i]'(by omega) := by rw [List.getD_eq_getElem?_getD, List.getElem?_eq_getElem (by omega)]; rfl
  rw [e]
  exact ⟨by simpa [btS] using h.at_ i 0 (by omega) _ rfl, part_at h i 1 (by omega) _ rfl (by omega), part_at h i 2 (by omega) _ rfl (by omega), part_at h i 3 (by omega) _ rfl (by omega)⟩
theorem neq_bt (W : World) (a b c a' b' c' : Int) (d d' : Bool) : (binOp .neq 40 (.agg #[.int .i64 a, .int .i64 b, .int .i64 c, .bool d]) (.agg #[.int .i64 a', .int .i64 b', .int .i64 c', .bool d'])).run Try.prog W = .ok (.bool (!decide (a = a' ∧ b = b' ∧ c = c' ∧ d = d'))) W := by
  have ht : Try.prog.underlying 40 = some (.struct (Try.prog.fieldsOf 40)) := by kernel_rfl
  have hst : Try.prog.stoodInHeld 40 = false := by kernel_rfl
  rw [run_neq_struct, run_equalIn_agg W 9999 40 _ _ ht hst]
  simp only [Program.fieldsOf, Try.underlying40]
  simp [go_sem, Op.eqFields]
  by_cases h1 : a = a' <;> by_cases h2 : b = b' <;> by_cases h3 : c = c' <;> cases d <;> cases d' <;> simp [h1, h2, h3]
theorem guard_neq (W : World) (x y : Operand) (a b c a' b' c' : Int) (d d' : Bool) : (eqGuard .neq 40 x y (.agg #[.int .i64 a, .int .i64 b, .int .i64 c, .bool d]) (.agg #[.int .i64 a', .int .i64 b', .int .i64 c', .bool d'])).run Try.prog W = .ok () W := run_eqGuard_agg W _ _ _ _ _ _ (by kernel_rfl)
theorem eql_bt (W : World) (a b c a' b' c' : Int) (d d' : Bool) : (binOp .eql 40 (.agg #[.int .i64 a, .int .i64 b, .int .i64 c, .bool d]) (.agg #[.int .i64 a', .int .i64 b', .int .i64 c', .bool d'])).run Try.prog W = .ok (.bool (decide (a = a' ∧ b = b' ∧ c = c' ∧ d = d'))) W := by
  have ht : Try.prog.underlying 40 = some (.struct (Try.prog.fieldsOf 40)) := by kernel_rfl
  have hst : Try.prog.stoodInHeld 40 = false := by kernel_rfl
  rw [run_eql_struct, run_equalIn_agg W 9999 40 _ _ ht hst]
  simp only [Program.fieldsOf, Try.underlying40]
  simp [go_sem, Op.eqFields]
  by_cases h1 : a = a' <;> by_cases h2 : b = b' <;> by_cases h3 : c = c' <;> cases d <;> cases d' <;> simp [h1, h2, h3]
theorem guard_eql (W : World) (x y : Operand) (a b c a' b' c' : Int) (d d' : Bool) : (eqGuard .eql 40 x y (.agg #[.int .i64 a, .int .i64 b, .int .i64 c, .bool d]) (.agg #[.int .i64 a', .int .i64 b', .int .i64 c', .bool d'])).run Try.prog W = .ok () W := run_eqGuard_agg W _ _ _ _ _ _ (by kernel_rfl)
/-- Det w b S d: the detector in block b lies in the blocks S and stands as d. -/
structure QrsKit (Det : World → Nat → List Nat → D → Prop) : Prop where
  lt : ∀ {w b S d}, Det w b S d → b ∈ S ∧ ∀ k ∈ S, k < w.heap.size
  kept : ∀ {w w' b S d T}, Det w b S d → Kept T w w' → (∀ k ∈ S, k ∉ T) → Det w' b S d
  new_any : ∀ w : World, Calls Try.prog 12 #[] w fun e w' => ∃ b S, e = .returned (.pointer (some ⟨b, 0, none⟩)) ∧ Det w' b S noD ∧ (∀ k ∈ S, w.heap.size ≤ k) ∧ Below w.heap.size w w'
  push_any : ∀ (w : World) (b : Nat) (S : List Nat) (d : D) (a : Int) (v : Wv), Det w b S d → d.n ≤ 1000000000 → fits64 a → fits64 v.2.1 → fits64 v.2.2.2 →
    Calls Try.prog 14 #[.pointer (some ⟨b, 0, none⟩), .int .i64 a, wvV v] w fun e w' => ∃ (B : Option Addr) (S' : List Nat) (c : Nat), e = .returned (.slice B (stepT d a v.2.2.2 v.2.1).1.length c) ∧ (stepT d a v.2.2.2 v.2.1).1.length ≤ c ∧ Row.Vals btS w' B (stepT d a v.2.2.2 v.2.1).1.length (stepT d a v.2.2.2 v.2.1).1 ∧
      Det w' b S' (stepT d a v.2.2.2 v.2.1).2 ∧ (∀ k ∈ S', k ∈ S ∨ w.heap.size ≤ k) ∧ (∀ x, B = some x → w.heap.size ≤ x.block ∧ x.block ∉ S') ∧ Kept S w w'
  steps_any : ∀ (w : World) (b : Nat) (S : List Nat) (d : D), Det w b S d → Calls Try.prog 18 #[.pointer (some ⟨b, 0, none⟩)] w fun e w' => e = .returned (.int .i64 d.n) ∧ Below w.heap.size w w'
  learning_any : ∀ (w : World) (b : Nat) (S : List Nat) (d : D), Det w b S d → Calls Try.prog 15 #[.pointer (some ⟨b, 0, none⟩)] w fun e w' => e = .returned (.bool (decide (d.n ≤ 400))) ∧ Below w.heap.size w w'
  level_any : ∀ (w : World) (b : Nat) (S : List Nat) (d : D), Det w b S d → Calls Try.prog 16 #[.pointer (some ⟨b, 0, none⟩)] w fun e w' => e = .returned (Level.lvV d.lv) ∧ Below w.heap.size w w'
  mean_any : ∀ (w : World) (b : Nat) (S : List Nat) (d : D), Det w b S d → Calls Try.prog 19 #[.pointer (some ⟨b, 0, none⟩)] w fun e w' => e = .returned (.int .i64 (Pace.meanT d.ds)) ∧ Below w.heap.size w w'
  reset_any : ∀ (w : World) (b : Nat) (S : List Nat) (d : D), Det w b S d → Calls Try.prog 17 #[.pointer (some ⟨b, 0, none⟩)] w fun e w' => ∃ S', e = .returned (.tuple #[]) ∧ Det w' b S' noD ∧ (∀ k ∈ S', k ∈ S ∨ w.heap.size ≤ k) ∧ Kept S w w'
  no_push : ∀ (w : World) (a : Int) (v : Wv), Calls Try.prog 14 #[.pointer none, .int .i64 a, wvV v] w fun e w' => ∃ (B : Option Addr) (c : Nat), e = .returned (.slice B 0 c) ∧ Below w.heap.size w w'
  no_steps : ∀ w : World, Calls Try.prog 18 #[.pointer none] w fun e w' => e = .returned (.int .i64 0) ∧ Below w.heap.size w w'
  no_learning : ∀ w : World, Calls Try.prog 15 #[.pointer none] w fun e w' => e = .returned (.bool false) ∧ Below w.heap.size w w'
  no_level : ∀ w : World, Calls Try.prog 16 #[.pointer none] w fun e w' => e = .returned (Level.lvV (0, 0)) ∧ Below w.heap.size w w'
  no_mean : ∀ w : World, Calls Try.prog 19 #[.pointer none] w fun e w' => e = .returned (.int .i64 0) ∧ Below w.heap.size w w'
  no_reset : ∀ w : World, Calls Try.prog 17 #[.pointer none] w fun e w' => e = .returned (.tuple #[]) ∧ Below w.heap.size w w'
section
variable {Det : World → Nat → List Nat → D → Prop} (K : QrsKit Det) {w w' : World} {b : Nat} {S : List Nat} {d : D}
include K
theorem QrsKit.below (hP : Det w b S d) (hB : Below w.heap.size w w') : Det w' b S d := K.kept hP (Kept.of_below (S := []) hB) (fun _ _ h => by cases h)
theorem QrsKit.alloc (hP : Det w b S d) (o : Obj) : Det (w.alloc o) b S d := K.below hP ((Below.refl _ w).alloc (Nat.le_refl _) o)
end
set_option maxHeartbeats 1000000 in
theorem same_yes (A B : Option Addr) (n c d : Nat) (ys : List Bt) (w : World) (hv : Row.Vals btS w A n ys) (hu : Row.Vals btS w B n ys) (hn : n ≤ 1000000) :
    Calls Try.prog 20 #[.slice A n c, .slice B n d] w fun e w' => e = .returned (.bool true) ∧ ∃ z, w' = w.drewN z := by
  go_enter Try.func20, Try.ntmps20
  go_wp2
  go_loopw [5] (fun i wr => (∃ k : Nat, k ≤ n ∧ i = .int .i64 (k : Nat)) ∧ ∃ z, wr = w.drewN z) (fun i _ => n - (intOf i).toNat)
  case atStart => exact ⟨⟨0, by omega, rfl⟩, 0, rfl⟩
  case round =>
    obtain ⟨⟨k, hk, rfl⟩, z, rfl⟩ := hrel
    by_cases hlt : k < n
    · obtain ⟨x, rfl, _⟩ := hv.cells (by omega)
      obtain ⟨y, rfl, _⟩ := hu.cells (by omega)
      obtain ⟨x0, x1, x2, x3⟩ := bt_cells hv k hlt
      obtain ⟨y0, y1, y2, y3⟩ := bt_cells hu k hlt
      generalize (ys.getD k noBt).1 = a at *
      generalize (ys.getD k noBt).2.1 = b at *
      generalize (ys.getD k noBt).2.2.1 = p at *
      generalize (ys.getD k noBt).2.2.2 = q at *
      have hg := fun (W : World) (x y : Operand) => guard_neq W x y a b p a b p q q
      have hc : ∀ W : World, (binOp .neq 40 (.agg #[.int .i64 a, .int .i64 b, .int .i64 p, .bool q]) (.agg #[.int .i64 a, .int .i64 b, .int .i64 p, .bool q])).run Try.prog W = .ok (.bool false) W := fun W => by rw [neq_bt]; simp
      clear hu hv
      go_wp2
      go_quiet (fail)
      go_wp2
      go_roundw
      case rel => exact ⟨⟨k + 1, by omega, by go_num⟩, _, by first | rfl | rw [World.drewN_drewN]⟩
      case measure => simp [intOf]; omega
    · obtain rfl : k = n := by omega
      clear hu hv
      go_wp2
      go_ret
      exact ⟨rfl, z, rfl⟩
end Go.Proofs.Ytnoppoimahfknaa.Qrs
end
section
/- A ring of int64: putting things behind the others. -/
set_option linter.unusedSimpArgs false
set_option linter.unusedVariables false
namespace Go.Proofs.Ytnoppoimahfknaa.RI64
open Go.RowKit

def Putting (w : World) (b g n q f : Nat) (xs ys : List Int) (m : Nat) (i : Value) (wr : World) : Prop :=
  ∃ k, k ≤ m ∧ i = .int .i64 (k : Nat) ∧ Turned b g w wr ∧ ∃ cs, Core wr b g n q f xs.length cs ∧ ∀ i, i < xs.length + k → cs.getD ((f + i) % n) 0 = (xs ++ ys).getD i 0
set_option maxHeartbeats 1000000 in
theorem put_any (b g n q f : Nat) (cs xs : List Int) (a : Option Addr) (len cap : Nat) (ys : List Int) (w : World) (h : Ring w b g n q f cs xs) (hv : Vals w a len ys) (hl : len ≤ cap) (hcap : cap ≤ 9223372036854775807) (hfar : 0 < len → ∀ x, a = some x → x.block ≠ b ∧ x.block ≠ g) :
    Calls Try.prog 94 #[.pointer (some ⟨b, 0, none⟩), .slice a len cap] w fun e w' => e = .returned (.int .i64 (min len (n - xs.length) : Nat)) ∧ Became w b g n q f (xs ++ ys.take (n - xs.length)) w' := by
  have hn := h.core.le
  have hq := h.core.cap
  have hr := h.core.room
  have hT := Turned.refl b g w
  have hy := hv.len_
  obtain ⟨r, hrr⟩ : ∃ r, n - xs.length = r := ⟨_, rfl⟩
  have hroom := fun W (hW : Ring W b g n q f cs xs) => room_nat b g n q f cs xs r W hW hrr
  obtain ⟨m, hm⟩ : ∃ m, min len r = m := ⟨_, rfl⟩
  have HM := Lib.hid (show ((min len (n - xs.length) : Nat) : Int) = (m : Int) by omega)
  have HT := Lib.hid (show xs ++ ys.take (n - xs.length) = xs ++ ys.take m by
    rw [← hm, hrr]
    rcases Nat.le_total len r with h1 | h1
    · rw [Nat.min_eq_left h1, List.take_of_length_le (by omega), List.take_of_length_le (by omega)]
    · rw [Nat.min_eq_right h1])
  rw [HM.out]
  rw [HT.out]
  have hmy : m ≤ ys.length := by omega
  have hmr : xs.length + m ≤ n := by omega
  have HL := Lib.hid (show (xs ++ ys.take m).length = xs.length + m by rw [List.length_append, List.length_take]; omega)
  have two : (m < len ∧ m = r) ∨ (m ≤ r ∧ m = len) := by omega
  rcases two with ⟨hle, rfl⟩ | ⟨hle, rfl⟩
  all_goals
    have HR := Lib.hid hrr
    clear hm hrr hy
    go_enter Try.func94, Try.ntmps94
    go_wp2_with (go_at_call 97; refine (hroom _ (by exact h.same rfl)).mono ?_; rintro e W2 ⟨rfl, kk, rfl⟩)
    have hD := h.core.same (w' := w.drewN kk) rfl
    have hT2 := hT.drewN kk
    generalize hwk : w.drewN kk = w2 at *
    go_loopw [19] (fun i wr => Putting w b g n q f xs ys m i wr) (fun i _ => m - (intOf i).toNat)
    case atStart => exact ⟨0, by omega, rfl, hT2, cs, hD, fun i hi => by rw [h.at_ i (by omega), getD_left _ _ _ _ (by omega)]⟩
    case round =>
      clear hT2 hD hwk
      obtain ⟨k, hk, rfl, hTr, cs', hC, hat⟩ := hrel
      obtain ⟨c0, c1, c2⟩ := hC.cells
      obtain ⟨z1, z2⟩ := hC.froz
      have hf := hC.first
      by_cases hlt : k < m
      · have hj : (f + (xs.length + k)) % n < n := Nat.mod_lt _ (by omega)
        obtain ⟨x, rfl, hcx⟩ := (hv.turned hTr hfar).cells (by omega)
        have hthing := hcx k (by omega)
        have hcell := hC.slot_ _ hj
        have hfz := hC.slotz ((f + (xs.length + k)) % n)
        have hs := fun W (hW : Core W b g n q f xs.length cs') => slot_any b g n q f _ cs' (xs.length + k) W hW (by omega)
        rw [Int.natCast_add] at hs
        have hat' : ∀ i, i < xs.length + (k + 1) → (cs'.set ((f + (xs.length + k)) % n) (ys.getD k 0)).getD ((f + i) % n) 0 = (xs ++ ys).getD i 0 := fun i h1 => by
          rw [getD_set _ _ _ _ _ (by rw [hC.size]; exact hj)]
          by_cases he : i = xs.length + k
          · subst he
            rw [if_pos rfl, getD_right]
          · rw [if_neg (rot_ne (by omega) (by omega) (by omega))]
            exact hat i (by omega)
        have HAT := Lib.hid hat'
        clear hat hat' hcx
        generalize (f + (xs.length + k)) % n = p at *
        generalize cs'.getD p 0 = old at *
        generalize ys.getD k 0 = new at *
        have hwr : IntKind.i64.wrap ((xs.length : Int) + (k : Int)) = (xs.length : Int) + (k : Int) := IntWalk.i64_in _ (by omega)
        go_wp2
        go_region_with (go_at_call 98; ((with_reducible refine (hs _ (by exact hC.same rfl)).mono ?_); rintro e W2 ⟨rfl, kk, rfl⟩))
        clear hwr
        all_goals
          go_wp2
          go_roundw
          case rel => exact ⟨k + 1, by omega, by go_num, (hTr.setCell (p := ⟨g, p, none⟩) (.inr (.inl rfl)) (.int .i64 new)).like rfl rfl rfl rfl, _, (hC.put p hj new).same rfl, HAT.out⟩
          case measure => simp [intOf]; omega
      · have hk' : k = m := by omega
        subst hk'
        have hat' : ∀ i, i < (xs ++ ys.take k).length → cs'.getD ((f + i) % n) 0 = (xs ++ ys.take k).getD i 0 := fun i hi => by
          rw [HL.out] at hi
          rw [hat i hi, getD_take _ _ _ _ _ hi]
        have HAT := Lib.hid hat'
        clear hat hat'
        have hC2 : Core (wr.setCell ⟨b, 2, none⟩ (.int .i64 ((xs.length : Int) + (k : Int)))) b g n q f (xs ++ ys.take k).length cs' := by
          have h9 := hC.count_ (xs.length + k) (by omega)
          rw [Int.natCast_add] at h9
          rw [HL.out]
          exact h9
        have HC2 := Lib.hid hC2
        clear hC2
        go_wp2
        go_ret
        exact ⟨rfl, cs', ⟨HC2.out.same rfl, HAT.out⟩, (hTr.setCell (p := ⟨b, 2, none⟩) (.inl rfl) _).like rfl rfl rfl rfl⟩
end Go.Proofs.Ytnoppoimahfknaa.RI64
end
section
/- The chapter's example of layer 19: so it is. -/
set_option linter.unusedSimpArgs false
set_option linter.unusedVariables false
namespace Go.Proofs.Ytnoppoimahfknaa.Qrs
open Go.RowKit
/-- A beat's cells, as a block. -/
def btC (b : Bt) : Array Value := #[.int .i64 b.1, .int .i64 b.2.1, .int .i64 b.2.2.1, .bool b.2.2.2]
theorem Has.put4b {w : World} {b : Nat} {t : TypeId} {u0 u1 u2 u3 : Value} (h : Has w b t #[u0, u1, u2, u3]) (x0 x1 x2 x3 : Value) :
    Has ((((w.setCell ⟨b, 0, none⟩ x0).setCell ⟨b, 1, none⟩ x1).setCell ⟨b, 2, none⟩ x2).setCell ⟨b, 3, none⟩ x3) b t #[x0, x1, x2, x3] := by
  have := (((h.set_ 0 x0).set_ 1 x1).set_ 2 x2).set_ 3 x3
  simpa using this
theorem kept_put4 {a w : World} {S : List Nat} {b : Nat} (h : Kept S a w) (hb : b ∈ S ∨ a.heap.size ≤ b) (x0 x1 x2 x3 : Value) : Kept S a ((((w.setCell ⟨b, 0, none⟩ x0).setCell ⟨b, 1, none⟩ x1).setCell ⟨b, 2, none⟩ x2).setCell ⟨b, 3, none⟩ x3) :=
  (((h.setCell (p := ⟨b, 0, none⟩) hb x0).setCell (p := ⟨b, 1, none⟩) hb x1).setCell (p := ⟨b, 2, none⟩) hb x2).setCell (p := ⟨b, 3, none⟩) hb x3
theorem last_next (l : List Bt) (k : Nat) (hk : k < l.length) (z : Bt) : ((l.take (k + 1)).getLast?).getD z = l.getD k noBt := by
  rw [List.take_succ_eq_append_getElem hk, List.getLast?_append, List.getD_eq_getElem?_getD, List.getElem?_eq_getElem hk]
  rfl
/-- Where the loop stands: the detector, and the last beat in a block of its own. -/
structure Lv (Det : World → Nat → List Nat → D → Prop) (w : World) (b g : Nat) (S : List Nat) (d : D) (z : Bt) (W : World) : Prop where
  det : Det W b S d
  last : Has W g 40 (btC z)
  off : g ∉ S
  below : Below w.heap.size w W
  far : ∀ k ∈ S, w.heap.size ≤ k
  g0 : w.heap.size ≤ g
theorem lv_n (k : Nat) : (liveT k).2.2.n = (k : Int) := by
  induction k with
  | zero => rfl
  | succ k ih =>
    show (stepT (liveT k).2.2 (k : Int) (liveW k).1 (liveW k).2).2.n = _
    rw [step_n, ih]; push_cast; rfl
theorem Lv.pushed {Det : World → Nat → List Nat → D → Prop} {w W W' : World} {b g : Nat} {S S' : List Nat} {d d' : D} {z : Bt} (h : Lv Det w b g S d z W) (hD : Det W' b S' d') (hn : ∀ k ∈ S', k ∈ S ∨ W.heap.size ≤ k) (hK : Kept S W W') : Lv Det w b g S' d' z W' :=
  ⟨hD, hK.has h.last h.off, fun h9 => by rcases hn g h9 with h8 | h8; exact h.off h8; exact Nat.lt_irrefl _ (Nat.lt_of_lt_of_le h.last.lt h8), below_kept h.below hK h.below.size h.far,
   fun k hk => by rcases hn k hk with h8 | h8; exact h.far k h8; exact Nat.le_trans h.below.size h8, h.g0⟩
theorem live_cnt (k : Nat) : 0 ≤ (liveT k).1 ∧ (liveT k).1 ≤ 2 * (k : Int) := by
  induction k with
  | zero => exact ⟨by decide, by decide⟩
  | succ k ih =>
    have h1 := step_len (liveT k).2.2 (k : Int) (liveW k).1 (liveW k).2
    show 0 ≤ (liveT k).1 + ((stepT (liveT k).2.2 (k : Int) (liveW k).1 (liveW k).2).1.length : Int) ∧ (liveT k).1 + ((stepT (liveT k).2.2 (k : Int) (liveW k).1 (liveW k).2).1.length : Int) ≤ _
    omega
section
variable {Det : World → Nat → List Nat → D → Prop} (K : QrsKit Det) {w W W' : World} {b g : Nat} {S S' : List Nat} {d d' : D} {z : Bt}
include K
theorem Lv.grow (h : Lv Det w b g S d z W) (hB : Below W.heap.size W W') : Lv Det w b g S d z W' := ⟨K.below h.det hB, h.last.below hB h.last.lt, h.off, h.below.trans (hB.mono h.below.size), h.far, h.g0⟩
theorem Lv.told (h : Lv Det w b g S d z W) (y : Bt) : Lv Det w b g S d y ((((W.setCell ⟨g, 0, none⟩ (.int .i64 y.1)).setCell ⟨g, 1, none⟩ (.int .i64 y.2.1)).setCell ⟨g, 2, none⟩ (.int .i64 y.2.2.1)).setCell ⟨g, 3, none⟩ (.bool y.2.2.2)) :=
  ⟨K.kept h.det (kept_put4 (Kept.refl [g] W) (.inl (by simp)) _ _ _ _) (fun k hk h9 => h.off (by have e9 : k = g := (by simpa using h9); rwa [e9] at hk)), Has.put4b h.last _ _ _ _, h.off,
   below_kept h.below (kept_put4 (Kept.refl [g] W) (.inl (by simp)) _ _ _ _) h.below.size (fun k hk => by have e9 : k = g := (by simpa using hk); rw [e9]; exact h.g0), h.far, h.g0⟩
end
set_option maxRecDepth 100000 in
set_option maxHeartbeats 4000000 in
theorem live_k {Det : World → Nat → List Nat → D → Prop} (K : QrsKit Det) (w : World) : Calls Try.prog 21 #[] w fun e w' => e = .returned (.bool true) ∧ Below w.heap.size w w' := by
  have hnew := K.new_any w
  go_enter Try.func21, Try.ntmps21
  go_wp2_with (go_at_call 12; ((with_reducible refine hnew.mono ?_); rintro e W1 ⟨b, S, rfl, hP, hfar, hB1⟩))
  have hat0 : Lv Det w b W1.heap.size S noD (0, 0, 0, false) (W1.alloc (.cells #[.int .i64 0, .int .i64 0, .int .i64 0, .bool false] 40)) :=
    ⟨K.alloc hP _, Has.new W1 _ _, (fun h9 => Nat.lt_irrefl _ ((K.lt hP).2 _ h9)), hB1.alloc hB1.size _, hfar, hB1.size⟩
  generalize W1.alloc (.cells #[.int .i64 0, .int .i64 0, .int .i64 0, .bool false] 40) = W2 at *
  generalize W1.heap.size = g at *
  clear hP hB1 hnew hfar
  go_loopw [2, 10] (fun n i' wr => ∃ (i : Nat) (S : List Nat), i ≤ 1000 ∧ i' = .int .i64 (i : Nat) ∧ n = .int .i64 (liveT i).1 ∧ Lv Det w b g S (liveT i).2.2 (liveT i).2.1 wr) (fun _ i _ => 1000 - (intOf i).toNat)
  case atStart => exact ⟨0, S, by omega, rfl, rfl, hat0⟩
  case round =>
    clear hat0
    obtain ⟨i, S, hi, rfl, rfl, hat⟩ := hrel
    by_cases hi2 : i < 1000
    · have hiz : (i : Int) < 1000 := by omega
      have hnw : (liveT i).2.2.n = (i : Int) := lv_n i
      have hcnt := live_cnt i
      obtain ⟨d, hd⟩ : ∃ d, (liveT i).2.2 = d := ⟨_, rfl⟩
      obtain ⟨z, hz⟩ : ∃ z, (liveT i).2.1 = z := ⟨_, rfl⟩
      obtain ⟨n0, hn0⟩ : ∃ n0, (liveT i).1 = n0 := ⟨_, rfl⟩
      have hnext1 : (liveT (i + 1)).1 = n0 + ((stepT d (i : Int) (liveW i).1 (liveW i).2).1.length : Int) := by rw [← hd, ← hn0]; rfl
      have hnext2 : (liveT (i + 1)).2.2 = (stepT d (i : Int) (liveW i).1 (liveW i).2).2 := by rw [← hd]; rfl
      have hnext3 : (liveT (i + 1)).2.1 = ((stepT d (i : Int) (liveW i).1 (liveW i).2).1.getLast?).getD z := by rw [← hd, ← hz]; rfl
      rw [hd] at hat hnw
      rw [hz] at hat
      rw [hn0] at hcnt ⊢
      clear hd hz hn0
      by_cases hp : 50 ≤ i % 100 ∧ i % 100 < 55
      · have hw : liveW i = (1000, 9) := by unfold liveW; rw [if_pos hp]
        have hp1 : (50 : Int) ≤ (i : Int) % 100 := by omega
        have hp2 : (i : Int) % 100 < 55 := by omega
        rw [hw] at hnext1 hnext2 hnext3
        clear hp hw
        have hpu := fun W (h : Det W b S d) => K.push_any W b S d (i : Int) (0, 9, 0, 1000) h (by rw [hnw]; omega) (by unfold fits64; omega) (by show fits64 9; unfold fits64; omega) (by show fits64 1000; unfold fits64; omega)
        dsimp only at hpu hnext1 hnext2 hnext3
        obtain ⟨bs, hbs⟩ : ∃ bs, (stepT d (i : Int) 1000 9).1 = bs := ⟨_, rfl⟩
        obtain ⟨d', hd'⟩ : ∃ d', (stepT d (i : Int) 1000 9).2 = d' := ⟨_, rfl⟩
        obtain ⟨m, hm⟩ : ∃ m, bs.length = m := ⟨_, rfl⟩
        rw [hbs, hm] at hnext1
        rw [hd'] at hnext2
        rw [hbs] at hnext3
        rw [hbs, hd', hm] at hpu
        have hm2 : m ≤ 2 := by rw [← hm, ← hbs]; exact step_len _ _ _ _
        clear hbs hd' hm hnw
        have hatA := hat.grow K ((Below.refl _ wr).alloc (Nat.le_refl _) (.cells #[.int .i64 0, .int .i64 9, .int .i64 0, .int .i64 1000] 28))
        have hNA := Has.new wr 28 #[.int .i64 0, .int .i64 9, .int .i64 0, .int .i64 1000]
        have w0 := hNA.cell 0
        have w1 := hNA.cell 1
        have w2 := hNA.cell 2
        have w3 := hNA.cell 3
        have hpA := hpu _ hatA.det
        have hgl := hatA.last.lt
        unfold wvV at hpA
        clear hpu hNA hat
        go_wp2_with (go_at_call 14; (go_must (refine Calls.mono (by exact hpA) ?_); rintro e W4 ⟨B, S', c, rfl, hmc, hV, hD, hnw, hfar, hK⟩))
        have hL1 := hatA.pushed hD hnw hK
        clear hpA hatA hD hnw hK w0 w1 w2 w3
        go_loopw [2, 28] (fun n i wr => ∃ k : Nat, k ≤ m ∧ i = .int .i64 (k : Nat) ∧ n = .int .i64 (n0 + (k : Int)) ∧ Row.Vals btS wr B m bs ∧ Lv Det w b g S' d' ((bs.take k).getLast?.getD z) wr) (fun _ i _ => m - (intOf i).toNat)
        case atStart => exact ⟨0, by omega, rfl, by simp, hV, hL1⟩
        case round =>
          clear hL1 hV
          obtain ⟨k, hk, rfl, rfl, hV, hL⟩ := hrel
          by_cases hkm : k < m
          · obtain ⟨x, rfl, _⟩ := hV.cells (by omega)
            obtain ⟨y0, y1, y2, y3⟩ := bt_cells hV k hkm
            have hxl : x.block ≠ g := fun h9 => Nat.lt_irrefl _ (Nat.lt_of_lt_of_le (h9 ▸ hgl) (hfar x rfl).1)
            have hln := last_next bs k (by have := hV.len_; omega) z
            generalize bs.getD k noBt = y at *
            generalize (bs.take k).getLast?.getD z = z0 at *
            have hkz : (k : Int) < (m : Int) := by omega
            have hLa := hL.grow K ((Below.refl _ wr).alloc (Nat.le_refl _) (.cells (btC y) 40))
            have hVa := hV.alloc (.cells (btC y) 40)
            have hNa := Has.new wr 40 (btC y)
            have hLb := hLa.told K y
            have hVb := hVa.kept (kept_put4 (b := g) (Kept.refl [g] _) (.inl (by simp)) (.int .i64 y.1) (.int .i64 y.2.1) (.int .i64 y.2.2.1) (.bool y.2.2.2)) (fun _ x' hx' => by injection hx' with hx'; subst hx'; simpa using hxl)
            unfold btC at hNa
            have q0 := hNa.cell 0
            have q1 := hNa.cell 1
            have q2 := hNa.cell 2
            have q3 := hNa.cell 3
            have hla := hLa.last
            unfold btC at hla
            have r0 := hla.cell 0
            have r1 := hla.cell 1
            have r2 := hla.cell 2
            have r3 := hla.cell 3
            have s0 := hla.frozen 0
            have s1 := hla.frozen 1
            have s2 := hla.frozen 2
            have s3 := hla.frozen 3
            unfold btC at hLb hVb
            clear hV hL hLa hVa hNa hla
            go_wp2
            go_roundw
            case rel => exact ⟨k + 1, by omega, by go_num, by push_cast; rw [Int.add_assoc], hVb, by rw [hln]; exact hLb⟩
            case measure => simp [intOf]; omega
          · obtain rfl : k = m := by omega
            rw [List.take_of_length_le (by have := hV.len_; omega)] at hL
            go_wp2
            go_roundw
            case rel => exact ⟨i + 1, S', by omega, by go_num, by rw [hnext1], by rw [hnext2, hnext3]; exact hL⟩
            case measure => simp [intOf]; omega
      · have hw : liveW i = (0, 0) := by unfold liveW; rw [if_neg hp]
        rw [hw] at hnext1 hnext2 hnext3
        have hp3 : (i : Int) % 100 < 50 ∨ (55 ≤ (i : Int) % 100 ∧ 50 ≤ (i : Int) % 100) := by omega
        clear hp hw
        rcases hp3 with hp1 | ⟨hp1, hp2⟩
        · skip
          have hpu := fun W (h : Det W b S d) => K.push_any W b S d (i : Int) (0, 0, 0, 0) h (by rw [hnw]; omega) (by unfold fits64; omega) (by show fits64 0; unfold fits64; omega) (by show fits64 0; unfold fits64; omega)
          dsimp only at hpu hnext1 hnext2 hnext3
          obtain ⟨bs, hbs⟩ : ∃ bs, (stepT d (i : Int) 0 0).1 = bs := ⟨_, rfl⟩
          obtain ⟨d', hd'⟩ : ∃ d', (stepT d (i : Int) 0 0).2 = d' := ⟨_, rfl⟩
          obtain ⟨m, hm⟩ : ∃ m, bs.length = m := ⟨_, rfl⟩
          rw [hbs, hm] at hnext1
          rw [hd'] at hnext2
          rw [hbs] at hnext3
          rw [hbs, hd', hm] at hpu
          have hm2 : m ≤ 2 := by rw [← hm, ← hbs]; exact step_len _ _ _ _
          clear hbs hd' hm hnw
          have hatA := hat.grow K ((Below.refl _ wr).alloc (Nat.le_refl _) (.cells #[.int .i64 0, .int .i64 0, .int .i64 0, .int .i64 0] 28))
          have hNA := Has.new wr 28 #[.int .i64 0, .int .i64 0, .int .i64 0, .int .i64 0]
          have w0 := hNA.cell 0
          have w1 := hNA.cell 1
          have w2 := hNA.cell 2
          have w3 := hNA.cell 3
          have hpA := hpu _ hatA.det
          have hgl := hatA.last.lt
          unfold wvV at hpA
          clear hpu hNA hat
          go_wp2_with (go_at_call 14; (go_must (refine Calls.mono (by exact hpA) ?_); rintro e W4 ⟨B, S', c, rfl, hmc, hV, hD, hnw, hfar, hK⟩))
          have hL1 := hatA.pushed hD hnw hK
          clear hpA hatA hD hnw hK w0 w1 w2 w3
          go_loopw [2, 28] (fun n i wr => ∃ k : Nat, k ≤ m ∧ i = .int .i64 (k : Nat) ∧ n = .int .i64 (n0 + (k : Int)) ∧ Row.Vals btS wr B m bs ∧ Lv Det w b g S' d' ((bs.take k).getLast?.getD z) wr) (fun _ i _ => m - (intOf i).toNat)
          case atStart => exact ⟨0, by omega, rfl, by simp, hV, hL1⟩
          case round =>
            clear hL1 hV
            obtain ⟨k, hk, rfl, rfl, hV, hL⟩ := hrel
            by_cases hkm : k < m
            · obtain ⟨x, rfl, _⟩ := hV.cells (by omega)
              obtain ⟨y0, y1, y2, y3⟩ := bt_cells hV k hkm
              have hxl : x.block ≠ g := fun h9 => Nat.lt_irrefl _ (Nat.lt_of_lt_of_le (h9 ▸ hgl) (hfar x rfl).1)
              have hln := last_next bs k (by have := hV.len_; omega) z
              generalize bs.getD k noBt = y at *
              generalize (bs.take k).getLast?.getD z = z0 at *
              have hkz : (k : Int) < (m : Int) := by omega
              have hLa := hL.grow K ((Below.refl _ wr).alloc (Nat.le_refl _) (.cells (btC y) 40))
              have hVa := hV.alloc (.cells (btC y) 40)
              have hNa := Has.new wr 40 (btC y)
              have hLb := hLa.told K y
              have hVb := hVa.kept (kept_put4 (b := g) (Kept.refl [g] _) (.inl (by simp)) (.int .i64 y.1) (.int .i64 y.2.1) (.int .i64 y.2.2.1) (.bool y.2.2.2)) (fun _ x' hx' => by injection hx' with hx'; subst hx'; simpa using hxl)
              unfold btC at hNa
              have q0 := hNa.cell 0
              have q1 := hNa.cell 1
              have q2 := hNa.cell 2
              have q3 := hNa.cell 3
              have hla := hLa.last
              unfold btC at hla
              have r0 := hla.cell 0
              have r1 := hla.cell 1
              have r2 := hla.cell 2
              have r3 := hla.cell 3
              have s0 := hla.frozen 0
              have s1 := hla.frozen 1
              have s2 := hla.frozen 2
              have s3 := hla.frozen 3
              unfold btC at hLb hVb
              clear hV hL hLa hVa hNa hla
              go_wp2
              go_roundw
              case rel => exact ⟨k + 1, by omega, by go_num, by push_cast; rw [Int.add_assoc], hVb, by rw [hln]; exact hLb⟩
              case measure => simp [intOf]; omega
            · obtain rfl : k = m := by omega
              rw [List.take_of_length_le (by have := hV.len_; omega)] at hL
              go_wp2
              go_roundw
              case rel => exact ⟨i + 1, S', by omega, by go_num, by rw [hnext1], by rw [hnext2, hnext3]; exact hL⟩
              case measure => simp [intOf]; omega
        · skip
          have hpu := fun W (h : Det W b S d) => K.push_any W b S d (i : Int) (0, 0, 0, 0) h (by rw [hnw]; omega) (by unfold fits64; omega) (by show fits64 0; unfold fits64; omega) (by show fits64 0; unfold fits64; omega)
          dsimp only at hpu hnext1 hnext2 hnext3
          obtain ⟨bs, hbs⟩ : ∃ bs, (stepT d (i : Int) 0 0).1 = bs := ⟨_, rfl⟩
          obtain ⟨d', hd'⟩ : ∃ d', (stepT d (i : Int) 0 0).2 = d' := ⟨_, rfl⟩
          obtain ⟨m, hm⟩ : ∃ m, bs.length = m := ⟨_, rfl⟩
          rw [hbs, hm] at hnext1
          rw [hd'] at hnext2
          rw [hbs] at hnext3
          rw [hbs, hd', hm] at hpu
          have hm2 : m ≤ 2 := by rw [← hm, ← hbs]; exact step_len _ _ _ _
          clear hbs hd' hm hnw
          have hatA := hat.grow K ((Below.refl _ wr).alloc (Nat.le_refl _) (.cells #[.int .i64 0, .int .i64 0, .int .i64 0, .int .i64 0] 28))
          have hNA := Has.new wr 28 #[.int .i64 0, .int .i64 0, .int .i64 0, .int .i64 0]
          have w0 := hNA.cell 0
          have w1 := hNA.cell 1
          have w2 := hNA.cell 2
          have w3 := hNA.cell 3
          have hpA := hpu _ hatA.det
          have hgl := hatA.last.lt
          unfold wvV at hpA
          clear hpu hNA hat
          go_wp2_with (go_at_call 14; (go_must (refine Calls.mono (by exact hpA) ?_); rintro e W4 ⟨B, S', c, rfl, hmc, hV, hD, hnw, hfar, hK⟩))
          have hL1 := hatA.pushed hD hnw hK
          clear hpA hatA hD hnw hK w0 w1 w2 w3
          go_loopw [2, 28] (fun n i wr => ∃ k : Nat, k ≤ m ∧ i = .int .i64 (k : Nat) ∧ n = .int .i64 (n0 + (k : Int)) ∧ Row.Vals btS wr B m bs ∧ Lv Det w b g S' d' ((bs.take k).getLast?.getD z) wr) (fun _ i _ => m - (intOf i).toNat)
          case atStart => exact ⟨0, by omega, rfl, by simp, hV, hL1⟩
          case round =>
            clear hL1 hV
            obtain ⟨k, hk, rfl, rfl, hV, hL⟩ := hrel
            by_cases hkm : k < m
            · obtain ⟨x, rfl, _⟩ := hV.cells (by omega)
              obtain ⟨y0, y1, y2, y3⟩ := bt_cells hV k hkm
              have hxl : x.block ≠ g := fun h9 => Nat.lt_irrefl _ (Nat.lt_of_lt_of_le (h9 ▸ hgl) (hfar x rfl).1)
              have hln := last_next bs k (by have := hV.len_; omega) z
              generalize bs.getD k noBt = y at *
              generalize (bs.take k).getLast?.getD z = z0 at *
              have hkz : (k : Int) < (m : Int) := by omega
              have hLa := hL.grow K ((Below.refl _ wr).alloc (Nat.le_refl _) (.cells (btC y) 40))
              have hVa := hV.alloc (.cells (btC y) 40)
              have hNa := Has.new wr 40 (btC y)
              have hLb := hLa.told K y
              have hVb := hVa.kept (kept_put4 (b := g) (Kept.refl [g] _) (.inl (by simp)) (.int .i64 y.1) (.int .i64 y.2.1) (.int .i64 y.2.2.1) (.bool y.2.2.2)) (fun _ x' hx' => by injection hx' with hx'; subst hx'; simpa using hxl)
              unfold btC at hNa
              have q0 := hNa.cell 0
              have q1 := hNa.cell 1
              have q2 := hNa.cell 2
              have q3 := hNa.cell 3
              have hla := hLa.last
              unfold btC at hla
              have r0 := hla.cell 0
              have r1 := hla.cell 1
              have r2 := hla.cell 2
              have r3 := hla.cell 3
              have s0 := hla.frozen 0
              have s1 := hla.frozen 1
              have s2 := hla.frozen 2
              have s3 := hla.frozen 3
              unfold btC at hLb hVb
              clear hV hL hLa hVa hNa hla
              go_wp2
              go_roundw
              case rel => exact ⟨k + 1, by omega, by go_num, by push_cast; rw [Int.add_assoc], hVb, by rw [hln]; exact hLb⟩
              case measure => simp [intOf]; omega
            · obtain rfl : k = m := by omega
              rw [List.take_of_length_le (by have := hV.len_; omega)] at hL
              go_wp2
              go_roundw
              case rel => exact ⟨i + 1, S', by omega, by go_num, by rw [hnext1], by rw [hnext2, hnext3]; exact hL⟩
              case measure => simp [intOf]; omega
    · have hii : i = 1000 := by omega
      have hiz : ¬ (i : Int) < 1000 := by omega
      have hn6 : (liveT i).1 = 6 := by rw [hii]; exact live_out.1
      have hlast : (liveT i).2.1 = (912, 955, 100, false) := by rw [hii]; exact live_out.2
      rw [hn6]
      rw [hlast] at hat
      have hla := hat.last
      unfold btC at hla
      have r0 := hla.cell 0
      have r1 := hla.cell 1
      have r2 := hla.cell 2
      have r3 := hla.cell 3
      have hg := fun (W : World) (x y : Operand) => guard_eql W x y 912 955 100 912 955 100 false false
      have hc : ∀ W : World, (binOp .eql 40 (.agg #[.int .i64 912, .int .i64 955, .int .i64 100, .bool false]) (.agg #[.int .i64 912, .int .i64 955, .int .i64 100, .bool false])).run Try.prog W = .ok (.bool true) W := fun W => by rw [eql_bt]; simp
      clear hn6 hlast hii hi2 hi
      go_wp2
      go_ret
      exact ⟨rfl, hat.below⟩
end Go.Proofs.Ytnoppoimahfknaa.Qrs
end
section
/- QrsNobody and QrsQuiet, over whatever a detector's calls answer. -/
set_option linter.unusedSimpArgs false
set_option linter.unusedVariables false
namespace Go.Proofs.Ytnoppoimahfknaa.Qrs
open Go.RowKit
theorem eql_lv (W : World) (a b a' b' : Int) : (binOp .eql 33 (.agg #[.int .i64 a, .int .i64 b]) (.agg #[.int .i64 a', .int .i64 b'])).run Try.prog W = .ok (.bool (decide (a = a' ∧ b = b'))) W := by
  have ht : Try.prog.underlying 33 = some (.struct (Try.prog.fieldsOf 33)) := by kernel_rfl
  have hst : Try.prog.stoodInHeld 33 = false := by kernel_rfl
  rw [run_eql_struct, run_equalIn_agg W 9999 33 _ _ ht hst]
  simp only [Program.fieldsOf, Try.underlying33]
  simp [go_sem, Op.eqFields]
  by_cases h1 : a = a' <;> by_cases h2 : b = b' <;> simp [h1, h2]
theorem guard_lv (W : World) (x y : Operand) (a b a' b' : Int) : (eqGuard .eql 33 x y (.agg #[.int .i64 a, .int .i64 b]) (.agg #[.int .i64 a', .int .i64 b'])).run Try.prog W = .ok () W := run_eqGuard_agg W _ _ _ _ _ _ (by kernel_rfl)
set_option maxRecDepth 100000 in
set_option maxHeartbeats 2000000 in
theorem nobody_k {Det : World → Nat → List Nat → D → Prop} (K : QrsKit Det) (a0 : Int) (z1 : Wv) (w : World) :
    Calls Try.prog 7 #[.int .i64 a0, wvV z1] w fun e w' => e = .returned (.bool true) ∧ Below w.heap.size w w' := by
  obtain ⟨p, q, r, s⟩ := z1
  have hB0 := (Below.refl w.heap.size w).alloc (Nat.le_refl _) (.cells #[.int .i64 p, .int .i64 q, .int .i64 r, .int .i64 s] 28)
  have hH0 := Has.new w 28 #[.int .i64 p, .int .i64 q, .int .i64 r, .int .i64 s]
  have hli := fun W => live_k K W
  have h1 := fun W => K.no_reset W
  have h2 := fun W => K.no_push W a0 (p, q, r, s)
  have h3 := fun W => K.no_steps W
  have h4 := fun W => K.no_learning W
  have h5 := fun W => K.no_level W
  have h6 := fun W => K.no_mean W
  have hg := fun (W : World) (x y : Operand) => guard_lv W x y 0 0 0 0
  have hc : ∀ W : World, (binOp .eql 33 (.agg #[.int .i64 0, .int .i64 0]) (.agg #[.int .i64 0, .int .i64 0])).run Try.prog W = .ok (.bool true) W := fun W => by rw [eql_lv]; simp
  unfold wvV at h2 ⊢
  unfold Level.lvV at h5
  dsimp only at h2 h5 ⊢
  go_enter Try.func7, Try.ntmps7
  go_wp2_with (first
    | (go_at_call 17; ((with_reducible refine (h1 _).mono ?_); rintro e W1 ⟨rfl, hB⟩; have hB1 := hB0.trans (hB.mono hB0.size); have hH1 := hH0.below hB hH0.lt; have c0 := hH1.cell 0; have c1 := hH1.cell 1; have c2 := hH1.cell 2; have c3 := hH1.cell 3))
    | (go_at_call 14; ((with_reducible refine (h2 _).mono ?_); rintro e W2 ⟨B, c, rfl, hB⟩; have hB2 := hB1.trans (hB.mono hB1.size)))
    | (go_at_call 18; ((with_reducible refine (h3 _).mono ?_); rintro e W3 ⟨rfl, hB⟩; have hB3 := hB2.trans (hB.mono hB2.size)))
    | (go_at_call 15; ((with_reducible refine (h4 _).mono ?_); rintro e W4 ⟨rfl, hB⟩; have hB4 := hB3.trans (hB.mono hB3.size)))
    | (go_at_call 16; ((with_reducible refine (h5 _).mono ?_); rintro e W5 ⟨rfl, hB⟩; have hB5 := hB4.trans (hB.mono hB4.size)))
    | (go_at_call 19; ((with_reducible refine (h6 _).mono ?_); rintro e W6 ⟨rfl, hB⟩; have hB6 := hB5.trans (hB.mono hB5.size)))
    | (go_at_call 21; ((with_reducible refine (hli _).mono ?_); rintro e W7 ⟨rfl, hB⟩; have hB7 := hB6.trans (hB.mono hB6.size))))
  go_ret
  exact ⟨rfl, hB7⟩
/-- A detector, and all beneath. -/
structure Mn (Det : World → Nat → List Nat → D → Prop) (w : World) (b : Nat) (S : List Nat) (d : D) (W : World) : Prop where
  det : Det W b S d
  below : Below w.heap.size w W
  far : ∀ k ∈ S, w.heap.size ≤ k
theorem Mn.grow {Det : World → Nat → List Nat → D → Prop} (K : QrsKit Det) {w W W' : World} {b : Nat} {S : List Nat} {d : D} (h : Mn Det w b S d W) (hB : Below W.heap.size W W') : Mn Det w b S d W' := ⟨K.below h.det hB, h.below.trans (hB.mono h.below.size), h.far⟩
theorem Mn.pushed {Det : World → Nat → List Nat → D → Prop} {w W W' : World} {b : Nat} {S S' : List Nat} {d d' : D} (h : Mn Det w b S d W) (hD : Det W' b S' d') (hn : ∀ k ∈ S', k ∈ S ∨ W.heap.size ≤ k) (hK : Kept S W W') : Mn Det w b S' d' W' :=
  ⟨hD, below_kept h.below hK h.below.size h.far, fun k hk => by rcases hn k hk with h8 | h8; exact h.far k h8; exact Nat.le_trans h.below.size h8⟩
set_option maxRecDepth 100000 in
set_option maxHeartbeats 2000000 in
theorem quiet_k {Det : World → Nat → List Nat → D → Prop} (K : QrsKit Det) (a0 : Option Addr) (len0 cap0 : Nat) (z0 : List Int) (a1 : Int) (w : World) (w0 : IsRow .i16 w a0 len0 cap0 z0) (b1 : fits64 a1) :
    Calls Try.prog 5 #[.slice a0 len0 cap0, .int .i64 a1] w fun e w' => e = .returned (.bool true) ∧ Below w.heap.size w w' := by
  obtain ⟨hc1, hc2, hzl, hcells⟩ := row_first bounds_i16 w0 len0 (Nat.le_refl _)
  clear w0
  generalize z0.take len0 = zs at *
  have hli := fun W => live_k K W
  have hnew := K.new_any w
  obtain ⟨p, hp⟩ : ∃ p, min len0 1200 = p := ⟨_, rfl⟩
  have hmin : (if (1200 : Int) < (len0 : Int) then (1200 : Int) else (len0 : Int)) = (p : Int) := by split <;> omega
  have hmin2 : (if 1200 < len0 then (1200 : Int) else (len0 : Int)) = (p : Int) := by split <;> omega
  go_enter Try.func5, Try.ntmps5
  go_wp2_with (go_at_call 12; ((with_reducible refine hnew.mono ?_); rintro e W1 ⟨b, S, rfl, hP, hfar, hB1⟩))
  have hat0 : Mn Det w b S noD W1 := ⟨hP, hB1, hfar⟩
  clear hP hB1 hfar hnew
  go_loopw [9] (fun i wr => ∃ (j : Nat) (S : List Nat) (d : D), j ≤ 900 ∧ i = .int .i64 (j : Nat) ∧ d.n = (j : Int) ∧ Still d ∧ Mn Det w b S d wr) (fun i _ => 900 - (intOf i).toNat)
  case atStart => exact ⟨0, S, noD, by omega, rfl, rfl, still_no, hat0⟩
  case round =>
    clear hat0
    obtain ⟨j, S, d, hj, rfl, hdn, hst, hat⟩ := hrel
    by_cases hj9 : j < 900
    · have hjz : (j : Int) < 900 := by omega
      have hround : ∀ (W : World) (s : Int), -32768 ≤ s ∧ s ≤ 32767 → Mn Det w b S d W → Calls Try.prog 14 #[.pointer (some ⟨b, 0, none⟩), .int .i64 a1, .agg #[.int .i64 0, .int .i64 s, .int .i64 0, .int .i64 0]] W
          fun e w' => ∃ (B : Option Addr) (c : Nat) (S' : List Nat) (d' : D), e = .returned (.slice B 0 c) ∧ d'.n = (j : Int) + 1 ∧ Still d' ∧ Mn Det w b S' d' w' := fun W s hs h => by
        have h1 := K.push_any W b S d a1 (0, s, 0, 0) h.det (by omega) b1 (by show fits64 s; unfold fits64; omega) (by show fits64 0; unfold fits64; omega)
        obtain ⟨e1, e2⟩ := still_step d a1 s hst
        have e3 := step_n d a1 0 s
        dsimp only at h1
        rw [e1] at h1
        refine h1.mono ?_
        rintro e w' ⟨B, S', c, rfl, _, _, hD, hn, _, hK⟩
        exact ⟨B, c, S', _, rfl, by rw [e3, hdn], e2, h.pushed hD hn hK⟩
      have hH := fun s : Int => Has.new wr 28 #[.int .i64 0, .int .i64 s, .int .i64 0, .int .i64 0]
      have hA := fun s : Int => hat.grow K ((Below.refl _ wr).alloc (Nat.le_refl _) (.cells #[.int .i64 0, .int .i64 s, .int .i64 0, .int .i64 0] 28))
      by_cases h0 : len0 = 0
      · have hl0 : ¬ (0 : Int) < (len0 : Int) := by omega
        have hl1 : ¬ 0 < len0 := by omega
        have hpu := hround _ 0 (by omega) (hA 0)
        have c0 := (hH 0).cell 0
        have c1 := (hH 0).cell 1
        have c2 := (hH 0).cell 2
        have c3 := (hH 0).cell 3
        clear hcells hround hA hH h0 hp hmin hmin2
        go_wp2_with (go_at_call 14; (go_must (refine Calls.mono (by exact hpu) ?_); rintro e W2 ⟨B, c, S', d', rfl, hdn', hst', hat'⟩))
        go_roundw
        case rel => exact ⟨j + 1, S', d', by omega, by go_num, by rw [hdn']; push_cast; rfl, hst', hat'⟩
        case measure => simp [intOf]; omega
      · have hl0 : (0 : Int) < (len0 : Int) := by omega
        have hl1 : 0 < len0 := by omega
        have hpp : 0 < p := by omega
        have hpz : ¬ (p : Int) = 0 := by omega
        obtain ⟨x, rfl, hcx⟩ := hcells (by omega)
        obtain ⟨m, hm⟩ : ∃ m : Nat, j % p = m := ⟨_, rfl⟩
        have hml : m < p := by rw [← hm]; exact Nat.mod_lt _ hpp
        have hmt : (j : Int).tmod (p : Int) = (m : Int) := by rw [Int.tmod_eq_emod_of_nonneg (by omega), ← hm]; rfl
        have hme : (j : Int) % (p : Int) = (m : Int) := by rw [← hm]; rfl
        have hmz : (m : Int) < (len0 : Int) := by omega
        obtain ⟨hcell0, hv1, hv2⟩ := hcx m (by omega)
        have hcell := (hat.below.cell (World.block_lt_of_cell? _ _ hcell0)).trans hcell0
        have hcell1 := (Has.new wr 28 #[.int .i64 0, .int .i64 0, .int .i64 0, .int .i64 0])
        generalize zs.getD m 0 = v at *
        have hcellA : (wr.alloc (.cells #[.int .i64 0, .int .i64 0, .int .i64 0, .int .i64 0] 28)).cell? (x.add m) = some (.int .i16 v) := (Below.cell ((Below.refl _ wr).alloc (Nat.le_refl _) _) (World.block_lt_of_cell? _ _ hcell)).trans hcell
        have hpu := hround _ v (by omega) (hA v)
        have c0 := (hH v).cell 0
        have c1 := (hH v).cell 1
        have c2 := (hH v).cell 2
        have c3 := (hH v).cell 3
        clear hcells hround hA hH h0 hp hcx hm hcell0
        go_wp2_with (go_at_call 14; (go_must (refine Calls.mono (by exact hpu) ?_); rintro e W2 ⟨B, c, S', d', rfl, hdn', hst', hat'⟩))
        go_roundw
        case rel => exact ⟨j + 1, S', d', by omega, by go_num, by rw [hdn']; push_cast; rfl, hst', hat'⟩
        case measure => simp [intOf]; omega
    · have hjz : ¬ (j : Int) < 900 := by omega
      have hle := fun W h => K.learning_any W b S d h
      rw [show decide (d.n ≤ 400) = false by simp; omega] at hle
      clear hcells hmin hmin2 hp
      go_wp2_with (first
        | (go_at_call 15; ((with_reducible refine (hle _ hat.det).mono ?_); rintro e W8 ⟨rfl, hB⟩; replace hat := hat.grow K hB; clear hB))
        | (go_at_call 21; ((with_reducible refine (hli _).mono ?_); rintro e W9 ⟨rfl, hB⟩; replace hat := hat.grow K hB; clear hB)))
      go_ret
      exact ⟨rfl, hat.below⟩
end Go.Proofs.Ytnoppoimahfknaa.Qrs
end
section
/- A ring of int64: taking things out. -/
set_option linter.unusedSimpArgs false
set_option linter.unusedVariables false
namespace Go.Proofs.Ytnoppoimahfknaa.RI64
open Go.RowKit

theorem pop_no (b : Nat) (w : World) (h2 : w.cell? ⟨b, 2, none⟩ = some (.int .i64 0)) :
    Calls Try.prog 93 #[.pointer (some ⟨b, 0, none⟩)] w fun e w' => e = .returned (.tuple #[.int .i64 0, .bool false]) ∧ w = w' := by
  have hat := at_no b 0 0 w (.inr (by omega)) h2
  go_enter Try.func93, Try.ntmps93
  go_wp2_with (go_at_call 95; ((with_reducible refine hat.mono ?_); rintro e w' ⟨rfl, rfl⟩))
  go_ret2
  exact ⟨rfl, rfl⟩
theorem pop_yes (b g n q f : Nat) (cs xs : List Int) (w : World) (h : Ring w b g n q f cs xs) (hx : 0 < xs.length) :
    Calls Try.prog 93 #[.pointer (some ⟨b, 0, none⟩)] w fun e w' => e = .returned (.tuple #[.int .i64 (xs.getD 0 0), .bool true]) ∧ Became w b g n q ((f + 1) % n) (xs.drop 1) w' := by
  have hat := at_yes b g n q f cs xs 0 w h hx
  rw [show ((0 : Nat) : Int) = 0 from rfl] at hat
  obtain ⟨v, hv⟩ : ∃ v, xs.getD 0 0 = v := ⟨_, rfl⟩
  rw [hv] at hat ⊢
  clear hv
  have hdr : ∀ W, Ring W b g n q f cs xs → Calls Try.prog 96 #[.pointer (some ⟨b, 0, none⟩), .int .i64 1] W fun e w' => e = .returned (.tuple #[]) ∧ Became W b g n q ((f + 1) % n) (xs.drop 1) w' := fun W hW => drop_any b g n q f cs xs 1 W hW hx
  go_enter Try.func93, Try.ntmps93
  go_wp2_with (first
    | (go_at_call 95; ((with_reducible refine hat.mono ?_); rintro e w' ⟨rfl, kk, rfl⟩))
    | (go_at_call 96; ((with_reducible refine (hdr _ (by exact h.same rfl)).mono ?_); rintro e w' ⟨rfl, hB⟩)))
  go_ret2
  obtain ⟨cs', hR, hT⟩ := hB
  exact ⟨rfl, cs', hR, ((Turned.refl b g w).drewN kk).trans hT⟩

end Go.Proofs.Ytnoppoimahfknaa.RI64
end
section
/- The landed finder of peaks: what its memory holds, and what its calls answer and do. -/
set_option linter.unusedSimpArgs false
set_option linter.unusedVariables false
namespace Go.Proofs.Ytnoppoimahfknaa.Peak
open Go.RowKit
/-- A finder's cells, when it stands so, with this in the valley's place, at step n. -/
def cellsT (s : St) (v n : Int) : Array Value := match s with
  | .falls _ => #[.int .i64 0, .int .i64 0, .int .i64 0, .int .i64 v, .bool false, .int .i64 n]
  | .rises t a p => #[.int .i64 a, .int .i64 t, .int .i64 p, .int .i64 v, .bool true, .int .i64 n]
/-- What may stand there. -/
def Ok (v : Int) : St → Prop
  | .falls none => v = 62914560
  | .falls (some u) => v = u ∧ 0 ≤ u ∧ u ≤ 62914560
  | .rises t a p => fits64 a ∧ 64 < t ∧ t ≤ 62914560 ∧ 0 ≤ p ∧ p ≤ 107136
/-- Block b is a finder that stands so, at step n. -/
def Fil (w : World) (b : Nat) (s : St) (n : Int) : Prop := ∃ v, Has w b 107 (cellsT s v n) ∧ Ok v s
section
variable {w w' : World} {b : Nat} {s : St} {n : Int}
theorem Fil.lt (h : Fil w b s n) : b < w.heap.size := by obtain ⟨v, h1, _⟩ := h; exact h1.lt
theorem Fil.kept {T : List Nat} (h : Fil w b s n) (hK : Kept T w w') (hb : b ∉ T) : Fil w' b s n := by obtain ⟨v, h1, h2⟩ := h; exact ⟨v, hK.has h1 hb, h2⟩
theorem Fil.below (h : Fil w b s n) (hB : Below w.heap.size w w') : Fil w' b s n := h.kept (Kept.of_below (S := []) hB) (by simp)
theorem Fil.drewN (h : Fil w b s n) (z : Nat) : Fil (w.drewN z) b s n := h
theorem Fil.alloc (h : Fil w b s n) (o : Obj) : Fil (w.alloc o) b s n := h.kept ((Kept.refl [] w).alloc o) (by simp)
end
/-- A peak's four numbers; 0 where there is none. -/
def nums : Option Pk → Pk
  | none => (0, 0, 0, 0)
  | some q => q
/-- A peak, as a value; where there is none it is all 0. -/
def pkV (o : Option Pk) : Value := .agg #[.int .i64 (nums o).1, .int .i64 (nums o).2.1, .int .i64 (nums o).2.2.1, .int .i64 (nums o).2.2.2]
theorem steep_two (p d : Int) (h : 0 ≤ p) : Slope.steepT [p, d] = more p (Slope.distT d) := by
  have h1 : Slope.distT p = p := by unfold Slope.distT; rw [if_neg (by omega), if_neg (by omega)]
  simp only [Slope.steepT, h1, more]
  repeat' split
  all_goals omega
theorem near_clamp (d : Int) : clampZ d (-107136) 107136 = nearTo 107136 d := by unfold clampZ nearTo; repeat' split; all_goals omega
theorem Has.put4 {w : World} {b : Nat} {t : TypeId} {u0 u1 u2 u3 : Value} (h : Has w b t #[u0, u1, u2, u3]) (x0 x1 x2 x3 : Value) :
    Has ((((w.setCell ⟨b, 0, none⟩ x0).setCell ⟨b, 1, none⟩ x1).setCell ⟨b, 2, none⟩ x2).setCell ⟨b, 3, none⟩ x3) b t #[x0, x1, x2, x3] := by
  have := (((h.set_ 0 x0).set_ 1 x1).set_ 2 x2).set_ 3 x3
  simpa using this
set_option maxHeartbeats 1000000 in
theorem climb_k (y : Nat) (a t p v : Int) (r : Bool) (n step x d : Int) (w : World) (hH : Has w y 107 #[.int .i64 a, .int .i64 t, .int .i64 p, .int .i64 v, .bool r, .int .i64 n]) (hp : 0 ≤ p ∧ p ≤ 107136) (hd : -107136 ≤ d ∧ d ≤ 107136) :
    Calls Try.prog 58 #[.pointer (some ⟨y, 0, none⟩), .int .i64 step, .int .i64 x, .int .i64 d] w fun e w' => e = .returned (.tuple #[]) ∧
      Has w' y 107 #[.int .i64 (if t < x then step else a), .int .i64 (if t < x then x else t), .int .i64 (more p (Slope.distT d)), .int .i64 v, .bool r, .int .i64 n] ∧ Kept [y] w w' := by
  have hV : RI64.Vals (w.alloc (.cells #[.int .i64 p, .int .i64 d] 2)) (some ⟨w.heap.size, 0, none⟩) 2 [p, d] := RI64.Vals.has (ys := [p, d]) (tl := []) (Has.new w _ _)
  have hs := Slope.steepest_any _ 2 2 [p, d] _ hV (by omega) (by intro u hu; unfold fits64; simp at hu; omega)
  rw [steep_two p d hp.1] at hs
  generalize more p (Slope.distT d) = q at *
  have hH0 := hH.alloc (.cells #[.int .i64 p, .int .i64 d] 2)
  have hK0 := (Kept.refl [y] w).alloc (.cells #[.int .i64 p, .int .i64 d] 2)
  have c2 := hH.cell 2
  have d2 := hH0.cell 2
  have f2 := hH0.frozen 2
  clear hV hp hd
  have hH1 : ∀ W, Has W y 107 #[.int .i64 a, .int .i64 t, .int .i64 p, .int .i64 v, .bool r, .int .i64 n] → Has (W.setCell ⟨y, 2, none⟩ (.int .i64 q)) y 107 #[.int .i64 a, .int .i64 t, .int .i64 q, .int .i64 v, .bool r, .int .i64 n] := fun W h => by
    have h9 := h.set_ 2 (.int .i64 q)
    simpa using h9
  have e1 := (hH1 _ hH0).cell 1
  have e0 := (hH1 _ hH0).cell 0
  have g0 := (hH1 _ hH0).frozen 0
  have g1 := (hH1 _ hH0).frozen 1
  by_cases ht : t < x
  · rw [if_pos ht, if_pos ht]
    go_enter Try.func58, Try.ntmps58
    go_wp2_with (go_at_call 75; ((with_reducible refine hs.mono ?_); rintro e w1 ⟨rfl, rfl⟩))
    go_end0
    refine ⟨rfl, ?_, ((hK0.setCell (p := ⟨y, 2, none⟩) (.inl (by simp)) _).setCell (p := ⟨y, 0, none⟩) (.inl (by simp)) _).setCell (p := ⟨y, 1, none⟩) (.inl (by simp)) _⟩
    have h9 := ((hH1 _ hH0).set_ 0 (.int .i64 step)).set_ 1 (.int .i64 x)
    simpa using h9
  · rw [if_neg ht, if_neg ht]
    go_enter Try.func58, Try.ntmps58
    go_wp2_with (go_at_call 75; ((with_reducible refine hs.mono ?_); rintro e w1 ⟨rfl, rfl⟩))
    go_end0
    exact ⟨rfl, hH1 _ hH0, hK0.setCell (p := ⟨y, 2, none⟩) (.inl (by simp)) _⟩
theorem turn_k (y : Nat) (a t p v : Int) (r : Bool) (n u : Int) (w : World) (hH : Has w y 107 #[.int .i64 a, .int .i64 t, .int .i64 p, .int .i64 v, .bool r, .int .i64 n]) :
    Calls Try.prog 60 #[.pointer (some ⟨y, 0, none⟩), .int .i64 u] w fun e w' => e = .returned (.tuple #[]) ∧
      Has w' y 107 #[.int .i64 0, .int .i64 0, .int .i64 0, .int .i64 u, .bool false, .int .i64 n] ∧ Kept [y] w w' := by
  have c3 := hH.cell 3
  have c4 := hH.cell 4
  have f3 := hH.frozen 3
  have f4 := hH.frozen 4
  have h1 := (hH.set_ 4 (.bool false)).set_ 3 (.int .i64 u)
  have c0 := h1.cell 0
  have c1 := h1.cell 1
  have c2 := h1.cell 2
  have f0 := h1.frozen 0
  have f1 := h1.frozen 1
  have f2 := h1.frozen 2
  simp at c0 c1 c2
  go_enter Try.func60, Try.ntmps60
  go_wp2
  go_end0
  have h9 := ((h1.set_ 0 (.int .i64 0)).set_ 1 (.int .i64 0)).set_ 2 (.int .i64 0)
  refine ⟨rfl, by simpa using h9, ?_⟩
  repeat' apply Kept.setCell
  · exact Kept.refl _ _
  all_goals exact .inl (by simp)
theorem more_zero (d : Int) (h : 0 ≤ d) : more 0 d = d := by unfold more; split <;> omega
set_option maxHeartbeats 1000000 in
theorem fall_k (y : Nat) (v n step x d : Int) (w : World) (hH : Has w y 107 #[.int .i64 0, .int .i64 0, .int .i64 0, .int .i64 v, .bool false, .int .i64 n]) (hv : 0 ≤ v ∧ v ≤ 62914560) (hx : 0 ≤ x ∧ x ≤ 62914560) (hd : -107136 ≤ d ∧ d ≤ 107136) (hdd : 0 ≤ Slope.distT d) :
    Calls Try.prog 57 #[.pointer (some ⟨y, 0, none⟩), .int .i64 step, .int .i64 x, .int .i64 d] w fun e w' => e = .returned (.tuple #[]) ∧
      Has w' y 107 (if 2 * (if x < v then x else v) + 64 < x then #[.int .i64 step, .int .i64 x, .int .i64 (Slope.distT d), .int .i64 (if x < v then x else v), .bool true, .int .i64 n]
        else #[.int .i64 0, .int .i64 0, .int .i64 0, .int .i64 (if x < v then x else v), .bool false, .int .i64 n]) ∧ Kept [y] w w' := by
  have low : ∀ u, 0 ≤ u ∧ u ≤ 62914560 → ((x < v ∧ u = x) ∨ (¬ x < v ∧ u = v)) → Calls Try.prog 57 #[.pointer (some ⟨y, 0, none⟩), .int .i64 step, .int .i64 x, .int .i64 d] w fun e w' => e = .returned (.tuple #[]) ∧
      Has w' y 107 (if 2 * u + 64 < x then #[.int .i64 step, .int .i64 x, .int .i64 (Slope.distT d), .int .i64 u, .bool true, .int .i64 n] else #[.int .i64 0, .int .i64 0, .int .i64 0, .int .i64 u, .bool false, .int .i64 n]) ∧ Kept [y] w w' := by
    intro u hu2 hux
    have c3 := hH.cell 3
    have f3 := hH.frozen 3
    have h1 : Has (w.setCell ⟨y, 3, none⟩ (.int .i64 u)) y 107 #[.int .i64 0, .int .i64 0, .int .i64 0, .int .i64 u, .bool false, .int .i64 n] := by
      have h9 := hH.set_ 3 (.int .i64 u)
      simpa using h9
    have k1 := (Kept.refl [y] w).setCell (p := ⟨y, 3, none⟩) (.inl (by simp)) (.int .i64 u)
    have d3 := h1.cell 3
    have d4 := h1.cell 4
    have g4 := h1.frozen 4
    by_cases hr : 2 * u + 64 < x
    · rw [if_pos hr]
      have h2 : Has ((w.setCell ⟨y, 3, none⟩ (.int .i64 u)).setCell ⟨y, 4, none⟩ (.bool true)) y 107 #[.int .i64 0, .int .i64 0, .int .i64 0, .int .i64 u, .bool true, .int .i64 n] := by
        have h9 := h1.set_ 4 (.bool true)
        simpa using h9
      have k2 := k1.setCell (p := ⟨y, 4, none⟩) (.inl (by simp)) (.bool true)
      have hc := climb_k y 0 0 0 u true n step x d _ h2 (by omega) hd
      rw [if_pos (by omega), if_pos (by omega), more_zero _ hdd] at hc
      obtain ⟨hxv, rfl⟩ : ¬ x < v ∧ u = v := by omega
      clear hux
      go_enter Try.func57, Try.ntmps57
      go_wp2_with (go_at_call 58; ((refine Calls.mono (by exact hc) ?_); rintro e w1 ⟨rfl, hH3, hK3⟩))
      go_end0
      exact ⟨rfl, hH3, k2.trans hK3⟩
    · rw [if_neg hr]
      rcases hux with ⟨hxv, rfl⟩ | ⟨hxv, rfl⟩
      all_goals
        go_enter Try.func57, Try.ntmps57
        go_wp2
        exact bodyPost_ret (results_none rfl _ _ _) rfl ⟨rfl, h1, k1⟩
  refine low (if x < v then x else v) (by split <;> omega) (by by_cases hxv : x < v <;> simp [hxv])
set_option maxHeartbeats 1000000 in
theorem seen_k (y : Nat) (a t p v : Int) (r : Bool) (n step : Int) (w : World) (hH : Has w y 107 #[.int .i64 a, .int .i64 t, .int .i64 p, .int .i64 v, .bool r, .int .i64 n]) :
    Calls Try.prog 59 #[.pointer (some ⟨y, 0, none⟩), .int .i64 step] w fun e w' => e = .returned (.agg #[.int .i64 a, .int .i64 step, .int .i64 t, .int .i64 p]) ∧ Below w.heap.size w w' := by
  go_enter Try.func59, Try.ntmps59
  go_wp2
  obtain ⟨W0, hW0⟩ : ∃ W0, w.alloc (.cells #[.int .i64 0, .int .i64 0, .int .i64 0, .int .i64 0] 84) = W0 := ⟨_, rfl⟩
  have hR0 : Has W0 w.heap.size 84 #[.int .i64 0, .int .i64 0, .int .i64 0, .int .i64 0] := by rw [← hW0]; exact Has.new w _ _
  have hH0 : Has W0 y 107 #[.int .i64 a, .int .i64 t, .int .i64 p, .int .i64 v, .bool r, .int .i64 n] := by rw [← hW0]; exact hH.alloc _
  have hB0 : Below w.heap.size w W0 := by rw [← hW0]; exact (Below.refl _ w).alloc (Nat.le_refl _) _
  rw [hW0]
  clear hW0
  have hlt := hH.lt
  have hRd := hR0.drew
  refine Reg.begin_ (S := fun W => W.cell? ⟨y, 0, none⟩ = some (.int .i64 a) ∧ W.cell? ⟨y, 1, none⟩ = some (.int .i64 t) ∧ W.cell? ⟨y, 2, none⟩ = some (.int .i64 p)) (by kernel_rfl) (by exact ⟨hH0.cell 0, hH0.cell 1, hH0.cell 2⟩) (fun hHeld => ?_)
  refine Reg.take (i := 0) (v := ?v1) rfl (by kernel_rfl) (by kernel_rfl) (by kernel_rfl) (by rfl) ?hv1 (by assumption) ?rest1
  case hv1 => first | (intro w hSw; (try dsimp only at hSw); go_simp; done) | (intro w hSw; (try dsimp only at hSw); go_simp; with_reducible rfl)
  (try simp only [Act.put, List.setIfInBounds_toArray, List.set_cons_zero, List.set_cons_succ])
  refine Reg.take (i := 1) (v := ?v2) rfl (by kernel_rfl) (by kernel_rfl) (by kernel_rfl) (by rfl) ?hv2 (by assumption) ?rest2
  case hv2 => first | (intro w hSw; (try dsimp only at hSw); go_simp; done) | (intro w hSw; (try dsimp only at hSw); go_simp; with_reducible rfl)
  (try simp only [Act.put, List.setIfInBounds_toArray, List.set_cons_zero, List.set_cons_succ])
  refine Reg.take (i := 2) (v := ?v3) rfl (by kernel_rfl) (by kernel_rfl) (by kernel_rfl) (by rfl) ?hv3 (by assumption) ?rest3
  case hv3 => first | (intro w hSw; (try dsimp only at hSw); go_simp; done) | (intro w hSw; (try dsimp only at hSw); go_simp; with_reducible rfl)
  (try simp only [Act.put, List.setIfInBounds_toArray, List.set_cons_zero, List.set_cons_succ])
  refine Reg.take (i := 3) (v := ?v4) rfl (by kernel_rfl) (by kernel_rfl) (by kernel_rfl) (by rfl) ?hv4 (by assumption) ?rest4
  case hv4 => first | (intro w hSw; (try dsimp only at hSw); go_simp; done) | (intro w hSw; (try dsimp only at hSw); go_simp; with_reducible rfl)
  (try simp only [Act.put, List.setIfInBounds_toArray, List.set_cons_zero, List.set_cons_succ])
  refine Reg.take (i := 4) (v := ?v5) rfl (by kernel_rfl) (by kernel_rfl) (by kernel_rfl) (by rfl) ?hv5 (by assumption) ?rest5
  case hv5 => first | (intro w hSw; (try dsimp only at hSw); go_simp; done) | (intro w hSw; (try dsimp only at hSw); go_simp; with_reducible rfl)
  (try simp only [Act.put, List.setIfInBounds_toArray, List.set_cons_zero, List.set_cons_succ])
  refine Reg.take (i := 5) (v := ?v6) rfl (by kernel_rfl) (by kernel_rfl) (by kernel_rfl) (by rfl) ?hv6 (by assumption) ?rest6
  case hv6 => first | (intro w hSw; (try dsimp only at hSw); go_simp; done) | (intro w hSw; (try dsimp only at hSw); go_simp; with_reducible rfl)
  (try simp only [Act.put, List.setIfInBounds_toArray, List.set_cons_zero, List.set_cons_succ])
  refine Reg.take (i := 6) (v := ?v7) rfl (by kernel_rfl) (by kernel_rfl) (by kernel_rfl) (by rfl) ?hv7 (by assumption) ?rest7
  case hv7 => first | (intro w hSw; (try dsimp only at hSw); go_simp; done) | (intro w hSw; (try dsimp only at hSw); go_simp; with_reducible rfl)
  (try simp only [Act.put, List.setIfInBounds_toArray, List.set_cons_zero, List.set_cons_succ])
  refine Reg.take (i := 7) (v := ?v8) rfl (by kernel_rfl) (by kernel_rfl) (by kernel_rfl) (by rfl) ?hv8 (by assumption) ?rest8
  case hv8 => first | (intro w hSw; (try dsimp only at hSw); go_simp; done) | (intro w hSw; (try dsimp only at hSw); go_simp; with_reducible rfl)
  (try simp only [Act.put, List.setIfInBounds_toArray, List.set_cons_zero, List.set_cons_succ])
  refine Reg.take (i := 8) (v := ?v9) rfl (by kernel_rfl) (by kernel_rfl) (by kernel_rfl) (by rfl) ?hv9 (by assumption) ?rest9
  case hv9 => first | (intro w hSw; (try dsimp only at hSw); go_simp; done) | (intro w hSw; (try dsimp only at hSw); go_simp; with_reducible rfl)
  (try simp only [Act.put, List.setIfInBounds_toArray, List.set_cons_zero, List.set_cons_succ])
  refine Reg.take (i := 9) (v := ?v10) rfl (by kernel_rfl) (by kernel_rfl) (by kernel_rfl) (by rfl) ?hv10 (by assumption) ?rest10
  case hv10 => first | (intro w hSw; (try dsimp only at hSw); go_simp; done) | (intro w hSw; (try dsimp only at hSw); go_simp; with_reducible rfl)
  (try simp only [Act.put, List.setIfInBounds_toArray, List.set_cons_zero, List.set_cons_succ])
  refine Reg.take (i := 10) (v := ?v11) rfl (by kernel_rfl) (by kernel_rfl) (by kernel_rfl) (by rfl) ?hv11 (by assumption) ?rest11
  case hv11 => first | (intro w hSw; (try dsimp only at hSw); go_simp; done) | (intro w hSw; (try dsimp only at hSw); go_simp; with_reducible rfl)
  (try simp only [Act.put, List.setIfInBounds_toArray, List.set_cons_zero, List.set_cons_succ])
  refine Reg.take (i := 11) (v := ?v12) rfl (by kernel_rfl) (by kernel_rfl) (by kernel_rfl) (by rfl) ?hv12 (by assumption) ?rest12
  case hv12 => first | (intro w hSw; (try dsimp only at hSw); go_simp; done) | (intro w hSw; (try dsimp only at hSw); go_simp; with_reducible rfl)
  (try simp only [Act.put, List.setIfInBounds_toArray, List.set_cons_zero, List.set_cons_succ])
  refine Reg.take (i := 12) (v := ?v13) rfl (by kernel_rfl) (by kernel_rfl) (by kernel_rfl) (by rfl) ?hv13 (by assumption) ?rest13
  case hv13 => first | (intro w hSw; (try dsimp only at hSw); go_simp; done) | (intro w hSw; (try dsimp only at hSw); go_simp; with_reducible rfl)
  (try simp only [Act.put, List.setIfInBounds_toArray, List.set_cons_zero, List.set_cons_succ])
  refine Reg.take (i := 13) (v := ?v14) rfl (by kernel_rfl) (by kernel_rfl) (by kernel_rfl) (by rfl) ?hv14 (by assumption) ?rest14
  case hv14 => first | (intro w hSw; (try dsimp only at hSw); go_simp; done) | (intro w hSw; (try dsimp only at hSw); go_simp; with_reducible rfl)
  (try simp only [Act.put, List.setIfInBounds_toArray, List.set_cons_zero, List.set_cons_succ])
  clear hHeld
  have hHd := hH0.drew
  have hBd : Below w.heap.size w W0.drew := below_drewN hB0 1
  clear hR0 hH0 hB0
  generalize W0.drew = W1 at *
  refine Reg.call (i := 14) rfl (by kernel_rfl) (by rfl) ?_
  intro K hK
  have q0 := hRd.cell 0
  have q1 := hRd.cell 1
  have q2 := hRd.cell 2
  have q3 := hRd.cell 3
  have g0 := hRd.frozen 0
  have g1 := hRd.frozen 1
  have g2 := hRd.frozen 2
  have g3 := hRd.frozen 3
  have hR9 := Has.put4 hRd (.int .i64 a) (.int .i64 step) (.int .i64 t) (.int .i64 p)
  have hH9 : Has ((((W1.setCell ⟨w.heap.size, 0, none⟩ (.int .i64 a)).setCell ⟨w.heap.size, 1, none⟩ (.int .i64 step)).setCell ⟨w.heap.size, 2, none⟩ (.int .i64 t)).setCell ⟨w.heap.size, 3, none⟩ (.int .i64 p)) y 107 #[.int .i64 a, .int .i64 t, .int .i64 p, .int .i64 v, .bool r, .int .i64 n] :=
    (((hHd.far (p := ⟨w.heap.size, 0, none⟩) (by simp; omega) _).far (p := ⟨w.heap.size, 1, none⟩) (by simp; omega) _).far (p := ⟨w.heap.size, 2, none⟩) (by simp; omega) _).far (p := ⟨w.heap.size, 3, none⟩) (by simp; omega) _
  have hB9 := (((hBd.setCell (p := ⟨w.heap.size, 0, none⟩) (by simp) (.int .i64 a)).setCell (p := ⟨w.heap.size, 1, none⟩) (by simp) (.int .i64 step)).setCell (p := ⟨w.heap.size, 2, none⟩) (by simp) (.int .i64 t)).setCell (p := ⟨w.heap.size, 3, none⟩) (by simp) (.int .i64 p)
  go_simp
  refine hK.out _ _ (by exact ⟨hH9.cell 0, hH9.cell 1, hH9.cell 2⟩) (fun hHeld => ?_)
  clear hK K hHeld
  (try simp only [Act.put, List.setIfInBounds_toArray, List.set_cons_zero, List.set_cons_succ])
  refine Reg.done (by kernel_rfl) ?_ _
  have p0 := hR9.cell 0
  have p1 := hR9.cell 1
  have p2 := hR9.cell 2
  have p3 := hR9.cell 3
  go_wp2
  refine bodyPost_ret (v := .agg #[.int .i64 a, .int .i64 step, .int .i64 t, .int .i64 p]) (by simp [results, Try.results59, go_sem, p0, p1, p2, p3]) rfl ⟨rfl, hB9⟩
end Go.Proofs.Ytnoppoimahfknaa.Peak
end
