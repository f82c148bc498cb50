/- The reference of layer 22: its state as a value; turn. -/
import Derived.Test.YtpmjgomfjfhfkaaRhythmKit
import Derived.Test.YtpmjgomfjfhfkaaArgsJ
import Derived.Test.YtpmjgomfjfhfkaaOwn
import Derived.Test.YtpmjgomfjfhfkaaWholeRow
import Derived.Deep.DeepCutAuto
set_option linter.unusedSimpArgs false
set_option linter.unusedVariables false
namespace Go.Proofs.Ytpmjgomfjfhfkaa.Rhythm
open Go.RowKit
open Tally (Lim May mayT limV limC)
/-- The document's state: its distances lie in A, its crossings' values in B, what was told in C, the first one first. -/
def refC (l : Lim) (s : St) (A : Option Addr) (ca : Nat) (B : Option Addr) (cb : Nat) (C : Option Addr) (n cc : Nat) : Array Value :=
  #[.int .i64 l.mains, .int .i64 l.asys, .int .i64 l.tach, .int .i64 l.tachN, .int .i64 l.brad, .int .i64 l.bradN, .int .i64 l.fib, .int .i64 l.fibN, .int .i64 l.escape, .bool s.t.begun, .int .i64 s.t.last, .slice A s.t.rs.length ca, .slice B s.h.length cb, .bool s.dark, .bool false, .bool s.on.o1, .bool s.on.o2, .bool s.on.o3, .bool s.on.o4, .bool s.on.o5, .slice C n cc]
def refV (l : Lim) (s : St) (A : Option Addr) (ca : Nat) (B : Option Addr) (cb : Nat) (C : Option Addr) (n cc : Nat) : Value := .agg (refC l s A ca B cb C n cc)
/-- Its slices read so, and lie behind base. -/
structure RfIs (W : World) (base : Nat) (s : St) (E : List Cd) (A : Option Addr) (ca : Nat) (B : Option Addr) (cb : Nat) (C : Option Addr) (cc : Nat) : Prop where
  rs : RI64.Vals W A s.t.rs.length s.t.rs.reverse
  hs : RI64.Vals W B s.h.length s.h.reverse
  es : Row.Vals cdS W C E.length E
  la : 0 ≤ s.t.last ∧ s.t.last ≤ 1099511627776
  fa : ∀ x, A = some x → base ≤ x.block ∧ x.block < W.heap.size
  fb : ∀ x, B = some x → base ≤ x.block ∧ x.block < W.heap.size
  fc : ∀ x, C = some x → base ≤ x.block ∧ x.block < W.heap.size
  cap : E.length ≤ cc ∧ cc ≤ 9223372036854775807
theorem RfIs.kept {W W' : World} {base : Nat} {s : St} {E : List Cd} {A B C : Option Addr} {ca cb cc : Nat} {T : List Nat} (h : RfIs W base s E A ca B cb C cc) (hK : Kept T W W') (hT : ∀ k ∈ T, k < base) : RfIs W' base s E A ca B cb C cc :=
  ⟨h.rs.kept hK (fun _ x hx hk => by have := h.fa x hx; have := hT _ hk; omega), h.hs.kept hK (fun _ x hx hk => by have := h.fb x hx; have := hT _ hk; omega), h.es.kept hK (fun _ x hx hk => by have := h.fc x hx; have := hT _ hk; omega), h.la,
   fun x hx => ⟨(h.fa x hx).1, Nat.lt_of_lt_of_le (h.fa x hx).2 hK.size⟩, fun x hx => ⟨(h.fb x hx).1, Nat.lt_of_lt_of_le (h.fb x hx).2 hK.size⟩, fun x hx => ⟨(h.fc x hx).1, Nat.lt_of_lt_of_le (h.fc x hx).2 hK.size⟩, h.cap⟩
theorem RfIs.below {W W' : World} {base : Nat} {s : St} {E : List Cd} {A B C : Option Addr} {ca cb cc : Nat} (h : RfIs W base s E A ca B cb C cc) (hB : Below W.heap.size W W') : RfIs W' base s E A ca B cb C cc := h.kept (Kept.of_below (S := []) hB) (by simp)
theorem set_same (o : On5) (k : Nat) (v : Bool) (h : o.get k = v) : o.set k v = o := by
  obtain ⟨o1, o2, o3, o4, o5⟩ := o
  unfold On5.set
  unfold On5.get at h
  split at h
  · rename_i e; rw [if_pos e]; simpa using h.symm
  split at h
  · rename_i e1 e; rw [if_neg e1, if_pos e]; simpa using h.symm
  split at h
  · rename_i e1 e2 e; rw [if_neg e1, if_neg e2, if_pos e]; simpa using h.symm
  split at h
  · rename_i e1 e2 e3 e; rw [if_neg e1, if_neg e2, if_neg e3, if_pos e]; simpa using h.symm
  split at h
  · rename_i e1 e2 e3 e4 e; rw [if_neg e1, if_neg e2, if_neg e3, if_neg e4, if_pos e]; simpa using h.symm
  · rename_i e1 e2 e3 e4 e; rw [if_neg e1, if_neg e2, if_neg e3, if_neg e4, if_neg e]
theorem refC_get (l : Lim) (s : St) (A : Option Addr) (ca : Nat) (B : Option Addr) (cb : Nat) (C : Option Addr) (n cc : Nat) (k : Nat) (hk : 1 ≤ k ∧ k ≤ 5) : (refC l s A ca B cb C n cc)[14 + k]? = some (.bool (s.on.get k)) := by
  have hcs : k = 1 ∨ k = 2 ∨ k = 3 ∨ k = 4 ∨ k = 5 := by omega
  rcases hcs with rfl | rfl | rfl | rfl | rfl <;> rfl
theorem refC_set (l : Lim) (s : St) (A : Option Addr) (ca : Nat) (B : Option Addr) (cb : Nat) (C : Option Addr) (n cc : Nat) (k : Nat) (hk : 1 ≤ k ∧ k ≤ 5) (v : Bool) : (refC l s A ca B cb C n cc).setIfInBounds (14 + k) (.bool v) = refC l ⟨s.dark, s.t, s.h, s.on.set k v⟩ A ca B cb C n cc := by
  have hcs : k = 1 ∨ k = 2 ∨ k = 3 ∨ k = 4 ∨ k = 5 := by omega
  rcases hcs with rfl | rfl | rfl | rfl | rfl <;> rfl
def zeroC : Array Value := #[.int .i64 0, .int .i64 0, .int .i64 0, .int .i64 0, .int .i64 0, .int .i64 0, .int .i64 0, .int .i64 0, .int .i64 0, .bool false, .int .i64 0, .slice none 0 0, .slice none 0 0, .bool false, .bool false, .bool false, .bool false, .bool false, .bool false, .bool false, .slice none 0 0]
theorem ref_size (l : Lim) (s : St) (A : Option Addr) (ca : Nat) (B : Option Addr) (cb : Nat) (C : Option Addr) (n cc : Nat) : (refC l s A ca B cb C n cc).size = 21 := rfl
theorem ref_one (l : Lim) (s : St) (A : Option Addr) (ca : Nat) (B : Option Addr) (cb : Nat) (C : Option Addr) (n cc : Nat) : (refC l s A ca B cb C n cc).all (·.oneCell') = true := by simp [refC, Value.oneCell']
theorem ref_ld {ops : Array Oper} {rest : List Oper} {op : Oper} {a : Act} {w : World} {Q : Exit → Act → World → Prop} (hgd : op.guard = none) (x : Operand) (ho : op.op = .load 41 x) (g : Nat) (hx : a.eval x = .pointer (some ⟨g, 0, none⟩)) {cs : Array Value}
    (h : Has w g 41 cs) (hs : cs.size = 21) (hk : wpList Try.prog ops Q rest (a.put op.dst (.agg cs)) w) : wpList Try.prog ops Q (op :: rest) a w :=
  wpList_plain hgd fun _ hK => wp_load_row 41 x ho g hx 41 cs (0, 0) (.struct (Try.prog.fieldsOf 41)) h (by kernel_rfl) rfl (by rw [hs]; kernel_rfl) (hK _ _ hk)
theorem ref_st {ops : Array Oper} {rest : List Oper} {op : Oper} {a : Act} {w : World} {Q : Exit → Act → World → Prop} (hgd : op.guard = none) (x y : Operand) (ho : op.op = .store 41 x y) (g : Nat) (cs : Array Value) (hx : a.eval x = .pointer (some ⟨g, 0, none⟩)) (hy : a.eval y = .agg cs) {old : Array Value}
    (h : Has w g 41 old) (hs : cs.size = 21) (hos : old.size = 21) (h1 : cs.all (·.oneCell') = true) (hk : wpList Try.prog ops Q rest (a.put op.dst undef) (w.setRow g cs)) : wpList Try.prog ops Q (op :: rest) a w :=
  wpList_plain hgd fun _ hK => wp_store_row 41 x y ho g cs hx hy 41 old h (by rw [hs]; kernel_rfl) (by rw [hs, hos]) h1 (hK _ _ hk)
theorem ref_ret {fn : Func} {R : Ending → World → Prop} {a : Act} {w : World} {p : Tmp} (hf : fn.results = #[.cell p 41]) (g : Nat) (hx : a.tmps.getD p undef = .pointer (some ⟨g, 0, none⟩)) (cs : Array Value) (h : Has w g 41 cs) (hs : cs.size = 21) (hd : a.defers = []) (hR : R (.returned (.agg cs)) w) : bodyPost Try.prog fn R .ret a w :=
  bodyPost_ret (results_cell_row hf a.tmps w g 41 cs (0, 0) (.struct (Try.prog.fieldsOf 41)) hx h (by kernel_rfl) rfl (by rw [hs]; kernel_rfl)) hd hR
theorem cd_one (W : World) (t : TypeId) (k a : Int) (d : Bool) : Row.Vals cdS (W.alloc (.cells #[.int .i64 k, .int .i64 a, .bool d] t)) (some ⟨W.heap.size, 0, none⟩) 1 [(k, a, d)] :=
  Row.Vals.has (S := cdS) (ys := [(k, a, d)]) (tl := []) (Has.new W t _)
set_option maxRecDepth 100000 in
set_option maxHeartbeats 4000000 in
theorem refturn_any (l : Lim) (s : St) (E : List Cd) (A : Option Addr) (ca : Nat) (B : Option Addr) (cb : Nat) (C : Option Addr) (cc : Nat) (base k : Nat) (a : Int) (v : Bool) (w : World) (h : RfIs w base s E A ca B cb C cc) (hb : base ≤ w.heap.size) (hk : 1 ≤ k ∧ k ≤ 5) (hE : E.length ≤ 100000) :
    Calls Try.prog 29 #[refV l s A ca B cb C E.length cc, .int .i64 (k : Nat), .int .i64 a, .bool v] w fun e w' => ∃ C' cc', e = .returned (refV l ⟨s.dark, s.t, s.h, s.on.set k v⟩ A ca B cb C' (E ++ turnT k a (s.on.get k) v).length cc') ∧ RfIs w' base ⟨s.dark, s.t, s.h, s.on.set k v⟩ (E ++ turnT k a (s.on.get k) v) A ca B cb C' cc' ∧ (C' = C ∨ ∀ x, C' = some x → w.heap.size ≤ x.block) ∧ Below w.heap.size w w' := by
  have hInfo : (Try.prog.info? 52).map (fun i => (i.zero, i.size, i.bytes)) = some (some (.agg #[.int .i64 0, .int .i64 0, .bool false]), 3, 24) := by kernel_rfl
  have HInfo := Lib.hid hInfo
  clear hInfo
  have hX1 := Has.new w 41 (refC l s A ca B cb C E.length cc)
  have hX := hX1.alloc (.cells zeroC 41)
  have hY : Has ((w.alloc (.cells (refC l s A ca B cb C E.length cc) 41)).alloc (.cells zeroC 41)) (w.heap.size + 1) 41 zeroC := by simpa using Has.new (w.alloc (.cells (refC l s A ca B cb C E.length cc) 41)) 41 zeroC
  have hB : Below w.heap.size w ((w.alloc (.cells (refC l s A ca B cb C E.length cc) 41)).alloc (.cells zeroC 41)) := ((Below.refl w.heap.size w).alloc (Nat.le_refl _) _).alloc (by simp) _
  have hkz : 1 ≤ (k : Int) ∧ (k : Int) ≤ 5 := by omega
  have hk6 : k < 6 := by omega
  obtain ⟨W2, hW2⟩ : ∃ W2, (w.alloc (.cells (refC l s A ca B cb C E.length cc) 41)).alloc (.cells zeroC 41) = W2 := ⟨_, rfl⟩
  rw [hW2] at hX hY hB
  unfold zeroC at hW2
  have hck := hX.cell (14 + k)
  rw [refC_get l s A ca B cb C _ cc k hk] at hck
  have hfk := hX.frozen (14 + k)
  clear hX1
  generalize hq : s.on.get k = q at *
  unfold refV
  by_cases hqv : q = v
  · subst hqv
    have hqq : (!(q == q)) = false := by simp
    rw [set_same s.on k q hq]
    rw [show E ++ turnT k a q q = E from by unfold turnT; rw [if_pos rfl, List.append_nil]]
    clear hq
    go_enter Try.func29, Try.ntmps29
    go_upto_region 1 with (fail)
    clear hW2
    go_wp2_with (first
      | (refine ref_ld rfl _ rfl _ rfl hX (ref_size _ _ _ _ _ _ _ _ _) ?_)
      | (refine ref_st rfl _ _ rfl _ _ rfl rfl hY (ref_size _ _ _ _ _ _ _ _ _) rfl (ref_one _ _ _ _ _ _ _ _ _) ?_))
    have hB9 := below_kept hB (kept_row W2 (w.heap.size + 1) (refC l s A ca B cb C E.length cc)) hB.size (fun x hx => by simp at hx; omega)
    exact ref_ret rfl (w.heap.size + 1) rfl _ (hY.row _) (ref_size _ _ _ _ _ _ _ _ _) rfl ⟨C, cc, rfl, h.below hB9, .inl rfl, hB9⟩
  · have hqq : (!(q == v)) = true := by simpa using hqv
    have HQ := Lib.hid (show turnT k a q v = [((k : Int), a, v)] from by unfold turnT; rw [if_neg hqv])
    have hS3 := fun n cc => refC_set l s A ca B cb C n cc k hk v
    clear hq hqv
    go_enter Try.func29, Try.ntmps29
    go_upto_region 1 with (fail)
    clear hW2
    go_upto_region 3 with (fail)
    have hX3 : Has (W2.setCell ⟨w.heap.size, 14 + k, none⟩ (.bool v)) w.heap.size 41 (refC l ⟨s.dark, s.t, s.h, s.on.set k v⟩ A ca B cb C E.length cc) := by
      have h9 := hX.set_ (14 + k) (.bool v)
      rwa [hS3] at h9
    have hY3 := hY.far (p := ⟨w.heap.size, 14 + k, none⟩) (by show w.heap.size + 1 ≠ w.heap.size; omega) (.bool v)
    have hK3 : Kept [w.heap.size] W2 (W2.setCell ⟨w.heap.size, 14 + k, none⟩ (.bool v)) := (Kept.refl [w.heap.size] W2).setCell (p := ⟨w.heap.size, 14 + k, none⟩) (.inl (by simp)) _
    have hB3 := below_kept hB hK3 hB.size (fun x hx => by simp at hx; omega)
    have hsz : w.heap.size + 1 < W2.heap.size := hY.lt
    have hsz3 : w.heap.size + 1 < (W2.setCell ⟨w.heap.size, 14 + k, none⟩ (.bool v)).heap.size := hY3.lt
    generalize W2.setCell ⟨w.heap.size, 14 + k, none⟩ (.bool v) = W3 at *
    clear hX hY hB hck hfk hK3 hS3 hkz hk6
    have HSV := Lib.hid (show RfIs W3 base s E A ca B cb C cc from h.below hB3)
    have H0 := Lib.hid h
    clear h
    have hX4 := hX3.alloc (.cells #[] 52)
    have hY4 := hY3.alloc (.cells #[] 52)
    have hO4 := Row.own_empty (S := cdS) W3 52
    have hV4 : Row.Vals cdS (W3.alloc (.cells #[] 52)) C E.length E := HSV.out.es.alloc _
    have hB4 := hB3.alloc hB3.size (.cells #[] 52)
    have x20 : (W3.alloc (.cells #[] 52)).cell? ⟨w.heap.size, 20, none⟩ = some (.slice C E.length cc) := hX4.cell 20
    have hg0 : ∀ (W : World) (V : Value) (n : Nat) (xs : List Value), W.ownsRow W3.heap.size 52 3 V n xs → w.heap.size ∉ V.ownBlock.toList ∧ w.heap.size + 1 ∉ V.ownBlock.toList := fun W V n xs hO => ⟨fun hk => by have := own_in hO _ hk; omega, fun hk => by have := own_in hO _ hk; omega⟩
    have hw3 : w.heap.size ≤ W3.heap.size := by omega
    clear hX3 hY3
    go_upto_region 4 with (first
      | (at_builtin; refine Row.wpList_append (S := cdS) rfl (.tmp 19) (.tmp 21) _ rfl W3.heap.size 52 _ 24 (by omega) Try.underlying32 HInfo.out (by kernel_rfl) _ 0 [] rfl hO4 C E.length cc E rfl hV4 (by omega) (by simp) ?_; intro V5 W5 hO5 hg5 hat5; rw [Nat.zero_add, List.nil_append] at hO5; have hX5 := (Kept.of_grown hg5).has hX4 (hg0 _ _ _ _ hO4).1; have hY5 := (Kept.of_grown hg5).has hY4 (hg0 _ _ _ _ hO4).2; have hB5 := below_kept hB4 (Kept.of_grown hg5) hB4.size (fun x hx => Nat.le_trans hw3 (own_in hO4 x hx)); have hz5 : W3.heap.size ≤ W5.heap.size := Nat.le_trans (by simp) (Kept.of_grown hg5).size; clear hO4 hV4 hX4 hY4 hB4 x20 hg5 hat5; have hO6 := own_kept hO5 ((Kept.refl [] W5).alloc (.cells #[.int .i64 (k : Nat), .int .i64 a, .bool v] 52)) (by simp); have hX6 := hX5.alloc (.cells #[.int .i64 (k : Nat), .int .i64 a, .bool v] 52); have hY6 := hY5.alloc (.cells #[.int .i64 (k : Nat), .int .i64 a, .bool v] 52); have hB6 := hB5.alloc hB5.size (.cells #[.int .i64 (k : Nat), .int .i64 a, .bool v] 52))
      | (at_builtin; refine Row.wpList_append (S := cdS) rfl (.tmp 22) (.tmp 27) _ rfl W3.heap.size 52 _ 24 (by omega) Try.underlying32 HInfo.out (by kernel_rfl) _ E.length E rfl hO6 _ 1 1 [((k : Int), a, v)] rfl (cd_one _ _ _ _ _) (by omega) (by simp; omega) ?_; intro V7 W7 hO7 hg7 hat7; have hX7 := (Kept.of_grown hg7).has hX6 (hg0 _ _ _ _ hO6).1; have hY7 := (Kept.of_grown hg7).has hY6 (hg0 _ _ _ _ hO6).2; have hB7 := below_kept hB6 (Kept.of_grown hg7) hB6.size (fun x hx => Nat.le_trans hw3 (own_in hO6 x hx)); clear hO6 hX6 hY6 hB6 hg7 hat7; obtain ⟨C7, c7, rfl, e1, e2, hV7, hf7, _⟩ := Row.Vals.own hO7; have f20 := hX7.frozen 20; have x20 : W7.cell? ⟨w.heap.size, 20, none⟩ = some (.slice C E.length cc) := hX7.cell 20))
    have hX8 : Has (W7.setCell ⟨w.heap.size, 20, none⟩ (.slice C7 (E.length + 1) c7)) w.heap.size 41 (refC l ⟨s.dark, s.t, s.h, s.on.set k v⟩ A ca B cb C7 (E.length + 1) c7) := hX7.set_ 20 (.slice C7 (E.length + 1) c7)
    have hY8 := hY7.far (p := ⟨w.heap.size, 20, none⟩) (by show w.heap.size + 1 ≠ w.heap.size; omega) (.slice C7 (E.length + 1) c7)
    have hK8 : Kept [w.heap.size] W7 (W7.setCell ⟨w.heap.size, 20, none⟩ (.slice C7 (E.length + 1) c7)) := (Kept.refl [w.heap.size] W7).setCell (p := ⟨w.heap.size, 20, none⟩) (.inl (by simp)) _
    have hB8 := below_kept hB7 hK8 hB7.size (fun x hx => by simp at hx; omega)
    generalize W7.setCell ⟨w.heap.size, 20, none⟩ (.slice C7 (E.length + 1) c7) = W8 at *
    have hB9 := below_kept hB8 (kept_row W8 (w.heap.size + 1) (refC l ⟨s.dark, s.t, s.h, s.on.set k v⟩ A ca B cb C7 (E.length + 1) c7)) hB8.size (fun x hx => by simp at hx; omega)
    have hV8 : Row.Vals cdS W8 C7 (E.length + 1) (E ++ [((k : Int), a, v)]) := hV7.kept hK8 (fun _ x hx hk => by have := (hf7 x hx).1; simp at hk; omega)
    have hV9 := hV8.kept (kept_row W8 (w.heap.size + 1) (refC l ⟨s.dark, s.t, s.h, s.on.set k v⟩ A ca B cb C7 (E.length + 1) c7)) (fun _ x hx hk => by have := (hf7 x hx).1; simp at hk; omega)
    go_wp2_with (first
      | (refine ref_ld rfl _ rfl _ rfl hX8 (ref_size _ _ _ _ _ _ _ _ _) ?_)
      | (refine ref_st rfl _ _ rfl _ _ rfl rfl hY8 (ref_size _ _ _ _ _ _ _ _ _) rfl (ref_one _ _ _ _ _ _ _ _ _) ?_))
    have hlen : (E ++ turnT k a q v).length = E.length + 1 := by rw [HQ.out]; simp
    have h0 := H0.out.below hB9
    refine ref_ret rfl (w.heap.size + 1) rfl _ (hY8.row _) (ref_size _ _ _ _ _ _ _ _ _) rfl ⟨C7, c7, by rw [hlen], ?_, .inr (fun x hx => by have := (hf7 x hx).1; omega), hB9⟩
    rw [HQ.out]
    exact ⟨h0.rs, h0.hs, by rw [show (E ++ [((k : Int), a, v)]).length = E.length + 1 by simp]; exact hV9, h0.la, h0.fa, h0.fb, fun x hx => ⟨by have := (hf7 x hx).1; omega, Nat.lt_of_lt_of_le (Nat.lt_of_lt_of_le (hf7 x hx).2 hK8.size) (kept_row W8 (w.heap.size + 1) (refC l ⟨s.dark, s.t, s.h, s.on.set k v⟩ A ca B cb C7 (E.length + 1) c7)).size⟩, by simp; omega⟩
end Go.Proofs.Ytpmjgomfjfhfkaa.Rhythm
