/- The reference of layer 22: look. -/
import Derived.Test.YtpmjgomfjfhfkaaRhythmRef
import Derived.Test.YtpmjgomfjfhfkaaTallyRef3
import Derived.Test.YtpmjgomfjfhfkaaFibRef
import Derived.Test.YtpmjgomfjfhfkaaRegionTill
set_option linter.unusedSimpArgs false
set_option linter.unusedVariables false
namespace Go.Proofs.Ytpmjgomfjfhfkaa.Rhythm
open Go.RowKit
open Tally (Lim May mayT limV limC stV)
theorem mid_take {P : Program} {oi : Oper} {a : Act} {w : World} {g o : Nat} {ty : TypeId} {x : Operand} {cs : List Value} {d : TypeDesc} (ho : oi.op = .load ty x) (hx : a.eval x = .pointer (some ⟨g, o, none⟩)) (hc : w.rangeAt g o cs)
    (hu : P.underlying ty = some d) (hd : d.isRow = true) (hi : (P.info? ty).map (·.size) = some cs.length) : (execOp a.eval oi).run P w = .ok (.value (.agg cs.toArray)) w := by
  unfold execOp
  simp only [ho, hx, Instr.loadAt, Instr.sureAddr, Sem.run_bind, Sem.run_pure, Result.andThen_ok, run_loadVar_mid w g o ty cs d hc hu hd hi]
theorem ref_take {oi : Oper} {a : Act} {w : World} {g : Nat} {x : Operand} {cs : Array Value} (ho : oi.op = .load 41 x) (hx : a.eval x = .pointer (some ⟨g, 0, none⟩)) (h : Has w g 41 cs) (hs : cs.size = 21) : (execOp a.eval oi).run Try.prog w = .ok (.value (.agg cs)) w := by
  have hi : (Try.prog.info? 41).map (·.size) = some 21 := by kernel_rfl
  have hu : Try.prog.underlying 41 = some (.struct (Try.prog.fieldsOf 41)) := by kernel_rfl
  have hl := run_loadVar_row (P := Try.prog) w g _ 41 cs (0, 0) (.struct (Try.prog.fieldsOf 41)) h hu rfl (by rw [hs]; exact hi)
  unfold execOp
  simp only [ho, hx, Instr.loadAt, Instr.sureAddr, Sem.run_bind, Sem.run_pure, Result.andThen_ok, hl]
section
variable {l : Lim} {s : St} {A B C : Option Addr} {ca cb n cc g : Nat} {w : World}
theorem ref_cells (h : Has w g 41 (refC l s A ca B cb C n cc)) : w.cell? ⟨g, 13, none⟩ = some (.bool s.dark) ∧ w.cell? ⟨g, 6, none⟩ = some (.int .i64 l.fib) ∧ w.cell? ⟨g, 7, none⟩ = some (.int .i64 l.fibN) ∧ w.cell? ⟨g, 12, none⟩ = some (.slice B s.h.length cb) :=
  ⟨h.cell 13, h.cell 6, h.cell 7, h.cell 12⟩
theorem lim_take {oi : Oper} {a : Act} {x : Operand} (ho : oi.op = .load 23 x) (hx : a.eval x = .pointer (some ⟨g, 0, none⟩)) (h : Has w g 41 (refC l s A ca B cb C n cc)) : (execOp a.eval oi).run Try.prog w = .ok (.value (limV l)) w :=
  mid_take (cs := (limC l).toList) (d := .struct (Try.prog.fieldsOf 23)) ho hx (fun j v hj => by
    have hlt : j < 9 := (List.getElem?_eq_some_iff.1 hj).1
    have hcs : j = 0 ∨ j = 1 ∨ j = 2 ∨ j = 3 ∨ j = 4 ∨ j = 5 ∨ j = 6 ∨ j = 7 ∨ j = 8 := by omega
    rw [Nat.zero_add, h.cell j]
    rcases hcs with rfl | rfl | rfl | rfl | rfl | rfl | rfl | rfl | rfl <;> exact hj) (by kernel_rfl) rfl (by kernel_rfl)
theorem tally_take {oi : Oper} {a : Act} {x : Operand} (ho : oi.op = .load 38 x) (hx : a.eval x = .pointer (some ⟨g, 9, none⟩)) (h : Has w g 41 (refC l s A ca B cb C n cc)) : (execOp a.eval oi).run Try.prog w = .ok (.value (stV s.t A ca)) w :=
  mid_take (cs := [.bool s.t.begun, .int .i64 s.t.last, .slice A s.t.rs.length ca]) (d := .struct (Try.prog.fieldsOf 38)) ho hx (fun j v hj => by
    have hlt : j < 3 := (List.getElem?_eq_some_iff.1 hj).1
    have hcs : j = 0 ∨ j = 1 ∨ j = 2 := by omega
    rw [h.cell (9 + j)]
    rcases hcs with rfl | rfl | rfl <;> exact hj) (by kernel_rfl) rfl (by kernel_rfl)
end
/-- Where a look stands: the state's box is the first new block, the answer's the next. -/
structure Lk (w : World) (base : Nat) (l : Lim) (C0 : Option Addr) (s : St) (E : List Cd) (A : Option Addr) (ca : Nat) (B : Option Addr) (cb : Nat) (C : Option Addr) (cc : Nat) (W : World) : Prop where
  X : Has W w.heap.size 41 (refC l s A ca B cb C E.length cc)
  Y : Has W (w.heap.size + 1) 41 zeroC
  R : RfIs W base s E A ca B cb C cc
  low : Below w.heap.size w W
  oa : ∀ x, A = some x → x.block < w.heap.size ∨ w.heap.size + 1 < x.block
  ob : ∀ x, B = some x → x.block < w.heap.size ∨ w.heap.size + 1 < x.block
  oc : ∀ x, C = some x → x.block < w.heap.size ∨ w.heap.size + 1 < x.block
  fr : ∀ x, C = some x → C0 = some x ∨ w.heap.size ≤ x.block
section
variable {w W W' : World} {base : Nat} {l : Lim} {s s' : St} {E E' : List Cd} {A B C C' C0 : Option Addr} {ca cb cc cc' : Nat}
theorem Lk.grow (h : Lk w base l C0 s E A ca B cb C cc W) (hB : Below W.heap.size W W') : Lk w base l C0 s E A ca B cb C cc W' :=
  ⟨h.X.below hB h.X.lt, h.Y.below hB h.Y.lt, h.R.below hB, h.low.trans (hB.mono h.low.size), h.oa, h.ob, h.oc, h.fr⟩
theorem rf_row {S : List Nat} (h : RfIs W base s E A ca B cb C cc) (hK : Kept S W W') (ha : ∀ x, A = some x → x.block ∉ S) (hb : ∀ x, B = some x → x.block ∉ S) (hc : ∀ x, C = some x → x.block ∉ S) : RfIs W' base s E A ca B cb C cc :=
  ⟨h.rs.kept hK (fun _ x hx => ha x hx), h.hs.kept hK (fun _ x hx => hb x hx), h.es.kept hK (fun _ x hx => hc x hx), h.la,
   fun x hx => ⟨(h.fa x hx).1, Nat.lt_of_lt_of_le (h.fa x hx).2 hK.size⟩, fun x hx => ⟨(h.fb x hx).1, Nat.lt_of_lt_of_le (h.fb x hx).2 hK.size⟩, fun x hx => ⟨(h.fc x hx).1, Nat.lt_of_lt_of_le (h.fc x hx).2 hK.size⟩, h.cap⟩
theorem Lk.off (h : Lk w base l C0 s E A ca B cb C cc W) (hcc : C' = C ∨ ∀ x, C' = some x → W.heap.size ≤ x.block) : ∀ x, C' = some x → x.block < w.heap.size ∨ w.heap.size + 1 < x.block := fun x hx => by
  rcases hcc with rfl | hcc
  · exact h.oc x hx
  · have := hcc x hx; have := h.Y.lt; omega
theorem Lk.new (h : Lk w base l C0 s E A ca B cb C cc W) (hcc : C' = C ∨ ∀ x, C' = some x → W.heap.size ≤ x.block) : ∀ x, C' = some x → C0 = some x ∨ w.heap.size ≤ x.block := fun x hx => by
  rcases hcc with rfl | hcc
  · exact h.fr x hx
  · exact .inr (Nat.le_trans h.low.size (hcc x hx))
/-- Behind a turn, its answer stored. -/
theorem Lk.turned (h : Lk w base l C0 s E A ca B cb C cc W) (hR : RfIs W' base s' E' A ca B cb C' cc') (hcc : C' = C ∨ ∀ x, C' = some x → W.heap.size ≤ x.block) (hB : Below W.heap.size W W') :
    Lk w base l C0 s' E' A ca B cb C' cc' (W'.setRow w.heap.size (refC l s' A ca B cb C' E'.length cc')) := by
  have hg := h.grow hB
  have ho := h.off hcc
  have hK := kept_row W' w.heap.size (refC l s' A ca B cb C' E'.length cc')
  exact ⟨hg.X.row _, hg.Y.farRow (by omega) _, rf_row hR hK (fun x hx hk => by have := h.oa x hx; simp at hk; omega) (fun x hx hk => by have := h.ob x hx; simp at hk; omega) (fun x hx hk => by have := ho x hx; simp at hk; omega), below_kept hg.low hK hg.low.size (fun x hx => by simp at hx; omega), h.oa, h.ob, ho, h.new hcc⟩
/-- The last answer. -/
theorem Lk.last (h : Lk w base l C0 s E A ca B cb C cc W) (hR : RfIs W' base s' E' A ca B cb C' cc') (hcc : C' = C ∨ ∀ x, C' = some x → W.heap.size ≤ x.block) (hB : Below W.heap.size W W') (xs : Array Value) :
    RfIs (W'.setRow (w.heap.size + 1) xs) base s' E' A ca B cb C' cc' ∧ Has (W'.setRow (w.heap.size + 1) xs) (w.heap.size + 1) 41 xs ∧ Below w.heap.size w (W'.setRow (w.heap.size + 1) xs) := by
  have hg := h.grow hB
  have ho := h.off hcc
  have hK := kept_row W' (w.heap.size + 1) xs
  exact ⟨rf_row hR hK (fun x hx hk => by have := h.oa x hx; simp at hk; omega) (fun x hx hk => by have := h.ob x hx; simp at hk; omega) (fun x hx hk => by have := ho x hx; simp at hk; omega), hg.Y.row _, below_kept hg.low hK hg.low.size (fun x hx => by simp at hx; omega)⟩
end
section
variable (l : Lim) (d : Bool) (t : Tally.St) (h : List Int) (o1 o2 o3 o4 o5 : Bool) (E : List Cd) (A : Option Addr) (ca : Nat) (B : Option Addr) (cb : Nat) (C : Option Addr) (cc base : Nat) (a : Int) (v : Bool) (w : World)
theorem turn1 (hR : RfIs w base ⟨d, t, h, ⟨o1, o2, o3, o4, o5⟩⟩ E A ca B cb C cc) (hb : base ≤ w.heap.size) (hE : E.length ≤ 100000) :
    Calls Try.prog 29 #[.agg (refC l ⟨d, t, h, ⟨o1, o2, o3, o4, o5⟩⟩ A ca B cb C E.length cc), .int .i64 1, .int .i64 a, .bool v] w fun e w' => ∃ C' cc', e = .returned (.agg (refC l ⟨d, t, h, ⟨v, o2, o3, o4, o5⟩⟩ A ca B cb C' (E ++ turnT 1 a o1 v).length cc')) ∧ RfIs w' base ⟨d, t, h, ⟨v, o2, o3, o4, o5⟩⟩ (E ++ turnT 1 a o1 v) A ca B cb C' cc' ∧ (C' = C ∨ ∀ x, C' = some x → w.heap.size ≤ x.block) ∧ Below w.heap.size w w' :=
  refturn_any l _ E A ca B cb C cc base 1 a v w hR hb (by omega) hE
theorem turn2 (hR : RfIs w base ⟨d, t, h, ⟨o1, o2, o3, o4, o5⟩⟩ E A ca B cb C cc) (hb : base ≤ w.heap.size) (hE : E.length ≤ 100000) :
    Calls Try.prog 29 #[.agg (refC l ⟨d, t, h, ⟨o1, o2, o3, o4, o5⟩⟩ A ca B cb C E.length cc), .int .i64 2, .int .i64 a, .bool v] w fun e w' => ∃ C' cc', e = .returned (.agg (refC l ⟨d, t, h, ⟨o1, v, o3, o4, o5⟩⟩ A ca B cb C' (E ++ turnT 2 a o2 v).length cc')) ∧ RfIs w' base ⟨d, t, h, ⟨o1, v, o3, o4, o5⟩⟩ (E ++ turnT 2 a o2 v) A ca B cb C' cc' ∧ (C' = C ∨ ∀ x, C' = some x → w.heap.size ≤ x.block) ∧ Below w.heap.size w w' :=
  refturn_any l _ E A ca B cb C cc base 2 a v w hR hb (by omega) hE
theorem turn3 (hR : RfIs w base ⟨d, t, h, ⟨o1, o2, o3, o4, o5⟩⟩ E A ca B cb C cc) (hb : base ≤ w.heap.size) (hE : E.length ≤ 100000) :
    Calls Try.prog 29 #[.agg (refC l ⟨d, t, h, ⟨o1, o2, o3, o4, o5⟩⟩ A ca B cb C E.length cc), .int .i64 3, .int .i64 a, .bool v] w fun e w' => ∃ C' cc', e = .returned (.agg (refC l ⟨d, t, h, ⟨o1, o2, v, o4, o5⟩⟩ A ca B cb C' (E ++ turnT 3 a o3 v).length cc')) ∧ RfIs w' base ⟨d, t, h, ⟨o1, o2, v, o4, o5⟩⟩ (E ++ turnT 3 a o3 v) A ca B cb C' cc' ∧ (C' = C ∨ ∀ x, C' = some x → w.heap.size ≤ x.block) ∧ Below w.heap.size w w' :=
  refturn_any l _ E A ca B cb C cc base 3 a v w hR hb (by omega) hE
theorem turn4 (hR : RfIs w base ⟨d, t, h, ⟨o1, o2, o3, o4, o5⟩⟩ E A ca B cb C cc) (hb : base ≤ w.heap.size) (hE : E.length ≤ 100000) :
    Calls Try.prog 29 #[.agg (refC l ⟨d, t, h, ⟨o1, o2, o3, o4, o5⟩⟩ A ca B cb C E.length cc), .int .i64 4, .int .i64 a, .bool v] w fun e w' => ∃ C' cc', e = .returned (.agg (refC l ⟨d, t, h, ⟨o1, o2, o3, v, o5⟩⟩ A ca B cb C' (E ++ turnT 4 a o4 v).length cc')) ∧ RfIs w' base ⟨d, t, h, ⟨o1, o2, o3, v, o5⟩⟩ (E ++ turnT 4 a o4 v) A ca B cb C' cc' ∧ (C' = C ∨ ∀ x, C' = some x → w.heap.size ≤ x.block) ∧ Below w.heap.size w w' :=
  refturn_any l _ E A ca B cb C cc base 4 a v w hR hb (by omega) hE
theorem turn5 (hR : RfIs w base ⟨d, t, h, ⟨o1, o2, o3, o4, o5⟩⟩ E A ca B cb C cc) (hb : base ≤ w.heap.size) (hE : E.length ≤ 100000) :
    Calls Try.prog 29 #[.agg (refC l ⟨d, t, h, ⟨o1, o2, o3, o4, o5⟩⟩ A ca B cb C E.length cc), .int .i64 5, .int .i64 a, .bool v] w fun e w' => ∃ C' cc', e = .returned (.agg (refC l ⟨d, t, h, ⟨o1, o2, o3, o4, v⟩⟩ A ca B cb C' (E ++ turnT 5 a o5 v).length cc')) ∧ RfIs w' base ⟨d, t, h, ⟨o1, o2, o3, o4, v⟩⟩ (E ++ turnT 5 a o5 v) A ca B cb C' cc' ∧ (C' = C ∨ ∀ x, C' = some x → w.heap.size ≤ x.block) ∧ Below w.heap.size w w' :=
  refturn_any l _ E A ca B cb C cc base 5 a v w hR hb (by omega) hE
end
set_option maxRecDepth 100000 in
set_option maxHeartbeats 4000000 in
theorem reflook_any (l : Lim) (d : Bool) (t : Tally.St) (h : List Int) (o1 o2 o3 o4 o5 : Bool) (E : List Cd) (A : Option Addr) (ca : Nat) (B : Option Addr) (cb : Nat) (C : Option Addr) (cc base : Nat) (a : Int) (w : World) (hm : May l) (hR : RfIs w base ⟨d, t, h, ⟨o1, o2, o3, o4, o5⟩⟩ E A ca B cb C cc) (hb : base ≤ w.heap.size) (hE : E.length ≤ 90000) (hrs : t.rs.length ≤ 1000000) (hhs : h.length ≤ 100000) :
    Calls Try.prog 23 #[refV l ⟨d, t, h, ⟨o1, o2, o3, o4, o5⟩⟩ A ca B cb C E.length cc, .int .i64 a] w fun e w' => ∃ C' cc' E', E' = E ++ tellT a ⟨o1, o2, o3, o4, o5⟩ ⟨d, !d && Tally.stillT l t a, !d && decide (l.fibN ≤ Fib.countT l.fib h), !d && Tally.tachT l t.rs, !d && Tally.bradT l t.rs⟩ ∧
      e = .returned (refV l ⟨d, t, h, ⟨d, !d && Tally.stillT l t a, !d && decide (l.fibN ≤ Fib.countT l.fib h), !d && Tally.tachT l t.rs, !d && Tally.bradT l t.rs⟩⟩ A ca B cb C' E'.length cc') ∧ RfIs w' base ⟨d, t, h, ⟨d, !d && Tally.stillT l t a, !d && decide (l.fibN ≤ Fib.countT l.fib h), !d && Tally.tachT l t.rs, !d && Tally.bradT l t.rs⟩⟩ E' A ca B cb C' cc' ∧ (∀ x, C' = some x → C = some x ∨ w.heap.size ≤ x.block) ∧ Below w.heap.size w w' := by
  have hX1 := Has.new w 41 (refC l ⟨d, t, h, ⟨o1, o2, o3, o4, o5⟩⟩ A ca B cb C E.length cc)
  have hX := hX1.alloc (.cells zeroC 41)
  have hY : Has ((w.alloc (.cells (refC l ⟨d, t, h, ⟨o1, o2, o3, o4, o5⟩⟩ A ca B cb C E.length cc) 41)).alloc (.cells zeroC 41)) (w.heap.size + 1) 41 zeroC := by simpa using Has.new (w.alloc (.cells (refC l ⟨d, t, h, ⟨o1, o2, o3, o4, o5⟩⟩ A ca B cb C E.length cc) 41)) 41 zeroC
  have hB : Below w.heap.size w ((w.alloc (.cells (refC l ⟨d, t, h, ⟨o1, o2, o3, o4, o5⟩⟩ A ca B cb C E.length cc) 41)).alloc (.cells zeroC 41)) := ((Below.refl w.heap.size w).alloc (Nat.le_refl _) _).alloc (by simp) _
  obtain ⟨W2, hW2⟩ : ∃ W2, (w.alloc (.cells (refC l ⟨d, t, h, ⟨o1, o2, o3, o4, o5⟩⟩ A ca B cb C E.length cc) 41)).alloc (.cells zeroC 41) = W2 := ⟨_, rfl⟩
  rw [hW2] at hX hY hB
  unfold zeroC at hW2
  have hL : Lk w base l C ⟨d, t, h, ⟨o1, o2, o3, o4, o5⟩⟩ E A ca B cb C cc W2 := ⟨hX, hY, hR.below hB, hB, fun x hx => .inl (hR.fa x hx).2, fun x hx => .inl (hR.fb x hx).2, fun x hx => .inl (hR.fc x hx).2, fun x hx => .inl hx⟩
  have HE0 := Lib.hid (show E.length ≤ 90000 from hE)
  clear hX1 hX hY hB hR hE
  unfold refV
  have hst := fun (W : World) (hla : 0 ≤ t.last ∧ t.last ≤ 1099511627776) => Tally.refstill_any l t A ca a W hla
  have hct := fun (W : World) hv => Fib.refcount_any l.fib B h.length cb h.reverse W hv hhs
  rw [List.reverse_reverse] at hct
  have hta := fun (W : World) hv => Tally.reftach_any l t A ca W hv hrs hm.tachN
  have hbr := fun (W : World) hv => Tally.refbrad_any l t A ca W hv hrs hm.bradN
  generalize Tally.stillT l t a = a2 at *
  generalize Fib.countT l.fib h = x3 at *
  generalize Tally.tachT l t.rs = a4 at *
  generalize Tally.bradT l t.rs = a5 at *
  clear hm hrs hhs
  cases d with
  | true =>
    have c13 := (ref_cells hL.X).1
    dsimp only at c13
    go_enter Try.func23, Try.ntmps23
    go_upto_region 1 with (fail)
    clear hW2
    go_upto_region 2 with (first
      | (refine ref_ld rfl _ rfl _ rfl hL.X (ref_size _ _ _ _ _ _ _ _ _) ?_)
      | (go_at_call 29; (refine Calls.mono (by exact turn1 l true t h o1 o2 o3 o4 o5 E A ca B cb C cc base a true W2 hL.R (Nat.le_trans hb hL.low.size) (by have := HE0.out; omega)) ?_); rintro e W3 ⟨C1, c1, rfl, hR1, hcc3, hB3⟩; obtain ⟨E1, hE1⟩ : ∃ E1, E ++ turnT 1 a o1 true = E1 := ⟨_, rfl⟩; rw [hE1] at hR1; rw [hE1]; have HQ1 := Lib.hid hE1; clear hE1)
      | (refine ref_st rfl _ _ rfl _ _ rfl rfl (hL.grow hB3).X (ref_size _ _ _ _ _ _ _ _ _) (ref_size _ _ _ _ _ _ _ _ _) (ref_one _ _ _ _ _ _ _ _ _) ?_))
    (try simp only [Act.put])
    have hL1 := hL.turned hR1 hcc3 hB3
    have HE1 := Lib.hid (show E1.length ≤ 90001 by rw [← HQ1.out, List.length_append]; have := turn_len 1 a o1 true; have := HE0.out; omega)
    clear hL hR1 hcc3 hB3 c13
    generalize W3.setRow w.heap.size (refC l ⟨true, t, h, ⟨true, o2, o3, o4, o5⟩⟩ A ca B cb C1 E1.length c1) = Wa at *
    have hLd := hL1.grow (below_drewN (Below.refl _ Wa) 1)
    change Lk w base l C ⟨true, t, h, ⟨true, o2, o3, o4, o5⟩⟩ E1 A ca B cb C1 c1 Wa.drew at hLd
    clear hL1
    refine Till.begin_ (T := [14]) (S := fun W => Has W w.heap.size 41 (refC l ⟨true, t, h, ⟨true, o2, o3, o4, o5⟩⟩ A ca B cb C1 E1.length c1) ∧ W.cell? ⟨w.heap.size, 13, none⟩ = some (.bool true) ∧ W.cell? ⟨w.heap.size, 6, none⟩ = some (.int .i64 l.fib) ∧ W.cell? ⟨w.heap.size, 7, none⟩ = some (.int .i64 l.fibN) ∧ W.cell? ⟨w.heap.size, 12, none⟩ = some (.slice B h.length cb)) (by kernel_rfl) (by exact ⟨hLd.X, ref_cells hLd.X⟩) (fun hHeld => ?_)
    generalize Wa.drew = Wb at *
    refine Till.take (i := 0) (v := .agg (refC l ⟨true, t, h, ⟨true, o2, o3, o4, o5⟩⟩ A ca B cb C1 E1.length c1)) rfl (by kernel_rfl) (by kernel_rfl) (by kernel_rfl) (by kernel_rfl) (by rfl) (fun W hSw => by exact ref_take rfl rfl hSw.1 (ref_size _ _ _ _ _ _ _ _ _)) (by assumption) ?_
    (try simp only [Act.put, List.setIfInBounds_toArray, List.set_cons_zero, List.set_cons_succ])
    refine Till.take (i := 1) (v := ?v1) rfl (by kernel_rfl) (by kernel_rfl) (by kernel_rfl) (by kernel_rfl) (by rfl) ?hv1 (by assumption) ?rest1
    case hv1 => first | (intro w hSw; (try dsimp only at hSw); go_simp; done) | (intro w hSw; (try dsimp only at hSw); go_simp; with_reducible rfl)
    (try simp only [Act.put, List.setIfInBounds_toArray, List.set_cons_zero, List.set_cons_succ])
    refine Till.take (i := 2) (v := ?v2) rfl (by kernel_rfl) (by kernel_rfl) (by kernel_rfl) (by kernel_rfl) (by rfl) ?hv2 (by assumption) ?rest2
    case hv2 => first | (intro w hSw; (try dsimp only at hSw); go_simp; done) | (intro w hSw; (try dsimp only at hSw); go_simp; with_reducible rfl)
    (try simp only [Act.put, List.setIfInBounds_toArray, List.set_cons_zero, List.set_cons_succ])
    refine Till.take (i := 3) (v := ?v3) rfl (by kernel_rfl) (by kernel_rfl) (by kernel_rfl) (by kernel_rfl) (by rfl) ?hv3 (by assumption) ?rest3
    case hv3 => first | (intro w hSw; (try dsimp only at hSw); go_simp; done) | (intro w hSw; (try dsimp only at hSw); go_simp; with_reducible rfl)
    (try simp only [Act.put, List.setIfInBounds_toArray, List.set_cons_zero, List.set_cons_succ])
    refine Till.take (i := 4) (v := ?v4) rfl (by kernel_rfl) (by kernel_rfl) (by kernel_rfl) (by kernel_rfl) (by rfl) ?hv4 (by assumption) ?rest4
    case hv4 => first | (intro w hSw; (try dsimp only at hSw); go_simp; done) | (intro w hSw; (try dsimp only at hSw); go_simp; with_reducible rfl)
    (try simp only [Act.put, List.setIfInBounds_toArray, List.set_cons_zero, List.set_cons_succ])
    refine Till.take (i := 5) (v := ?v5) rfl (by kernel_rfl) (by kernel_rfl) (by kernel_rfl) (by kernel_rfl) (by rfl) ?hv5 (by assumption) ?rest5
    case hv5 => first | (intro w hSw; (try dsimp only at hSw); go_simp; done) | (intro w hSw; (try dsimp only at hSw); go_simp; with_reducible rfl)
    (try simp only [Act.put, List.setIfInBounds_toArray, List.set_cons_zero, List.set_cons_succ])
    refine Till.skip (i := 6) rfl (by kernel_rfl) (by kernel_rfl) (by kernel_rfl) (by kernel_rfl) (by rfl) (by assumption) ?_
    (try simp only [Act.put, List.setIfInBounds_toArray, List.set_cons_zero, List.set_cons_succ])
    refine Till.skip (i := 7) rfl (by kernel_rfl) (by kernel_rfl) (by kernel_rfl) (by kernel_rfl) (by rfl) (by assumption) ?_
    (try simp only [Act.put, List.setIfInBounds_toArray, List.set_cons_zero, List.set_cons_succ])
    refine Till.skip (i := 8) rfl (by kernel_rfl) (by kernel_rfl) (by kernel_rfl) (by kernel_rfl) (by rfl) (by assumption) ?_
    (try simp only [Act.put, List.setIfInBounds_toArray, List.set_cons_zero, List.set_cons_succ])
    refine Till.skip (i := 9) rfl (by kernel_rfl) (by kernel_rfl) (by kernel_rfl) (by kernel_rfl) (by rfl) (by assumption) ?_
    (try simp only [Act.put, List.setIfInBounds_toArray, List.set_cons_zero, List.set_cons_succ])
    refine Till.skip (i := 10) rfl (by kernel_rfl) (by kernel_rfl) (by kernel_rfl) (by kernel_rfl) (by rfl) (by assumption) ?_
    (try simp only [Act.put, List.setIfInBounds_toArray, List.set_cons_zero, List.set_cons_succ])
    refine Till.skip (i := 11) rfl (by kernel_rfl) (by kernel_rfl) (by kernel_rfl) (by kernel_rfl) (by rfl) (by assumption) ?_
    (try simp only [Act.put, List.setIfInBounds_toArray, List.set_cons_zero, List.set_cons_succ])
    refine Till.take (i := 12) (v := ?v6) rfl (by kernel_rfl) (by kernel_rfl) (by kernel_rfl) (by kernel_rfl) (by rfl) ?hv6 (by assumption) ?rest6
    case hv6 => first | (intro w hSw; (try dsimp only at hSw); go_simp; done) | (intro w hSw; (try dsimp only at hSw); go_simp; with_reducible rfl)
    (try simp only [Act.put, List.setIfInBounds_toArray, List.set_cons_zero, List.set_cons_succ])
    have hLc := hLd
    clear hLd hHeld
    obtain ⟨Wc, hWc⟩ : ∃ Wc, Wb = Wc := ⟨_, rfl⟩
    subst hWc
    refine Till.call (i := 13) rfl (by kernel_rfl) (by rfl) ?_
    intro K hK
    go_simp
    go_at_call 29
    (refine Calls.mono (by exact turn2 l _ t h _ _ _ _ _ _ A ca B cb _ _ base a false _ hLc.R (Nat.le_trans hb hLc.low.size) (by have := HE1.out; omega)) ?_)
    rintro e Wd ⟨C2, c2, rfl, hRn, hcn, hBn⟩
    obtain ⟨E2, hEn⟩ : ∃ E9, E1 ++ turnT 2 a o2 false = E9 := ⟨_, rfl⟩
    rw [hEn] at hRn
    rw [hEn]
    have HQ2 := Lib.hid hEn
    have HE2 := Lib.hid (show E2.length ≤ 90002 by rw [← HQ2.out, List.length_append]; have := turn_len 2 a o2 false; have := HE1.out; omega)
    clear hEn
    have hLe := hLc.grow hBn
    refine hK.out _ _ (by exact ⟨hLe.X, ref_cells hLe.X⟩) (fun hHeld => ?_)
    clear hK K
    (try simp only [Act.put, List.setIfInBounds_toArray, List.set_cons_zero, List.set_cons_succ])
    refine Till.put (i := 14) rfl (by kernel_rfl) (by rfl) (by rfl) ?_
    intro K hK
    refine wp_store_row 41 _ _ rfl w.heap.size (refC l ⟨true, t, h, ⟨true, false, o3, o4, o5⟩⟩ A ca B cb C2 E2.length c2) rfl rfl 41 _ hLe.X (by rw [ref_size]; kernel_rfl) (by rw [ref_size, ref_size]) (ref_one _ _ _ _ _ _ _ _ _) ?_
    refine hK.out _ _ ?_
    clear hK K hHeld
    (try simp only [Act.put, List.setIfInBounds_toArray, List.set_cons_zero, List.set_cons_succ])
    refine Till.done (by kernel_rfl) ?_ _
    have hL2 := hLc.turned hRn hcn hBn
    clear hLc hLe hRn hcn hBn
    generalize Wd.setRow w.heap.size (refC l ⟨true, t, h, ⟨true, false, o3, o4, o5⟩⟩ A ca B cb C2 E2.length c2) = Wa at *
    go_upto_region 3 with (fail)
    (try simp only [Act.put])
    have hLd := hL2.grow (below_drewN (Below.refl _ Wa) 1)
    change Lk w base l C ⟨true, t, h, ⟨true, false, o3, o4, o5⟩⟩ E2 A ca B cb C2 c2 Wa.drew at hLd
    clear hL2
    refine Till.begin_ (T := [18]) (S := fun W => Has W w.heap.size 41 (refC l ⟨true, t, h, ⟨true, false, o3, o4, o5⟩⟩ A ca B cb C2 E2.length c2) ∧ W.cell? ⟨w.heap.size, 13, none⟩ = some (.bool true) ∧ W.cell? ⟨w.heap.size, 6, none⟩ = some (.int .i64 l.fib) ∧ W.cell? ⟨w.heap.size, 7, none⟩ = some (.int .i64 l.fibN) ∧ W.cell? ⟨w.heap.size, 12, none⟩ = some (.slice B h.length cb)) (by kernel_rfl) (by exact ⟨hLd.X, ref_cells hLd.X⟩) (fun hHeld => ?_)
    generalize Wa.drew = Wb at *
    refine Till.take (i := 0) (v := .agg (refC l ⟨true, t, h, ⟨true, false, o3, o4, o5⟩⟩ A ca B cb C2 E2.length c2)) rfl (by kernel_rfl) (by kernel_rfl) (by kernel_rfl) (by kernel_rfl) (by rfl) (fun W hSw => by exact ref_take rfl rfl hSw.1 (ref_size _ _ _ _ _ _ _ _ _)) (by assumption) ?_
    (try simp only [Act.put, List.setIfInBounds_toArray, List.set_cons_zero, List.set_cons_succ])
    refine Till.take (i := 1) (v := ?v7) rfl (by kernel_rfl) (by kernel_rfl) (by kernel_rfl) (by kernel_rfl) (by rfl) ?hv7 (by assumption) ?rest7
    case hv7 => first | (intro w hSw; (try dsimp only at hSw); go_simp; done) | (intro w hSw; (try dsimp only at hSw); go_simp; with_reducible rfl)
    (try simp only [Act.put, List.setIfInBounds_toArray, List.set_cons_zero, List.set_cons_succ])
    refine Till.take (i := 2) (v := ?v8) rfl (by kernel_rfl) (by kernel_rfl) (by kernel_rfl) (by kernel_rfl) (by rfl) ?hv8 (by assumption) ?rest8
    case hv8 => first | (intro w hSw; (try dsimp only at hSw); go_simp; done) | (intro w hSw; (try dsimp only at hSw); go_simp; with_reducible rfl)
    (try simp only [Act.put, List.setIfInBounds_toArray, List.set_cons_zero, List.set_cons_succ])
    refine Till.take (i := 3) (v := ?v9) rfl (by kernel_rfl) (by kernel_rfl) (by kernel_rfl) (by kernel_rfl) (by rfl) ?hv9 (by assumption) ?rest9
    case hv9 => first | (intro w hSw; (try dsimp only at hSw); go_simp; done) | (intro w hSw; (try dsimp only at hSw); go_simp; with_reducible rfl)
    (try simp only [Act.put, List.setIfInBounds_toArray, List.set_cons_zero, List.set_cons_succ])
    refine Till.take (i := 4) (v := ?v10) rfl (by kernel_rfl) (by kernel_rfl) (by kernel_rfl) (by kernel_rfl) (by rfl) ?hv10 (by assumption) ?rest10
    case hv10 => first | (intro w hSw; (try dsimp only at hSw); go_simp; done) | (intro w hSw; (try dsimp only at hSw); go_simp; with_reducible rfl)
    (try simp only [Act.put, List.setIfInBounds_toArray, List.set_cons_zero, List.set_cons_succ])
    refine Till.take (i := 5) (v := ?v11) rfl (by kernel_rfl) (by kernel_rfl) (by kernel_rfl) (by kernel_rfl) (by rfl) ?hv11 (by assumption) ?rest11
    case hv11 => first | (intro w hSw; (try dsimp only at hSw); go_simp; done) | (intro w hSw; (try dsimp only at hSw); go_simp; with_reducible rfl)
    (try simp only [Act.put, List.setIfInBounds_toArray, List.set_cons_zero, List.set_cons_succ])
    refine Till.skip (i := 6) rfl (by kernel_rfl) (by kernel_rfl) (by kernel_rfl) (by kernel_rfl) (by rfl) (by assumption) ?_
    (try simp only [Act.put, List.setIfInBounds_toArray, List.set_cons_zero, List.set_cons_succ])
    refine Till.skip (i := 7) rfl (by kernel_rfl) (by kernel_rfl) (by kernel_rfl) (by kernel_rfl) (by rfl) (by assumption) ?_
    (try simp only [Act.put, List.setIfInBounds_toArray, List.set_cons_zero, List.set_cons_succ])
    refine Till.skip (i := 8) rfl (by kernel_rfl) (by kernel_rfl) (by kernel_rfl) (by kernel_rfl) (by rfl) (by assumption) ?_
    (try simp only [Act.put, List.setIfInBounds_toArray, List.set_cons_zero, List.set_cons_succ])
    refine Till.skip (i := 9) rfl (by kernel_rfl) (by kernel_rfl) (by kernel_rfl) (by kernel_rfl) (by rfl) (by assumption) ?_
    (try simp only [Act.put, List.setIfInBounds_toArray, List.set_cons_zero, List.set_cons_succ])
    refine Till.skip (i := 10) rfl (by kernel_rfl) (by kernel_rfl) (by kernel_rfl) (by kernel_rfl) (by rfl) (by assumption) ?_
    (try simp only [Act.put, List.setIfInBounds_toArray, List.set_cons_zero, List.set_cons_succ])
    refine Till.skip (i := 11) rfl (by kernel_rfl) (by kernel_rfl) (by kernel_rfl) (by kernel_rfl) (by rfl) (by assumption) ?_
    (try simp only [Act.put, List.setIfInBounds_toArray, List.set_cons_zero, List.set_cons_succ])
    refine Till.skip (i := 12) rfl (by kernel_rfl) (by kernel_rfl) (by kernel_rfl) (by kernel_rfl) (by rfl) (by assumption) ?_
    (try simp only [Act.put, List.setIfInBounds_toArray, List.set_cons_zero, List.set_cons_succ])
    refine Till.skip (i := 13) rfl (by kernel_rfl) (by kernel_rfl) (by kernel_rfl) (by kernel_rfl) (by rfl) (by assumption) ?_
    (try simp only [Act.put, List.setIfInBounds_toArray, List.set_cons_zero, List.set_cons_succ])
    refine Till.skip (i := 14) rfl (by kernel_rfl) (by kernel_rfl) (by kernel_rfl) (by kernel_rfl) (by rfl) (by assumption) ?_
    (try simp only [Act.put, List.setIfInBounds_toArray, List.set_cons_zero, List.set_cons_succ])
    refine Till.skip (i := 15) rfl (by kernel_rfl) (by kernel_rfl) (by kernel_rfl) (by kernel_rfl) (by rfl) (by assumption) ?_
    (try simp only [Act.put, List.setIfInBounds_toArray, List.set_cons_zero, List.set_cons_succ])
    refine Till.take (i := 16) (v := ?v12) rfl (by kernel_rfl) (by kernel_rfl) (by kernel_rfl) (by kernel_rfl) (by rfl) ?hv12 (by assumption) ?rest12
    case hv12 => first | (intro w hSw; (try dsimp only at hSw); go_simp; done) | (intro w hSw; (try dsimp only at hSw); go_simp; with_reducible rfl)
    (try simp only [Act.put, List.setIfInBounds_toArray, List.set_cons_zero, List.set_cons_succ])
    have hLc := hLd
    clear hLd hHeld
    obtain ⟨Wc, hWc⟩ : ∃ Wc, Wb = Wc := ⟨_, rfl⟩
    subst hWc
    refine Till.call (i := 17) rfl (by kernel_rfl) (by rfl) ?_
    intro K hK
    go_simp
    go_at_call 29
    (refine Calls.mono (by exact turn3 l _ t h _ _ _ _ _ _ A ca B cb _ _ base a false _ hLc.R (Nat.le_trans hb hLc.low.size) (by have := HE2.out; omega)) ?_)
    rintro e Wd ⟨C3, c3, rfl, hRn, hcn, hBn⟩
    obtain ⟨E3, hEn⟩ : ∃ E9, E2 ++ turnT 3 a o3 false = E9 := ⟨_, rfl⟩
    rw [hEn] at hRn
    rw [hEn]
    have HQ3 := Lib.hid hEn
    have HE3 := Lib.hid (show E3.length ≤ 90003 by rw [← HQ3.out, List.length_append]; have := turn_len 3 a o3 false; have := HE2.out; omega)
    clear hEn
    have hLe := hLc.grow hBn
    refine hK.out _ _ (by exact ⟨hLe.X, ref_cells hLe.X⟩) (fun hHeld => ?_)
    clear hK K
    (try simp only [Act.put, List.setIfInBounds_toArray, List.set_cons_zero, List.set_cons_succ])
    refine Till.put (i := 18) rfl (by kernel_rfl) (by rfl) (by rfl) ?_
    intro K hK
    refine wp_store_row 41 _ _ rfl w.heap.size (refC l ⟨true, t, h, ⟨true, false, false, o4, o5⟩⟩ A ca B cb C3 E3.length c3) rfl rfl 41 _ hLe.X (by rw [ref_size]; kernel_rfl) (by rw [ref_size, ref_size]) (ref_one _ _ _ _ _ _ _ _ _) ?_
    refine hK.out _ _ ?_
    clear hK K hHeld
    (try simp only [Act.put, List.setIfInBounds_toArray, List.set_cons_zero, List.set_cons_succ])
    refine Till.done (by kernel_rfl) ?_ _
    have hL3 := hLc.turned hRn hcn hBn
    clear hLc hLe hRn hcn hBn
    generalize Wd.setRow w.heap.size (refC l ⟨true, t, h, ⟨true, false, false, o4, o5⟩⟩ A ca B cb C3 E3.length c3) = Wa at *
    go_upto_region 4 with (fail)
    (try simp only [Act.put])
    have hLd := hL3.grow (below_drewN (Below.refl _ Wa) 1)
    change Lk w base l C ⟨true, t, h, ⟨true, false, false, o4, o5⟩⟩ E3 A ca B cb C3 c3 Wa.drew at hLd
    clear hL3
    refine Till.begin_ (T := [13]) (S := fun W => Has W w.heap.size 41 (refC l ⟨true, t, h, ⟨true, false, false, o4, o5⟩⟩ A ca B cb C3 E3.length c3) ∧ W.cell? ⟨w.heap.size, 13, none⟩ = some (.bool true) ∧ W.cell? ⟨w.heap.size, 6, none⟩ = some (.int .i64 l.fib) ∧ W.cell? ⟨w.heap.size, 7, none⟩ = some (.int .i64 l.fibN) ∧ W.cell? ⟨w.heap.size, 12, none⟩ = some (.slice B h.length cb)) (by kernel_rfl) (by exact ⟨hLd.X, ref_cells hLd.X⟩) (fun hHeld => ?_)
    generalize Wa.drew = Wb at *
    refine Till.take (i := 0) (v := .agg (refC l ⟨true, t, h, ⟨true, false, false, o4, o5⟩⟩ A ca B cb C3 E3.length c3)) rfl (by kernel_rfl) (by kernel_rfl) (by kernel_rfl) (by kernel_rfl) (by rfl) (fun W hSw => by exact ref_take rfl rfl hSw.1 (ref_size _ _ _ _ _ _ _ _ _)) (by assumption) ?_
    (try simp only [Act.put, List.setIfInBounds_toArray, List.set_cons_zero, List.set_cons_succ])
    refine Till.take (i := 1) (v := ?v13) rfl (by kernel_rfl) (by kernel_rfl) (by kernel_rfl) (by kernel_rfl) (by rfl) ?hv13 (by assumption) ?rest13
    case hv13 => first | (intro w hSw; (try dsimp only at hSw); go_simp; done) | (intro w hSw; (try dsimp only at hSw); go_simp; with_reducible rfl)
    (try simp only [Act.put, List.setIfInBounds_toArray, List.set_cons_zero, List.set_cons_succ])
    refine Till.take (i := 2) (v := ?v14) rfl (by kernel_rfl) (by kernel_rfl) (by kernel_rfl) (by kernel_rfl) (by rfl) ?hv14 (by assumption) ?rest14
    case hv14 => first | (intro w hSw; (try dsimp only at hSw); go_simp; done) | (intro w hSw; (try dsimp only at hSw); go_simp; with_reducible rfl)
    (try simp only [Act.put, List.setIfInBounds_toArray, List.set_cons_zero, List.set_cons_succ])
    refine Till.take (i := 3) (v := ?v15) rfl (by kernel_rfl) (by kernel_rfl) (by kernel_rfl) (by kernel_rfl) (by rfl) ?hv15 (by assumption) ?rest15
    case hv15 => first | (intro w hSw; (try dsimp only at hSw); go_simp; done) | (intro w hSw; (try dsimp only at hSw); go_simp; with_reducible rfl)
    (try simp only [Act.put, List.setIfInBounds_toArray, List.set_cons_zero, List.set_cons_succ])
    refine Till.take (i := 4) (v := ?v16) rfl (by kernel_rfl) (by kernel_rfl) (by kernel_rfl) (by kernel_rfl) (by rfl) ?hv16 (by assumption) ?rest16
    case hv16 => first | (intro w hSw; (try dsimp only at hSw); go_simp; done) | (intro w hSw; (try dsimp only at hSw); go_simp; with_reducible rfl)
    (try simp only [Act.put, List.setIfInBounds_toArray, List.set_cons_zero, List.set_cons_succ])
    refine Till.take (i := 5) (v := ?v17) rfl (by kernel_rfl) (by kernel_rfl) (by kernel_rfl) (by kernel_rfl) (by rfl) ?hv17 (by assumption) ?rest17
    case hv17 => first | (intro w hSw; (try dsimp only at hSw); go_simp; done) | (intro w hSw; (try dsimp only at hSw); go_simp; with_reducible rfl)
    (try simp only [Act.put, List.setIfInBounds_toArray, List.set_cons_zero, List.set_cons_succ])
    refine Till.skip (i := 6) rfl (by kernel_rfl) (by kernel_rfl) (by kernel_rfl) (by kernel_rfl) (by rfl) (by assumption) ?_
    (try simp only [Act.put, List.setIfInBounds_toArray, List.set_cons_zero, List.set_cons_succ])
    refine Till.skip (i := 7) rfl (by kernel_rfl) (by kernel_rfl) (by kernel_rfl) (by kernel_rfl) (by rfl) (by assumption) ?_
    (try simp only [Act.put, List.setIfInBounds_toArray, List.set_cons_zero, List.set_cons_succ])
    refine Till.skip (i := 8) rfl (by kernel_rfl) (by kernel_rfl) (by kernel_rfl) (by kernel_rfl) (by rfl) (by assumption) ?_
    (try simp only [Act.put, List.setIfInBounds_toArray, List.set_cons_zero, List.set_cons_succ])
    refine Till.skip (i := 9) rfl (by kernel_rfl) (by kernel_rfl) (by kernel_rfl) (by kernel_rfl) (by rfl) (by assumption) ?_
    (try simp only [Act.put, List.setIfInBounds_toArray, List.set_cons_zero, List.set_cons_succ])
    refine Till.skip (i := 10) rfl (by kernel_rfl) (by kernel_rfl) (by kernel_rfl) (by kernel_rfl) (by rfl) (by assumption) ?_
    (try simp only [Act.put, List.setIfInBounds_toArray, List.set_cons_zero, List.set_cons_succ])
    refine Till.take (i := 11) (v := ?v18) rfl (by kernel_rfl) (by kernel_rfl) (by kernel_rfl) (by kernel_rfl) (by rfl) ?hv18 (by assumption) ?rest18
    case hv18 => first | (intro w hSw; (try dsimp only at hSw); go_simp; done) | (intro w hSw; (try dsimp only at hSw); go_simp; with_reducible rfl)
    (try simp only [Act.put, List.setIfInBounds_toArray, List.set_cons_zero, List.set_cons_succ])
    have hLc := hLd
    clear hLd hHeld
    obtain ⟨Wc, hWc⟩ : ∃ Wc, Wb = Wc := ⟨_, rfl⟩
    subst hWc
    refine Till.call (i := 12) rfl (by kernel_rfl) (by rfl) ?_
    intro K hK
    go_simp
    go_at_call 29
    (refine Calls.mono (by exact turn4 l _ t h _ _ _ _ _ _ A ca B cb _ _ base a false _ hLc.R (Nat.le_trans hb hLc.low.size) (by have := HE3.out; omega)) ?_)
    rintro e Wd ⟨C4, c4, rfl, hRn, hcn, hBn⟩
    obtain ⟨E4, hEn⟩ : ∃ E9, E3 ++ turnT 4 a o4 false = E9 := ⟨_, rfl⟩
    rw [hEn] at hRn
    rw [hEn]
    have HQ4 := Lib.hid hEn
    have HE4 := Lib.hid (show E4.length ≤ 90004 by rw [← HQ4.out, List.length_append]; have := turn_len 4 a o4 false; have := HE3.out; omega)
    clear hEn
    have hLe := hLc.grow hBn
    refine hK.out _ _ (by exact ⟨hLe.X, ref_cells hLe.X⟩) (fun hHeld => ?_)
    clear hK K
    (try simp only [Act.put, List.setIfInBounds_toArray, List.set_cons_zero, List.set_cons_succ])
    refine Till.put (i := 13) rfl (by kernel_rfl) (by rfl) (by rfl) ?_
    intro K hK
    refine wp_store_row 41 _ _ rfl w.heap.size (refC l ⟨true, t, h, ⟨true, false, false, false, o5⟩⟩ A ca B cb C4 E4.length c4) rfl rfl 41 _ hLe.X (by rw [ref_size]; kernel_rfl) (by rw [ref_size, ref_size]) (ref_one _ _ _ _ _ _ _ _ _) ?_
    refine hK.out _ _ ?_
    clear hK K hHeld
    (try simp only [Act.put, List.setIfInBounds_toArray, List.set_cons_zero, List.set_cons_succ])
    refine Till.done (by kernel_rfl) ?_ _
    have hL4 := hLc.turned hRn hcn hBn
    clear hLc hLe hRn hcn hBn
    generalize Wd.setRow w.heap.size (refC l ⟨true, t, h, ⟨true, false, false, false, o5⟩⟩ A ca B cb C4 E4.length c4) = Wa at *
    go_upto_region 5 with (fail)
    (try simp only [Act.put])
    have hLd := hL4.grow (below_drewN (Below.refl _ Wa) 1)
    change Lk w base l C ⟨true, t, h, ⟨true, false, false, false, o5⟩⟩ E4 A ca B cb C4 c4 Wa.drew at hLd
    clear hL4
    refine Till.begin_ (T := [13]) (S := fun W => Has W w.heap.size 41 (refC l ⟨true, t, h, ⟨true, false, false, false, o5⟩⟩ A ca B cb C4 E4.length c4) ∧ W.cell? ⟨w.heap.size, 13, none⟩ = some (.bool true) ∧ W.cell? ⟨w.heap.size, 6, none⟩ = some (.int .i64 l.fib) ∧ W.cell? ⟨w.heap.size, 7, none⟩ = some (.int .i64 l.fibN) ∧ W.cell? ⟨w.heap.size, 12, none⟩ = some (.slice B h.length cb)) (by kernel_rfl) (by exact ⟨hLd.X, ref_cells hLd.X⟩) (fun hHeld => ?_)
    generalize Wa.drew = Wb at *
    refine Till.take (i := 0) (v := .agg (refC l ⟨true, t, h, ⟨true, false, false, false, o5⟩⟩ A ca B cb C4 E4.length c4)) rfl (by kernel_rfl) (by kernel_rfl) (by kernel_rfl) (by kernel_rfl) (by rfl) (fun W hSw => by exact ref_take rfl rfl hSw.1 (ref_size _ _ _ _ _ _ _ _ _)) (by assumption) ?_
    (try simp only [Act.put, List.setIfInBounds_toArray, List.set_cons_zero, List.set_cons_succ])
    refine Till.take (i := 1) (v := ?v19) rfl (by kernel_rfl) (by kernel_rfl) (by kernel_rfl) (by kernel_rfl) (by rfl) ?hv19 (by assumption) ?rest19
    case hv19 => first | (intro w hSw; (try dsimp only at hSw); go_simp; done) | (intro w hSw; (try dsimp only at hSw); go_simp; with_reducible rfl)
    (try simp only [Act.put, List.setIfInBounds_toArray, List.set_cons_zero, List.set_cons_succ])
    refine Till.take (i := 2) (v := ?v20) rfl (by kernel_rfl) (by kernel_rfl) (by kernel_rfl) (by kernel_rfl) (by rfl) ?hv20 (by assumption) ?rest20
    case hv20 => first | (intro w hSw; (try dsimp only at hSw); go_simp; done) | (intro w hSw; (try dsimp only at hSw); go_simp; with_reducible rfl)
    (try simp only [Act.put, List.setIfInBounds_toArray, List.set_cons_zero, List.set_cons_succ])
    refine Till.take (i := 3) (v := ?v21) rfl (by kernel_rfl) (by kernel_rfl) (by kernel_rfl) (by kernel_rfl) (by rfl) ?hv21 (by assumption) ?rest21
    case hv21 => first | (intro w hSw; (try dsimp only at hSw); go_simp; done) | (intro w hSw; (try dsimp only at hSw); go_simp; with_reducible rfl)
    (try simp only [Act.put, List.setIfInBounds_toArray, List.set_cons_zero, List.set_cons_succ])
    refine Till.take (i := 4) (v := ?v22) rfl (by kernel_rfl) (by kernel_rfl) (by kernel_rfl) (by kernel_rfl) (by rfl) ?hv22 (by assumption) ?rest22
    case hv22 => first | (intro w hSw; (try dsimp only at hSw); go_simp; done) | (intro w hSw; (try dsimp only at hSw); go_simp; with_reducible rfl)
    (try simp only [Act.put, List.setIfInBounds_toArray, List.set_cons_zero, List.set_cons_succ])
    refine Till.take (i := 5) (v := ?v23) rfl (by kernel_rfl) (by kernel_rfl) (by kernel_rfl) (by kernel_rfl) (by rfl) ?hv23 (by assumption) ?rest23
    case hv23 => first | (intro w hSw; (try dsimp only at hSw); go_simp; done) | (intro w hSw; (try dsimp only at hSw); go_simp; with_reducible rfl)
    (try simp only [Act.put, List.setIfInBounds_toArray, List.set_cons_zero, List.set_cons_succ])
    refine Till.skip (i := 6) rfl (by kernel_rfl) (by kernel_rfl) (by kernel_rfl) (by kernel_rfl) (by rfl) (by assumption) ?_
    (try simp only [Act.put, List.setIfInBounds_toArray, List.set_cons_zero, List.set_cons_succ])
    refine Till.skip (i := 7) rfl (by kernel_rfl) (by kernel_rfl) (by kernel_rfl) (by kernel_rfl) (by rfl) (by assumption) ?_
    (try simp only [Act.put, List.setIfInBounds_toArray, List.set_cons_zero, List.set_cons_succ])
    refine Till.skip (i := 8) rfl (by kernel_rfl) (by kernel_rfl) (by kernel_rfl) (by kernel_rfl) (by rfl) (by assumption) ?_
    (try simp only [Act.put, List.setIfInBounds_toArray, List.set_cons_zero, List.set_cons_succ])
    refine Till.skip (i := 9) rfl (by kernel_rfl) (by kernel_rfl) (by kernel_rfl) (by kernel_rfl) (by rfl) (by assumption) ?_
    (try simp only [Act.put, List.setIfInBounds_toArray, List.set_cons_zero, List.set_cons_succ])
    refine Till.skip (i := 10) rfl (by kernel_rfl) (by kernel_rfl) (by kernel_rfl) (by kernel_rfl) (by rfl) (by assumption) ?_
    (try simp only [Act.put, List.setIfInBounds_toArray, List.set_cons_zero, List.set_cons_succ])
    refine Till.take (i := 11) (v := ?v24) rfl (by kernel_rfl) (by kernel_rfl) (by kernel_rfl) (by kernel_rfl) (by rfl) ?hv24 (by assumption) ?rest24
    case hv24 => first | (intro w hSw; (try dsimp only at hSw); go_simp; done) | (intro w hSw; (try dsimp only at hSw); go_simp; with_reducible rfl)
    (try simp only [Act.put, List.setIfInBounds_toArray, List.set_cons_zero, List.set_cons_succ])
    have hLc := hLd
    clear hLd hHeld
    obtain ⟨Wc, hWc⟩ : ∃ Wc, Wb = Wc := ⟨_, rfl⟩
    subst hWc
    refine Till.call (i := 12) rfl (by kernel_rfl) (by rfl) ?_
    intro K hK
    go_simp
    go_at_call 29
    (refine Calls.mono (by exact turn5 l _ t h _ _ _ _ _ _ A ca B cb _ _ base a false _ hLc.R (Nat.le_trans hb hLc.low.size) (by have := HE4.out; omega)) ?_)
    rintro e Wd ⟨C5, c5, rfl, hRn, hcn, hBn⟩
    obtain ⟨E5, hEn⟩ : ∃ E9, E4 ++ turnT 5 a o5 false = E9 := ⟨_, rfl⟩
    rw [hEn] at hRn
    rw [hEn]
    have HQ5 := Lib.hid hEn
    clear hEn
    have hLe := hLc.grow hBn
    refine hK.out _ _ (by exact ⟨hLe.X, ref_cells hLe.X⟩) (fun hHeld => ?_)
    clear hK K
    (try simp only [Act.put, List.setIfInBounds_toArray, List.set_cons_zero, List.set_cons_succ])
    refine Till.put (i := 13) rfl (by kernel_rfl) (by rfl) (by rfl) ?_
    intro K hK
    refine wp_store_row 41 _ _ rfl (w.heap.size + 1) (refC l ⟨true, t, h, ⟨true, false, false, false, false⟩⟩ A ca B cb C5 E5.length c5) rfl rfl 41 _ hLe.Y (by rw [ref_size]; kernel_rfl) (by rw [ref_size]; rfl) (ref_one _ _ _ _ _ _ _ _ _) ?_
    refine hK.out _ _ ?_
    clear hK K hHeld
    (try simp only [Act.put, List.setIfInBounds_toArray, List.set_cons_zero, List.set_cons_succ])
    refine Till.done (by kernel_rfl) ?_ _
    have rn := hLc.new hcn
    obtain ⟨r1, r2, r3⟩ := hLc.last hRn hcn hBn (refC l ⟨true, t, h, ⟨true, false, false, false, false⟩⟩ A ca B cb C5 E5.length c5)
    clear hLc hLe hRn hcn hBn
    go_wp2
    exact ref_ret rfl (w.heap.size + 1) rfl _ r2 (ref_size _ _ _ _ _ _ _ _ _) rfl ⟨C5, c5, E5, by rw [← HQ5.out, ← HQ4.out, ← HQ3.out, ← HQ2.out, ← HQ1.out]; simp only [tellT, List.append_assoc]; rfl, rfl, r1, rn, r3⟩
  | false =>
    have c13 := (ref_cells hL.X).1
    dsimp only at c13
    go_enter Try.func23, Try.ntmps23
    go_upto_region 1 with (fail)
    clear hW2
    go_upto_region 2 with (first
      | (refine ref_ld rfl _ rfl _ rfl hL.X (ref_size _ _ _ _ _ _ _ _ _) ?_)
      | (go_at_call 29; (refine Calls.mono (by exact turn1 l false t h o1 o2 o3 o4 o5 E A ca B cb C cc base a false W2 hL.R (Nat.le_trans hb hL.low.size) (by have := HE0.out; omega)) ?_); rintro e W3 ⟨C1, c1, rfl, hR1, hcc3, hB3⟩; obtain ⟨E1, hE1⟩ : ∃ E1, E ++ turnT 1 a o1 false = E1 := ⟨_, rfl⟩; rw [hE1] at hR1; rw [hE1]; have HQ1 := Lib.hid hE1; clear hE1)
      | (refine ref_st rfl _ _ rfl _ _ rfl rfl (hL.grow hB3).X (ref_size _ _ _ _ _ _ _ _ _) (ref_size _ _ _ _ _ _ _ _ _) (ref_one _ _ _ _ _ _ _ _ _) ?_))
    (try simp only [Act.put])
    have hL1 := hL.turned hR1 hcc3 hB3
    have HE1 := Lib.hid (show E1.length ≤ 90001 by rw [← HQ1.out, List.length_append]; have := turn_len 1 a o1 false; have := HE0.out; omega)
    clear hL hR1 hcc3 hB3 c13
    generalize W3.setRow w.heap.size (refC l ⟨false, t, h, ⟨false, o2, o3, o4, o5⟩⟩ A ca B cb C1 E1.length c1) = Wa at *
    have hLd := hL1.grow (below_drewN (Below.refl _ Wa) 1)
    change Lk w base l C ⟨false, t, h, ⟨false, o2, o3, o4, o5⟩⟩ E1 A ca B cb C1 c1 Wa.drew at hLd
    clear hL1
    refine Till.begin_ (T := [14]) (S := fun W => Has W w.heap.size 41 (refC l ⟨false, t, h, ⟨false, o2, o3, o4, o5⟩⟩ A ca B cb C1 E1.length c1) ∧ W.cell? ⟨w.heap.size, 13, none⟩ = some (.bool false) ∧ W.cell? ⟨w.heap.size, 6, none⟩ = some (.int .i64 l.fib) ∧ W.cell? ⟨w.heap.size, 7, none⟩ = some (.int .i64 l.fibN) ∧ W.cell? ⟨w.heap.size, 12, none⟩ = some (.slice B h.length cb)) (by kernel_rfl) (by exact ⟨hLd.X, ref_cells hLd.X⟩) (fun hHeld => ?_)
    generalize Wa.drew = Wb at *
    refine Till.take (i := 0) (v := .agg (refC l ⟨false, t, h, ⟨false, o2, o3, o4, o5⟩⟩ A ca B cb C1 E1.length c1)) rfl (by kernel_rfl) (by kernel_rfl) (by kernel_rfl) (by kernel_rfl) (by rfl) (fun W hSw => by exact ref_take rfl rfl hSw.1 (ref_size _ _ _ _ _ _ _ _ _)) (by assumption) ?_
    (try simp only [Act.put, List.setIfInBounds_toArray, List.set_cons_zero, List.set_cons_succ])
    refine Till.take (i := 1) (v := ?v25) rfl (by kernel_rfl) (by kernel_rfl) (by kernel_rfl) (by kernel_rfl) (by rfl) ?hv25 (by assumption) ?rest25
    case hv25 => first | (intro w hSw; (try dsimp only at hSw); go_simp; done) | (intro w hSw; (try dsimp only at hSw); go_simp; with_reducible rfl)
    (try simp only [Act.put, List.setIfInBounds_toArray, List.set_cons_zero, List.set_cons_succ])
    refine Till.take (i := 2) (v := ?v26) rfl (by kernel_rfl) (by kernel_rfl) (by kernel_rfl) (by kernel_rfl) (by rfl) ?hv26 (by assumption) ?rest26
    case hv26 => first | (intro w hSw; (try dsimp only at hSw); go_simp; done) | (intro w hSw; (try dsimp only at hSw); go_simp; with_reducible rfl)
    (try simp only [Act.put, List.setIfInBounds_toArray, List.set_cons_zero, List.set_cons_succ])
    refine Till.take (i := 3) (v := ?v27) rfl (by kernel_rfl) (by kernel_rfl) (by kernel_rfl) (by kernel_rfl) (by rfl) ?hv27 (by assumption) ?rest27
    case hv27 => first | (intro w hSw; (try dsimp only at hSw); go_simp; done) | (intro w hSw; (try dsimp only at hSw); go_simp; with_reducible rfl)
    (try simp only [Act.put, List.setIfInBounds_toArray, List.set_cons_zero, List.set_cons_succ])
    refine Till.take (i := 4) (v := ?v28) rfl (by kernel_rfl) (by kernel_rfl) (by kernel_rfl) (by kernel_rfl) (by rfl) ?hv28 (by assumption) ?rest28
    case hv28 => first | (intro w hSw; (try dsimp only at hSw); go_simp; done) | (intro w hSw; (try dsimp only at hSw); go_simp; with_reducible rfl)
    (try simp only [Act.put, List.setIfInBounds_toArray, List.set_cons_zero, List.set_cons_succ])
    refine Till.take (i := 5) (v := ?v29) rfl (by kernel_rfl) (by kernel_rfl) (by kernel_rfl) (by kernel_rfl) (by rfl) ?hv29 (by assumption) ?rest29
    case hv29 => first | (intro w hSw; (try dsimp only at hSw); go_simp; done) | (intro w hSw; (try dsimp only at hSw); go_simp; with_reducible rfl)
    (try simp only [Act.put, List.setIfInBounds_toArray, List.set_cons_zero, List.set_cons_succ])
    refine Till.take (i := 6) (v := ?v30) rfl (by kernel_rfl) (by kernel_rfl) (by kernel_rfl) (by kernel_rfl) (by rfl) ?hv30 (by assumption) ?rest30
    case hv30 => first | (intro w hSw; (try dsimp only at hSw); go_simp; done) | (intro w hSw; (try dsimp only at hSw); go_simp; with_reducible rfl)
    (try simp only [Act.put, List.setIfInBounds_toArray, List.set_cons_zero, List.set_cons_succ])
    refine Till.take (i := 7) (v := (stV t A ca)) rfl (by kernel_rfl) (by kernel_rfl) (by kernel_rfl) (by kernel_rfl) (by rfl) (fun W hSw => by exact (tally_take rfl rfl hSw.1)) (by assumption) ?_
    (try simp only [Act.put, List.setIfInBounds_toArray, List.set_cons_zero, List.set_cons_succ])
    refine Till.take (i := 8) (v := ?v31) rfl (by kernel_rfl) (by kernel_rfl) (by kernel_rfl) (by kernel_rfl) (by rfl) ?hv31 (by assumption) ?rest31
    case hv31 => first | (intro w hSw; (try dsimp only at hSw); go_simp; done) | (intro w hSw; (try dsimp only at hSw); go_simp; with_reducible rfl)
    (try simp only [Act.put, List.setIfInBounds_toArray, List.set_cons_zero, List.set_cons_succ])
    refine Till.take (i := 9) (v := (limV l)) rfl (by kernel_rfl) (by kernel_rfl) (by kernel_rfl) (by kernel_rfl) (by rfl) (fun W hSw => by exact (lim_take rfl rfl hSw.1)) (by assumption) ?_
    (try simp only [Act.put, List.setIfInBounds_toArray, List.set_cons_zero, List.set_cons_succ])
    refine Till.take (i := 10) (v := ?v32) rfl (by kernel_rfl) (by kernel_rfl) (by kernel_rfl) (by kernel_rfl) (by rfl) ?hv32 (by assumption) ?rest32
    case hv32 => first | (intro w hSw; (try dsimp only at hSw); go_simp; done) | (intro w hSw; (try dsimp only at hSw); go_simp; with_reducible rfl)
    (try simp only [Act.put, List.setIfInBounds_toArray, List.set_cons_zero, List.set_cons_succ])
    refine Till.call (i := 11) rfl (by kernel_rfl) (by rfl) ?_
    intro K hK
    go_simp
    go_at_call 30
    (refine Calls.mono (by exact (hst Wb hLd.R.la)) ?_)
    rintro e Wc ⟨rfl, hBs⟩
    have hLc := hLd.grow hBs
    clear hHeld hLd hBs
    refine hK.out _ _ (by exact ⟨hLc.X, ref_cells hLc.X⟩) (fun hHeld => ?_)
    clear hK K
    (try simp only [Act.put, List.setIfInBounds_toArray, List.set_cons_zero, List.set_cons_succ])
    refine Till.take (i := 12) (v := ?v33) rfl (by kernel_rfl) (by kernel_rfl) (by kernel_rfl) (by kernel_rfl) (by rfl) ?hv33 (by assumption) ?rest33
    case hv33 => first | (intro w hSw; (try dsimp only at hSw); go_simp; done) | (intro w hSw; (try dsimp only at hSw); go_simp; with_reducible rfl)
    (try simp only [Act.put, List.setIfInBounds_toArray, List.set_cons_zero, List.set_cons_succ])
    refine Till.call (i := 13) rfl (by kernel_rfl) (by rfl) ?_
    intro K hK
    go_simp
    go_at_call 29
    (refine Calls.mono (by exact turn2 l _ t h _ _ _ _ _ _ A ca B cb _ _ base a a2 _ hLc.R (Nat.le_trans hb hLc.low.size) (by have := HE1.out; omega)) ?_)
    rintro e Wd ⟨C2, c2, rfl, hRn, hcn, hBn⟩
    obtain ⟨E2, hEn⟩ : ∃ E9, E1 ++ turnT 2 a o2 a2 = E9 := ⟨_, rfl⟩
    rw [hEn] at hRn
    rw [hEn]
    have HQ2 := Lib.hid hEn
    have HE2 := Lib.hid (show E2.length ≤ 90002 by rw [← HQ2.out, List.length_append]; have := turn_len 2 a o2 a2; have := HE1.out; omega)
    clear hEn
    have hLe := hLc.grow hBn
    refine hK.out _ _ (by exact ⟨hLe.X, ref_cells hLe.X⟩) (fun hHeld => ?_)
    clear hK K
    (try simp only [Act.put, List.setIfInBounds_toArray, List.set_cons_zero, List.set_cons_succ])
    refine Till.put (i := 14) rfl (by kernel_rfl) (by rfl) (by rfl) ?_
    intro K hK
    refine wp_store_row 41 _ _ rfl w.heap.size (refC l ⟨false, t, h, ⟨false, a2, o3, o4, o5⟩⟩ A ca B cb C2 E2.length c2) rfl rfl 41 _ hLe.X (by rw [ref_size]; kernel_rfl) (by rw [ref_size, ref_size]) (ref_one _ _ _ _ _ _ _ _ _) ?_
    refine hK.out _ _ ?_
    clear hK K hHeld
    (try simp only [Act.put, List.setIfInBounds_toArray, List.set_cons_zero, List.set_cons_succ])
    refine Till.done (by kernel_rfl) ?_ _
    have hL2 := hLc.turned hRn hcn hBn
    clear hLc hLe hRn hcn hBn
    generalize Wd.setRow w.heap.size (refC l ⟨false, t, h, ⟨false, a2, o3, o4, o5⟩⟩ A ca B cb C2 E2.length c2) = Wa at *
    go_upto_region 3 with (fail)
    (try simp only [Act.put])
    have hLd := hL2.grow (below_drewN (Below.refl _ Wa) 1)
    change Lk w base l C ⟨false, t, h, ⟨false, a2, o3, o4, o5⟩⟩ E2 A ca B cb C2 c2 Wa.drew at hLd
    clear hL2
    refine Till.begin_ (T := [18]) (S := fun W => Has W w.heap.size 41 (refC l ⟨false, t, h, ⟨false, a2, o3, o4, o5⟩⟩ A ca B cb C2 E2.length c2) ∧ W.cell? ⟨w.heap.size, 13, none⟩ = some (.bool false) ∧ W.cell? ⟨w.heap.size, 6, none⟩ = some (.int .i64 l.fib) ∧ W.cell? ⟨w.heap.size, 7, none⟩ = some (.int .i64 l.fibN) ∧ W.cell? ⟨w.heap.size, 12, none⟩ = some (.slice B h.length cb)) (by kernel_rfl) (by exact ⟨hLd.X, ref_cells hLd.X⟩) (fun hHeld => ?_)
    generalize Wa.drew = Wb at *
    refine Till.take (i := 0) (v := .agg (refC l ⟨false, t, h, ⟨false, a2, o3, o4, o5⟩⟩ A ca B cb C2 E2.length c2)) rfl (by kernel_rfl) (by kernel_rfl) (by kernel_rfl) (by kernel_rfl) (by rfl) (fun W hSw => by exact ref_take rfl rfl hSw.1 (ref_size _ _ _ _ _ _ _ _ _)) (by assumption) ?_
    (try simp only [Act.put, List.setIfInBounds_toArray, List.set_cons_zero, List.set_cons_succ])
    refine Till.take (i := 1) (v := ?v34) rfl (by kernel_rfl) (by kernel_rfl) (by kernel_rfl) (by kernel_rfl) (by rfl) ?hv34 (by assumption) ?rest34
    case hv34 => first | (intro w hSw; (try dsimp only at hSw); go_simp; done) | (intro w hSw; (try dsimp only at hSw); go_simp; with_reducible rfl)
    (try simp only [Act.put, List.setIfInBounds_toArray, List.set_cons_zero, List.set_cons_succ])
    refine Till.take (i := 2) (v := ?v35) rfl (by kernel_rfl) (by kernel_rfl) (by kernel_rfl) (by kernel_rfl) (by rfl) ?hv35 (by assumption) ?rest35
    case hv35 => first | (intro w hSw; (try dsimp only at hSw); go_simp; done) | (intro w hSw; (try dsimp only at hSw); go_simp; with_reducible rfl)
    (try simp only [Act.put, List.setIfInBounds_toArray, List.set_cons_zero, List.set_cons_succ])
    refine Till.take (i := 3) (v := ?v36) rfl (by kernel_rfl) (by kernel_rfl) (by kernel_rfl) (by kernel_rfl) (by rfl) ?hv36 (by assumption) ?rest36
    case hv36 => first | (intro w hSw; (try dsimp only at hSw); go_simp; done) | (intro w hSw; (try dsimp only at hSw); go_simp; with_reducible rfl)
    (try simp only [Act.put, List.setIfInBounds_toArray, List.set_cons_zero, List.set_cons_succ])
    refine Till.take (i := 4) (v := ?v37) rfl (by kernel_rfl) (by kernel_rfl) (by kernel_rfl) (by kernel_rfl) (by rfl) ?hv37 (by assumption) ?rest37
    case hv37 => first | (intro w hSw; (try dsimp only at hSw); go_simp; done) | (intro w hSw; (try dsimp only at hSw); go_simp; with_reducible rfl)
    (try simp only [Act.put, List.setIfInBounds_toArray, List.set_cons_zero, List.set_cons_succ])
    refine Till.take (i := 5) (v := ?v38) rfl (by kernel_rfl) (by kernel_rfl) (by kernel_rfl) (by kernel_rfl) (by rfl) ?hv38 (by assumption) ?rest38
    case hv38 => first | (intro w hSw; (try dsimp only at hSw); go_simp; done) | (intro w hSw; (try dsimp only at hSw); go_simp; with_reducible rfl)
    (try simp only [Act.put, List.setIfInBounds_toArray, List.set_cons_zero, List.set_cons_succ])
    refine Till.take (i := 6) (v := ?v39) rfl (by kernel_rfl) (by kernel_rfl) (by kernel_rfl) (by kernel_rfl) (by rfl) ?hv39 (by assumption) ?rest39
    case hv39 => first | (intro w hSw; (try dsimp only at hSw); go_simp; done) | (intro w hSw; (try dsimp only at hSw); go_simp; with_reducible rfl)
    (try simp only [Act.put, List.setIfInBounds_toArray, List.set_cons_zero, List.set_cons_succ])
    refine Till.take (i := 7) (v := ?v40) rfl (by kernel_rfl) (by kernel_rfl) (by kernel_rfl) (by kernel_rfl) (by rfl) ?hv40 (by assumption) ?rest40
    case hv40 => first | (intro w hSw; (try dsimp only at hSw); go_simp; done) | (intro w hSw; (try dsimp only at hSw); go_simp; with_reducible rfl)
    (try simp only [Act.put, List.setIfInBounds_toArray, List.set_cons_zero, List.set_cons_succ])
    refine Till.take (i := 8) (v := ?v41) rfl (by kernel_rfl) (by kernel_rfl) (by kernel_rfl) (by kernel_rfl) (by rfl) ?hv41 (by assumption) ?rest41
    case hv41 => first | (intro w hSw; (try dsimp only at hSw); go_simp; done) | (intro w hSw; (try dsimp only at hSw); go_simp; with_reducible rfl)
    (try simp only [Act.put, List.setIfInBounds_toArray, List.set_cons_zero, List.set_cons_succ])
    refine Till.take (i := 9) (v := ?v42) rfl (by kernel_rfl) (by kernel_rfl) (by kernel_rfl) (by kernel_rfl) (by rfl) ?hv42 (by assumption) ?rest42
    case hv42 => first | (intro w hSw; (try dsimp only at hSw); go_simp; done) | (intro w hSw; (try dsimp only at hSw); go_simp; with_reducible rfl)
    (try simp only [Act.put, List.setIfInBounds_toArray, List.set_cons_zero, List.set_cons_succ])
    refine Till.take (i := 10) (v := ?v43) rfl (by kernel_rfl) (by kernel_rfl) (by kernel_rfl) (by kernel_rfl) (by rfl) ?hv43 (by assumption) ?rest43
    case hv43 => first | (intro w hSw; (try dsimp only at hSw); go_simp; done) | (intro w hSw; (try dsimp only at hSw); go_simp; with_reducible rfl)
    (try simp only [Act.put, List.setIfInBounds_toArray, List.set_cons_zero, List.set_cons_succ])
    refine Till.take (i := 12) (v := ?v44) rfl (by kernel_rfl) (by kernel_rfl) (by kernel_rfl) (by kernel_rfl) (by rfl) ?hv44 (by assumption) ?rest44
    case hv44 => first | (intro w hSw; (try dsimp only at hSw); go_simp; done) | (intro w hSw; (try dsimp only at hSw); go_simp; with_reducible rfl)
    (try simp only [Act.put, List.setIfInBounds_toArray, List.set_cons_zero, List.set_cons_succ])
    refine Till.take (i := 13) (v := ?v45) rfl (by kernel_rfl) (by kernel_rfl) (by kernel_rfl) (by kernel_rfl) (by rfl) ?hv45 (by assumption) ?rest45
    case hv45 => first | (intro w hSw; (try dsimp only at hSw); go_simp; done) | (intro w hSw; (try dsimp only at hSw); go_simp; with_reducible rfl)
    (try simp only [Act.put, List.setIfInBounds_toArray, List.set_cons_zero, List.set_cons_succ])
    refine Till.take (i := 14) (v := ?v46) rfl (by kernel_rfl) (by kernel_rfl) (by kernel_rfl) (by kernel_rfl) (by rfl) ?hv46 (by assumption) ?rest46
    case hv46 => first | (intro w hSw; (try dsimp only at hSw); go_simp; done) | (intro w hSw; (try dsimp only at hSw); go_simp; with_reducible rfl)
    (try simp only [Act.put, List.setIfInBounds_toArray, List.set_cons_zero, List.set_cons_succ])
    refine Till.call (i := 11) rfl (by kernel_rfl) (by rfl) ?_
    intro K hK
    go_simp
    go_at_call 31
    (refine Calls.mono (by exact (hct Wb hLd.R.hs)) ?_)
    rintro e Wc ⟨rfl, hWW⟩
    have hLc := hLd.grow (w := w) (by rw [← hWW]; exact Below.refl _ _ : Below Wb.heap.size Wb Wc)
    clear hHeld hLd hWW
    refine hK.out _ _ (by exact ⟨hLc.X, ref_cells hLc.X⟩) (fun hHeld => ?_)
    clear hK K
    (try simp only [Act.put, List.setIfInBounds_toArray, List.set_cons_zero, List.set_cons_succ])
    refine Till.take (i := 15) (v := ?v47) rfl (by kernel_rfl) (by kernel_rfl) (by kernel_rfl) (by kernel_rfl) (by rfl) ?hv47 (by assumption) ?rest47
    case hv47 => first | (intro w hSw; (try dsimp only at hSw); go_simp; done) | (intro w hSw; (try dsimp only at hSw); go_simp; with_reducible rfl)
    (try simp only [Act.put, List.setIfInBounds_toArray, List.set_cons_zero, List.set_cons_succ])
    refine Till.take (i := 16) (v := ?v48) rfl (by kernel_rfl) (by kernel_rfl) (by kernel_rfl) (by kernel_rfl) (by rfl) ?hv48 (by assumption) ?rest48
    case hv48 => first | (intro w hSw; (try dsimp only at hSw); go_simp; done) | (intro w hSw; (try dsimp only at hSw); go_simp; with_reducible rfl)
    (try simp only [Act.put, List.setIfInBounds_toArray, List.set_cons_zero, List.set_cons_succ])
    refine Till.call (i := 17) rfl (by kernel_rfl) (by rfl) ?_
    intro K hK
    go_simp
    go_at_call 29
    (refine Calls.mono (by exact turn3 l _ t h _ _ _ _ _ _ A ca B cb _ _ base a (decide (l.fibN ≤ x3)) _ hLc.R (Nat.le_trans hb hLc.low.size) (by have := HE2.out; omega)) ?_)
    rintro e Wd ⟨C3, c3, rfl, hRn, hcn, hBn⟩
    obtain ⟨E3, hEn⟩ : ∃ E9, E2 ++ turnT 3 a o3 (decide (l.fibN ≤ x3)) = E9 := ⟨_, rfl⟩
    rw [hEn] at hRn
    rw [hEn]
    have HQ3 := Lib.hid hEn
    have HE3 := Lib.hid (show E3.length ≤ 90003 by rw [← HQ3.out, List.length_append]; have := turn_len 3 a o3 (decide (l.fibN ≤ x3)); have := HE2.out; omega)
    clear hEn
    have hLe := hLc.grow hBn
    refine hK.out _ _ (by exact ⟨hLe.X, ref_cells hLe.X⟩) (fun hHeld => ?_)
    clear hK K
    (try simp only [Act.put, List.setIfInBounds_toArray, List.set_cons_zero, List.set_cons_succ])
    refine Till.put (i := 18) rfl (by kernel_rfl) (by rfl) (by rfl) ?_
    intro K hK
    refine wp_store_row 41 _ _ rfl w.heap.size (refC l ⟨false, t, h, ⟨false, a2, decide (l.fibN ≤ x3), o4, o5⟩⟩ A ca B cb C3 E3.length c3) rfl rfl 41 _ hLe.X (by rw [ref_size]; kernel_rfl) (by rw [ref_size, ref_size]) (ref_one _ _ _ _ _ _ _ _ _) ?_
    refine hK.out _ _ ?_
    clear hK K hHeld
    (try simp only [Act.put, List.setIfInBounds_toArray, List.set_cons_zero, List.set_cons_succ])
    refine Till.done (by kernel_rfl) ?_ _
    have hL3 := hLc.turned hRn hcn hBn
    clear hLc hLe hRn hcn hBn
    generalize Wd.setRow w.heap.size (refC l ⟨false, t, h, ⟨false, a2, decide (l.fibN ≤ x3), o4, o5⟩⟩ A ca B cb C3 E3.length c3) = Wa at *
    go_upto_region 4 with (fail)
    (try simp only [Act.put])
    have hLd := hL3.grow (below_drewN (Below.refl _ Wa) 1)
    change Lk w base l C ⟨false, t, h, ⟨false, a2, decide (l.fibN ≤ x3), o4, o5⟩⟩ E3 A ca B cb C3 c3 Wa.drew at hLd
    clear hL3
    refine Till.begin_ (T := [13]) (S := fun W => Has W w.heap.size 41 (refC l ⟨false, t, h, ⟨false, a2, decide (l.fibN ≤ x3), o4, o5⟩⟩ A ca B cb C3 E3.length c3) ∧ W.cell? ⟨w.heap.size, 13, none⟩ = some (.bool false) ∧ W.cell? ⟨w.heap.size, 6, none⟩ = some (.int .i64 l.fib) ∧ W.cell? ⟨w.heap.size, 7, none⟩ = some (.int .i64 l.fibN) ∧ W.cell? ⟨w.heap.size, 12, none⟩ = some (.slice B h.length cb)) (by kernel_rfl) (by exact ⟨hLd.X, ref_cells hLd.X⟩) (fun hHeld => ?_)
    generalize Wa.drew = Wb at *
    refine Till.take (i := 0) (v := .agg (refC l ⟨false, t, h, ⟨false, a2, decide (l.fibN ≤ x3), o4, o5⟩⟩ A ca B cb C3 E3.length c3)) rfl (by kernel_rfl) (by kernel_rfl) (by kernel_rfl) (by kernel_rfl) (by rfl) (fun W hSw => by exact ref_take rfl rfl hSw.1 (ref_size _ _ _ _ _ _ _ _ _)) (by assumption) ?_
    (try simp only [Act.put, List.setIfInBounds_toArray, List.set_cons_zero, List.set_cons_succ])
    refine Till.take (i := 1) (v := ?v49) rfl (by kernel_rfl) (by kernel_rfl) (by kernel_rfl) (by kernel_rfl) (by rfl) ?hv49 (by assumption) ?rest49
    case hv49 => first | (intro w hSw; (try dsimp only at hSw); go_simp; done) | (intro w hSw; (try dsimp only at hSw); go_simp; with_reducible rfl)
    (try simp only [Act.put, List.setIfInBounds_toArray, List.set_cons_zero, List.set_cons_succ])
    refine Till.take (i := 2) (v := ?v50) rfl (by kernel_rfl) (by kernel_rfl) (by kernel_rfl) (by kernel_rfl) (by rfl) ?hv50 (by assumption) ?rest50
    case hv50 => first | (intro w hSw; (try dsimp only at hSw); go_simp; done) | (intro w hSw; (try dsimp only at hSw); go_simp; with_reducible rfl)
    (try simp only [Act.put, List.setIfInBounds_toArray, List.set_cons_zero, List.set_cons_succ])
    refine Till.take (i := 3) (v := ?v51) rfl (by kernel_rfl) (by kernel_rfl) (by kernel_rfl) (by kernel_rfl) (by rfl) ?hv51 (by assumption) ?rest51
    case hv51 => first | (intro w hSw; (try dsimp only at hSw); go_simp; done) | (intro w hSw; (try dsimp only at hSw); go_simp; with_reducible rfl)
    (try simp only [Act.put, List.setIfInBounds_toArray, List.set_cons_zero, List.set_cons_succ])
    refine Till.take (i := 4) (v := ?v52) rfl (by kernel_rfl) (by kernel_rfl) (by kernel_rfl) (by kernel_rfl) (by rfl) ?hv52 (by assumption) ?rest52
    case hv52 => first | (intro w hSw; (try dsimp only at hSw); go_simp; done) | (intro w hSw; (try dsimp only at hSw); go_simp; with_reducible rfl)
    (try simp only [Act.put, List.setIfInBounds_toArray, List.set_cons_zero, List.set_cons_succ])
    refine Till.take (i := 5) (v := ?v53) rfl (by kernel_rfl) (by kernel_rfl) (by kernel_rfl) (by kernel_rfl) (by rfl) ?hv53 (by assumption) ?rest53
    case hv53 => first | (intro w hSw; (try dsimp only at hSw); go_simp; done) | (intro w hSw; (try dsimp only at hSw); go_simp; with_reducible rfl)
    (try simp only [Act.put, List.setIfInBounds_toArray, List.set_cons_zero, List.set_cons_succ])
    refine Till.take (i := 6) (v := ?v54) rfl (by kernel_rfl) (by kernel_rfl) (by kernel_rfl) (by kernel_rfl) (by rfl) ?hv54 (by assumption) ?rest54
    case hv54 => first | (intro w hSw; (try dsimp only at hSw); go_simp; done) | (intro w hSw; (try dsimp only at hSw); go_simp; with_reducible rfl)
    (try simp only [Act.put, List.setIfInBounds_toArray, List.set_cons_zero, List.set_cons_succ])
    refine Till.take (i := 7) (v := (stV t A ca)) rfl (by kernel_rfl) (by kernel_rfl) (by kernel_rfl) (by kernel_rfl) (by rfl) (fun W hSw => by exact (tally_take rfl rfl hSw.1)) (by assumption) ?_
    (try simp only [Act.put, List.setIfInBounds_toArray, List.set_cons_zero, List.set_cons_succ])
    refine Till.take (i := 8) (v := ?v55) rfl (by kernel_rfl) (by kernel_rfl) (by kernel_rfl) (by kernel_rfl) (by rfl) ?hv55 (by assumption) ?rest55
    case hv55 => first | (intro w hSw; (try dsimp only at hSw); go_simp; done) | (intro w hSw; (try dsimp only at hSw); go_simp; with_reducible rfl)
    (try simp only [Act.put, List.setIfInBounds_toArray, List.set_cons_zero, List.set_cons_succ])
    refine Till.take (i := 9) (v := (limV l)) rfl (by kernel_rfl) (by kernel_rfl) (by kernel_rfl) (by kernel_rfl) (by rfl) (fun W hSw => by exact (lim_take rfl rfl hSw.1)) (by assumption) ?_
    (try simp only [Act.put, List.setIfInBounds_toArray, List.set_cons_zero, List.set_cons_succ])
    refine Till.call (i := 10) rfl (by kernel_rfl) (by rfl) ?_
    intro K hK
    go_simp
    go_at_call 32
    (refine Calls.mono (by exact (hta Wb hLd.R.rs)) ?_)
    rintro e Wc ⟨rfl, hBs⟩
    have hLc := hLd.grow hBs
    clear hHeld hLd hBs
    refine hK.out _ _ (by exact ⟨hLc.X, ref_cells hLc.X⟩) (fun hHeld => ?_)
    clear hK K
    (try simp only [Act.put, List.setIfInBounds_toArray, List.set_cons_zero, List.set_cons_succ])
    refine Till.take (i := 11) (v := ?v56) rfl (by kernel_rfl) (by kernel_rfl) (by kernel_rfl) (by kernel_rfl) (by rfl) ?hv56 (by assumption) ?rest56
    case hv56 => first | (intro w hSw; (try dsimp only at hSw); go_simp; done) | (intro w hSw; (try dsimp only at hSw); go_simp; with_reducible rfl)
    (try simp only [Act.put, List.setIfInBounds_toArray, List.set_cons_zero, List.set_cons_succ])
    refine Till.call (i := 12) rfl (by kernel_rfl) (by rfl) ?_
    intro K hK
    go_simp
    go_at_call 29
    (refine Calls.mono (by exact turn4 l _ t h _ _ _ _ _ _ A ca B cb _ _ base a a4 _ hLc.R (Nat.le_trans hb hLc.low.size) (by have := HE3.out; omega)) ?_)
    rintro e Wd ⟨C4, c4, rfl, hRn, hcn, hBn⟩
    obtain ⟨E4, hEn⟩ : ∃ E9, E3 ++ turnT 4 a o4 a4 = E9 := ⟨_, rfl⟩
    rw [hEn] at hRn
    rw [hEn]
    have HQ4 := Lib.hid hEn
    have HE4 := Lib.hid (show E4.length ≤ 90004 by rw [← HQ4.out, List.length_append]; have := turn_len 4 a o4 a4; have := HE3.out; omega)
    clear hEn
    have hLe := hLc.grow hBn
    refine hK.out _ _ (by exact ⟨hLe.X, ref_cells hLe.X⟩) (fun hHeld => ?_)
    clear hK K
    (try simp only [Act.put, List.setIfInBounds_toArray, List.set_cons_zero, List.set_cons_succ])
    refine Till.put (i := 13) rfl (by kernel_rfl) (by rfl) (by rfl) ?_
    intro K hK
    refine wp_store_row 41 _ _ rfl w.heap.size (refC l ⟨false, t, h, ⟨false, a2, decide (l.fibN ≤ x3), a4, o5⟩⟩ A ca B cb C4 E4.length c4) rfl rfl 41 _ hLe.X (by rw [ref_size]; kernel_rfl) (by rw [ref_size, ref_size]) (ref_one _ _ _ _ _ _ _ _ _) ?_
    refine hK.out _ _ ?_
    clear hK K hHeld
    (try simp only [Act.put, List.setIfInBounds_toArray, List.set_cons_zero, List.set_cons_succ])
    refine Till.done (by kernel_rfl) ?_ _
    have hL4 := hLc.turned hRn hcn hBn
    clear hLc hLe hRn hcn hBn
    generalize Wd.setRow w.heap.size (refC l ⟨false, t, h, ⟨false, a2, decide (l.fibN ≤ x3), a4, o5⟩⟩ A ca B cb C4 E4.length c4) = Wa at *
    go_upto_region 5 with (fail)
    (try simp only [Act.put])
    have hLd := hL4.grow (below_drewN (Below.refl _ Wa) 1)
    change Lk w base l C ⟨false, t, h, ⟨false, a2, decide (l.fibN ≤ x3), a4, o5⟩⟩ E4 A ca B cb C4 c4 Wa.drew at hLd
    clear hL4
    refine Till.begin_ (T := [13]) (S := fun W => Has W w.heap.size 41 (refC l ⟨false, t, h, ⟨false, a2, decide (l.fibN ≤ x3), a4, o5⟩⟩ A ca B cb C4 E4.length c4) ∧ W.cell? ⟨w.heap.size, 13, none⟩ = some (.bool false) ∧ W.cell? ⟨w.heap.size, 6, none⟩ = some (.int .i64 l.fib) ∧ W.cell? ⟨w.heap.size, 7, none⟩ = some (.int .i64 l.fibN) ∧ W.cell? ⟨w.heap.size, 12, none⟩ = some (.slice B h.length cb)) (by kernel_rfl) (by exact ⟨hLd.X, ref_cells hLd.X⟩) (fun hHeld => ?_)
    generalize Wa.drew = Wb at *
    refine Till.take (i := 0) (v := .agg (refC l ⟨false, t, h, ⟨false, a2, decide (l.fibN ≤ x3), a4, o5⟩⟩ A ca B cb C4 E4.length c4)) rfl (by kernel_rfl) (by kernel_rfl) (by kernel_rfl) (by kernel_rfl) (by rfl) (fun W hSw => by exact ref_take rfl rfl hSw.1 (ref_size _ _ _ _ _ _ _ _ _)) (by assumption) ?_
    (try simp only [Act.put, List.setIfInBounds_toArray, List.set_cons_zero, List.set_cons_succ])
    refine Till.take (i := 1) (v := ?v57) rfl (by kernel_rfl) (by kernel_rfl) (by kernel_rfl) (by kernel_rfl) (by rfl) ?hv57 (by assumption) ?rest57
    case hv57 => first | (intro w hSw; (try dsimp only at hSw); go_simp; done) | (intro w hSw; (try dsimp only at hSw); go_simp; with_reducible rfl)
    (try simp only [Act.put, List.setIfInBounds_toArray, List.set_cons_zero, List.set_cons_succ])
    refine Till.take (i := 2) (v := ?v58) rfl (by kernel_rfl) (by kernel_rfl) (by kernel_rfl) (by kernel_rfl) (by rfl) ?hv58 (by assumption) ?rest58
    case hv58 => first | (intro w hSw; (try dsimp only at hSw); go_simp; done) | (intro w hSw; (try dsimp only at hSw); go_simp; with_reducible rfl)
    (try simp only [Act.put, List.setIfInBounds_toArray, List.set_cons_zero, List.set_cons_succ])
    refine Till.take (i := 3) (v := ?v59) rfl (by kernel_rfl) (by kernel_rfl) (by kernel_rfl) (by kernel_rfl) (by rfl) ?hv59 (by assumption) ?rest59
    case hv59 => first | (intro w hSw; (try dsimp only at hSw); go_simp; done) | (intro w hSw; (try dsimp only at hSw); go_simp; with_reducible rfl)
    (try simp only [Act.put, List.setIfInBounds_toArray, List.set_cons_zero, List.set_cons_succ])
    refine Till.take (i := 4) (v := ?v60) rfl (by kernel_rfl) (by kernel_rfl) (by kernel_rfl) (by kernel_rfl) (by rfl) ?hv60 (by assumption) ?rest60
    case hv60 => first | (intro w hSw; (try dsimp only at hSw); go_simp; done) | (intro w hSw; (try dsimp only at hSw); go_simp; with_reducible rfl)
    (try simp only [Act.put, List.setIfInBounds_toArray, List.set_cons_zero, List.set_cons_succ])
    refine Till.take (i := 5) (v := ?v61) rfl (by kernel_rfl) (by kernel_rfl) (by kernel_rfl) (by kernel_rfl) (by rfl) ?hv61 (by assumption) ?rest61
    case hv61 => first | (intro w hSw; (try dsimp only at hSw); go_simp; done) | (intro w hSw; (try dsimp only at hSw); go_simp; with_reducible rfl)
    (try simp only [Act.put, List.setIfInBounds_toArray, List.set_cons_zero, List.set_cons_succ])
    refine Till.take (i := 6) (v := ?v62) rfl (by kernel_rfl) (by kernel_rfl) (by kernel_rfl) (by kernel_rfl) (by rfl) ?hv62 (by assumption) ?rest62
    case hv62 => first | (intro w hSw; (try dsimp only at hSw); go_simp; done) | (intro w hSw; (try dsimp only at hSw); go_simp; with_reducible rfl)
    (try simp only [Act.put, List.setIfInBounds_toArray, List.set_cons_zero, List.set_cons_succ])
    refine Till.take (i := 7) (v := (stV t A ca)) rfl (by kernel_rfl) (by kernel_rfl) (by kernel_rfl) (by kernel_rfl) (by rfl) (fun W hSw => by exact (tally_take rfl rfl hSw.1)) (by assumption) ?_
    (try simp only [Act.put, List.setIfInBounds_toArray, List.set_cons_zero, List.set_cons_succ])
    refine Till.take (i := 8) (v := ?v63) rfl (by kernel_rfl) (by kernel_rfl) (by kernel_rfl) (by kernel_rfl) (by rfl) ?hv63 (by assumption) ?rest63
    case hv63 => first | (intro w hSw; (try dsimp only at hSw); go_simp; done) | (intro w hSw; (try dsimp only at hSw); go_simp; with_reducible rfl)
    (try simp only [Act.put, List.setIfInBounds_toArray, List.set_cons_zero, List.set_cons_succ])
    refine Till.take (i := 9) (v := (limV l)) rfl (by kernel_rfl) (by kernel_rfl) (by kernel_rfl) (by kernel_rfl) (by rfl) (fun W hSw => by exact (lim_take rfl rfl hSw.1)) (by assumption) ?_
    (try simp only [Act.put, List.setIfInBounds_toArray, List.set_cons_zero, List.set_cons_succ])
    refine Till.call (i := 10) rfl (by kernel_rfl) (by rfl) ?_
    intro K hK
    go_simp
    go_at_call 33
    (refine Calls.mono (by exact (hbr Wb hLd.R.rs)) ?_)
    rintro e Wc ⟨rfl, hBs⟩
    have hLc := hLd.grow hBs
    clear hHeld hLd hBs
    refine hK.out _ _ (by exact ⟨hLc.X, ref_cells hLc.X⟩) (fun hHeld => ?_)
    clear hK K
    (try simp only [Act.put, List.setIfInBounds_toArray, List.set_cons_zero, List.set_cons_succ])
    refine Till.take (i := 11) (v := ?v64) rfl (by kernel_rfl) (by kernel_rfl) (by kernel_rfl) (by kernel_rfl) (by rfl) ?hv64 (by assumption) ?rest64
    case hv64 => first | (intro w hSw; (try dsimp only at hSw); go_simp; done) | (intro w hSw; (try dsimp only at hSw); go_simp; with_reducible rfl)
    (try simp only [Act.put, List.setIfInBounds_toArray, List.set_cons_zero, List.set_cons_succ])
    refine Till.call (i := 12) rfl (by kernel_rfl) (by rfl) ?_
    intro K hK
    go_simp
    go_at_call 29
    (refine Calls.mono (by exact turn5 l _ t h _ _ _ _ _ _ A ca B cb _ _ base a a5 _ hLc.R (Nat.le_trans hb hLc.low.size) (by have := HE4.out; omega)) ?_)
    rintro e Wd ⟨C5, c5, rfl, hRn, hcn, hBn⟩
    obtain ⟨E5, hEn⟩ : ∃ E9, E4 ++ turnT 5 a o5 a5 = E9 := ⟨_, rfl⟩
    rw [hEn] at hRn
    rw [hEn]
    have HQ5 := Lib.hid hEn
    clear hEn
    have hLe := hLc.grow hBn
    refine hK.out _ _ (by exact ⟨hLe.X, ref_cells hLe.X⟩) (fun hHeld => ?_)
    clear hK K
    (try simp only [Act.put, List.setIfInBounds_toArray, List.set_cons_zero, List.set_cons_succ])
    refine Till.put (i := 13) rfl (by kernel_rfl) (by rfl) (by rfl) ?_
    intro K hK
    refine wp_store_row 41 _ _ rfl (w.heap.size + 1) (refC l ⟨false, t, h, ⟨false, a2, decide (l.fibN ≤ x3), a4, a5⟩⟩ A ca B cb C5 E5.length c5) rfl rfl 41 _ hLe.Y (by rw [ref_size]; kernel_rfl) (by rw [ref_size]; rfl) (ref_one _ _ _ _ _ _ _ _ _) ?_
    refine hK.out _ _ ?_
    clear hK K hHeld
    (try simp only [Act.put, List.setIfInBounds_toArray, List.set_cons_zero, List.set_cons_succ])
    refine Till.done (by kernel_rfl) ?_ _
    have rn := hLc.new hcn
    obtain ⟨r1, r2, r3⟩ := hLc.last hRn hcn hBn (refC l ⟨false, t, h, ⟨false, a2, decide (l.fibN ≤ x3), a4, a5⟩⟩ A ca B cb C5 E5.length c5)
    clear hLc hLe hRn hcn hBn
    go_wp2
    exact ref_ret rfl (w.heap.size + 1) rfl _ r2 (ref_size _ _ _ _ _ _ _ _ _) rfl ⟨C5, c5, E5, by rw [← HQ5.out, ← HQ4.out, ← HQ3.out, ← HQ2.out, ← HQ1.out]; simp only [tellT, List.append_assoc]; rfl, rfl, r1, rn, r3⟩
end Go.Proofs.Ytpmjgomfjfhfkaa.Rhythm
