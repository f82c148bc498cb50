/- What the landed lead says of one event. -/
import Derived.Test.YtlopkmbindfkjaaLeadRun
import Derived.Test.YtlopkmbindfkjaaLeadItems
set_option linter.unusedSimpArgs false
set_option linter.unusedVariables false
namespace Go.Proofs.Ytlopkmbindfkjaa.Lead
open Go.RowKit
/-- Where a Push stands: the lead in block b stands so; V is a row of its own, with these items; all else is as it was in w0. -/
structure Mid (w0 : World) (b : Nat) (W : World) (st : St) (V : Value) (E : List It) : Prop where
  st : StIs W b st
  own : W.ownsRow w0.heap.size 40 3 V E.length (Row.flat itS E)
  kept : Kept [b] w0 W
  lt : b < w0.heap.size
theorem Mid.turn {w0 W W' : World} {b : Nat} {st st' : St} {V : Value} {E : List It} (h : Mid w0 b W st V E) (hs : StIs W' b st') (hk : Kept [b] W W') : Mid w0 b W' st' V E :=
  ⟨hs, own_kept h.own hk (fun k hk => by simp at hk; have := h.lt; omega), h.kept.trans hk, h.lt⟩
theorem Mid.alloc {w0 W : World} {b : Nat} {st : St} {V : Value} {E : List It} (h : Mid w0 b W st V E) (o : Obj) : Mid w0 b (W.alloc o) st V E :=
  h.turn (h.st.kept ((Kept.refl [] W).alloc o) (by simp)) ((Kept.refl [b] W).alloc o)
theorem Mid.below {w0 W W' : World} {b : Nat} {st : St} {V : Value} {E : List It} (h : Mid w0 b W st V E) (hB : Below W.heap.size W W') : Mid w0 b W' st V E :=
  h.turn (h.st.kept (Kept.of_below (S := []) hB) (by simp)) (Kept.of_below hB)
/-- Behind an append. -/
theorem Mid.grown {w0 W W' : World} {b : Nat} {st : St} {V V' : Value} {E : List It} {x : It} (h : Mid w0 b W st V E) (ho : W'.ownsRow w0.heap.size 40 3 V' (E.length + 1) (Row.flat itS (E ++ [x]))) (hg : W.grownBy W' V.ownBlock) : Mid w0 b W' st V' (E ++ [x]) :=
  ⟨h.st.kept (Kept.of_grown hg) (own_apart h.own h.lt), by rw [List.length_append]; exact ho, h.kept.grown hg (fun k hk => .inr (own_block h.own k hk).1), h.lt⟩
theorem it_at (W : World) (t : TypeId) (k a v : Int) (m : Nat) (hm : W.heap.size = m) : Row.Vals itS (W.alloc (.cells #[.int .i64 k, .int .i64 a, .int .i32 v] t)) (some ⟨m, 0, none⟩) 1 [(k, a, v)] := by
  subst hm
  exact it_new W t k a v
def TookIs (w0 : World) (b : Nat) (st : St) (E : List It) (e : Ending) (w' : World) : Prop := ∃ V, e = .returned V ∧ Mid w0 b w' st V E
set_option maxRecDepth 100000 in
set_option maxHeartbeats 2000000 in
theorem take_k (b : Nat) (st : St) (k a v : Int) (o : Bool) (w0 w : World) (V : Value) (E : List It) (h : Mid w0 b w st V E) (hn : st.n ≤ 100000) (hE : E.length ≤ 100000) :
    Calls Try.prog 17 #[.pointer (some ⟨b, 0, none⟩), V, .agg #[.int .i64 k, .int .i64 a, .int .i32 v, .bool o]] w (TookIs w0 b (st.next (k, a, v, o)) (E ++ st.items (k, a, v, o))) := by
  have hInfo : (Try.prog.info? 40).map (fun i => (i.zero, i.size, i.bytes)) = some (some (.agg #[.int .i64 0, .int .i64 0, .int .i32 0]), 3, 24) := by kernel_rfl
  have HInfo := Lib.hid hInfo
  clear hInfo
  have hA := h.alloc (.cells #[.int .i64 k, .int .i64 a, .int .i32 v, .bool o] 37)
  have hP := Has.new w 37 #[.int .i64 k, .int .i64 a, .int .i32 v, .bool o]
  have hm := meet_k b st k a v o _ hA.st hn
  have hpb : w.heap.size ∉ [b] := by have := Has.lt h.st; simp; omega
  obtain ⟨fin, hfin⟩ : ∃ q, q = st.next (k, a, v, o) := ⟨_, rfl⟩
  obtain ⟨F, hF⟩ : ∃ q, q = E ++ st.items (k, a, v, o) := ⟨_, rfl⟩
  rw [← hfin, ← hF]
  by_cases h1 : k = 1
  · subst h1
    have hκ : kindT st (1, a, v, o) = 1 := rfl
    rw [hκ] at hm
    have HF := Lib.hid (show fin = st.met (1, a, v, o) ∧ F = E ++ [(1, a, 0)] from ⟨hfin, hF⟩)
    clear hfin hF
    generalize st.met (1, a, v, o) = met at *
    go_enter Try.func17, Try.ntmps17
    go_wp2_with (first
      | (go_at_call 18; ((with_reducible refine hm.mono ?_); rintro e W1 ⟨rfl, hS1, hK1⟩; have hM1 := hA.turn hS1 hK1; have hP1 := hK1.has hP hpb; have e0 := hP1.cell 0; have e1 := hP1.cell 1; have e2 := hP1.cell 2; have e3 := hP1.cell 3; have c2 := Has.cell hS1 2; have f2 := Has.frozen hS1 2))
      | (at_builtin; (have hMW3a := (hM1.alloc (.cells #[.int .i64 1,.int .i64 a,.int .i32 0] 40)); refine Row.wpList_append (S := itS) rfl (.tmp 19) (.tmp 24) _ rfl w0.heap.size 40 _ 24 (by omega) Try.underlying26 HInfo.out (by kernel_rfl) V _ _ rfl hMW3a.own _ 1 1 [(1,a,0)] rfl (it_at _ _ _ _ _ _ (by simp)) (by first | omega | (simp; omega)) hMW3a.kept.size ?_; intro V3 W3 hOW3 hgW3 hatW3; have hMW3 := hMW3a.grown hOW3 hgW3))
    )
    go_ret
    exact ⟨V3, rfl, by rw [HF.out.1, HF.out.2]; exact hMW3⟩
  · by_cases h2 : k = 2
    · subst h2
      by_cases hc : st.on = true ∧ o = true ∧ 20 ≤ st.run o
      · obtain ⟨c1, c2, c3⟩ := hc
        rw [c2] at c3
        have hκ : kindT st (2, a, v, o) = 2 := by unfold kindT; simp [c1, c2, c3]
        rw [hκ] at hm
        have HF := Lib.hid (show fin = ⟨false, o, st.run o⟩ ∧ F = (E ++ [(2, a, 0)]) ++ [sampT false (2, a, v, o)] from ⟨by rw [hfin]; unfold St.next St.on'; simp [c1,c2,c3], by rw [hF]; unfold St.items St.on' sampT; simp [c1,c2,c3]⟩)
        have hm1 : st.met (2, a, v, o) = ⟨!false, o, st.run o⟩ := by unfold St.met; simp [c1,c2,c3]
        rw [hm1] at hm
        have hpV : w.heap.size ∉ V.ownBlock.toList := fun hmem => by
          have := (own_block h.own _ (by simpa using hmem)).2
          omega
        clear hfin hF c1 c2 c3 hκ hm1
        generalize st.run o = R at *
        have hsm := fun W h => sample_k b ⟨false, o, R⟩ 2 a v o W h
        dsimp only at hsm
        generalize sampT false (2, a, v, o) = x at *
        obtain ⟨x1, x2, x3⟩ := x
        dsimp only at hsm
        go_enter Try.func17, Try.ntmps17
        go_wp2_with (first
          | (go_at_call 18; ((with_reducible refine hm.mono ?_); rintro e W1 ⟨rfl, hS1, hK1⟩; have hM1 := hA.turn hS1 hK1; have hP1 := hK1.has hP hpb; have e0 := hP1.cell 0; have e1 := hP1.cell 1; have e2 := hP1.cell 2; have e3 := hP1.cell 3; have c2 := Has.cell hS1 2; have f2 := Has.frozen hS1 2))
          | (at_builtin; (have hM2 := (hM1.turn (st' := ⟨false, o, R⟩) (by have h9 := Has.set_ hS1 2 (.bool false); simpa [StIs] using h9) ((Kept.refl [b] W1).setCell (p := ⟨b, 2, none⟩) (.inl (by simp)) (.bool false))).alloc (.cells #[.int .i64 2, .int .i64 a, .int .i32 0] 40); refine Row.wpList_append (S := itS) rfl (.tmp 31) (.tmp 36) _ rfl w0.heap.size 40 _ 24 (by omega) Try.underlying26 HInfo.out (by kernel_rfl) V _ _ rfl hM2.own _ 1 1 [(2, a, 0)] rfl (it_at _ _ _ _ _ _ (by simp)) (by omega) hM2.kept.size ?_; intro V3 W3 hO3 hg3 hat3; have hM3 := hM2.grown hO3 hg3; have hP3 := (Kept.of_grown hg3).has ((hP1.far (p := ⟨b, 2, none⟩) (by have := Has.lt h.st; show w.heap.size ≠ b; omega) (.bool false)).alloc (.cells #[.int .i64 2, .int .i64 a, .int .i32 0] 40)) hpV; have i0 := hP3.cell 0; have i1 := hP3.cell 1; have i2 := hP3.cell 2; have i3 := hP3.cell 3))
          | (go_at_call 19; (((with_reducible refine (hsm _ hM3.st).mono ?_); rintro e W4 ⟨rfl, hBW4⟩; have hMW4 := hM3.below hBW4)))
          | (at_builtin; (have hMW5a := (hMW4.alloc (.cells #[.int .i64 x1,.int .i64 x2,.int .i32 x3] 40)); refine Row.wpList_append (S := itS) rfl (.tmp 38) (.tmp 42) _ rfl w0.heap.size 40 _ 24 (by omega) Try.underlying26 HInfo.out (by kernel_rfl) V3 _ _ rfl hMW5a.own _ 1 1 [(x1,x2,x3)] rfl (it_at _ _ _ _ _ _ (by simp)) (by first | omega | (simp; omega)) hMW5a.kept.size ?_; intro V5 W5 hOW5 hgW5 hatW5; have hMW5 := hMW5a.grown hOW5 hgW5))
          )
        go_ret
        exact ⟨V5, rfl, by rw [HF.out.1, HF.out.2]; exact hMW5⟩
      · by_cases hd : st.on = false ∧ o = false ∧ 100 ≤ st.run o
        · obtain ⟨c1, c2, c3⟩ := hd
          rw [c2] at c3
          have hκ : kindT st (2, a, v, o) = 3 := by unfold kindT; simp [c1, c2, c3]
          rw [hκ] at hm
          have HF := Lib.hid (show fin = ⟨true, o, st.run o⟩ ∧ F = (E ++ [(3, a, 0)]) ++ [sampT true (2, a, v, o)] from ⟨by rw [hfin]; unfold St.next St.on'; simp [c1,c2,c3], by rw [hF]; unfold St.items St.on' sampT; simp [c1,c2,c3]⟩)
          have hm1 : st.met (2, a, v, o) = ⟨!true, o, st.run o⟩ := by unfold St.met; simp [c1,c2,c3]
          rw [hm1] at hm
          have hpV : w.heap.size ∉ V.ownBlock.toList := fun hmem => by
            have := (own_block h.own _ (by simpa using hmem)).2
            omega
          clear hfin hF c1 c2 c3 hκ hm1
          generalize st.run o = R at *
          have hsm := fun W h => sample_k b ⟨true, o, R⟩ 2 a v o W h
          dsimp only at hsm
          generalize sampT true (2, a, v, o) = x at *
          obtain ⟨x1, x2, x3⟩ := x
          dsimp only at hsm
          go_enter Try.func17, Try.ntmps17
          go_wp2_with (first
            | (go_at_call 18; ((with_reducible refine hm.mono ?_); rintro e W1 ⟨rfl, hS1, hK1⟩; have hM1 := hA.turn hS1 hK1; have hP1 := hK1.has hP hpb; have e0 := hP1.cell 0; have e1 := hP1.cell 1; have e2 := hP1.cell 2; have e3 := hP1.cell 3; have c2 := Has.cell hS1 2; have f2 := Has.frozen hS1 2))
            | (at_builtin; (have hM2 := (hM1.turn (st' := ⟨true, o, R⟩) (by have h9 := Has.set_ hS1 2 (.bool true); simpa [StIs] using h9) ((Kept.refl [b] W1).setCell (p := ⟨b, 2, none⟩) (.inl (by simp)) (.bool true))).alloc (.cells #[.int .i64 3, .int .i64 a, .int .i32 0] 40); refine Row.wpList_append (S := itS) rfl (.tmp 31) (.tmp 36) _ rfl w0.heap.size 40 _ 24 (by omega) Try.underlying26 HInfo.out (by kernel_rfl) V _ _ rfl hM2.own _ 1 1 [(3, a, 0)] rfl (it_at _ _ _ _ _ _ (by simp)) (by omega) hM2.kept.size ?_; intro V3 W3 hO3 hg3 hat3; have hM3 := hM2.grown hO3 hg3; have hP3 := (Kept.of_grown hg3).has ((hP1.far (p := ⟨b, 2, none⟩) (by have := Has.lt h.st; show w.heap.size ≠ b; omega) (.bool true)).alloc (.cells #[.int .i64 3, .int .i64 a, .int .i32 0] 40)) hpV; have i0 := hP3.cell 0; have i1 := hP3.cell 1; have i2 := hP3.cell 2; have i3 := hP3.cell 3))
            | (go_at_call 19; (((with_reducible refine (hsm _ hM3.st).mono ?_); rintro e W4 ⟨rfl, hBW4⟩; have hMW4 := hM3.below hBW4)))
            | (at_builtin; (have hMW5a := (hMW4.alloc (.cells #[.int .i64 x1,.int .i64 x2,.int .i32 x3] 40)); refine Row.wpList_append (S := itS) rfl (.tmp 38) (.tmp 42) _ rfl w0.heap.size 40 _ 24 (by omega) Try.underlying26 HInfo.out (by kernel_rfl) V3 _ _ rfl hMW5a.own _ 1 1 [(x1,x2,x3)] rfl (it_at _ _ _ _ _ _ (by simp)) (by first | omega | (simp; omega)) hMW5a.kept.size ?_; intro V5 W5 hOW5 hgW5 hatW5; have hMW5 := hMW5a.grown hOW5 hgW5))
            )
          go_ret
          exact ⟨V5, rfl, by rw [HF.out.1, HF.out.2]; exact hMW5⟩
        · have hκ : kindT st (2, a, v, o) = 4 := by unfold kindT; simp [hc, hd]
          rw [hκ] at hm
          have hon : st.on' o = st.on := by unfold St.on'; rw [if_neg hc, if_neg hd]
          have HF := Lib.hid (show fin = st.met (2, a, v, o) ∧ F = E ++ [sampT st.on (2, a, v, o)] from ⟨by rw [hfin]; unfold St.next St.met; simp [hon], by rw [hF]; unfold St.items sampT; simp [hon]⟩)
          have hmo : (st.met (2, a, v, o)).on = st.on := by unfold St.met; simp
          have hsm := fun W h => sample_k b (st.met (2, a, v, o)) 2 a v o W h
          rw [hmo] at hsm
          clear hfin hF hc hd hκ hmo hon
          generalize st.met (2, a, v, o) = met at *
          generalize sampT st.on (2, a, v, o) = x at *
          obtain ⟨x1, x2, x3⟩ := x
          dsimp only at hsm
          go_enter Try.func17, Try.ntmps17
          go_wp2_with (first
            | (go_at_call 18; ((with_reducible refine hm.mono ?_); rintro e W1 ⟨rfl, hS1, hK1⟩; have hM1 := hA.turn hS1 hK1; have hP1 := hK1.has hP hpb; have e0 := hP1.cell 0; have e1 := hP1.cell 1; have e2 := hP1.cell 2; have e3 := hP1.cell 3; have c2 := Has.cell hS1 2; have f2 := Has.frozen hS1 2))
            | (go_at_call 19; (((with_reducible refine (hsm _ hM1.st).mono ?_); rintro e W4 ⟨rfl, hBW4⟩; have hMW4 := hM1.below hBW4)))
            | (at_builtin; (have hMW5a := (hMW4.alloc (.cells #[.int .i64 x1,.int .i64 x2,.int .i32 x3] 40)); refine Row.wpList_append (S := itS) rfl (.tmp 38) (.tmp 42) _ rfl w0.heap.size 40 _ 24 (by omega) Try.underlying26 HInfo.out (by kernel_rfl) V _ _ rfl hMW5a.own _ 1 1 [(x1,x2,x3)] rfl (it_at _ _ _ _ _ _ (by simp)) (by first | omega | (simp; omega)) hMW5a.kept.size ?_; intro V5 W5 hOW5 hgW5 hatW5; have hMW5 := hMW5a.grown hOW5 hgW5))
            )
          go_ret
          exact ⟨V5, rfl, by rw [HF.out.1, HF.out.2]; exact hMW5⟩
    · have hκ : kindT st (k, a, v, o) = 0 := by unfold kindT; simp [h1, h2]
      rw [hκ] at hm
      have HF := Lib.hid (show fin = st.met (k, a, v, o) ∧ F = E from ⟨by rw [hfin]; unfold St.next St.met; simp [h1, h2], by rw [hF]; unfold St.items; simp [h1, h2]⟩)
      clear hfin hF hκ
      generalize st.met (k, a, v, o) = met at *
      go_enter Try.func17, Try.ntmps17
      go_wp2_with (first
        | (go_at_call 18; ((with_reducible refine hm.mono ?_); rintro e W1 ⟨rfl, hS1, hK1⟩; have hM1 := hA.turn hS1 hK1; have hP1 := hK1.has hP hpb; have e0 := hP1.cell 0; have e1 := hP1.cell 1; have e2 := hP1.cell 2; have e3 := hP1.cell 3; have c2 := Has.cell hS1 2; have f2 := Has.frozen hS1 2))
        )
      go_ret
      exact ⟨V, rfl, by rw [HF.out.1, HF.out.2]; exact hM1⟩
end Go.Proofs.Ytlopkmbindfkjaa.Lead
