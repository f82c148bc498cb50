/- OrderLines: any order's line, and the order of any line. -/
import Derived.Test.YtmefdgmbpihdfaaDoorOrderLive
import Derived.Test.YtmefdgmbpihdfaaDoorOrderArgs
import Derived.Test.YtmefdgmbpihdfaaDoorOrderSame
import Derived.Test.YtmefdgmbpihdfaaDoorOrderRefRead
set_option linter.unusedSimpArgs false
set_option linter.unusedVariables false
namespace Go.Proofs.YtmefdgmbpihdfaaDoor.Order
open Go.RowKit RU8
open Alarm (Or orS noOr or_cells)
open Txt
theorem got_line {o : Or} (h : May o) : gotT (lineT o) = o ∧ readC (lineT o) = 0 := by
  have h1 := line_is h
  refine ⟨?_, if_pos h1⟩
  unfold gotT
  rw [if_pos h1, codeG_line h]
set_option maxRecDepth 100000 in
set_option maxHeartbeats 4000000 in
theorem lines_k {Que : World → Nat → St → Prop} (K : QueKit Que) (o : Or) (hO : OrOk o) (l : List Nat) (hb : Bytes l) (w : World) (hLd : Laid w) :
    Calls Tryd.prog 3 #[.agg #[.int .i64 o.1, .int .i64 o.2.1, .int .i64 o.2.2], .string (str l)] w fun e w' => e = .returned (.bool true) ∧ Below w.heap.size w w' := by
  obtain ⟨L, hL⟩ : ∃ L, l.length = L := ⟨_, rfl⟩
  have hsz : (str l).size = L := by rw [str_size, hL]
  have hlive := fun W h => live_k K W h
  have hB := (Below.refl w.heap.size w).alloc (Nat.le_refl _) (.cells #[.int .i64 o.1, .int .i64 o.2.1, .int .i64 o.2.2] 23)
  have hX := Has.new w 23 #[.int .i64 o.1, .int .i64 o.2.1, .int .i64 o.2.2]
  have c0 := hX.cell 0
  have c1 := hX.cell 1
  have c2 := hX.cell 2
  have hck := fun W => check_k o W
  have hmy := fun W => refmay_any o W
  unfold errT orV at hck
  rcases Nat.lt_or_ge 500 L with hbig | hs0
  · obtain ⟨o0, o1, o2⟩ := o
    dsimp only at *
    clear hck hmy hL hX c0 c1 c2 hb hO
    go_enter Tryd.func3, Tryd.ntmps3
    go_wp2_with (go_at_call 8; ((with_reducible refine (hlive _ (hLd.below hB).pows).mono ?_); rintro e W8 ⟨rfl, h8⟩; replace hB := hB.trans (h8.mono hB.size)))
    go_ret
    exact ⟨rfl, hB⟩
  have hr2 := fun W h => read_k l hb (by omega) W h
  have hr3 := fun W => refread_k l hb (by omega) W
  obtain ⟨⟨g0, g1, g2⟩, hg⟩ : ∃ g, gotT l = g := ⟨_, rfl⟩
  rw [hg] at hr2 hr3
  have hq1 := fun (W : World) (x y : Operand) => guard_eql W x y g0 g1 g2 g0 g1 g2
  have hq2 : ∀ W : World, (binOp .eql 23 (.agg #[.int .i64 g0, .int .i64 g1, .int .i64 g2]) (.agg #[.int .i64 g0, .int .i64 g1, .int .i64 g2])).run Tryd.prog W = .ok (.bool true) W := fun W => by rw [eql_or]; simp
  clear hg hL
  by_cases hm : May o
  · have hln := fun W h => line_any o hm W h
    have hrl := fun W => refline_any o (may_fits hm) W
    have hll := line_len (may_fits hm)
    have hr1 := fun W h => read_k (lineT o) (line_bytes o) (by omega) W h
    rw [(got_line hm).1, (got_line hm).2] at hr1
    rw [if_pos hm] at hck
    rw [decide_eq_true hm] at hmy
    have hsq := str_same (line_bytes o) (line_bytes o)
    rw [decide_eq_true rfl] at hsq
    unfold orV at hln
    generalize lineT o = t at *
    obtain ⟨o0, o1, o2⟩ := o
    dsimp only at *
    have hp1 := fun (W : World) (x y : Operand) => guard_or W x y o0 o1 o2 o0 o1 o2
    have hp2 : ∀ W : World, (binOp .neq 23 (.agg #[.int .i64 o0, .int .i64 o1, .int .i64 o2]) (.agg #[.int .i64 o0, .int .i64 o1, .int .i64 o2])).run Tryd.prog W = .ok (.bool false) W := fun W => by rw [neq_or]; simp
    clear hm hll hO
    by_cases hI : IsLine codeG l
    · rw [show readC l = 0 from if_pos hI] at hr2
      rw [decide_eq_true hI] at hr3
      clear hI hb
      go_enter Tryd.func3, Tryd.ntmps3
      go_wp2_with (first
        | (go_at_call 9; ((with_reducible refine (hck _).mono ?_); rintro e W1 ⟨rfl, h1⟩; replace hB := hB.trans (h1.mono hB.size); replace hX := hX.below h1 hX.lt; replace c0 := hX.cell 0; replace c1 := hX.cell 1; replace c2 := hX.cell 2))
        | (go_at_call 10; ((with_reducible refine (hln _ (hLd.below hB).pows).mono ?_); rintro e W2 ⟨rfl, h2⟩; replace hB := hB.trans (h2.mono hB.size); replace hX := hX.below h2 hX.lt; replace c0 := hX.cell 0; replace c1 := hX.cell 1; replace c2 := hX.cell 2))
        | (go_at_call 11; ((with_reducible refine (hmy _).mono ?_); rintro e W3 ⟨rfl, h3⟩; replace hB := hB.trans (h3.mono hB.size); replace hX := hX.below h3 hX.lt; replace c0 := hX.cell 0; replace c1 := hX.cell 1; replace c2 := hX.cell 2))
        | (go_at_call 12; ((with_reducible refine (hrl _).mono ?_); rintro e W4 ⟨rfl, h4⟩; replace hB := hB.trans (h4.mono hB.size); replace hX := hX.below h4 hX.lt; replace c0 := hX.cell 0; replace c1 := hX.cell 1; replace c2 := hX.cell 2))
        | (go_at_call 13; ((with_reducible refine (hr1 _ (hLd.below hB)).mono ?_); rintro e W5 ⟨rfl, h5⟩; have hy := h5.trans ((Below.refl W5.heap.size W5).alloc (Nat.le_refl _) (.cells #[.int .i64 o0, .int .i64 o1, .int .i64 o2] 23) |>.mono h5.size); replace hB := hB.trans (hy.mono hB.size); have hlt := hX.lt; have hz5 : W5.heap.size ≠ w.heap.size := (by have := h5.size; omega); replace hX := hX.below hy hX.lt; have hY := Has.new W5 23 #[.int .i64 o0, .int .i64 o1, .int .i64 o2]; have d0 := hY.cell 0; have d1 := hY.cell 1; have d2 := hY.cell 2; replace c0 := hX.cell 0; replace c1 := hX.cell 1; replace c2 := hX.cell 2))
        | (go_at_call 13; ((with_reducible refine (hr2 _ (hLd.below hB)).mono ?_); rintro e W6 ⟨rfl, h6⟩; have hy6 := h6.trans ((Below.refl W6.heap.size W6).alloc (Nat.le_refl _) (.cells #[.int .i64 g0, .int .i64 g1, .int .i64 g2] 23) |>.mono h6.size); replace hB := hB.trans (hy6.mono hB.size); clear hX c0 c1 c2; have hG := Has.new W6 23 #[.int .i64 g0, .int .i64 g1, .int .i64 g2]; have hz6 := hG.lt))
        | (go_at_call 14; ((with_reducible refine (hr3 _).mono ?_); rintro e W7 ⟨rfl, h7⟩; have hy7 := h7.trans ((Below.refl W7.heap.size W7).alloc (Nat.le_refl _) (.cells #[.int .i64 g0, .int .i64 g1, .int .i64 g2] 23) |>.mono h7.size); replace hB := hB.trans (hy7.mono hB.size); have hz7 : W7.heap.size ≠ W6.heap.size := (by have := h7.size; omega); replace hG := hG.below hy7 hG.lt; have hH := Has.new W7 23 #[.int .i64 g0, .int .i64 g1, .int .i64 g2]; have g0' := hG.cell 0; have g1' := hG.cell 1; have g2' := hG.cell 2; have e0' := hH.cell 0; have e1' := hH.cell 1; have e2' := hH.cell 2))
        | (go_at_call 8; ((with_reducible refine (hlive _ (hLd.below hB).pows).mono ?_); rintro e W8 ⟨rfl, h8⟩; replace hB := hB.trans (h8.mono hB.size))))
      go_ret
      exact ⟨rfl, hB⟩
    · rw [show readC l = 8 from if_neg hI] at hr2
      rw [decide_eq_false hI] at hr3
      clear hI hb
      go_enter Tryd.func3, Tryd.ntmps3
      go_wp2_with (first
        | (go_at_call 9; ((with_reducible refine (hck _).mono ?_); rintro e W1 ⟨rfl, h1⟩; replace hB := hB.trans (h1.mono hB.size); replace hX := hX.below h1 hX.lt; replace c0 := hX.cell 0; replace c1 := hX.cell 1; replace c2 := hX.cell 2))
        | (go_at_call 10; ((with_reducible refine (hln _ (hLd.below hB).pows).mono ?_); rintro e W2 ⟨rfl, h2⟩; replace hB := hB.trans (h2.mono hB.size); replace hX := hX.below h2 hX.lt; replace c0 := hX.cell 0; replace c1 := hX.cell 1; replace c2 := hX.cell 2))
        | (go_at_call 11; ((with_reducible refine (hmy _).mono ?_); rintro e W3 ⟨rfl, h3⟩; replace hB := hB.trans (h3.mono hB.size); replace hX := hX.below h3 hX.lt; replace c0 := hX.cell 0; replace c1 := hX.cell 1; replace c2 := hX.cell 2))
        | (go_at_call 12; ((with_reducible refine (hrl _).mono ?_); rintro e W4 ⟨rfl, h4⟩; replace hB := hB.trans (h4.mono hB.size); replace hX := hX.below h4 hX.lt; replace c0 := hX.cell 0; replace c1 := hX.cell 1; replace c2 := hX.cell 2))
        | (go_at_call 13; ((with_reducible refine (hr1 _ (hLd.below hB)).mono ?_); rintro e W5 ⟨rfl, h5⟩; have hy := h5.trans ((Below.refl W5.heap.size W5).alloc (Nat.le_refl _) (.cells #[.int .i64 o0, .int .i64 o1, .int .i64 o2] 23) |>.mono h5.size); replace hB := hB.trans (hy.mono hB.size); have hlt := hX.lt; have hz5 : W5.heap.size ≠ w.heap.size := (by have := h5.size; omega); replace hX := hX.below hy hX.lt; have hY := Has.new W5 23 #[.int .i64 o0, .int .i64 o1, .int .i64 o2]; have d0 := hY.cell 0; have d1 := hY.cell 1; have d2 := hY.cell 2; replace c0 := hX.cell 0; replace c1 := hX.cell 1; replace c2 := hX.cell 2))
        | (go_at_call 13; ((with_reducible refine (hr2 _ (hLd.below hB)).mono ?_); rintro e W6 ⟨rfl, h6⟩; have hy6 := h6.trans ((Below.refl W6.heap.size W6).alloc (Nat.le_refl _) (.cells #[.int .i64 g0, .int .i64 g1, .int .i64 g2] 23) |>.mono h6.size); replace hB := hB.trans (hy6.mono hB.size); clear hX c0 c1 c2; have hG := Has.new W6 23 #[.int .i64 g0, .int .i64 g1, .int .i64 g2]; have hz6 := hG.lt))
        | (go_at_call 14; ((with_reducible refine (hr3 _).mono ?_); rintro e W7 ⟨rfl, h7⟩; have hy7 := h7.trans ((Below.refl W7.heap.size W7).alloc (Nat.le_refl _) (.cells #[.int .i64 g0, .int .i64 g1, .int .i64 g2] 23) |>.mono h7.size); replace hB := hB.trans (hy7.mono hB.size); have hz7 : W7.heap.size ≠ W6.heap.size := (by have := h7.size; omega); replace hG := hG.below hy7 hG.lt; have hH := Has.new W7 23 #[.int .i64 g0, .int .i64 g1, .int .i64 g2]; have g0' := hG.cell 0; have g1' := hG.cell 1; have g2' := hG.cell 2; have e0' := hH.cell 0; have e1' := hH.cell 1; have e2' := hH.cell 2))
        | (go_at_call 8; ((with_reducible refine (hlive _ (hLd.below hB).pows).mono ?_); rintro e W8 ⟨rfl, h8⟩; replace hB := hB.trans (h8.mono hB.size))))
      go_ret
      exact ⟨rfl, hB⟩
  · have hln := fun W (_ : Pows W) => line_no o hm W
    have hrl : True := trivial
    have hr1 : True := trivial
    rw [if_neg hm] at hck
    rw [decide_eq_false hm] at hmy
    unfold orV at hln
    obtain ⟨o0, o1, o2⟩ := o
    dsimp only at *
    clear hm hO
    by_cases hI : IsLine codeG l
    · rw [show readC l = 0 from if_pos hI] at hr2
      rw [decide_eq_true hI] at hr3
      clear hI hb
      go_enter Tryd.func3, Tryd.ntmps3
      go_wp2_with (first
        | (go_at_call 9; ((with_reducible refine (hck _).mono ?_); rintro e W1 ⟨rfl, h1⟩; replace hB := hB.trans (h1.mono hB.size); replace hX := hX.below h1 hX.lt; replace c0 := hX.cell 0; replace c1 := hX.cell 1; replace c2 := hX.cell 2))
        | (go_at_call 10; ((with_reducible refine (hln _ (hLd.below hB).pows).mono ?_); rintro e W2 ⟨rfl, h2⟩; replace hB := hB.trans (h2.mono hB.size); replace hX := hX.below h2 hX.lt; replace c0 := hX.cell 0; replace c1 := hX.cell 1; replace c2 := hX.cell 2))
        | (go_at_call 11; ((with_reducible refine (hmy _).mono ?_); rintro e W3 ⟨rfl, h3⟩; replace hB := hB.trans (h3.mono hB.size); replace hX := hX.below h3 hX.lt; replace c0 := hX.cell 0; replace c1 := hX.cell 1; replace c2 := hX.cell 2))
        | (go_at_call 12; ((with_reducible refine (hrl _).mono ?_); rintro e W4 ⟨rfl, h4⟩; replace hB := hB.trans (h4.mono hB.size); replace hX := hX.below h4 hX.lt; replace c0 := hX.cell 0; replace c1 := hX.cell 1; replace c2 := hX.cell 2))
        | (go_at_call 13; ((with_reducible refine (hr1 _ (hLd.below hB)).mono ?_); rintro e W5 ⟨rfl, h5⟩; have hy := h5.trans ((Below.refl W5.heap.size W5).alloc (Nat.le_refl _) (.cells #[.int .i64 o0, .int .i64 o1, .int .i64 o2] 23) |>.mono h5.size); replace hB := hB.trans (hy.mono hB.size); have hlt := hX.lt; have hz5 : W5.heap.size ≠ w.heap.size := (by have := h5.size; omega); replace hX := hX.below hy hX.lt; have hY := Has.new W5 23 #[.int .i64 o0, .int .i64 o1, .int .i64 o2]; have d0 := hY.cell 0; have d1 := hY.cell 1; have d2 := hY.cell 2; replace c0 := hX.cell 0; replace c1 := hX.cell 1; replace c2 := hX.cell 2))
        | (go_at_call 13; ((with_reducible refine (hr2 _ (hLd.below hB)).mono ?_); rintro e W6 ⟨rfl, h6⟩; have hy6 := h6.trans ((Below.refl W6.heap.size W6).alloc (Nat.le_refl _) (.cells #[.int .i64 g0, .int .i64 g1, .int .i64 g2] 23) |>.mono h6.size); replace hB := hB.trans (hy6.mono hB.size); clear hX c0 c1 c2; have hG := Has.new W6 23 #[.int .i64 g0, .int .i64 g1, .int .i64 g2]; have hz6 := hG.lt))
        | (go_at_call 14; ((with_reducible refine (hr3 _).mono ?_); rintro e W7 ⟨rfl, h7⟩; have hy7 := h7.trans ((Below.refl W7.heap.size W7).alloc (Nat.le_refl _) (.cells #[.int .i64 g0, .int .i64 g1, .int .i64 g2] 23) |>.mono h7.size); replace hB := hB.trans (hy7.mono hB.size); have hz7 : W7.heap.size ≠ W6.heap.size := (by have := h7.size; omega); replace hG := hG.below hy7 hG.lt; have hH := Has.new W7 23 #[.int .i64 g0, .int .i64 g1, .int .i64 g2]; have g0' := hG.cell 0; have g1' := hG.cell 1; have g2' := hG.cell 2; have e0' := hH.cell 0; have e1' := hH.cell 1; have e2' := hH.cell 2))
        | (go_at_call 8; ((with_reducible refine (hlive _ (hLd.below hB).pows).mono ?_); rintro e W8 ⟨rfl, h8⟩; replace hB := hB.trans (h8.mono hB.size))))
      go_ret
      exact ⟨rfl, hB⟩
    · rw [show readC l = 8 from if_neg hI] at hr2
      rw [decide_eq_false hI] at hr3
      clear hI hb
      go_enter Tryd.func3, Tryd.ntmps3
      go_wp2_with (first
        | (go_at_call 9; ((with_reducible refine (hck _).mono ?_); rintro e W1 ⟨rfl, h1⟩; replace hB := hB.trans (h1.mono hB.size); replace hX := hX.below h1 hX.lt; replace c0 := hX.cell 0; replace c1 := hX.cell 1; replace c2 := hX.cell 2))
        | (go_at_call 10; ((with_reducible refine (hln _ (hLd.below hB).pows).mono ?_); rintro e W2 ⟨rfl, h2⟩; replace hB := hB.trans (h2.mono hB.size); replace hX := hX.below h2 hX.lt; replace c0 := hX.cell 0; replace c1 := hX.cell 1; replace c2 := hX.cell 2))
        | (go_at_call 11; ((with_reducible refine (hmy _).mono ?_); rintro e W3 ⟨rfl, h3⟩; replace hB := hB.trans (h3.mono hB.size); replace hX := hX.below h3 hX.lt; replace c0 := hX.cell 0; replace c1 := hX.cell 1; replace c2 := hX.cell 2))
        | (go_at_call 12; ((with_reducible refine (hrl _).mono ?_); rintro e W4 ⟨rfl, h4⟩; replace hB := hB.trans (h4.mono hB.size); replace hX := hX.below h4 hX.lt; replace c0 := hX.cell 0; replace c1 := hX.cell 1; replace c2 := hX.cell 2))
        | (go_at_call 13; ((with_reducible refine (hr1 _ (hLd.below hB)).mono ?_); rintro e W5 ⟨rfl, h5⟩; have hy := h5.trans ((Below.refl W5.heap.size W5).alloc (Nat.le_refl _) (.cells #[.int .i64 o0, .int .i64 o1, .int .i64 o2] 23) |>.mono h5.size); replace hB := hB.trans (hy.mono hB.size); have hlt := hX.lt; have hz5 : W5.heap.size ≠ w.heap.size := (by have := h5.size; omega); replace hX := hX.below hy hX.lt; have hY := Has.new W5 23 #[.int .i64 o0, .int .i64 o1, .int .i64 o2]; have d0 := hY.cell 0; have d1 := hY.cell 1; have d2 := hY.cell 2; replace c0 := hX.cell 0; replace c1 := hX.cell 1; replace c2 := hX.cell 2))
        | (go_at_call 13; ((with_reducible refine (hr2 _ (hLd.below hB)).mono ?_); rintro e W6 ⟨rfl, h6⟩; have hy6 := h6.trans ((Below.refl W6.heap.size W6).alloc (Nat.le_refl _) (.cells #[.int .i64 g0, .int .i64 g1, .int .i64 g2] 23) |>.mono h6.size); replace hB := hB.trans (hy6.mono hB.size); clear hX c0 c1 c2; have hG := Has.new W6 23 #[.int .i64 g0, .int .i64 g1, .int .i64 g2]; have hz6 := hG.lt))
        | (go_at_call 14; ((with_reducible refine (hr3 _).mono ?_); rintro e W7 ⟨rfl, h7⟩; have hy7 := h7.trans ((Below.refl W7.heap.size W7).alloc (Nat.le_refl _) (.cells #[.int .i64 g0, .int .i64 g1, .int .i64 g2] 23) |>.mono h7.size); replace hB := hB.trans (hy7.mono hB.size); have hz7 : W7.heap.size ≠ W6.heap.size := (by have := h7.size; omega); replace hG := hG.below hy7 hG.lt; have hH := Has.new W7 23 #[.int .i64 g0, .int .i64 g1, .int .i64 g2]; have g0' := hG.cell 0; have g1' := hG.cell 1; have g2' := hG.cell 2; have e0' := hH.cell 0; have e1' := hH.cell 1; have e2' := hH.cell 2))
        | (go_at_call 8; ((with_reducible refine (hlive _ (hLd.below hB).pows).mono ?_); rintro e W8 ⟨rfl, h8⟩; replace hB := hB.trans (h8.mono hB.size))))
      go_ret
      exact ⟨rfl, hB⟩
end Go.Proofs.YtmefdgmbpihdfaaDoor.Order
