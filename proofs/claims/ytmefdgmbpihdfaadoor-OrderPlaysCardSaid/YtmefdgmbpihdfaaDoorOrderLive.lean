/- The chapter's example of layer 24: so it is; a law on a queue that no call made. -/
import Derived.Test.YtmefdgmbpihdfaaDoorOrderKit
import Derived.Test.YtmefdgmbpihdfaaDoorOrderLine
import Derived.Deep.DeepMust
import Derived.Deep.DeepCutAuto
set_option linter.unusedSimpArgs false
set_option linter.unusedVariables false
namespace Go.Proofs.YtmefdgmbpihdfaaDoor.Order
open Go.RowKit RU8
open Alarm (Or orS noOr or_cells)
open Txt
theorem num_400 : numT 400 = [52, 48, 48] := by
  unfold numT
  rw [if_neg (by decide), show (400 : Int).natAbs = 400 from rfl, digs_high (by decide), digs_high (by decide), digs_low (by decide)]
  rfl
theorem num_6000 : numT 6000 = [54, 48, 48, 48] := by
  unfold numT
  rw [if_neg (by decide), show (6000 : Int).natAbs = 6000 from rfl, digs_high (by decide), digs_high (by decide), digs_high (by decide), digs_low (by decide)]
  rfl
theorem li_line : lineT (400, 2, 6000) = [52, 48, 48, 32, 115, 105, 108, 101, 110, 99, 101, 32, 54, 48, 48, 48] := by
  rw [line_sil (by decide)]
  dsimp only
  rw [num_400, num_6000]
  rfl
theorem li1 : putT st0 (3, 1, 0) = (⟨[(3, 1, 0)], 0⟩, 0) := by kernel_rfl
theorem li2 : dueT ⟨[(3, 1, 0)], 0⟩ 2 = (⟨[(3, 1, 0)], 3⟩, []) := by kernel_rfl
theorem li3 : dueT ⟨[(3, 1, 0)], 3⟩ 3 = (⟨[], 4⟩, [(3, 1, 0)]) := by kernel_rfl
set_option maxHeartbeats 2000000 in
theorem live_k {Que : World → Nat → St → Prop} (K : QueKit Que) (w : World) (hLd : Pows w) : Calls Tryd.prog 8 #[] w fun e w' => e = .returned (.bool true) ∧ Below w.heap.size w w' := by
  have hl : Calls Tryd.prog 10 #[.agg #[.int .i64 400, .int .i64 2, .int .i64 6000]] w fun e w' => e = .returned (.tuple #[.string ⟨#[52, 48, 48, 32, 115, 105, 108, 101, 110, 99, 101, 32, 54, 48, 48, 48]⟩, .int .i64 0]) ∧ Below w.heap.size w w' := by
    have h := line_any (400, 2, 6000) (by decide) w hLd
    rw [li_line] at h
    exact h
  have hnew := fun W => K.new_any W
  go_enter Tryd.func8, Tryd.ntmps8
  go_wp2_with (first
    | (go_at_call 10; ((with_reducible refine hl.mono ?_); rintro e W1 ⟨rfl, hB1⟩))
    | (go_at_call 15; ((with_reducible refine (hnew _).mono ?_); rintro e W2 ⟨b, rfl, hQ, hfar, hB2⟩; have hB3 := hB1.trans (hB2.mono hB1.size); have hM : Mr Que w b st0 W2 := ⟨hQ, hB3, Nat.le_trans hB1.size hfar⟩; have hp := hM.put_one K (3, 1, 0) 1; rw [li1] at hp; dsimp only at hp; clear hQ hfar hB2 hB3 hM hnew))
    | (go_at_call 17; ((with_reducible refine hp.mono ?_); rintro e W4 ⟨rfl, hM4, -⟩; have hd := hM4.due K 2; rw [li2] at hd; dsimp only [List.length_nil] at hd))
    | (go_at_call 20; ((with_reducible refine hd.mono ?_); rintro e W5 ⟨A5, c5, rfl, -, -, -, -, hM5, -⟩; have hd6 := hM5.due K 3; rw [li3] at hd6; dsimp only [List.length_cons, List.length_nil] at hd6))
    | (go_at_call 20; ((with_reducible refine hd6.mono ?_); rintro e W6 ⟨A6, c6, rfl, -, -, -, -, hM6, -⟩)))
  go_ret
  exact ⟨rfl, hM6.below⟩
set_option maxHeartbeats 2000000 in
theorem nobody_k {Que : World → Nat → St → Prop} (K : QueKit Que) (o : Or) (a : Int) (w : World) (hLd : Pows w) : Calls Tryd.prog 7 #[.agg #[.int .i64 o.1, .int .i64 o.2.1, .int .i64 o.2.2], .int .i64 a] w fun e w' => e = .returned (.bool true) ∧ Below w.heap.size w w' := by
  have hput := K.no_put
  have hdue := K.no_due
  have hlen := K.no_len
  have hfrom := K.no_from
  have hclone := K.no_clone
  have hB0 := (Below.refl w.heap.size w).alloc (Nat.le_refl _) (.cells #[.int .i64 o.1, .int .i64 o.2.1, .int .i64 o.2.2] 23)
  have hX := Has.new w 23 #[.int .i64 o.1, .int .i64 o.2.1, .int .i64 o.2.2]
  have c0 := hX.cell 0
  have c1 := hX.cell 1
  have c2 := hX.cell 2
  have hB1 := hB0.alloc (by simp) (.cells #[.int .i64 o.1, .int .i64 o.2.1, .int .i64 o.2.2] 23)
  have hlive := live_k K _ (hLd.below hB1)
  go_enter Tryd.func7, Tryd.ntmps7
  go_wp2_with (first
    | (go_at_call 17; ((with_reducible refine (hput _ _ _ _).mono ?_); rintro e W1 ⟨rfl, rfl⟩))
    | (go_at_call 20; ((with_reducible refine (hdue _ _).mono ?_); rintro e W1 ⟨rfl, rfl⟩))
    | (go_at_call 22; ((with_reducible refine (hlen _).mono ?_); rintro e W1 ⟨rfl, rfl⟩))
    | (go_at_call 23; ((with_reducible refine (hfrom _).mono ?_); rintro e W1 ⟨rfl, rfl⟩))
    | (go_at_call 21; ((with_reducible refine (hclone _).mono ?_); rintro e W1 ⟨rfl, rfl⟩))
    | (go_at_call 8; ((with_reducible refine hlive.mono ?_); rintro e W9 ⟨rfl, hB9⟩; have hB10 := hB1.trans (hB9.mono hB1.size))))
  go_ret
  exact ⟨rfl, hB10⟩
end Go.Proofs.YtmefdgmbpihdfaaDoor.Order
