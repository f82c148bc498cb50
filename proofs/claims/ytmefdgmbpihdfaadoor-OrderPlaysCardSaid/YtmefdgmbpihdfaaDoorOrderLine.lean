/- The landed code: an order's line. -/
import Derived.Test.YtmefdgmbpihdfaaDoorOrderCode
import Derived.Test.YtmefdgmbpihdfaaDoorOrderLineMath
import Derived.Test.YtmefdgmbpihdfaaDoorRegionMore
import Derived.Test.YtmefdgmbpihdfaaDoorTextNumCode
import Derived.Test.YtmefdgmbpihdfaaDoorTextJoinCode
set_option linter.unusedSimpArgs false
set_option linter.unusedVariables false
namespace Go.Proofs.YtmefdgmbpihdfaaDoor.Order
open Go.RowKit RU8
open Alarm (Or orS noOr or_cells)
open Txt
/-- A literal of texts, joined. -/
theorem join_new (ps : List (List Nat)) (W : World) (cs : Array Value) (hcs : cs = (RStr.vals (texts ps)).toArray) (hps : ∀ p ∈ ps, Bytes p) (hn : ps.length ≤ 10) (hl : (joinT ps).length ≤ 1000) :
    Calls Tryd.prog 27 #[.slice (some ⟨W.heap.size, 0, none⟩) ps.length ps.length] (W.alloc (.cells cs 9)) fun e w' => e = .returned (.string (str (joinT ps))) ∧ Below W.heap.size W w' := by
  subst hcs
  have hH : Has (W.alloc (.cells (RStr.vals (texts ps)).toArray 9)) W.heap.size 9 (RStr.vals (texts ps) ++ []).toArray := by rw [List.append_nil]; exact Has.new W _ _
  have hv := RStr.Vals.has hH
  rw [texts_length] at hv
  refine (join_any _ ps.length ps.length ps _ hv hps (by omega) (by omega) (Nat.le_refl _) (by omega)).mono ?_
  rintro e w' ⟨rfl, hB⟩
  exact ⟨rfl, ((Below.refl W.heap.size W).alloc (Nat.le_refl _) _).trans (hB.mono (by simp))⟩
def orC (o : Or) : Array Value := #[.int .i64 o.1, .int .i64 o.2.1, .int .i64 o.2.2]
set_option maxHeartbeats 2000000 in
theorem line_no (o : Or) (hm : ¬ May o) (w : World) : Calls Tryd.prog 10 #[orV o] w fun e w' => e = .returned (.tuple #[.string ⟨#[]⟩, .int .i64 1]) ∧ Below w.heap.size w w' := by
  have hck := fun W => check_k o W
  have hB0 := (Below.refl w.heap.size w).alloc (Nat.le_refl _) (.cells #[.int .i64 o.1, .int .i64 o.2.1, .int .i64 o.2.2] 23)
  have e : errT o = 1 := if_neg hm
  rw [e] at hck
  clear e
  go_enter Tryd.func10, Tryd.ntmps10
  go_wp2_with (go_at_call 9; ((with_reducible refine (hck _).mono ?_); rintro e W1 ⟨rfl, hB1⟩; have hB2 := hB0.trans (hB1.mono hB0.size)))
  go_ret2
  exact ⟨rfl, hB2⟩
set_option maxHeartbeats 2000000 in
theorem line_any (o : Or) (hm : May o) (w : World) (hLd : Pows w) : Calls Tryd.prog 10 #[orV o] w fun e w' => e = .returned (.tuple #[.string (str (lineT o)), .int .i64 0]) ∧ Below w.heap.size w w' := by
  have hck := fun W => check_k o W
  have hF := may_fits hm
  have hll := line_len hF
  have hB0 := (Below.refl w.heap.size w).alloc (Nat.le_refl _) (.cells #[.int .i64 o.1, .int .i64 o.2.1, .int .i64 o.2.2] 23)
  have hX := Has.new w 23 #[.int .i64 o.1, .int .i64 o.2.1, .int .i64 o.2.2]
  have e : errT o = 0 := if_pos hm
  rw [e] at hck
  clear e
  have hn1 := fun W hW => num_pows o.1 hF.1 W hW
  have hn2 := fun W hW => num_pows o.2.2 hF.2 W hW
  have hwb := wordsO_bytes o
  by_cases hk : o.2.1 = 1
  · rw [line_ack hk] at hll ⊢
    have hwo : wordsO o = [numT o.1, ackT] := if_pos hk
    rw [hwo] at hwb
    have hj : ∀ W, Calls Tryd.prog 27 #[.slice (some ⟨W.heap.size, 0, none⟩) 2 2] (W.alloc (.cells #[.string (str (numT o.1)), .string ⟨#[97, 99, 107]⟩] 9)) fun e w' => e = .returned (.string (str (joinT [numT o.1, ackT]))) ∧ Below W.heap.size W w' :=
      fun W => join_new [numT o.1, ackT] W _ rfl hwb (by simp) (by omega)
    obtain ⟨a, kd, n⟩ := o
    dsimp only at *
    subst hk
    generalize numT a = na at *
    generalize joinT [na, ackT] = jt at *
    clear hm hF hll hwo hwb hn2
    go_enter Tryd.func10, Tryd.ntmps10
    go_wp2_with (first
      | (go_at_call 9; ((with_reducible refine (hck _).mono ?_); rintro e W1 ⟨rfl, hB1⟩; have hX1 := hX.below hB1 hX.lt; have hB2 := hB0.trans (hB1.mono hB0.size); have x0 := hX1.cell 0; have x1 := hX1.cell 1; have hn3 := hn1 W1 (hLd.below hB2); clear hX hB0 hB1))
      | (go_at_call 28; ((with_reducible refine hn3.mono ?_); rintro e W2 ⟨rfl, hB3⟩; have hB4 := hB2.trans (hB3.mono hB2.size)))
      | (go_at_call 27; ((with_reducible refine (hj _).mono ?_); rintro e W5 ⟨rfl, hB5⟩; have hB6 := hB4.trans (hB5.mono hB4.size))))
    go_ret2
    exact ⟨rfl, hB6⟩
  · have hwo : wordsO o = [numT o.1, silT, numT o.2.2] := if_neg hk
    rw [line_sil hk] at hll ⊢
    rw [hwo] at hwb
    have hj : ∀ W, Calls Tryd.prog 27 #[.slice (some ⟨W.heap.size, 0, none⟩) 3 3] (W.alloc (.cells #[.string (str (numT o.1)), .string ⟨#[115, 105, 108, 101, 110, 99, 101]⟩, .string (str (numT o.2.2))] 9)) fun e w' => e = .returned (.string (str (joinT [numT o.1, silT, numT o.2.2]))) ∧ Below W.heap.size W w' :=
      fun W => join_new [numT o.1, silT, numT o.2.2] W _ rfl hwb (by simp) (by omega)
    obtain ⟨a, kd, n⟩ := o
    dsimp only at *
    generalize numT a = na at *
    generalize numT n = nn at *
    generalize joinT [na, silT, nn] = jt at *
    clear hm hF hll hwo hwb
    go_enter Tryd.func10, Tryd.ntmps10
    go_wp2_with (first
      | (go_at_call 9; ((with_reducible refine (hck _).mono ?_); rintro e W1 ⟨rfl, hB1⟩; have hX1 := hX.below hB1 hX.lt; have hB2 := hB0.trans (hB1.mono hB0.size); have x1 := hX1.cell 1; clear hX hB0)))
    refine Reg.begin_ (S := fun W => W.cell? ⟨w.heap.size, 0, none⟩ = some (.int .i64 a) ∧ W.cell? ⟨w.heap.size, 2, none⟩ = some (.int .i64 n)) (by kernel_rfl) (by exact ⟨hX1.cell 0, hX1.cell 2⟩) (fun hHeld => ?_)
    have hX2 : Has W1.drew w.heap.size 23 #[.int .i64 a, .int .i64 kd, .int .i64 n] := hX1
    have hB3 : Below w.heap.size w W1.drew := below_drewN hB2 1
    clear hX1 hB2 hB1 x1 hck
    generalize W1.drew = W2 at *
    refine Reg.take (i := 0) (v := ?v1) rfl (by kernel_rfl) (by kernel_rfl) (by kernel_rfl) (by rfl) ?hv1 (by assumption) ?rest1
    case hv1 => first | (intro w hSw; (try dsimp only at hSw); go_simp; done) | (intro w hSw; (try dsimp only at hSw); go_simp; with_reducible rfl)
    (try simp only [Act.put, List.setIfInBounds_toArray, List.set_cons_zero, List.set_cons_succ])
    refine Reg.take (i := 1) (v := ?v2) rfl (by kernel_rfl) (by kernel_rfl) (by kernel_rfl) (by rfl) ?hv2 (by assumption) ?rest2
    case hv2 => first | (intro w hSw; (try dsimp only at hSw); go_simp; done) | (intro w hSw; (try dsimp only at hSw); go_simp; with_reducible rfl)
    (try simp only [Act.put, List.setIfInBounds_toArray, List.set_cons_zero, List.set_cons_succ])
    refine Reg.take (i := 3) (v := ?v3) rfl (by kernel_rfl) (by kernel_rfl) (by kernel_rfl) (by rfl) ?hv3 (by assumption) ?rest3
    case hv3 => first | (intro w hSw; (try dsimp only at hSw); go_simp; done) | (intro w hSw; (try dsimp only at hSw); go_simp; with_reducible rfl)
    (try simp only [Act.put, List.setIfInBounds_toArray, List.set_cons_zero, List.set_cons_succ])
    refine Reg.take (i := 4) (v := ?v4) rfl (by kernel_rfl) (by kernel_rfl) (by kernel_rfl) (by rfl) ?hv4 (by assumption) ?rest4
    case hv4 => first | (intro w hSw; (try dsimp only at hSw); go_simp; done) | (intro w hSw; (try dsimp only at hSw); go_simp; with_reducible rfl)
    (try simp only [Act.put, List.setIfInBounds_toArray, List.set_cons_zero, List.set_cons_succ])
    have hLd3 : ∀ W, Below w.heap.size w W → Pows W := fun W h => hLd.below h
    refine Reg.call (i := 2) rfl (by kernel_rfl) (by rfl) ?_
    intro K hK
    go_simp
    go_at_call 28
    (with_reducible refine (hn1 W2 (hLd3 _ hB3)).mono ?_)
    rintro e W3 ⟨rfl, hB4⟩
    have hX3 := hX2.below hB4 hX2.lt
    have hB5 := hB3.trans (hB4.mono hB3.size)
    refine hK.out _ _ (by exact ⟨hX3.cell 0, hX3.cell 2⟩) (fun hHeld => ?_)
    clear hK K
    (try simp only [Act.put, List.setIfInBounds_toArray, List.set_cons_zero, List.set_cons_succ])
    refine Reg.call (i := 5) rfl (by kernel_rfl) (by rfl) ?_
    intro K hK
    go_simp
    go_at_call 28
    (with_reducible refine (hn2 W3 (hLd3 _ hB5)).mono ?_)
    rintro e W4 ⟨rfl, hB6⟩
    have hX4 := hX3.below hB6 hX3.lt
    have hB7 := hB5.trans (hB6.mono hB5.size)
    have hX5 := hX4.alloc (.cells #[.string (str na), .string ⟨#[115, 105, 108, 101, 110, 99, 101]⟩, .string (str nn)] 9)
    have hj4 := hj W4
    clear hj hn1 hn2
    refine hK.out _ _ (by exact ⟨hX4.cell 0, hX4.cell 2⟩) (fun hHeld => ?_)
    clear hK K
    (try simp only [Act.put, List.setIfInBounds_toArray, List.set_cons_zero, List.set_cons_succ])
    refine Reg.call (i := 6) rfl (by kernel_rfl) (by rfl) ?_
    intro K hK
    go_simp
    refine hK.out _ _ (by exact ⟨hX5.cell 0, hX5.cell 2⟩) (fun hHeld => ?_)
    clear hK K
    (try simp only [Act.put, List.setIfInBounds_toArray, List.set_cons_zero, List.set_cons_succ])
    refine Reg.call (i := 7) rfl (by kernel_rfl) (by rfl) ?_
    intro K hK
    go_simp
    go_at_call 27
    (with_reducible refine hj4.mono ?_)
    rintro e W6 ⟨rfl, hB8⟩
    have hX6 := hX4.below hB8 hX4.lt
    have hB9 := hB7.trans (hB8.mono hB7.size)
    refine hK.out _ _ (by exact ⟨hX6.cell 0, hX6.cell 2⟩) (fun hHeld => ?_)
    clear hK K
    (try simp only [Act.put, List.setIfInBounds_toArray, List.set_cons_zero, List.set_cons_succ])
    refine Reg.take (i := 8) (v := ?v5) rfl (by kernel_rfl) (by kernel_rfl) (by kernel_rfl) (by rfl) ?hv5 (by assumption) ?rest5
    case hv5 => first | (intro w hSw; (try dsimp only at hSw); go_simp; done) | (intro w hSw; (try dsimp only at hSw); go_simp; with_reducible rfl)
    (try simp only [Act.put, List.setIfInBounds_toArray, List.set_cons_zero, List.set_cons_succ])
    refine Reg.take (i := 9) (v := ?v6) rfl (by kernel_rfl) (by kernel_rfl) (by kernel_rfl) (by rfl) ?hv6 (by assumption) ?rest6
    case hv6 => first | (intro w hSw; (try dsimp only at hSw); go_simp; done) | (intro w hSw; (try dsimp only at hSw); go_simp; with_reducible rfl)
    (try simp only [Act.put, List.setIfInBounds_toArray, List.set_cons_zero, List.set_cons_succ])
    refine Reg.done (by kernel_rfl) ?_ _
    go_wp2
    go_ret2
    exact ⟨rfl, hB9⟩
end Go.Proofs.YtmefdgmbpihdfaaDoor.Order
