/- PaceMeans, over whatever a pace's calls answer. -/
import Derived.Test.YtgdhpoafjfjdiaaPaceLive
import Derived.Test.YtgdhpoafjfjdiaaPaceRef
import Derived.Deep.DeepCutAuto
import Derived.Deep.DeepMust
set_option linter.unusedSimpArgs false
set_option linter.unusedVariables false
namespace Go.Proofs.Ytgdhpoafjfjdiaa.Pace
open Go.RowKit RI64
/-- Where the loop stands: these distances came since it was made, or reset. -/
structure At (Pac : World → Nat → List Nat → List Int → Prop) (w : World) (base b : Nat) (S : List Nat) (v : Value) (L : List Int) (W : World) : Prop where
  pac : Pac W b S L.reverse
  row : W.ownsRow base 2 1 v L.length (vals L)
  below : Below w.heap.size w W
  base_ : base ≤ W.heap.size
section
variable {Pac : World → Nat → List Nat → List Int → Prop} (K : PaceKit Pac) {w W W' : World} {base b : Nat} {S : List Nat} {v : Value} {L : List Int}
include K
theorem At.grow (h : At Pac w base b S v L W) (hB : Below W.heap.size W W') : At Pac w base b S v L W' :=
  ⟨K.below h.pac hB, own_kept h.row (Kept.of_below (S := []) hB) (by simp), h.below.trans (hB.mono h.below.size), Nat.le_trans h.base_ hB.size⟩
end
set_option maxRecDepth 100000 in
set_option maxHeartbeats 2000000 in
theorem means_k {Pac : World → Nat → List Nat → List Int → Prop} (K : PaceKit Pac) (a0 : Option Addr) (len0 cap0 : Nat) (z0 : List Int) (a1 a2 : Int) (w : World) (w0 : IsRow .i64 w a0 len0 cap0 z0) (b1 : 0 ≤ a1 ∧ a1 ≤ 255) :
    Calls Try.prog 3 #[.slice a0 len0 cap0, .int .u8 a1, .int .i64 a2] w fun e w' => e = .returned (.bool true) ∧ Below w.heap.size w w' := by
  obtain ⟨c, rfl⟩ : ∃ c : Nat, a1 = (c : Int) := ⟨a1.toNat, by omega⟩
  obtain ⟨p, hp⟩ : ∃ p, min len0 60 = p := ⟨_, rfl⟩
  have hp1 : p ≤ len0 := by omega
  have hp2 : p ≤ 60 := by omega
  have hminA : (if (60 : Int) < (len0 : Int) then (60 : Int) else (len0 : Int)) = (p : Int) := by split <;> omega
  obtain ⟨hV0, hc1, hc2, hltb⟩ := row_vals w0 p hp1
  have hp3 : p ≤ cap0 := by omega
  generalize z0.take p = zs at *
  clear w0 hp hltb
  have hli := fun W => live_k K W
  have hnew := K.new_any w
  have HInfo := Lib.hid (show (Try.prog.info? 2).map (fun i => (i.zero, i.size, i.bytes)) = some (some (.int .i64 0), 1, 8) by kernel_rfl)
  go_enter Try.func3, Try.ntmps3
  go_wp2_with (go_at_call 7; ((with_reducible refine hnew.mono ?_); rintro e W1 ⟨b, S, rfl, hP, hfar, hB1⟩))
  have hSb : ∀ k ∈ S, k < W1.heap.size := (K.lt hP).2
  have hw1 : w.heap.size ≤ W1.heap.size := hB1.size
  have hat0 : At Pac w W1.heap.size b S (.slice none 0 0) [] W1 := ⟨hP, own_none _ _ _, hB1, Nat.le_refl _⟩
  clear hminA hnew hP hB1
  go_loopw [8, 18] (fun v i wr => ∃ (j : Nat) (L : List Int), j ≤ p ∧ i = .int .i64 (j : Nat) ∧ L.length ≤ j ∧ At Pac w W1.heap.size b S v L wr) (fun _ i _ => p - (intOf i).toNat)
  case atStart => exact ⟨0, [], by omega, rfl, by simp, hat0⟩
  case round =>
    clear hat0
    obtain ⟨j, L, hj, rfl, hLj, hat⟩ := hrel
    by_cases hjp : j < p
    · obtain ⟨x, rfl, hcx⟩ := (hV0.below hat.below).cells (by omega)
      have hcell := hcx j hjp
      have hjz : (j : Int) < (p : Int) := by omega
      generalize zs.getD j 0 = v at *
      clear hcx hV0
      go_upto_region 6 with (fail)
      go_cut [30] (fun q wx => (∃ B : Bool, q = .bool B) ∧ wx = wr)
      case first =>
        go_wp2_with fail
        all_goals
          go_meet
          case rel => exact ⟨⟨_, rfl⟩, rfl⟩
      case rest =>
      obtain ⟨⟨B, rfl⟩, rfl⟩ := hcut
      go_upto_if 30 with (fail)
      go_cut [8] (fun v wx => ∃ L : List Int, L.length ≤ j ∧ At Pac w W1.heap.size b S v L wx)
      case first =>
        cases B with
        | false =>
          go_wp2_with fail
          go_meet
          case rel => exact ⟨L, hLj, hat⟩
        | true =>
          have hre := K.reset_any _ b S _ hat.pac
          go_wp2_with (first
            | (go_at_call 8; ((with_reducible refine hre.mono ?_); rintro e X1 ⟨rfl, hP1, hK1⟩; have hB1 := below_kept hat.below hK1 hat.below.size hfar; have hsz1 := Nat.le_trans hat.base_ hK1.size; have hm1 := K.mean_any X1 b S _ hP1; rw [mean_none] at hm1))
            | (go_at_call 9; ((with_reducible refine hm1.mono ?_); rintro e X2 ⟨rfl, hB⟩; have hB2 := hB1.trans (hB.mono hB1.size); have hsz2 := Nat.le_trans hsz1 hB.size; have hP2 := K.below hP1 hB; have hm2 := K.many_any X2 b S _ hP2; rw [show many [] = 0 from rfl] at hm2; clear hB))
            | (go_at_call 10; ((with_reducible refine hm2.mono ?_); rintro e X3 ⟨rfl, hB⟩; have hB3 := hB2.trans (hB.mono hB2.size); have hsz3 := Nat.le_trans hsz2 hB.size; have hP3 := K.below hP2 hB; have hm3 := K.late_any X3 b S _ a2 hP3; rw [late_len _ _ rfl] at hm3; clear hB))
            | (go_at_call 11; ((with_reducible refine hm3.mono ?_); rintro e X4 ⟨rfl, hB⟩; have hB4 := hB3.trans (hB.mono hB3.size); have hsz4 := Nat.le_trans hsz3 hB.size; have hP4 := K.below hP3 hB; clear hB)))
          go_meet
          case rel => exact ⟨[], by simp, hP4, own_none _ _ _, hB4, hsz4⟩
      case rest =>
        clear hLj hat
        obtain ⟨L, hLj, hat⟩ := hcut
        have hVv : Vals (wc.alloc (.cells #[.int .i64 v] 2)) (some ⟨wc.heap.size, 0, none⟩) 1 [v] := Vals.has (ys := [v]) (tl := []) (Has.new wc _ _)
        have hB0 := hat.below.alloc hat.below.size (.cells #[.int .i64 v] 2)
        have hO0 := own_kept hat.row ((Kept.refl [] _).alloc (.cells #[.int .i64 v] 2)) (by simp)
        have hadd := K.add_any _ b S L.reverse _ 1 1 [v] (K.alloc hat.pac (.cells #[.int .i64 v] 2)) hVv (by omega) (fun y _ hy => by injection hy with hy; subst hy; intro hk; have h9 := hSb _ hk; exact Nat.lt_irrefl _ (Nat.lt_of_lt_of_le h9 hat.base_))
        have hrev : [v].reverse ++ L.reverse = (L ++ [v]).reverse := by simp
        rw [hrev] at hadd
        have hbase := hat.base_
        obtain ⟨n', hn'⟩ : ∃ n', L.length + 1 = n' := ⟨_, rfl⟩
        have hln : (L ++ [v]).length = n' := by rw [List.length_append, ← hn']; rfl
        have hmn : (if (8 : Int) < (n' : Int) then (8 : Int) else (n' : Int)) = (many (L ++ [v]).reverse : Nat) := by
          unfold many; rw [List.length_reverse, hln]; split <;> omega
        have hmn2 : (if 8 < n' then (8 : Int) else (n' : Int)) = (many (L ++ [v]).reverse : Nat) := by
          unfold many; rw [List.length_reverse, hln]; split <;> omega
        have hn6 : n' ≤ 100 := by omega
        have hmb := many_bd (L ++ [v]).reverse
        go_wp2_with (first
          | (go_at_call 12; ((with_reducible refine hadd.mono ?_); rintro e X1 ⟨rfl, hP1, hK1⟩; have hB1 := below_kept hB0 hK1 hB0.size hfar; have hO1 := own_kept hO0 hK1 hSb; have hsz1 := Nat.le_trans (Nat.le_trans hbase (by simp)) hK1.size; have hR := ready_one 2 v hO1 hB1; have hP2 := K.alloc hP1 (.cells #[.int .i64 v] 2)))
          | (at_builtin; refine wpList_append_vals rfl (.tmp 50) (.tmp 52) _ rfl W1.heap.size 2 8 (by omega) Try.underlying22 HInfo.out u8 L.length L rfl (by exact hR.1) _ 1 1 [v] rfl (by exact hR.2.2) (by omega) (by exact Nat.le_trans hsz1 (by simp)) ?_; intro v3 X3 hO3 hg3 hat3; have hP3 := K.kept hP2 (Kept.of_grown hg3) (fun k hk h9 => Nat.lt_irrefl _ (Nat.lt_of_lt_of_le (hSb k hk) (own_in hR.1 k h9))); have hB3 := below_kept hR.2.1 (Kept.of_grown hg3) hR.2.1.size (fun k hk => Nat.le_trans hw1 (own_in hR.1 k hk)); have hsz3 := Nat.le_trans hsz1 (Nat.le_trans (by simp) (Kept.of_grown hg3).size); rw [hn'] at hO3; obtain ⟨A3, c3, rfl, hc31, hc32, hV3, hfar3, _⟩ := Vals.own hO3; have hm1 := K.mean_any X3 b S _ hP3)
          | (go_at_call 9; (go_must (refine hm1.mono ?_); rintro e X4 ⟨rfl, hB⟩; go_must (have hB4 := hB3.trans (hB.mono hB3.size)); go_must (have hsz4 := Nat.le_trans hsz3 hB.size); go_must (have hP4 := K.below hP3 hB); go_must (have hV4 := hV3.below hB); go_must (have hO4 := own_kept hO3 (Kept.of_below (S := []) hB) (by simp)); go_must (have hm2 := refmean_any A3 n' c3 (L ++ [v]) X4 hV4 (by omega)); clear hB))
          | (go_at_call 13; ((with_reducible refine hm2.mono ?_); rintro e X5 ⟨rfl, hB⟩; have hB5 := hB4.trans (hB.mono hB4.size); have hsz5 := Nat.le_trans hsz4 hB.size; have hP5 := K.below hP4 hB; have hV5 := hV4.below hB; have hO5 := own_kept hO4 (Kept.of_below (S := []) hB) (by simp); have hm3 := K.many_any X5 b S _ hP5; clear hB))
          | (go_at_call 10; ((with_reducible refine hm3.mono ?_); rintro e X6 ⟨rfl, hB⟩; have hB6 := hB5.trans (hB.mono hB5.size); have hsz6 := Nat.le_trans hsz5 hB.size; have hP6 := K.below hP5 hB; have hV6 := hV5.below hB; have hO6 := own_kept hO5 (Kept.of_below (S := []) hB) (by simp); have hm4 := K.late_any X6 b S _ a2 hP6; clear hB))
          | (go_at_call 11; ((with_reducible refine hm4.mono ?_); rintro e X7 ⟨rfl, hB⟩; have hB7 := hB6.trans (hB.mono hB6.size); have hsz7 := Nat.le_trans hsz6 hB.size; have hP7 := K.below hP6 hB; have hV7 := hV6.below hB; have hO7 := own_kept hO6 (Kept.of_below (S := []) hB) (by simp); have hm5 := reflate_any A3 n' c3 (L ++ [v]) a2 X7 hV7 (by omega); clear hB))
          | (go_at_call 14; ((with_reducible refine hm5.mono ?_); rintro e X8 ⟨rfl, hB⟩; have hB8 := hB7.trans (hB.mono hB7.size); have hsz8 := Nat.le_trans hsz7 hB.size; have hP8 := K.below hP7 hB; have hO8 := own_kept hO7 (Kept.of_below (S := []) hB) (by simp); clear hB)))
        go_roundw
        case rel => exact ⟨j + 1, L ++ [v], by omega, by go_num, by omega, hP8, by rw [hln]; exact hO8, hB8, hsz8⟩
        case measure => simp [intOf]; omega
    · obtain rfl : j = p := by omega
      have hB := hat.below
      clear hat hV0
      go_wp2_with (go_at_call 15; ((with_reducible refine (hli _).mono ?_); rintro e W9 ⟨rfl, hN⟩))
      go_ret
      exact ⟨rfl, hB.trans (hN.mono hB.size)⟩
end Go.Proofs.Ytgdhpoafjfjdiaa.Pace
