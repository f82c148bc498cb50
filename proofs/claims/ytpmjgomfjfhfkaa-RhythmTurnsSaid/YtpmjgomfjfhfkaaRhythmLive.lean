/- The chapter's example of layer 22: so it is; a law on a rhythm that no call made. -/
import Derived.Test.YtpmjgomfjfhfkaaRhythmKit
import Derived.Deep.DeepMust
set_option linter.unusedSimpArgs false
set_option linter.unusedVariables false
namespace Go.Proofs.Ytpmjgomfjfhfkaa.Rhythm
open Go.RowKit
open Tally (Lim May mayT limV)
def lU : Lim := ⟨0, 200, 100, 2, 240, 2, 50, 3, 100⟩
theorem lU_may : mayT lU = true := by decide +kernel
/-- Behind so many samples of 0. -/
def liveS (n : Nat) : St := ⟨false, ⟨decide (0 < n), 0, []⟩, List.replicate n 0, ⟨false, decide (200 < n), false, false, false⟩⟩
def sampM (n : Int) : Mk := ⟨4, n, 0, 0, 0, 0, false⟩
def gapM (a : Int) : Mk := ⟨1, a, 0, 0, 0, 0, false⟩
def beatM (a rr : Int) : Mk := ⟨6, a, 0, 0, 0, rr, false⟩
theorem live_take (n : Nat) : takeT (liveS n) (sampM n) = ⟨false, ⟨true, 0, []⟩, List.replicate (n + 1) 0, (liveS n).on⟩ := by
  unfold takeT sampM liveS
  dsimp only
  rw [if_neg (by decide), if_neg (by decide), if_neg (by decide), if_neg (by decide)]
  by_cases h : 0 < n
  · rw [decide_eq_true h, if_pos rfl]; rfl
  · obtain rfl : n = 0 := by omega
    rfl
theorem live_on (n : Nat) (hn : n < 300) : onT lU (liveS n) (sampM n) = (liveS (n + 1)).on := by
  unfold onT
  rw [live_take]
  unfold nowT
  dsimp only
  have h1 : Tally.stillT lU ⟨true, 0, []⟩ (sampM n).at_ = decide (200 < n + 1) := by
    show (true && decide ((200 : Int) ≤ Tally.nearA (n : Int) - 0)) = _
    rw [Tally.nearA_id _ (by omega), Bool.true_and]
    exact decide_eq_decide.2 (by omega)
  have h2 : Fib.countT lU.fib (List.replicate (n + 1) 0) = 0 := Fib.count_below _ _ (fun v hv => by
    obtain ⟨_, rfl⟩ := List.mem_replicate.1 hv
    show (0 : Int) < 50
    omega)
  rw [h1, h2]
  rfl
theorem live_counts (n : Nat) : counts (liveS n) (sampM n) = true := rfl
theorem live_step (n : Nat) (hn : n < 300) : stepT lU (liveS n) (sampM n) = liveS (n + 1) := by
  unfold stepT
  rw [live_counts, if_pos rfl, live_take, live_on n hn]
  dsimp only
  unfold liveS
  dsimp only
  rw [decide_eq_true (show 0 < n + 1 by omega)]
theorem live_says (n : Nat) (hn : n < 300) : saysT lU (liveS n) (sampM n) = if n = 200 then [(2, 200, true)] else [] := by
  unfold saysT
  rw [live_counts, if_pos rfl, live_on n hn]
  unfold liveS tellT turnT
  dsimp only
  by_cases h : n = 200
  · subst h; rfl
  · rw [if_neg h, if_pos rfl, if_pos (decide_eq_decide.2 (by omega)), if_pos rfl, if_pos rfl, if_pos rfl]
    rfl
theorem live_rs (n : Nat) : (liveS n).t.rs.length = 0 := rfl
theorem usual_k (w : World) : Calls Try.prog 18 #[] w fun e w' => e = .returned (limV lU) ∧ Below w.heap.size w w' := by
  unfold limV lU
  dsimp only
  go_enter Try.func18, Try.ntmps18
  go_wp2
  have hH := Has.new w 23 #[.int .i64 0, .int .i64 200, .int .i64 100, .int .i64 2, .int .i64 240, .int .i64 2, .int .i64 50, .int .i64 3, .int .i64 100]
  have c0 := hH.cell 0
  have c1 := hH.cell 1
  have c2 := hH.cell 2
  have c3 := hH.cell 3
  have c4 := hH.cell 4
  have c5 := hH.cell 5
  have c6 := hH.cell 6
  have c7 := hH.cell 7
  have c8 := hH.cell 8
  refine bodyPost_ret (v := limV lU) (by simp [results, Try.results18, go_sem, c0, c1, c2, c3, c4, c5, c6, c7, c8, limV, lU]) rfl ⟨rfl, (Below.refl _ w).alloc (Nat.le_refl _) _⟩
theorem cd_first {w : World} {x : Addr} {len : Nat} {c : Cd} {cs : List Cd} (h : Row.Vals cdS w (some x) len (c :: cs)) : w.cell? x = some (.int .i64 c.1) ∧ w.cell? ⟨x.block, x.off + 1, none⟩ = some (.int .i64 c.2.1) ∧ w.cell? ⟨x.block, x.off + 2, none⟩ = some (.bool c.2.2) := by
  have hl := h.len_
  simp at hl
  have h1 := cd_cells h 0 (by omega)
  simpa [Addr.add] using h1
set_option maxHeartbeats 1000000 in
theorem live_k {Rhy : World → Nat → List Nat → Lim → St → Prop} (K : RhyKit Rhy) (w : World) : Calls Try.prog 11 #[] w fun e w' => e = .returned (.bool true) ∧ Below w.heap.size w w' := by
  have hus := usual_k w
  have hnew := fun W => K.new_yes W lU lU_may
  have hg := fun (W : World) (x y : Operand) => guard_neq W x y 2 200 2 200 true true
  have hc : ∀ W : World, (binOp .neq 52 (.agg #[.int .i64 2, .int .i64 200, .bool true]) (.agg #[.int .i64 2, .int .i64 200, .bool true])).run Try.prog W = .ok (.bool false) W := fun W => by rw [neq_cd]; simp
  generalize limV lU = lv at *
  go_enter Try.func11, Try.ntmps11
  go_wp2_with (first
    | (go_at_call 18; ((with_reducible refine hus.mono ?_); rintro e W1 ⟨rfl, hB1⟩))
    | (go_at_call 8; ((with_reducible refine (hnew _).mono ?_); rintro e W2 ⟨b, S, rfl, hP, hfar, hB2⟩; have hM0 : Mr Rhy w b S lU (liveS 0) W2 := ⟨hP, hB1.trans (hB2.mono hB1.size), fun k hk => Nat.le_trans hB1.size (hfar k hk)⟩; clear hP hfar hB2 hus)))
  go_loopw [12] (fun i wr => ∃ k : Nat, k ≤ 202 ∧ i = .int .i64 (k : Nat) ∧ Mr Rhy w b S lU (liveS k) wr) (fun i _ => 202 - (intOf i).toNat)
  case atStart => exact ⟨0, by omega, rfl, hM0⟩
  case round =>
    clear hM0
    obtain ⟨k, hk, rfl, hM⟩ := hrel
    by_cases hkn : k < 202
    · have hkz : (k : Int) < 202 := by omega
      have hpu := Mr.push_one K hM 45 (sampM k) 1 (by rw [live_rs]; omega)
      rw [live_step k (by omega), live_says k (by omega)] at hpu
      unfold mkC sampM at hpu
      dsimp only at hpu
      by_cases h2 : k = 200
      · subst h2
        rw [if_pos rfl] at hpu
        rw [show ((200 : Nat) : Int) = 200 from rfl] at hpu ⊢
        rw [show List.length [((2 : Int), (200 : Int), true)] = 1 from rfl] at hpu
        go_wp2_with (first
          | (go_at_call 15; ((with_reducible refine hpu.mono ?_); rintro e W4 ⟨B, d, rfl, g1, g2, hV4, hf4, hM4, hK4⟩; (obtain ⟨x,rfl,_⟩ := hV4.cells (by omega); obtain ⟨x0,x1,x2⟩ := cd_first hV4))))
        go_roundw
        case rel => exact ⟨201, by omega, by go_num, hM4⟩
        case measure => simp [intOf]
      · rw [if_neg h2] at hpu
        have h3 : ((k : Int) == 200) = false := by simp; omega
        go_wp2_with (first
          | (go_at_call 15; ((with_reducible refine hpu.mono ?_); rintro e W4 ⟨B, d, rfl, g1, g2, hV4, hf4, hM4, hK4⟩; skip)))
        go_roundw
        case rel => exact ⟨k + 1, by omega, by go_num, hM4⟩
        case measure => simp [intOf]; omega
    · obtain rfl : k = 202 := by omega
      have ho2 := fun W h => K.on_any W b S lU (liveS 202) 2 h
      have ho4 := fun W h => K.on_any W b S lU (liveS 202) 4 h
      rw [show (liveS 202).on.get 2 = true from rfl] at ho2
      rw [show (liveS 202).on.get 4 = false from rfl] at ho4
      go_wp2_with (first
        | (go_at_call 17; ((with_reducible refine (ho2 _ hM.rhy).mono ?_); rintro e W4 ⟨rfl, hB4⟩; have hM2 := Mr.grow K hM hB4))
        | (go_at_call 17; ((with_reducible refine (ho4 _ hM2.rhy).mono ?_); rintro e W5 ⟨rfl, hB5⟩; have hM3 := Mr.grow K hM2 hB5)))
      go_ret
      exact ⟨rfl, hM3.below⟩
end Go.Proofs.Ytpmjgomfjfhfkaa.Rhythm
