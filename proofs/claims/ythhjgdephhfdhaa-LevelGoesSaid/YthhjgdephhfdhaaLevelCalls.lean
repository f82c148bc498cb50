/- What the landed level's calls answer: First, Signal, Again, Noise, Upper, Lower, May. -/
import Derived.Test.YthhjgdephhfdhaaLevelCode
import Derived.Deep.DeepMust
set_option linter.unusedSimpArgs false
set_option linter.unusedVariables false
namespace Go.Proofs.Ythhjgdephhfdhaa.Level
open Go.RowKit RI64
set_option maxHeartbeats 1000000 in
theorem follow_any (A : Option Addr) (n c : Nat) (ts : List Int) (a : Int) (w : World) (hv : Vals w A n ts) (hn : n ≤ 100000) (ha : 0 ≤ a ∧ a ≤ 62914560) :
    Calls Try.prog 28 #[.int .i64 a, .slice A n c] w fun e w' => e = .returned (.int .i64 (followT a ts)) ∧ w = w' := by
  have hlen := hv.len_
  have hbd : ∀ j, 0 ≤ followT a (ts.take j) ∧ followT a (ts.take j) ≤ 62914560 := fun j => follow_bd _ _ ha
  have HBD := Lib.hid hbd
  clear hbd ha
  go_enter Try.func28, Try.ntmps28
  go_wp2
  go_loop [0, 9] (fun s i => ∃ j : Nat, j ≤ n ∧ i = .int .i64 (j : Nat) ∧ s = .int .i64 (followT a (ts.take j))) (fun _ i => n - (intOf i).toNat)
  case atStart => exact ⟨0, by omega, rfl, rfl⟩
  case round =>
    obtain ⟨j, hj, rfl, rfl⟩ := hrel
    by_cases hjn : j < n
    · obtain ⟨x, rfl, hcx⟩ := hv.cells (by omega)
      have hcell := hcx j hjn
      have HST := Lib.hid (follow_step a ts j (by omega))
      have hc := fun W => counted_any (ts.getD j 0) W
      have hto := fun W => towards_8 (followT a (ts.take j)) (nearB (ts.getD j 0)) W (HBD.out j) (nearB_bd _)
      generalize followT a (ts.take j) = s at *
      generalize goes s (nearB (ts.getD j 0)) 8 = s' at *
      generalize nearB (ts.getD j 0) = t' at *
      generalize ts.getD j 0 = t at *
      clear hcx hv hlen
      go_wp2_with (first
        | (go_at_call 25; ((refine Calls.mono (by exact hc _) ?_); rintro e w1 ⟨rfl, rfl⟩))
        | (go_at_call 30; ((refine Calls.mono (by exact hto _) ?_); rintro e w2 ⟨rfl, rfl⟩)))
      go_round
      case rel => exact ⟨j + 1, by omega, by go_num, by rw [HST.out]⟩
      case measure => simp [intOf]; omega
    · obtain rfl : j = n := by omega
      rw [List.take_of_length_le (by omega)]
      clear hv
      go_wp2
      go_ret
      exact ⟨rfl, rfl⟩
/-- A level that was boxed, and a result's block behind it. -/
theorem box_two (w : World) (a b : Int) : Below w.heap.size w ((w.alloc (.cells #[.int .i64 a, .int .i64 b] 23)).alloc (.cells #[.int .i64 0, .int .i64 0] 23)) ∧
    Has ((w.alloc (.cells #[.int .i64 a, .int .i64 b] 23)).alloc (.cells #[.int .i64 0, .int .i64 0] 23)) w.heap.size 23 #[.int .i64 a, .int .i64 b] ∧
    Has ((w.alloc (.cells #[.int .i64 a, .int .i64 b] 23)).alloc (.cells #[.int .i64 0, .int .i64 0] 23)) (w.heap.size + 1) 23 #[.int .i64 0, .int .i64 0] := by
  have hB0 := (Below.refl w.heap.size w).alloc (Nat.le_refl _) (.cells #[.int .i64 a, .int .i64 b] 23)
  have h9 := Has.new (w.alloc (.cells #[.int .i64 a, .int .i64 b] 23)) 23 #[.int .i64 0, .int .i64 0]
  rw [show (w.alloc (.cells #[.int .i64 a, .int .i64 b] 23)).heap.size = w.heap.size + 1 by simp] at h9
  exact ⟨hB0.alloc hB0.size _, (Has.new w _ _).alloc _, h9⟩
/-- What stands behind asCounted's answer was stored: the level as it counts, the result's block, and all beneath. -/
theorem counted_put {w W0 W1 : World} {a b x y : Int} (hB1 : Below w.heap.size w W0) (hH1 : Has W0 w.heap.size 23 #[.int .i64 a, .int .i64 b]) (hR1 : Has W0 (w.heap.size + 1) 23 #[.int .i64 0, .int .i64 0]) (hB : Below W0.heap.size W0 W1) :
    Has W1 w.heap.size 23 #[.int .i64 a, .int .i64 b] ∧ Has ((W1.setCell ⟨w.heap.size, 0, none⟩ (.int .i64 x)).setCell ⟨w.heap.size, 1, none⟩ (.int .i64 y)) w.heap.size 23 #[.int .i64 x, .int .i64 y] ∧
    Has ((W1.setCell ⟨w.heap.size, 0, none⟩ (.int .i64 x)).setCell ⟨w.heap.size, 1, none⟩ (.int .i64 y)) (w.heap.size + 1) 23 #[.int .i64 0, .int .i64 0] ∧ Below w.heap.size w ((W1.setCell ⟨w.heap.size, 0, none⟩ (.int .i64 x)).setCell ⟨w.heap.size, 1, none⟩ (.int .i64 y)) := by
  have h1 := hH1.below hB hH1.lt
  have h2 := hR1.below hB hR1.lt
  exact ⟨h1, Has.put2 h1 _ _, Has.far2 h2 (by omega) _ _, below_put2 (hB1.trans (hB.mono hB1.size)) (Nat.le_refl _) _ _⟩
/-- One of its numbers was stored, and the result's block filled. -/
theorem put_0 {w W : World} {a b : Int} (z : Int) (hH : Has W w.heap.size 23 #[.int .i64 a, .int .i64 b]) (hR : Has W (w.heap.size + 1) 23 #[.int .i64 0, .int .i64 0]) (hB : Below w.heap.size w W) :
    Has (W.setCell ⟨w.heap.size, 0, none⟩ (.int .i64 z)) w.heap.size 23 #[.int .i64 z, .int .i64 b] ∧ Has (W.setCell ⟨w.heap.size, 0, none⟩ (.int .i64 z)) (w.heap.size + 1) 23 #[.int .i64 0, .int .i64 0] ∧
    Has (((W.setCell ⟨w.heap.size, 0, none⟩ (.int .i64 z)).setCell ⟨w.heap.size + 1, 0, none⟩ (.int .i64 z)).setCell ⟨w.heap.size + 1, 1, none⟩ (.int .i64 b)) (w.heap.size + 1) 23 #[.int .i64 z, .int .i64 b] ∧
    Below w.heap.size w (((W.setCell ⟨w.heap.size, 0, none⟩ (.int .i64 z)).setCell ⟨w.heap.size + 1, 0, none⟩ (.int .i64 z)).setCell ⟨w.heap.size + 1, 1, none⟩ (.int .i64 b)) := by
  have h2 := hR.far (p := ⟨w.heap.size, 0, none⟩) (by simp) (.int .i64 z)
  refine ⟨?_, h2, Has.put2 h2 _ _, below_put2 (hB.setCell (p := ⟨w.heap.size, 0, none⟩) (Nat.le_refl _) _) (by omega) _ _⟩
  have h1 := hH.set_ 0 (.int .i64 z)
  simpa using h1
theorem put_1 {w W : World} {a b : Int} (z : Int) (hH : Has W w.heap.size 23 #[.int .i64 a, .int .i64 b]) (hR : Has W (w.heap.size + 1) 23 #[.int .i64 0, .int .i64 0]) (hB : Below w.heap.size w W) :
    Has (W.setCell ⟨w.heap.size, 1, none⟩ (.int .i64 z)) w.heap.size 23 #[.int .i64 a, .int .i64 z] ∧ Has (W.setCell ⟨w.heap.size, 1, none⟩ (.int .i64 z)) (w.heap.size + 1) 23 #[.int .i64 0, .int .i64 0] ∧
    Has (((W.setCell ⟨w.heap.size, 1, none⟩ (.int .i64 z)).setCell ⟨w.heap.size + 1, 0, none⟩ (.int .i64 a)).setCell ⟨w.heap.size + 1, 1, none⟩ (.int .i64 z)) (w.heap.size + 1) 23 #[.int .i64 a, .int .i64 z] ∧
    Below w.heap.size w (((W.setCell ⟨w.heap.size, 1, none⟩ (.int .i64 z)).setCell ⟨w.heap.size + 1, 0, none⟩ (.int .i64 a)).setCell ⟨w.heap.size + 1, 1, none⟩ (.int .i64 z)) := by
  have h2 := hR.far (p := ⟨w.heap.size, 1, none⟩) (by simp) (.int .i64 z)
  refine ⟨?_, h2, Has.put2 h2 _ _, below_put2 (hB.setCell (p := ⟨w.heap.size, 1, none⟩) (Nat.le_refl _) _) (by omega) _ _⟩
  have h1 := hH.set_ 1 (.int .i64 z)
  simpa using h1
set_option maxHeartbeats 1000000 in
theorem signal_any (A : Option Addr) (n c : Nat) (ts : List Int) (a b : Int) (w : World) (hv : Vals w A n ts) (hn : n ≤ 100000) :
    Calls Try.prog 10 #[.agg #[.int .i64 a, .int .i64 b], .slice A n c] w fun e w' => e = .returned (lvV (signalT (a, b) ts)) ∧ Below w.heap.size w w' := by
  obtain ⟨hB1, hH1, hR1⟩ := box_two w a b
  have c0 := hH1.cell 0
  have c1 := hH1.cell 1
  unfold lvV signalT
  have hfo := fun W h => follow_any A n c ts (nearB a) W h hn (nearB_bd a)
  generalize followT (nearB a) ts = r at *
  go_enter Try.func10, Try.ntmps10
  go_wp2_with (first
    | (go_at_call 27; ((with_reducible refine (as_counted _ _ _).mono ?_); rintro e W1 ⟨rfl, hBx⟩; obtain ⟨hH2, hH3, hR3, hB3⟩ := counted_put (x := nearB a) (y := nearB b) hB1 hH1 hR1 hBx; have b0 := hH2.cell 0; have b1 := hH2.cell 1; have f0 := hH2.frozen 0; have f1 := hH2.frozen 1; have d0 := hH3.cell 0; have d1 := hH3.cell 1; have g0 := hH3.frozen 0; have g1 := hH3.frozen 1; clear hH2 hBx))
    | (go_at_call 28; ((go_must (refine Calls.mono (by exact hfo _ (Vals.below hv hB3)) ?_)); rintro e W2 ⟨rfl, rfl⟩; go_must (obtain ⟨hH4, hR4, hR5, hB5⟩ := put_0 r hH3 hR3 hB3); have e0 := hH4.cell 0; have e1 := hH4.cell 1; have l0 := hR4.cell 0; have l1 := hR4.cell 1; have k0 := hR4.frozen 0; have k1 := hR4.frozen 1; have r0 := hR5.cell 0; have r1 := hR5.cell 1)))
  refine bodyPost_ret (v := .agg #[.int .i64 r, .int .i64 (nearB b)]) (by simp [results, Try.results10, go_sem, r0, r1]) rfl ⟨rfl, hB5⟩
set_option maxHeartbeats 1000000 in
theorem noise_any (A : Option Addr) (n c : Nat) (ts : List Int) (a b : Int) (w : World) (hv : Vals w A n ts) (hn : n ≤ 100000) :
    Calls Try.prog 12 #[.agg #[.int .i64 a, .int .i64 b], .slice A n c] w fun e w' => e = .returned (lvV (noiseT (a, b) ts)) ∧ Below w.heap.size w w' := by
  obtain ⟨hB1, hH1, hR1⟩ := box_two w a b
  have c0 := hH1.cell 0
  have c1 := hH1.cell 1
  unfold lvV noiseT
  have hfo := fun W h => follow_any A n c ts (nearB b) W h hn (nearB_bd b)
  generalize followT (nearB b) ts = r at *
  go_enter Try.func12, Try.ntmps12
  go_wp2_with (first
    | (go_at_call 27; ((with_reducible refine (as_counted _ _ _).mono ?_); rintro e W1 ⟨rfl, hBx⟩; obtain ⟨hH2, hH3, hR3, hB3⟩ := counted_put (x := nearB a) (y := nearB b) hB1 hH1 hR1 hBx; have b0 := hH2.cell 0; have b1 := hH2.cell 1; have f0 := hH2.frozen 0; have f1 := hH2.frozen 1; have d0 := hH3.cell 0; have d1 := hH3.cell 1; have g0 := hH3.frozen 0; have g1 := hH3.frozen 1; clear hH2 hBx))
    | (go_at_call 28; (go_must (refine Calls.mono (by exact hfo _ (Vals.below hv hB3)) ?_); rintro e W2 ⟨rfl, rfl⟩; go_must (obtain ⟨hH4, hR4, hR5, hB5⟩ := put_1 r hH3 hR3 hB3); have e0 := hH4.cell 0; have e1 := hH4.cell 1; have l0 := hR4.cell 0; have l1 := hR4.cell 1; have k0 := hR4.frozen 0; have k1 := hR4.frozen 1; have r0 := hR5.cell 0; have r1 := hR5.cell 1)))
  refine bodyPost_ret (v := .agg #[.int .i64 (nearB a), .int .i64 r]) (by simp [results, Try.results12, go_sem, r0, r1]) rfl ⟨rfl, hB5⟩
set_option maxHeartbeats 1000000 in
theorem again_any (t a b : Int) (w : World) :
    Calls Try.prog 14 #[.agg #[.int .i64 a, .int .i64 b], .int .i64 t] w fun e w' => e = .returned (lvV (againT (a, b) t)) ∧ Below w.heap.size w w' := by
  obtain ⟨hB1, hH1, hR1⟩ := box_two w a b
  have c0 := hH1.cell 0
  have c1 := hH1.cell 1
  unfold lvV againT
  have hto := fun W => towards_4 (nearB a) (nearB t) W (nearB_bd a) (nearB_bd t)
  generalize goes (nearB a) (nearB t) 4 = r at *
  go_enter Try.func14, Try.ntmps14
  go_wp2_with (first
    | (go_at_call 27; ((with_reducible refine (as_counted _ _ _).mono ?_); rintro e W1 ⟨rfl, hBx⟩; obtain ⟨hH2, hH3, hR3, hB3⟩ := counted_put (x := nearB a) (y := nearB b) hB1 hH1 hR1 hBx; have b0 := hH2.cell 0; have b1 := hH2.cell 1; have f0 := hH2.frozen 0; have f1 := hH2.frozen 1; have d0 := hH3.cell 0; have d1 := hH3.cell 1; have g0 := hH3.frozen 0; have g1 := hH3.frozen 1; clear hH2 hBx))
    | fail)
  clear hB1 hH1 hR1 c0 c1 b0 b1 f0 f1
  generalize (W1.setCell ⟨w.heap.size, 0, none⟩ (.int .i64 (nearB a))).setCell ⟨w.heap.size, 1, none⟩ (.int .i64 (nearB b)) = W2 at *
  have hHd := hH3.drew
  have hRd := hR3.drew
  have hBd : Below w.heap.size w W2.drew := below_drewN hB3 1
  clear hH3 hR3 hB3 d0 d1 g0 g1
  have q0 := hHd.cell 0
  have q1 := hHd.cell 1
  have s0 := hHd.frozen 0
  refine Reg.begin_ (S := fun W => True) (by kernel_rfl) trivial (fun hHeld => ?_)
  refine Reg.take (i := 0) (v := ?v1) rfl (by kernel_rfl) (by kernel_rfl) (by kernel_rfl) (by rfl) ?hv1 (by assumption) ?rest1
  case hv1 => first | (intro w hSw; (try dsimp only at hSw); go_simp; done) | (intro w hSw; (try dsimp only at hSw); go_simp; with_reducible rfl)
  (try simp only [Act.put, List.setIfInBounds_toArray, List.set_cons_zero, List.set_cons_succ])
  refine Reg.take (i := 2) (v := ?v2) rfl (by kernel_rfl) (by kernel_rfl) (by kernel_rfl) (by rfl) ?hv2 (by assumption) ?rest2
  case hv2 => first | (intro w hSw; (try dsimp only at hSw); go_simp; done) | (intro w hSw; (try dsimp only at hSw); go_simp; with_reducible rfl)
  (try simp only [Act.put, List.setIfInBounds_toArray, List.set_cons_zero, List.set_cons_succ])
  clear hHeld
  generalize W2.drew = W3 at *
  obtain ⟨hH4, hR4, hR5, hB5⟩ := put_0 r hHd hRd hBd
  have e0 := hH4.cell 0
  have e1 := hH4.cell 1
  have l0 := hR4.cell 0
  have l1 := hR4.cell 1
  have k0 := hR4.frozen 0
  have k1 := hR4.frozen 1
  have r0 := hR5.cell 0
  have r1 := hR5.cell 1
  clear hH4 hR4 hR5
  refine Reg.both (i := 1) (j := 3) rfl rfl (by kernel_rfl) (by rfl) (by rfl) ?_ ?_
  · intro K hK
    go_simp
    refine hK.out _ _ (by exact trivial) (fun hHeld => ?_)
    clear hK K
    (try simp only [Act.put, List.setIfInBounds_toArray, List.set_cons_zero, List.set_cons_succ])
    refine Reg.call (i := 3) rfl (by kernel_rfl) (by rfl) ?_
    intro K hK
    go_simp
    go_at_call 25
    (with_reducible refine (counted_any _ _).mono ?_)
    rintro e w1 ⟨rfl, rfl⟩
    refine hK.out _ _ (by exact trivial) (fun hHeld => ?_)
    clear hK K
    (try simp only [Act.put, List.setIfInBounds_toArray, List.set_cons_zero, List.set_cons_succ])
    refine Reg.call (i := 4) rfl (by kernel_rfl) (by rfl) ?_
    intro K hK
    go_simp
    go_at_call 30
    refine (hto _).mono ?_
    rintro e w1 ⟨rfl, rfl⟩
    refine hK.out _ _ (by exact trivial) (fun hHeld => ?_)
    clear hK K
    (try simp only [Act.put, List.setIfInBounds_toArray, List.set_cons_zero, List.set_cons_succ])
    refine Reg.take (i := 5) (v := ?v3) rfl (by kernel_rfl) (by kernel_rfl) (by kernel_rfl) (by rfl) ?hv3 (by assumption) ?rest3
    case hv3 => first | (intro w hSw; (try dsimp only at hSw); go_simp; done) | (intro w hSw; (try dsimp only at hSw); go_simp; with_reducible rfl)
    (try simp only [Act.put, List.setIfInBounds_toArray, List.set_cons_zero, List.set_cons_succ])
    refine Reg.call (i := 6) rfl (by kernel_rfl) (by rfl) ?_
    intro K hK
    go_simp
    refine hK.out _ _ (by exact trivial) (fun hHeld => ?_)
    clear hK K
    (try simp only [Act.put, List.setIfInBounds_toArray, List.set_cons_zero, List.set_cons_succ])
    refine Reg.done (by kernel_rfl) ?_ _
    clear q0 q1 s0
    go_wp2
    refine bodyPost_ret (v := .agg #[.int .i64 r, .int .i64 (nearB b)]) (by simp [results, Try.results14, go_sem, r0, r1]) rfl ⟨rfl, hB5⟩
  · intro K hK
    go_simp
    go_at_call 25
    (with_reducible refine (counted_any _ _).mono ?_)
    rintro e w1 ⟨rfl, rfl⟩
    refine hK.out _ _ (by exact trivial) (fun hHeld => ?_)
    clear hK K
    (try simp only [Act.put, List.setIfInBounds_toArray, List.set_cons_zero, List.set_cons_succ])
    refine Reg.call (i := 1) rfl (by kernel_rfl) (by rfl) ?_
    intro K hK
    go_simp
    refine hK.out _ _ (by exact trivial) (fun hHeld => ?_)
    clear hK K
    (try simp only [Act.put, List.setIfInBounds_toArray, List.set_cons_zero, List.set_cons_succ])
    refine Reg.call (i := 4) rfl (by kernel_rfl) (by rfl) ?_
    intro K hK
    go_simp
    go_at_call 30
    refine (hto _).mono ?_
    rintro e w1 ⟨rfl, rfl⟩
    refine hK.out _ _ (by exact trivial) (fun hHeld => ?_)
    clear hK K
    (try simp only [Act.put, List.setIfInBounds_toArray, List.set_cons_zero, List.set_cons_succ])
    refine Reg.take (i := 5) (v := ?v4) rfl (by kernel_rfl) (by kernel_rfl) (by kernel_rfl) (by rfl) ?hv4 (by assumption) ?rest4
    case hv4 => first | (intro w hSw; (try dsimp only at hSw); go_simp; done) | (intro w hSw; (try dsimp only at hSw); go_simp; with_reducible rfl)
    (try simp only [Act.put, List.setIfInBounds_toArray, List.set_cons_zero, List.set_cons_succ])
    refine Reg.call (i := 6) rfl (by kernel_rfl) (by rfl) ?_
    intro K hK
    go_simp
    refine hK.out _ _ (by exact trivial) (fun hHeld => ?_)
    clear hK K
    (try simp only [Act.put, List.setIfInBounds_toArray, List.set_cons_zero, List.set_cons_succ])
    refine Reg.done (by kernel_rfl) ?_ _
    clear q0 q1 s0
    go_wp2
    refine bodyPost_ret (v := .agg #[.int .i64 r, .int .i64 (nearB b)]) (by simp [results, Try.results14, go_sem, r0, r1]) rfl ⟨rfl, hB5⟩
set_option maxHeartbeats 1000000 in
theorem upper_any (a b : Int) (w : World) :
    Calls Try.prog 17 #[.agg #[.int .i64 a, .int .i64 b]] w fun e w' => e = .returned (.int .i64 (upperT (a, b))) ∧ Below w.heap.size w w' := by
  have hB1 := (Below.refl w.heap.size w).alloc (Nat.le_refl _) (.cells #[.int .i64 a, .int .i64 b] 23)
  have hH1 := Has.new w 23 #[.int .i64 a, .int .i64 b]
  have c0 := hH1.cell 0
  have c1 := hH1.cell 1
  have hto := fun W => towards_4 (nearB b) (nearB a) W (nearB_bd b) (nearB_bd a)
  unfold upperT
  generalize goes (nearB b) (nearB a) 4 = r at *
  go_enter Try.func17, Try.ntmps17
  go_wp2_with (first
    | (go_at_call 27; ((with_reducible refine (as_counted _ _ _).mono ?_); rintro e W1 ⟨rfl, hBx⟩; have hH2 := hH1.below hBx hH1.lt; have hH3 := Has.put2 hH2 (.int .i64 (nearB a)) (.int .i64 (nearB b)); have hB3 := below_put2 (hB1.trans (hBx.mono hB1.size)) (Nat.le_refl _) (.int .i64 (nearB a)) (.int .i64 (nearB b)); have b0 := hH2.cell 0; have b1 := hH2.cell 1; have f0 := hH2.frozen 0; have f1 := hH2.frozen 1; have d0 := hH3.cell 0; have d1 := hH3.cell 1; clear hH2 hBx))
    | (go_at_call 30; (go_must (refine Calls.mono (by exact hto _) ?_); rintro e W2 ⟨rfl, rfl⟩)))
  all_goals
    go_ret
    exact ⟨rfl, hB3⟩
set_option maxHeartbeats 1000000 in
theorem lower_any (a b : Int) (w : World) :
    Calls Try.prog 19 #[.agg #[.int .i64 a, .int .i64 b]] w fun e w' => e = .returned (.int .i64 (lowerT (a, b))) ∧ Below w.heap.size w w' := by
  have hB1 := (Below.refl w.heap.size w).alloc (Nat.le_refl _) (.cells #[.int .i64 a, .int .i64 b] 23)
  have hH1 := Has.new w 23 #[.int .i64 a, .int .i64 b]
  have c0 := hH1.cell 0
  have c1 := hH1.cell 1
  unfold lowerT
  have hup := fun W => upper_any a b W
  have hsh := fun W => shift_any (upperT (a, b)) 1 W (by omega)
  rw [show (2 : Int) ^ min (Int.toNat 1) 64 = 2 from rfl] at hsh
  generalize upperT (a, b) = u at *
  go_enter Try.func19, Try.ntmps19
  go_wp2_with (first
    | (go_at_call 17; (go_must (refine Calls.mono (by exact hup _) ?_); rintro e W1 ⟨rfl, hBx⟩; have hB2 := hB1.trans (hBx.mono hB1.size)))
    | (go_at_call 31; (go_must (refine Calls.mono (by exact hsh _) ?_); rintro e W2 ⟨rfl, rfl⟩)))
  go_ret
  exact ⟨rfl, hB2⟩
set_option maxHeartbeats 1000000 in
theorem may_any (a b : Int) (w : World) :
    Calls Try.prog 21 #[.agg #[.int .i64 a, .int .i64 b]] w fun e w' => e = .returned (.bool (decide (a = nearB a) && decide (b = nearB b))) ∧ Below w.heap.size w w' := by
  have hB1 := (Below.refl w.heap.size w).alloc (Nat.le_refl _) (.cells #[.int .i64 a, .int .i64 b] 23)
  have hH1 := Has.new w 23 #[.int .i64 a, .int .i64 b]
  have hg := fun (W : World) (x y : Operand) => guard_eql W x y a b (nearB a) (nearB b)
  have hc := fun (W : World) => eql_lv W a b (nearB a) (nearB b)
  go_enter Try.func21, Try.ntmps21
  go_wp2
  generalize w.alloc (.cells #[.int .i64 a, .int .i64 b] 23) = W0 at *
  have hHd := hH1.drew
  have hBd : Below w.heap.size w W0.drew := below_drewN hB1 1
  have c0 := hHd.cell 0
  have c1 := hHd.cell 1
  clear hH1 hB1
  refine Reg.begin_ (S := fun W => W.cell? ⟨w.heap.size, 0, none⟩ = some (.int .i64 a) ∧ W.cell? ⟨w.heap.size, 1, none⟩ = some (.int .i64 b)) (by kernel_rfl) (by exact ⟨c0, c1⟩) (fun hHeld => ?_)
  refine Reg.take (i := 0) (v := ?v5) rfl (by kernel_rfl) (by kernel_rfl) (by kernel_rfl) (by rfl) ?hv5 (by assumption) ?rest5
  case hv5 => first | (intro w hSw; (try dsimp only at hSw); go_simp; done) | (intro w hSw; (try dsimp only at hSw); go_simp; with_reducible rfl)
  (try simp only [Act.put, List.setIfInBounds_toArray, List.set_cons_zero, List.set_cons_succ])
  refine Reg.take (i := 1) (v := ?v6) rfl (by kernel_rfl) (by kernel_rfl) (by kernel_rfl) (by rfl) ?hv6 (by assumption) ?rest6
  case hv6 => first | (intro w hSw; (try dsimp only at hSw); go_simp; done) | (intro w hSw; (try dsimp only at hSw); go_simp; with_reducible rfl)
  (try simp only [Act.put, List.setIfInBounds_toArray, List.set_cons_zero, List.set_cons_succ])
  clear hHeld
  generalize W0.drew = W1 at *
  refine Reg.call (i := 2) rfl (by kernel_rfl) (by rfl) ?_
  intro K hK
  go_simp
  go_at_call 27
  (with_reducible refine (as_counted _ _ _).mono ?_)
  rintro e W2 ⟨rfl, hBx⟩
  have hH2 := hHd.below hBx hHd.lt
  have hB2 := hBd.trans (hBx.mono hBd.size)
  refine hK.out _ _ (by exact ⟨hH2.cell 0, hH2.cell 1⟩) (fun hHeld => ?_)
  clear hK K
  (try simp only [Act.put, List.setIfInBounds_toArray, List.set_cons_zero, List.set_cons_succ])
  refine Reg.take (i := 3) (v := ?v7) rfl (by kernel_rfl) (by kernel_rfl) (by kernel_rfl) (by rfl) ?hv7 (by assumption) ?rest7
  case hv7 => first | (intro w hSw; (try dsimp only at hSw); go_simp; done) | (intro w hSw; (try dsimp only at hSw); go_simp; with_reducible rfl)
  (try simp only [Act.put, List.setIfInBounds_toArray, List.set_cons_zero, List.set_cons_succ])
  refine Reg.take (i := 4) (v := ?v8) rfl (by kernel_rfl) (by kernel_rfl) (by kernel_rfl) (by rfl) ?hv8 (by assumption) ?rest8
  case hv8 => first | (intro w hSw; (try dsimp only at hSw); go_simp; done) | (intro w hSw; (try dsimp only at hSw); go_simp; with_reducible rfl)
  (try simp only [Act.put, List.setIfInBounds_toArray, List.set_cons_zero, List.set_cons_succ])
  refine Reg.done (by kernel_rfl) ?_ _
  go_wp2
  go_ret
  exact ⟨rfl, hB2⟩
set_option maxHeartbeats 1000000 in
theorem first_any (A : Option Addr) (n c : Nat) (ts : List Int) (w : World) (hv : Vals w A n ts) (hn : n ≤ 100000) :
    Calls Try.prog 8 #[.slice A n c] w fun e w' => e = .returned (lvV (firstT ts, 0)) ∧ Below w.heap.size w w' := by
  have hlen := hv.len_
  obtain ⟨hB1, hR1, hH1⟩ := box_two w 0 0
  unfold lvV
  go_enter Try.func8, Try.ntmps8
  go_wp2
  generalize (w.alloc (.cells #[.int .i64 0, .int .i64 0] 23)).alloc (.cells #[.int .i64 0, .int .i64 0] 23) = W0 at *
  go_loopw [8] (fun i wr => ∃ j : Nat, j ≤ n ∧ i = .int .i64 (j : Nat) ∧ Has wr w.heap.size 23 #[.int .i64 0, .int .i64 0] ∧ Has wr (w.heap.size + 1) 23 #[.int .i64 (firstT (ts.take j)), .int .i64 0] ∧ Below w.heap.size w wr) (fun i _ => n - (intOf i).toNat)
  case atStart => exact ⟨0, by omega, rfl, hR1, hH1, hB1⟩
  case round =>
    obtain ⟨j, hj, rfl, hR, hH, hB⟩ := hrel
    clear hR1 hH1 hB1
    by_cases hjn : j < n
    · obtain ⟨x, rfl, hcx⟩ := (hv.below hB).cells (by omega)
      have hcell := hcx j hjn
      have HST := Lib.hid (first_step ts j (by omega))
      have hcn := fun W => counted_any (ts.getD j 0) W
      generalize firstT (ts.take j) = s at *
      generalize nearB (ts.getD j 0) = t' at *
      generalize ts.getD j 0 = t at *
      have c0 := hH.cell 0
      clear hcx hv hlen
      have mx : (if s < t' then t' else s) = s ∨ (if s < t' then t' else s) = t' := by split <;> simp
      have hHd := hH.drew
      have hRd := hR.drew
      have hBd : Below w.heap.size w wr.drew := below_drewN hB 1
      clear c0 hH hR hB
      generalize hr : (if s < t' then t' else s) = r at *
      go_wp2
      refine Reg.begin_ (S := fun W => True) (by kernel_rfl) trivial (fun hHeld => ?_)
      refine Reg.take (i := 0) (v := ?v9) rfl (by kernel_rfl) (by kernel_rfl) (by kernel_rfl) (by rfl) ?hv9 (by assumption) ?rest9
      case hv9 => first | (intro w hSw; (try dsimp only at hSw); go_simp; done) | (intro w hSw; (try dsimp only at hSw); go_simp; with_reducible rfl)
      (try simp only [Act.put, List.setIfInBounds_toArray, List.set_cons_zero, List.set_cons_succ])
      refine Reg.take (i := 2) (v := ?v10) rfl (by kernel_rfl) (by kernel_rfl) (by kernel_rfl) (by rfl) ?hv10 (by assumption) ?rest10
      case hv10 => first | (intro w hSw; (try dsimp only at hSw); go_simp; done) | (intro w hSw; (try dsimp only at hSw); go_simp; with_reducible rfl)
      (try simp only [Act.put, List.setIfInBounds_toArray, List.set_cons_zero, List.set_cons_succ])
      clear hHeld
      generalize wr.drew = W3 at *
      have q0 := hHd.cell 0
      have k0 := hHd.frozen 0
      have hH9 : Has (W3.setCell ⟨w.heap.size + 1, 0, none⟩ (.int .i64 r)) (w.heap.size + 1) 23 #[.int .i64 r, .int .i64 0] := by
        have h9 := hHd.set_ 0 (.int .i64 r)
        simpa using h9
      have hR9 := hRd.far (p := ⟨w.heap.size + 1, 0, none⟩) (by simp) (.int .i64 r)
      have hB9 := hBd.setCell (p := ⟨w.heap.size + 1, 0, none⟩) (by simp) (.int .i64 r)
      refine Reg.both (i := 1) (j := 3) rfl rfl (by kernel_rfl) (by rfl) (by rfl) ?_ ?_
      · intro K hK
        go_simp
        refine hK.out _ _ (by exact trivial) (fun hHeld => ?_)
        clear hK K
        (try simp only [Act.put, List.setIfInBounds_toArray, List.set_cons_zero, List.set_cons_succ])
        refine Reg.call (i := 3) rfl (by kernel_rfl) (by rfl) ?_
        intro K hK
        go_simp
        go_at_call 25
        refine (hcn _).mono ?_
        rintro e w1 ⟨rfl, rfl⟩
        refine hK.out _ _ (by exact trivial) (fun hHeld => ?_)
        clear hK K
        (try simp only [Act.put, List.setIfInBounds_toArray, List.set_cons_zero, List.set_cons_succ])
        refine Reg.call (i := 4) rfl (by kernel_rfl) (by rfl) ?_
        intro K hK
        go_simp
        (try simp only [hr])
        refine hK.out _ _ (by exact trivial) (fun hHeld => ?_)
        clear hK K
        (try simp only [Act.put, List.setIfInBounds_toArray, List.set_cons_zero, List.set_cons_succ])
        refine Reg.take (i := 5) (v := ?v11) rfl (by kernel_rfl) (by kernel_rfl) (by kernel_rfl) (by rfl) ?hv11 (by assumption) ?rest11
        case hv11 => first | (intro w hSw; (try dsimp only at hSw); go_simp; done) | (intro w hSw; (try dsimp only at hSw); go_simp; with_reducible rfl)
        (try simp only [Act.put, List.setIfInBounds_toArray, List.set_cons_zero, List.set_cons_succ])
        refine Reg.call (i := 6) rfl (by kernel_rfl) (by rfl) ?_
        intro K hK
        go_simp
        refine hK.out _ _ (by exact trivial) (fun hHeld => ?_)
        clear hK K
        (try simp only [Act.put, List.setIfInBounds_toArray, List.set_cons_zero, List.set_cons_succ])
        refine Reg.done (by kernel_rfl) ?_ _
        clear q0 k0
        go_wp2
        go_roundw
        case rel => exact ⟨j + 1, by omega, by go_num, hR9, by rw [HST.out]; exact hH9, hB9⟩
        case measure => simp [intOf]; omega
      · intro K hK
        go_simp
        go_at_call 25
        refine (hcn _).mono ?_
        rintro e w1 ⟨rfl, rfl⟩
        refine hK.out _ _ (by exact trivial) (fun hHeld => ?_)
        clear hK K
        (try simp only [Act.put, List.setIfInBounds_toArray, List.set_cons_zero, List.set_cons_succ])
        refine Reg.call (i := 1) rfl (by kernel_rfl) (by rfl) ?_
        intro K hK
        go_simp
        refine hK.out _ _ (by exact trivial) (fun hHeld => ?_)
        clear hK K
        (try simp only [Act.put, List.setIfInBounds_toArray, List.set_cons_zero, List.set_cons_succ])
        refine Reg.call (i := 4) rfl (by kernel_rfl) (by rfl) ?_
        intro K hK
        go_simp
        (try simp only [hr])
        refine hK.out _ _ (by exact trivial) (fun hHeld => ?_)
        clear hK K
        (try simp only [Act.put, List.setIfInBounds_toArray, List.set_cons_zero, List.set_cons_succ])
        refine Reg.take (i := 5) (v := ?v12) rfl (by kernel_rfl) (by kernel_rfl) (by kernel_rfl) (by rfl) ?hv12 (by assumption) ?rest12
        case hv12 => first | (intro w hSw; (try dsimp only at hSw); go_simp; done) | (intro w hSw; (try dsimp only at hSw); go_simp; with_reducible rfl)
        (try simp only [Act.put, List.setIfInBounds_toArray, List.set_cons_zero, List.set_cons_succ])
        refine Reg.call (i := 6) rfl (by kernel_rfl) (by rfl) ?_
        intro K hK
        go_simp
        refine hK.out _ _ (by exact trivial) (fun hHeld => ?_)
        clear hK K
        (try simp only [Act.put, List.setIfInBounds_toArray, List.set_cons_zero, List.set_cons_succ])
        refine Reg.done (by kernel_rfl) ?_ _
        clear q0 k0
        go_wp2
        go_roundw
        case rel => exact ⟨j + 1, by omega, by go_num, hR9, by rw [HST.out]; exact hH9, hB9⟩
        case measure => simp [intOf]; omega
    · obtain rfl : j = n := by omega
      rw [List.take_of_length_le (by omega)] at hH
      have c0 := hH.cell 0
      have c1 := hH.cell 1
      have r0 := hR.cell 0
      have r1 := hR.cell 1
      have g0 := hR.frozen 0
      have g1 := hR.frozen 1
      have hR9 := Has.put2 hR (.int .i64 (firstT ts)) (.int .i64 0)
      have hB9 := below_put2 hB (Nat.le_refl _) (.int .i64 (firstT ts)) (.int .i64 0)
      have p0 := hR9.cell 0
      have p1 := hR9.cell 1
      clear hv
      go_wp2
      refine bodyPost_ret (v := .agg #[.int .i64 (firstT ts), .int .i64 0]) (by simp [results, Try.results8, go_sem, p0, p1]) rfl ⟨rfl, hB9⟩
end Go.Proofs.Ythhjgdephhfdhaa.Level
