/- What the reference of layer 17 answers. -/
import Derived.Test.YthhjgdephhfdhaaLevelCalls
import Derived.Test.YthhjgdephhfdhaaFixqDiv
set_option linter.unusedSimpArgs false
set_option linter.unusedVariables false
namespace Go.Proofs.Ythhjgdephhfdhaa.Level
open Go.RowKit RI64
theorem nearB_ifs (n : Int) : (if 62914560 < (if n < 0 then 0 else n) then 62914560 else (if n < 0 then 0 else n)) = nearB n := by
  unfold nearB clampZ; repeat' split
  all_goals omega
theorem refnear_any (n : Int) (w : World) : Calls Try.prog 26 #[.int .i64 n] w fun e w' => e = .returned (.int .i64 (nearB n)) ∧ w = w' := by
  have h9 := nearB_ifs n
  generalize nearB n = r at *
  go_enter Try.func26, Try.ntmps26
  go_wp2
  all_goals
    go_ret
    exact ⟨rfl, rfl⟩
theorem refgoes_any (a b k : Int) (w : World) (hk : k = 8 ∨ k = 4) (ha : 0 ≤ a ∧ a ≤ 62914560) :
    Calls Try.prog 29 #[.int .i64 a, .int .i64 b, .int .i64 k] w fun e w' => e = .returned (.int .i64 (goes a (nearB b) k)) ∧ w = w' := by
  have hg := goes_bd a (nearB b) k hk ha (nearB_bd b)
  have hnb := nearB_bd b
  have hnr := fun W => refnear_any b W
  have hd := fun W => refdiv_yes (nearB b - a) k W (by unfold fits64; omega) (by omega) (by omega)
  rw [Int.fdiv_eq_ediv_of_nonneg _ (by omega)] at hd
  unfold goes at hg ⊢
  generalize nearB b = t at *
  generalize (t - a) / k = q at *
  clear hk
  go_enter Try.func29, Try.ntmps29
  go_wp2_with (first
    | (go_at_call 26; ((refine Calls.mono (by exact hnr _) ?_); rintro e w1 ⟨rfl, rfl⟩))
    | (go_at_call 33; ((refine Calls.mono (by exact hd _) ?_); rintro e w2 ⟨rfl, rfl⟩)))
  go_ret
  exact ⟨rfl, rfl⟩
theorem refNear_any (a b : Int) (w : World) : Calls Try.prog 22 #[.agg #[.int .i64 a, .int .i64 b]] w fun e w' => e = .returned (.agg #[.int .i64 (nearB a), .int .i64 (nearB b)]) ∧ Below w.heap.size w w' := by
  obtain ⟨hB1, hH1, hR1⟩ := box_two w a b
  go_enter Try.func22, Try.ntmps22
  go_wp2
  generalize (w.alloc (.cells #[.int .i64 a, .int .i64 b] 23)).alloc (.cells #[.int .i64 0, .int .i64 0] 23) = W0 at *
  have hHd := hH1.drew
  have hRd := hR1.drew
  have hBd : Below w.heap.size w W0.drew := below_drewN hB1 1
  have c0 := hHd.cell 0
  have c1 := hHd.cell 1
  refine Reg.begin_ (S := fun W => W.cell? ⟨w.heap.size, 0, none⟩ = some (.int .i64 a) ∧ W.cell? ⟨w.heap.size, 1, none⟩ = some (.int .i64 b)) (by kernel_rfl) (by exact ⟨c0, c1⟩) (fun hHeld => ?_)
  refine Reg.take (i := 0) (v := ?v1) rfl (by kernel_rfl) (by kernel_rfl) (by kernel_rfl) (by rfl) ?hv1 (by assumption) ?rest1
  case hv1 => first | (intro w hSw; (try dsimp only at hSw); go_simp; done) | (intro w hSw; (try dsimp only at hSw); go_simp; with_reducible rfl)
  (try simp only [Act.put, List.setIfInBounds_toArray, List.set_cons_zero, List.set_cons_succ])
  refine Reg.take (i := 1) (v := ?v2) rfl (by kernel_rfl) (by kernel_rfl) (by kernel_rfl) (by rfl) ?hv2 (by assumption) ?rest2
  case hv2 => first | (intro w hSw; (try dsimp only at hSw); go_simp; done) | (intro w hSw; (try dsimp only at hSw); go_simp; with_reducible rfl)
  (try simp only [Act.put, List.setIfInBounds_toArray, List.set_cons_zero, List.set_cons_succ])
  refine Reg.take (i := 3) (v := ?v3) rfl (by kernel_rfl) (by kernel_rfl) (by kernel_rfl) (by rfl) ?hv3 (by assumption) ?rest3
  case hv3 => first | (intro w hSw; (try dsimp only at hSw); go_simp; done) | (intro w hSw; (try dsimp only at hSw); go_simp; with_reducible rfl)
  (try simp only [Act.put, List.setIfInBounds_toArray, List.set_cons_zero, List.set_cons_succ])
  refine Reg.take (i := 4) (v := ?v4) rfl (by kernel_rfl) (by kernel_rfl) (by kernel_rfl) (by rfl) ?hv4 (by assumption) ?rest4
  case hv4 => first | (intro w hSw; (try dsimp only at hSw); go_simp; done) | (intro w hSw; (try dsimp only at hSw); go_simp; with_reducible rfl)
  (try simp only [Act.put, List.setIfInBounds_toArray, List.set_cons_zero, List.set_cons_succ])
  clear hHeld hH1 hR1 hB1
  generalize W0.drew = W1 at *
  have q0 := hRd.cell 0
  have q1 := hRd.cell 1
  have g0 := hRd.frozen 0
  have g1 := hRd.frozen 1
  have hR9 := Has.put2 hRd (.int .i64 (nearB a)) (.int .i64 (nearB b))
  have hH9 := Has.far2 hHd (c := w.heap.size + 1) (by omega) (.int .i64 (nearB a)) (.int .i64 (nearB b))
  have hB9 := below_put2 hBd (c := w.heap.size + 1) (by omega) (.int .i64 (nearB a)) (.int .i64 (nearB b))
  have r0 := hR9.cell 0
  have r1 := hR9.cell 1
  have d0 := hH9.cell 0
  have d1 := hH9.cell 1
  refine Reg.call (i := 2) rfl (by kernel_rfl) (by rfl) ?_
  intro K hK
  go_simp
  go_at_call 26
  (with_reducible refine (refnear_any _ _).mono ?_)
  rintro e w1 ⟨rfl, rfl⟩
  refine hK.out _ _ (by exact ⟨c0, c1⟩) (fun hHeld => ?_)
  clear hK K
  (try simp only [Act.put, List.setIfInBounds_toArray, List.set_cons_zero, List.set_cons_succ])
  refine Reg.call (i := 5) rfl (by kernel_rfl) (by rfl) ?_
  intro K hK
  go_simp
  go_at_call 26
  (with_reducible refine (refnear_any _ _).mono ?_)
  rintro e w1 ⟨rfl, rfl⟩
  refine hK.out _ _ (by exact ⟨c0, c1⟩) (fun hHeld => ?_)
  clear hK K
  (try simp only [Act.put, List.setIfInBounds_toArray, List.set_cons_zero, List.set_cons_succ])
  refine Reg.take (i := 6) (v := ?v5) rfl (by kernel_rfl) (by kernel_rfl) (by kernel_rfl) (by rfl) ?hv5 (by assumption) ?rest5
  case hv5 => first | (intro w hSw; (try dsimp only at hSw); go_simp; done) | (intro w hSw; (try dsimp only at hSw); go_simp; with_reducible rfl)
  (try simp only [Act.put, List.setIfInBounds_toArray, List.set_cons_zero, List.set_cons_succ])
  refine Reg.call (i := 7) rfl (by kernel_rfl) (by rfl) ?_
  intro K hK
  go_simp
  refine hK.out _ _ (by exact ⟨d0, d1⟩) (fun hHeld => ?_)
  clear hK K
  (try simp only [Act.put, List.setIfInBounds_toArray, List.set_cons_zero, List.set_cons_succ])
  refine Reg.done (by kernel_rfl) ?_ _
  go_wp2
  refine bodyPost_ret (v := .agg #[.int .i64 (nearB a), .int .i64 (nearB b)]) (by simp [results, Try.results22, go_sem, r0, r1]) rfl ⟨rfl, hB9⟩
set_option maxHeartbeats 1000000 in
theorem refagain_any (t a b : Int) (w : World) :
    Calls Try.prog 15 #[.agg #[.int .i64 a, .int .i64 b], .int .i64 t] w fun e w' => e = .returned (lvV (againT (a, b) t)) ∧ Below w.heap.size w w' := by
  obtain ⟨hB1, hH1, hR1⟩ := box_two w a b
  have c0 := hH1.cell 0
  have c1 := hH1.cell 1
  unfold lvV againT
  have hgo := fun W => refgoes_any (nearB a) t 4 W (.inr rfl) (nearB_bd a)
  generalize goes (nearB a) (nearB t) 4 = r at *
  go_enter Try.func15, Try.ntmps15
  go_wp2_with (first
    | (go_at_call 22; ((with_reducible refine (refNear_any _ _ _).mono ?_); rintro e W1 ⟨rfl, hBx⟩; obtain ⟨hH2, hH3, hR3, hB3⟩ := counted_put (x := nearB a) (y := nearB b) hB1 hH1 hR1 hBx; have b0 := hH2.cell 0; have b1 := hH2.cell 1; have f0 := hH2.frozen 0; have f1 := hH2.frozen 1; have d0 := hH3.cell 0; have d1 := hH3.cell 1; have g0 := hH3.frozen 0; have g1 := hH3.frozen 1; clear hH2 hBx))
    | (go_at_call 29; (go_must (refine Calls.mono (by exact hgo _) ?_); rintro e W2 ⟨rfl, rfl⟩; go_must (obtain ⟨hH4, hR4, hR5, hB5⟩ := put_0 r hH3 hR3 hB3); have e0 := hH4.cell 0; have e1 := hH4.cell 1; have l0 := hR4.cell 0; have l1 := hR4.cell 1; have k0 := hR4.frozen 0; have k1 := hR4.frozen 1; have r0 := hR5.cell 0; have r1 := hR5.cell 1)))
  refine bodyPost_ret (v := .agg #[.int .i64 r, .int .i64 (nearB b)]) (by simp [results, Try.results15, go_sem, r0, r1]) rfl ⟨rfl, hB5⟩
set_option maxHeartbeats 1000000 in
theorem refupper_any (a b : Int) (w : World) :
    Calls Try.prog 18 #[.agg #[.int .i64 a, .int .i64 b]] w fun e w' => e = .returned (.int .i64 (upperT (a, b))) ∧ Below w.heap.size w w' := by
  have hB1 := (Below.refl w.heap.size w).alloc (Nat.le_refl _) (.cells #[.int .i64 a, .int .i64 b] 23)
  have hH1 := Has.new w 23 #[.int .i64 a, .int .i64 b]
  have c0 := hH1.cell 0
  have c1 := hH1.cell 1
  have hgo := fun W => refgoes_any (nearB b) (nearB a) 4 W (.inr rfl) (nearB_bd b)
  rw [nearB_two] at hgo
  unfold upperT
  generalize goes (nearB b) (nearB a) 4 = r at *
  have h : r < 256 ∨ 256 < r ∨ r = 256 := by omega
  rcases h with h | h | rfl
  · rw [if_pos h]
    go_enter Try.func18, Try.ntmps18
    go_wp2_with (first
      | (go_at_call 22; ((with_reducible refine (refNear_any _ _ _).mono ?_); rintro e W1 ⟨rfl, hBx⟩; have hH2 := hH1.below hBx hH1.lt; have hH3 := Has.put2 hH2 (.int .i64 (nearB a)) (.int .i64 (nearB b)); have hB3 := below_put2 (hB1.trans (hBx.mono hB1.size)) (Nat.le_refl _) (.int .i64 (nearB a)) (.int .i64 (nearB b)); have b0 := hH2.cell 0; have b1 := hH2.cell 1; have f0 := hH2.frozen 0; have f1 := hH2.frozen 1; have d0 := hH3.cell 0; have d1 := hH3.cell 1; clear hH2 hBx))
      | (go_at_call 29; (go_must (refine Calls.mono (by exact hgo _) ?_); rintro e W2 ⟨rfl, rfl⟩)))
    go_ret
    exact ⟨rfl, hB3⟩
  · rw [if_neg (by omega)]
    go_enter Try.func18, Try.ntmps18
    go_wp2_with (first
      | (go_at_call 22; ((with_reducible refine (refNear_any _ _ _).mono ?_); rintro e W1 ⟨rfl, hBx⟩; have hH2 := hH1.below hBx hH1.lt; have hH3 := Has.put2 hH2 (.int .i64 (nearB a)) (.int .i64 (nearB b)); have hB3 := below_put2 (hB1.trans (hBx.mono hB1.size)) (Nat.le_refl _) (.int .i64 (nearB a)) (.int .i64 (nearB b)); have b0 := hH2.cell 0; have b1 := hH2.cell 1; have f0 := hH2.frozen 0; have f1 := hH2.frozen 1; have d0 := hH3.cell 0; have d1 := hH3.cell 1; clear hH2 hBx))
      | (go_at_call 29; (go_must (refine Calls.mono (by exact hgo _) ?_); rintro e W2 ⟨rfl, rfl⟩)))
    go_ret
    exact ⟨rfl, hB3⟩
  · rw [if_neg (by omega)]
    go_enter Try.func18, Try.ntmps18
    go_wp2_with (first
      | (go_at_call 22; ((with_reducible refine (refNear_any _ _ _).mono ?_); rintro e W1 ⟨rfl, hBx⟩; have hH2 := hH1.below hBx hH1.lt; have hH3 := Has.put2 hH2 (.int .i64 (nearB a)) (.int .i64 (nearB b)); have hB3 := below_put2 (hB1.trans (hBx.mono hB1.size)) (Nat.le_refl _) (.int .i64 (nearB a)) (.int .i64 (nearB b)); have b0 := hH2.cell 0; have b1 := hH2.cell 1; have f0 := hH2.frozen 0; have f1 := hH2.frozen 1; have d0 := hH3.cell 0; have d1 := hH3.cell 1; clear hH2 hBx))
      | (go_at_call 29; (go_must (refine Calls.mono (by exact hgo _) ?_); rintro e W2 ⟨rfl, rfl⟩)))
    go_ret
    exact ⟨rfl, hB3⟩
set_option maxHeartbeats 1000000 in
theorem reflower_any (a b : Int) (w : World) :
    Calls Try.prog 20 #[.agg #[.int .i64 a, .int .i64 b]] w fun e w' => e = .returned (.int .i64 (lowerT (a, b))) ∧ Below w.heap.size w w' := by
  have hB1 := (Below.refl w.heap.size w).alloc (Nat.le_refl _) (.cells #[.int .i64 a, .int .i64 b] 23)
  have hH1 := Has.new w 23 #[.int .i64 a, .int .i64 b]
  have c0 := hH1.cell 0
  have c1 := hH1.cell 1
  unfold lowerT
  have hup := fun W => refupper_any a b W
  have hub := upper_bd (a, b)
  generalize upperT (a, b) = u at *
  have hq : u.tdiv 2 = u / 2 := Int.tdiv_eq_ediv_of_nonneg (by omega)
  rw [← hq]
  have hq1 : 0 ≤ u.tdiv 2 ∧ u.tdiv 2 ≤ 62914560 := by rw [hq]; omega
  clear hq
  go_enter Try.func20, Try.ntmps20
  go_wp2_with (go_at_call 18; (go_must (refine Calls.mono (by exact hup _) ?_); rintro e W1 ⟨rfl, hBx⟩; have hB2 := hB1.trans (hBx.mono hB1.size)))
  go_ret
  exact ⟨rfl, hB2⟩
set_option maxHeartbeats 1000000 in
theorem refsignal_any (A : Option Addr) (n c : Nat) (ts : List Int) (a b : Int) (w : World) (hv : Vals w A n ts) (hn : n ≤ 100000) :
    Calls Try.prog 11 #[.agg #[.int .i64 a, .int .i64 b], .slice A n c] w fun e w' => e = .returned (lvV (signalT (a, b) ts)) ∧ Below w.heap.size w w' := by
  have hlen := hv.len_
  obtain ⟨hB1, hH1, hR1⟩ := box_two w a b
  have c0 := hH1.cell 0
  have c1 := hH1.cell 1
  unfold lvV signalT
  have HBD := Lib.hid (fun j => follow_bd (ts.take j) (nearB a) (nearB_bd a))
  go_enter Try.func11, Try.ntmps11
  go_wp2_with (first
    | (go_at_call 22; ((with_reducible refine (refNear_any _ _ _).mono ?_); rintro e W1 ⟨rfl, hBx⟩; obtain ⟨hH2, hH3, hR3, hB3⟩ := counted_put (x := nearB a) (y := nearB b) hB1 hH1 hR1 hBx; have b0 := hH2.cell 0; have b1 := hH2.cell 1; have f0 := hH2.frozen 0; have f1 := hH2.frozen 1; have d0 := hH3.cell 0; have d1 := hH3.cell 1; have g0 := hH3.frozen 0; have g1 := hH3.frozen 1; clear hH2 hBx))
    | fail)
  clear b0 b1 f0 f1 c0 c1 d0 d1 g0 g1 hH1 hR1 hB1
  generalize (W1.setCell ⟨w.heap.size, 0, none⟩ (.int .i64 (nearB a))).setCell ⟨w.heap.size, 1, none⟩ (.int .i64 (nearB b)) = W2 at *
  go_loopw [5] (fun i wr => ∃ j : Nat, j ≤ n ∧ i = .int .i64 (j : Nat) ∧ Has wr w.heap.size 23 #[.int .i64 (followT (nearB a) (ts.take j)), .int .i64 (nearB b)] ∧ Has wr (w.heap.size + 1) 23 #[.int .i64 0, .int .i64 0] ∧ Below w.heap.size w wr) (fun i _ => n - (intOf i).toNat)
  case atStart => exact ⟨0, by omega, rfl, hH3, hR3, hB3⟩
  case round =>
    obtain ⟨j, hj, rfl, hH, hR, hB⟩ := hrel
    clear hH3 hR3 hB3
    by_cases hjn : j < n
    · have hjz : (j : Int) < (n : Int) := by omega
      have hvb := hv.below hB
      obtain ⟨x, rfl, hcx⟩ := hvb.cells (by omega)
      have HST := Lib.hid (follow_step (nearB a) ts j (by omega))
      have hgo := fun W => refgoes_any (followT (nearB a) (ts.take j)) (ts.getD j 0) 8 W (.inl rfl) (HBD.out j)
      generalize hr : goes (followT (nearB a) (ts.take j)) (nearB (ts.getD j 0)) 8 = r at *
      clear hr
      have hHd := hH.drew
      have hRd := hR.drew
      have hBd : Below w.heap.size w wr.drew := below_drewN hB 1
      have hcd := hcx j hjn
      have hvd : Vals wr.drew (some x) n ts := hvb.drewN 1
      generalize followT (nearB a) (ts.take j) = s at *
      generalize ts.getD j 0 = t at *
      have hcd : wr.drew.cell? (x.add j) = some (.int .i64 t) := hcd
      clear hcx hlen hH hR hB
      go_wp2
      refine Reg.begin_ (S := fun W => W.cell? (x.add j) = some (.int .i64 t)) (by kernel_rfl) hcd (fun hHeld => ?_)
      refine Reg.take (i := 0) (v := ?v6) rfl (by kernel_rfl) (by kernel_rfl) (by kernel_rfl) (by rfl) ?hv6 (by assumption) ?rest6
      case hv6 => first | (intro w hSw; (try dsimp only at hSw); go_simp; done) | (intro w hSw; (try dsimp only at hSw); go_simp; with_reducible rfl)
      (try simp only [Act.put, List.setIfInBounds_toArray, List.set_cons_zero, List.set_cons_succ])
      refine Reg.take (i := 2) (v := ?v7) rfl (by kernel_rfl) (by kernel_rfl) (by kernel_rfl) (by rfl) ?hv7 (by assumption) ?rest7
      case hv7 => first | (intro w hSw; (try dsimp only at hSw); go_simp; done) | (intro w hSw; (try dsimp only at hSw); go_simp; with_reducible rfl)
      (try simp only [Act.put, List.setIfInBounds_toArray, List.set_cons_zero, List.set_cons_succ])
      refine Reg.take (i := 3) (v := ?v8) rfl (by kernel_rfl) (by kernel_rfl) (by kernel_rfl) (by rfl) ?hv8 (by assumption) ?rest8
      case hv8 => first | (intro w hSw; (try dsimp only at hSw); go_simp; done) | (intro w hSw; (try dsimp only at hSw); go_simp; with_reducible rfl)
      (try simp only [Act.put, List.setIfInBounds_toArray, List.set_cons_zero, List.set_cons_succ])
      refine Reg.take (i := 4) (v := ?v9) rfl (by kernel_rfl) (by kernel_rfl) (by kernel_rfl) (by rfl) ?hv9 (by assumption) ?rest9
      case hv9 => first | (intro w hSw; (try dsimp only at hSw); go_simp; done) | (intro w hSw; (try dsimp only at hSw); go_simp; with_reducible rfl)
      (try simp only [Act.put, List.setIfInBounds_toArray, List.set_cons_zero, List.set_cons_succ])
      refine Reg.take (i := 5) (v := ?v10) rfl (by kernel_rfl) (by kernel_rfl) (by kernel_rfl) (by rfl) ?hv10 (by assumption) ?rest10
      case hv10 => first | (intro w hSw; (try dsimp only at hSw); go_simp; done) | (intro w hSw; (try dsimp only at hSw); go_simp; with_reducible rfl)
      (try simp only [Act.put, List.setIfInBounds_toArray, List.set_cons_zero, List.set_cons_succ])
      clear hHeld
      generalize wr.drew = W3 at *
      have q0 := hHd.cell 0
      have k0 := hHd.frozen 0
      have hH9 : Has (W3.setCell ⟨w.heap.size, 0, none⟩ (.int .i64 r)) w.heap.size 23 #[.int .i64 (r), .int .i64 (nearB b)] := by
        have h9 := hHd.set_ 0 (.int .i64 r)
        simpa using h9
      have hR9 := hRd.far (p := ⟨w.heap.size, 0, none⟩) (by simp) (.int .i64 r)
      have hxb : x.block ≠ w.heap.size := by
        have h9 := hv.cells (by omega)
        obtain ⟨x', hx', h8⟩ := h9
        injection hx' with hx'
        subst hx'
        have h7 := World.block_lt_of_cell? _ _ (h8 0 (by omega))
        rw [block_add] at h7
        omega
      have hB9 := hBd.setCell (p := ⟨w.heap.size, 0, none⟩) (Nat.le_refl _) (.int .i64 r)
      have hc9 : (W3.setCell ⟨w.heap.size, 0, none⟩ (.int .i64 r)).cell? (x.add j) = some (.int .i64 t) := by
        rw [← hcd]
        exact World.cell?_of_block (Below.heap_setCell W3 ⟨w.heap.size, 0, none⟩ (.int .i64 r) (x.add j).block (by rw [block_add]; exact hxb))
      refine Reg.call (i := 1) rfl (by kernel_rfl) (by rfl) ?_
      intro K hK
      go_simp
      refine hK.out _ _ (by exact hcd) (fun hHeld => ?_)
      clear hK K
      (try simp only [Act.put, List.setIfInBounds_toArray, List.set_cons_zero, List.set_cons_succ])
      refine Reg.call (i := 6) rfl (by kernel_rfl) (by rfl) ?_
      intro K hK
      go_simp
      go_at_call 29
      refine (hgo _).mono ?_
      rintro e w1 ⟨rfl, rfl⟩
      refine hK.out _ _ (by exact hcd) (fun hHeld => ?_)
      clear hK K
      (try simp only [Act.put, List.setIfInBounds_toArray, List.set_cons_zero, List.set_cons_succ])
      refine Reg.take (i := 7) (v := ?v11) rfl (by kernel_rfl) (by kernel_rfl) (by kernel_rfl) (by rfl) ?hv11 (by assumption) ?rest11
      case hv11 => first | (intro w hSw; (try dsimp only at hSw); go_simp; done) | (intro w hSw; (try dsimp only at hSw); go_simp; with_reducible rfl)
      (try simp only [Act.put, List.setIfInBounds_toArray, List.set_cons_zero, List.set_cons_succ])
      refine Reg.call (i := 8) rfl (by kernel_rfl) (by rfl) ?_
      intro K hK
      go_simp
      refine hK.out _ _ (by exact hc9) (fun hHeld => ?_)
      clear hK K
      (try simp only [Act.put, List.setIfInBounds_toArray, List.set_cons_zero, List.set_cons_succ])
      refine Reg.done (by kernel_rfl) ?_ _
      clear q0 k0 hcd hc9
      go_wp2
      go_roundw
      case rel => exact ⟨j + 1, by omega, by go_num, by rw [HST.out]; exact hH9, hR9, hB9⟩
      case measure => simp [intOf]; omega
    · obtain rfl : j = n := by omega
      rw [List.take_of_length_le (by omega)] at hH
      have c0 := hH.cell 0
      have c1 := hH.cell 1
      have r0 := hR.cell 0
      have r1 := hR.cell 1
      have g0 := hR.frozen 0
      have g1 := hR.frozen 1
      have hR9 := Has.put2 hR (.int .i64 (followT (nearB a) ts)) (.int .i64 (nearB b))
      have hB9 := below_put2 hB (show w.heap.size ≤ w.heap.size + 1 by omega) (.int .i64 (followT (nearB a) ts)) (.int .i64 (nearB b))
      have p0 := hR9.cell 0
      have p1 := hR9.cell 1
      clear hv
      go_wp2
      refine bodyPost_ret (v := .agg #[.int .i64 (followT (nearB a) ts), .int .i64 (nearB b)]) (by simp [results, Try.results11, go_sem, p0, p1]) rfl ⟨rfl, hB9⟩
set_option maxHeartbeats 1000000 in
theorem refnoise_any (A : Option Addr) (n c : Nat) (ts : List Int) (a b : Int) (w : World) (hv : Vals w A n ts) (hn : n ≤ 100000) :
    Calls Try.prog 13 #[.agg #[.int .i64 a, .int .i64 b], .slice A n c] w fun e w' => e = .returned (lvV (noiseT (a, b) ts)) ∧ Below w.heap.size w w' := by
  have hlen := hv.len_
  obtain ⟨hB1, hH1, hR1⟩ := box_two w a b
  have c0 := hH1.cell 0
  have c1 := hH1.cell 1
  unfold lvV noiseT
  have HBD := Lib.hid (fun j => follow_bd (ts.take j) (nearB b) (nearB_bd b))
  go_enter Try.func13, Try.ntmps13
  go_wp2_with (first
    | (go_at_call 22; ((with_reducible refine (refNear_any _ _ _).mono ?_); rintro e W1 ⟨rfl, hBx⟩; obtain ⟨hH2, hH3, hR3, hB3⟩ := counted_put (x := nearB a) (y := nearB b) hB1 hH1 hR1 hBx; have b0 := hH2.cell 0; have b1 := hH2.cell 1; have f0 := hH2.frozen 0; have f1 := hH2.frozen 1; have d0 := hH3.cell 0; have d1 := hH3.cell 1; have g0 := hH3.frozen 0; have g1 := hH3.frozen 1; clear hH2 hBx))
    | fail)
  clear b0 b1 f0 f1 c0 c1 d0 d1 g0 g1 hH1 hR1 hB1
  generalize (W1.setCell ⟨w.heap.size, 0, none⟩ (.int .i64 (nearB a))).setCell ⟨w.heap.size, 1, none⟩ (.int .i64 (nearB b)) = W2 at *
  go_loopw [5] (fun i wr => ∃ j : Nat, j ≤ n ∧ i = .int .i64 (j : Nat) ∧ Has wr w.heap.size 23 #[.int .i64 (nearB a), .int .i64 (followT (nearB b) (ts.take j))] ∧ Has wr (w.heap.size + 1) 23 #[.int .i64 0, .int .i64 0] ∧ Below w.heap.size w wr) (fun i _ => n - (intOf i).toNat)
  case atStart => exact ⟨0, by omega, rfl, hH3, hR3, hB3⟩
  case round =>
    obtain ⟨j, hj, rfl, hH, hR, hB⟩ := hrel
    clear hH3 hR3 hB3
    by_cases hjn : j < n
    · have hjz : (j : Int) < (n : Int) := by omega
      have hvb := hv.below hB
      obtain ⟨x, rfl, hcx⟩ := hvb.cells (by omega)
      have HST := Lib.hid (follow_step (nearB b) ts j (by omega))
      have hgo := fun W => refgoes_any (followT (nearB b) (ts.take j)) (ts.getD j 0) 8 W (.inl rfl) (HBD.out j)
      generalize hr : goes (followT (nearB b) (ts.take j)) (nearB (ts.getD j 0)) 8 = r at *
      clear hr
      have hHd := hH.drew
      have hRd := hR.drew
      have hBd : Below w.heap.size w wr.drew := below_drewN hB 1
      have hcd := hcx j hjn
      have hvd : Vals wr.drew (some x) n ts := hvb.drewN 1
      generalize followT (nearB b) (ts.take j) = s at *
      generalize ts.getD j 0 = t at *
      have hcd : wr.drew.cell? (x.add j) = some (.int .i64 t) := hcd
      clear hcx hlen hH hR hB
      go_wp2
      refine Reg.begin_ (S := fun W => W.cell? (x.add j) = some (.int .i64 t)) (by kernel_rfl) hcd (fun hHeld => ?_)
      refine Reg.take (i := 0) (v := ?v12) rfl (by kernel_rfl) (by kernel_rfl) (by kernel_rfl) (by rfl) ?hv12 (by assumption) ?rest12
      case hv12 => first | (intro w hSw; (try dsimp only at hSw); go_simp; done) | (intro w hSw; (try dsimp only at hSw); go_simp; with_reducible rfl)
      (try simp only [Act.put, List.setIfInBounds_toArray, List.set_cons_zero, List.set_cons_succ])
      refine Reg.take (i := 2) (v := ?v13) rfl (by kernel_rfl) (by kernel_rfl) (by kernel_rfl) (by rfl) ?hv13 (by assumption) ?rest13
      case hv13 => first | (intro w hSw; (try dsimp only at hSw); go_simp; done) | (intro w hSw; (try dsimp only at hSw); go_simp; with_reducible rfl)
      (try simp only [Act.put, List.setIfInBounds_toArray, List.set_cons_zero, List.set_cons_succ])
      refine Reg.take (i := 3) (v := ?v14) rfl (by kernel_rfl) (by kernel_rfl) (by kernel_rfl) (by rfl) ?hv14 (by assumption) ?rest14
      case hv14 => first | (intro w hSw; (try dsimp only at hSw); go_simp; done) | (intro w hSw; (try dsimp only at hSw); go_simp; with_reducible rfl)
      (try simp only [Act.put, List.setIfInBounds_toArray, List.set_cons_zero, List.set_cons_succ])
      refine Reg.take (i := 4) (v := ?v15) rfl (by kernel_rfl) (by kernel_rfl) (by kernel_rfl) (by rfl) ?hv15 (by assumption) ?rest15
      case hv15 => first | (intro w hSw; (try dsimp only at hSw); go_simp; done) | (intro w hSw; (try dsimp only at hSw); go_simp; with_reducible rfl)
      (try simp only [Act.put, List.setIfInBounds_toArray, List.set_cons_zero, List.set_cons_succ])
      refine Reg.take (i := 5) (v := ?v16) rfl (by kernel_rfl) (by kernel_rfl) (by kernel_rfl) (by rfl) ?hv16 (by assumption) ?rest16
      case hv16 => first | (intro w hSw; (try dsimp only at hSw); go_simp; done) | (intro w hSw; (try dsimp only at hSw); go_simp; with_reducible rfl)
      (try simp only [Act.put, List.setIfInBounds_toArray, List.set_cons_zero, List.set_cons_succ])
      clear hHeld
      generalize wr.drew = W3 at *
      have q0 := hHd.cell 1
      have k0 := hHd.frozen 1
      have hH9 : Has (W3.setCell ⟨w.heap.size, 1, none⟩ (.int .i64 r)) w.heap.size 23 #[.int .i64 (nearB a), .int .i64 (r)] := by
        have h9 := hHd.set_ 1 (.int .i64 r)
        simpa using h9
      have hR9 := hRd.far (p := ⟨w.heap.size, 1, none⟩) (by simp) (.int .i64 r)
      have hxb : x.block ≠ w.heap.size := by
        have h9 := hv.cells (by omega)
        obtain ⟨x', hx', h8⟩ := h9
        injection hx' with hx'
        subst hx'
        have h7 := World.block_lt_of_cell? _ _ (h8 0 (by omega))
        rw [block_add] at h7
        omega
      have hB9 := hBd.setCell (p := ⟨w.heap.size, 1, none⟩) (Nat.le_refl _) (.int .i64 r)
      have hc9 : (W3.setCell ⟨w.heap.size, 1, none⟩ (.int .i64 r)).cell? (x.add j) = some (.int .i64 t) := by
        rw [← hcd]
        exact World.cell?_of_block (Below.heap_setCell W3 ⟨w.heap.size, 1, none⟩ (.int .i64 r) (x.add j).block (by rw [block_add]; exact hxb))
      refine Reg.call (i := 1) rfl (by kernel_rfl) (by rfl) ?_
      intro K hK
      go_simp
      refine hK.out _ _ (by exact hcd) (fun hHeld => ?_)
      clear hK K
      (try simp only [Act.put, List.setIfInBounds_toArray, List.set_cons_zero, List.set_cons_succ])
      refine Reg.call (i := 6) rfl (by kernel_rfl) (by rfl) ?_
      intro K hK
      go_simp
      go_at_call 29
      refine (hgo _).mono ?_
      rintro e w1 ⟨rfl, rfl⟩
      refine hK.out _ _ (by exact hcd) (fun hHeld => ?_)
      clear hK K
      (try simp only [Act.put, List.setIfInBounds_toArray, List.set_cons_zero, List.set_cons_succ])
      refine Reg.take (i := 7) (v := ?v17) rfl (by kernel_rfl) (by kernel_rfl) (by kernel_rfl) (by rfl) ?hv17 (by assumption) ?rest17
      case hv17 => first | (intro w hSw; (try dsimp only at hSw); go_simp; done) | (intro w hSw; (try dsimp only at hSw); go_simp; with_reducible rfl)
      (try simp only [Act.put, List.setIfInBounds_toArray, List.set_cons_zero, List.set_cons_succ])
      refine Reg.call (i := 8) rfl (by kernel_rfl) (by rfl) ?_
      intro K hK
      go_simp
      refine hK.out _ _ (by exact hc9) (fun hHeld => ?_)
      clear hK K
      (try simp only [Act.put, List.setIfInBounds_toArray, List.set_cons_zero, List.set_cons_succ])
      refine Reg.done (by kernel_rfl) ?_ _
      clear q0 k0 hcd hc9
      go_wp2
      go_roundw
      case rel => exact ⟨j + 1, by omega, by go_num, by rw [HST.out]; exact hH9, hR9, hB9⟩
      case measure => simp [intOf]; omega
    · obtain rfl : j = n := by omega
      rw [List.take_of_length_le (by omega)] at hH
      have c0 := hH.cell 0
      have c1 := hH.cell 1
      have r0 := hR.cell 0
      have r1 := hR.cell 1
      have g0 := hR.frozen 0
      have g1 := hR.frozen 1
      have hR9 := Has.put2 hR (.int .i64 (nearB a)) (.int .i64 (followT (nearB b) ts))
      have hB9 := below_put2 hB (show w.heap.size ≤ w.heap.size + 1 by omega) (.int .i64 (nearB a)) (.int .i64 (followT (nearB b) ts))
      have p0 := hR9.cell 0
      have p1 := hR9.cell 1
      clear hv
      go_wp2
      refine bodyPost_ret (v := .agg #[.int .i64 (nearB a), .int .i64 (followT (nearB b) ts)]) (by simp [results, Try.results13, go_sem, p0, p1]) rfl ⟨rfl, hB9⟩
set_option maxHeartbeats 1000000 in
theorem reffirst_any (A : Option Addr) (n c : Nat) (ts : List Int) (w : World) (hv : Vals w A n ts) (hn : n ≤ 100000) :
    Calls Try.prog 9 #[.slice A n c] w fun e w' => e = .returned (lvV (firstT ts, 0)) ∧ Below w.heap.size w w' := by
  have hlen := hv.len_
  obtain ⟨hB1, hR1, hH1⟩ := box_two w 0 0
  unfold lvV
  go_enter Try.func9, Try.ntmps9
  go_wp2
  generalize (w.alloc (.cells #[.int .i64 0, .int .i64 0] 23)).alloc (.cells #[.int .i64 0, .int .i64 0] 23) = W0 at *
  go_loopw [4] (fun i wr => ∃ j : Nat, j ≤ n ∧ i = .int .i64 (j : Nat) ∧ Has wr (w.heap.size + 1) 23 #[.int .i64 (firstT (ts.take j)), .int .i64 0] ∧ Has wr w.heap.size 23 #[.int .i64 0, .int .i64 0] ∧ Below w.heap.size w wr) (fun i _ => n - (intOf i).toNat)
  case atStart => exact ⟨0, by omega, rfl, hH1, hR1, hB1⟩
  case round =>
    obtain ⟨j, hj, rfl, hH, hR, hB⟩ := hrel
    clear hH1 hR1 hB1
    by_cases hjn : j < n
    · have hjz : (j : Int) < (n : Int) := by omega
      have hvb := hv.below hB
      obtain ⟨x, rfl, hcx⟩ := hvb.cells (by omega)
      have HST := Lib.hid (first_step ts j (by omega))
      have hcn := fun W => refnear_any (ts.getD j 0) W
      have hHd := hH.drew
      have hRd := hR.drew
      have hBd : Below w.heap.size w wr.drew := below_drewN hB 1
      have hcd := hcx j hjn
      generalize firstT (ts.take j) = s at *
      generalize nearB (ts.getD j 0) = t' at *
      generalize ts.getD j 0 = t at *
      generalize hr : (if s < t' then t' else s) = r at *
      have hcd : wr.drew.cell? (x.add j) = some (.int .i64 t) := hcd
      clear hcx hlen hH hR hB
      go_wp2
      refine Reg.begin_ (S := fun W => W.cell? (x.add j) = some (.int .i64 t)) (by kernel_rfl) hcd (fun hHeld => ?_)
      refine Reg.take (i := 0) (v := ?v18) rfl (by kernel_rfl) (by kernel_rfl) (by kernel_rfl) (by rfl) ?hv18 (by assumption) ?rest18
      case hv18 => first | (intro w hSw; (try dsimp only at hSw); go_simp; done) | (intro w hSw; (try dsimp only at hSw); go_simp; with_reducible rfl)
      (try simp only [Act.put, List.setIfInBounds_toArray, List.set_cons_zero, List.set_cons_succ])
      refine Reg.take (i := 2) (v := ?v19) rfl (by kernel_rfl) (by kernel_rfl) (by kernel_rfl) (by rfl) ?hv19 (by assumption) ?rest19
      case hv19 => first | (intro w hSw; (try dsimp only at hSw); go_simp; done) | (intro w hSw; (try dsimp only at hSw); go_simp; with_reducible rfl)
      (try simp only [Act.put, List.setIfInBounds_toArray, List.set_cons_zero, List.set_cons_succ])
      refine Reg.take (i := 3) (v := ?v20) rfl (by kernel_rfl) (by kernel_rfl) (by kernel_rfl) (by rfl) ?hv20 (by assumption) ?rest20
      case hv20 => first | (intro w hSw; (try dsimp only at hSw); go_simp; done) | (intro w hSw; (try dsimp only at hSw); go_simp; with_reducible rfl)
      (try simp only [Act.put, List.setIfInBounds_toArray, List.set_cons_zero, List.set_cons_succ])
      refine Reg.take (i := 4) (v := ?v21) rfl (by kernel_rfl) (by kernel_rfl) (by kernel_rfl) (by rfl) ?hv21 (by assumption) ?rest21
      case hv21 => first | (intro w hSw; (try dsimp only at hSw); go_simp; done) | (intro w hSw; (try dsimp only at hSw); go_simp; with_reducible rfl)
      (try simp only [Act.put, List.setIfInBounds_toArray, List.set_cons_zero, List.set_cons_succ])
      refine Reg.take (i := 5) (v := ?v22) rfl (by kernel_rfl) (by kernel_rfl) (by kernel_rfl) (by rfl) ?hv22 (by assumption) ?rest22
      case hv22 => first | (intro w hSw; (try dsimp only at hSw); go_simp; done) | (intro w hSw; (try dsimp only at hSw); go_simp; with_reducible rfl)
      (try simp only [Act.put, List.setIfInBounds_toArray, List.set_cons_zero, List.set_cons_succ])
      clear hHeld
      generalize wr.drew = W3 at *
      have q0 := hHd.cell 0
      have k0 := hHd.frozen 0
      have hH9 : Has (W3.setCell ⟨w.heap.size + 1, 0, none⟩ (.int .i64 r)) (w.heap.size + 1) 23 #[.int .i64 r, .int .i64 0] := by
        have h9 := hHd.set_ 0 (.int .i64 r)
        simpa using h9
      have hR9 := hRd.far (p := ⟨w.heap.size + 1, 0, none⟩) (by simp) (.int .i64 r)
      have hxb : x.block ≠ w.heap.size + 1 := by
        have h9 := hv.cells (by omega)
        obtain ⟨x', hx', h8⟩ := h9
        injection hx' with hx'
        subst hx'
        have h7 := World.block_lt_of_cell? _ _ (h8 0 (by omega))
        rw [block_add] at h7
        omega
      have hB9 := hBd.setCell (p := ⟨w.heap.size + 1, 0, none⟩) (by simp) (.int .i64 r)
      have hc9 : (W3.setCell ⟨w.heap.size + 1, 0, none⟩ (.int .i64 r)).cell? (x.add j) = some (.int .i64 t) := by
        rw [← hcd]
        exact World.cell?_of_block (Below.heap_setCell W3 ⟨w.heap.size + 1, 0, none⟩ (.int .i64 r) (x.add j).block (by rw [block_add]; exact hxb))
      refine Reg.both (i := 1) (j := 6) rfl rfl (by kernel_rfl) (by rfl) (by rfl) ?_ ?_
      · intro K hK
        go_simp
        refine hK.out _ _ (by exact hcd) (fun hHeld => ?_)
        clear hK K
        (try simp only [Act.put, List.setIfInBounds_toArray, List.set_cons_zero, List.set_cons_succ])
        refine Reg.call (i := 6) rfl (by kernel_rfl) (by rfl) ?_
        intro K hK
        go_simp
        go_at_call 26
        refine (hcn _).mono ?_
        rintro e w1 ⟨rfl, rfl⟩
        refine hK.out _ _ (by exact hcd) (fun hHeld => ?_)
        clear hK K
        (try simp only [Act.put, List.setIfInBounds_toArray, List.set_cons_zero, List.set_cons_succ])
        refine Reg.call (i := 7) rfl (by kernel_rfl) (by rfl) ?_
        intro K hK
        go_simp
        (try simp only [hr])
        refine hK.out _ _ (by exact hcd) (fun hHeld => ?_)
        clear hK K
        (try simp only [Act.put, List.setIfInBounds_toArray, List.set_cons_zero, List.set_cons_succ])
        refine Reg.take (i := 8) (v := ?v23) rfl (by kernel_rfl) (by kernel_rfl) (by kernel_rfl) (by rfl) ?hv23 (by assumption) ?rest23
        case hv23 => first | (intro w hSw; (try dsimp only at hSw); go_simp; done) | (intro w hSw; (try dsimp only at hSw); go_simp; with_reducible rfl)
        (try simp only [Act.put, List.setIfInBounds_toArray, List.set_cons_zero, List.set_cons_succ])
        refine Reg.call (i := 9) rfl (by kernel_rfl) (by rfl) ?_
        intro K hK
        go_simp
        refine hK.out _ _ (by exact hc9) (fun hHeld => ?_)
        clear hK K
        (try simp only [Act.put, List.setIfInBounds_toArray, List.set_cons_zero, List.set_cons_succ])
        refine Reg.done (by kernel_rfl) ?_ _
        clear q0 k0 hcd hc9
        go_wp2
        go_roundw
        case rel => exact ⟨j + 1, by omega, by go_num, by rw [HST.out]; exact hH9, hR9, hB9⟩
        case measure => simp [intOf]; omega
      · intro K hK
        go_simp
        go_at_call 26
        refine (hcn _).mono ?_
        rintro e w1 ⟨rfl, rfl⟩
        refine hK.out _ _ (by exact hcd) (fun hHeld => ?_)
        clear hK K
        (try simp only [Act.put, List.setIfInBounds_toArray, List.set_cons_zero, List.set_cons_succ])
        refine Reg.call (i := 1) rfl (by kernel_rfl) (by rfl) ?_
        intro K hK
        go_simp
        refine hK.out _ _ (by exact hcd) (fun hHeld => ?_)
        clear hK K
        (try simp only [Act.put, List.setIfInBounds_toArray, List.set_cons_zero, List.set_cons_succ])
        refine Reg.call (i := 7) rfl (by kernel_rfl) (by rfl) ?_
        intro K hK
        go_simp
        (try simp only [hr])
        refine hK.out _ _ (by exact hcd) (fun hHeld => ?_)
        clear hK K
        (try simp only [Act.put, List.setIfInBounds_toArray, List.set_cons_zero, List.set_cons_succ])
        refine Reg.take (i := 8) (v := ?v24) rfl (by kernel_rfl) (by kernel_rfl) (by kernel_rfl) (by rfl) ?hv24 (by assumption) ?rest24
        case hv24 => first | (intro w hSw; (try dsimp only at hSw); go_simp; done) | (intro w hSw; (try dsimp only at hSw); go_simp; with_reducible rfl)
        (try simp only [Act.put, List.setIfInBounds_toArray, List.set_cons_zero, List.set_cons_succ])
        refine Reg.call (i := 9) rfl (by kernel_rfl) (by rfl) ?_
        intro K hK
        go_simp
        refine hK.out _ _ (by exact hc9) (fun hHeld => ?_)
        clear hK K
        (try simp only [Act.put, List.setIfInBounds_toArray, List.set_cons_zero, List.set_cons_succ])
        refine Reg.done (by kernel_rfl) ?_ _
        clear q0 k0 hcd hc9
        go_wp2
        go_roundw
        case rel => exact ⟨j + 1, by omega, by go_num, by rw [HST.out]; exact hH9, hR9, hB9⟩
        case measure => simp [intOf]; omega
    · obtain rfl : j = n := by omega
      rw [List.take_of_length_le (by omega)] at hH
      have c0 := hH.cell 0
      have c1 := hH.cell 1
      have r0 := hR.cell 0
      have r1 := hR.cell 1
      have g0 := hR.frozen 0
      have g1 := hR.frozen 1
      have hR9 := Has.put2 hR (.int .i64 (firstT ts)) (.int .i64 0)
      have hB9 := below_put2 hB (Nat.le_refl _) (.int .i64 (firstT ts)) (.int .i64 0)
      have p0 := hR9.cell 0
      have p1 := hR9.cell 1
      clear hv
      go_wp2
      refine bodyPost_ret (v := .agg #[.int .i64 (firstT ts), .int .i64 0]) (by simp [results, Try.results9, go_sem, p0, p1]) rfl ⟨rfl, hB9⟩
end Go.Proofs.Ythhjgdephhfdhaa.Level
