/- The landed finder's calls: a kit for what stands on it. -/
import Derived.Test.YtoghdmoblehnmaaPeakCode
set_option linter.unusedSimpArgs false
set_option linter.unusedVariables false
namespace Go.Proofs.Ytoghdmoblehnmaa.Peak
open Go.RowKit
theorem valley_cell (o : Option Int) (v x : Int) (h : Ok v (.falls o)) (hx : 0 ≤ x ∧ x ≤ 62914560) : (if x < v then x else v) = valley o x ∧ 0 ≤ v ∧ v ≤ 62914560 ∧ 0 ≤ valley o x ∧ valley o x ≤ 62914560 := by
  cases o with
  | none =>
    have h1 : v = 62914560 := h
    show _ = x ∧ _ ∧ _ ∧ 0 ≤ x ∧ x ≤ _
    subst h1
    split <;> omega
  | some u =>
    obtain ⟨rfl, h2, h3⟩ : v = u ∧ 0 ≤ u ∧ u ≤ 62914560 := h
    show (if x < v then x else v) = (if x < v then x else v) ∧ 0 ≤ v ∧ v ≤ 62914560 ∧ 0 ≤ (if x < v then x else v) ∧ (if x < v then x else v) ≤ 62914560
    refine ⟨rfl, h2, h3, ?_⟩
    split <;> omega
theorem more_bd (p q : Int) (hp : 0 ≤ p ∧ p ≤ 107136) (hq : 0 ≤ q ∧ q ≤ 107136) : 0 ≤ more p q ∧ more p q ≤ 107136 := by unfold more; split <;> omega
theorem Has.far4 {w : World} {b : Nat} {t : TypeId} {cs : Array Value} (h : Has w b t cs) {c : Nat} (hp : b ≠ c) (x0 x1 x2 x3 : Value) :
    Has ((((w.setCell ⟨c, 0, none⟩ x0).setCell ⟨c, 1, none⟩ x1).setCell ⟨c, 2, none⟩ x2).setCell ⟨c, 3, none⟩ x3) b t cs :=
  (((h.far (p := ⟨c, 0, none⟩) hp x0).far (p := ⟨c, 1, none⟩) hp x1).far (p := ⟨c, 2, none⟩) hp x2).far (p := ⟨c, 3, none⟩) hp x3
theorem Kept.put4 {T : List Nat} {w W : World} (h : Kept T w W) {c : Nat} (hc : c ∈ T ∨ w.heap.size ≤ c) (x0 x1 x2 x3 : Value) :
    Kept T w ((((W.setCell ⟨c, 0, none⟩ x0).setCell ⟨c, 1, none⟩ x1).setCell ⟨c, 2, none⟩ x2).setCell ⟨c, 3, none⟩ x3) :=
  (((h.setCell (p := ⟨c, 0, none⟩) hc x0).setCell (p := ⟨c, 1, none⟩) hc x1).setCell (p := ⟨c, 2, none⟩) hc x2).setCell (p := ⟨c, 3, none⟩) hc x3
set_option maxHeartbeats 2000000 in
theorem push_any (b : Nat) (s : St) (n x d : Int) (w : World) (hF : Fil w b s n) (hn : 0 ≤ n ∧ n < 4611686018427387904) :
    Calls Try.prog 10 #[.pointer (some ⟨b, 0, none⟩), .int .i64 x, .int .i64 d] w fun e w' =>
      e = .returned (.tuple #[pkV (stepT s n x d).1, .bool (stepT s n x d).1.isSome]) ∧ Fil w' b (stepT s n x d).2 (n + 1) ∧ Kept [b] w w' := by
  obtain ⟨v, hH, hO⟩ := hF
  have hlt := hH.lt
  have cx := fun W => clamp_any x 0 62914560 W
  have cd := fun W => clamp_any d (-107136) 107136 W
  rw [near_clamp] at cd
  have hxb := sumW_bd x
  have hdb := nearTo_bd 107136 d (by omega)
  have hdd := distD_bd d
  unfold sumW at hxb
  unfold distD at hdd
  have hR0 := Has.new w 30 #[.int .i64 0, .int .i64 0, .int .i64 0, .int .i64 0]
  have hK0 := (Kept.refl [b] w).alloc (.cells #[.int .i64 0, .int .i64 0, .int .i64 0, .int .i64 0] 30)
  have hH0 := hH.alloc (.cells #[.int .i64 0, .int .i64 0, .int .i64 0, .int .i64 0] 30)
  generalize hW0 : w.alloc (.cells #[.int .i64 0, .int .i64 0, .int .i64 0, .int .i64 0] 30) = W0 at *
  have hR1 := hR0.far (p := ⟨b, 5, none⟩) (by simp; omega) (.int .i64 (n + 1))
  have hK1 := hK0.setCell (p := ⟨b, 5, none⟩) (.inl (by simp)) (.int .i64 (n + 1))
  have c5 : W0.cell? ⟨b, 5, none⟩ = some (.int .i64 n) := by
    have h9 := hH0.cell 5
    cases s <;> exact h9
  have f5 := hH0.frozen 5
  cases s with
  | falls o =>
    have hH1 : Has (W0.setCell ⟨b, 5, none⟩ (.int .i64 (n + 1))) b 51 #[.int .i64 0, .int .i64 0, .int .i64 0, .int .i64 v, .bool false, .int .i64 (n + 1)] := by
      have h9 := hH0.set_ 5 (.int .i64 (n + 1))
      simpa [cellsT] using h9
    obtain ⟨hv1, hv2, hv3, hv4, hv5⟩ := valley_cell o v _ hO hxb
    have hfa := fall_k b v (n + 1) n _ _ _ hH1 ⟨hv2, hv3⟩ hxb hdb hdd.1
    rw [hv1] at hfa
    have c4 := hH1.cell 4
    have hst : ∃ s', stepT (.falls o) n x d = (none, s') ∧ (∀ W, Has W b 51 (if 2 * valley o (clampZ x 0 62914560) + 64 < clampZ x 0 62914560 then #[.int .i64 n, .int .i64 (clampZ x 0 62914560), .int .i64 (Slope.distT (nearTo 107136 d)), .int .i64 (valley o (clampZ x 0 62914560)), .bool true, .int .i64 (n + 1)]
        else #[.int .i64 0, .int .i64 0, .int .i64 0, .int .i64 (valley o (clampZ x 0 62914560)), .bool false, .int .i64 (n + 1)]) → Fil W b s' (n + 1)) := by
      unfold stepT
      simp only
      unfold sumW distD
      by_cases hr : 2 * valley o (clampZ x 0 62914560) + 64 < clampZ x 0 62914560
      · rw [if_pos hr, if_pos hr]
        exact ⟨_, rfl, fun W h => ⟨_, h, by unfold fits64; omega, by omega, by omega, by omega, by omega⟩⟩
      · rw [if_neg hr, if_neg hr]
        exact ⟨_, rfl, fun W h => ⟨_, h, rfl, by omega, by omega⟩⟩
    obtain ⟨s', hst1, hst2⟩ := hst
    rw [hst1]
    clear hst1 hv1 hv4 hv5 hO
    generalize valley o (clampZ x 0 62914560) = u at *
    generalize clampZ x 0 62914560 = X at *
    generalize nearTo 107136 d = D at *
    go_enter Try.func10, Try.ntmps10
    go_wp2_with (first
      | (go_at_call 18; first | ((with_reducible refine (cx _).mono ?_); rintro e w1 ⟨rfl, rfl⟩) | ((with_reducible refine (cd _).mono ?_); rintro e w1 ⟨rfl, rfl⟩))
      | (go_at_call 19; ((refine Calls.mono (by exact hfa) ?_); rintro e w2 ⟨rfl, hH2, hK2⟩; have hR2 := hK2.has hR1 (by simp; omega); have q0 := hR2.cell 0; have q1 := hR2.cell 1; have q2 := hR2.cell 2; have q3 := hR2.cell 3; have g0 := hR2.frozen 0; have g1 := hR2.frozen 1; have g2 := hR2.frozen 2; have g3 := hR2.frozen 3)))
    have hR9 := Has.put4 hR2 (.int .i64 0) (.int .i64 0) (.int .i64 0) (.int .i64 0)
    have p0 := hR9.cell 0
    have p1 := hR9.cell 1
    have p2 := hR9.cell 2
    have p3 := hR9.cell 3
    exact bodyPost_ret (v := .tuple #[pkV none, .bool false]) (by simp [results, Try.results10, go_sem, p0, p1, p2, p3, pkV, nums]) rfl ⟨rfl, hst2 _ (Has.far4 hH2 (by omega) _ _ _ _), Kept.put4 (hK1.trans hK2) (.inr (Nat.le_refl _)) _ _ _ _⟩
  | rises t a p =>
    have hH1 : Has (W0.setCell ⟨b, 5, none⟩ (.int .i64 (n + 1))) b 51 #[.int .i64 a, .int .i64 t, .int .i64 p, .int .i64 v, .bool true, .int .i64 (n + 1)] := by
      have h9 := hH0.set_ 5 (.int .i64 (n + 1))
      simpa [cellsT] using h9
    obtain ⟨ha, ht1, ht2, hp1, hp2⟩ := hO
    have hcl := climb_k b a t p v true (n + 1) n (clampZ x 0 62914560) (nearTo 107136 d) _ hH1 ⟨hp1, hp2⟩ hdb
    have hqb := more_bd p _ ⟨hp1, hp2⟩ hdd
    have c4 := hH1.cell 4
    unfold stepT
    simp only
    unfold sumW distD
    generalize more p (Slope.distT (nearTo 107136 d)) = q at *
    generalize clampZ x 0 62914560 = X at *
    generalize nearTo 107136 d = D at *
    have hfits : fits64 n := by unfold fits64; omega
    by_cases h1 : t < X
    · rw [if_pos h1]
      rw [if_pos h1, if_pos h1] at hcl
      go_enter Try.func10, Try.ntmps10
      go_wp2_with (first
        | (go_at_call 18; first | ((with_reducible refine (cx _).mono ?_); rintro e w1 ⟨rfl, rfl⟩) | ((with_reducible refine (cd _).mono ?_); rintro e w1 ⟨rfl, rfl⟩))
        | (go_at_call 20; ((refine Calls.mono (by exact hcl) ?_); rintro e w2 ⟨rfl, hH2, hK2⟩; have d1 := hH2.cell 1; have hR2 := hK2.has hR1 (by simp; omega); have q0 := hR2.cell 0; have q1 := hR2.cell 1; have q2 := hR2.cell 2; have q3 := hR2.cell 3; have g0 := hR2.frozen 0; have g1 := hR2.frozen 1; have g2 := hR2.frozen 2; have g3 := hR2.frozen 3)))
      have hR9 := Has.put4 hR2 (.int .i64 0) (.int .i64 0) (.int .i64 0) (.int .i64 0)
      have p0 := hR9.cell 0
      have p1 := hR9.cell 1
      have p2 := hR9.cell 2
      have p3 := hR9.cell 3
      exact bodyPost_ret (v := .tuple #[pkV none, .bool false]) (by simp [results, Try.results10, go_sem, p0, p1, p2, p3, pkV, nums]) rfl ⟨rfl, ⟨v, Has.far4 hH2 (by omega) _ _ _ _, hfits, by omega, by omega, hqb.1, hqb.2⟩, Kept.put4 (hK1.trans hK2) (.inr (Nat.le_refl _)) _ _ _ _⟩
    · rw [if_neg h1]
      rw [if_neg h1, if_neg h1] at hcl
      by_cases h2 : 2 * X < t
      · rw [if_pos h2]
        go_enter Try.func10, Try.ntmps10
        go_wp2_with (first
          | (go_at_call 18; first | ((with_reducible refine (cx _).mono ?_); rintro e w1 ⟨rfl, rfl⟩) | ((with_reducible refine (cd _).mono ?_); rintro e w1 ⟨rfl, rfl⟩))
          | (go_at_call 20; ((refine Calls.mono (by exact hcl) ?_); rintro e w2 ⟨rfl, hH2, hK2⟩; have d1 := hH2.cell 1; have hR2 := hK2.has hR1 (by simp; omega); have hse := seen_k b a t q v true (n + 1) n w2 hH2))
          | (go_at_call 21; ((with_reducible refine hse.mono ?_); rintro e w3 ⟨rfl, hB3⟩; have hH3 := (hH2.below hB3 hH2.lt).alloc (.cells #[.int .i64 a, .int .i64 n, .int .i64 t, .int .i64 q] 30); have hR3 := (hR2.below hB3 hR2.lt).alloc (.cells #[.int .i64 a, .int .i64 n, .int .i64 t, .int .i64 q] 30); have hL3 := Has.new w3 30 #[.int .i64 a, .int .i64 n, .int .i64 t, .int .i64 q]; have hb3 := hH2.lt; have hs3 := hB3.size; have htu := turn_k b a t q v true (n + 1) X _ hH3))
          | (go_at_call 17; ((refine Calls.mono (by exact htu) ?_); rintro e w4 ⟨rfl, hH4, hK4⟩; have hL4 := hK4.has hL3 (by simp; omega); have hR4 := hK4.has hR3 (by simp; omega); have l0 := hL4.cell 0; have l1 := hL4.cell 1; have l2 := hL4.cell 2; have l3 := hL4.cell 3; have q0 := hR4.cell 0; have q1 := hR4.cell 1; have q2 := hR4.cell 2; have q3 := hR4.cell 3; have g0 := hR4.frozen 0; have g1 := hR4.frozen 1; have g2 := hR4.frozen 2; have g3 := hR4.frozen 3)))
        have hR9 := Has.put4 hR4 (.int .i64 a) (.int .i64 n) (.int .i64 t) (.int .i64 q)
        have p0 := hR9.cell 0
        have p1 := hR9.cell 1
        have p2 := hR9.cell 2
        have p3 := hR9.cell 3
        refine bodyPost_ret (v := .tuple #[pkV (some (a, n, t, q)), .bool true]) (by simp [results, Try.results10, go_sem, p0, p1, p2, p3, pkV, nums]) rfl ⟨rfl, ⟨X, Has.far4 hH4 (by omega) _ _ _ _, rfl, by omega, by omega⟩, Kept.put4 ?_ (.inr (Nat.le_refl _)) _ _ _ _⟩
        exact ((hK1.trans hK2).trans ((Kept.of_below (S := [b]) hB3).alloc _)).trans hK4
      · rw [if_neg h2]
        go_enter Try.func10, Try.ntmps10
        go_wp2_with (first
          | (go_at_call 18; first | ((with_reducible refine (cx _).mono ?_); rintro e w1 ⟨rfl, rfl⟩) | ((with_reducible refine (cd _).mono ?_); rintro e w1 ⟨rfl, rfl⟩))
          | (go_at_call 20; ((refine Calls.mono (by exact hcl) ?_); rintro e w2 ⟨rfl, hH2, hK2⟩; have d1 := hH2.cell 1; have hR2 := hK2.has hR1 (by simp; omega); have q0 := hR2.cell 0; have q1 := hR2.cell 1; have q2 := hR2.cell 2; have q3 := hR2.cell 3; have g0 := hR2.frozen 0; have g1 := hR2.frozen 1; have g2 := hR2.frozen 2; have g3 := hR2.frozen 3)))
        have hR9 := Has.put4 hR2 (.int .i64 0) (.int .i64 0) (.int .i64 0) (.int .i64 0)
        have p0 := hR9.cell 0
        have p1 := hR9.cell 1
        have p2 := hR9.cell 2
        have p3 := hR9.cell 3
        exact bodyPost_ret (v := .tuple #[pkV none, .bool false]) (by simp [results, Try.results10, go_sem, p0, p1, p2, p3, pkV, nums]) rfl ⟨rfl, ⟨v, Has.far4 hH2 (by omega) _ _ _ _, ha, ht1, ht2, hqb.1, hqb.2⟩, Kept.put4 (hK1.trans hK2) (.inr (Nat.le_refl _)) _ _ _ _⟩
theorem reset_any (b : Nat) (s : St) (n : Int) (w : World) (hF : Fil w b s n) :
    Calls Try.prog 9 #[.pointer (some ⟨b, 0, none⟩)] w fun e w' => e = .returned (.tuple #[]) ∧ Fil w' b (.falls none) 0 ∧ Kept [b] w w' := by
  obtain ⟨v, hH, hO⟩ := hF
  obtain ⟨a, t, p, r, hc⟩ : ∃ a t p r, cellsT s v n = #[.int .i64 a, .int .i64 t, .int .i64 p, .int .i64 v, .bool r, .int .i64 n] := by
    cases s
    · exact ⟨_, _, _, _, rfl⟩
    · exact ⟨_, _, _, _, rfl⟩
  rw [hc] at hH
  have h1 : Has (w.setCell ⟨b, 5, none⟩ (.int .i64 0)) b 51 #[.int .i64 a, .int .i64 t, .int .i64 p, .int .i64 v, .bool r, .int .i64 0] := by
    have h9 := hH.set_ 5 (.int .i64 0)
    simpa using h9
  have k1 := (Kept.refl [b] w).setCell (p := ⟨b, 5, none⟩) (.inl (by simp)) (.int .i64 0)
  have c5 := hH.cell 5
  have f5 := hH.frozen 5
  have htu := turn_k b a t p v r 0 62914560 _ h1
  clear hc hO
  go_enter Try.func9, Try.ntmps9
  go_wp2_with (go_at_call 17; ((refine Calls.mono (by exact htu) ?_); rintro e w2 ⟨rfl, hH2, hK2⟩))
  go_end0
  exact ⟨rfl, ⟨62914560, hH2, rfl⟩, k1.trans hK2⟩
theorem new_any (w : World) :
    Calls Try.prog 8 #[] w fun e w' => ∃ b, e = .returned (.pointer (some ⟨b, 0, none⟩)) ∧ Fil w' b (.falls none) 0 ∧ w.heap.size ≤ b ∧ Below w.heap.size w w' := by
  have h1 := Has.new w 51 #[.int .i64 0, .int .i64 0, .int .i64 0, .int .i64 0, .bool false, .int .i64 0]
  have hB := (Below.refl w.heap.size w).alloc (Nat.le_refl _) (.cells #[.int .i64 0, .int .i64 0, .int .i64 0, .int .i64 0, .bool false, .int .i64 0] 51)
  have hr := reset_any w.heap.size (.falls (some 0)) 0 _ ⟨0, h1, rfl, by omega, by omega⟩
  go_enter Try.func8, Try.ntmps8
  go_wp2_with (go_at_call 9; ((refine Calls.mono (by exact hr) ?_); rintro e w2 ⟨rfl, hF2, hK2⟩))
  go_ret
  exact ⟨_, rfl, hF2, Nat.le_refl _, below_kept hB hK2 hB.size (by simp)⟩
theorem steps_any (b : Nat) (s : St) (n : Int) (w : World) (hF : Fil w b s n) :
    Calls Try.prog 11 #[.pointer (some ⟨b, 0, none⟩)] w fun e w' => e = .returned (.int .i64 n) ∧ w = w' := by
  obtain ⟨v, hH, hO⟩ := hF
  have c5 : w.cell? ⟨b, 5, none⟩ = some (.int .i64 n) := by
    have h9 := hH.cell 5
    cases s <;> exact h9
  clear hO hH
  go_enter Try.func11, Try.ntmps11
  go_wp2
  go_ret
  exact ⟨rfl, rfl⟩
theorem rising_any (b : Nat) (s : St) (n : Int) (w : World) (hF : Fil w b s n) :
    Calls Try.prog 14 #[.pointer (some ⟨b, 0, none⟩)] w fun e w' => e = .returned (.bool (up s)) ∧ w = w' := by
  obtain ⟨v, hH, hO⟩ := hF
  have c4 : w.cell? ⟨b, 4, none⟩ = some (.bool (up s)) := by
    have h9 := hH.cell 4
    cases s <;> exact h9
  clear hO hH
  generalize up s = r at *
  go_enter Try.func14, Try.ntmps14
  go_wp2
  go_ret
  exact ⟨rfl, rfl⟩
theorem no_push (x d : Int) (w : World) : Calls Try.prog 10 #[.pointer none, .int .i64 x, .int .i64 d] w fun e w' => e = .returned (.tuple #[pkV none, .bool false]) ∧ Below w.heap.size w w' := by
  go_enter Try.func10, Try.ntmps10
  go_wp2
  refine bodyPost_ret (v := .tuple #[pkV none, .bool false]) (by simp [results, Try.results10, go_sem, pkV, nums]) rfl ⟨rfl, (Below.refl _ w).alloc (Nat.le_refl _) _⟩
theorem no_reset (w : World) : Calls Try.prog 9 #[.pointer none] w fun e w' => e = .returned (.tuple #[]) ∧ w = w' := by
  go_enter Try.func9, Try.ntmps9
  go_wp2
  exact bodyPost_ret (results_none rfl _ _ _) rfl ⟨rfl, rfl⟩
theorem no_steps (w : World) : Calls Try.prog 11 #[.pointer none] w fun e w' => e = .returned (.int .i64 0) ∧ w = w' := by
  go_enter Try.func11, Try.ntmps11
  go_wp2
  go_ret
  exact ⟨rfl, rfl⟩
theorem no_rising (w : World) : Calls Try.prog 14 #[.pointer none] w fun e w' => e = .returned (.bool false) ∧ w = w' := by
  go_enter Try.func14, Try.ntmps14
  go_wp2
  go_ret
  exact ⟨rfl, rfl⟩
end Go.Proofs.Ytoghdmoblehnmaa.Peak
