/- What the proofs stand on, part 3. -/
import Derived.Test.YtnoppoimahfknaaPack2
import Derived.Test.YtnoppoimahfknaaPack1
import Derived.Deep.QuietTactic
import Derived.BigQuiet
import Derived.Laws.StructEq
import Derived.Lib.Hide
import Derived.ProofKit
import Derived.Handy
import Derived.Deep.RegionWith
import Derived.Deep.DeepMust
section
/- The landed finder's calls: a kit for what stands on it. -/
set_option linter.unusedSimpArgs false
set_option linter.unusedVariables false
namespace Go.Proofs.Ytnoppoimahfknaa.Peak
open Go.RowKit
theorem valley_cell (o : Option Int) (v x : Int) (h : Ok v (.falls o)) (hx : 0 ≤ x ∧ x ≤ 62914560) : (if x < v then x else v) = valley o x ∧ 0 ≤ v ∧ v ≤ 62914560 ∧ 0 ≤ valley o x ∧ valley o x ≤ 62914560 := by
  cases o with
  | none =>
    have h1 : v = 62914560 := h
    show _ = x ∧ _ ∧ _ ∧ 0 ≤ x ∧ x ≤ _
    subst h1
    split <;> omega
  | some u =>
    obtain ⟨rfl, h2, h3⟩ : v = u ∧ 0 ≤ u ∧ u ≤ 62914560 := h
    show (if x < v then x else v) = (if x < v then x else v) ∧ 0 ≤ v ∧ v ≤ 62914560 ∧ 0 ≤ (if x < v then x else v) ∧ (if x < v then x else v) ≤ 62914560
    refine ⟨rfl, h2, h3, ?_⟩
    split <;> omega
theorem more_bd (p q : Int) (hp : 0 ≤ p ∧ p ≤ 107136) (hq : 0 ≤ q ∧ q ≤ 107136) : 0 ≤ more p q ∧ more p q ≤ 107136 := by unfold more; split <;> omega
theorem Has.far4 {w : World} {b : Nat} {t : TypeId} {cs : Array Value} (h : Has w b t cs) {c : Nat} (hp : b ≠ c) (x0 x1 x2 x3 : Value) :
    Has ((((w.setCell ⟨c, 0, none⟩ x0).setCell ⟨c, 1, none⟩ x1).setCell ⟨c, 2, none⟩ x2).setCell ⟨c, 3, none⟩ x3) b t cs :=
  (((h.far (p := ⟨c, 0, none⟩) hp x0).far (p := ⟨c, 1, none⟩) hp x1).far (p := ⟨c, 2, none⟩) hp x2).far (p := ⟨c, 3, none⟩) hp x3
theorem Kept.put4 {T : List Nat} {w W : World} (h : Kept T w W) {c : Nat} (hc : c ∈ T ∨ w.heap.size ≤ c) (x0 x1 x2 x3 : Value) :
    Kept T w ((((W.setCell ⟨c, 0, none⟩ x0).setCell ⟨c, 1, none⟩ x1).setCell ⟨c, 2, none⟩ x2).setCell ⟨c, 3, none⟩ x3) :=
  (((h.setCell (p := ⟨c, 0, none⟩) hc x0).setCell (p := ⟨c, 1, none⟩) hc x1).setCell (p := ⟨c, 2, none⟩) hc x2).setCell (p := ⟨c, 3, none⟩) hc x3
set_option maxHeartbeats 2000000 in
theorem push_any (b : Nat) (s : St) (n x d : Int) (w : World) (hF : Fil w b s n) (hn : 0 ≤ n ∧ n < 4611686018427387904) :
    Calls Try.prog 44 #[.pointer (some ⟨b, 0, none⟩), .int .i64 x, .int .i64 d] w fun e w' =>
      e = .returned (.tuple #[pkV (stepT s n x d).1, .bool (stepT s n x d).1.isSome]) ∧ Fil w' b (stepT s n x d).2 (n + 1) ∧ Kept [b] w w' := by
  obtain ⟨v, hH, hO⟩ := hF
  have hlt := hH.lt
  have cx := fun W => clamp_any x 0 62914560 W
  have cd := fun W => clamp_any d (-107136) 107136 W
  rw [near_clamp] at cd
  have hxb := sumW_bd x
  have hdb := nearTo_bd 107136 d (by omega)
  have hdd := distD_bd d
  unfold sumW at hxb
  unfold distD at hdd
  have hR0 := Has.new w 84 #[.int .i64 0, .int .i64 0, .int .i64 0, .int .i64 0]
  have hK0 := (Kept.refl [b] w).alloc (.cells #[.int .i64 0, .int .i64 0, .int .i64 0, .int .i64 0] 84)
  have hH0 := hH.alloc (.cells #[.int .i64 0, .int .i64 0, .int .i64 0, .int .i64 0] 84)
  generalize hW0 : w.alloc (.cells #[.int .i64 0, .int .i64 0, .int .i64 0, .int .i64 0] 84) = W0 at *
  have hR1 := hR0.far (p := ⟨b, 5, none⟩) (by simp; omega) (.int .i64 (n + 1))
  have hK1 := hK0.setCell (p := ⟨b, 5, none⟩) (.inl (by simp)) (.int .i64 (n + 1))
  have c5 : W0.cell? ⟨b, 5, none⟩ = some (.int .i64 n) := by
    have h9 := hH0.cell 5
    cases s <;> exact h9
  have f5 := hH0.frozen 5
  cases s with
  | falls o =>
    have hH1 : Has (W0.setCell ⟨b, 5, none⟩ (.int .i64 (n + 1))) b 107 #[.int .i64 0, .int .i64 0, .int .i64 0, .int .i64 v, .bool false, .int .i64 (n + 1)] := by
      have h9 := hH0.set_ 5 (.int .i64 (n + 1))
      simpa [cellsT] using h9
    obtain ⟨hv1, hv2, hv3, hv4, hv5⟩ := valley_cell o v _ hO hxb
    have hfa := fall_k b v (n + 1) n _ _ _ hH1 ⟨hv2, hv3⟩ hxb hdb hdd.1
    rw [hv1] at hfa
    have c4 := hH1.cell 4
    have hst : ∃ s', stepT (.falls o) n x d = (none, s') ∧ (∀ W, Has W b 107 (if 2 * valley o (clampZ x 0 62914560) + 64 < clampZ x 0 62914560 then #[.int .i64 n, .int .i64 (clampZ x 0 62914560), .int .i64 (Slope.distT (nearTo 107136 d)), .int .i64 (valley o (clampZ x 0 62914560)), .bool true, .int .i64 (n + 1)]
        else #[.int .i64 0, .int .i64 0, .int .i64 0, .int .i64 (valley o (clampZ x 0 62914560)), .bool false, .int .i64 (n + 1)]) → Fil W b s' (n + 1)) := by
      unfold stepT
      simp only
      unfold sumW distD
      by_cases hr : 2 * valley o (clampZ x 0 62914560) + 64 < clampZ x 0 62914560
      · rw [if_pos hr, if_pos hr]
        exact ⟨_, rfl, fun W h => ⟨_, h, by unfold fits64; omega, by omega, by omega, by omega, by omega⟩⟩
      · rw [if_neg hr, if_neg hr]
        exact ⟨_, rfl, fun W h => ⟨_, h, rfl, by omega, by omega⟩⟩
    obtain ⟨s', hst1, hst2⟩ := hst
    rw [hst1]
    clear hst1 hv1 hv4 hv5 hO
    generalize valley o (clampZ x 0 62914560) = u at *
    generalize clampZ x 0 62914560 = X at *
    generalize nearTo 107136 d = D at *
    go_enter Try.func44, Try.ntmps44
    go_wp2_with (first
      | (go_at_call 43; first | ((with_reducible refine (cx _).mono ?_); rintro e w1 ⟨rfl, rfl⟩) | ((with_reducible refine (cd _).mono ?_); rintro e w1 ⟨rfl, rfl⟩))
      | (go_at_call 57; ((refine Calls.mono (by exact hfa) ?_); rintro e w2 ⟨rfl, hH2, hK2⟩; have hR2 := hK2.has hR1 (by simp; omega); have q0 := hR2.cell 0; have q1 := hR2.cell 1; have q2 := hR2.cell 2; have q3 := hR2.cell 3; have g0 := hR2.frozen 0; have g1 := hR2.frozen 1; have g2 := hR2.frozen 2; have g3 := hR2.frozen 3)))
    have hR9 := Has.put4 hR2 (.int .i64 0) (.int .i64 0) (.int .i64 0) (.int .i64 0)
    have p0 := hR9.cell 0
    have p1 := hR9.cell 1
    have p2 := hR9.cell 2
    have p3 := hR9.cell 3
    exact bodyPost_ret (v := .tuple #[pkV none, .bool false]) (by simp [results, Try.results44, go_sem, p0, p1, p2, p3, pkV, nums]) rfl ⟨rfl, hst2 _ (Has.far4 hH2 (by omega) _ _ _ _), Kept.put4 (hK1.trans hK2) (.inr (Nat.le_refl _)) _ _ _ _⟩
  | rises t a p =>
    have hH1 : Has (W0.setCell ⟨b, 5, none⟩ (.int .i64 (n + 1))) b 107 #[.int .i64 a, .int .i64 t, .int .i64 p, .int .i64 v, .bool true, .int .i64 (n + 1)] := by
      have h9 := hH0.set_ 5 (.int .i64 (n + 1))
      simpa [cellsT] using h9
    obtain ⟨ha, ht1, ht2, hp1, hp2⟩ := hO
    have hcl := climb_k b a t p v true (n + 1) n (clampZ x 0 62914560) (nearTo 107136 d) _ hH1 ⟨hp1, hp2⟩ hdb
    have hqb := more_bd p _ ⟨hp1, hp2⟩ hdd
    have c4 := hH1.cell 4
    unfold stepT
    simp only
    unfold sumW distD
    generalize more p (Slope.distT (nearTo 107136 d)) = q at *
    generalize clampZ x 0 62914560 = X at *
    generalize nearTo 107136 d = D at *
    have hfits : fits64 n := by unfold fits64; omega
    by_cases h1 : t < X
    · rw [if_pos h1]
      rw [if_pos h1, if_pos h1] at hcl
      go_enter Try.func44, Try.ntmps44
      go_wp2_with (first
        | (go_at_call 43; first | ((with_reducible refine (cx _).mono ?_); rintro e w1 ⟨rfl, rfl⟩) | ((with_reducible refine (cd _).mono ?_); rintro e w1 ⟨rfl, rfl⟩))
        | (go_at_call 58; ((refine Calls.mono (by exact hcl) ?_); rintro e w2 ⟨rfl, hH2, hK2⟩; have d1 := hH2.cell 1; have hR2 := hK2.has hR1 (by simp; omega); have q0 := hR2.cell 0; have q1 := hR2.cell 1; have q2 := hR2.cell 2; have q3 := hR2.cell 3; have g0 := hR2.frozen 0; have g1 := hR2.frozen 1; have g2 := hR2.frozen 2; have g3 := hR2.frozen 3)))
      have hR9 := Has.put4 hR2 (.int .i64 0) (.int .i64 0) (.int .i64 0) (.int .i64 0)
      have p0 := hR9.cell 0
      have p1 := hR9.cell 1
      have p2 := hR9.cell 2
      have p3 := hR9.cell 3
      exact bodyPost_ret (v := .tuple #[pkV none, .bool false]) (by simp [results, Try.results44, go_sem, p0, p1, p2, p3, pkV, nums]) rfl ⟨rfl, ⟨v, Has.far4 hH2 (by omega) _ _ _ _, hfits, by omega, by omega, hqb.1, hqb.2⟩, Kept.put4 (hK1.trans hK2) (.inr (Nat.le_refl _)) _ _ _ _⟩
    · rw [if_neg h1]
      rw [if_neg h1, if_neg h1] at hcl
      by_cases h2 : 2 * X < t
      · rw [if_pos h2]
        go_enter Try.func44, Try.ntmps44
        go_wp2_with (first
          | (go_at_call 43; first | ((with_reducible refine (cx _).mono ?_); rintro e w1 ⟨rfl, rfl⟩) | ((with_reducible refine (cd _).mono ?_); rintro e w1 ⟨rfl, rfl⟩))
          | (go_at_call 58; ((refine Calls.mono (by exact hcl) ?_); rintro e w2 ⟨rfl, hH2, hK2⟩; have d1 := hH2.cell 1; have hR2 := hK2.has hR1 (by simp; omega); have hse := seen_k b a t q v true (n + 1) n w2 hH2))
          | (go_at_call 59; ((with_reducible refine hse.mono ?_); rintro e w3 ⟨rfl, hB3⟩; have hH3 := (hH2.below hB3 hH2.lt).alloc (.cells #[.int .i64 a, .int .i64 n, .int .i64 t, .int .i64 q] 84); have hR3 := (hR2.below hB3 hR2.lt).alloc (.cells #[.int .i64 a, .int .i64 n, .int .i64 t, .int .i64 q] 84); have hL3 := Has.new w3 84 #[.int .i64 a, .int .i64 n, .int .i64 t, .int .i64 q]; have hb3 := hH2.lt; have hs3 := hB3.size; have htu := turn_k b a t q v true (n + 1) X _ hH3))
          | (go_at_call 60; ((refine Calls.mono (by exact htu) ?_); rintro e w4 ⟨rfl, hH4, hK4⟩; have hL4 := hK4.has hL3 (by simp; omega); have hR4 := hK4.has hR3 (by simp; omega); have l0 := hL4.cell 0; have l1 := hL4.cell 1; have l2 := hL4.cell 2; have l3 := hL4.cell 3; have q0 := hR4.cell 0; have q1 := hR4.cell 1; have q2 := hR4.cell 2; have q3 := hR4.cell 3; have g0 := hR4.frozen 0; have g1 := hR4.frozen 1; have g2 := hR4.frozen 2; have g3 := hR4.frozen 3)))
        have hR9 := Has.put4 hR4 (.int .i64 a) (.int .i64 n) (.int .i64 t) (.int .i64 q)
        have p0 := hR9.cell 0
        have p1 := hR9.cell 1
        have p2 := hR9.cell 2
        have p3 := hR9.cell 3
        refine bodyPost_ret (v := .tuple #[pkV (some (a, n, t, q)), .bool true]) (by simp [results, Try.results44, go_sem, p0, p1, p2, p3, pkV, nums]) rfl ⟨rfl, ⟨X, Has.far4 hH4 (by omega) _ _ _ _, rfl, by omega, by omega⟩, Kept.put4 ?_ (.inr (Nat.le_refl _)) _ _ _ _⟩
        exact ((hK1.trans hK2).trans ((Kept.of_below (S := [b]) hB3).alloc _)).trans hK4
      · rw [if_neg h2]
        go_enter Try.func44, Try.ntmps44
        go_wp2_with (first
          | (go_at_call 43; first | ((with_reducible refine (cx _).mono ?_); rintro e w1 ⟨rfl, rfl⟩) | ((with_reducible refine (cd _).mono ?_); rintro e w1 ⟨rfl, rfl⟩))
          | (go_at_call 58; ((refine Calls.mono (by exact hcl) ?_); rintro e w2 ⟨rfl, hH2, hK2⟩; have d1 := hH2.cell 1; have hR2 := hK2.has hR1 (by simp; omega); have q0 := hR2.cell 0; have q1 := hR2.cell 1; have q2 := hR2.cell 2; have q3 := hR2.cell 3; have g0 := hR2.frozen 0; have g1 := hR2.frozen 1; have g2 := hR2.frozen 2; have g3 := hR2.frozen 3)))
        have hR9 := Has.put4 hR2 (.int .i64 0) (.int .i64 0) (.int .i64 0) (.int .i64 0)
        have p0 := hR9.cell 0
        have p1 := hR9.cell 1
        have p2 := hR9.cell 2
        have p3 := hR9.cell 3
        exact bodyPost_ret (v := .tuple #[pkV none, .bool false]) (by simp [results, Try.results44, go_sem, p0, p1, p2, p3, pkV, nums]) rfl ⟨rfl, ⟨v, Has.far4 hH2 (by omega) _ _ _ _, ha, ht1, ht2, hqb.1, hqb.2⟩, Kept.put4 (hK1.trans hK2) (.inr (Nat.le_refl _)) _ _ _ _⟩
theorem reset_any (b : Nat) (s : St) (n : Int) (w : World) (hF : Fil w b s n) :
    Calls Try.prog 55 #[.pointer (some ⟨b, 0, none⟩)] w fun e w' => e = .returned (.tuple #[]) ∧ Fil w' b (.falls none) 0 ∧ Kept [b] w w' := by
  obtain ⟨v, hH, hO⟩ := hF
  obtain ⟨a, t, p, r, hc⟩ : ∃ a t p r, cellsT s v n = #[.int .i64 a, .int .i64 t, .int .i64 p, .int .i64 v, .bool r, .int .i64 n] := by
    cases s
    · exact ⟨_, _, _, _, rfl⟩
    · exact ⟨_, _, _, _, rfl⟩
  rw [hc] at hH
  have h1 : Has (w.setCell ⟨b, 5, none⟩ (.int .i64 0)) b 107 #[.int .i64 a, .int .i64 t, .int .i64 p, .int .i64 v, .bool r, .int .i64 0] := by
    have h9 := hH.set_ 5 (.int .i64 0)
    simpa using h9
  have k1 := (Kept.refl [b] w).setCell (p := ⟨b, 5, none⟩) (.inl (by simp)) (.int .i64 0)
  have c5 := hH.cell 5
  have f5 := hH.frozen 5
  have htu := turn_k b a t p v r 0 62914560 _ h1
  clear hc hO
  go_enter Try.func55, Try.ntmps55
  go_wp2_with (go_at_call 60; ((refine Calls.mono (by exact htu) ?_); rintro e w2 ⟨rfl, hH2, hK2⟩))
  go_end0
  exact ⟨rfl, ⟨62914560, hH2, rfl⟩, k1.trans hK2⟩
theorem new_any (w : World) :
    Calls Try.prog 40 #[] w fun e w' => ∃ b, e = .returned (.pointer (some ⟨b, 0, none⟩)) ∧ Fil w' b (.falls none) 0 ∧ w.heap.size ≤ b ∧ Below w.heap.size w w' := by
  have h1 := Has.new w 107 #[.int .i64 0, .int .i64 0, .int .i64 0, .int .i64 0, .bool false, .int .i64 0]
  have hB := (Below.refl w.heap.size w).alloc (Nat.le_refl _) (.cells #[.int .i64 0, .int .i64 0, .int .i64 0, .int .i64 0, .bool false, .int .i64 0] 107)
  have hr := reset_any w.heap.size (.falls (some 0)) 0 _ ⟨0, h1, rfl, by omega, by omega⟩
  go_enter Try.func40, Try.ntmps40
  go_wp2_with (go_at_call 55; ((refine Calls.mono (by exact hr) ?_); rintro e w2 ⟨rfl, hF2, hK2⟩))
  go_ret
  exact ⟨_, rfl, hF2, Nat.le_refl _, below_kept hB hK2 hB.size (by simp)⟩
theorem steps_any (b : Nat) (s : St) (n : Int) (w : World) (hF : Fil w b s n) :
    Calls Try.prog 42 #[.pointer (some ⟨b, 0, none⟩)] w fun e w' => e = .returned (.int .i64 n) ∧ w = w' := by
  obtain ⟨v, hH, hO⟩ := hF
  have c5 : w.cell? ⟨b, 5, none⟩ = some (.int .i64 n) := by
    have h9 := hH.cell 5
    cases s <;> exact h9
  clear hO hH
  go_enter Try.func42, Try.ntmps42
  go_wp2
  go_ret
  exact ⟨rfl, rfl⟩
theorem no_push (x d : Int) (w : World) : Calls Try.prog 44 #[.pointer none, .int .i64 x, .int .i64 d] w fun e w' => e = .returned (.tuple #[pkV none, .bool false]) ∧ Below w.heap.size w w' := by
  go_enter Try.func44, Try.ntmps44
  go_wp2
  refine bodyPost_ret (v := .tuple #[pkV none, .bool false]) (by simp [results, Try.results44, go_sem, pkV, nums]) rfl ⟨rfl, (Below.refl _ w).alloc (Nat.le_refl _) _⟩
theorem no_reset (w : World) : Calls Try.prog 55 #[.pointer none] w fun e w' => e = .returned (.tuple #[]) ∧ w = w' := by
  go_enter Try.func55, Try.ntmps55
  go_wp2
  exact bodyPost_ret (results_none rfl _ _ _) rfl ⟨rfl, rfl⟩
theorem no_steps (w : World) : Calls Try.prog 42 #[.pointer none] w fun e w' => e = .returned (.int .i64 0) ∧ w = w' := by
  go_enter Try.func42, Try.ntmps42
  go_wp2
  go_ret
  exact ⟨rfl, rfl⟩
end Go.Proofs.Ytnoppoimahfknaa.Peak
end
section
/- Peaks as they lie, == and != on them, and the reference's Same. -/
set_option linter.unusedSimpArgs false
set_option linter.unusedVariables false
namespace Go.Proofs.Ytnoppoimahfknaa.Peak
open Go.RowKit
def peakS : Row.Shape Pk := ⟨4, fun v => [.int .i64 v.1, .int .i64 v.2.1, .int .i64 v.2.2.1, .int .i64 v.2.2.2], fun _ => rfl, by decide, fun p u hu => by
  simp at hu
  rcases hu with rfl | rfl | rfl | rfl <;> rfl⟩
/-- No peak. -/
def noPk : Pk := (0, 0, 0, 0)
/-- A cell of an element behind its first. -/
theorem part_at {α : Type} {S : Row.Shape α} {w : World} {x : Addr} {len : Nat} {ys : List α} (h : Row.Vals S w (some x) len ys) (i m : Nat) (hi : i < ys.length) (u : Value) (hu : (S.enc ys[i])[m]? = some u) (h0 : m ≠ 0) :
    w.cell? ⟨(x.add (i * S.k)).block, (x.add (i * S.k)).off + m, none⟩ = some u := by
  have h1 := h.at_ i m hi u hu
  rwa [show x.add (i * S.k + m) = ⟨(x.add (i * S.k)).block, (x.add (i * S.k)).off + m, none⟩ by
    unfold Addr.add
    by_cases h2 : i * S.k = 0 <;> simp [h2, h0, Nat.add_assoc]] at h1
theorem peak_cells {w : World} {x : Addr} {len : Nat} {ys : List Pk} (h : Row.Vals peakS w (some x) len ys) (i : Nat) (hi : i < len) :
    w.cell? (x.add (i * 4)) = some (.int .i64 (ys.getD i noPk).1) ∧ w.cell? ⟨(x.add (i * 4)).block, (x.add (i * 4)).off + 1, none⟩ = some (.int .i64 (ys.getD i noPk).2.1) ∧
    w.cell? ⟨(x.add (i * 4)).block, (x.add (i * 4)).off + 2, none⟩ = some (.int .i64 (ys.getD i noPk).2.2.1) ∧ w.cell? ⟨(x.add (i * 4)).block, (x.add (i * 4)).off + 3, none⟩ = some (.int .i64 (ys.getD i noPk).2.2.2) := by
  have hl := h.len_
  have e : ys.getD i noPk = ys[i]'(by omega) := by rw [List.getD_eq_getElem?_getD, List.getElem?_eq_getElem (by omega)]; rfl
  rw [e]
  exact ⟨by simpa [peakS] using h.at_ i 0 (by omega) _ rfl, part_at h i 1 (by omega) _ rfl (by omega), part_at h i 2 (by omega) _ rfl (by omega), part_at h i 3 (by omega) _ rfl (by omega)⟩
theorem neq_peak (W : World) (a b c d a' b' c' d' : Int) : (binOp .neq 84 (.agg #[.int .i64 a, .int .i64 b, .int .i64 c, .int .i64 d]) (.agg #[.int .i64 a', .int .i64 b', .int .i64 c', .int .i64 d'])).run Try.prog W = .ok (.bool (!decide (a = a' ∧ b = b' ∧ c = c' ∧ d = d'))) W := by
  have ht : Try.prog.underlying 84 = some (.struct (Try.prog.fieldsOf 84)) := by kernel_rfl
  have hst : Try.prog.stoodInHeld 84 = false := by kernel_rfl
  rw [run_neq_struct, run_equalIn_agg W 9999 84 _ _ ht hst]
  simp only [Program.fieldsOf, Try.underlying84]
  simp [go_sem, Op.eqFields]
  by_cases h1 : a = a' <;> by_cases h2 : b = b' <;> by_cases h3 : c = c' <;> by_cases h4 : d = d' <;> simp [h1, h2, h3, h4]
theorem guard_neq (W : World) (x y : Operand) (a b c d a' b' c' d' : Int) : (eqGuard .neq 84 x y (.agg #[.int .i64 a, .int .i64 b, .int .i64 c, .int .i64 d]) (.agg #[.int .i64 a', .int .i64 b', .int .i64 c', .int .i64 d'])).run Try.prog W = .ok () W := run_eqGuard_agg W _ _ _ _ _ _ (by kernel_rfl)
end Go.Proofs.Ytnoppoimahfknaa.Peak
end
section
/- What the landed level's calls on numbers and levels answer. -/
set_option linter.unusedSimpArgs false
set_option linter.unusedVariables false
namespace Go.Proofs.Ytnoppoimahfknaa.Level
open Go.RowKit RI64
/-- Two cells of a level's block, as a block. -/
theorem eql_lv (W : World) (a b a' b' : Int) : (binOp .eql 33 (.agg #[.int .i64 a, .int .i64 b]) (.agg #[.int .i64 a', .int .i64 b'])).run Try.prog W = .ok (.bool (decide (a = a' ∧ b = b'))) W := by
  have ht : Try.prog.underlying 33 = some (.struct (Try.prog.fieldsOf 33)) := by kernel_rfl
  have hst : Try.prog.stoodInHeld 33 = false := by kernel_rfl
  rw [run_eql_struct, run_equalIn_agg W 9999 33 _ _ ht hst]
  simp only [Program.fieldsOf, Try.underlying33]
  simp [go_sem, Op.eqFields]
  by_cases h1 : a = a' <;> by_cases h2 : b = b' <;> simp [h1, h2]
theorem guard_eql (W : World) (x y : Operand) (a b a' b' : Int) : (eqGuard .eql 33 x y (.agg #[.int .i64 a, .int .i64 b]) (.agg #[.int .i64 a', .int .i64 b'])).run Try.prog W = .ok () W := run_eqGuard_agg W _ _ _ _ _ _ (by kernel_rfl)
theorem counted_any (n : Int) (w : World) : Calls Try.prog 76 #[.int .i64 n] w fun e w' => e = .returned (.int .i64 (nearB n)) ∧ w = w' := by
  unfold nearB
  go_enter Try.func76, Try.ntmps76
  go_wp2_with (go_at_call 43; ((with_reducible refine (clamp_any _ _ _ _).mono ?_); rintro e w' ⟨rfl, rfl⟩))
  go_ret
  exact ⟨rfl, rfl⟩
theorem towards_8 (a b : Int) (w : World) (ha : 0 ≤ a ∧ a ≤ 62914560) (hb : 0 ≤ b ∧ b ≤ 62914560) :
    Calls Try.prog 79 #[.int .i64 a, .int .i64 b, .int .i64 3] w fun e w' => e = .returned (.int .i64 (goes a b 8)) ∧ w = w' := by
  have hg := goes_bd a b 8 (.inl rfl) ha hb
  have hs := fun W => shift_any (b - a) 3 W (by omega)
  rw [show (2 : Int) ^ min (Int.toNat 3) 64 = 8 from rfl] at hs
  have hd : -62914560 ≤ b - a ∧ b - a ≤ 62914560 := by omega
  unfold goes at hg ⊢
  clear ha hb
  generalize hq : (b - a) / 8 = q at *
  clear hq
  go_enter Try.func79, Try.ntmps79
  go_wp2_with (go_at_call 82; ((refine Calls.mono (by exact hs _) ?_); rintro e w' ⟨rfl, rfl⟩))
  go_ret
  exact ⟨rfl, rfl⟩
theorem towards_4 (a b : Int) (w : World) (ha : 0 ≤ a ∧ a ≤ 62914560) (hb : 0 ≤ b ∧ b ≤ 62914560) :
    Calls Try.prog 79 #[.int .i64 a, .int .i64 b, .int .i64 2] w fun e w' => e = .returned (.int .i64 (goes a b 4)) ∧ w = w' := by
  have hg := goes_bd a b 4 (.inr rfl) ha hb
  have hs := fun W => shift_any (b - a) 2 W (by omega)
  rw [show (2 : Int) ^ min (Int.toNat 2) 64 = 4 from rfl] at hs
  have hd : -62914560 ≤ b - a ∧ b - a ≤ 62914560 := by omega
  unfold goes at hg ⊢
  clear ha hb
  generalize hq : (b - a) / 4 = q at *
  clear hq
  go_enter Try.func79, Try.ntmps79
  go_wp2_with (go_at_call 82; ((refine Calls.mono (by exact hs _) ?_); rintro e w' ⟨rfl, rfl⟩))
  go_ret
  exact ⟨rfl, rfl⟩
theorem as_counted (a b : Int) (w : World) : Calls Try.prog 78 #[.agg #[.int .i64 a, .int .i64 b]] w fun e w' => e = .returned (.agg #[.int .i64 (nearB a), .int .i64 (nearB b)]) ∧ Below w.heap.size w w' := by
  go_enter Try.func78, Try.ntmps78
  go_wp2
  have hB0 := (Below.refl w.heap.size w).alloc (Nat.le_refl _) (.cells #[.int .i64 a, .int .i64 b] 33)
  have hH0 := Has.new w 33 #[.int .i64 a, .int .i64 b]
  have hB1 := hB0.alloc hB0.size (.cells #[.int .i64 0, .int .i64 0] 33)
  have hH1 := hH0.alloc (.cells #[.int .i64 0, .int .i64 0] 33)
  have hR1 : Has ((w.alloc (.cells #[.int .i64 a, .int .i64 b] 33)).alloc (.cells #[.int .i64 0, .int .i64 0] 33)) (w.heap.size + 1) 33 #[.int .i64 0, .int .i64 0] := by
    have h9 := Has.new (w.alloc (.cells #[.int .i64 a, .int .i64 b] 33)) 33 #[.int .i64 0, .int .i64 0]
    rwa [show (w.alloc (.cells #[.int .i64 a, .int .i64 b] 33)).heap.size = w.heap.size + 1 by simp] at h9
  generalize (w.alloc (.cells #[.int .i64 a, .int .i64 b] 33)).alloc (.cells #[.int .i64 0, .int .i64 0] 33) = W0 at *
  clear hB0 hH0
  have hHd := hH1.drew
  have hRd := hR1.drew
  have hBd : Below w.heap.size w W0.drew := below_drewN hB1 1
  have c0 := hHd.cell 0
  have c1 := hHd.cell 1
  refine Reg.begin_ (S := fun W => W.cell? ⟨w.heap.size, 0, none⟩ = some (.int .i64 a) ∧ W.cell? ⟨w.heap.size, 1, none⟩ = some (.int .i64 b)) (by kernel_rfl) (by exact ⟨c0, c1⟩) (fun hHeld => ?_)
  refine Reg.take (i := 0) (v := ?v1) rfl (by kernel_rfl) (by kernel_rfl) (by kernel_rfl) (by rfl) ?hv1 (by assumption) ?rest1
  case hv1 => first | (intro w hSw; (try dsimp only at hSw); go_simp; done) | (intro w hSw; (try dsimp only at hSw); go_simp; with_reducible rfl)
  (try simp only [Act.put, List.setIfInBounds_toArray, List.set_cons_zero, List.set_cons_succ])
  refine Reg.take (i := 1) (v := ?v2) rfl (by kernel_rfl) (by kernel_rfl) (by kernel_rfl) (by rfl) ?hv2 (by assumption) ?rest2
  case hv2 => first | (intro w hSw; (try dsimp only at hSw); go_simp; done) | (intro w hSw; (try dsimp only at hSw); go_simp; with_reducible rfl)
  (try simp only [Act.put, List.setIfInBounds_toArray, List.set_cons_zero, List.set_cons_succ])
  refine Reg.take (i := 3) (v := ?v3) rfl (by kernel_rfl) (by kernel_rfl) (by kernel_rfl) (by rfl) ?hv3 (by assumption) ?rest3
  case hv3 => first | (intro w hSw; (try dsimp only at hSw); go_simp; done) | (intro w hSw; (try dsimp only at hSw); go_simp; with_reducible rfl)
  (try simp only [Act.put, List.setIfInBounds_toArray, List.set_cons_zero, List.set_cons_succ])
  refine Reg.take (i := 4) (v := ?v4) rfl (by kernel_rfl) (by kernel_rfl) (by kernel_rfl) (by rfl) ?hv4 (by assumption) ?rest4
  case hv4 => first | (intro w hSw; (try dsimp only at hSw); go_simp; done) | (intro w hSw; (try dsimp only at hSw); go_simp; with_reducible rfl)
  (try simp only [Act.put, List.setIfInBounds_toArray, List.set_cons_zero, List.set_cons_succ])
  clear hHeld hH1 hR1 hB1
  generalize W0.drew = W1 at *
  have q0 := hRd.cell 0
  have q1 := hRd.cell 1
  have g0 := hRd.frozen 0
  have g1 := hRd.frozen 1
  have hR9 := Has.put2 hRd (.int .i64 (nearB a)) (.int .i64 (nearB b))
  have hH9 := Has.far2 hHd (c := w.heap.size + 1) (by omega) (.int .i64 (nearB a)) (.int .i64 (nearB b))
  have hB9 := below_put2 hBd (c := w.heap.size + 1) (by omega) (.int .i64 (nearB a)) (.int .i64 (nearB b))
  have r0 := hR9.cell 0
  have r1 := hR9.cell 1
  have d0 := hH9.cell 0
  have d1 := hH9.cell 1
  refine Reg.call (i := 2) rfl (by kernel_rfl) (by rfl) ?_
  intro K hK
  go_simp
  go_at_call 76
  (with_reducible refine (counted_any _ _).mono ?_)
  rintro e w1 ⟨rfl, rfl⟩
  refine hK.out _ _ (by exact ⟨c0, c1⟩) (fun hHeld => ?_)
  clear hK K
  (try simp only [Act.put, List.setIfInBounds_toArray, List.set_cons_zero, List.set_cons_succ])
  refine Reg.call (i := 5) rfl (by kernel_rfl) (by rfl) ?_
  intro K hK
  go_simp
  go_at_call 76
  (with_reducible refine (counted_any _ _).mono ?_)
  rintro e w1 ⟨rfl, rfl⟩
  refine hK.out _ _ (by exact ⟨c0, c1⟩) (fun hHeld => ?_)
  clear hK K
  (try simp only [Act.put, List.setIfInBounds_toArray, List.set_cons_zero, List.set_cons_succ])
  refine Reg.take (i := 6) (v := ?v5) rfl (by kernel_rfl) (by kernel_rfl) (by kernel_rfl) (by rfl) ?hv5 (by assumption) ?rest5
  case hv5 => first | (intro w hSw; (try dsimp only at hSw); go_simp; done) | (intro w hSw; (try dsimp only at hSw); go_simp; with_reducible rfl)
  (try simp only [Act.put, List.setIfInBounds_toArray, List.set_cons_zero, List.set_cons_succ])
  refine Reg.call (i := 7) rfl (by kernel_rfl) (by rfl) ?_
  intro K hK
  go_simp
  refine hK.out _ _ (by exact ⟨d0, d1⟩) (fun hHeld => ?_)
  clear hK K
  (try simp only [Act.put, List.setIfInBounds_toArray, List.set_cons_zero, List.set_cons_succ])
  refine Reg.done (by kernel_rfl) ?_ _
  go_wp2
  refine bodyPost_ret (v := .agg #[.int .i64 (nearB a), .int .i64 (nearB b)]) (by simp [results, Try.results78, go_sem, r0, r1]) rfl ⟨rfl, hB9⟩
end Go.Proofs.Ytnoppoimahfknaa.Level
end
section
/- A delay line: what its memory holds, and what its calls answer and do. -/
set_option linter.unusedSimpArgs false
set_option linter.unusedVariables false
namespace Go.Proofs.Ytnoppoimahfknaa
open Go.RowKit RI64

/-- Block x is a line's struct that looks back most steps, over a ring at blocks b and g of n slots; h came, the last value first. -/
structure Line (w : World) (x b g n most : Nat) (h : List Int) : Prop where
  head : Has w x 144 #[.pointer (some ⟨b, 0, none⟩), .int .i64 most]
  ring : ∃ f cs, Ring w b g n n f cs (h.take (most + 1)).reverse
  most_ : most ≤ 1024
  room : most < n
  ne_ : x ≠ b ∧ x ≠ g
section
variable {w w' : World} {x b g n most : Nat} {h : List Int}
theorem Line.lt_ (L : Line w x b g n most h) : x < w.heap.size ∧ b < w.heap.size ∧ g < w.heap.size := by
  obtain ⟨f, cs, hR⟩ := L.ring
  exact ⟨L.head.lt, hR.core.lt_.1, hR.core.lt_.2⟩
theorem Line.cells (L : Line w x b g n most h) : w.cell? ⟨x, 0, none⟩ = some (.pointer (some ⟨b, 0, none⟩)) ∧ w.cell? ⟨x, 1, none⟩ = some (.int .i64 most) := ⟨L.head.cell 0, L.head.cell 1⟩
theorem Line.kept {S : List Nat} (L : Line w x b g n most h) (hk : Kept S w w') (h1 : x ∉ S) (h2 : b ∉ S) (h3 : g ∉ S) : Line w' x b g n most h := by
  obtain ⟨e1, ⟨f, cs, hR⟩, e3, e4, e5⟩ := L
  refine ⟨hk.has e1 h1, ⟨f, cs, ?_⟩, e3, e4, e5⟩
  obtain ⟨⟨h3', ⟨tl, h4⟩, s1, s2, s3, s4, s5⟩, hat⟩ := hR
  exact ⟨⟨hk.has h3' h2, ⟨tl, hk.has h4 h3⟩, s1, s2, s3, s4, s5⟩, hat⟩
theorem Line.same (L : Line w x b g n most h) (e : w'.heap = w.heap) : Line w' x b g n most h := by
  obtain ⟨e1, ⟨f, cs, hR⟩, e3, e4, e5⟩ := L
  exact ⟨by unfold Has at *; rw [e]; exact e1, ⟨f, cs, hR.same e⟩, e3, e4, e5⟩
theorem Line.alloc (L : Line w x b g n most h) (o : Obj) : Line (w.alloc o) x b g n most h := by
  obtain ⟨e1, ⟨f, cs, hR⟩, e3, e4, e5⟩ := L
  exact ⟨e1.alloc o, ⟨f, cs, hR.alloc o⟩, e3, e4, e5⟩
end

/-- The line has these values now; its ring has turned, and no other block that was there. -/
def LineBecame (w : World) (x b g n most : Nat) (h : List Int) (w' : World) : Prop := Line w' x b g n most h ∧ Kept [b, g] w w'

theorem line_new_no (most : Int) (w : World) (h : most < 0 ∨ 1024 < most) :
    Calls Try.prog 74 #[.int .i64 most] w fun e w' => e = .returned (.tuple #[.pointer none, .int .i64 1]) ∧ w = w' := by
  rcases h with h | h
  · go_enter Try.func74, Try.ntmps74
    go_wp2
    go_ret2
    exact ⟨rfl, rfl⟩
  · have h0 : ¬ most < 0 := by omega
    go_enter Try.func74, Try.ntmps74
    go_wp2
    go_ret2
    exact ⟨rfl, rfl⟩
theorem line_new_yes (most : Nat) (w : World) (h : most ≤ 1024) :
    Calls Try.prog 74 #[.int .i64 (most : Int)] w fun e w' => e = .returned (.tuple #[.pointer (some ⟨w.heap.size + 2, 0, none⟩), .int .i64 0]) ∧
      (∃ n, Line w' (w.heap.size + 2) (w.heap.size + 1) w.heap.size n most []) ∧ Below w.heap.size w w' ∧ w'.heap.size = w.heap.size + 3 := by
  have hlen := len_small most w h
  have hw : (most : Int) % 18446744073709551616 = (most : Int) := by omega
  have h0 : ¬ (most : Int) < 0 := by omega
  have h1 : ¬ (1024 : Int) < (most : Int) := by omega
  go_enter Try.func74, Try.ntmps74
  go_wp2_with (first
    | (go_at_call 84; ((with_reducible refine hlen.mono ?_); rintro e w1 ⟨⟨k, rfl, hk, hk11⟩, rfl⟩; have hnew := new_yes k (by omega) w))
    | (go_at_call 83; ((with_reducible refine hnew.mono ?_); rintro e w2 ⟨rfl, hR, hB, hz⟩)))
  go_ret2
  refine ⟨rfl, ⟨2 ^ k, ?_, ⟨0, _, by simpa using hR.alloc _⟩, h, hk, by omega⟩, hB.alloc (by omega) _, by simp [hz]⟩
  have h9 := Has.new w2 144 #[.pointer (some ⟨w.heap.size + 1, 0, none⟩), .int .i64 most]
  rw [hz] at h9
  exact h9

theorem line_ago (x b g n most : Nat) (h : List Int) (k : Int) (w : World) (L : Line w x b g n most h) (hk : k ≤ 9223372036854775807) :
    Calls Try.prog 89 #[.pointer (some ⟨x, 0, none⟩), .int .i64 k] w fun e w' => e = .returned (.int .i64 (agoTo most h k)) ∧ ∃ d, w' = w.drewN d := by
  obtain ⟨c0, c1⟩ := L.cells
  obtain ⟨f, cs, hR⟩ := L.ring
  have hc := hR.core.cells.2.2
  have hm := L.most_
  have hkl := kept_len most h
  by_cases h1 : k < 0 ∨ ((h.take (most + 1)).reverse.length : Int) ≤ k
  · have hb := back_no b _ k w h1 hk (by omega) hc
    rw [kept_far most h k h1]
    go_enter Try.func89, Try.ntmps89
    go_wp2_with (go_at_call 91; ((with_reducible refine hb.mono ?_); rintro e w' ⟨rfl, rfl⟩))
    go_ret
    exact ⟨rfl, 0, rfl⟩
  · obtain ⟨j, rfl⟩ : ∃ j : Nat, k = (j : Int) := ⟨k.toNat, by omega⟩
    have hj : j < (h.take (most + 1)).reverse.length := by omega
    have hb := back_yes b g n n f cs _ j w hR hj
    rw [kept_back most h j hj] at hb
    generalize agoTo most h j = v at *
    go_enter Try.func89, Try.ntmps89
    go_wp2_with (go_at_call 91; ((with_reducible refine hb.mono ?_); rintro e w' ⟨rfl, d, rfl⟩))
    go_ret
    exact ⟨rfl, d, rfl⟩

theorem line_come (x b g n most : Nat) (h : List Int) (v : Int) (w : World) (L : Line w x b g n most h) :
    Calls Try.prog 90 #[.pointer (some ⟨x, 0, none⟩), .int .i64 v] w fun e w' => e = .returned (.tuple #[]) ∧ LineBecame w x b g n most (v :: h) w' := by
  obtain ⟨c0, c1⟩ := L.cells
  obtain ⟨f, cs, hR⟩ := L.ring
  have hc := hR.core.cells.2.2
  have hm := L.most_
  have hn := L.room
  have hne := L.ne_
  have hl := L.lt_
  have hkl := kept_len most h
  have hpu := kept_push most h v
  have hlen := fun W (hW : Ring W b g n n f cs (h.take (most + 1)).reverse) => len_q b g n n f cs _ _ W hW rfl
  have put : ∀ W A f cs zs, A = W.heap.size → Ring W b g n n f cs zs → zs.length < n → Calls Try.prog 94 #[.pointer (some ⟨b, 0, none⟩), .slice (some ⟨A, 0, none⟩) 1 1] (W.alloc (.cells #[.int .i64 v] 2)) fun e w' => e = .returned (.int .i64 1) ∧
      ∃ f' cs', Ring w' b g n n f' cs' (zs ++ [v]) ∧ Turned b g W w' := fun W A f cs zs hA hW hz => by
    subst hA
    have hl := hW.core.lt_
    have hp := put_any b g n n f cs zs (some ⟨W.heap.size, 0, none⟩) 1 1 [v] _ (hW.alloc (.cells #[.int .i64 v] 2)) (Vals.has (ys := [v]) (tl := []) (Has.new W _ _)) (by omega) (by omega) (fun _ x hx => by cases hx; simp; omega)
    rw [show min 1 (n - zs.length) = 1 by omega, show zs ++ [v].take (n - zs.length) = zs ++ [v] by rw [List.take_of_length_le (by simp; omega)]] at hp
    refine hp.mono ?_
    rintro e w' ⟨rfl, cs', hR, hT⟩
    exact ⟨rfl, f, cs', hR, ((Turned.refl b g W).alloc _).trans hT⟩
  generalize hxs : (h.take (most + 1)).reverse = xs at *
  by_cases hf : most < xs.length
  · rw [if_pos hf] at hpu
    have hpop := fun W (hW : Ring W b g n n f cs xs) => pop_yes b g n n f cs xs W hW (by omega)
    have hdl : (xs.drop 1).length < n := by rw [List.length_drop]; omega
    have HPU := Lib.hid hpu
    clear hpu
    go_enter Try.func90, Try.ntmps90
    go_wp2
    go_quiet ((go_at_call 92; exact Calls.quiet_of (hlen _ (hR.same rfl))))
    go_wp2_with (first
      | (go_at_call 93; ((with_reducible refine (hpop _ (by exact hR.same rfl)).mono ?_); rintro e w1 ⟨rfl, cs1, hR1, hT1⟩; have c0' := (hT1.cell (p := ⟨x, 0, none⟩) hl.1 hne.1 hne.2).trans c0))
      | (go_at_call 94; ((with_reducible refine (put _ _ _ _ _ rfl hR1 hdl).mono ?_); rintro e w2 ⟨rfl, f2, cs2, hR2, hT2⟩)))
    go_end0
    exact ⟨rfl, ⟨(hT2.has (hT1.has L.head hne.1 hne.2) hne.1 hne.2), ⟨f2, cs2, by rw [HPU.out]; exact hR2⟩, hm, hn, hne⟩, Kept.of_turned ((Turned.refl b g w).drewN _ |>.trans hT1 |>.trans hT2)⟩
  · rw [if_neg hf] at hpu
    have hdl : xs.length < n := by omega
    have HPU := Lib.hid hpu
    clear hpu
    go_enter Try.func90, Try.ntmps90
    go_wp2
    go_quiet ((go_at_call 92; exact Calls.quiet_of (hlen _ (hR.same rfl))))
    go_wp2_with (go_at_call 94; ((with_reducible refine (put _ _ _ _ _ (by simp) (by exact hR.same rfl) hdl).mono ?_); rintro e w2 ⟨rfl, f2, cs2, hR2, hT2⟩))
    go_end0
    exact ⟨rfl, ⟨(hT2.has (by exact L.head) hne.1 hne.2), ⟨f2, cs2, by rw [HPU.out]; exact hR2⟩, hm, hn, hne⟩, Kept.of_turned ((Turned.refl b g w).drewN _ |>.trans hT2)⟩
end Go.Proofs.Ytnoppoimahfknaa
end
section
/- A delay line: values in any number, and none any more. -/
set_option linter.unusedSimpArgs false
set_option linter.unusedVariables false
namespace Go.Proofs.Ytnoppoimahfknaa
open Go.RowKit RI64

end Go.Proofs.Ytnoppoimahfknaa
end
section
/- A window of sums: what its memory holds, and what its calls answer and do. -/
set_option linter.unusedSimpArgs false
set_option linter.unusedVariables false
namespace Go.Proofs.Ytnoppoimahfknaa
open Go.RowKit RI64

/-- Block y is a window's struct over a line at x that looks back most steps (so over most + 1 values): its sum is that of the last values, modulo 2^64. -/
structure Window (w : World) (y x b g n most : Nat) (h : List Int) : Prop where
  head : Has w y 129 #[.pointer (some ⟨x, 0, none⟩), .int .i64 (wrap64 (winSum most h))]
  line : Line w x b g n most h
  ne_ : y ≠ x ∧ y ≠ b ∧ y ≠ g
section
variable {w w' : World} {y x b g n most : Nat} {h : List Int}
theorem Window.cells (L : Window w y x b g n most h) : w.cell? ⟨y, 0, none⟩ = some (.pointer (some ⟨x, 0, none⟩)) ∧ w.cell? ⟨y, 1, none⟩ = some (.int .i64 (wrap64 (winSum most h))) ∧ w.frozen? ⟨y, 1, none⟩ = false := ⟨L.head.cell 0, L.head.cell 1, L.head.frozen 1⟩
theorem Window.lt_ (L : Window w y x b g n most h) : y < w.heap.size ∧ x < w.heap.size ∧ b < w.heap.size ∧ g < w.heap.size := ⟨L.head.lt, L.line.lt_⟩
theorem Window.kept {S : List Nat} (L : Window w y x b g n most h) (hk : Kept S w w') (h1 : y ∉ S) (h2 : x ∉ S) (h3 : b ∉ S) (h4 : g ∉ S) : Window w' y x b g n most h := ⟨hk.has L.head h1, L.line.kept hk h2 h3 h4, L.ne_⟩
theorem Window.same (L : Window w y x b g n most h) (e : w'.heap = w.heap) : Window w' y x b g n most h := ⟨by have := L.head; unfold Has at *; rw [e]; exact this, L.line.same e, L.ne_⟩
theorem Window.alloc (L : Window w y x b g n most h) (o : Obj) : Window (w.alloc o) y x b g n most h := ⟨L.head.alloc o, L.line.alloc o, L.ne_⟩
end
/-- The window has these values now; its struct and its ring have turned, and no other block that was there. -/
def WindowBecame (w : World) (y x b g n most : Nat) (h : List Int) (w' : World) : Prop := Window w' y x b g n most h ∧ Kept [y, b, g] w w'

theorem window_of_no (n : Int) (w : World) (h : n < 1 ∨ 1024 < n) :
    Calls Try.prog 56 #[.int .i64 n] w fun e w' => e = .returned (.tuple #[.pointer none, .int .i64 1]) ∧ w = w' := by
  rcases h with h | h
  · go_enter Try.func56, Try.ntmps56
    go_wp2
    go_ret2
    exact ⟨rfl, rfl⟩
  · have h0 : ¬ n < 1 := by omega
    go_enter Try.func56, Try.ntmps56
    go_wp2
    go_ret2
    exact ⟨rfl, rfl⟩
theorem window_of_yes (most : Nat) (w : World) (h : most < 1024) :
    Calls Try.prog 56 #[.int .i64 ((most : Int) + 1)] w fun e w' => e = .returned (.tuple #[.pointer (some ⟨w.heap.size + 3, 0, none⟩), .int .i64 0]) ∧
      (∃ n, Window w' (w.heap.size + 3) (w.heap.size + 2) (w.heap.size + 1) w.heap.size n most []) ∧ Below w.heap.size w w' ∧ w'.heap.size = w.heap.size + 4 := by
  have hnew := line_new_yes most w (by omega)
  have h0 : ¬ (most : Int) + 1 < 1 := by omega
  have h1 : ¬ (1024 : Int) < (most : Int) + 1 := by omega
  have h2 : (most : Int) + 1 - 1 = (most : Int) := by omega
  go_enter Try.func56, Try.ntmps56
  go_wp2_with (go_at_call 74; ((with_reducible refine hnew.mono ?_); rintro e w2 ⟨rfl, ⟨n, hL⟩, hB, hz⟩))
  go_ret2
  refine ⟨rfl, ⟨n, ?_, hL.alloc _, by omega⟩, hB.alloc (by omega) _, by simp [hz]⟩
  have h9 := Has.new w2 129 #[.pointer (some ⟨w.heap.size + 2, 0, none⟩), .int .i64 0]
  rw [hz] at h9
  rw [winSum_nil, show wrap64 0 = 0 from by unfold wrap64; omega]
  exact h9

set_option maxHeartbeats 2000000 in
theorem window_push (y x b g n most : Nat) (h : List Int) (v : Int) (w : World) (L : Window w y x b g n most h) :
    Calls Try.prog 86 #[.pointer (some ⟨y, 0, none⟩), .int .i64 v] w fun e w' => e = .returned (.int .i64 (wrap64 (winSum most (v :: h)))) ∧ WindowBecame w y x b g n most (v :: h) w' := by
  obtain ⟨c0, c1, z1⟩ := L.cells
  obtain ⟨d0, d1⟩ := L.line.cells
  have hm := L.line.most_
  have hne := L.ne_
  have hlt := L.lt_
  have hago := fun W (hW : Line W x b g n most h) => line_ago x b g n most h most W hW (by omega)
  rw [agoTo_in most h most (Nat.le_refl _)] at hago
  have hws := winSum_push most h v
  have hs2 := wrap64_sum (winSum most h) v (h.getD most 0)
  rw [← hws] at hs2
  clear hws
  have hlk := L.line
  have hhd := L.head
  generalize hS2 : wrap64 (winSum most (v :: h)) = S2 at *
  generalize wrap64 (winSum most h) = S1 at *
  generalize h.getD most 0 = out at *
  have hs3 : IntKind.i64.wrap (S1 + IntKind.i64.wrap (v - out)) = S2 := by rw [IntWalk.i64_left, IntWalk.i64_left]; exact hs2
  have hH2 : ∀ m, Has ((w.drewN m).setCell ⟨y, 1, none⟩ (.int .i64 S2)) y 129 #[.pointer (some ⟨x, 0, none⟩), .int .i64 S2] := fun m => by
    have := (hhd.drewN m).set_ 1 (.int .i64 S2)
    simpa using this
  have hK2 : ∀ m, Kept [y] w ((w.drewN m).setCell ⟨y, 1, none⟩ (.int .i64 S2)) := fun m => ((Kept.refl [y] w).drewN m).setCell (p := ⟨y, 1, none⟩) (.inl (by simp)) _
  have hL2 : ∀ m, Line ((w.drewN m).setCell ⟨y, 1, none⟩ (.int .i64 S2)) x b g n most h := fun m => hlk.kept (hK2 m) (by simp; omega) (by simp; omega) (by simp; omega)
  have hco := fun m => line_come x b g n most h v _ (hL2 m)
  have hbg : y ∉ [b, g] := by simp; omega
  have HS := Lib.hid hs3
  clear hs2 hs3 L
  go_enter Try.func86, Try.ntmps86
  go_wp2
  go_region_with (go_at_call 89; ((with_reducible refine (hago _ (by exact hlk.same rfl)).mono ?_); rintro e w1 ⟨rfl, kk, rfl⟩))
  all_goals
    rw [HS.out]
    go_wp2_with (go_at_call 90; ((with_reducible refine (hco _).mono ?_); rintro e w1 ⟨rfl, hL1, hK1⟩; have hH1 := hK1.has (hH2 _) hbg; have c1' := hH1.cell 1))
    go_ret
    exact ⟨rfl, ⟨by rw [hS2]; exact hH1, hL1, hne⟩, ((hK2 _).wide (fun k hk _ => by simp at hk; simp [hk])).trans (hK1.wide (fun k hk _ => by simp at hk; simp [hk]))⟩
theorem window_sum (y x b g n most : Nat) (h : List Int) (w : World) (L : Window w y x b g n most h) :
    Calls Try.prog 72 #[.pointer (some ⟨y, 0, none⟩)] w fun e w' => e = .returned (.int .i64 (wrap64 (winSum most h))) ∧ w = w' := by
  obtain ⟨c0, c1, z1⟩ := L.cells
  generalize wrap64 (winSum most h) = S at *
  go_enter Try.func72, Try.ntmps72
  go_wp2
  go_ret
  exact ⟨rfl, rfl⟩
end Go.Proofs.Ytnoppoimahfknaa
end
section
/- What the landed level's calls answer: First, Signal, Again, Noise, Upper, Lower, May. -/
set_option linter.unusedSimpArgs false
set_option linter.unusedVariables false
namespace Go.Proofs.Ytnoppoimahfknaa.Level
open Go.RowKit RI64
set_option maxHeartbeats 1000000 in
theorem follow_any (A : Option Addr) (n c : Nat) (ts : List Int) (a : Int) (w : World) (hv : Vals w A n ts) (hn : n ≤ 100000) (ha : 0 ≤ a ∧ a ≤ 62914560) :
    Calls Try.prog 80 #[.int .i64 a, .slice A n c] w fun e w' => e = .returned (.int .i64 (followT a ts)) ∧ w = w' := by
  have hlen := hv.len_
  have hbd : ∀ j, 0 ≤ followT a (ts.take j) ∧ followT a (ts.take j) ≤ 62914560 := fun j => follow_bd _ _ ha
  have HBD := Lib.hid hbd
  clear hbd ha
  go_enter Try.func80, Try.ntmps80
  go_wp2
  go_loop [0, 9] (fun s i => ∃ j : Nat, j ≤ n ∧ i = .int .i64 (j : Nat) ∧ s = .int .i64 (followT a (ts.take j))) (fun _ i => n - (intOf i).toNat)
  case atStart => exact ⟨0, by omega, rfl, rfl⟩
  case round =>
    obtain ⟨j, hj, rfl, rfl⟩ := hrel
    by_cases hjn : j < n
    · obtain ⟨x, rfl, hcx⟩ := hv.cells (by omega)
      have hcell := hcx j hjn
      have HST := Lib.hid (follow_step a ts j (by omega))
      have hc := fun W => counted_any (ts.getD j 0) W
      have hto := fun W => towards_8 (followT a (ts.take j)) (nearB (ts.getD j 0)) W (HBD.out j) (nearB_bd _)
      generalize followT a (ts.take j) = s at *
      generalize goes s (nearB (ts.getD j 0)) 8 = s' at *
      generalize nearB (ts.getD j 0) = t' at *
      generalize ts.getD j 0 = t at *
      clear hcx hv hlen
      go_wp2_with (first
        | (go_at_call 76; ((refine Calls.mono (by exact hc _) ?_); rintro e w1 ⟨rfl, rfl⟩))
        | (go_at_call 79; ((refine Calls.mono (by exact hto _) ?_); rintro e w2 ⟨rfl, rfl⟩)))
      go_round
      case rel => exact ⟨j + 1, by omega, by go_num, by rw [HST.out]⟩
      case measure => simp [intOf]; omega
    · obtain rfl : j = n := by omega
      rw [List.take_of_length_le (by omega)]
      clear hv
      go_wp2
      go_ret
      exact ⟨rfl, rfl⟩
/-- A level that was boxed, and a result's block behind it. -/
theorem box_two (w : World) (a b : Int) : Below w.heap.size w ((w.alloc (.cells #[.int .i64 a, .int .i64 b] 33)).alloc (.cells #[.int .i64 0, .int .i64 0] 33)) ∧
    Has ((w.alloc (.cells #[.int .i64 a, .int .i64 b] 33)).alloc (.cells #[.int .i64 0, .int .i64 0] 33)) w.heap.size 33 #[.int .i64 a, .int .i64 b] ∧
    Has ((w.alloc (.cells #[.int .i64 a, .int .i64 b] 33)).alloc (.cells #[.int .i64 0, .int .i64 0] 33)) (w.heap.size + 1) 33 #[.int .i64 0, .int .i64 0] := by
  have hB0 := (Below.refl w.heap.size w).alloc (Nat.le_refl _) (.cells #[.int .i64 a, .int .i64 b] 33)
  have h9 := Has.new (w.alloc (.cells #[.int .i64 a, .int .i64 b] 33)) 33 #[.int .i64 0, .int .i64 0]
  rw [show (w.alloc (.cells #[.int .i64 a, .int .i64 b] 33)).heap.size = w.heap.size + 1 by simp] at h9
  exact ⟨hB0.alloc hB0.size _, (Has.new w _ _).alloc _, h9⟩
/-- What stands behind asCounted's answer was stored: the level as it counts, the result's block, and all beneath. -/
theorem counted_put {w W0 W1 : World} {a b x y : Int} (hB1 : Below w.heap.size w W0) (hH1 : Has W0 w.heap.size 33 #[.int .i64 a, .int .i64 b]) (hR1 : Has W0 (w.heap.size + 1) 33 #[.int .i64 0, .int .i64 0]) (hB : Below W0.heap.size W0 W1) :
    Has W1 w.heap.size 33 #[.int .i64 a, .int .i64 b] ∧ Has ((W1.setCell ⟨w.heap.size, 0, none⟩ (.int .i64 x)).setCell ⟨w.heap.size, 1, none⟩ (.int .i64 y)) w.heap.size 33 #[.int .i64 x, .int .i64 y] ∧
    Has ((W1.setCell ⟨w.heap.size, 0, none⟩ (.int .i64 x)).setCell ⟨w.heap.size, 1, none⟩ (.int .i64 y)) (w.heap.size + 1) 33 #[.int .i64 0, .int .i64 0] ∧ Below w.heap.size w ((W1.setCell ⟨w.heap.size, 0, none⟩ (.int .i64 x)).setCell ⟨w.heap.size, 1, none⟩ (.int .i64 y)) := by
  have h1 := hH1.below hB hH1.lt
  have h2 := hR1.below hB hR1.lt
  exact ⟨h1, Has.put2 h1 _ _, Has.far2 h2 (by omega) _ _, below_put2 (hB1.trans (hB.mono hB1.size)) (Nat.le_refl _) _ _⟩
/-- One of its numbers was stored, and the result's block filled. -/
theorem put_0 {w W : World} {a b : Int} (z : Int) (hH : Has W w.heap.size 33 #[.int .i64 a, .int .i64 b]) (hR : Has W (w.heap.size + 1) 33 #[.int .i64 0, .int .i64 0]) (hB : Below w.heap.size w W) :
    Has (W.setCell ⟨w.heap.size, 0, none⟩ (.int .i64 z)) w.heap.size 33 #[.int .i64 z, .int .i64 b] ∧ Has (W.setCell ⟨w.heap.size, 0, none⟩ (.int .i64 z)) (w.heap.size + 1) 33 #[.int .i64 0, .int .i64 0] ∧
    Has (((W.setCell ⟨w.heap.size, 0, none⟩ (.int .i64 z)).setCell ⟨w.heap.size + 1, 0, none⟩ (.int .i64 z)).setCell ⟨w.heap.size + 1, 1, none⟩ (.int .i64 b)) (w.heap.size + 1) 33 #[.int .i64 z, .int .i64 b] ∧
    Below w.heap.size w (((W.setCell ⟨w.heap.size, 0, none⟩ (.int .i64 z)).setCell ⟨w.heap.size + 1, 0, none⟩ (.int .i64 z)).setCell ⟨w.heap.size + 1, 1, none⟩ (.int .i64 b)) := by
  have h2 := hR.far (p := ⟨w.heap.size, 0, none⟩) (by simp) (.int .i64 z)
  refine ⟨?_, h2, Has.put2 h2 _ _, below_put2 (hB.setCell (p := ⟨w.heap.size, 0, none⟩) (Nat.le_refl _) _) (by omega) _ _⟩
  have h1 := hH.set_ 0 (.int .i64 z)
  simpa using h1
theorem put_1 {w W : World} {a b : Int} (z : Int) (hH : Has W w.heap.size 33 #[.int .i64 a, .int .i64 b]) (hR : Has W (w.heap.size + 1) 33 #[.int .i64 0, .int .i64 0]) (hB : Below w.heap.size w W) :
    Has (W.setCell ⟨w.heap.size, 1, none⟩ (.int .i64 z)) w.heap.size 33 #[.int .i64 a, .int .i64 z] ∧ Has (W.setCell ⟨w.heap.size, 1, none⟩ (.int .i64 z)) (w.heap.size + 1) 33 #[.int .i64 0, .int .i64 0] ∧
    Has (((W.setCell ⟨w.heap.size, 1, none⟩ (.int .i64 z)).setCell ⟨w.heap.size + 1, 0, none⟩ (.int .i64 a)).setCell ⟨w.heap.size + 1, 1, none⟩ (.int .i64 z)) (w.heap.size + 1) 33 #[.int .i64 a, .int .i64 z] ∧
    Below w.heap.size w (((W.setCell ⟨w.heap.size, 1, none⟩ (.int .i64 z)).setCell ⟨w.heap.size + 1, 0, none⟩ (.int .i64 a)).setCell ⟨w.heap.size + 1, 1, none⟩ (.int .i64 z)) := by
  have h2 := hR.far (p := ⟨w.heap.size, 1, none⟩) (by simp) (.int .i64 z)
  refine ⟨?_, h2, Has.put2 h2 _ _, below_put2 (hB.setCell (p := ⟨w.heap.size, 1, none⟩) (Nat.le_refl _) _) (by omega) _ _⟩
  have h1 := hH.set_ 1 (.int .i64 z)
  simpa using h1
set_option maxHeartbeats 1000000 in
theorem signal_any (A : Option Addr) (n c : Nat) (ts : List Int) (a b : Int) (w : World) (hv : Vals w A n ts) (hn : n ≤ 100000) :
    Calls Try.prog 66 #[.agg #[.int .i64 a, .int .i64 b], .slice A n c] w fun e w' => e = .returned (lvV (signalT (a, b) ts)) ∧ Below w.heap.size w w' := by
  obtain ⟨hB1, hH1, hR1⟩ := box_two w a b
  have c0 := hH1.cell 0
  have c1 := hH1.cell 1
  unfold lvV signalT
  have hfo := fun W h => follow_any A n c ts (nearB a) W h hn (nearB_bd a)
  generalize followT (nearB a) ts = r at *
  go_enter Try.func66, Try.ntmps66
  go_wp2_with (first
    | (go_at_call 78; ((with_reducible refine (as_counted _ _ _).mono ?_); rintro e W1 ⟨rfl, hBx⟩; obtain ⟨hH2, hH3, hR3, hB3⟩ := counted_put (x := nearB a) (y := nearB b) hB1 hH1 hR1 hBx; have b0 := hH2.cell 0; have b1 := hH2.cell 1; have f0 := hH2.frozen 0; have f1 := hH2.frozen 1; have d0 := hH3.cell 0; have d1 := hH3.cell 1; have g0 := hH3.frozen 0; have g1 := hH3.frozen 1; clear hH2 hBx))
    | (go_at_call 80; ((go_must (refine Calls.mono (by exact hfo _ (Vals.below hv hB3)) ?_)); rintro e W2 ⟨rfl, rfl⟩; go_must (obtain ⟨hH4, hR4, hR5, hB5⟩ := put_0 r hH3 hR3 hB3); have e0 := hH4.cell 0; have e1 := hH4.cell 1; have l0 := hR4.cell 0; have l1 := hR4.cell 1; have k0 := hR4.frozen 0; have k1 := hR4.frozen 1; have r0 := hR5.cell 0; have r1 := hR5.cell 1)))
  refine bodyPost_ret (v := .agg #[.int .i64 r, .int .i64 (nearB b)]) (by simp [results, Try.results66, go_sem, r0, r1]) rfl ⟨rfl, hB5⟩
set_option maxHeartbeats 1000000 in
theorem noise_any (A : Option Addr) (n c : Nat) (ts : List Int) (a b : Int) (w : World) (hv : Vals w A n ts) (hn : n ≤ 100000) :
    Calls Try.prog 64 #[.agg #[.int .i64 a, .int .i64 b], .slice A n c] w fun e w' => e = .returned (lvV (noiseT (a, b) ts)) ∧ Below w.heap.size w w' := by
  obtain ⟨hB1, hH1, hR1⟩ := box_two w a b
  have c0 := hH1.cell 0
  have c1 := hH1.cell 1
  unfold lvV noiseT
  have hfo := fun W h => follow_any A n c ts (nearB b) W h hn (nearB_bd b)
  generalize followT (nearB b) ts = r at *
  go_enter Try.func64, Try.ntmps64
  go_wp2_with (first
    | (go_at_call 78; ((with_reducible refine (as_counted _ _ _).mono ?_); rintro e W1 ⟨rfl, hBx⟩; obtain ⟨hH2, hH3, hR3, hB3⟩ := counted_put (x := nearB a) (y := nearB b) hB1 hH1 hR1 hBx; have b0 := hH2.cell 0; have b1 := hH2.cell 1; have f0 := hH2.frozen 0; have f1 := hH2.frozen 1; have d0 := hH3.cell 0; have d1 := hH3.cell 1; have g0 := hH3.frozen 0; have g1 := hH3.frozen 1; clear hH2 hBx))
    | (go_at_call 80; (go_must (refine Calls.mono (by exact hfo _ (Vals.below hv hB3)) ?_); rintro e W2 ⟨rfl, rfl⟩; go_must (obtain ⟨hH4, hR4, hR5, hB5⟩ := put_1 r hH3 hR3 hB3); have e0 := hH4.cell 0; have e1 := hH4.cell 1; have l0 := hR4.cell 0; have l1 := hR4.cell 1; have k0 := hR4.frozen 0; have k1 := hR4.frozen 1; have r0 := hR5.cell 0; have r1 := hR5.cell 1)))
  refine bodyPost_ret (v := .agg #[.int .i64 (nearB a), .int .i64 r]) (by simp [results, Try.results64, go_sem, r0, r1]) rfl ⟨rfl, hB5⟩
set_option maxHeartbeats 1000000 in
theorem again_any (t a b : Int) (w : World) :
    Calls Try.prog 70 #[.agg #[.int .i64 a, .int .i64 b], .int .i64 t] w fun e w' => e = .returned (lvV (againT (a, b) t)) ∧ Below w.heap.size w w' := by
  obtain ⟨hB1, hH1, hR1⟩ := box_two w a b
  have c0 := hH1.cell 0
  have c1 := hH1.cell 1
  unfold lvV againT
  have hto := fun W => towards_4 (nearB a) (nearB t) W (nearB_bd a) (nearB_bd t)
  generalize goes (nearB a) (nearB t) 4 = r at *
  go_enter Try.func70, Try.ntmps70
  go_wp2_with (first
    | (go_at_call 78; ((with_reducible refine (as_counted _ _ _).mono ?_); rintro e W1 ⟨rfl, hBx⟩; obtain ⟨hH2, hH3, hR3, hB3⟩ := counted_put (x := nearB a) (y := nearB b) hB1 hH1 hR1 hBx; have b0 := hH2.cell 0; have b1 := hH2.cell 1; have f0 := hH2.frozen 0; have f1 := hH2.frozen 1; have d0 := hH3.cell 0; have d1 := hH3.cell 1; have g0 := hH3.frozen 0; have g1 := hH3.frozen 1; clear hH2 hBx))
    | fail)
  clear hB1 hH1 hR1 c0 c1 b0 b1 f0 f1
  generalize (W1.setCell ⟨w.heap.size, 0, none⟩ (.int .i64 (nearB a))).setCell ⟨w.heap.size, 1, none⟩ (.int .i64 (nearB b)) = W2 at *
  have hHd := hH3.drew
  have hRd := hR3.drew
  have hBd : Below w.heap.size w W2.drew := below_drewN hB3 1
  clear hH3 hR3 hB3 d0 d1 g0 g1
  have q0 := hHd.cell 0
  have q1 := hHd.cell 1
  have s0 := hHd.frozen 0
  refine Reg.begin_ (S := fun W => True) (by kernel_rfl) trivial (fun hHeld => ?_)
  refine Reg.take (i := 0) (v := ?v1) rfl (by kernel_rfl) (by kernel_rfl) (by kernel_rfl) (by rfl) ?hv1 (by assumption) ?rest1
  case hv1 => first | (intro w hSw; (try dsimp only at hSw); go_simp; done) | (intro w hSw; (try dsimp only at hSw); go_simp; with_reducible rfl)
  (try simp only [Act.put, List.setIfInBounds_toArray, List.set_cons_zero, List.set_cons_succ])
  refine Reg.take (i := 2) (v := ?v2) rfl (by kernel_rfl) (by kernel_rfl) (by kernel_rfl) (by rfl) ?hv2 (by assumption) ?rest2
  case hv2 => first | (intro w hSw; (try dsimp only at hSw); go_simp; done) | (intro w hSw; (try dsimp only at hSw); go_simp; with_reducible rfl)
  (try simp only [Act.put, List.setIfInBounds_toArray, List.set_cons_zero, List.set_cons_succ])
  clear hHeld
  generalize W2.drew = W3 at *
  obtain ⟨hH4, hR4, hR5, hB5⟩ := put_0 r hHd hRd hBd
  have e0 := hH4.cell 0
  have e1 := hH4.cell 1
  have l0 := hR4.cell 0
  have l1 := hR4.cell 1
  have k0 := hR4.frozen 0
  have k1 := hR4.frozen 1
  have r0 := hR5.cell 0
  have r1 := hR5.cell 1
  clear hH4 hR4 hR5
  refine Reg.both (i := 1) (j := 3) rfl rfl (by kernel_rfl) (by rfl) (by rfl) ?_ ?_
  · intro K hK
    go_simp
    refine hK.out _ _ (by exact trivial) (fun hHeld => ?_)
    clear hK K
    (try simp only [Act.put, List.setIfInBounds_toArray, List.set_cons_zero, List.set_cons_succ])
    refine Reg.call (i := 3) rfl (by kernel_rfl) (by rfl) ?_
    intro K hK
    go_simp
    go_at_call 76
    (with_reducible refine (counted_any _ _).mono ?_)
    rintro e w1 ⟨rfl, rfl⟩
    refine hK.out _ _ (by exact trivial) (fun hHeld => ?_)
    clear hK K
    (try simp only [Act.put, List.setIfInBounds_toArray, List.set_cons_zero, List.set_cons_succ])
    refine Reg.call (i := 4) rfl (by kernel_rfl) (by rfl) ?_
    intro K hK
    go_simp
    go_at_call 79
    refine (hto _).mono ?_
    rintro e w1 ⟨rfl, rfl⟩
    refine hK.out _ _ (by exact trivial) (fun hHeld => ?_)
    clear hK K
    (try simp only [Act.put, List.setIfInBounds_toArray, List.set_cons_zero, List.set_cons_succ])
    refine Reg.take (i := 5) (v := ?v3) rfl (by kernel_rfl) (by kernel_rfl) (by kernel_rfl) (by rfl) ?hv3 (by assumption) ?rest3
    case hv3 => first | (intro w hSw; (try dsimp only at hSw); go_simp; done) | (intro w hSw; (try dsimp only at hSw); go_simp; with_reducible rfl)
    (try simp only [Act.put, List.setIfInBounds_toArray, List.set_cons_zero, List.set_cons_succ])
    refine Reg.call (i := 6) rfl (by kernel_rfl) (by rfl) ?_
    intro K hK
    go_simp
    refine hK.out _ _ (by exact trivial) (fun hHeld => ?_)
    clear hK K
    (try simp only [Act.put, List.setIfInBounds_toArray, List.set_cons_zero, List.set_cons_succ])
    refine Reg.done (by kernel_rfl) ?_ _
    clear q0 q1 s0
    go_wp2
    refine bodyPost_ret (v := .agg #[.int .i64 r, .int .i64 (nearB b)]) (by simp [results, Try.results70, go_sem, r0, r1]) rfl ⟨rfl, hB5⟩
  · intro K hK
    go_simp
    go_at_call 76
    (with_reducible refine (counted_any _ _).mono ?_)
    rintro e w1 ⟨rfl, rfl⟩
    refine hK.out _ _ (by exact trivial) (fun hHeld => ?_)
    clear hK K
    (try simp only [Act.put, List.setIfInBounds_toArray, List.set_cons_zero, List.set_cons_succ])
    refine Reg.call (i := 1) rfl (by kernel_rfl) (by rfl) ?_
    intro K hK
    go_simp
    refine hK.out _ _ (by exact trivial) (fun hHeld => ?_)
    clear hK K
    (try simp only [Act.put, List.setIfInBounds_toArray, List.set_cons_zero, List.set_cons_succ])
    refine Reg.call (i := 4) rfl (by kernel_rfl) (by rfl) ?_
    intro K hK
    go_simp
    go_at_call 79
    refine (hto _).mono ?_
    rintro e w1 ⟨rfl, rfl⟩
    refine hK.out _ _ (by exact trivial) (fun hHeld => ?_)
    clear hK K
    (try simp only [Act.put, List.setIfInBounds_toArray, List.set_cons_zero, List.set_cons_succ])
    refine Reg.take (i := 5) (v := ?v4) rfl (by kernel_rfl) (by kernel_rfl) (by kernel_rfl) (by rfl) ?hv4 (by assumption) ?rest4
    case hv4 => first | (intro w hSw; (try dsimp only at hSw); go_simp; done) | (intro w hSw; (try dsimp only at hSw); go_simp; with_reducible rfl)
    (try simp only [Act.put, List.setIfInBounds_toArray, List.set_cons_zero, List.set_cons_succ])
    refine Reg.call (i := 6) rfl (by kernel_rfl) (by rfl) ?_
    intro K hK
    go_simp
    refine hK.out _ _ (by exact trivial) (fun hHeld => ?_)
    clear hK K
    (try simp only [Act.put, List.setIfInBounds_toArray, List.set_cons_zero, List.set_cons_succ])
    refine Reg.done (by kernel_rfl) ?_ _
    clear q0 q1 s0
    go_wp2
    refine bodyPost_ret (v := .agg #[.int .i64 r, .int .i64 (nearB b)]) (by simp [results, Try.results70, go_sem, r0, r1]) rfl ⟨rfl, hB5⟩
set_option maxHeartbeats 1000000 in
theorem upper_any (a b : Int) (w : World) :
    Calls Try.prog 63 #[.agg #[.int .i64 a, .int .i64 b]] w fun e w' => e = .returned (.int .i64 (upperT (a, b))) ∧ Below w.heap.size w w' := by
  have hB1 := (Below.refl w.heap.size w).alloc (Nat.le_refl _) (.cells #[.int .i64 a, .int .i64 b] 33)
  have hH1 := Has.new w 33 #[.int .i64 a, .int .i64 b]
  have c0 := hH1.cell 0
  have c1 := hH1.cell 1
  have hto := fun W => towards_4 (nearB b) (nearB a) W (nearB_bd b) (nearB_bd a)
  unfold upperT
  generalize goes (nearB b) (nearB a) 4 = r at *
  go_enter Try.func63, Try.ntmps63
  go_wp2_with (first
    | (go_at_call 78; ((with_reducible refine (as_counted _ _ _).mono ?_); rintro e W1 ⟨rfl, hBx⟩; have hH2 := hH1.below hBx hH1.lt; have hH3 := Has.put2 hH2 (.int .i64 (nearB a)) (.int .i64 (nearB b)); have hB3 := below_put2 (hB1.trans (hBx.mono hB1.size)) (Nat.le_refl _) (.int .i64 (nearB a)) (.int .i64 (nearB b)); have b0 := hH2.cell 0; have b1 := hH2.cell 1; have f0 := hH2.frozen 0; have f1 := hH2.frozen 1; have d0 := hH3.cell 0; have d1 := hH3.cell 1; clear hH2 hBx))
    | (go_at_call 79; (go_must (refine Calls.mono (by exact hto _) ?_); rintro e W2 ⟨rfl, rfl⟩)))
  all_goals
    go_ret
    exact ⟨rfl, hB3⟩
set_option maxHeartbeats 1000000 in
theorem lower_any (a b : Int) (w : World) :
    Calls Try.prog 69 #[.agg #[.int .i64 a, .int .i64 b]] w fun e w' => e = .returned (.int .i64 (lowerT (a, b))) ∧ Below w.heap.size w w' := by
  have hB1 := (Below.refl w.heap.size w).alloc (Nat.le_refl _) (.cells #[.int .i64 a, .int .i64 b] 33)
  have hH1 := Has.new w 33 #[.int .i64 a, .int .i64 b]
  have c0 := hH1.cell 0
  have c1 := hH1.cell 1
  unfold lowerT
  have hup := fun W => upper_any a b W
  have hsh := fun W => shift_any (upperT (a, b)) 1 W (by omega)
  rw [show (2 : Int) ^ min (Int.toNat 1) 64 = 2 from rfl] at hsh
  generalize upperT (a, b) = u at *
  go_enter Try.func69, Try.ntmps69
  go_wp2_with (first
    | (go_at_call 63; (go_must (refine Calls.mono (by exact hup _) ?_); rintro e W1 ⟨rfl, hBx⟩; have hB2 := hB1.trans (hBx.mono hB1.size)))
    | (go_at_call 82; (go_must (refine Calls.mono (by exact hsh _) ?_); rintro e W2 ⟨rfl, rfl⟩)))
  go_ret
  exact ⟨rfl, hB2⟩
set_option maxHeartbeats 1000000 in
theorem first_any (A : Option Addr) (n c : Nat) (ts : List Int) (w : World) (hv : Vals w A n ts) (hn : n ≤ 100000) :
    Calls Try.prog 61 #[.slice A n c] w fun e w' => e = .returned (lvV (firstT ts, 0)) ∧ Below w.heap.size w w' := by
  have hlen := hv.len_
  obtain ⟨hB1, hR1, hH1⟩ := box_two w 0 0
  unfold lvV
  go_enter Try.func61, Try.ntmps61
  go_wp2
  generalize (w.alloc (.cells #[.int .i64 0, .int .i64 0] 33)).alloc (.cells #[.int .i64 0, .int .i64 0] 33) = W0 at *
  go_loopw [8] (fun i wr => ∃ j : Nat, j ≤ n ∧ i = .int .i64 (j : Nat) ∧ Has wr w.heap.size 33 #[.int .i64 0, .int .i64 0] ∧ Has wr (w.heap.size + 1) 33 #[.int .i64 (firstT (ts.take j)), .int .i64 0] ∧ Below w.heap.size w wr) (fun i _ => n - (intOf i).toNat)
  case atStart => exact ⟨0, by omega, rfl, hR1, hH1, hB1⟩
  case round =>
    obtain ⟨j, hj, rfl, hR, hH, hB⟩ := hrel
    clear hR1 hH1 hB1
    by_cases hjn : j < n
    · obtain ⟨x, rfl, hcx⟩ := (hv.below hB).cells (by omega)
      have hcell := hcx j hjn
      have HST := Lib.hid (first_step ts j (by omega))
      have hcn := fun W => counted_any (ts.getD j 0) W
      generalize firstT (ts.take j) = s at *
      generalize nearB (ts.getD j 0) = t' at *
      generalize ts.getD j 0 = t at *
      have c0 := hH.cell 0
      clear hcx hv hlen
      have mx : (if s < t' then t' else s) = s ∨ (if s < t' then t' else s) = t' := by split <;> simp
      have hHd := hH.drew
      have hRd := hR.drew
      have hBd : Below w.heap.size w wr.drew := below_drewN hB 1
      clear c0 hH hR hB
      generalize hr : (if s < t' then t' else s) = r at *
      go_wp2
      refine Reg.begin_ (S := fun W => True) (by kernel_rfl) trivial (fun hHeld => ?_)
      refine Reg.take (i := 0) (v := ?v9) rfl (by kernel_rfl) (by kernel_rfl) (by kernel_rfl) (by rfl) ?hv9 (by assumption) ?rest9
      case hv9 => first | (intro w hSw; (try dsimp only at hSw); go_simp; done) | (intro w hSw; (try dsimp only at hSw); go_simp; with_reducible rfl)
      (try simp only [Act.put, List.setIfInBounds_toArray, List.set_cons_zero, List.set_cons_succ])
      refine Reg.take (i := 2) (v := ?v10) rfl (by kernel_rfl) (by kernel_rfl) (by kernel_rfl) (by rfl) ?hv10 (by assumption) ?rest10
      case hv10 => first | (intro w hSw; (try dsimp only at hSw); go_simp; done) | (intro w hSw; (try dsimp only at hSw); go_simp; with_reducible rfl)
      (try simp only [Act.put, List.setIfInBounds_toArray, List.set_cons_zero, List.set_cons_succ])
      clear hHeld
      generalize wr.drew = W3 at *
      have q0 := hHd.cell 0
      have k0 := hHd.frozen 0
      have hH9 : Has (W3.setCell ⟨w.heap.size + 1, 0, none⟩ (.int .i64 r)) (w.heap.size + 1) 33 #[.int .i64 r, .int .i64 0] := by
        have h9 := hHd.set_ 0 (.int .i64 r)
        simpa using h9
      have hR9 := hRd.far (p := ⟨w.heap.size + 1, 0, none⟩) (by simp) (.int .i64 r)
      have hB9 := hBd.setCell (p := ⟨w.heap.size + 1, 0, none⟩) (by simp) (.int .i64 r)
      refine Reg.both (i := 1) (j := 3) rfl rfl (by kernel_rfl) (by rfl) (by rfl) ?_ ?_
      · intro K hK
        go_simp
        refine hK.out _ _ (by exact trivial) (fun hHeld => ?_)
        clear hK K
        (try simp only [Act.put, List.setIfInBounds_toArray, List.set_cons_zero, List.set_cons_succ])
        refine Reg.call (i := 3) rfl (by kernel_rfl) (by rfl) ?_
        intro K hK
        go_simp
        go_at_call 76
        refine (hcn _).mono ?_
        rintro e w1 ⟨rfl, rfl⟩
        refine hK.out _ _ (by exact trivial) (fun hHeld => ?_)
        clear hK K
        (try simp only [Act.put, List.setIfInBounds_toArray, List.set_cons_zero, List.set_cons_succ])
        refine Reg.call (i := 4) rfl (by kernel_rfl) (by rfl) ?_
        intro K hK
        go_simp
        (try simp only [hr])
        refine hK.out _ _ (by exact trivial) (fun hHeld => ?_)
        clear hK K
        (try simp only [Act.put, List.setIfInBounds_toArray, List.set_cons_zero, List.set_cons_succ])
        refine Reg.take (i := 5) (v := ?v11) rfl (by kernel_rfl) (by kernel_rfl) (by kernel_rfl) (by rfl) ?hv11 (by assumption) ?rest11
        case hv11 => first | (intro w hSw; (try dsimp only at hSw); go_simp; done) | (intro w hSw; (try dsimp only at hSw); go_simp; with_reducible rfl)
        (try simp only [Act.put, List.setIfInBounds_toArray, List.set_cons_zero, List.set_cons_succ])
        refine Reg.call (i := 6) rfl (by kernel_rfl) (by rfl) ?_
        intro K hK
        go_simp
        refine hK.out _ _ (by exact trivial) (fun hHeld => ?_)
        clear hK K
        (try simp only [Act.put, List.setIfInBounds_toArray, List.set_cons_zero, List.set_cons_succ])
        refine Reg.done (by kernel_rfl) ?_ _
        clear q0 k0
        go_wp2
        go_roundw
        case rel => exact ⟨j + 1, by omega, by go_num, hR9, by rw [HST.out]; exact hH9, hB9⟩
        case measure => simp [intOf]; omega
      · intro K hK
        go_simp
        go_at_call 76
        refine (hcn _).mono ?_
        rintro e w1 ⟨rfl, rfl⟩
        refine hK.out _ _ (by exact trivial) (fun hHeld => ?_)
        clear hK K
        (try simp only [Act.put, List.setIfInBounds_toArray, List.set_cons_zero, List.set_cons_succ])
        refine Reg.call (i := 1) rfl (by kernel_rfl) (by rfl) ?_
        intro K hK
        go_simp
        refine hK.out _ _ (by exact trivial) (fun hHeld => ?_)
        clear hK K
        (try simp only [Act.put, List.setIfInBounds_toArray, List.set_cons_zero, List.set_cons_succ])
        refine Reg.call (i := 4) rfl (by kernel_rfl) (by rfl) ?_
        intro K hK
        go_simp
        (try simp only [hr])
        refine hK.out _ _ (by exact trivial) (fun hHeld => ?_)
        clear hK K
        (try simp only [Act.put, List.setIfInBounds_toArray, List.set_cons_zero, List.set_cons_succ])
        refine Reg.take (i := 5) (v := ?v12) rfl (by kernel_rfl) (by kernel_rfl) (by kernel_rfl) (by rfl) ?hv12 (by assumption) ?rest12
        case hv12 => first | (intro w hSw; (try dsimp only at hSw); go_simp; done) | (intro w hSw; (try dsimp only at hSw); go_simp; with_reducible rfl)
        (try simp only [Act.put, List.setIfInBounds_toArray, List.set_cons_zero, List.set_cons_succ])
        refine Reg.call (i := 6) rfl (by kernel_rfl) (by rfl) ?_
        intro K hK
        go_simp
        refine hK.out _ _ (by exact trivial) (fun hHeld => ?_)
        clear hK K
        (try simp only [Act.put, List.setIfInBounds_toArray, List.set_cons_zero, List.set_cons_succ])
        refine Reg.done (by kernel_rfl) ?_ _
        clear q0 k0
        go_wp2
        go_roundw
        case rel => exact ⟨j + 1, by omega, by go_num, hR9, by rw [HST.out]; exact hH9, hB9⟩
        case measure => simp [intOf]; omega
    · obtain rfl : j = n := by omega
      rw [List.take_of_length_le (by omega)] at hH
      have c0 := hH.cell 0
      have c1 := hH.cell 1
      have r0 := hR.cell 0
      have r1 := hR.cell 1
      have g0 := hR.frozen 0
      have g1 := hR.frozen 1
      have hR9 := Has.put2 hR (.int .i64 (firstT ts)) (.int .i64 0)
      have hB9 := below_put2 hB (Nat.le_refl _) (.int .i64 (firstT ts)) (.int .i64 0)
      have p0 := hR9.cell 0
      have p1 := hR9.cell 1
      clear hv
      go_wp2
      refine bodyPost_ret (v := .agg #[.int .i64 (firstT ts), .int .i64 0]) (by simp [results, Try.results61, go_sem, p0, p1]) rfl ⟨rfl, hB9⟩
end Go.Proofs.Ytnoppoimahfknaa.Level
end
section
/- The landed pace: what its memory holds, and what its calls answer and do. -/
set_option linter.unusedSimpArgs false
set_option linter.unusedVariables false
namespace Go.Proofs.Ytnoppoimahfknaa.Pace
open Go.RowKit RI64
/-- Block p is a pace's struct: over a window of sums at y (its line at x, its ring at b and g, n slots). -/
structure PaceIs (w : World) (p y x b g n : Nat) (h : List Int) : Prop where
  head : Has w p 112 #[.pointer (some ⟨y, 0, none⟩), .int .i64 (many h : Nat)]
  win : Window w y x b g n 7 (h.map distR)
  ne_ : p ≠ y ∧ p ≠ x ∧ p ≠ b ∧ p ≠ g
section
variable {w w' : World} {p y x b g n : Nat} {h : List Int}
theorem PaceIs.kept {S : List Nat} (L : PaceIs w p y x b g n h) (hk : Kept S w w') (h1 : p ∉ S) (h2 : y ∉ S) (h3 : x ∉ S) (h4 : b ∉ S) (h5 : g ∉ S) : PaceIs w' p y x b g n h := ⟨hk.has L.head h1, L.win.kept hk h2 h3 h4 h5, L.ne_⟩
theorem PaceIs.lt_ (L : PaceIs w p y x b g n h) : p < w.heap.size ∧ y < w.heap.size ∧ x < w.heap.size ∧ b < w.heap.size ∧ g < w.heap.size := ⟨L.head.lt, L.win.lt_⟩
end
def Pac (w : World) (p : Nat) (S : List Nat) (h : List Int) : Prop := ∃ y x b g n, S = [p, y, x, b, g] ∧ PaceIs w p y x b g n h
theorem win_sum (h : List Int) : wrap64 (winSum 7 (h.map distR)) = sumR h := by
  have h1 := sumR_bd h
  have h2 := many_bd h
  have h3 : winSum 7 (h.map distR) = sumR h := rfl
  rw [h3]
  unfold wrap64
  omega
theorem many_step (h : List Int) (v : Int) : (if (8 : Int) < (many h : Int) + 1 then 8 else (many h : Int) + 1) = (many (v :: h) : Int) := by
  unfold many
  rw [List.length_cons]
  split <;> omega
theorem mean_quo (h : List Int) (h0 : 0 < h.length) : (sumR h).tdiv (many h : Int) = meanT h := by
  have h1 := sumR_bd h
  unfold meanT
  rw [if_neg (by omega), Int.tdiv_eq_ediv_of_nonneg (by omega)]
theorem new_k (w : World) : Calls Try.prog 41 #[] w fun e w' => ∃ b S, e = .returned (.pointer (some ⟨b, 0, none⟩)) ∧ Pac w' b S [] ∧ (∀ k ∈ S, w.heap.size ≤ k) ∧ Below w.heap.size w w' := by
  have hln := window_of_yes 7 w (by omega)
  rw [show ((7 : Nat) : Int) + 1 = 8 from rfl] at hln
  go_enter Try.func41, Try.ntmps41
  go_wp2_with (go_at_call 56; ((with_reducible refine hln.mono ?_); rintro e w2 ⟨rfl, ⟨n, hL⟩, hB, hz⟩))
  go_ret
  refine ⟨_, _, rfl, ⟨_, _, _, _, n, rfl, ?_, by exact hL.alloc _, by omega⟩, fun k hk => by simp at hk; omega, hB.alloc hB.size _⟩
  have h9 := Has.new w2 112 #[.pointer (some ⟨w.heap.size + 3, 0, none⟩), .int .i64 0]
  rw [hz] at h9
  exact h9
theorem many_k (p y x b g n : Nat) (h : List Int) (w : World) (L : PaceIs w p y x b g n h) :
    Calls Try.prog 71 #[.pointer (some ⟨p, 0, none⟩)] w fun e w' => e = .returned (.int .i64 (many h : Nat)) ∧ w = w' := by
  have c1 := L.head.cell 1
  generalize many h = m at *
  go_enter Try.func71, Try.ntmps71
  go_wp2
  go_ret
  exact ⟨rfl, rfl⟩
set_option maxHeartbeats 1000000 in
theorem mean_k (p y x b g n : Nat) (h : List Int) (w : World) (L : PaceIs w p y x b g n h) :
    Calls Try.prog 49 #[.pointer (some ⟨p, 0, none⟩)] w fun e w' => e = .returned (.int .i64 (meanT h)) ∧ ∃ d, w' = w.drewN d := by
  have hmn := many_k p y x b g n h w L
  have c0 := L.head.cell 0
  have c1 := L.head.cell 1
  have hsm : ∀ d, Calls Try.prog 72 #[.pointer (some ⟨y, 0, none⟩)] (w.drewN d) fun e w' => e = .returned (.int .i64 (sumR h)) ∧ w' = w.drewN d := fun d => by
    have h1 := window_sum y x b g n 7 (h.map distR) (w.drewN d) (L.win.same rfl)
    rw [win_sum] at h1
    exact h1.mono fun e w' ⟨h2, h3⟩ => ⟨h2, h3.symm⟩
  have hsb := sumR_bd h
  have hmb := many_bd h
  by_cases h0 : h.length = 0
  · have hm : many h = 0 := by unfold many; omega
    have hr : meanT h = 0 := by unfold meanT; rw [if_pos h0]
    rw [hm] at hmn
    rw [hr]
    go_enter Try.func49, Try.ntmps49
    go_wp2_with (go_at_call 71; ((with_reducible refine hmn.mono ?_); rintro e w1 ⟨rfl, rfl⟩))
    go_ret
    exact ⟨rfl, 0, rfl⟩
  · have hm : 0 < many h := by unfold many; omega
    have hq := mean_quo h (by omega)
    have hmm := mean_bd h
    generalize meanT h = r at *
    generalize sumR h = s at *
    generalize many h = m at *
    have hm1 : ¬ (m : Int) = 0 := by omega
    go_enter Try.func49, Try.ntmps49
    go_wp2_with (go_at_call 71; ((with_reducible refine hmn.mono ?_); rintro e w1 ⟨rfl, rfl⟩))
    have HQ := Lib.hid hq
    clear L hsb hmb hm hq
    go_wp2
    go_quiet ((go_at_call 72; exact Calls.quiet_of_same (hsm _)))
    go_wp2
    go_ret
    rw [HQ.out, show wrap64 r = r from by unfold wrap64; omega]
    exact ⟨rfl, _, rfl⟩
theorem no_many (w : World) : Calls Try.prog 71 #[.pointer none] w fun e w' => e = .returned (.int .i64 0) ∧ w = w' := by
  go_enter Try.func71, Try.ntmps71
  go_wp2
  go_ret
  exact ⟨rfl, rfl⟩
theorem no_mean (w : World) : Calls Try.prog 49 #[.pointer none] w fun e w' => e = .returned (.int .i64 0) ∧ w = w' := by
  have hmn := no_many w
  go_enter Try.func49, Try.ntmps49
  go_wp2_with (go_at_call 71; ((with_reducible refine hmn.mono ?_); rintro e w1 ⟨rfl, rfl⟩))
  go_ret
  exact ⟨rfl, rfl⟩
theorem no_late (w : World) (s : Int) : Calls Try.prog 68 #[.pointer none, .int .i64 s] w fun e w' => e = .returned (.bool false) ∧ w = w' := by
  have hmn := no_many w
  go_enter Try.func68, Try.ntmps68
  go_wp2_with (go_at_call 71; ((with_reducible refine hmn.mono ?_); rintro e w1 ⟨rfl, rfl⟩))
  go_ret
  exact ⟨rfl, rfl⟩
theorem no_add (w : World) (A : Option Addr) (n c : Nat) : Calls Try.prog 81 #[.pointer none, .slice A n c] w fun e w' => e = .returned (.tuple #[]) ∧ w = w' := by
  go_enter Try.func81, Try.ntmps81
  go_wp2
  exact bodyPost_ret (results_none rfl _ _ _) rfl ⟨rfl, rfl⟩
theorem late_k (p y x b g n : Nat) (h : List Int) (s : Int) (w : World) (L : PaceIs w p y x b g n h) :
    Calls Try.prog 68 #[.pointer (some ⟨p, 0, none⟩), .int .i64 s] w fun e w' => e = .returned (.bool (lateT h s)) ∧ ∃ d, w' = w.drewN d := by
  have hmn := many_k p y x b g n h w L
  have hme := mean_k p y x b g n h w L
  have hmm := mean_bd h
  by_cases h0 : h.length = 0
  · have hm : many h = 0 := by unfold many; omega
    have hr : lateT h s = false := by unfold lateT; simp [h0]
    rw [hm] at hmn
    rw [hr]
    go_enter Try.func68, Try.ntmps68
    go_wp2_with (go_at_call 71; ((with_reducible refine hmn.mono ?_); rintro e w1 ⟨rfl, rfl⟩))
    go_ret
    exact ⟨rfl, 0, rfl⟩
  · have hm : 0 < many h := by unfold many; omega
    have hl : lateT h s = decide (5 * meanT h / 3 < s) := by
      unfold lateT
      rw [decide_eq_true (show 0 < h.length by omega), Bool.true_and]
    generalize lateT h s = t at *
    generalize meanT h = r at *
    generalize many h = m at *
    go_enter Try.func68, Try.ntmps68
    go_wp2_with (first
      | (go_at_call 71; ((with_reducible refine hmn.mono ?_); rintro e w1 ⟨rfl, rfl⟩))
      | (go_at_call 49; ((with_reducible refine hme.mono ?_); rintro e w1 ⟨rfl, d, rfl⟩)))
    go_ret
    rw [hl]
    exact ⟨rfl, d, rfl⟩
theorem add_step (ys : List Int) (h : List Int) (k : Nat) (hk : k < ys.length) : ys.getD k 0 :: ((ys.take k).reverse ++ h) = (ys.take (k + 1)).reverse ++ h := by
  rw [List.take_succ_eq_append_getElem hk, List.reverse_append, List.getD_eq_getElem?_getD, List.getElem?_eq_getElem hk]
  simp
def Adding (w : World) (p y x b g m : Nat) (h ys : List Int) (n : Nat) (i : Value) (wr : World) : Prop :=
  ∃ k, k ≤ n ∧ i = .int .i64 (k : Nat) ∧ PaceIs wr p y x b g m ((ys.take k).reverse ++ h) ∧ Kept [p, y, x, b, g] w wr
set_option maxHeartbeats 1000000 in
theorem add_k (p y x b g m : Nat) (h : List Int) (A : Option Addr) (n c : Nat) (ys : List Int) (w : World) (L : PaceIs w p y x b g m h) (hv : Vals w A n ys) (hn : n ≤ 100000) (hfar : ∀ x', 0 < n → A = some x' → x'.block ∉ [p, y, x, b, g]) :
    Calls Try.prog 81 #[.pointer (some ⟨p, 0, none⟩), .slice A n c] w fun e w' => e = .returned (.tuple #[]) ∧ PaceIs w' p y x b g m (ys.reverse ++ h) ∧ Kept [p, y, x, b, g] w w' := by
  have hK := Kept.refl [p, y, x, b, g] w
  have hy := hv.len_
  have hfar2 : 0 < n → ∀ x', A = some x' → x'.block ∉ [p, y, x, b, g] := fun h0 x' hx => hfar x' h0 hx
  go_enter Try.func81, Try.ntmps81
  go_wp2
  go_loopw [10] (fun i wr => Adding w p y x b g m h ys n i wr) (fun i _ => n - (intOf i).toNat)
  case atStart => exact ⟨0, by omega, rfl, L, hK⟩
  case round =>
    clear L hK
    obtain ⟨k, hk, rfl, hL, hK⟩ := hrel
    by_cases hlt : k < n
    · obtain ⟨x', rfl, hcx⟩ := (hv.kept hK hfar2).cells (by omega)
      have hcell := hcx k hlt
      have hst := add_step ys h k (by omega)
      have hH := hL.head
      have c0 := hH.cell 0
      have hne := hL.ne_
      have hmb := many_bd ((ys.take k).reverse ++ h)
      obtain ⟨q, hq⟩ : ∃ q, (if ys.getD k 0 < 1 then 1 else ys.getD k 0) = q := ⟨_, rfl⟩
      have hr := distR_ifs (ys.getD k 0) q hq
      have hmst := many_step ((ys.take k).reverse ++ h) (ys.getD k 0)
      have hpu := fun W hW => window_push y x b g m 7 (((ys.take k).reverse ++ h).map distR) (distR (ys.getD k 0)) W hW
      unfold WindowBecame at hpu
      rw [show distR (ys.getD k 0) :: ((ys.take k).reverse ++ h).map distR = (ys.getD k 0 :: ((ys.take k).reverse ++ h)).map distR from rfl] at hpu
      rw [hst] at hpu hmst
      have hW := hL.win
      have HH := Lib.hid hH
      have HN := Lib.hid hne
      have hp : p ∉ [y, b, g] := by simp; omega
      have f1 := fun W (hW : Has W p 112 #[.pointer (some ⟨y, 0, none⟩), .int .i64 (many ((ys.take k).reverse ++ h) : Nat)]) => hW.frozen 1
      have HW := Lib.hid hW
      clear hst hcx hv hfar hfar2 hy hL hW
      generalize hh2 : (ys.take (k + 1)).reverse ++ h = h2 at *
      have HH2 := Lib.hid hh2
      clear hh2
      generalize (ys.take k).reverse ++ h = h1 at *
      generalize distR (ys.getD k 0) = r at *
      generalize ys.getD k 0 = v at *
      obtain ⟨m1, hm1⟩ : ∃ m1, many h1 = m1 := ⟨_, rfl⟩
      obtain ⟨m2, hm2⟩ : ∃ m2, many h2 = m2 := ⟨_, rfl⟩
      rw [hm1] at hH hmst hmb f1 c0
      rw [hm2] at hmst
      have HM1 := Lib.hid hm1
      have HM2 := Lib.hid hm2
      clear hm1 hm2 hne
      have HP := Lib.hid (show ∀ w1, Kept [y, b, g] wr w1 → Has w1 p 112 #[.pointer (some ⟨y, 0, none⟩), .int .i64 (m1 : Nat)] from fun w1 hK1 => hK1.has hH hp)
      clear hH hp HH
      go_wp2_with (go_at_call 86; ((with_reducible refine (hpu _ (by exact HW.out)).mono ?_); rintro e w1 ⟨rfl, hL1, hK1⟩; have hH1 := HP.out w1 hK1; have c1 := hH1.cell 1; have d0 := hH1.cell 0; have f1' := f1 _ hH1))
      go_roundw
      case rel =>
        have hK2 : Kept [p] w1 (w1.setCell ⟨p, 1, none⟩ (.int .i64 (m2 : Nat))) := (Kept.refl [p] w1).setCell (p := ⟨p, 1, none⟩) (.inl (by simp)) _
        have hne := HN.out
        have hK3 := hK.trans ((hK1.wide (T := [p, y, x, b, g]) (fun k hk _ => by simp at hk ⊢; rcases hk with rfl | rfl | rfl <;> simp)).trans (hK2.wide (fun k hk _ => by simp at hk; simp [hk])))
        refine ⟨k + 1, by omega, by go_num, ?_, hK3⟩
        rw [HH2.out]
        refine ⟨?_, hL1.kept hK2 (by simp; omega) (by simp; omega) (by simp; omega) (by simp; omega), hne⟩
        have h9 := hH1.set_ 1 (.int .i64 (m2 : Nat))
        rw [HM2.out]
        simpa using h9
      case measure => simp [intOf]; omega
    · obtain rfl : k = n := by omega
      rw [List.take_of_length_le (by omega)] at hL
      have HL := Lib.hid hL
      clear hv hfar hfar2 hL hy
      go_wp2
      go_end0
      exact ⟨rfl, HL.out, hK⟩
/-- What the landed pace answers. -/
theorem kit : PaceKit Pac where
  lt := by
    rintro w b S h ⟨y, x, b', g, n, rfl, L⟩
    have := L.lt_
    exact ⟨by simp, fun k hk => by simp at hk; omega⟩
  kept := by
    rintro w w' b S h T ⟨y, x, b', g, n, rfl, L⟩ hK hd
    exact ⟨y, x, b', g, n, rfl, L.kept hK (hd _ (by simp)) (hd _ (by simp)) (hd _ (by simp)) (hd _ (by simp)) (hd _ (by simp))⟩
  new_any := new_k
  add_any := by
    rintro w b S h A n c ys ⟨y, x, b', g, m, rfl, L⟩ hv hn hfar
    exact (add_k b y x b' g m h A n c ys w L hv hn hfar).mono fun e w' ⟨h1, h2, h3⟩ => ⟨h1, ⟨y, x, b', g, m, rfl, h2⟩, h3⟩
  mean_any := by
    rintro w b S h ⟨y, x, b', g, m, rfl, L⟩
    exact (mean_k b y x b' g m h w L).mono fun e w' ⟨h1, d, h2⟩ => ⟨h1, by rw [h2]; exact ((Kept.refl [] w).drewN d).below (Nat.le_refl _) (by simp)⟩
  many_any := by
    rintro w b S h ⟨y, x, b', g, m, rfl, L⟩
    exact (many_k b y x b' g m h w L).mono fun e w' ⟨h1, h2⟩ => ⟨h1, by rw [← h2]; exact Below.refl _ w⟩
  late_any := by
    rintro w b S h s ⟨y, x, b', g, m, rfl, L⟩
    exact (late_k b y x b' g m h s w L).mono fun e w' ⟨h1, d, h2⟩ => ⟨h1, by rw [h2]; exact ((Kept.refl [] w).drewN d).below (Nat.le_refl _) (by simp)⟩
  no_add := fun w A n c => (no_add w A n c).mono fun e w' ⟨h1, h2⟩ => ⟨h1, by rw [← h2]; exact Below.refl _ w⟩
  no_mean := fun w => (no_mean w).mono fun e w' ⟨h1, h2⟩ => ⟨h1, by rw [← h2]; exact Below.refl _ w⟩
  no_many := fun w => (no_many w).mono fun e w' ⟨h1, h2⟩ => ⟨h1, by rw [← h2]; exact Below.refl _ w⟩
  no_late := fun w s => (no_late w s).mono fun e w' ⟨h1, h2⟩ => ⟨h1, by rw [← h2]; exact Below.refl _ w⟩
end Go.Proofs.Ytnoppoimahfknaa.Pace
end
section
/- QrsAlike, over whatever a detector's calls answer. -/
set_option linter.unusedSimpArgs false
set_option linter.unusedVariables false
namespace Go.Proofs.Ytnoppoimahfknaa.Qrs
open Go.RowKit
theorem go_cnt (d : D) (w s : Int) : ∀ k, (goT d w s k).1 ≤ 2 * k
  | 0 => Nat.le_refl _
  | k + 1 => by
    have h1 := go_cnt d w s k
    have h2 := step_len (goT d w s k).2 (goT d w s k).2.n w s
    show (goT d w s k).1 + (stepT (goT d w s k).2 (goT d w s k).2.n w s).1.length ≤ _
    omega
/-- A detector, and what the law's function captured: how many were told, the detector, and at which step it is. -/
structure Al (Det : World → Nat → List Nat → D → Prop) (w0 : World) (gt gd ga b : Nat) (S : List Nat) (d : D) (told : Int) (W : World) : Prop where
  ht : Has W gt 3 #[.int .i64 told]
  hd : Has W gd 23 #[.pointer (some ⟨b, 0, none⟩)]
  ha : Has W ga 2 #[.int .i64 d.n]
  det : Det W b S d
  ot : gt ∉ S
  od : gd ∉ S
  oa : ga ∉ S
  nta : gt ≠ ga
  ntd : gt ≠ gd
  nda : gd ≠ ga
  bt : w0.heap.size ≤ gt
  ba : w0.heap.size ≤ ga
  far : ∀ k ∈ S, w0.heap.size ≤ k
  below : Below w0.heap.size w0 W
section
variable {Det : World → Nat → List Nat → D → Prop} (K : QrsKit Det) {w0 W W' : World} {gt gd ga b : Nat} {S S' : List Nat} {d d' : D} {told : Int}
include K
theorem Al.grow (h : Al Det w0 gt gd ga b S d told W) (hB : Below W.heap.size W W') : Al Det w0 gt gd ga b S d told W' :=
  { h with ht := h.ht.below hB h.ht.lt, hd := h.hd.below hB h.hd.lt, ha := h.ha.below hB h.ha.lt, det := K.below h.det hB, below := h.below.trans (hB.mono h.below.size) }
/-- A step was pushed, and both counts are raised. -/
theorem Al.step (h : Al Det w0 gt gd ga b S d told W) (hD : Det W' b S' d') (hn : ∀ k ∈ S', k ∈ S ∨ W.heap.size ≤ k) (hK : Kept S W W') (m : Int) (hd' : d'.n = d.n + 1) :
    Al Det w0 gt gd ga b S' d' (told + m) ((W'.setCell ⟨gt, 0, none⟩ (.int .i64 (told + m))).setCell ⟨ga, 0, none⟩ (.int .i64 (d.n + 1))) := by
  have ht := hK.has h.ht h.ot
  have hd := hK.has h.hd h.od
  have ha := hK.has h.ha h.oa
  have off : ∀ g, g ∉ S → g < W.heap.size → g ∉ S' := fun g h1 h2 h3 => by rcases hn g h3 with h4 | h4; exact h1 h4; omega
  have hk2 : Kept [gt, ga] W' ((W'.setCell ⟨gt, 0, none⟩ (.int .i64 (told + m))).setCell ⟨ga, 0, none⟩ (.int .i64 (d.n + 1))) := ((Kept.refl _ W').setCell (p := ⟨gt, 0, none⟩) (.inl (by simp)) _).setCell (p := ⟨ga, 0, none⟩) (.inl (by simp)) _
  have hb1 := below_kept h.below hK h.below.size h.far
  refine ⟨?_, ?_, ?_, K.kept hD hk2 (fun k hk h9 => ?_), off gt h.ot h.ht.lt, off gd h.od h.hd.lt, off ga h.oa h.ha.lt, h.nta, h.ntd, h.nda, h.bt, h.ba, fun k hk => ?_, ?_⟩
  · have h1 := (ht.set_ 0 (.int .i64 (told + m))).far (p := ⟨ga, 0, none⟩) h.nta (.int .i64 (d.n + 1))
    simpa using h1
  · exact (hd.far (p := ⟨gt, 0, none⟩) (Ne.symm h.ntd) _).far (p := ⟨ga, 0, none⟩) h.nda _
  · have h1 := (ha.far (p := ⟨gt, 0, none⟩) (Ne.symm h.nta) (.int .i64 (told + m))).set_ 0 (.int .i64 (d.n + 1))
    rw [hd']
    simpa using h1
  · rcases List.mem_cons.1 h9 with rfl | h9
    · exact off _ h.ot h.ht.lt hk
    · obtain rfl := List.mem_singleton.1 h9
      exact off _ h.oa h.ha.lt hk
  · rcases hn k hk with h4 | h4
    · exact h.far k h4
    · exact Nat.le_trans h.below.size h4
  · exact below_kept hb1 hk2 hb1.size (fun k hk => by
      rcases List.mem_cons.1 hk with h9 | h9
      · rw [h9]; exact h.bt
      · rw [List.mem_singleton.1 h9]; exact h.ba)
end
set_option maxRecDepth 100000 in
set_option maxHeartbeats 4000000 in
theorem push_c {Det : World → Nat → List Nat → D → Prop} (K : QrsKit Det) (w0 : World) (gt gd ga b : Nat) (S : List Nat) (d : D) (told : Int) (v : Wv) (n : Nat) (w : World) (h : Al Det w0 gt gd ga b S d told w) (hn0 : 0 ≤ d.n) (hn : d.n + (n : Int) ≤ 1000000) (ht : 0 ≤ told ∧ told ≤ 1000000) (hv1 : fits64 v.2.1) (hv2 : fits64 v.2.2.2) :
    Calls Try.prog 22 #[wvV v, .int .i64 (n : Nat), .pointer (some ⟨gt, 0, none⟩), .pointer (some ⟨gd, 0, none⟩), .pointer (some ⟨ga, 0, none⟩)] w
      fun e w' => e = .returned (.tuple #[]) ∧ ∃ S', Al Det w0 gt gd ga b S' (goT d v.2.2.2 v.2.1 n).2 (told + ((goT d v.2.2.2 v.2.1 n).1 : Int)) w' := by
  obtain ⟨p, q, r, s⟩ := v
  dsimp only at hv1 hv2 ⊢
  have hH0 := Has.new w 28 #[.int .i64 p, .int .i64 q, .int .i64 r, .int .i64 s]
  have hA0 := h.grow K ((Below.refl _ w).alloc (Nat.le_refl _) (.cells #[.int .i64 p, .int .i64 q, .int .i64 r, .int .i64 s] 28))
  have hx : ∀ k, k = gt ∨ k = ga → k ≠ w.heap.size := fun k hk => by rcases hk with rfl | rfl; exact Nat.ne_of_lt h.ht.lt; exact Nat.ne_of_lt h.ha.lt
  have hxS : w.heap.size ∉ S := fun h9 => Nat.lt_irrefl _ ((K.lt h.det).2 _ h9)
  unfold wvV
  go_enter Try.func22, Try.ntmps22
  go_wp2
  generalize w.alloc (.cells #[.int .i64 p, .int .i64 q, .int .i64 r, .int .i64 s] 28) = w1 at *
  generalize w.heap.size = g at *
  clear h
  go_loopw [8] (fun i wr => ∃ (k : Nat) (S' : List Nat), k ≤ n ∧ i = .int .i64 (k : Nat) ∧ g ∉ S' ∧ Has wr g 28 #[.int .i64 p, .int .i64 q, .int .i64 r, .int .i64 s] ∧ Al Det w0 gt gd ga b S' (goT d s q k).2 (told + ((goT d s q k).1 : Int)) wr) (fun i _ => n - (intOf i).toNat)
  case atStart => exact ⟨0, S, by omega, rfl, hxS, hH0, by simpa [goT] using hA0⟩
  case round =>
    clear hA0 hH0 hxS
    obtain ⟨k, S1, hk, rfl, hg, hH, hA⟩ := hrel
    by_cases hkn : k < n
    · have hkz : (k : Int) < (n : Int) := by omega
      have hgn := go_n d s q k
      have hgc := go_cnt d s q k
      have e1 : (goT d s q (k + 1)).2 = (stepT (goT d s q k).2 (goT d s q k).2.n s q).2 := rfl
      have e2 : ((goT d s q (k + 1)).1 : Int) = ((goT d s q k).1 : Int) + ((stepT (goT d s q k).2 (goT d s q k).2.n s q).1.length : Int) := by
        show (((goT d s q k).1 + (stepT (goT d s q k).2 (goT d s q k).2.n s q).1.length : Nat) : Int) = _
        push_cast; rfl
      have hsn := step_n (goT d s q k).2 (goT d s q k).2.n s q
      have hsl := step_len (goT d s q k).2 (goT d s q k).2.n s q
      obtain ⟨t0, ht0⟩ : ∃ t0, told + ((goT d s q k).1 : Int) = t0 := ⟨_, rfl⟩
      rw [ht0] at hA
      have ht0b : 0 ≤ t0 ∧ t0 ≤ 3000000 := by omega
      have e3 : told + ((goT d s q (k + 1)).1 : Int) = t0 + ((stepT (goT d s q k).2 (goT d s q k).2.n s q).1.length : Int) := by rw [e2, ← ht0, Int.add_assoc]
      have hpu := fun W (hd : Det W b S1 (goT d s q k).2) => K.push_any W b S1 (goT d s q k).2 (goT d s q k).2.n (p, q, r, s) hd (by omega) (by unfold fits64; omega) hv1 hv2
      dsimp only at hpu
      have hfin : ∀ S2 W2, Al Det w0 gt gd ga b S2 (stepT (goT d s q k).2 (goT d s q k).2.n s q).2 (t0 + ((stepT (goT d s q k).2 (goT d s q k).2.n s q).1.length : Int)) W2 → Al Det w0 gt gd ga b S2 (goT d s q (k + 1)).2 (told + ((goT d s q (k + 1)).1 : Int)) W2 := fun S2 W2 h9 => by rw [e1, e3]; exact h9
      clear e1 e2 e3 ht0 hgc
      generalize (goT d s q k).2 = dk at *
      obtain ⟨m, hm⟩ : ∃ m, (stepT dk dk.n s q).1.length = m := ⟨_, rfl⟩
      obtain ⟨N, hN⟩ : ∃ N, dk.n = N := ⟨_, rfl⟩
      have hNb : 0 ≤ N ∧ N ≤ 1000000 := by omega
      rw [hm] at hpu hsl hfin
      rw [hN] at hpu hsn hfin
      clear hgn hkn
      unfold wvV at hpu
      have hAd : Al Det w0 gt gd ga b S1 dk t0 wr.drew := { hA with det := K.kept hA.det ((Kept.refl [] wr).drewN 1) (fun _ _ h9 => by cases h9), below := below_drewN hA.below 1 }
      have hHd := hH.drew
      go_wp2
      have cd := hAd.hd.cell 0
      have ct := hAd.ht.cell 0
      have ca := hAd.ha.cell 0
      rw [hN] at ca
      have g0 := hHd.cell 0
      have g1 := hHd.cell 1
      have g2 := hHd.cell 2
      have g3 := hHd.cell 3
      clear hA hH
      refine Till.begin_ (T := [7]) (S := fun W => W.cell? ⟨gt, 0, none⟩ = some (.int .i64 t0) ∧ W.cell? ⟨gd, 0, none⟩ = some (.pointer (some ⟨b, 0, none⟩)) ∧ W.cell? ⟨ga, 0, none⟩ = some (.int .i64 N) ∧ W.cell? ⟨g, 0, none⟩ = some (.int .i64 p) ∧ W.cell? ⟨g, 1, none⟩ = some (.int .i64 q) ∧ W.cell? ⟨g, 2, none⟩ = some (.int .i64 r) ∧ W.cell? ⟨g, 3, none⟩ = some (.int .i64 s)) (by kernel_rfl) ?_ (fun hHeld => ?_)
      · exact ⟨ct, cd, ca, g0, g1, g2, g3⟩
      refine Till.take (i := 0) (v := ?v1) rfl (by kernel_rfl) (by kernel_rfl) (by kernel_rfl) (by kernel_rfl) (by rfl) ?hv1 (by assumption) ?rest1
      case hv1 => first | (intro w hSw; (try dsimp only at hSw); go_simp; done) | (intro w hSw; (try dsimp only at hSw); go_simp; with_reducible rfl)
      (try simp only [Act.put, List.setIfInBounds_toArray, List.set_cons_zero, List.set_cons_succ])
      refine Till.take (i := 1) (v := ?v2) rfl (by kernel_rfl) (by kernel_rfl) (by kernel_rfl) (by kernel_rfl) (by rfl) ?hv2 (by assumption) ?rest2
      case hv2 => first | (intro w hSw; (try dsimp only at hSw); go_simp; done) | (intro w hSw; (try dsimp only at hSw); go_simp; with_reducible rfl)
      (try simp only [Act.put, List.setIfInBounds_toArray, List.set_cons_zero, List.set_cons_succ])
      refine Till.take (i := 2) (v := ?v3) rfl (by kernel_rfl) (by kernel_rfl) (by kernel_rfl) (by kernel_rfl) (by rfl) ?hv3 (by assumption) ?rest3
      case hv3 => first | (intro w hSw; (try dsimp only at hSw); go_simp; done) | (intro w hSw; (try dsimp only at hSw); go_simp; with_reducible rfl)
      (try simp only [Act.put, List.setIfInBounds_toArray, List.set_cons_zero, List.set_cons_succ])
      refine Till.take (i := 3) (v := ?v4) rfl (by kernel_rfl) (by kernel_rfl) (by kernel_rfl) (by kernel_rfl) (by rfl) ?hv4 (by assumption) ?rest4
      case hv4 => first | (intro w hSw; (try dsimp only at hSw); go_simp; done) | (intro w hSw; (try dsimp only at hSw); go_simp; with_reducible rfl)
      (try simp only [Act.put, List.setIfInBounds_toArray, List.set_cons_zero, List.set_cons_succ])
      clear hHeld
      generalize wr.drew = WA at *
      refine Till.call (i := 4) rfl (by kernel_rfl) (by rfl) ?_
      intro K' hK'
      go_simp
      go_at_call 14
      refine Calls.mono (by exact hpu _ hAd.det) ?_
      rintro e W4 ⟨B, S', c, rfl, hmc, hV, hD, hnw, hfar, hK⟩
      have kt := hK.has hAd.ht hAd.ot
      have kd := hK.has hAd.hd hAd.od
      have ka := hK.has hAd.ha hAd.oa
      have kg := hK.has hHd hg
      rw [hN] at ka
      refine hK'.out _ _ (by exact ⟨kt.cell 0, kd.cell 0, ka.cell 0, kg.cell 0, kg.cell 1, kg.cell 2, kg.cell 3⟩) (fun hHeld => ?_)
      clear hK' K'
      (try simp only [Act.put, List.setIfInBounds_toArray, List.set_cons_zero, List.set_cons_succ])
      have hwr : IntKind.i64.wrap (t0 + (m : Int)) = t0 + (m : Int) := IntWalk.i64_in _ (by omega)
      refine Till.take (i := 5) (v := ?v5) rfl (by kernel_rfl) (by kernel_rfl) (by kernel_rfl) (by kernel_rfl) (by rfl) ?hv5 (by assumption) ?rest5
      case hv5 => first | (intro w hSw; (try dsimp only at hSw); go_simp; done) | (intro w hSw; (try dsimp only at hSw); go_simp; with_reducible rfl)
      (try simp only [Act.put, List.setIfInBounds_toArray, List.set_cons_zero, List.set_cons_succ])
      refine Till.take (i := 6) (v := ?v6) rfl (by kernel_rfl) (by kernel_rfl) (by kernel_rfl) (by kernel_rfl) (by rfl) ?hv6 (by assumption) ?rest6
      case hv6 => first | (intro w hSw; (try dsimp only at hSw); go_simp; done) | (intro w hSw; (try dsimp only at hSw); go_simp; with_reducible rfl)
      (try simp only [Act.put, List.setIfInBounds_toArray, List.set_cons_zero, List.set_cons_succ])
      clear hHeld
      have hst := hAd.step K hD hnw hK (m : Int) (by rw [hN]; exact hsn)
      have hgt : g ≠ gt := fun h9 => hx gt (.inl rfl) h9.symm
      have hga : g ≠ ga := fun h9 => hx ga (.inr rfl) h9.symm
      have hgS : g ∉ S' := fun h9 => by rcases hnw g h9 with h8 | h8; exact hg h8; exact Nat.lt_irrefl _ (Nat.lt_of_lt_of_le hHd.lt h8)
      have hHe := (kg.far (p := ⟨gt, 0, none⟩) hgt (.int .i64 (t0 + (m : Int)))).far (p := ⟨ga, 0, none⟩) hga (.int .i64 (dk.n + 1))
      rw [hN] at hst hHe
      have u0 := kt.cell 0
      have u1 := kt.frozen 0
      have ka2 := ka.far (p := ⟨gt, 0, none⟩) (Ne.symm hAd.nta) (.int .i64 (t0 + (m : Int)))
      have u2 := ka2.cell 0
      have u3 := ka2.frozen 0
      refine Till.put (i := 7) rfl (by kernel_rfl) (by rfl) (by rfl) ?_
      intro K' hK'
      go_simp
      refine hK'.out _ _ ?_
      clear hK' K'
      (try simp only [Act.put, List.setIfInBounds_toArray, List.set_cons_zero, List.set_cons_succ])
      refine Till.done (by kernel_rfl) ?_ _
      clear ct cd ca g0 g1 g2 g3 kt kd ka kg hpu hAd hHd hK hD hnw hV u0 u1 ka2
      go_wp2
      go_roundw
      case rel => exact ⟨k + 1, S', by omega, by go_num, hgS, hHe, hfin _ _ hst⟩
      case measure => simp [intOf]; omega
    · obtain rfl : k = n := by omega
      go_wp2
      go_end0
      exact ⟨rfl, S1, hA⟩
/-- A bump: quiet, wide, top, slope. -/
abbrev Bump := Int × Int × Int × Int
def bpS : Row.Shape Bump := ⟨4, fun v => [.int .u8 v.1, .int .u8 v.2.1, .int .u32 v.2.2.1, .int .i32 v.2.2.2], fun _ => rfl, by decide, fun p u hu => by
  simp at hu
  rcases hu with rfl | rfl | rfl | rfl <;> rfl⟩
/-- A bump that came in. -/
def BumpOk (v : Bump) : Prop := (0 ≤ v.1 ∧ v.1 ≤ 255) ∧ (0 ≤ v.2.1 ∧ v.2.1 ≤ 255) ∧ (0 ≤ v.2.2.1 ∧ v.2.2.1 ≤ 4294967295) ∧ (-2147483648 ≤ v.2.2.2 ∧ v.2.2.2 ≤ 2147483647)
theorem bump_cells {w : World} {x : Addr} {len : Nat} {ys : List Bump} (h : Row.Vals bpS w (some x) len ys) (i : Nat) (hi : i < len) :
    w.cell? (x.add (i * 4)) = some (.int .u8 (ys.getD i (0, 0, 0, 0)).1) ∧ w.cell? ⟨(x.add (i * 4)).block, (x.add (i * 4)).off + 1, none⟩ = some (.int .u8 (ys.getD i (0, 0, 0, 0)).2.1) ∧
    w.cell? ⟨(x.add (i * 4)).block, (x.add (i * 4)).off + 2, none⟩ = some (.int .u32 (ys.getD i (0, 0, 0, 0)).2.2.1) ∧ w.cell? ⟨(x.add (i * 4)).block, (x.add (i * 4)).off + 3, none⟩ = some (.int .i32 (ys.getD i (0, 0, 0, 0)).2.2.2) := by
  have hl := h.len_
  have e : ys.getD i (0, 0, 0, 0) = ys[i]'(by omega) := by rw [List.getD_eq_getElem?_getD, List.getElem?_eq_getElem (by omega)]; rfl
  rw [e]
  exact ⟨by simpa [bpS] using h.at_ i 0 (by omega) _ rfl, part_at h i 1 (by omega) _ rfl (by omega), part_at h i 2 (by omega) _ rfl (by omega), part_at h i 3 (by omega) _ rfl (by omega)⟩
/-- Where the loop of pulses stands. -/
structure Ps (base : Int) (i : Nat) (d : D) : Prop where
  calm : ∃ k g, Calm base k g d ∧ (4 ≤ i → 400 < d.n ∧ 72 ≤ g ∧ 0 < k)
  fin : d.fin = .falls (some 0)
  early : i ≤ 4 → d.n = 80 + 83 * (i : Int)
  far : d.n ≤ 80 + 203 * (i : Int)
  n0 : 0 ≤ d.n
theorem ps_begin (base : Int) (hb : 257 ≤ base ∧ base ≤ 31457280) : Ps base 0 (goT noD 0 0 80).2 := by
  obtain ⟨_, h2, h3, h4⟩ := go_begin base hb
  exact ⟨⟨0, 80, h2, fun h => by omega⟩, h3, fun _ => by rw [h4]; rfl, by rw [h4]; decide, by rw [h4]; decide⟩
theorem ps_next (base : Int) (hb : 257 ≤ base ∧ base ≤ 31457280) (i : Nat) (d : D) (h : Ps base i d) (top : Int) (ht : base ≤ top ∧ top ≤ 2 * base) (q : Nat) (hq : 80 ≤ q ∧ q ≤ 200) (hearly : i < 4 → top = base ∧ q = 80) :
    (goT d top 5 3).1 = 0 ∧ (goT (goT d top 5 3).2 0 0 q).1 = (if 400 ≤ d.n + 3 then 1 else 0) ∧ (goT d top 5 3).2.n = d.n + 3 ∧ Ps base (i + 1) (goT (goT d top 5 3).2 0 0 q).2 := by
  obtain ⟨k, g, hc, h4⟩ := h.calm
  have he := h.early
  obtain ⟨e1, e2, ⟨k', g', hk', hg', e3⟩, e4, e5⟩ := go_round base k hb d g hc h.fin top ht q hq.1 (by
    by_cases hi : i < 4
    · have := he (by omega)
      exact .inl ⟨by omega, (hearly hi).1⟩
    · exact .inr (h4 (by omega)))
  have e6 : (goT d top 5 3).2.n = d.n + 3 := go_n d top 5 3
  refine ⟨e1, e2, e6, ⟨k', g', e3, fun h5 => ⟨?_, hg', hk'⟩⟩, e4, fun h5 => ?_, ?_, ?_⟩
  · rw [e5]
    by_cases hi : i < 4
    · have := he (by omega); omega
    · have := (h4 (by omega)).1; omega
  · have h6 := he (by omega)
    have h7 := (hearly (by omega)).2
    rw [e5, h6, h7]; push_cast; omega
  · have := h.far
    rw [e5]; push_cast; omega
  · have := h.n0
    rw [e5]; omega
set_option maxRecDepth 100000 in
set_option maxHeartbeats 8000000 in
theorem alike_k {Det : World → Nat → List Nat → D → Prop} (K : QrsKit Det) (a0 : Int) (a1 : Option Addr) (len1 cap1 : Nat) (z1 : List Bump) (w : World) (b0 : 0 ≤ a0 ∧ a0 ≤ 4294967295) (w1 : Row.IsFlat bpS BumpOk w a1 len1 cap1 z1) :
    Calls Try.prog 6 #[.int .u32 a0, .slice a1 len1 cap1] w fun e w' => e = .returned (.bool true) ∧ Below w.heap.size w w' := by
  obtain ⟨hV, hok, hc1, hc2, hfar⟩ := w1
  have hmf : ∀ (fn : Fn) (first cap : Array Value) (W : World), (Instr.makeFunc fn first cap).run Try.prog W = .ok (.func fn first cap) W := fun _ _ _ _ => rfl
  obtain ⟨p, hp⟩ : ∃ p, min len1 12 = p := ⟨_, rfl⟩
  have hp1 : p ≤ len1 := by omega
  have hp2 : p ≤ 12 := by omega
  have hminA : (if (12 : Int) < (len1 : Int) then (12 : Int) else (len1 : Int)) = (p : Int) := by split <;> omega
  have hli := fun W => live_k K W
  have hnew := K.new_any w
  have hb : 257 ≤ 257 + a0 % 16777216 ∧ 257 + a0 % 16777216 ≤ 31457280 := by omega
  go_enter Try.func6, Try.ntmps6
  go_upto_region 5 with (first
    | (go_at_call 12; ((with_reducible refine hnew.mono ?_); rintro e W1 ⟨b, S, rfl, hP, hfarS, hB1⟩)))
  have hsz1 : (W1.alloc (.cells #[.pointer (some ⟨b, 0, none⟩)] 23)).heap.size = W1.heap.size + 1 := by simp
  have hsz2 : ((W1.alloc (.cells #[.pointer (some ⟨b, 0, none⟩)] 23)).alloc (.cells #[.int .i64 0] 2)).heap.size = W1.heap.size + 1 + 1 := by simp
  have hA0 : Al Det w (W1.heap.size + 1 + 1) W1.heap.size (W1.heap.size + 1) b S noD 0 (((W1.alloc (.cells #[.pointer (some ⟨b, 0, none⟩)] 23)).alloc (.cells #[.int .i64 0] 2)).alloc (.cells #[.int .i64 0] 3)) := by
    have h1 := Has.new W1 23 #[.pointer (some ⟨b, 0, none⟩)]
    have h2 := Has.new (W1.alloc (.cells #[.pointer (some ⟨b, 0, none⟩)] 23)) 2 #[.int .i64 0]
    have h3 := Has.new ((W1.alloc (.cells #[.pointer (some ⟨b, 0, none⟩)] 23)).alloc (.cells #[.int .i64 0] 2)) 3 #[.int .i64 0]
    rw [hsz1] at h2
    rw [hsz2] at h3
    have hw := hB1.size
    have hlt := (K.lt hP).2
    exact ⟨h3, (h1.alloc _).alloc _, h2.alloc _, K.alloc (K.alloc (K.alloc hP _) _) _, (fun h => by have := hlt _ h; omega), (fun h => by have := hlt _ h; omega), (fun h => by have := hlt _ h; omega), by omega, by omega, by omega, by omega, by omega, hfarS,
      ((hB1.alloc hw _).alloc (by rw [hsz1]; omega) _).alloc (by rw [hsz2]; omega) _⟩
  clear hsz1 hsz2 hP hfarS hB1 hnew
  generalize ((W1.alloc (.cells #[.pointer (some ⟨b, 0, none⟩)] 23)).alloc (.cells #[.int .i64 0] 2)).alloc (.cells #[.int .i64 0] 3) = W2 at *
  generalize W1.heap.size + 1 + 1 = gt at *
  generalize W1.heap.size + 1 = ga at *
  generalize W1.heap.size = gd at *
  have hp0 := push_c K w gt gd ga b S noD 0 (0, 0, 0, 0) 80 W2 hA0 (by decide) (by decide) (by omega) (by show fits64 0; unfold fits64; omega) (by show fits64 0; unfold fits64; omega)
  have hps0 := ps_begin (257 + a0 % 16777216) hb
  have hg0 := (go_begin (257 + a0 % 16777216) hb).1
  dsimp only at hp0
  rw [hg0] at hp0
  generalize 257 + a0 % 16777216 = base at *
  generalize (goT noD 0 0 80).2 = d0 at *
  unfold wvV at hp0
  go_wp2_with (go_at_call 22; (go_must (refine Calls.mono (by exact hp0) ?_); rintro e W3 ⟨rfl, S3, hA3⟩))
  clear hp0 hA0 hminA hp
  go_loopw [9, 27] (fun wt i wr => ∃ (j : Nat) (S : List Nat) (d : D) (t : Nat), j ≤ 4 + p ∧ i = .int .i64 (j : Nat) ∧ wt = .int .i64 (t : Nat) ∧ t ≤ j ∧ Ps base j d ∧ Al Det w gt gd ga b S d (t : Int) wr) (fun _ i _ => 4 + p - (intOf i).toNat)
  case atStart => exact ⟨0, S3, d0, 0, by omega, rfl, rfl, by omega, hps0, hA3⟩
  case round =>
    clear hA3 hps0 hg0
    obtain ⟨j, S, d, t, hj, rfl, rfl, htj, hps, hA⟩ := hrel
    by_cases hjp : j < 4 + p
    · have hjz : (j : Int) < 4 + (p : Int) := by omega
      have hdn0 := hps.n0
      have hdf := hps.far
      have hV1 := hV.below hA.below
      by_cases h4 : j < 4
      · have h4z : ¬ (4 : Int) ≤ (j : Int) := by omega
        have hnx := ps_next base hb j d hps base (by omega) 80 (by omega) (fun _ => ⟨rfl, rfl⟩)
        obtain ⟨e1, e2, e6, hps2⟩ := hnx
        have pc1 := push_c K w gt gd ga b S d (t : Int) (0, 5, 0, base) 3 wr hA hdn0 (by omega) (by omega) (by show fits64 5; unfold fits64; omega) (by show fits64 base; unfold fits64; omega)
        dsimp only at pc1
        rw [e1, show ((3 : Nat) : Int) = 3 from rfl, show ((0 : Nat) : Int) = 0 from rfl, Int.add_zero] at pc1
        have hp2 := fun S4 W4 (hA4 : Al Det w gt gd ga b S4 (goT d base 5 3).2 (t : Int) W4) => push_c K w gt gd ga b S4 (goT d base 5 3).2 (t : Int) (0, 0, 0, 0) 80 W4 hA4 (by omega) (by omega) (by omega) (by show fits64 0; unfold fits64; omega) (by show fits64 0; unfold fits64; omega)
        dsimp only at hp2
        rw [e2, show ((80 : Nat) : Int) = 80 from rfl] at hp2
        unfold wvV at pc1 hp2
        generalize (goT (goT d base 5 3).2 0 0 80).2 = d5 at *
        generalize (goT d base 5 3).2 = d3 at *
        obtain ⟨N, hN⟩ : ∃ N, d.n + 3 = N := ⟨_, rfl⟩
        rw [hN] at e2 e6 hp2
        clear hV hV1 hps hA e1 e2 hN hdf
        by_cases h400 : 400 ≤ N
        · rw [if_pos h400] at hp2
          go_wp2_with (first
            | (go_at_call 22; ((with_reducible refine pc1.mono ?_); rintro e W4 ⟨rfl, S4, hA4⟩; have ca := hA4.ha.cell 0; rw [e6] at ca; have pc2 := hp2 S4 W4 hA4))
            | (go_at_call 22; ((with_reducible refine pc2.mono ?_); rintro e W5 ⟨rfl, S5, hA5⟩; have ct := hA5.ht.cell 0)))
          go_roundw
          case rel => exact ⟨_ + 1, S5, d5, (t + 1), (by omega), (by go_num), (by go_num), (by omega), hps2, (by have h9 := hA5; push_cast at h9 ⊢; first | exact h9 | simpa using h9)⟩
          case measure => simp [intOf]; omega
        · rw [if_neg h400] at hp2
          go_wp2_with (first
            | (go_at_call 22; ((with_reducible refine pc1.mono ?_); rintro e W4 ⟨rfl, S4, hA4⟩; have ca := hA4.ha.cell 0; rw [e6] at ca; have pc2 := hp2 S4 W4 hA4))
            | (go_at_call 22; ((with_reducible refine pc2.mono ?_); rintro e W5 ⟨rfl, S5, hA5⟩; have ct := hA5.ht.cell 0)))
          go_roundw
          case rel => exact ⟨_ + 1, S5, d5, t, (by omega), (by go_num), (by go_num), (by omega), hps2, (by have h9 := hA5; push_cast at h9 ⊢; first | exact h9 | simpa using h9)⟩
          case measure => simp [intOf]; omega
      · have h4z : (4 : Int) ≤ (j : Int) := by omega
        obtain ⟨i, rfl⟩ : ∃ i, j = i + 4 := ⟨j - 4, by omega⟩
        have hij : ((i + 4 : Nat) : Int) - 4 = (i : Int) := by omega
        have hil : i < len1 := by omega
        have hiz : (i : Int) < (len1 : Int) := by omega
        obtain ⟨x, rfl, _⟩ := hV.cells (by omega)
        obtain ⟨y0, y1, y2, y3⟩ := bump_cells hV1 i hil
        have hb0 : BumpOk (z1.getD i (0, 0, 0, 0)) := hok _ (by rw [List.getD_eq_getElem?_getD, List.getElem?_eq_getElem (by have := hV.len_; omega)]; simp)
        obtain ⟨hq1, _, ht1, _⟩ := hb0
        generalize (z1.getD i (0, 0, 0, 0)).1 = qu at *
        generalize (z1.getD i (0, 0, 0, 0)).2.2.1 = tp at *
        clear y1 y3
        have hr0 := Int.emod_nonneg tp (show base ≠ 0 by omega)
        have hr1 := Int.emod_lt_of_pos tp (show 0 < base by omega)
        have hnz : ¬ base = 0 := by omega
        obtain ⟨q, hq⟩ : ∃ q : Nat, (q : Int) = 80 + qu % 120 := ⟨(80 + qu % 120).toNat, by omega⟩
        have hnx := ps_next base hb (i + 4) d hps (base + tp % base) (by omega) q (by omega) (fun h => absurd h h4)
        obtain ⟨e1, e2, e6, hps2⟩ := hnx
        have pc1 := push_c K w gt gd ga b S d (t : Int) (0, 5, 0, (base + tp % base)) 3 wr hA hdn0 (by omega) (by omega) (by show fits64 5; unfold fits64; omega) (by show fits64 (base + tp % base); unfold fits64; omega)
        dsimp only at pc1
        rw [e1, show ((3 : Nat) : Int) = 3 from rfl, show ((0 : Nat) : Int) = 0 from rfl, Int.add_zero] at pc1
        have hp2 := fun S4 W4 (hA4 : Al Det w gt gd ga b S4 (goT d (base + tp % base) 5 3).2 (t : Int) W4) => push_c K w gt gd ga b S4 (goT d (base + tp % base) 5 3).2 (t : Int) (0, 0, 0, 0) q W4 hA4 (by omega) (by omega) (by omega) (by show fits64 0; unfold fits64; omega) (by show fits64 0; unfold fits64; omega)
        dsimp only at hp2
        rw [e2, show ((q : Nat) : Int) = (80 + qu % 120) from hq] at hp2
        unfold wvV at pc1 hp2
        generalize (goT (goT d (base + tp % base) 5 3).2 0 0 q).2 = d5 at *
        generalize (goT d (base + tp % base) 5 3).2 = d3 at *
        obtain ⟨N, hN⟩ : ∃ N, d.n + 3 = N := ⟨_, rfl⟩
        rw [hN] at e2 e6 hp2
        clear hV hV1 hps hA e1 e2 hN hdf
        by_cases h400 : 400 ≤ N
        · rw [if_pos h400] at hp2
          go_wp2_with (first
            | (go_at_call 22; ((with_reducible refine pc1.mono ?_); rintro e W4 ⟨rfl, S4, hA4⟩; have ca := hA4.ha.cell 0; rw [e6] at ca; have pc2 := hp2 S4 W4 hA4))
            | (go_at_call 22; ((with_reducible refine pc2.mono ?_); rintro e W5 ⟨rfl, S5, hA5⟩; have ct := hA5.ht.cell 0)))
          go_roundw
          case rel => exact ⟨_ + 1, S5, d5, (t + 1), (by omega), (by go_num), (by go_num), (by omega), hps2, (by have h9 := hA5; push_cast at h9 ⊢; first | exact h9 | simpa using h9)⟩
          case measure => simp [intOf]; omega
        · rw [if_neg h400] at hp2
          go_wp2_with (first
            | (go_at_call 22; ((with_reducible refine pc1.mono ?_); rintro e W4 ⟨rfl, S4, hA4⟩; have ca := hA4.ha.cell 0; rw [e6] at ca; have pc2 := hp2 S4 W4 hA4))
            | (go_at_call 22; ((with_reducible refine pc2.mono ?_); rintro e W5 ⟨rfl, S5, hA5⟩; have ct := hA5.ht.cell 0)))
          go_roundw
          case rel => exact ⟨_ + 1, S5, d5, t, (by omega), (by go_num), (by go_num), (by omega), hps2, (by have h9 := hA5; push_cast at h9 ⊢; first | exact h9 | simpa using h9)⟩
          case measure => simp [intOf]; omega
    · obtain rfl : j = 4 + p := by omega
      have hjz : ¬ ((4 + p : Nat) : Int) < 4 + (p : Int) := by omega
      have hB := hA.below
      clear hA hV hps
      go_wp2_with (go_at_call 21; ((with_reducible refine (hli _).mono ?_); rintro e W9 ⟨rfl, hN⟩))
      go_ret
      exact ⟨rfl, hB.trans (hN.mono hB.size)⟩
end Go.Proofs.Ytnoppoimahfknaa.Qrs
end
section
/- The waves of bumps (the laws of layer 19's own function). -/
set_option linter.unusedSimpArgs false
set_option linter.unusedVariables false
namespace Go.Proofs.Ytnoppoimahfknaa.Qrs
open Go.RowKit
def wvS : Row.Shape Wv := ⟨4, fun v => [.int .i64 v.1, .int .i64 v.2.1, .int .i64 v.2.2.1, .int .i64 v.2.2.2], fun _ => rfl, by decide, fun p u hu => by
  simp at hu
  rcases hu with rfl | rfl | rfl | rfl <;> rfl⟩
def noWv : Wv := (0, 0, 0, 0)
def bumpT (b : Bump) : List Wv := List.replicate b.1.toNat noWv ++ List.replicate (1 + b.2.1 % 8).toNat (0, b.2.2.2, 0, b.2.2.1) ++ [noWv]
def wavesT (l : List Bump) : List Wv := (l.take 30).flatMap bumpT
theorem bump_len (b : Bump) (h : BumpOk b) : (bumpT b).length ≤ 264 := by
  obtain ⟨h1, h2, _⟩ := h
  unfold bumpT
  simp only [List.length_append, List.length_replicate, List.length_singleton]
  omega
theorem waves_len : ∀ (l : List Bump), (∀ b ∈ l, BumpOk b) → (l.flatMap bumpT).length ≤ 264 * l.length
  | [], _ => by simp
  | b :: l, h => by
    have h1 := bump_len b (h b (by simp))
    have h2 := waves_len l (fun c hc => h c (by simp [hc]))
    rw [List.flatMap_cons, List.length_append, List.length_cons]; omega
/-- Every wave fits. -/
theorem wave_fits (l : List Bump) (h : ∀ b ∈ l, BumpOk b) : ∀ v ∈ wavesT l, fits64 v.2.1 ∧ fits64 v.2.2.2 := fun v hv => by
  obtain ⟨b, hb, hv⟩ := List.mem_flatMap.1 hv
  obtain ⟨_, _, h3, h4⟩ := h b (List.mem_of_mem_take hb)
  unfold bumpT at hv
  rcases List.mem_append.1 hv with hv | hv
  · rcases List.mem_append.1 hv with hv | hv
    · obtain ⟨_, rfl⟩ := List.mem_replicate.1 hv
      exact ⟨by decide, by decide⟩
    · obtain ⟨_, rfl⟩ := List.mem_replicate.1 hv
      unfold fits64; dsimp only; omega
  · obtain rfl := List.mem_singleton.1 hv
    exact ⟨by decide, by decide⟩
/-- Where the loops stand: a row of the call's own, and the bump in hand. -/
structure Wq (w : World) (v : Value) (L : List Wv) (W : World) : Prop where
  row : W.ownsRow w.heap.size 28 4 v L.length (Row.flat wvS L)
  below : Below w.heap.size w W
theorem Wq.grown {w W W' : World} {v u : Value} {L M : List Wv} (h : Wq w v L W) (hO : W'.ownsRow w.heap.size 28 4 u M.length (Row.flat wvS M)) (hg : W.grownBy W' v.ownBlock) : Wq w u M W' :=
  ⟨hO, below_kept h.below (Kept.of_grown hg) h.below.size (own_in h.row)⟩
theorem Wq.alloc {w W : World} {v : Value} {L : List Wv} (h : Wq w v L W) (o : Obj) : Wq w v L (W.alloc o) := ⟨own_kept h.row ((Kept.refl [] W).alloc o) (by simp), h.below.alloc h.below.size o⟩
/-- A block that isn't the row's stays. -/
theorem has_grown {W W' : World} {v : Value} {g : Nat} {t : TypeId} {cs : Array Value} (h : Has W g t cs) (hg : W.grownBy W' v.ownBlock) (hne : v.ownBlock ≠ some g) : Has W' g t cs :=
  (Kept.of_grown hg).has h (fun h9 => hne (by cases hv : v.ownBlock with
    | none => rw [hv] at h9; simp at h9
    | some k => rw [hv] at h9; simp at h9; rw [h9]))
set_option maxRecDepth 100000 in
set_option maxHeartbeats 4000000 in
theorem waves_any (a0 : Option Addr) (len0 cap0 : Nat) (z0 : List Bump) (w : World) (w0 : Row.IsFlat bpS BumpOk w a0 len0 cap0 z0) :
    Calls Try.prog 13 #[.slice a0 len0 cap0] w fun e w' => ∃ (B : Option Addr) (c : Nat), e = .returned (.slice B (wavesT z0).length c) ∧ (wavesT z0).length ≤ c ∧ c ≤ 9223372036854775807 ∧ Row.Vals wvS w' B (wavesT z0).length (wavesT z0) ∧ (∀ x, B = some x → w.heap.size ≤ x.block ∧ x.block < w'.heap.size) ∧ Below w.heap.size w w' := by
  obtain ⟨hV, hok, hc1, hc2, hfar⟩ := w0
  obtain ⟨p, hp⟩ : ∃ p, min len0 30 = p := ⟨_, rfl⟩
  have hp1 : p ≤ len0 := by omega
  have hp2 : p ≤ 30 := by omega
  have hp3 : p ≤ cap0 := by omega
  have hminA : (if (30 : Int) < (len0 : Int) then (30 : Int) else (len0 : Int)) = (p : Int) := by split <;> omega
  have hlen := hV.len_
  have htk : z0.take 30 = z0.take p := by
    by_cases h : len0 ≤ 30
    · rw [List.take_of_length_le (by omega), List.take_of_length_le (by omega)]
    · rw [show p = 30 by omega]
  have HInfo := Lib.hid (show (Try.prog.info? 28).map (fun i => (i.zero, i.size, i.bytes)) = some (some (.agg #[.int .i64 0, .int .i64 0, .int .i64 0, .int .i64 0]), 4, 32) by kernel_rfl)
  have hwl : ∀ j, ((z0.take j).flatMap bumpT).length ≤ 264 * j := fun j => by
    have h1 := waves_len (z0.take j) (fun b hb => hok b (List.mem_of_mem_take hb))
    have h2 : (z0.take j).length ≤ j := by rw [List.length_take]; omega
    omega
  have hwt : wavesT z0 = (z0.take p).flatMap bumpT := by unfold wavesT; rw [htk]
  rw [hwt]
  clear hwt
  go_enter Try.func13, Try.ntmps13
  go_wp2
  go_loopw [3, 12] (fun v i wr => ∃ j : Nat, j ≤ p ∧ i = .int .i64 (j : Nat) ∧ Wq w v ((z0.take j).flatMap bumpT) wr) (fun _ i _ => p - (intOf i).toNat)
  case atStart => exact ⟨0, by omega, rfl, Row.own_none _ _ _, Below.refl _ _⟩
  case round =>
    obtain ⟨j, hj, rfl, hQ⟩ := hrel
    by_cases hjp : j < p
    · have hjz : (j : Int) < (p : Int) := by omega
      obtain ⟨x, rfl, _⟩ := hV.cells (by omega)
      obtain ⟨y0, y1, y2, y3⟩ := bump_cells (hV.below hQ.below) j (by omega)
      have hbo : BumpOk (z0.getD j (0, 0, 0, 0)) := hok _ (by rw [List.getD_eq_getElem?_getD, List.getElem?_eq_getElem (by omega)]; simp)
      have hnext : (z0.take (j + 1)).flatMap bumpT = (z0.take j).flatMap bumpT ++ bumpT (z0.getD j (0, 0, 0, 0)) := by
        rw [List.take_succ_eq_append_getElem (by omega), List.flatMap_append, List.getD_eq_getElem?_getD, List.getElem?_eq_getElem (by omega)]
        simp
      have hLl := hwl j
      generalize (z0.take j).flatMap bumpT = L at *
      obtain ⟨⟨q1, q2, q3, q4⟩, hq⟩ : ∃ b, z0.getD j (0, 0, 0, 0) = b := ⟨_, rfl⟩
      rw [hq] at hbo hnext y0 y1 y2 y3
      dsimp only at y0 y1 y2 y3
      obtain ⟨hb1, hb2, hb3, hb4⟩ := hbo
      dsimp only at hb1 hb2 hb3 hb4
      obtain ⟨m1, hm1⟩ : ∃ m1 : Nat, (m1 : Int) = q1 := ⟨q1.toNat, by omega⟩
      obtain ⟨m2, hm2⟩ : ∃ m2 : Nat, (m2 : Int) = 1 + q2 % 8 := ⟨(1 + q2 % 8).toNat, by omega⟩
      have hbt : bumpT (q1, q2, q3, q4) = List.replicate m1 noWv ++ List.replicate m2 (0, q4, 0, q3) ++ [noWv] := by
        unfold bumpT
        dsimp only
        rw [← hm1, ← hm2]; simp
      have hQa := hQ.alloc (.cells #[.int .u8 q1, .int .u8 q2, .int .u32 q3, .int .i32 q4] 48)
      have hHa := Has.new wr 48 #[.int .u8 q1, .int .u8 q2, .int .u32 q3, .int .i32 q4]
      have hne : u3.ownBlock ≠ some wr.heap.size := fun h9 => Nat.lt_irrefl _ (own_block hQ.row _ h9).2
      obtain ⟨v1, X1, hr1, hO1, hg1, hat1⟩ := Row.append_zeros (P := Try.prog) (S := wvS) w.heap.size 25 3 25 28 (.agg #[.int .i64 0, .int .i64 0, .int .i64 0, .int .i64 0]) .i64 32 (by omega) Try.underlying25 Try.underlying3 HInfo.out rfl u3 L.length L hQa.row noWv rfl m1 (by omega) hQa.below.size
      rw [hm1] at hr1
      rw [show L.length + m1 = (L ++ List.replicate m1 noWv).length by simp] at hO1
      have hQ1 := hQa.grown hO1 hg1
      have hH1 := has_grown hHa hg1 hne
      have hne1 : v1.ownBlock ≠ some wr.heap.size := fun h9 => by
        rcases hat1 with h8 | h8
        · exact hne (h8 ▸ h9)
        · rw [h8] at h9
          have h7 : (wr.alloc (.cells #[.int .u8 q1, .int .u8 q2, .int .u32 q3, .int .i32 q4] 48)).heap.size = wr.heap.size + 1 := by simp
          rw [h7] at h9
          simp at h9
      have c0 := hHa.cell 0
      have c1 := hH1.cell 1
      have hq2 : 0 ≤ q2 % 8 ∧ q2 % 8 ≤ 7 := by omega
      clear hO1 hg1 hat1
      go_wp2_with (at_builtin; refine Lib.wpList_append_run _ rfl (.tmp 16) (.tmp 19) _ _ rfl _ _ rfl rfl v1 X1 (by exact hr1) ?_)
      generalize wr.heap.size = g at *
      clear hr1 hQa hHa c0 c1 hQ hne y0 y1 y2 y3 hV
      go_loopw [3, 26] (fun v i wr2 => ∃ k : Nat, k ≤ m2 ∧ i = .int .i64 (k : Nat) ∧ Wq w v (L ++ List.replicate m1 noWv ++ List.replicate k (0, q4, 0, q3)) wr2 ∧ Has wr2 g 48 #[.int .u8 q1, .int .u8 q2, .int .u32 q3, .int .i32 q4] ∧ v.ownBlock ≠ some g) (fun _ i _ => m2 - (intOf i).toNat)
      case atStart => exact ⟨0, by omega, rfl, by simpa using hQ1, hH1, hne1⟩
      case round =>
        clear hQ1 hH1 hne1
        obtain ⟨k, hk, rfl, hQ, hH, hne⟩ := hrel
        by_cases hkm : k < m2
        · have hkz : (k : Int) < 1 + q2 % 8 := by omega
          have c2 := hH.cell 2
          have c3 := hH.cell 3
          have hgl := hH.lt
          have hLk : (L ++ List.replicate m1 noWv ++ List.replicate k (0, q4, 0, q3)).length ≤ 100000 := by simp only [List.length_append, List.length_replicate]; omega
          have hrep : L ++ List.replicate m1 noWv ++ List.replicate (k + 1) (0, q4, 0, q3) = L ++ List.replicate m1 noWv ++ List.replicate k (0, q4, 0, q3) ++ [(0, q4, 0, q3)] := by rw [List.replicate_succ', List.append_assoc]; simp
          generalize L ++ List.replicate m1 noWv ++ List.replicate k (0, q4, 0, q3) = M at *
          have hQb := hQ.alloc (.cells #[.int .i64 0, .int .i64 q4, .int .i64 0, .int .i64 q3] 28)
          have hHb := hH.alloc (.cells #[.int .i64 0, .int .i64 q4, .int .i64 0, .int .i64 q3] 28)
          have hVb : Row.Vals wvS (wr.alloc (.cells #[.int .i64 0, .int .i64 q4, .int .i64 0, .int .i64 q3] 28)) (some ⟨wr.heap.size, 0, none⟩) 1 [(0, q4, 0, q3)] := Row.Vals.has (ys := [(0, q4, 0, q3)]) (tl := []) (Has.new wr _ _)
          go_wp2_with (at_builtin; refine Row.wpList_append (S := wvS) rfl (.tmp 28) (.tmp 36) _ rfl w.heap.size 28 (.agg #[.int .i64 0, .int .i64 0, .int .i64 0, .int .i64 0]) 32 (by omega) Try.underlying25 HInfo.out rfl u3 M.length M rfl (by exact hQb.row) _ 1 1 [(0, q4, 0, q3)] rfl (by exact hVb) (by omega) (by exact hQb.below.size) ?_; intro v3 X3 hO3 hg3 hat3; rw [show M.length + 1 = (M ++ [((0, q4, 0, q3) : Wv)]).length by simp] at hO3; have hQ3 := hQb.grown hO3 hg3; have hH3 := has_grown hHb hg3 hne; have hne3 : v3.ownBlock ≠ some g := (fun h9 => by rcases hat3 with h8 | h8; exact hne (h8 ▸ h9); rw [h8] at h9; have h7 : g = wr.heap.size + 1 := (by simpa using h9.symm); omega))
          go_roundw
          case rel => exact ⟨k + 1, by omega, by go_num, by rw [hrep]; exact hQ3, hH3, hne3⟩
          case measure => simp [intOf]; omega
        · obtain rfl : k = m2 := by omega
          have hkz : ¬ (k : Int) < 1 + q2 % 8 := by omega
          have hnx : L ++ bumpT (q1, q2, q3, q4) = L ++ List.replicate m1 noWv ++ List.replicate k (0, q4, 0, q3) ++ [noWv] := by rw [hbt]; simp
          rw [hnx] at hnext
          have hLk : (L ++ List.replicate m1 noWv ++ List.replicate k (0, q4, 0, q3)).length ≤ 100000 := by simp only [List.length_append, List.length_replicate]; omega
          clear hbt hnx
          generalize L ++ List.replicate m1 noWv ++ List.replicate k (0, q4, 0, q3) = M at *
          have hQb := hQ.alloc (.cells #[.int .i64 0, .int .i64 0, .int .i64 0, .int .i64 0] 28)
          have hVb : Row.Vals wvS (wr.alloc (.cells #[.int .i64 0, .int .i64 0, .int .i64 0, .int .i64 0] 28)) (some ⟨wr.heap.size, 0, none⟩) 1 [noWv] := Row.Vals.has (ys := [noWv]) (tl := []) (Has.new wr _ _)
          go_wp2_with (at_builtin; refine Row.wpList_append (S := wvS) rfl (.tmp 39) (.tmp 41) _ rfl w.heap.size 28 (.agg #[.int .i64 0, .int .i64 0, .int .i64 0, .int .i64 0]) 32 (by omega) Try.underlying25 HInfo.out rfl u3 M.length M rfl (by exact hQb.row) _ 1 1 [noWv] rfl (by exact hVb) (by omega) (by exact hQb.below.size) ?_; intro v3 X3 hO3 hg3 hat3; rw [show M.length + 1 = (M ++ [noWv]).length by simp] at hO3; have hQ3 := hQb.grown hO3 hg3)
          go_roundw
          case rel => exact ⟨j + 1, by omega, by go_num, by rw [hnext]; exact hQ3⟩
          case measure => simp [intOf]; omega
    · obtain rfl : j = p := by omega
      have hrow := hQ.row
      have hbel := hQ.below
      obtain ⟨A1, c1, rfl, e1, e2, hV1, hfar1, _⟩ := Row.Vals.own hrow
      clear hQ hV hrow
      go_wp2
      go_ret
      exact ⟨A1, c1, rfl, e1, e2, hV1, hfar1, hbel⟩
end Go.Proofs.Ytnoppoimahfknaa.Qrs
end
section
/- QrsApart, over whatever a detector's calls answer. -/
set_option linter.unusedSimpArgs false
set_option linter.unusedVariables false
namespace Go.Proofs.Ytnoppoimahfknaa.Qrs
open Go.RowKit
theorem wv_cells {w : World} {x : Addr} {len : Nat} {ys : List Wv} (h : Row.Vals wvS w (some x) len ys) (i : Nat) (hi : i < len) :
    w.cell? (x.add (i * 4)) = some (.int .i64 (ys.getD i noWv).1) ∧ w.cell? ⟨(x.add (i * 4)).block, (x.add (i * 4)).off + 1, none⟩ = some (.int .i64 (ys.getD i noWv).2.1) ∧
    w.cell? ⟨(x.add (i * 4)).block, (x.add (i * 4)).off + 2, none⟩ = some (.int .i64 (ys.getD i noWv).2.2.1) ∧ w.cell? ⟨(x.add (i * 4)).block, (x.add (i * 4)).off + 3, none⟩ = some (.int .i64 (ys.getD i noWv).2.2.2) := by
  have hl := h.len_
  have e : ys.getD i noWv = ys[i]'(by omega) := by rw [List.getD_eq_getElem?_getD, List.getElem?_eq_getElem (by omega)]; rfl
  rw [e]
  exact ⟨by simpa [wvS] using h.at_ i 0 (by omega) _ rfl, part_at h i 1 (by omega) _ rfl (by omega), part_at h i 2 (by omega) _ rfl (by omega), part_at h i 3 (by omega) _ rfl (by omega)⟩
/-- A detector, and a row of waves that it doesn't touch. -/
structure Mw (Det : World → Nat → List Nat → D → Prop) (w : World) (b : Nat) (S : List Nat) (d : D) (B : Option Addr) (N : Nat) (ws : List Wv) (W : World) : Prop where
  mn : Mn Det w b S d W
  row : Row.Vals wvS W B N ws
  off : ∀ x, B = some x → x.block ∉ S ∧ x.block < W.heap.size
theorem Mw.grow {Det : World → Nat → List Nat → D → Prop} (K : QrsKit Det) {w W W' : World} {b : Nat} {S : List Nat} {d : D} {B : Option Addr} {N : Nat} {ws : List Wv} (h : Mw Det w b S d B N ws W) (hB : Below W.heap.size W W') : Mw Det w b S d B N ws W' :=
  ⟨h.mn.grow K hB, h.row.below hB, fun x hx => ⟨(h.off x hx).1, Nat.lt_of_lt_of_le (h.off x hx).2 hB.size⟩⟩
theorem Mw.pushed {Det : World → Nat → List Nat → D → Prop} {w W W' : World} {b : Nat} {S S' : List Nat} {d d' : D} {B : Option Addr} {N : Nat} {ws : List Wv} (h : Mw Det w b S d B N ws W) (hD : Det W' b S' d') (hn : ∀ k ∈ S', k ∈ S ∨ W.heap.size ≤ k) (hK : Kept S W W') : Mw Det w b S' d' B N ws W' :=
  ⟨h.mn.pushed hD hn hK, h.row.kept hK (fun _ x hx => (h.off x hx).1), fun x hx => ⟨fun h9 => by rcases hn _ h9 with h8 | h8; exact (h.off x hx).1 h8; exact Nat.lt_irrefl _ (Nat.lt_of_lt_of_le (h.off x hx).2 h8), Nat.lt_of_lt_of_le (h.off x hx).2 hK.size⟩⟩
set_option maxRecDepth 100000 in
set_option maxHeartbeats 8000000 in
theorem apart_k {Det : World → Nat → List Nat → D → Prop} (K : QrsKit Det) (a0 : Int) (a1 : Option Addr) (len1 cap1 : Nat) (z1 : List Bump) (w : World) (b0 : 0 ≤ a0 ∧ a0 ≤ 65535) (w1 : Row.IsFlat bpS BumpOk w a1 len1 cap1 z1) :
    Calls Try.prog 4 #[.int .u16 a0, .slice a1 len1 cap1] w fun e w' => e = .returned (.bool true) ∧ Below w.heap.size w w' := by
  have hli := fun W => live_k K W
  have hnew := K.new_any w
  have hfits := wave_fits z1 w1.each
  have hwl : (wavesT z1).length ≤ 8000 := by
    have h1 := waves_len (z1.take 30) (fun b hb => w1.each b (List.mem_of_mem_take hb))
    have h2 : (z1.take 30).length ≤ 30 := by rw [List.length_take]; omega
    unfold wavesT; omega
  have hwav := fun W (h : Row.IsFlat bpS BumpOk W a1 len1 cap1 z1) => waves_any a1 len1 cap1 z1 W h
  have hrow := fun W (hB : Below w.heap.size w W) => (⟨w1.row.below hB, w1.each, w1.le, w1.max, fun h x hx => Nat.lt_of_lt_of_le (w1.far h x hx) hB.size⟩ : Row.IsFlat bpS BumpOk W a1 len1 cap1 z1)
  generalize wavesT z1 = ws at *
  clear w1
  go_enter Try.func4, Try.ntmps4
  go_wp2_with (first
    | (go_at_call 12; ((with_reducible refine hnew.mono ?_); rintro e W1 ⟨b, S, rfl, hP, hfarS, hB1⟩))
    | (go_at_call 13; ((with_reducible refine (hwav _ (hrow _ hB1)).mono ?_); rintro e W2 ⟨B, c, rfl, hc1, hc2, hV2, hfar2, hB2⟩)))
  have hM0 : Mw Det w b S noD B ws.length ws W2 := ⟨⟨K.below hP hB2, hB1.trans (hB2.mono hB1.size), hfarS⟩, hV2, fun x hx => ⟨fun h9 => Nat.lt_irrefl _ (Nat.lt_of_lt_of_le ((K.lt hP).2 _ h9) (hfar2 x hx).1), (hfar2 x hx).2⟩⟩
  clear hV2 hfar2 hB2 hP hfarS hnew hwav hrow hB1
  go_loopw [6, 7, 17] (fun n l i wr => ∃ (j : Nat) (S : List Nat) (d : D) (cnt last : Int), j ≤ ws.length ∧ i = .int .i64 (j : Nat) ∧ n = .int .i64 cnt ∧ l = .int .i64 last ∧ d.n = (j : Int) ∧ cnt ≤ j ∧ Told a0 d cnt last ∧ Mw Det w b S d B ws.length ws wr) (fun _ _ i _ => ws.length - (intOf i).toNat)
  case atStart => exact ⟨0, S, noD, 0, -1, by omega, rfl, rfl, rfl, rfl, by omega, told_no a0, hM0⟩
  case round =>
    clear hM0
    obtain ⟨j, S, d, cnt, last, hj, rfl, rfl, rfl, hdn, hcj, hT, hM⟩ := hrel
    by_cases hjp : j < ws.length
    · have hjz : (j : Int) < (ws.length : Int) := by omega
      obtain ⟨x, rfl, _⟩ := hM.row.cells (by omega)
      obtain ⟨y0, y1, y2, y3⟩ := wv_cells hM.row j hjp
      have hfi := hfits (ws.getD j noWv) (by rw [List.getD_eq_getElem?_getD, List.getElem?_eq_getElem hjp]; simp)
      generalize ws.getD j noWv = v at *
      obtain ⟨v1, v2, v3, v4⟩ := v
      dsimp only at y0 y1 y2 y3 hfi
      have hc0 := hT.cnt0
      have hMA := hM.grow K ((Below.refl _ wr).alloc (Nat.le_refl _) (.cells #[.int .i64 v1, .int .i64 v2, .int .i64 v3, .int .i64 v4] 28))
      have hH := Has.new wr 28 #[.int .i64 v1, .int .i64 v2, .int .i64 v3, .int .i64 v4]
      have c0 := hH.cell 0
      have c1 := hH.cell 1
      have c2 := hH.cell 2
      have c3 := hH.cell 3
      have hpA := K.push_any _ b S d (a0 + (j : Int)) (v1, v2, v3, v4) hMA.mn.det (by omega) (by unfold fits64; omega) hfi.1 hfi.2
      have hts := told_step a0 d cnt last v4 v2 hT (by omega)
      have e3 := step_n d (a0 + (j : Int)) v4 v2
      dsimp only [wvV] at hpA
      rw [hdn] at hts e3
      generalize stepT d (a0 + (j : Int)) v4 v2 = st at *
      obtain ⟨bs, d'⟩ := st
      dsimp only at hpA hts e3
      clear hT hdn hH hM
      rcases hts with ⟨rfl, hT'⟩ | ⟨⟨p1, p2, p3, p4⟩, rfl, hT', g1, g2, g3, g4, g5, g6, g7⟩
      · simp only [List.length_nil] at hpA
        go_wp2_with (go_at_call 14; (go_must (refine Calls.mono (by exact hpA) ?_); rintro e W4 ⟨B', S', c', rfl, hmc, hV, hD, hnw, hfar', hK⟩))
        have hM1 := hMA.pushed hD hnw hK
        clear hpA hMA hD hnw hK hfar' hV
        go_loopw [6, 7, 31] (fun n l i wr => n = .int .i64 cnt ∧ l = .int .i64 last ∧ i = .int .i64 0 ∧ Mw Det w b S' d' (some x) ws.length ws wr) (fun _ _ _ _ => 0)
        case atStart => exact ⟨rfl, rfl, rfl, hM1⟩
        case round =>
          clear hM1
          obtain ⟨rfl, rfl, rfl, hM⟩ := hrel
          go_wp2
          go_roundw
          case rel => exact ⟨j + 1, S', d', cnt, last, by omega, by go_num, rfl, rfl, by push_cast; omega, by omega, hT', hM⟩
          case measure => simp [intOf]; omega
      · simp only [List.length_singleton] at hpA
        have q1 : ¬ a0 + (j : Int) < p1 := by omega
        have q2 : ¬ p1 < a0 := by omega
        have q3 : ¬ p1 < last := by omega
        dsimp only at g1 g2 g3 g4 g5 g6 g7 hT'
        subst g3
        go_wp2_with (go_at_call 14; (go_must (refine Calls.mono (by exact hpA) ?_); rintro e W4 ⟨B', S', c', rfl, hmc, hV, hD, hnw, hfar', hK⟩))
        have hM1 := hMA.pushed hD hnw hK
        clear hpA hMA hD hnw hK hfar' c0 c1 c2 c3 y0 y1 y2 y3
        go_loopw [6, 7, 31] (fun n l i wr => ∃ k : Nat, k ≤ 1 ∧ i = .int .i64 (k : Nat) ∧ n = .int .i64 (cnt + (k : Int)) ∧ l = .int .i64 (if k = 0 then last else p1) ∧ Row.Vals btS wr B' 1 [(p1, a0 + (j : Int), p3, p4)] ∧ Mw Det w b S' d' (some x) ws.length ws wr) (fun _ _ i _ => 1 - (intOf i).toNat)
        case atStart => exact ⟨0, by omega, rfl, by simp, rfl, hV, hM1⟩
        case round =>
          clear hM1 hV
          obtain ⟨k, hk, rfl, rfl, rfl, hV, hM⟩ := hrel
          by_cases hk0 : k = 0
          · subst hk0
            obtain ⟨x', rfl, _⟩ := hV.cells (by omega)
            obtain ⟨y0, y1, y2, y3⟩ := bt_cells hV 0 (by omega)
            simp only [List.getD_cons_zero] at y0 y1 y2 y3
            rw [show x'.add (0 * 4) = x' by unfold Addr.add; simp] at y0 y1 y2 y3
            have hMb := hM.grow K ((Below.refl _ wr).alloc (Nat.le_refl _) (.cells #[.int .i64 p1, .int .i64 (a0 + (j : Int)), .int .i64 p3, .bool p4] 40))
            have hVb := hV.below ((Below.refl _ wr).alloc (Nat.le_refl _) (.cells #[.int .i64 p1, .int .i64 (a0 + (j : Int)), .int .i64 p3, .bool p4] 40))
            have hH := Has.new wr 40 #[.int .i64 p1, .int .i64 (a0 + (j : Int)), .int .i64 p3, .bool p4]
            have c0 := hH.cell 0
            have c1 := hH.cell 1
            have c2 := hH.cell 2
            have c3 := hH.cell 3
            clear hH hM hV
            by_cases hc : cnt = 0
            · subst hc
              obtain rfl : p3 = 0 := g1.1 rfl
              obtain rfl : p4 = false := g7 rfl
              go_wp2
              go_roundw
              case rel => exact ⟨1, by omega, by go_num, by simp, by simp, hVb, hMb⟩
              case measure => simp [intOf]
            · have hp3 : ¬ p3 = 0 := fun h9 => hc (g1.2 h9)
              have h40 : ¬ p3 < 40 := by have := g2 (by omega); omega
              have hcp : 0 < cnt := by omega
              have hb1 : (cnt == 0) = false := by simp [hc]
              have hb2 : (p3 == 0) = false := by simp [hp3]
              go_wp2
              go_roundw
              case rel => exact ⟨1, by omega, by go_num, by simp, by simp, hVb, hMb⟩
              case measure => simp [intOf]
          · obtain rfl : k = 1 := by omega
            clear hV
            go_wp2
            go_roundw
            case rel => exact ⟨j + 1, S', d', cnt + 1, p1, by omega, by go_num, by simp, by simp, by push_cast; omega, by push_cast; omega, hT', hM⟩
            case measure => simp [intOf]; omega
    · obtain rfl : j = ws.length := by omega
      have hbel := hM.mn
      clear hM
      go_wp2_with (go_at_call 21; ((with_reducible refine (hli _).mono ?_); rintro e W9 ⟨rfl, hB⟩; replace hbel := hbel.grow K hB; clear hB))
      go_ret
      exact ⟨rfl, hbel.below⟩
end Go.Proofs.Ytnoppoimahfknaa.Qrs
end
section
/- What came in, as bumps and as a wave. -/
set_option linter.unusedVariables false
namespace Go.Proofs.Ytnoppoimahfknaa.Qrs
open Go.RowKit
theorem bump_dec (vs : List Value) (h : Row.Oks [.int .u8, .int .u8, .int .u32, .int .i32] vs) : ∃ z : Bump, bpS.enc z = vs ∧ BumpOk z := by
  obtain ⟨v1, r1, rfl, ⟨k, rfl, hk⟩, h1⟩ := Row.oks_cons h
  obtain ⟨v2, r2, rfl, ⟨a, rfl, ha⟩, h2⟩ := Row.oks_cons h1
  obtain ⟨v3, r3, rfl, ⟨v, rfl, hv⟩, h3⟩ := Row.oks_cons h2
  obtain ⟨v4, r4, rfl, ⟨b, rfl, hb⟩, h4⟩ := Row.oks_cons h3
  obtain rfl := Row.oks_nil h4
  exact ⟨(k, a, v, b), rfl, bounds_u8 hk, bounds_u8 ha, bounds_u32 hv, bounds_i32 hb⟩
def AnyWv : Wv → Prop := fun _ => True
theorem wv_dec (vs : List Value) (h : Row.Oks [.int .i64, .int .i64, .int .i64, .int .i64] vs) : ∃ z : Wv, wvS.enc z = vs ∧ AnyWv z := by
  obtain ⟨v1, r1, rfl, ⟨k, rfl, hk⟩, h1⟩ := Row.oks_cons h
  obtain ⟨v2, r2, rfl, ⟨a, rfl, ha⟩, h2⟩ := Row.oks_cons h1
  obtain ⟨v3, r3, rfl, ⟨v, rfl, hv⟩, h3⟩ := Row.oks_cons h2
  obtain ⟨v4, r4, rfl, ⟨b, rfl, hb⟩, h4⟩ := Row.oks_cons h3
  obtain rfl := Row.oks_nil h4
  exact ⟨(k, a, v, b), rfl, trivial⟩
end Go.Proofs.Ytnoppoimahfknaa.Qrs
end
