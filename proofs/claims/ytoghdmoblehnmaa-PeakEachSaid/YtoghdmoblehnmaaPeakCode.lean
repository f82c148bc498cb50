/- The landed finder of peaks: what its memory holds, and what its calls answer and do. -/
import Derived.Test.YtoghdmoblehnmaaPeakMath
import Derived.Test.YtoghdmoblehnmaaSlopeSteep
import Derived.Test.YtoghdmoblehnmaaFixqA
import Derived.Test.YtoghdmoblehnmaaShape
import Derived.Test.YtoghdmoblehnmaaRegion
set_option linter.unusedSimpArgs false
set_option linter.unusedVariables false
namespace Go.Proofs.Ytoghdmoblehnmaa.Peak
open Go.RowKit
/-- A finder's cells, when it stands so, with this in the valley's place, at step n. -/
def cellsT (s : St) (v n : Int) : Array Value := match s with
  | .falls _ => #[.int .i64 0, .int .i64 0, .int .i64 0, .int .i64 v, .bool false, .int .i64 n]
  | .rises t a p => #[.int .i64 a, .int .i64 t, .int .i64 p, .int .i64 v, .bool true, .int .i64 n]
/-- What may stand there. -/
def Ok (v : Int) : St → Prop
  | .falls none => v = 62914560
  | .falls (some u) => v = u ∧ 0 ≤ u ∧ u ≤ 62914560
  | .rises t a p => fits64 a ∧ 64 < t ∧ t ≤ 62914560 ∧ 0 ≤ p ∧ p ≤ 107136
/-- Block b is a finder that stands so, at step n. -/
def Fil (w : World) (b : Nat) (s : St) (n : Int) : Prop := ∃ v, Has w b 51 (cellsT s v n) ∧ Ok v s
section
variable {w w' : World} {b : Nat} {s : St} {n : Int}
theorem Fil.lt (h : Fil w b s n) : b < w.heap.size := by obtain ⟨v, h1, _⟩ := h; exact h1.lt
theorem Fil.kept {T : List Nat} (h : Fil w b s n) (hK : Kept T w w') (hb : b ∉ T) : Fil w' b s n := by obtain ⟨v, h1, h2⟩ := h; exact ⟨v, hK.has h1 hb, h2⟩
theorem Fil.below (h : Fil w b s n) (hB : Below w.heap.size w w') : Fil w' b s n := h.kept (Kept.of_below (S := []) hB) (by simp)
theorem Fil.drewN (h : Fil w b s n) (z : Nat) : Fil (w.drewN z) b s n := h
theorem Fil.alloc (h : Fil w b s n) (o : Obj) : Fil (w.alloc o) b s n := h.kept ((Kept.refl [] w).alloc o) (by simp)
end
/-- A peak's four numbers; 0 where there is none. -/
def nums : Option Pk → Pk
  | none => (0, 0, 0, 0)
  | some q => q
/-- A peak, as a value; where there is none it is all 0. -/
def pkV (o : Option Pk) : Value := .agg #[.int .i64 (nums o).1, .int .i64 (nums o).2.1, .int .i64 (nums o).2.2.1, .int .i64 (nums o).2.2.2]
theorem steep_two (p d : Int) (h : 0 ≤ p) : Slope.steepT [p, d] = more p (Slope.distT d) := by
  have h1 : Slope.distT p = p := by unfold Slope.distT; rw [if_neg (by omega), if_neg (by omega)]
  simp only [Slope.steepT, h1, more]
  repeat' split
  all_goals omega
theorem near_clamp (d : Int) : clampZ d (-107136) 107136 = nearTo 107136 d := by unfold clampZ nearTo; repeat' split; all_goals omega
theorem Has.put4 {w : World} {b : Nat} {t : TypeId} {u0 u1 u2 u3 : Value} (h : Has w b t #[u0, u1, u2, u3]) (x0 x1 x2 x3 : Value) :
    Has ((((w.setCell ⟨b, 0, none⟩ x0).setCell ⟨b, 1, none⟩ x1).setCell ⟨b, 2, none⟩ x2).setCell ⟨b, 3, none⟩ x3) b t #[x0, x1, x2, x3] := by
  have := (((h.set_ 0 x0).set_ 1 x1).set_ 2 x2).set_ 3 x3
  simpa using this
set_option maxHeartbeats 1000000 in
theorem climb_k (y : Nat) (a t p v : Int) (r : Bool) (n step x d : Int) (w : World) (hH : Has w y 51 #[.int .i64 a, .int .i64 t, .int .i64 p, .int .i64 v, .bool r, .int .i64 n]) (hp : 0 ≤ p ∧ p ≤ 107136) (hd : -107136 ≤ d ∧ d ≤ 107136) :
    Calls Try.prog 20 #[.pointer (some ⟨y, 0, none⟩), .int .i64 step, .int .i64 x, .int .i64 d] w fun e w' => e = .returned (.tuple #[]) ∧
      Has w' y 51 #[.int .i64 (if t < x then step else a), .int .i64 (if t < x then x else t), .int .i64 (more p (Slope.distT d)), .int .i64 v, .bool r, .int .i64 n] ∧ Kept [y] w w' := by
  have hV : RI64.Vals (w.alloc (.cells #[.int .i64 p, .int .i64 d] 2)) (some ⟨w.heap.size, 0, none⟩) 2 [p, d] := RI64.Vals.has (ys := [p, d]) (tl := []) (Has.new w _ _)
  have hs := Slope.steepest_any _ 2 2 [p, d] _ hV (by omega) (by intro u hu; unfold fits64; simp at hu; omega)
  rw [steep_two p d hp.1] at hs
  generalize more p (Slope.distT d) = q at *
  have hH0 := hH.alloc (.cells #[.int .i64 p, .int .i64 d] 2)
  have hK0 := (Kept.refl [y] w).alloc (.cells #[.int .i64 p, .int .i64 d] 2)
  have c2 := hH.cell 2
  have d2 := hH0.cell 2
  have f2 := hH0.frozen 2
  clear hV hp hd
  have hH1 : ∀ W, Has W y 51 #[.int .i64 a, .int .i64 t, .int .i64 p, .int .i64 v, .bool r, .int .i64 n] → Has (W.setCell ⟨y, 2, none⟩ (.int .i64 q)) y 51 #[.int .i64 a, .int .i64 t, .int .i64 q, .int .i64 v, .bool r, .int .i64 n] := fun W h => by
    have h9 := h.set_ 2 (.int .i64 q)
    simpa using h9
  have e1 := (hH1 _ hH0).cell 1
  have e0 := (hH1 _ hH0).cell 0
  have g0 := (hH1 _ hH0).frozen 0
  have g1 := (hH1 _ hH0).frozen 1
  by_cases ht : t < x
  · rw [if_pos ht, if_pos ht]
    go_enter Try.func20, Try.ntmps20
    go_wp2_with (go_at_call 26; ((with_reducible refine hs.mono ?_); rintro e w1 ⟨rfl, rfl⟩))
    go_end0
    refine ⟨rfl, ?_, ((hK0.setCell (p := ⟨y, 2, none⟩) (.inl (by simp)) _).setCell (p := ⟨y, 0, none⟩) (.inl (by simp)) _).setCell (p := ⟨y, 1, none⟩) (.inl (by simp)) _⟩
    have h9 := ((hH1 _ hH0).set_ 0 (.int .i64 step)).set_ 1 (.int .i64 x)
    simpa using h9
  · rw [if_neg ht, if_neg ht]
    go_enter Try.func20, Try.ntmps20
    go_wp2_with (go_at_call 26; ((with_reducible refine hs.mono ?_); rintro e w1 ⟨rfl, rfl⟩))
    go_end0
    exact ⟨rfl, hH1 _ hH0, hK0.setCell (p := ⟨y, 2, none⟩) (.inl (by simp)) _⟩
theorem turn_k (y : Nat) (a t p v : Int) (r : Bool) (n u : Int) (w : World) (hH : Has w y 51 #[.int .i64 a, .int .i64 t, .int .i64 p, .int .i64 v, .bool r, .int .i64 n]) :
    Calls Try.prog 17 #[.pointer (some ⟨y, 0, none⟩), .int .i64 u] w fun e w' => e = .returned (.tuple #[]) ∧
      Has w' y 51 #[.int .i64 0, .int .i64 0, .int .i64 0, .int .i64 u, .bool false, .int .i64 n] ∧ Kept [y] w w' := by
  have c3 := hH.cell 3
  have c4 := hH.cell 4
  have f3 := hH.frozen 3
  have f4 := hH.frozen 4
  have h1 := (hH.set_ 4 (.bool false)).set_ 3 (.int .i64 u)
  have c0 := h1.cell 0
  have c1 := h1.cell 1
  have c2 := h1.cell 2
  have f0 := h1.frozen 0
  have f1 := h1.frozen 1
  have f2 := h1.frozen 2
  simp at c0 c1 c2
  go_enter Try.func17, Try.ntmps17
  go_wp2
  go_end0
  have h9 := ((h1.set_ 0 (.int .i64 0)).set_ 1 (.int .i64 0)).set_ 2 (.int .i64 0)
  refine ⟨rfl, by simpa using h9, ?_⟩
  repeat' apply Kept.setCell
  · exact Kept.refl _ _
  all_goals exact .inl (by simp)
theorem more_zero (d : Int) (h : 0 ≤ d) : more 0 d = d := by unfold more; split <;> omega
set_option maxHeartbeats 1000000 in
theorem fall_k (y : Nat) (v n step x d : Int) (w : World) (hH : Has w y 51 #[.int .i64 0, .int .i64 0, .int .i64 0, .int .i64 v, .bool false, .int .i64 n]) (hv : 0 ≤ v ∧ v ≤ 62914560) (hx : 0 ≤ x ∧ x ≤ 62914560) (hd : -107136 ≤ d ∧ d ≤ 107136) (hdd : 0 ≤ Slope.distT d) :
    Calls Try.prog 19 #[.pointer (some ⟨y, 0, none⟩), .int .i64 step, .int .i64 x, .int .i64 d] w fun e w' => e = .returned (.tuple #[]) ∧
      Has w' y 51 (if 2 * (if x < v then x else v) + 64 < x then #[.int .i64 step, .int .i64 x, .int .i64 (Slope.distT d), .int .i64 (if x < v then x else v), .bool true, .int .i64 n]
        else #[.int .i64 0, .int .i64 0, .int .i64 0, .int .i64 (if x < v then x else v), .bool false, .int .i64 n]) ∧ Kept [y] w w' := by
  have low : ∀ u, 0 ≤ u ∧ u ≤ 62914560 → ((x < v ∧ u = x) ∨ (¬ x < v ∧ u = v)) → Calls Try.prog 19 #[.pointer (some ⟨y, 0, none⟩), .int .i64 step, .int .i64 x, .int .i64 d] w fun e w' => e = .returned (.tuple #[]) ∧
      Has w' y 51 (if 2 * u + 64 < x then #[.int .i64 step, .int .i64 x, .int .i64 (Slope.distT d), .int .i64 u, .bool true, .int .i64 n] else #[.int .i64 0, .int .i64 0, .int .i64 0, .int .i64 u, .bool false, .int .i64 n]) ∧ Kept [y] w w' := by
    intro u hu2 hux
    have c3 := hH.cell 3
    have f3 := hH.frozen 3
    have h1 : Has (w.setCell ⟨y, 3, none⟩ (.int .i64 u)) y 51 #[.int .i64 0, .int .i64 0, .int .i64 0, .int .i64 u, .bool false, .int .i64 n] := by
      have h9 := hH.set_ 3 (.int .i64 u)
      simpa using h9
    have k1 := (Kept.refl [y] w).setCell (p := ⟨y, 3, none⟩) (.inl (by simp)) (.int .i64 u)
    have d3 := h1.cell 3
    have d4 := h1.cell 4
    have g4 := h1.frozen 4
    by_cases hr : 2 * u + 64 < x
    · rw [if_pos hr]
      have h2 : Has ((w.setCell ⟨y, 3, none⟩ (.int .i64 u)).setCell ⟨y, 4, none⟩ (.bool true)) y 51 #[.int .i64 0, .int .i64 0, .int .i64 0, .int .i64 u, .bool true, .int .i64 n] := by
        have h9 := h1.set_ 4 (.bool true)
        simpa using h9
      have k2 := k1.setCell (p := ⟨y, 4, none⟩) (.inl (by simp)) (.bool true)
      have hc := climb_k y 0 0 0 u true n step x d _ h2 (by omega) hd
      rw [if_pos (by omega), if_pos (by omega), more_zero _ hdd] at hc
      obtain ⟨hxv, rfl⟩ : ¬ x < v ∧ u = v := by omega
      clear hux
      go_enter Try.func19, Try.ntmps19
      go_wp2_with (go_at_call 20; ((refine Calls.mono (by exact hc) ?_); rintro e w1 ⟨rfl, hH3, hK3⟩))
      go_end0
      exact ⟨rfl, hH3, k2.trans hK3⟩
    · rw [if_neg hr]
      rcases hux with ⟨hxv, rfl⟩ | ⟨hxv, rfl⟩
      all_goals
        go_enter Try.func19, Try.ntmps19
        go_wp2
        exact bodyPost_ret (results_none rfl _ _ _) rfl ⟨rfl, h1, k1⟩
  refine low (if x < v then x else v) (by split <;> omega) (by by_cases hxv : x < v <;> simp [hxv])
set_option maxHeartbeats 1000000 in
theorem seen_k (y : Nat) (a t p v : Int) (r : Bool) (n step : Int) (w : World) (hH : Has w y 51 #[.int .i64 a, .int .i64 t, .int .i64 p, .int .i64 v, .bool r, .int .i64 n]) :
    Calls Try.prog 21 #[.pointer (some ⟨y, 0, none⟩), .int .i64 step] w fun e w' => e = .returned (.agg #[.int .i64 a, .int .i64 step, .int .i64 t, .int .i64 p]) ∧ Below w.heap.size w w' := by
  go_enter Try.func21, Try.ntmps21
  go_wp2
  obtain ⟨W0, hW0⟩ : ∃ W0, w.alloc (.cells #[.int .i64 0, .int .i64 0, .int .i64 0, .int .i64 0] 30) = W0 := ⟨_, rfl⟩
  have hR0 : Has W0 w.heap.size 30 #[.int .i64 0, .int .i64 0, .int .i64 0, .int .i64 0] := by rw [← hW0]; exact Has.new w _ _
  have hH0 : Has W0 y 51 #[.int .i64 a, .int .i64 t, .int .i64 p, .int .i64 v, .bool r, .int .i64 n] := by rw [← hW0]; exact hH.alloc _
  have hB0 : Below w.heap.size w W0 := by rw [← hW0]; exact (Below.refl _ w).alloc (Nat.le_refl _) _
  rw [hW0]
  clear hW0
  have hlt := hH.lt
  have hRd := hR0.drew
  refine Reg.begin_ (S := fun W => W.cell? ⟨y, 0, none⟩ = some (.int .i64 a) ∧ W.cell? ⟨y, 1, none⟩ = some (.int .i64 t) ∧ W.cell? ⟨y, 2, none⟩ = some (.int .i64 p)) (by kernel_rfl) (by exact ⟨hH0.cell 0, hH0.cell 1, hH0.cell 2⟩) (fun hHeld => ?_)
  refine Reg.take (i := 0) (v := ?v1) rfl (by kernel_rfl) (by kernel_rfl) (by kernel_rfl) (by rfl) ?hv1 (by assumption) ?rest1
  case hv1 => first | (intro w hSw; (try dsimp only at hSw); go_simp; done) | (intro w hSw; (try dsimp only at hSw); go_simp; with_reducible rfl)
  (try simp only [Act.put, List.setIfInBounds_toArray, List.set_cons_zero, List.set_cons_succ])
  refine Reg.take (i := 1) (v := ?v2) rfl (by kernel_rfl) (by kernel_rfl) (by kernel_rfl) (by rfl) ?hv2 (by assumption) ?rest2
  case hv2 => first | (intro w hSw; (try dsimp only at hSw); go_simp; done) | (intro w hSw; (try dsimp only at hSw); go_simp; with_reducible rfl)
  (try simp only [Act.put, List.setIfInBounds_toArray, List.set_cons_zero, List.set_cons_succ])
  refine Reg.take (i := 2) (v := ?v3) rfl (by kernel_rfl) (by kernel_rfl) (by kernel_rfl) (by rfl) ?hv3 (by assumption) ?rest3
  case hv3 => first | (intro w hSw; (try dsimp only at hSw); go_simp; done) | (intro w hSw; (try dsimp only at hSw); go_simp; with_reducible rfl)
  (try simp only [Act.put, List.setIfInBounds_toArray, List.set_cons_zero, List.set_cons_succ])
  refine Reg.take (i := 3) (v := ?v4) rfl (by kernel_rfl) (by kernel_rfl) (by kernel_rfl) (by rfl) ?hv4 (by assumption) ?rest4
  case hv4 => first | (intro w hSw; (try dsimp only at hSw); go_simp; done) | (intro w hSw; (try dsimp only at hSw); go_simp; with_reducible rfl)
  (try simp only [Act.put, List.setIfInBounds_toArray, List.set_cons_zero, List.set_cons_succ])
  refine Reg.take (i := 4) (v := ?v5) rfl (by kernel_rfl) (by kernel_rfl) (by kernel_rfl) (by rfl) ?hv5 (by assumption) ?rest5
  case hv5 => first | (intro w hSw; (try dsimp only at hSw); go_simp; done) | (intro w hSw; (try dsimp only at hSw); go_simp; with_reducible rfl)
  (try simp only [Act.put, List.setIfInBounds_toArray, List.set_cons_zero, List.set_cons_succ])
  refine Reg.take (i := 5) (v := ?v6) rfl (by kernel_rfl) (by kernel_rfl) (by kernel_rfl) (by rfl) ?hv6 (by assumption) ?rest6
  case hv6 => first | (intro w hSw; (try dsimp only at hSw); go_simp; done) | (intro w hSw; (try dsimp only at hSw); go_simp; with_reducible rfl)
  (try simp only [Act.put, List.setIfInBounds_toArray, List.set_cons_zero, List.set_cons_succ])
  refine Reg.take (i := 6) (v := ?v7) rfl (by kernel_rfl) (by kernel_rfl) (by kernel_rfl) (by rfl) ?hv7 (by assumption) ?rest7
  case hv7 => first | (intro w hSw; (try dsimp only at hSw); go_simp; done) | (intro w hSw; (try dsimp only at hSw); go_simp; with_reducible rfl)
  (try simp only [Act.put, List.setIfInBounds_toArray, List.set_cons_zero, List.set_cons_succ])
  refine Reg.take (i := 7) (v := ?v8) rfl (by kernel_rfl) (by kernel_rfl) (by kernel_rfl) (by rfl) ?hv8 (by assumption) ?rest8
  case hv8 => first | (intro w hSw; (try dsimp only at hSw); go_simp; done) | (intro w hSw; (try dsimp only at hSw); go_simp; with_reducible rfl)
  (try simp only [Act.put, List.setIfInBounds_toArray, List.set_cons_zero, List.set_cons_succ])
  refine Reg.take (i := 8) (v := ?v9) rfl (by kernel_rfl) (by kernel_rfl) (by kernel_rfl) (by rfl) ?hv9 (by assumption) ?rest9
  case hv9 => first | (intro w hSw; (try dsimp only at hSw); go_simp; done) | (intro w hSw; (try dsimp only at hSw); go_simp; with_reducible rfl)
  (try simp only [Act.put, List.setIfInBounds_toArray, List.set_cons_zero, List.set_cons_succ])
  refine Reg.take (i := 9) (v := ?v10) rfl (by kernel_rfl) (by kernel_rfl) (by kernel_rfl) (by rfl) ?hv10 (by assumption) ?rest10
  case hv10 => first | (intro w hSw; (try dsimp only at hSw); go_simp; done) | (intro w hSw; (try dsimp only at hSw); go_simp; with_reducible rfl)
  (try simp only [Act.put, List.setIfInBounds_toArray, List.set_cons_zero, List.set_cons_succ])
  refine Reg.take (i := 10) (v := ?v11) rfl (by kernel_rfl) (by kernel_rfl) (by kernel_rfl) (by rfl) ?hv11 (by assumption) ?rest11
  case hv11 => first | (intro w hSw; (try dsimp only at hSw); go_simp; done) | (intro w hSw; (try dsimp only at hSw); go_simp; with_reducible rfl)
  (try simp only [Act.put, List.setIfInBounds_toArray, List.set_cons_zero, List.set_cons_succ])
  refine Reg.take (i := 11) (v := ?v12) rfl (by kernel_rfl) (by kernel_rfl) (by kernel_rfl) (by rfl) ?hv12 (by assumption) ?rest12
  case hv12 => first | (intro w hSw; (try dsimp only at hSw); go_simp; done) | (intro w hSw; (try dsimp only at hSw); go_simp; with_reducible rfl)
  (try simp only [Act.put, List.setIfInBounds_toArray, List.set_cons_zero, List.set_cons_succ])
  refine Reg.take (i := 12) (v := ?v13) rfl (by kernel_rfl) (by kernel_rfl) (by kernel_rfl) (by rfl) ?hv13 (by assumption) ?rest13
  case hv13 => first | (intro w hSw; (try dsimp only at hSw); go_simp; done) | (intro w hSw; (try dsimp only at hSw); go_simp; with_reducible rfl)
  (try simp only [Act.put, List.setIfInBounds_toArray, List.set_cons_zero, List.set_cons_succ])
  refine Reg.take (i := 13) (v := ?v14) rfl (by kernel_rfl) (by kernel_rfl) (by kernel_rfl) (by rfl) ?hv14 (by assumption) ?rest14
  case hv14 => first | (intro w hSw; (try dsimp only at hSw); go_simp; done) | (intro w hSw; (try dsimp only at hSw); go_simp; with_reducible rfl)
  (try simp only [Act.put, List.setIfInBounds_toArray, List.set_cons_zero, List.set_cons_succ])
  clear hHeld
  have hHd := hH0.drew
  have hBd : Below w.heap.size w W0.drew := below_drewN hB0 1
  clear hR0 hH0 hB0
  generalize W0.drew = W1 at *
  refine Reg.call (i := 14) rfl (by kernel_rfl) (by rfl) ?_
  intro K hK
  have q0 := hRd.cell 0
  have q1 := hRd.cell 1
  have q2 := hRd.cell 2
  have q3 := hRd.cell 3
  have g0 := hRd.frozen 0
  have g1 := hRd.frozen 1
  have g2 := hRd.frozen 2
  have g3 := hRd.frozen 3
  have hR9 := Has.put4 hRd (.int .i64 a) (.int .i64 step) (.int .i64 t) (.int .i64 p)
  have hH9 : Has ((((W1.setCell ⟨w.heap.size, 0, none⟩ (.int .i64 a)).setCell ⟨w.heap.size, 1, none⟩ (.int .i64 step)).setCell ⟨w.heap.size, 2, none⟩ (.int .i64 t)).setCell ⟨w.heap.size, 3, none⟩ (.int .i64 p)) y 51 #[.int .i64 a, .int .i64 t, .int .i64 p, .int .i64 v, .bool r, .int .i64 n] :=
    (((hHd.far (p := ⟨w.heap.size, 0, none⟩) (by simp; omega) _).far (p := ⟨w.heap.size, 1, none⟩) (by simp; omega) _).far (p := ⟨w.heap.size, 2, none⟩) (by simp; omega) _).far (p := ⟨w.heap.size, 3, none⟩) (by simp; omega) _
  have hB9 := (((hBd.setCell (p := ⟨w.heap.size, 0, none⟩) (by simp) (.int .i64 a)).setCell (p := ⟨w.heap.size, 1, none⟩) (by simp) (.int .i64 step)).setCell (p := ⟨w.heap.size, 2, none⟩) (by simp) (.int .i64 t)).setCell (p := ⟨w.heap.size, 3, none⟩) (by simp) (.int .i64 p)
  go_simp
  refine hK.out _ _ (by exact ⟨hH9.cell 0, hH9.cell 1, hH9.cell 2⟩) (fun hHeld => ?_)
  clear hK K hHeld
  (try simp only [Act.put, List.setIfInBounds_toArray, List.set_cons_zero, List.set_cons_succ])
  refine Reg.done (by kernel_rfl) ?_ _
  have p0 := hR9.cell 0
  have p1 := hR9.cell 1
  have p2 := hR9.cell 2
  have p3 := hR9.cell 3
  go_wp2
  refine bodyPost_ret (v := .agg #[.int .i64 a, .int .i64 step, .int .i64 t, .int .i64 p]) (by simp [results, Try.results21, go_sem, p0, p1, p2, p3]) rfl ⟨rfl, hB9⟩
end Go.Proofs.Ytoghdmoblehnmaa.Peak
