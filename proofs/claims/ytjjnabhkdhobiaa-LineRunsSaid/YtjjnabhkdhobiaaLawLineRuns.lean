/- Whatever number and values come in, LineRuns answers true, and writes nothing that was there. -/
import Derived.Test.YtjjnabhkdhobiaaRows
import Derived.ShutString
import Derived.ChangeOld
import Derived.Below
import Derived.Test.YtjjnabhkdhobiaaLawKit
import Derived.Test.YtjjnabhkdhobiaaLineLive
set_option linter.unusedSimpArgs false
set_option linter.unusedVariables false
namespace Go.Proofs.Ytjjnabhkdhobiaa.lineRuns
open Go.ChangeShapes Go.WideShapes Go.ChangeAt Go.RowKit
open Go.ChangeMaps (open_string shut_string)
/-- The law's loop: the window's and the line's values are the same, and last is the window's sum. -/
def Going (w : World) (y x b g n x2 b2 g2 n2 most m : Nat) (v10 i : Value) (wr : World) : Prop :=
  ∃ j, j ≤ m ∧ i = .int .i64 (j : Nat) ∧ ∃ h, v10 = .int .i64 (wrap64 (winSum most h)) ∧ Window wr y x b g n most h ∧ Line wr x2 b2 g2 n2 (most + 1) h ∧ Below w.heap.size w wr
theorem runs_step (most : Nat) (h : List Int) (v : Int) : wrap64 (wrap64 (wrap64 (winSum most h) + v) - agoTo (most + 1) (v :: h) (1 + (most : Int))) = wrap64 (winSum most (v :: h)) := by
  rw [winSum_push, show (1 + (most : Int)) = ((most + 1 : Nat) : Int) by omega, agoTo_in _ _ _ (Nat.le_refl _), List.getD_cons_succ]
  unfold wrap64
  omega
set_option maxRecDepth 100000 in
set_option maxHeartbeats 2000000 in
theorem walk (a0 : Int) (a1 : Option Addr) (len1 cap1 : Nat) (z1 : List Int) (w : World) (w0 : (Lit.int .u8 a0).wf = true) (w1 : IsRow .i32 w a1 len1 cap1 z1) :
    Calls Try.prog 5 #[.int .u8 a0, .slice a1 len1 cap1] w fun e w' => e = .returned (.bool true) ∧ Below w.heap.size w w' := by
  have b0 : 0 ≤ a0 ∧ a0 ≤ 255 := bounds_u8 w0
  clear w0
  obtain ⟨most, hk⟩ : ∃ most : Nat, a0 % 40 = (most : Int) := ⟨(a0 % 40).toNat, by omega⟩
  have hk39 : most ≤ 39 := by omega
  have hk1 : 1 + a0 % 40 = (most : Int) + 1 := by omega
  have hl1 : len1 ≤ cap1 ∧ cap1 ≤ 9223372036854775807 := by
    rcases w1 with ⟨_, rfl, rfl, _⟩ | ⟨x, _, h1, h2, _⟩
    · omega
    · unfold maxLen at h2; omega
  obtain ⟨m, hm⟩ : ∃ m, min len1 150 = m := ⟨_, rfl⟩
  have hm1 : m ≤ len1 := by omega
  have hm2 : m ≤ 150 := by omega
  have hminA : (if (150 : Int) < (len1 : Int) then (150 : Int) else (len1 : Int)) = (m : Int) := by split <;> omega
  clear hm
  have hof := window_of_yes most w (by omega)
  obtain ⟨y, x, b, g, hy, hx, hb, hg, hbg⟩ : ∃ y x b g, w.heap.size ≤ y ∧ w.heap.size ≤ x ∧ w.heap.size ≤ b ∧ w.heap.size ≤ g ∧ (y = w.heap.size + 3 ∧ x = w.heap.size + 2 ∧ b = w.heap.size + 1 ∧ g = w.heap.size) := ⟨_, _, _, _, by omega, by omega, by omega, by omega, rfl, rfl, rfl, rfl⟩
  obtain ⟨x2, b2, g2, hlt2, hbg2⟩ : ∃ x2 b2 g2, (y < x2 ∧ y < b2 ∧ y < g2 ∧ x < x2 ∧ x < b2 ∧ x < g2 ∧ b < x2 ∧ b < b2 ∧ b < g2 ∧ g < x2 ∧ g < b2 ∧ g < g2) ∧ (x2 = w.heap.size + 4 + 2 ∧ b2 = w.heap.size + 4 + 1 ∧ g2 = w.heap.size + 4) := ⟨_, _, _, by omega, rfl, rfl, rfl⟩
  have hof2 : Calls Try.prog 15 #[.int .i64 (1 + (most : Int))] w fun e w' => e = .returned (.tuple #[.pointer (some ⟨y, 0, none⟩), .int .i64 0]) ∧ (∃ n, Window w' y x b g n most []) ∧ Below w.heap.size w w' ∧ w'.heap.size = w.heap.size + 4 := by
    rw [hbg.1, hbg.2.1, hbg.2.2.1, hbg.2.2.2, Int.add_comm]
    exact hof
  have hnew2 : ∀ W, W.heap.size = w.heap.size + 4 → Calls Try.prog 7 #[.int .i64 (1 + (most : Int))] W fun e w' => e = .returned (.tuple #[.pointer (some ⟨x2, 0, none⟩), .int .i64 0]) ∧ (∃ n, Line w' x2 b2 g2 n (most + 1) []) ∧ Below W.heap.size W w' := fun W hW => by
    have h9 := line_new_yes (most + 1) W (by omega)
    rw [hW, ← hbg2.1, ← hbg2.2.1, ← hbg2.2.2, show ((most + 1 : Nat) : Int) = 1 + (most : Int) by omega] at h9
    rw [hW, ← hbg2.2.2]
    exact h9.mono fun e w' ⟨h1, h2, h3, h4⟩ => ⟨h1, h2, h3⟩
  clear hof hbg hbg2
  go_enter Try.func5, Try.ntmps5
  go_wp2_with (first
    | (go_at_call 15; ((with_reducible refine hof2.mono ?_); rintro e W1 ⟨rfl, ⟨n, hW1⟩, hB1, hz1⟩))
    | (go_at_call 7; ((with_reducible refine (hnew2 _ hz1).mono ?_); rintro e W2 ⟨rfl, ⟨n2, hL2⟩, hB2⟩)))
  clear hminA hk hk1
  go_loopw [10, 40] (fun v10 i wr => Going w y x b g n x2 b2 g2 n2 most m v10 i wr) (fun _ i _ => m - (intOf i).toNat)
  case atStart => exact ⟨0, by omega, rfl, [], by rw [winSum_nil, show wrap64 0 = 0 from by unfold wrap64; omega], hW1.kept (Kept.of_below (S := []) hB2) (by simp) (by simp) (by simp) (by simp), hL2, hB1.trans (hB2.mono hB1.size)⟩
  case round =>
    clear hW1 hB1 hz1 hL2 hB2 hof2 hnew2
    obtain ⟨j, hj, rfl, h, rfl, hW, hL, hB⟩ := hrel
    by_cases hlt : j < m
    · rcases w1 with ⟨_, h0, _⟩ | ⟨p1, rfl, _, _, hz1, hcz, hwz⟩
      · omega
      have hcell0 := hcz j (by omega)
      have hcell := (hB.cell (World.block_lt_of_cell? _ _ hcell0)).trans hcell0
      have hv := bounds_i32 (hwz (z1.getD j 0) (by rw [List.getD_eq_getElem?_getD, List.getElem?_eq_getElem (by omega)]; simp))
      generalize z1.getD j 0 = v at *
      clear hcz hwz hcell0
      have hst := runs_step most h v
      have hne := hW.ne_
      have hbB := hB.size
      have hpu : ∀ A, A = wr.heap.size → Calls Try.prog 9 #[.pointer (some ⟨x2, 0, none⟩), .slice (some ⟨A, 0, none⟩) 1 1] (wr.alloc (.cells #[.int .i64 v] 2)) fun e w' => e = .returned (.tuple #[]) ∧
          Line w' x2 b2 g2 n2 (most + 1) (v :: h) ∧ Kept [b2, g2] wr w' := fun A hA => by
        subst hA
        have hl := hL.lt_
        have h9 := line_push x2 b2 g2 n2 (most + 1) h (some ⟨wr.heap.size, 0, none⟩) 1 1 [v] _ (hL.alloc (.cells #[.int .i64 v] 2)) (RI64.Vals.has (ys := [v]) (tl := []) (Has.new wr _ _)) (by omega) (by omega) (fun _ y hy => by cases hy; simp; omega)
        exact h9.mono fun e w' ⟨h1, h2, h3⟩ => ⟨h1, h2, ((Kept.refl _ wr).alloc _).trans h3⟩
      have hwp := fun W (hW : Window W y x b g n most h) => window_push y x b g n most h v W hW
      have hba := fun W (hL : Line W x2 b2 g2 n2 (most + 1) (v :: h)) => line_back x2 b2 g2 n2 (most + 1) (v :: h) (1 + (most : Int)) W hL (by omega)
      generalize hS2 : wrap64 (winSum most (v :: h)) = S2 at *
      generalize hS1 : wrap64 (winSum most h) = S1 at *
      generalize agoTo (most + 1) (v :: h) (1 + (most : Int)) = out at *
      have hst2 : wrap64 (S1 + v - out) = S2 := by rw [← hst]; unfold wrap64; omega
      go_wp2_with (first
        | (go_at_call 9; ((with_reducible refine (hpu _ rfl).mono ?_); rintro e W3 ⟨rfl, hL3, hK3⟩; have hW3 := hW.kept hK3 (by simp; omega) (by simp; omega) (by simp; omega) (by simp; omega); have hB3 := below_kept hB hK3 hB.size (by intro k hk; simp at hk; omega)))
        | (go_at_call 17; ((with_reducible refine (hwp _ hW3).mono ?_); rintro e W4 ⟨rfl, hW4, hK4⟩; have hL4 := hL3.kept hK4 (by simp; omega) (by simp; omega) (by simp; omega); have hB4 := below_kept hB3 hK4 hB3.size (by intro k hk; simp at hk; omega)))
        | (go_at_call 10; ((with_reducible refine (hba _ hL4).mono ?_); rintro e W5 ⟨rfl, d, rfl⟩)))
      go_roundw
      case rel => exact ⟨j + 1, by omega, by go_num, v :: h, by rw [hS2], hW4.same rfl, hL4.same rfl, below_drewN hB4 _⟩
      case measure => simp [intOf]; omega
    · obtain rfl : j = m := by omega
      have hsu := window_sum y x b g n most h wr hW
      generalize wrap64 (winSum most h) = S1 at *
      go_wp2_with (first
        | (go_at_call 19; ((with_reducible refine hsu.mono ?_); rintro e W5 ⟨rfl, rfl⟩))
        | (go_at_call 8; ((with_reducible refine (live_ok _).mono ?_); rintro e W9 ⟨rfl, hN⟩)))
      trace_state
      go_ret
      exact ⟨rfl, hB.trans (hN.mono hB.size)⟩

theorem own : ownKnob Try.prog.godebug = none := by kernel_rfl
theorem laidOut : laidOutB Try.prog = true := by kernel_rfl

/-! ### The row's step -/
set_option maxRecDepth 100000 in
theorem lifted (os : Os) (started : os.Started) (H : Type) (enc : TypeId × Value → H) :
    ReturnsInHanded {} Try.checked os 5 .any (Rows.lineRunsSpec.pre6 enc Try.prog Try.f5 Rows.lineRunsRow.domain false) (Rows.lineRunsSpec.post enc Try.prog Try.f5 false true false false) := by
  refine returnsInHanded_of_change (C := Try.checked) own started (by kernel_rfl) Try.func5
    (ChangeSpec.witness6 (enc := enc) (C := Try.checked) false ⟨#[], #[.int .u8 0, .slice none 0 0], []⟩ 8 (by kernel_rfl) (by kernel_rfl) (by kernel_rfl) (by kernel_rfl)) ?_
  intro W base args ds gs before hval0 hW hcnd _
  have hval : ∀ (j : Nat) t v, Try.f5.params[j]? = some t → args[j]? = some v → Value.okWide Try.prog W .any base t v := hval0
  have hW' := hW
  obtain ⟨p, q, hA0, hV, rfl, hfz, hnd⟩ := hW
  have hA : DataW.TrodAll enc Try.prog W 0 (fun _ => true) true Try.f5.params.toList args.toList ds p := hA0
  rw [Try.params5] at hA hval
  obtain ⟨v0, vs0, d0, ds0, p0, q0, hargs, rfl, rfl, h0, r0⟩ := trodAll_cons hA
  obtain ⟨v1, vs1, d1, ds1, p1, q1, rfl, rfl, rfl, h1, r1⟩ := trodAll_cons r0
  obtain ⟨rfl, rfl, rfl⟩ := trodAll_nil r1
  obtain rfl : args = #[v0, v1] := by cases args; simp_all
  obtain ⟨rfl, rfl⟩ := trodVars_none hV
  obtain ⟨a0, rfl, rfl, rfl, w0⟩ := open_int Try.underlying5 (hval 0 5 v0 rfl rfl) h0
  obtain ⟨a1, len1, cap1, rfl⟩ := okWide_slice Try.underlying41 (hval 1 41 v1 rfl rfl)
  have k1 := h1
  have lt1 : ∀ x ∈ p1, x.block < W.heap.size := by obtain ⟨m, hm⟩ := k1; exact DataW.trod_lt m _ _ _ hm
  obtain ⟨z1, w1⟩ : ∃ zs, IsRow .i32 W a1 len1 cap1 zs := by
    obtain ⟨fuel, hf⟩ := h1
    rcases open_ints Try.underlying41 Try.underlying21 (by kernel_rfl) hf with ⟨hcs, _⟩ | ⟨x, l, c, zs, hcs, hx, hl, hm, hz, _, hcell, hwz⟩
    · simp [Value.cells] at hcs
      obtain ⟨rfl, rfl, rfl⟩ := hcs
      exact ⟨[], .inl ⟨rfl, rfl, rfl, rfl⟩⟩
    · simp [Value.cells] at hcs
      obtain ⟨rfl, rfl, rfl⟩ := hcs
      exact ⟨zs, isRow_some hl hm (by simpa using hz) hcell hwz⟩
  clear hA0 hval0
  refine (walk a0 a1 len1 cap1 z1 W w0 w1).mono fun e W' ⟨he, bel⟩ => ?_
  subst he
  exact ⟨_, rfl, _, _, _, [], _, [], hW', trodAll_mk1 (shut_bool Try.underlying4 _), (trodAll_cons_mk (shut_int Try.underlying5 w0) (trodAll_cons_mk (Below.trod laidOut (by kernel_rfl) (of_decide_eq_true (by kernel_rfl)) k1 bel lt1) trodAll_mk0)), rfl, bel.frame _, fun h => by cases h⟩

theorem over : Rows.lineRunsRow.holds Try.pinned (OpenSpec.ofChange Rows.lineRunsSpec) :=
  OpenClaim.holds_of_wide 5 Try.f5 rfl rfl rfl rfl rfl rfl rfl ⟨rfl, rfl, rfl, rfl, rfl⟩ rfl rfl rfl rfl rfl (by kernel_rfl) Try.func5 (by kernel_rfl)
    (of_decide_eq_true (by kernel_rfl)) (by unfold Func.isWrapper; first | (rw [if_pos (by decide +kernel)]; kernel_rfl) | (rw [if_neg (by decide +kernel)]; exact ⟨rfl, rfl⟩))
    (fun os started H enc _ => lifted os started H enc)

theorem proved : Rows.LineRunsSaid := over
#print axioms proved
end Go.Proofs.Ytjjnabhkdhobiaa.lineRuns
