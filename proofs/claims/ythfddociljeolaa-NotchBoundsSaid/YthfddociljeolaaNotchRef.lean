/- What the reference of layer 10 answers. -/
import Derived.Test.YthfddociljeolaaNotchMath
import Derived.Test.YthfddociljeolaaFilterRef
import Derived.Test.YthfddociljeolaaFixqDiv
import Derived.Test.YthfddociljeolaaOwn
set_option linter.unusedSimpArgs false
set_option linter.unusedVariables false
namespace Go.Proofs.Ythfddociljeolaa.Notch
open Go.RowKit RI64
theorem refcame_any (A : Option Addr) (n c : Nat) (h : List Int) (k : Nat) (w : World) (hv : Vals w A n h.reverse) (hn : n ≤ 1000000) :
    Calls Try.prog 24 #[.slice A n c, .int .i64 (k : Nat)] w fun e w' => e = .returned (.int .i64 (cameT 65535 h k)) ∧ ∃ z, w' = w.drewN z := by
  have hb := refback_any A n c h k w hv (by omega)
  rw [ago_nat] at hb
  have hne := fun W => refnear_to 65535 (h.getD k 0) W (by omega) (by omega)
  unfold cameT
  generalize nearTo 65535 (h.getD k 0) = r at *
  generalize h.getD k 0 = v at *
  go_enter Try.func24, Try.ntmps24
  go_wp2_with (first
    | (go_at_call 32; ((with_reducible refine hb.mono ?_); rintro e w1 ⟨rfl, z, rfl⟩))
    | (go_at_call 31; ((with_reducible refine (hne _).mono ?_); rintro e w2 ⟨rfl, rfl⟩)))
  go_ret
  exact ⟨rfl, z, rfl⟩
theorem refone_any (m : Nat) (A : Option Addr) (n c : Nat) (h : List Int) (w : World) (hv : Vals w A n h.reverse) (hn : n ≤ 1000000) :
    Calls Try.prog 16 #[.int .i64 (m : Nat), .slice A n c] w fun e w' => e = .returned (.int .i64 (notchT m h)) ∧ ∃ z, w' = w.drewN z := by
  have hc0 : ∀ W, Vals W A n h.reverse → Calls Try.prog 24 #[.slice A n c, .int .i64 0] W fun e w' => e = .returned (.int .i64 (cameT 65535 h 0)) ∧ ∃ z, w' = W.drewN z := fun W hW => refcame_any A n c h 0 W hW hn
  have hc1 : ∀ W, Vals W A n h.reverse → Calls Try.prog 24 #[.slice A n c, .int .i64 1] W fun e w' => e = .returned (.int .i64 (cameT 65535 h 1)) ∧ ∃ z, w' = W.drewN z := fun W hW => refcame_any A n c h 1 W hW hn
  have hc2 : ∀ W, Vals W A n h.reverse → Calls Try.prog 24 #[.slice A n c, .int .i64 2] W fun e w' => e = .returned (.int .i64 (cameT 65535 h 2)) ∧ ∃ z, w' = W.drewN z := fun W hW => refcame_any A n c h 2 W hW hn
  have hc3 : ∀ W, Vals W A n h.reverse → Calls Try.prog 24 #[.slice A n c, .int .i64 3] W fun e w' => e = .returned (.int .i64 (cameT 65535 h 3)) ∧ ∃ z, w' = W.drewN z := fun W hW => refcame_any A n c h 3 W hW hn
  have b0 := came4 h 0; have b1 := came4 h 1; have b2 := came4 h 2; have b3 := came4 h 3
  unfold notchT sum50 sum60
  generalize cameT 65535 h 0 = x0 at *
  generalize cameT 65535 h 1 = x1 at *
  generalize cameT 65535 h 2 = x2 at *
  generalize cameT 65535 h 3 = x3 at *
  by_cases h50 : m = 50
  · subst h50
    rw [if_pos rfl]
    have hd := fun W => refdiv_yes (x0 + x1 + x2 + x3) 4 W (by unfold fits64; omega) (by omega) (by omega)
    rw [Int.fdiv_eq_ediv_of_nonneg _ (by omega : (0 : Int) ≤ 4)] at hd
    have s1 : -9223372036854775808 ≤ x0 + x1 ∧ x0 + x1 ≤ 9223372036854775807 := by omega
    have s2 : -9223372036854775808 ≤ x0 + x1 + x2 ∧ x0 + x1 + x2 ≤ 9223372036854775807 := by omega
    have s3 : -9223372036854775808 ≤ x0 + x1 + x2 + x3 ∧ x0 + x1 + x2 + x3 ≤ 9223372036854775807 := by omega
    go_enter Try.func16, Try.ntmps16
    go_wp2_with (first
      | (go_at_call 24; ((with_reducible refine (hc0 _ (by exact hv)).mono ?_); rintro e w1 ⟨rfl, z1, rfl⟩))
      | (go_at_call 24; ((with_reducible refine (hc0 _ (by exact hv.same rfl)).mono ?_); rintro e w2 ⟨rfl, z2, rfl⟩))
      | (go_at_call 24; ((with_reducible refine (hc1 _ (by exact hv.same rfl)).mono ?_); rintro e w3 ⟨rfl, z3, rfl⟩))
      | (go_at_call 24; ((with_reducible refine (hc2 _ (by exact hv.same rfl)).mono ?_); rintro e w4 ⟨rfl, z4, rfl⟩))
      | (go_at_call 24; ((with_reducible refine (hc3 _ (by exact hv.same rfl)).mono ?_); rintro e w5 ⟨rfl, z5, rfl⟩))
      | (go_at_call 25; ((with_reducible refine (hd _).mono ?_); rintro e w6 ⟨rfl, rfl⟩)))
    go_ret
    exact ⟨rfl, _, rfl⟩
  · rw [if_neg h50]
    have m50 : ((m : Int) == 50) = false := by simp; omega
    by_cases h60 : m = 60
    · subst h60
      rw [if_pos rfl]
      clear h50 m50
      have hd := fun W => refdiv_yes (12516 * x0 + 7736 * x1 + 12516 * x2) 32768 W (by unfold fits64; omega) (by omega) (by omega)
      rw [Int.fdiv_eq_ediv_of_nonneg _ (by omega : (0 : Int) ≤ 32768)] at hd
      have s0 : -9223372036854775808 ≤ 12516 * x0 ∧ 12516 * x0 ≤ 9223372036854775807 := by omega
      have s1 : -9223372036854775808 ≤ 7736 * x1 ∧ 7736 * x1 ≤ 9223372036854775807 := by omega
      have s2 : -9223372036854775808 ≤ 12516 * x2 ∧ 12516 * x2 ≤ 9223372036854775807 := by omega
      have s3 : -9223372036854775808 ≤ 12516 * x0 + 7736 * x1 ∧ 12516 * x0 + 7736 * x1 ≤ 9223372036854775807 := by omega
      have s4 : -9223372036854775808 ≤ 12516 * x0 + 7736 * x1 + 12516 * x2 ∧ 12516 * x0 + 7736 * x1 + 12516 * x2 ≤ 9223372036854775807 := by omega
      go_enter Try.func16, Try.ntmps16
      go_wp2_with (first
        | (go_at_call 24; ((with_reducible refine (hc0 _ (by exact hv)).mono ?_); rintro e w1 ⟨rfl, z1, rfl⟩))
        | (go_at_call 24; ((with_reducible refine (hc0 _ (by exact hv.same rfl)).mono ?_); rintro e w2 ⟨rfl, z2, rfl⟩))
        | (go_at_call 24; ((with_reducible refine (hc1 _ (by exact hv.same rfl)).mono ?_); rintro e w3 ⟨rfl, z3, rfl⟩))
        | (go_at_call 24; ((with_reducible refine (hc2 _ (by exact hv.same rfl)).mono ?_); rintro e w4 ⟨rfl, z4, rfl⟩))
        | (go_at_call 25; ((with_reducible refine (hd _).mono ?_); rintro e w6 ⟨rfl, rfl⟩)))
      go_ret
      exact ⟨rfl, _, rfl⟩
    · rw [if_neg h60]
      have m60 : ((m : Int) == 60) = false := by simp; omega
      go_enter Try.func16, Try.ntmps16
      go_wp2_with (go_at_call 24; ((with_reducible refine (hc0 _ (by exact hv)).mono ?_); rintro e w1 ⟨rfl, z1, rfl⟩))
      go_ret
      exact ⟨rfl, _, rfl⟩
set_option maxHeartbeats 1000000 in
theorem refall_any (m : Nat) (A : Option Addr) (n c : Nat) (ys : List Int) (w : World) (hv : Vals w A n ys) (hn : n ≤ 100000) (hc : n ≤ c) (hc2 : c ≤ 9223372036854775807) :
    Calls Try.prog 10 #[.int .i64 (m : Nat), .slice A n c] w fun e w' => ∃ B d, e = .returned (.slice B n d) ∧ n ≤ d ∧ d ≤ 9223372036854775807 ∧ Vals w' B n (outsT (notchT m) [] ys) ∧ (∀ x, B = some x → w.heap.size ≤ x.block) ∧ Below w.heap.size w w' := by
  have hlen := hv.len_
  have hInfo : (Try.prog.info? 2).map (fun i => (i.zero, i.size, i.bytes)) = some (some (.int .i64 0), 1, 8) := by kernel_rfl
  have HInfo := Lib.hid hInfo
  clear hInfo
  go_enter Try.func10, Try.ntmps10
  go_wp2
  go_loopw [5, 6] (fun v i wr => ∃ j : Nat, j ≤ n ∧ i = .int .i64 (j : Nat) ∧ wr.ownsRow w.heap.size 2 1 v j (vals (outsT (notchT m) [] (ys.take j))) ∧ Below w.heap.size w wr) (fun _ i _ => n - (intOf i).toNat)
  case atStart => exact ⟨0, by omega, rfl, own_none _ _ _, Below.refl _ _⟩
  case round =>
    obtain ⟨j, hj, rfl, hO, hB⟩ := hrel
    by_cases hjn : j < n
    · obtain ⟨x, rfl, _⟩ := hv.cells (by omega)
      have hv1 := (hv.take (j + 1) (by omega)).below hB
      rw [show ys.take (j + 1) = (ys.take (j + 1)).reverse.reverse by rw [List.reverse_reverse]] at hv1
      have hone := refone_any m (some x) (j + 1) c (ys.take (j + 1)).reverse wr hv1 (by omega)
      have hst := outs_step (notchT m) [] ys j (by omega)
      rw [came_step [] ys j (by omega), List.append_nil] at hst
      generalize notchT m (ys.take (j + 1)).reverse = r at *
      have HS := Lib.hid hst
      clear hst hv hv1 hlen
      go_wp2_with (first
        | (go_at_call 16; ((with_reducible refine hone.mono ?_); rintro e w1 ⟨rfl, z, rfl⟩; have hP := one_ready 2 r (own_drewN hO z) (below_drewN hB z)))
        | (at_builtin; refine wpList_append_vals rfl (.tmp 13) (.tmp 20) _ rfl w.heap.size 2 8 (by omega) Try.underlying22 HInfo.out u5 j (outsT (notchT m) [] (ys.take j)) rfl (by exact hP.1) _ 1 1 [r] rfl (by exact hP.2.2) (by omega) (by exact hP.2.1.size) ?_; intro v3 W3 hO3 hg3 hat3; have hB3 := below_kept hP.2.1 (Kept.of_grown hg3) hP.2.1.size (own_in hP.1); rw [← HS.out] at hO3))
      go_roundw
      case rel => exact ⟨j + 1, by omega, by go_num, hO3, hB3⟩
      case measure => simp [intOf]; omega
    · obtain rfl : j = n := by omega
      rw [List.take_of_length_le (by omega)] at hO
      obtain ⟨A1, c1, rfl, e1, e2, hV1, hfar1, _⟩ := Vals.own hO
      go_wp2
      go_ret
      exact ⟨A1, c1, rfl, e1, e2, hV1, (fun x hx => (hfar1 x hx).1), hB⟩
end Go.Proofs.Ythfddociljeolaa.Notch
