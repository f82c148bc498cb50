/- What the reference of layer 13 answers. -/
import Derived.Test.YtpfoonhobeflhaaSlopeMath
import Derived.Test.YtpfoonhobeflhaaFilterRef
import Derived.Test.YtpfoonhobeflhaaFixqDiv
import Derived.Test.YtpfoonhobeflhaaOwn
set_option linter.unusedSimpArgs false
set_option linter.unusedVariables false
namespace Go.Proofs.Ytpfoonhobeflhaa.Slope
open Go.RowKit RI64
theorem refcame_any (A : Option Addr) (n c : Nat) (h : List Int) (k : Nat) (w : World) (hv : Vals w A n h.reverse) (hn : n ≤ 1000000) (hk : k ≤ 4) :
    Calls Try.prog 20 #[.slice A n c, .int .i64 (k : Nat)] w fun e w' => e = .returned (.int .i64 (cameT 142847 h k)) ∧ ∃ z, w' = w.drewN z := by
  have hb := refback_any A n c h k w hv (by omega)
  rw [ago_nat] at hb
  have hne := fun W => refnear_to 142847 (h.getD k 0) W (by omega) (by omega)
  unfold cameT
  generalize nearTo 142847 (h.getD k 0) = r at *
  generalize h.getD k 0 = v at *
  go_enter Try.func20, Try.ntmps20
  go_wp2_with (first
    | (go_at_call 31; ((with_reducible refine hb.mono ?_); rintro e w1 ⟨rfl, z, rfl⟩))
    | (go_at_call 30; ((with_reducible refine (hne _).mono ?_); rintro e w2 ⟨rfl, rfl⟩)))
  go_ret
  exact ⟨rfl, z, rfl⟩
set_option maxHeartbeats 1000000 in
theorem refall_any (A : Option Addr) (n c : Nat) (ys : List Int) (w : World) (hv : Vals w A n ys) (hn : n ≤ 100000) (hc : n ≤ c) (hc2 : c ≤ 9223372036854775807) :
    Calls Try.prog 10 #[.slice A n c] w fun e w' => ∃ B d, e = .returned (.slice B n d) ∧ n ≤ d ∧ d ≤ 9223372036854775807 ∧ Vals w' B n (outsT slopeT [] ys) ∧ (∀ x, B = some x → w.heap.size ≤ x.block) ∧ Below w.heap.size w w' := by
  have hlen := hv.len_
  have hInfo : (Try.prog.info? 2).map (fun i => (i.zero, i.size, i.bytes)) = some (some (.int .i64 0), 1, 8) := by kernel_rfl
  have HInfo := Lib.hid hInfo
  clear hInfo
  go_enter Try.func10, Try.ntmps10
  go_wp2
  go_loopw [3, 4] (fun v i wr => ∃ j : Nat, j ≤ n ∧ i = .int .i64 (j : Nat) ∧ wr.ownsRow w.heap.size 2 1 v j (vals (outsT slopeT [] (ys.take j))) ∧ Below w.heap.size w wr) (fun _ i _ => n - (intOf i).toNat)
  case atStart => exact ⟨0, by omega, rfl, own_none _ _ _, Below.refl _ _⟩
  case round =>
    obtain ⟨j, hj, rfl, hO, hB⟩ := hrel
    by_cases hjn : j < n
    · obtain ⟨x, rfl, _⟩ := hv.cells (by omega)
      have hv1 := (hv.take (j + 1) (by omega)).below hB
      rw [show ys.take (j + 1) = (ys.take (j + 1)).reverse.reverse by rw [List.reverse_reverse]] at hv1
      have hst := outs_step slopeT [] ys j (by omega)
      rw [came_step [] ys j (by omega), List.append_nil] at hst
      have HS := Lib.hid hst
      clear hst hv hlen
      generalize (ys.take (j + 1)).reverse = h at *
      have hca : ∀ (k : Nat), k ≤ 4 → ∀ W, W.heap = wr.heap → Calls Try.prog 20 #[.slice (some x) (j + 1) c, .int .i64 (k : Nat)] W fun e w' => e = .returned (.int .i64 (cameT 142847 h k)) ∧ ∃ z, w' = W.drewN z := fun k hk W hW => refcame_any (some x) (j + 1) c h k W (hv1.same hW) (by omega) hk
      have hb0 := hca 0 (by omega) wr rfl
      have hb1 := fun z0 => hca 1 (by omega) (wr.drewN z0) rfl
      have hb3 := fun z0 => hca 3 (by omega) (wr.drewN z0) rfl
      have hb4 := fun z0 => hca 4 (by omega) (wr.drewN z0) rfl
      rw [show ((0 : Nat) : Int) = 0 from rfl] at hb0
      rw [show ((1 : Nat) : Int) = 1 from rfl] at hb1
      rw [show ((3 : Nat) : Int) = 3 from rfl] at hb3
      rw [show ((4 : Nat) : Int) = 4 from rfl] at hb4
      have e0 := came_slope h 0
      have e1 := came_slope h 1
      have e3 := came_slope h 3
      have e4 := came_slope h 4
      have hsb := sum_bd h
      have hdv := fun W => refdiv_yes (sumT h) 8 W (by unfold fits64; omega) (by omega) (by omega)
      rw [Int.fdiv_eq_ediv_of_nonneg _ (by omega : (0 : Int) ≤ 8), show sumT h / 8 = slopeT h from rfl] at hdv
      unfold sumT at hdv hsb
      generalize slopeT h = r at *
      generalize cameT 142847 h 0 = x0 at *
      generalize cameT 142847 h 1 = x1 at *
      generalize cameT 142847 h 3 = x3 at *
      generalize cameT 142847 h 4 = x4 at *
      clear hca hv1
      go_wp2_with (first
        | (go_at_call 20; ((with_reducible refine hb0.mono ?_); rintro e w1 ⟨rfl, z0, rfl⟩))
        | (go_at_call 20; ((with_reducible refine (hb1 _).mono ?_); rintro e w2 ⟨rfl, z1, rfl⟩))
        | (go_at_call 20; ((with_reducible refine (hb3 _).mono ?_); rintro e w3 ⟨rfl, z3, rfl⟩))
        | (go_at_call 20; ((with_reducible refine (hb4 _).mono ?_); rintro e w4 ⟨rfl, z4, rfl⟩))
        | (go_at_call 19; ((with_reducible refine (hdv _).mono ?_); rintro e w5 ⟨rfl, rfl⟩; have hP := one_ready 2 r (own_drewN hO (z0 + z1 + z3 + z4)) (below_drewN hB (z0 + z1 + z3 + z4))))
        | (at_builtin; refine wpList_append_vals rfl (.tmp 35) (.tmp 37) _ rfl w.heap.size 2 8 (by omega) Try.underlying22 HInfo.out u3 j (outsT slopeT [] (ys.take j)) rfl (by exact hP.1) _ 1 1 [r] rfl (by exact hP.2.2) (by omega) (by exact hP.2.1.size) ?_; intro v3 W3 hO3 hg3 hat3; have hB3 := below_kept hP.2.1 (Kept.of_grown hg3) hP.2.1.size (own_in hP.1); rw [← HS.out] at hO3))
      go_roundw
      case rel => exact ⟨j + 1, by omega, by go_num, hO3, hB3⟩
      case measure => simp [intOf]; omega
    · obtain rfl : j = n := by omega
      rw [List.take_of_length_le (by omega)] at hO
      obtain ⟨A1, c1, rfl, e1, e2, hV1, hfar1, _⟩ := Vals.own hO
      go_wp2
      go_ret
      exact ⟨A1, c1, rfl, e1, e2, hV1, (fun x hx => (hfar1 x hx).1), hB⟩
end Go.Proofs.Ytpfoonhobeflhaa.Slope
