/- What the reference of layer 12 answers. -/
import Derived.Test.YtbahcoghkmfchaaHighMath
import Derived.Test.YtbahcoghkmfchaaFilterRef
import Derived.Test.YtbahcoghkmfchaaFixqDiv
import Derived.Test.YtbahcoghkmfchaaOwn
set_option linter.unusedSimpArgs false
set_option linter.unusedVariables false
namespace Go.Proofs.Ytbahcoghkmfchaa.High
open Go.RowKit RI64
set_option maxHeartbeats 2000000 in
theorem refall_any (A : Option Addr) (n c : Nat) (ys : List Int) (w : World) (hv : Vals w A n ys) (hn : n ≤ 100000) (hc : n ≤ c) (hc2 : c ≤ 9223372036854775807) :
    Calls Try.prog 10 #[.slice A n c] w fun e w' => ∃ B d, e = .returned (.slice B n d) ∧ n ≤ d ∧ d ≤ 9223372036854775807 ∧ Vals w' B n (outsT highT [] ys) ∧ (∀ x, B = some x → w.heap.size ≤ x.block) ∧ Below w.heap.size w w' := by
  have hlen := hv.len_
  have hInfo : (Try.prog.info? 2).map (fun i => (i.zero, i.size, i.bytes)) = some (some (.int .i64 0), 1, 8) := by kernel_rfl
  have HInfo := Lib.hid hInfo
  clear hInfo
  go_enter Try.func10, Try.ntmps10
  go_wp2
  go_loopw [3, 4] (fun v i wr => ∃ j : Nat, j ≤ n ∧ i = .int .i64 (j : Nat) ∧ wr.ownsRow w.heap.size 2 1 v j (vals (outsT highT [] (ys.take j))) ∧ Below w.heap.size w wr) (fun _ i _ => n - (intOf i).toNat)
  case atStart => exact ⟨0, by omega, rfl, own_none _ _ _, Below.refl _ _⟩
  case round =>
    obtain ⟨j, hj, rfl, hO, hB⟩ := hrel
    by_cases hjn : j < n
    · obtain ⟨x, rfl, _⟩ := hv.cells (by omega)
      have hv1 := (hv.take (j + 1) (by omega)).below hB
      rw [show ys.take (j + 1) = (ys.take (j + 1)).reverse.reverse by rw [List.reverse_reverse]] at hv1
      have hst := outs_step highT [] ys j (by omega)
      rw [came_step [] ys j (by omega), List.append_nil] at hst
      have HS := Lib.hid hst
      clear hst hv hlen
      generalize (ys.take (j + 1)).reverse = h at *
      have hback : ∀ (k : Nat) W, W.heap = wr.heap → Calls Try.prog 16 #[.slice (some x) (j + 1) c, .int .i64 (k : Nat)] W fun e w' => e = .returned (.int .i64 (h.getD k 0)) ∧ ∃ z, w' = W.drewN z := fun k W hW => by
        have hb := refback_any (some x) (j + 1) c h k W (hv1.same hW) (by omega)
        rwa [ago_nat] at hb
      have hne : ∀ k W, Calls Try.prog 15 #[.int .i64 (h.getD k 0), .int .i64 73727] W fun e w' => e = .returned (.int .i64 (cameT 73727 h k)) ∧ W = w' := fun k W => refnear_to 73727 (h.getD k 0) W (by omega) (by omega)
      have hb16 := fun W hW => hback 16 W hW
      rw [show ((16 : Nat) : Int) = 16 from rfl] at hb16
      have hn16 := hne 16
      have hc16 := came_high h 16
      have hwb := whole_bd h
      have hdv := fun W => refdiv_yes (wholeT h) 32 W (by unfold fits64; omega) (by omega) (by omega)
      rw [Int.fdiv_eq_ediv_of_nonneg _ (by omega : (0 : Int) ≤ 32), show wholeT h / 32 = highT h from rfl] at hdv
      unfold wholeT at hdv hwb
      have hbd := fun (k : Nat) (hk : k ≤ 32) => sum_bd h k hk
      have hss := fun (k : Nat) => sum_step h k
      have hcc := fun (k : Nat) => came_high h k
      have hs0 := sum_none h
      generalize highT h = r at *
      generalize cameT 73727 h 16 = c16 at *
      generalize h.getD 16 0 = v16 at *
      have HBD := Lib.hid (And.intro hbd (And.intro hss hcc))
      clear hbd hss hcc
      have HS0 := Lib.hid hs0
      clear hs0
      go_wp2_with (first
        | (go_at_call 16; ((with_reducible refine (hb16 _ (by rfl)).mono ?_); rintro e W1 ⟨rfl, z1, rfl⟩))
        | (go_at_call 15; ((with_reducible refine (hn16 _).mono ?_); rintro e W2 ⟨rfl, rfl⟩)))
      go_loopw [6, 7] (fun s i wr2 => ∃ k : Nat, k ≤ 32 ∧ i = .int .i64 (k : Nat) ∧ s = .int .i64 (32 * c16 - sumT h k) ∧ ∃ d, wr2 = wr.drewN d) (fun _ i _ => 32 - (intOf i).toNat)
      case atStart => exact ⟨0, by omega, rfl, by rw [HS0.out, Int.sub_zero], z1, rfl⟩
      case round =>
        obtain ⟨k, hk, rfl, rfl, d, rfl⟩ := hrel
        by_cases hkn : k < 32
        · have hbk := hback k (wr.drewN d) rfl
          have hnk := hne k
          have hs1 := HBD.out.1 k hk
          have hs2 := HBD.out.2.2 k
          have HST := Lib.hid (HBD.out.2.1 k)
          clear hback hne hb16 hn16 hdv hwb
          generalize cameT 73727 h k = ck at *
          generalize h.getD k 0 = vk at *
          generalize sumT h k = sk at *
          go_wp2_with (first
            | (go_at_call 16; ((with_reducible refine hbk.mono ?_); rintro e W1 ⟨rfl, z2, rfl⟩))
            | (go_at_call 15; ((with_reducible refine (hnk _).mono ?_); rintro e W2 ⟨rfl, rfl⟩)))
          go_roundw
          case rel => exact ⟨k + 1, by omega, by go_num, by rw [HST.out, Int.sub_sub], d + z2, by first | rfl | rw [World.drewN_drewN]⟩
          case measure => simp [intOf]; omega
        · obtain rfl : k = 32 := by omega
          have hO1 := own_drewN hO d
          have hB2 := below_drewN hB d
          generalize sumT h 32 = s32 at *
          clear hback hne hb16 hn16 HBD HS0
          go_wp2_with (first
            | (go_at_call 17; ((with_reducible refine (hdv _).mono ?_); rintro e w2 ⟨rfl, rfl⟩; have hP := one_ready 2 r hO1 hB2))
            | (at_builtin; refine wpList_append_vals rfl (.tmp 39) (.tmp 41) _ rfl w.heap.size 2 8 (by omega) Try.underlying22 HInfo.out u3 j (outsT highT [] (ys.take j)) rfl (by exact hP.1) _ 1 1 [r] rfl (by exact hP.2.2) (by omega) (by exact hP.2.1.size) ?_; intro v3 W3 hO3 hg3 hat3; have hB3 := below_kept hP.2.1 (Kept.of_grown hg3) hP.2.1.size (own_in hP.1); rw [← HS.out] at hO3))
          go_roundw
          case rel => exact ⟨j + 1, by omega, by go_num, hO3, hB3⟩
          case measure => simp [intOf]; omega
    · obtain rfl : j = n := by omega
      rw [List.take_of_length_le (by omega)] at hO
      obtain ⟨A1, c1, rfl, e1, e2, hV1, hfar1, _⟩ := Vals.own hO
      go_wp2
      go_ret
      exact ⟨A1, c1, rfl, e1, e2, hV1, (fun x hx => (hfar1 x hx).1), hB⟩
end Go.Proofs.Ytbahcoghkmfchaa.High
