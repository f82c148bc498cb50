/- What the reference of layer 14 answers. -/
import Derived.Test.YtlbppllfmephdaaWinMath
import Derived.Test.YtlbppllfmephdaaFilterRef
import Derived.Test.YtlbppllfmephdaaOwn
set_option linter.unusedSimpArgs false
set_option linter.unusedVariables false
namespace Go.Proofs.Ytlbppllfmephdaa.Win
open Go.RowKit RI64
set_option maxHeartbeats 2000000 in
theorem refall_any (A : Option Addr) (n c : Nat) (ys : List Int) (w : World) (hv : Vals w A n ys) (hn : n ≤ 100000) (hc : n ≤ c) (hc2 : c ≤ 9223372036854775807) :
    Calls Try.prog 7 #[.slice A n c] w fun e w' => ∃ B d, e = .returned (.slice B n d) ∧ n ≤ d ∧ d ≤ 9223372036854775807 ∧ Vals w' B n (outsT winT [] ys) ∧ (∀ x, B = some x → w.heap.size ≤ x.block) ∧ Below w.heap.size w w' := by
  have hlen := hv.len_
  have hInfo : (Try.prog.info? 2).map (fun i => (i.zero, i.size, i.bytes)) = some (some (.int .i64 0), 1, 8) := by kernel_rfl
  have HInfo := Lib.hid hInfo
  clear hInfo
  go_enter Try.func7, Try.ntmps7
  go_wp2
  go_loopw [3, 4] (fun v i wr => ∃ j : Nat, j ≤ n ∧ i = .int .i64 (j : Nat) ∧ wr.ownsRow w.heap.size 2 1 v j (vals (outsT winT [] (ys.take j))) ∧ Below w.heap.size w wr) (fun _ i _ => n - (intOf i).toNat)
  case atStart => exact ⟨0, by omega, rfl, own_none _ _ _, Below.refl _ _⟩
  case round =>
    obtain ⟨j, hj, rfl, hO, hB⟩ := hrel
    by_cases hjn : j < n
    · obtain ⟨x, rfl, _⟩ := hv.cells (by omega)
      have hv1 := (hv.take (j + 1) (by omega)).below hB
      rw [show ys.take (j + 1) = (ys.take (j + 1)).reverse.reverse by rw [List.reverse_reverse]] at hv1
      have hst := outs_step winT [] ys j (by omega)
      rw [came_step [] ys j (by omega), List.append_nil] at hst
      have HS := Lib.hid hst
      have hhl : (ys.take (j + 1)).reverse.length = j + 1 := by rw [List.length_reverse, List.length_take]; omega
      clear hst hv hlen
      generalize (ys.take (j + 1)).reverse = h at *
      have HL := Lib.hid hhl
      clear hhl
      obtain ⟨x', hx', hcs⟩ := hv1.cells (by omega)
      cases hx'
      have HC := Lib.hid hcs
      clear hcs hv1
      obtain ⟨m, hm1, hm2, hm3⟩ : ∃ m : Nat, m ≤ 30 ∧ m ≤ j + 1 ∧ (m = 30 ∨ m = j + 1) := by
        rcases Nat.lt_or_ge 30 (j + 1) with h1 | h1
        · exact ⟨30, by omega, by omega, by omega⟩
        · exact ⟨j + 1, by omega, by omega, by omega⟩
      have HM := Lib.hid hm3
      clear hm3
      have hs0 := sum_none h
      have HS0 := Lib.hid hs0
      clear hs0
      go_wp2
      go_loopw [5, 6] (fun s i wr2 => ∃ k : Nat, k ≤ m ∧ i = .int .i64 (k : Nat) ∧ s = .int .i64 (sumT h k) ∧ wr2 = wr) (fun _ i _ => m - (intOf i).toNat)
      case atStart => exact ⟨0, by omega, rfl, by rw [HS0.out], rfl⟩
      case round =>
        obtain ⟨k, hk, rfl, rfl, rfl⟩ := hrel
        by_cases hkn : k < m
        · have hk30 : (k : Int) < 30 := by omega
          have hkj : (k : Int) ≤ (j : Int) := by omega
          have hcell := HC.out (j - k) (by omega)
          have hrv := rev_at h k (by rw [HL.out]; omega)
          rw [HL.out, show j + 1 - 1 - k = j - k by omega] at hrv
          rw [hrv] at hcell
          have hjk : (j : Int) - (k : Int) = ((j - k : Nat) : Int) := by omega
          have hs1 := sum_bd h k (by omega)
          have hs2 := sum_step h k
          have hc1 := cameS_bd h k
          unfold cameS at hs2 hc1
          rw [nearS_ifs] at hs2 hc1
          have HST := Lib.hid hs2
          clear hs2 hrv
          generalize h.getD k 0 = v at *
          generalize sumT h k = sk at *
          obtain ⟨q, hq⟩ : ∃ q, j - k = q := ⟨_, rfl⟩
          have hqj : q < j + 1 := by omega
          rw [hq] at hcell hjk
          clear hq
          go_wp2
          go_roundw
          case rel => exact ⟨k + 1, by omega, by go_num, by rw [HST.out], by trivial⟩
          case measure => simp [intOf]; omega
        · have hkm : k = m := by omega
          have hsf : sumT h k = sumT h 30 := by
            rcases HM.out with h1 | h1
            · rw [hkm, h1]
            · exact sum_few h k (by rw [HL.out]; omega) (by omega)
          have hgo : ¬ (k : Int) < 30 ∨ ((k : Int) < 30 ∧ ¬ (k : Int) ≤ (j : Int)) := by have := HM.out; omega
          have hsb := sum_bd h 30 (by omega)
          have hdv : (sumT h 30).tdiv 32 = winT h := Int.tdiv_eq_ediv_of_nonneg hsb.1
          have hwb := win_bd h
          have hP := one_ready 2 (winT h) hO hB
          rw [hsf]
          clear hkm hkn hk HC hsf
          generalize winT h = r at *
          generalize sumT h 30 = s30 at *
          rcases hgo with g1 | ⟨g1, g2⟩
          all_goals
            go_wp2_with (at_builtin; refine wpList_append_vals rfl (.tmp 32) (.tmp 35) _ rfl w.heap.size 2 8 (by omega) Try.underlying22 HInfo.out u3 j (outsT winT [] (ys.take j)) rfl (by exact hP.1) _ 1 1 [r] rfl (by exact hP.2.2) (by omega) (by exact hP.2.1.size) ?_; intro v3 W3 hO3 hg3 hat3; have hB3 := below_kept hP.2.1 (Kept.of_grown hg3) hP.2.1.size (own_in hP.1); rw [← HS.out] at hO3)
            go_roundw
            case rel => exact ⟨j + 1, by omega, by go_num, hO3, hB3⟩
            case measure => simp [intOf]; omega
    · obtain rfl : j = n := by omega
      rw [List.take_of_length_le (by omega)] at hO
      obtain ⟨A1, c1, rfl, e1, e2, hV1, hfar1, _⟩ := Vals.own hO
      go_wp2
      go_ret
      exact ⟨A1, c1, rfl, e1, e2, hV1, (fun x hx => (hfar1 x hx).1), hB⟩
end Go.Proofs.Ytlbppllfmephdaa.Win
