/- What the reference of layer 18 answers. -/
import Derived.Test.YtgdhpoafjfjdiaaPaceMath
import Derived.Test.YtgdhpoafjfjdiaaOwnMore
import Derived.Lib.Hide
import Derived.ProofKit
import Derived.Handy
set_option linter.unusedSimpArgs false
set_option linter.unusedVariables false
namespace Go.Proofs.Ytgdhpoafjfjdiaa.Pace
open Go.RowKit RI64
theorem last_step (l : List Int) (a j : Nat) (haj : a ≤ j) (hj : j < l.length) : (((l.take (j + 1)).drop a).map distR) = ((l.take j).drop a).map distR ++ [distR (l.getD j 0)] := by
  rw [List.take_succ_eq_append_getElem hj, List.drop_append_of_le_length (by rw [List.length_take]; omega), List.map_append, List.getD_eq_getElem?_getD, List.getElem?_eq_getElem hj]
  rfl
set_option maxHeartbeats 1000000 in
theorem reflast_any (A : Option Addr) (n c : Nat) (l : List Int) (w : World) (hv : Vals w A n l) (hn : n ≤ 100000) :
    Calls Try.prog 22 #[.slice A n c] w fun e w' => ∃ B d, e = .returned (.slice B (many l) d) ∧ Vals w' B (many l) ((l.drop (n - 8)).map distR) ∧ Below w.heap.size w w' := by
  have hlen := hv.len_
  have HInfo := Lib.hid (show (Try.prog.info? 2).map (fun i => (i.zero, i.size, i.bytes)) = some (some (.int .i64 0), 1, 8) by kernel_rfl)
  obtain ⟨a, ha⟩ : ∃ a, n - 8 = a := ⟨_, rfl⟩
  have han : a ≤ n := by omega
  have hmax : (if (0 : Int) < (n : Int) - 8 then (n : Int) - 8 else 0) = (a : Int) := by split <;> omega
  have hmax2 : (if (8 : Int) < (n : Int) then (n : Int) - 8 else 0) = (a : Int) := by split <;> omega
  have hmax3 : (if 8 < n then (n : Int) - 8 else 0) = (a : Int) := by split <;> omega
  rw [ha]
  go_enter Try.func22, Try.ntmps22
  go_wp2
  go_loopw [3, 4] (fun v i wr => ∃ j : Nat, a ≤ j ∧ j ≤ n ∧ i = .int .i64 (j : Nat) ∧ wr.ownsRow w.heap.size 2 1 v (j - a) (vals (((l.take j).drop a).map distR)) ∧ Below w.heap.size w wr) (fun _ i _ => n - (intOf i).toNat)
  case atStart =>
    refine ⟨a, Nat.le_refl _, han, rfl, ?_, Below.refl _ _⟩
    rw [Nat.sub_self, List.drop_of_length_le (by rw [List.length_take]; omega)]
    exact own_none _ _ _
  case round =>
    obtain ⟨j, haj, hj, rfl, hO, hB⟩ := hrel
    by_cases hjn : j < n
    · obtain ⟨x, rfl, hcx⟩ := (hv.below hB).cells (by omega)
      have hcell := hcx j hjn
      have hst := last_step l a j haj (by omega)
      have hlj : (((l.take j).drop a).map distR).length = j - a := by rw [List.length_map, List.length_drop, List.length_take]; omega
      obtain ⟨m, hm⟩ : ∃ m, (if l.getD j 0 < 1 then 1 else l.getD j 0) = m := ⟨_, rfl⟩
      have hr := distR_ifs (l.getD j 0) m hm
      generalize distR (l.getD j 0) = r at *
      generalize l.getD j 0 = v at *
      have HS := Lib.hid hst
      have hP := ready_one 2 r hO hB
      have hja : j - a ≤ 100000 := by omega
      have hsz : j - a + 1 = j + 1 - a := by omega
      have HSZ := Lib.hid hsz
      clear hst hv hlen hcx hmax hmax2 hmax3 hsz hlj
      go_wp2_with (at_builtin; refine wpList_append_vals rfl (.tmp 15) (.tmp 22) _ rfl w.heap.size 2 8 (by omega) Try.underlying22 HInfo.out u3 (j - a) (((l.take j).drop a).map distR) rfl (by exact hP.1) _ 1 1 [r] rfl (by exact hP.2.2) (by omega) (by exact hP.2.1.size) ?_; intro v3 W3 hO3 hg3 hat3; have hB3 := below_kept hP.2.1 (Kept.of_grown hg3) hP.2.1.size (own_in hP.1); rw [← HS.out, HSZ.out] at hO3)
      go_roundw
      case rel => exact ⟨j + 1, by omega, by omega, by go_num, hO3, hB3⟩
      case measure => simp [intOf]; omega
    · obtain rfl : j = n := by omega
      rw [List.take_of_length_le (by omega)] at hO
      obtain ⟨A1, c1, rfl, e1, e2, hV1, hfar1, _⟩ := Vals.own hO
      have hmn : j - a = many l := by unfold many; omega
      rw [hmn] at hV1 ⊢
      clear hv hmax hmax2 hmax3
      go_wp2
      go_ret
      exact ⟨A1, c1, rfl, hV1, hB⟩
theorem sum_take (l : List Int) (j : Nat) (hj : j < l.length) : (l.take (j + 1)).sum = (l.take j).sum + l.getD j 0 := by
  rw [List.take_succ_eq_append_getElem hj, List.sum_append, List.getD_eq_getElem?_getD, List.getElem?_eq_getElem hj]
  simp
theorem sum_take_bd (l : List Int) (h : ∀ v ∈ l, 1 ≤ v ∧ v ≤ 1073741824) (hl : l.length ≤ 8) (j : Nat) : 0 ≤ (l.take j).sum ∧ (l.take j).sum ≤ 8589934592 := by
  have h1 := sums_bd (l.take j) 1 1073741824 (fun v hv => h v (List.mem_of_mem_take hv))
  have h2 : (l.take j).length ≤ 8 := by rw [List.length_take]; omega
  omega
set_option maxHeartbeats 1000000 in
theorem refmean_any (A : Option Addr) (n c : Nat) (l : List Int) (w : World) (hv : Vals w A n l) (hn : n ≤ 100000) :
    Calls Try.prog 13 #[.slice A n c] w fun e w' => e = .returned (.int .i64 (meanT l.reverse)) ∧ Below w.heap.size w w' := by
  have hlen := hv.len_
  have hla := reflast_any A n c l w hv hn
  have hsum := sum_drop l
  rw [hlen] at hsum
  have hmb := many_bd l
  have hbd := sum_take_bd ((l.drop (n - 8)).map distR) (fun v hv => by
    obtain ⟨u, _, rfl⟩ := List.mem_map.1 hv
    exact distR_bd u) (by rw [List.length_map, List.length_drop]; omega)
  have hll : ((l.drop (n - 8)).map distR).length = many l := by rw [List.length_map, List.length_drop]; unfold many; omega
  have hm0 : meanT l.reverse = if many l = 0 then 0 else sumR l.reverse / (many l : Int) := by
    unfold meanT many
    rw [List.length_reverse]
    by_cases h0 : l.length = 0
    · rw [if_pos h0, if_pos (by omega)]
    · rw [if_neg h0, if_neg (by omega)]
  have hst := fun j (hj : j < many l) => sum_take ((l.drop (n - 8)).map distR) j (by omega)
  have hsn : (((l.drop (n - 8)).map distR).take (many l)).sum = sumR l.reverse := by rw [List.take_of_length_le (by omega), hsum]
  generalize (l.drop (n - 8)).map distR = ys at *
  generalize many l = m at *
  generalize sumR l.reverse = S at *
  obtain ⟨R, hR⟩ : ∃ R, (if m = 0 then 0 else S / (m : Int)) = R := ⟨_, rfl⟩
  rw [hm0, hR]
  clear hv hlen hsum hm0
  have HBD := Lib.hid hbd
  have HST := Lib.hid hst
  clear hbd hst
  go_enter Try.func13, Try.ntmps13
  go_wp2_with (go_at_call 22; ((with_reducible refine hla.mono ?_); rintro e W1 ⟨B, d, rfl, hV, hB⟩))
  go_loop [4, 5] (fun s i => ∃ j : Nat, j ≤ m ∧ i = .int .i64 (j : Nat) ∧ s = .int .i64 (ys.take j).sum) (fun _ i => m - (intOf i).toNat)
  case atStart => exact ⟨0, by omega, rfl, by simp⟩
  case round =>
    obtain ⟨j, hj, rfl, rfl⟩ := hrel
    by_cases hjm : j < m
    · obtain ⟨x, rfl, hcx⟩ := hV.cells (by omega)
      have hcell := hcx j hjm
      have hb1 := HBD.out j
      have hb2 := HBD.out (j + 1)
      have hs := HST.out j hjm
      rw [hs] at hb2
      have HS := Lib.hid hs
      generalize (ys.take j).sum = s at *
      generalize ys.getD j 0 = v at *
      clear hs hcx hV hll hla
      go_wp2
      go_round
      case rel => exact ⟨j + 1, by omega, by go_num, by rw [HS.out]⟩
      case measure => simp [intOf]; omega
    · obtain rfl : j = m := by omega
      have hb := HBD.out j
      rw [hsn] at hb
      rw [hsn]
      clear hV hll hla
      by_cases h0 : j = 0
      · rw [if_pos h0] at hR
        subst hR
        have hz : ((j : Int) == 0) = true := by simp [h0]
        have hz2 : (j : Int) = 0 := by omega
        go_wp2
        go_ret
        exact ⟨rfl, hB⟩
      · rw [if_neg h0] at hR
        subst hR
        have hj0 : (0 : Int) < (j : Int) := by omega
        have hz : ¬ (j : Int) = 0 := by omega
        have hq : S.tdiv (j : Int) = S / (j : Int) := Int.tdiv_eq_ediv_of_nonneg hb.1
        have hq1 : 0 ≤ S / (j : Int) := Int.ediv_nonneg hb.1 (by omega)
        have hq2 : S / (j : Int) ≤ S := Int.ediv_le_self _ hb.1
        have hq3 : -9223372036854775808 ≤ S / (j : Int) ∧ S / (j : Int) ≤ 9223372036854775807 := by omega
        clear hq1 hq2
        go_wp2
        go_ret
        exact ⟨rfl, hB⟩
theorem late_len (h : List Int) (s : Int) (h0 : h.length = 0) : lateT h s = false := by unfold lateT; simp [h0]
theorem late_mean (h : List Int) (s : Int) (h0 : 0 < h.length) : lateT h s = decide (5 * meanT h / 3 < s) := by unfold lateT; simp [h0]
set_option maxHeartbeats 1000000 in
theorem reflate_any (A : Option Addr) (n c : Nat) (l : List Int) (s : Int) (w : World) (hv : Vals w A n l) (hn : n ≤ 100000) :
    Calls Try.prog 14 #[.slice A n c, .int .i64 s] w fun e w' => e = .returned (.bool (lateT l.reverse s)) ∧ Below w.heap.size w w' := by
  have hlen := hv.len_
  have hme := refmean_any A n c l w hv hn
  have hmb := mean_bd l.reverse
  by_cases h0 : n = 0
  · rw [late_len _ _ (by rw [List.length_reverse]; omega)]
    subst h0
    clear hme hmb hv hlen
    go_enter Try.func14, Try.ntmps14
    go_wp2
    go_ret
    exact ⟨rfl, Below.refl _ _⟩
  · rw [late_mean _ _ (by rw [List.length_reverse]; omega)]
    generalize meanT l.reverse = M at *
    have hq : (5 * M).tdiv 3 = 5 * M / 3 := Int.tdiv_eq_ediv_of_nonneg (by omega)
    have h5 : 0 ≤ 5 * M ∧ 5 * M ≤ 5368709120 := by omega
    have h6 : 0 ≤ 5 * M / 3 ∧ 5 * M / 3 ≤ 5368709120 := by omega
    have hnz : (0 : Int) < (n : Int) := by omega
    have hnz2 : 0 < n := by omega
    clear h0 hv hlen
    go_enter Try.func14, Try.ntmps14
    go_wp2_with (go_at_call 13; ((with_reducible refine hme.mono ?_); rintro e W1 ⟨rfl, hB⟩))
    go_ret
    exact ⟨rfl, hB⟩
theorem refrate_any (rr : Int) (w : World) (hr : -9223372036854775808 ≤ rr ∧ rr ≤ 9223372036854775807) :
    Calls Try.prog 17 #[.int .i64 rr] w fun e w' => e = .returned (.int .i64 (rateT rr)) ∧ w = w' := by
  unfold rateT
  by_cases h1 : rr < 1
  · rw [if_pos h1]
    go_enter Try.func17, Try.ntmps17
    go_wp2
    go_ret
    exact ⟨rfl, rfl⟩
  · rw [if_neg h1]
    have hz : ¬ rr = 0 := by omega
    have hq : (12000 : Int).tdiv rr = 12000 / rr := Int.tdiv_eq_ediv_of_nonneg (by omega)
    have hq1 : 0 ≤ 12000 / rr := Int.ediv_nonneg (by omega) (by omega)
    have hq2 : 12000 / rr ≤ 12000 := Int.ediv_le_self _ (by omega)
    go_enter Try.func17, Try.ntmps17
    go_wp2
    go_ret
    exact ⟨rfl, rfl⟩
end Go.Proofs.Ytgdhpoafjfjdiaa.Pace
