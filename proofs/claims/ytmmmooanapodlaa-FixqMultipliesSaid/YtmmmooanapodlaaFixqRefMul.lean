/- What the reference's Mul answers of the numbers of a slice. -/
import Derived.Test.YtmmmooanapodlaaFixqRef
import Derived.Test.YtmmmooanapodlaaFixqMul
set_option linter.unusedSimpArgs false
set_option linter.unusedVariables false
namespace Go.Proofs.Ytmmmooanapodlaa
open Go.RowKit

theorem quot_over (s u : Nat) (hu : 1 ≤ u) : 9223372036854775808 / u < s ↔ 9223372036854775808 < s * u := by
  rw [Nat.div_lt_iff_lt_mul (by omega)]
set_option maxHeartbeats 1000000 in
theorem refmul_any (a : Option Addr) (len cap : Nat) (xs : List Int) (w : World) (h : Ints w a len xs) :
    Calls Try.prog 19 #[.slice a len cap] w fun e w' => e = addIs (prodZ xs) ∧ w = w' := by
  have hb := h.bound
  have hlen := h.len_
  go_enter Try.func19, Try.ntmps19
  go_wp2
  go_loop [4] (fun i => ∃ k : Nat, k ≤ len ∧ i = .int .i64 k ∧ ∀ j, j < k → xs.getD j 0 ≠ 0) (fun i => len - (intOf i).toNat)
  case atStart => exact ⟨0, by omega, rfl, fun j hj => absurd hj (by omega)⟩
  case round =>
    obtain ⟨k, hk, rfl, hno⟩ := hrel
    have HNO := Lib.hid hno
    clear hno
    by_cases hlt : k < len
    · obtain ⟨x, rfl, hcx⟩ := h.cells (by omega)
      have hcell := hcx k hlt
      have HM := Lib.hid (show xs.getD k 0 ∈ xs by rw [List.getD_eq_getElem?_getD, List.getElem?_eq_getElem (by omega)]; simp)
      have H := Lib.hid h
      clear hcx h
      by_cases hv : xs.getD k 0 = 0
      · have hv' : (xs.getD k 0 == 0) = true := by simpa using hv
        rw [hv] at HM
        have HP := Lib.hid (prod_zero xs HM.out)
        clear hv
        generalize hn : xs.getD k 0 = n at *
        clear hn
        go_wp2
        go_ret2
        exact ⟨by rw [HP.out, addIs_yes (by unfold fits64; omega)]; rfl, rfl⟩
      · have hv' : (xs.getD k 0 == 0) = false := by simpa using hv
        have HV := Lib.hid hv
        clear hv
        generalize hn : xs.getD k 0 = n at *
        have HN := Lib.hid hn
        clear hn
        go_wp2
        go_round
        case rel =>
          refine ⟨k + 1, by omega, by go_num, fun j hj => ?_⟩
          rcases (by omega : j < k ∨ j = k) with h | h
          · exact HNO.out j h
          · rw [h, HN.out]; exact HV.out
        case measure => simp [intOf]; omega
    · have hz : (0 : Int) ∉ xs := fun hm => by
        obtain ⟨j, hj, he⟩ := List.mem_iff_getElem.1 hm
        exact HNO.out j (by omega) (by rw [List.getD_eq_getElem?_getD, List.getElem?_eq_getElem hj]; simpa using he)
      have HZ := Lib.hid hz
      clear hz HNO
      go_wp2
      go_loop [5, 6, 7] (fun b s i => ∃ k : Nat, k ≤ len ∧ i = .int .i64 k ∧ s = .int .u64 ((prodZ (xs.take k)).natAbs : Int) ∧ b = .bool (decide (prodZ (xs.take k) < 0)) ∧ (prodZ (xs.take k)).natAbs ≤ 9223372036854775808) (fun _ _ i => len - (intOf i).toNat)
      case atStart => exact ⟨0, by omega, rfl, by simp [prodZ], by simp [prodZ], by simp [prodZ]⟩
      case round =>
        clear hk hlt
        obtain ⟨k, hk, rfl, rfl, rfl, hs⟩ := hrel
        have hP1 := prod_pos (xs.take k) (fun n hn h0 => HZ.out (h0 ▸ List.mem_of_mem_take hn))
        by_cases hlt : k < len
        · obtain ⟨x, rfl, hcx⟩ := h.cells (by omega)
          have hcell := hcx k hlt
          have hmem : xs.getD k 0 ∈ xs := by rw [List.getD_eq_getElem?_getD, List.getElem?_eq_getElem (by omega)]; simp
          have hfit := h.wf _ hmem
          have hn0 : xs.getD k 0 ≠ 0 := fun h0 => HZ.out (h0 ▸ hmem)
          have hst := prod_step xs k (by omega)
          have hov := Lib.hid (over_of xs (k + 1) HZ.out)
          have hsg := sign_step (prodZ (xs.take k)) (xs.getD k 0) (by omega) hn0
          rw [hst] at hov
          have HST := Lib.hid hst
          generalize hn : xs.getD k 0 = n at *
          generalize hS : prodZ (xs.take k) = P at *
          have HA := Lib.hid (show (P * n).natAbs = P.natAbs * n.natAbs from Int.natAbs_mul _ _)
          have hqo : (9223372036854775808 : Int) / (n.natAbs : Int) < (P.natAbs : Int) ↔ 9223372036854775808 < P.natAbs * n.natAbs := by
            rw [← quot_over P.natAbs n.natAbs (by omega), show (9223372036854775808 : Int) / (n.natAbs : Int) = ((9223372036854775808 / n.natAbs : Nat) : Int) from (Int.natCast_ediv _ _).symm]
            omega
          have eg : (n.natAbs : Int) ≠ 0 := by omega
          by_cases hneg : n < 0
          · have eu : IntKind.u64.wrap (-IntKind.u64.wrap n) = (n.natAbs : Int) := by rw [u64_wrap, u64_wrap]; unfold fits64 at hfit; omega
            have hsg' : (!decide (P < 0)) = decide (P * n < 0) := by rw [decide_eq_true hneg] at hsg; rw [← hsg]; simp
            clear hsg
            have hsg := Lib.hid hsg'
            clear hsg'
            clear hcx hn hS h hmem hst hn0
            by_cases hq : P.natAbs * n.natAbs ≤ 9223372036854775808
            · have hq1 : ¬ (9223372036854775808 : Int) / (n.natAbs : Int) < (P.natAbs : Int) := by have := hqo; omega
              have hq2 : 0 ≤ (P.natAbs : Int) * (n.natAbs : Int) ∧ (P.natAbs : Int) * (n.natAbs : Int) ≤ 9223372036854775808 := by rw [mulN]; omega
              have HQ := Lib.hid hq
              clear hq hqo
              go_wp2
              go_round
              case rel =>
                refine ⟨k + 1, by omega, by go_num, ?_, ?_, ?_⟩
                · rw [HST.out, HA.out]; exact congrArg _ (mulN _ _)
                · rw [HST.out]; exact congrArg _ hsg.out
                · rw [HST.out, HA.out]; exact HQ.out
              case measure => simp [intOf]; omega
            · have hq1 : (9223372036854775808 : Int) / (n.natAbs : Int) < (P.natAbs : Int) := by have := hqo; omega
              have E2 := Lib.hid (hov.out (by rw [HA.out]; omega))
              clear hq hqo
              go_wp2
              go_ret2
              exact ⟨by rw [addIs_no E2.out]; rfl, rfl⟩
          · have eu : IntKind.u64.wrap n = (n.natAbs : Int) := by rw [u64_wrap]; unfold fits64 at hfit; omega
            have hsg' : (decide (P < 0)) = decide (P * n < 0) := by rw [decide_eq_false hneg] at hsg; rw [← hsg]; simp
            clear hsg
            have hsg := Lib.hid hsg'
            clear hsg'
            clear hcx hn hS h hmem hst hn0
            by_cases hq : P.natAbs * n.natAbs ≤ 9223372036854775808
            · have hq1 : ¬ (9223372036854775808 : Int) / (n.natAbs : Int) < (P.natAbs : Int) := by have := hqo; omega
              have hq2 : 0 ≤ (P.natAbs : Int) * (n.natAbs : Int) ∧ (P.natAbs : Int) * (n.natAbs : Int) ≤ 9223372036854775808 := by rw [mulN]; omega
              have HQ := Lib.hid hq
              clear hq hqo
              go_wp2
              go_round
              case rel =>
                refine ⟨k + 1, by omega, by go_num, ?_, ?_, ?_⟩
                · rw [HST.out, HA.out]; exact congrArg _ (mulN _ _)
                · rw [HST.out]; exact congrArg _ hsg.out
                · rw [HST.out, HA.out]; exact HQ.out
              case measure => simp [intOf]; omega
            · have hq1 : (9223372036854775808 : Int) / (n.natAbs : Int) < (P.natAbs : Int) := by have := hqo; omega
              have E2 := Lib.hid (hov.out (by rw [HA.out]; omega))
              clear hq hqo
              go_wp2
              go_ret2
              exact ⟨by rw [addIs_no E2.out]; rfl, rfl⟩
        · have hk' : k = len := by omega
          subst hk'
          rw [← hlen, List.take_length] at hs hP1 ⊢
          clear h
          generalize hPe : prodZ xs = P at *
          have HPe := Lib.hid hPe
          clear hPe
          have hs' : (P.natAbs : Int) ≤ 9223372036854775808 := by omega
          by_cases hneg : P < 0
          · have HF := Lib.hid (show fits64 P by unfold fits64; omega)
            have HE := Lib.hid (show wrap64 (IntKind.u64.wrap (-(P.natAbs : Int))) = P by rw [u64_wrap]; unfold wrap64; omega)
            have hd : decide (P < 0) = true := decide_eq_true hneg
            clear hneg hs hP1
            go_wp2
            go_ret2
            exact ⟨by rw [HPe.out, addIs_yes HF.out]; exact ret_two HE.out rfl, rfl⟩
          · have hd : decide (P < 0) = false := decide_eq_false hneg
            by_cases hq : P.natAbs < 9223372036854775808
            · have hq1 : (P.natAbs : Int) < 9223372036854775808 := by omega
              have HF := Lib.hid (show fits64 P by unfold fits64; omega)
              have HE := Lib.hid (show (P.natAbs : Int) = P by omega)
              clear hneg hs hP1 hq
              go_wp2
              go_ret2
              exact ⟨by rw [HPe.out, addIs_yes HF.out]; exact ret_two HE.out rfl, rfl⟩
            · have hq1 : ¬ (P.natAbs : Int) < 9223372036854775808 := by omega
              have HF := Lib.hid (show ¬ fits64 P by unfold fits64; omega)
              clear hneg hs hP1 hq
              go_wp2
              go_ret2
              exact ⟨by rw [HPe.out, addIs_no HF.out]; rfl, rfl⟩
end Go.Proofs.Ytmmmooanapodlaa
