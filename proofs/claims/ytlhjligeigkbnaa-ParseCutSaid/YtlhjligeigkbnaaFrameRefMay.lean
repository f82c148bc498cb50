/- The reference: may samples stand in a frame? -/
import Derived.Test.YtlhjligeigkbnaaFrameMath
import Derived.Lib.Hide
import Derived.Deep.QuietTactic
import Derived.BigQuiet
set_option linter.unusedSimpArgs false
set_option linter.unusedVariables false
namespace Go.Proofs.Ytlhjligeigkbnaa.Frm
open Go.RowKit
theorem refmay_any (A : Option Addr) (n c : Nat) (ys : List Samp) (w : World) (hv : Row.Vals sampS w A n ys) (hs : Small ys) (hn : n ≤ 9223372036854775807) :
    Calls Try.prog 17 #[.slice A n c] w fun e w' => e = .returned (.bool (mayT ys)) ∧ w = w' := by
  have hlen := hv.len_
  have hend : (∀ s ∈ ys, Fits s) → mayT ys = (decide (1 ≤ (n : Int)) && decide ((n : Int) ≤ 32)) := fun h => by
    unfold mayT
    rw [Bool.eq_iff_iff, Bool.and_eq_true, decide_eq_true_iff, decide_eq_true_iff, decide_eq_true_iff, hlen]
    exact ⟨fun h1 => by omega, fun h1 => ⟨by omega, by omega, h⟩⟩
  have hbad : ∀ j, j < n → ¬ Fits (ys.getD j (0, false)) → mayT ys = false := fun j hj h => by
    unfold mayT
    refine decide_eq_false fun h1 => h (h1.2.2 _ ?_)
    rw [List.getD_eq_getElem?_getD, List.getElem?_eq_getElem (by omega)]
    exact List.getElem_mem _
  have HEnd := Lib.hid hend
  have HBad := Lib.hid hbad
  clear hend hbad
  go_enter Try.func17, Try.ntmps17
  go_wp2
  go_loop [3] (fun i => ∃ j : Nat, j ≤ n ∧ i = .int .i64 (j : Nat) ∧ ∀ k, k < j → Fits (ys.getD k (0, false))) (fun i => n - (intOf i).toNat)
  case atStart => exact ⟨0, by omega, rfl, fun k hk => absurd hk (by omega)⟩
  case round =>
    obtain ⟨j, hj, rfl, hall⟩ := hrel
    have HA := Lib.hid hall
    clear hall
    by_cases hjn : j < n
    · obtain ⟨x, rfl, _⟩ := hv.cells (by omega)
      obtain ⟨hc0, hc1⟩ := samp_cells hv j hjn
      have hsj := hs.at_ j
      obtain ⟨v, hvj⟩ : ∃ v, (ys.getD j (0, false)).1 = v := ⟨_, rfl⟩
      rw [hvj] at hc0 hsj
      have HV := Lib.hid hvj
      clear hvj hc1
      by_cases hlo : v < -32768
      · have hres := Lib.hid (HBad.out j hjn (by unfold Fits; rw [HV.out]; omega))
        go_wp2
        go_ret
        exact ⟨by rw [hres.out]; rfl, rfl⟩
      · by_cases hhi : 32767 < v
        · have hres := Lib.hid (HBad.out j hjn (by unfold Fits; rw [HV.out]; omega))
          go_wp2
          go_ret
          exact ⟨by rw [hres.out]; rfl, rfl⟩
        · have hf := Lib.hid (show Fits (ys.getD j (0, false)) by unfold Fits; rw [HV.out]; omega)
          go_wp2
          go_round
          case rel => exact ⟨j + 1, by omega, by go_num, fun k hk => by
            rcases (by omega : k < j ∨ k = j) with h1 | h1
            · exact HA.out k h1
            · rw [h1]; exact hf.out⟩
          case measure => simp [intOf]; omega
    · have hjn2 : j = n := by omega
      have hres := Lib.hid (HEnd.out fun s hs' => by
        obtain ⟨i, hi, rfl⟩ := List.getElem_of_mem hs'
        have := HA.out i (by omega)
        rwa [List.getD_eq_getElem?_getD, List.getElem?_eq_getElem hi] at this)
      subst hjn2
      rcases (by omega : j = 0 ∨ (1 ≤ j ∧ j ≤ 32) ∨ 32 < j) with h1 | h1 | h1
      · have e : mayT ys = false := by rw [hres.out, decide_eq_false (by omega), Bool.false_and]
        have HE := Lib.hid e
        clear e
        have h2 : ¬ 1 ≤ (j : Int) := by omega
        go_wp2
        go_ret
        exact ⟨by rw [HE.out]; rfl, rfl⟩
      · have e : mayT ys = true := by rw [hres.out, decide_eq_true (by omega), decide_eq_true (by omega)]; rfl
        have HE := Lib.hid e
        clear e
        have h2 : 1 ≤ (j : Int) ∧ (j : Int) ≤ 32 := by omega
        go_wp2
        go_ret
        exact ⟨by rw [HE.out]; rfl, rfl⟩
      · have e : mayT ys = false := by rw [hres.out, decide_eq_false (p := (j : Int) ≤ 32) (by omega), Bool.and_false]
        have HE := Lib.hid e
        clear e
        have h2 : 1 ≤ (j : Int) ∧ ¬ (j : Int) ≤ 32 := by omega
        go_wp2
        go_ret
        exact ⟨by rw [HE.out]; rfl, rfl⟩
end Go.Proofs.Ytlhjligeigkbnaa.Frm
