/- What the reference of layer 21 answers. -/
import Derived.Test.YtpmjgomfjfhfkaaFibMath
import Derived.Test.YtpmjgomfjfhfkaaArgsJ
import Derived.Lib.Hide
import Derived.ProofKit
import Derived.Handy
set_option linter.unusedSimpArgs false
set_option linter.unusedVariables false
namespace Go.Proofs.Ytpmjgomfjfhfkaa.Fib
open Go.RowKit RI64
set_option maxHeartbeats 1000000 in
theorem refcount_any (H : Int) (A : Option Addr) (n c : Nat) (l : List Int) (w : World) (hv : Vals w A n l) (hn : n ≤ 100000) :
    Calls Try.prog 31 #[.int .i64 H, .slice A n c] w fun e w' => e = .returned (.int .i64 (countT H l.reverse)) ∧ w = w' := by
  have hlen := hv.len_
  have hall := part_all H l
  rw [hlen] at hall
  obtain ⟨a, ha⟩ : ∃ a, (if 1 < n - 400 then n - 400 else 1) = a := ⟨_, rfl⟩
  rw [ha] at hall
  have ha1 : 1 ≤ a := by rw [← ha]; split <;> omega
  have han : a ≤ n ∨ n = 0 := by rw [← ha]; split <;> omega
  have hmax : (if (1 : Int) < (n : Int) - 400 then (n : Int) - 400 else 1) = (a : Int) := by rw [← ha]; split <;> split <;> omega
  have hpb := part_bd H l a
  have hps := part_step H l a
  have hp0 := part_none H l a
  rw [← hall]
  clear hall ha
  have HPB := Lib.hid hpb
  have HPS := Lib.hid hps
  rw [hlen] at HPS
  clear hpb hps
  go_enter Try.func31, Try.ntmps31
  go_wp2
  have hz0 : n = 0 → partT H l a n = 0 := fun h => by subst h; unfold partT; simp
  clear hmax
  go_loop [5, 6] (fun s i => ∃ j : Nat, a ≤ j ∧ (j ≤ n ∨ n = 0) ∧ i = .int .i64 (j : Nat) ∧ s = .int .i64 (partT H l a j)) (fun _ i => n - (intOf i).toNat)
  case atStart => exact ⟨a, Nat.le_refl _, han, rfl, by rw [hp0]⟩
  case round =>
    obtain ⟨j, haj, hj, rfl, rfl⟩ := hrel
    by_cases hjn : j < n
    · obtain ⟨x, rfl, hcx⟩ := hv.cells (by omega)
      obtain ⟨k, hk⟩ : ∃ k, j - 1 = k := ⟨_, rfl⟩
      have hc1 := hcx j hjn
      have hc0 := hcx k (by omega)
      have hst := HPS.out j haj hjn
      have hb := HPB.out j
      have hcr : crossAt H l j = if H ≤ l.getD j 0 ∧ l.getD k 0 < H then 1 else 0 := by unfold crossAt; rw [if_neg (by omega), hk]
      have hkz : (j : Int) - 1 = (k : Int) := by omega
      have hkn : (j : Int) < (n : Int) := by omega
      have hkn2 : k < n := by omega
      rw [hcr] at hst
      clear hcr hcx hv hlen hp0 hz0 han hj hk
      generalize partT H l a j = s at *
      generalize hS : partT H l a (j + 1) = s2 at *
      have HS := Lib.hid hS
      clear hS
      generalize l.getD j 0 = v at *
      generalize l.getD k 0 = u at *
      by_cases h1 : H ≤ v
      · by_cases h2 : u < H
        · rw [if_pos ⟨h1, h2⟩] at hst
          have HST := Lib.hid hst
          clear hst
          go_wp2
          go_round
          case rel => exact ⟨j + 1, by omega, by omega, by go_num, by rw [HS.out, HST.out]⟩
          case measure => simp [intOf]; omega
        · rw [if_neg (fun h => h2 h.2)] at hst
          have HST := Lib.hid hst
          clear hst
          go_wp2
          go_round
          case rel => exact ⟨j + 1, by omega, by omega, by go_num, by rw [HS.out, HST.out, Int.add_zero]⟩
          case measure => simp [intOf]; omega
      · rw [if_neg (fun h => h1 h.1)] at hst
        have HST := Lib.hid hst
        clear hst
        go_wp2
        go_round
        case rel => exact ⟨j + 1, by omega, by omega, by go_num, by rw [HS.out, HST.out, Int.add_zero]⟩
        case measure => simp [intOf]; omega
    · have hfin : partT H l a j = partT H l a n := by
        rcases hj with hj | hj
        · obtain rfl : j = n := by omega
          rfl
        · rw [hz0 hj]
          unfold partT
          rw [List.length_eq_zero_iff.1 (by omega : l.length = 0)]
          simp [rowT, crossesT]
      have hjz : ¬ (j : Int) < (n : Int) := by omega
      have HF := Lib.hid hfin
      generalize partT H l a j = s at *
      clear hv hlen hfin
      go_wp2
      go_ret
      exact ⟨by rw [← HF.out]; rfl, rfl⟩
end Go.Proofs.Ytpmjgomfjfhfkaa.Fib
