/- frame's headFault: what is wrong ahead of the samples. -/
import Derived.Test.YtlhjligeigkbnaaFrameScanMath
import Derived.Test.YtlhjligeigkbnaaFrameSize
set_option linter.unusedSimpArgs false
set_option linter.unusedVariables false
namespace Go.Proofs.Ytlhjligeigkbnaa.Frm
open Go.RowKit RU8
theorem head_any (A : Option Addr) (n c : Nat) (b : List Nat) (w : World) (hv : Vals w A n b) (hb : Bytes b) (hn : n ≤ 100000) :
    Calls Try.prog 31 #[.slice A n c] w fun e w' => e = .returned (.int .i64 (headE b)) ∧ w = w' := by
  have hlen := hv.len_
  have hsz := fun W => size_any (b.getD 3 0 : Int) (by have := hb.at_ 3; omega) W
  unfold headE
  rw [hlen]
  rcases Nat.eq_zero_or_pos n with h0 | h0
  · rw [if_pos h0]
    subst h0
    clear hv
    go_enter Try.func31, Try.ntmps31
    go_wp2_with (go_at_call 32; ((with_reducible refine (hsz _).mono ?_); rintro e w' ⟨rfl, rfl⟩))
    go_ret
    exact ⟨rfl, rfl⟩
  · rw [if_neg (by omega)]
    have h0i : ¬ (n : Int) = 0 := by omega
    obtain ⟨x, rfl, hx⟩ := hv.cells h0
    have hc0 := hx 0 h0
    rw [show x.add 0 = x by simp [Addr.add]] at hc0
    obtain ⟨b0, hb0⟩ : ∃ v, b.getD 0 0 = v := ⟨_, rfl⟩
    rw [hb0] at hc0 ⊢
    by_cases h1 : b0 ≠ 165
    · rw [if_pos h1]
      have h1i : ¬ (b0 : Int) = 165 := by omega
      clear hv hx hb0 h1
      go_enter Try.func31, Try.ntmps31
      go_wp2_with (go_at_call 32; ((with_reducible refine (hsz _).mono ?_); rintro e w' ⟨rfl, rfl⟩))
      go_ret
      exact ⟨rfl, rfl⟩
    · rw [if_neg h1]
      have h1n : b0 = 165 := by omega
      clear h1 hb0
      subst h1n
      by_cases h2 : n = 1
      · rw [if_pos h2]
        subst h2
        clear hv hx h0i
        go_enter Try.func31, Try.ntmps31
        go_wp2_with (go_at_call 32; ((with_reducible refine (hsz _).mono ?_); rintro e w' ⟨rfl, rfl⟩))
        go_ret
        exact ⟨rfl, rfl⟩
      · rw [if_neg h2]
        have h2i : ¬ (n : Int) = 1 := by omega
        have hc1 := hx 1 (by omega)
        rw [show x.add 1 = ⟨x.block, x.off + 1, none⟩ by simp [Addr.add]] at hc1
        obtain ⟨b1, hb1⟩ : ∃ v, b.getD 1 0 = v := ⟨_, rfl⟩
        rw [hb1] at hc1 ⊢
        have h1l : 1 < n := by omega
        by_cases h3 : b1 ≠ 90
        · rw [if_pos h3]
          have h3i : ¬ (b1 : Int) = 90 := by omega
          clear hv hx hb1 h3
          go_enter Try.func31, Try.ntmps31
          go_wp2_with (go_at_call 32; ((with_reducible refine (hsz _).mono ?_); rintro e w' ⟨rfl, rfl⟩))
          go_ret
          exact ⟨rfl, rfl⟩
        · rw [if_neg h3]
          have h3n : b1 = 90 := by omega
          clear h3 hb1
          subst h3n
          by_cases h4 : n ≤ 3
          · rw [if_pos h4]
            have h4i : (n : Int) ≤ 3 := by omega
            clear hv hx
            go_enter Try.func31, Try.ntmps31
            go_wp2_with (go_at_call 32; ((with_reducible refine (hsz _).mono ?_); rintro e w' ⟨rfl, rfl⟩))
            go_ret
            exact ⟨rfl, rfl⟩
          · rw [if_neg h4]
            have h4i : ¬ (n : Int) ≤ 3 := by omega
            have hc3 := hx 3 (by omega)
            rw [show x.add 3 = ⟨x.block, x.off + 3, none⟩ by simp [Addr.add]] at hc3
            have hb3x := hb.at_ 3
            obtain ⟨b3, hb3⟩ : ∃ v, b.getD 3 0 = v := ⟨_, rfl⟩
            rw [hb3] at hc3 hb3x hsz ⊢
            have h3l : 3 < n := by omega
            unfold sizeZ at hsz
            by_cases h5 : b3 < 1 ∨ 32 < b3
            · rw [if_pos h5]
              rw [if_pos (by omega)] at hsz
              clear hv hx hb3 h5
              go_enter Try.func31, Try.ntmps31
              go_wp2_with (go_at_call 32; ((with_reducible refine (hsz _).mono ?_); rintro e w' ⟨rfl, rfl⟩))
              go_ret
              exact ⟨rfl, rfl⟩
            · rw [if_neg h5]
              rw [if_neg (by omega)] at hsz
              have h5i : ¬ 6 + 3 * (b3 : Int) = 0 := by omega
              clear hv hx hb3 h5
              go_enter Try.func31, Try.ntmps31
              go_wp2_with (go_at_call 32; ((with_reducible refine (hsz _).mono ?_); rintro e w' ⟨rfl, rfl⟩))
              go_ret
              exact ⟨rfl, rfl⟩
end Go.Proofs.Ytlhjligeigkbnaa.Frm
