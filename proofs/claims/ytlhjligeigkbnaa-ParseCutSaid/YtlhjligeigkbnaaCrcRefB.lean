/- The reference's sum of a row. -/
import Derived.Test.YtlhjligeigkbnaaCrcRefA
import Derived.Test.YtlhjligeigkbnaaCrcSealMath
set_option linter.unusedSimpArgs false
set_option linter.unusedVariables false
namespace Go.Proofs.Ytlhjligeigkbnaa.Crc
open Go.RowKit RU8

theorem refsum_any (A : Option Addr) (len c : Nat) (ys : List Nat) (w : World) (hv : Vals w A len ys) (hb : Bytes ys) (hl : len ≤ 9223372036854775807) :
    Calls Try.prog 36 #[.slice A len c] w fun e w' => e = .returned (.int .u16 (sumZ ys)) ∧ w = w' := by
  have hlen := hv.len_
  have hend : goZ 65535 (ys.take len) = sumZ ys := by rw [List.take_of_length_le (by omega)]; rfl
  have hst : ∀ j, j < len → nextZ (goZ 65535 (ys.take j)) (ys.getD j 0) = goZ 65535 (ys.take (j + 1)) := fun j hj => goZ_take _ _ _ (by omega)
  have hz : ∀ j, goZ 65535 (ys.take j) < 65536 := fun j => goZ_lt _ _ (by decide)
  have h0 : goZ 65535 (ys.take 0) = 65535 := rfl
  obtain ⟨f, hf⟩ : ∃ f : Nat → Nat, f = fun j => goZ 65535 (ys.take j) := ⟨_, rfl⟩
  have hend' : f len = sumZ ys := by rw [hf]; exact hend
  have hst' : ∀ j, j < len → nextZ (f j) (ys.getD j 0) = f (j + 1) := by rw [hf]; exact hst
  have hz' : ∀ j, f j < 65536 := by rw [hf]; exact hz
  have h0' : f 0 = 65535 := by rw [hf]; exact h0
  have hend2 := Lib.hid hend'
  clear hend hst hz h0 hf hend'
  go_enter Try.func36, Try.ntmps36
  go_wp2
  go_loop [3, 4] (fun a i => ∃ j : Nat, j ≤ len ∧ i = .int .i64 (j : Nat) ∧ a = .int .u16 (f j : Nat)) (fun _ i => len - (intOf i).toNat)
  case atStart => exact ⟨0, by omega, rfl, by rw [h0']; rfl⟩
  case round =>
    obtain ⟨j, hj, rfl, rfl⟩ := hrel
    by_cases h9 : j < len
    · obtain ⟨x, rfl, hx⟩ := hv.cells (by omega)
      have hc := hx j h9
      have hs := refnext_any (f j) (ys.getD j 0) w (hz' j) (hb.at_ j)
      rw [hst' j h9] at hs
      have hy := hb.at_ j
      clear hst' hz' h0' hx hv
      generalize ys.getD j 0 = y at *
      go_wp2_with (go_at_call 39; ((with_reducible refine hs.mono ?_); rintro e w' ⟨rfl, rfl⟩))
      go_round
      case rel => exact ⟨j + 1, by omega, by go_num, rfl⟩
      case measure => simp [intOf]; omega
    · obtain rfl : j = len := by omega
      clear hst' hz' h0'
      go_wp2
      go_ret
      exact ⟨by rw [← hend2.out]; rfl, rfl⟩
end Go.Proofs.Ytlhjligeigkbnaa.Crc
