/- crc's sum of a row, and its check. -/
import Derived.Test.YtlhjligeigkbnaaCrcCodeA
import Derived.Test.YtlhjligeigkbnaaCrcSealMath
set_option linter.unusedSimpArgs false
set_option linter.unusedVariables false
namespace Go.Proofs.Ytlhjligeigkbnaa.Crc
open Go.RowKit RU8

theorem sum_any (A : Option Addr) (len c : Nat) (ys : List Nat) (w : World) (hv : Vals w A len ys) (hb : Bytes ys) (hl : len ≤ 9223372036854775807) :
    Calls Try.prog 41 #[.slice A len c] w fun e w' => e = .returned (.int .u16 (sumZ ys)) ∧ w = w' := by
  have hlen := hv.len_
  have hend : goZ 65535 (ys.take len) = sumZ ys := by rw [List.take_of_length_le (by omega)]; rfl
  have hst : ∀ j, j < len → nextZ (goZ 65535 (ys.take j)) (ys.getD j 0) = goZ 65535 (ys.take (j + 1)) := fun j hj => goZ_take _ _ _ (by omega)
  have hz : ∀ j, goZ 65535 (ys.take j) < 65536 := fun j => goZ_lt _ _ (by decide)
  have h0 : goZ 65535 (ys.take 0) = 65535 := rfl
  obtain ⟨f, hf⟩ : ∃ f : Nat → Nat, f = fun j => goZ 65535 (ys.take j) := ⟨_, rfl⟩
  have hend' : f len = sumZ ys := by rw [hf]; exact hend
  have hst' : ∀ j, j < len → nextZ (f j) (ys.getD j 0) = f (j + 1) := by rw [hf]; exact hst
  have hz' : ∀ j, f j < 65536 := by rw [hf]; exact hz
  have h0' : f 0 = 65535 := by rw [hf]; exact h0
  have hend2 := Lib.hid hend'
  clear hend hst hz h0 hf hend'
  go_enter Try.func41, Try.ntmps41
  go_wp2
  go_loop [3, 8] (fun a i => ∃ j : Nat, j ≤ len ∧ i = .int .i64 (j : Nat) ∧ a = .int .u16 (f j : Nat)) (fun _ i => len - (intOf i).toNat)
  case atStart => exact ⟨0, by omega, rfl, by rw [h0']; rfl⟩
  case round =>
    obtain ⟨j, hj, rfl, rfl⟩ := hrel
    by_cases h9 : j < len
    · obtain ⟨x, rfl, hx⟩ := hv.cells (by omega)
      have hc := hx j h9
      have hs := next_any (f j) (ys.getD j 0) w (hz' j) (hb.at_ j)
      rw [hst' j h9] at hs
      have hy := hb.at_ j
      clear hst' hz' h0' hx hv
      generalize ys.getD j 0 = y at *
      go_wp2_with (go_at_call 43; ((with_reducible refine hs.mono ?_); rintro e w' ⟨rfl, rfl⟩))
      go_round
      case rel => exact ⟨j + 1, by omega, by go_num, rfl⟩
      case measure => simp [intOf]; omega
    · obtain rfl : j = len := by omega
      clear hst' hz' h0'
      go_wp2
      go_ret
      exact ⟨by rw [← hend2.out]; rfl, rfl⟩
theorem check_any (A : Option Addr) (len c : Nat) (ys : List Nat) (w : World) (hv : Vals w A len ys) (hb : Bytes ys) (hl : len ≤ 9223372036854775807) :
    Calls Try.prog 38 #[.slice A len c] w fun e w' => e = .returned (.tuple #[.int .u8 (sumZ ys % 256 : Nat), .int .u8 (sumZ ys / 256 : Nat)]) ∧ w = w' := by
  have hs := sum_any A len c ys w hv hb hl
  have hlt := sumZ_lt ys
  generalize sumZ ys = s at *
  clear hv hb
  have h1 : IntKind.u8.wrap (s : Int) = ((s % 256 : Nat) : Int) := by rw [IntKind.wrap_u8]; omega
  have h2 : (s : Int) / 256 = ((s / 256 : Nat) : Int) := by omega
  have h3 : s / 256 < 256 := by omega
  have h4 : s % 256 < 256 := by omega
  generalize s % 256 = lo at *
  generalize s / 256 = hi at *
  go_enter Try.func38, Try.ntmps38
  go_wp2_with (go_at_call 41; ((with_reducible refine hs.mono ?_); rintro e w' ⟨rfl, rfl⟩))
  go_ret2
  exact ⟨rfl, rfl⟩
end Go.Proofs.Ytlhjligeigkbnaa.Crc
