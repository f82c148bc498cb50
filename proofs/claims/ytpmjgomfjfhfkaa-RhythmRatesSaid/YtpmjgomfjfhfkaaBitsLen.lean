/- How many bits a small number wants: enough that it is below that power of two. -/
import Derived.Test.YtpmjgomfjfhfkaaChecked
import Derived.WalkKit
import Derived.Lib.BitFns
import Derived.Lib.Hide
set_option linter.unusedSimpArgs false
set_option linter.unusedVariables false
namespace Go.Proofs.Ytpmjgomfjfhfkaa
open Go.RowKit

theorem small_bits : ∀ n : Fin 256, n.val < 2 ^ Lib.bitLen n.val := by decide +kernel
theorem small_bits5 : ∀ n : Fin 5, Lib.bitLen n.val ≤ 3 := by decide +kernel
theorem byte_bits (b : Nat) (hb : b < 256) : b < 2 ^ Lib.bitLen b ∧ Lib.bitLen b ≤ 8 := ⟨small_bits ⟨b, hb⟩, Lib.bitLen_le8 ⟨b, hb⟩⟩
theorem bits_mid (x : Nat) (h1 : 256 ≤ x) (h2 : x ≤ 1024) : x < 2 ^ (8 + Lib.bitLen (x / 256)) ∧ 8 + Lib.bitLen (x / 256) ≤ 11 := by
  have h := (byte_bits (x / 256) (by omega)).1
  have h3 := small_bits5 ⟨x / 256, by omega⟩
  refine ⟨?_, by simp only at h3; omega⟩
  rw [Nat.pow_add]
  omega
set_option maxHeartbeats 2000000 in
set_option maxRecDepth 100000 in
theorem len64_low (x : Int) (w : World) (h0 : 0 ≤ x) (h1 : x ≤ 255) :
    Calls Try.prog 59 #[.int .u64 x] w fun e w' => e = .returned (.int .i64 (Lib.len8 x)) ∧ w = w' := by
  have b1 := Lib.len8_of x (by omega) (by omega)
  have b2 := Lib.bitLen_le8' x (by omega) (by omega)
  have B1 := Lib.hid (show 0 ≤ Lib.len8 x ∧ Lib.len8 x ≤ 8 by omega)
  clear b1 b2
  go_enter Try.func59, Try.ntmps59
  go_wp2
  go_ret
  have e1 := B1.out
  refine ⟨congrArg Ending.returned (congrArg (Value.int IntKind.i64) ?_), rfl⟩
  try unfold wrap64
  omega
set_option maxHeartbeats 2000000 in
set_option maxRecDepth 100000 in
theorem len64_mid (x : Int) (w : World) (h0 : 256 ≤ x) (h1 : x ≤ 1024) :
    Calls Try.prog 59 #[.int .u64 x] w fun e w' => e = .returned (.int .i64 (8 + Lib.len8 (x / 256))) ∧ w = w' := by
  have q0 : 0 ≤ x / 256 := by omega
  have q1 : x / 256 ≤ 255 := by omega
  have b1 := Lib.len8_of (x / 256) (by omega) (by omega)
  have b2 := Lib.bitLen_le8' (x / 256) (by omega) (by omega)
  have B1 := Lib.hid (show 0 ≤ Lib.len8 (x / 256) ∧ Lib.len8 (x / 256) ≤ 8 by omega)
  clear b1 b2
  go_enter Try.func59, Try.ntmps59
  go_wp2
  go_ret
  have e1 := B1.out
  refine ⟨congrArg Ending.returned (congrArg (Value.int IntKind.i64) ?_), rfl⟩
  try unfold wrap64
  omega
theorem len64_small (x : Nat) (w : World) (h1 : x ≤ 1024) :
    Calls Try.prog 59 #[.int .u64 (x : Int)] w fun e w' => (∃ k : Nat, e = .returned (.int .i64 k) ∧ x < 2 ^ k ∧ k ≤ 11) ∧ w = w' := by
  rcases Nat.lt_or_ge x 256 with h4 | h4
  · refine (len64_low (x : Int) w (by omega) (by omega)).mono ?_
    rintro e w' ⟨rfl, rfl⟩
    obtain ⟨e1, e2⟩ := byte_bits x (by omega)
    rw [Lib.len8_of (x : Int) (by omega) (by omega), Int.toNat_natCast]
    exact ⟨⟨_, rfl, e1, by omega⟩, rfl⟩
  · refine (len64_mid (x : Int) w (by omega) (by omega)).mono ?_
    rintro e w' ⟨rfl, rfl⟩
    obtain ⟨e1, e2⟩ := bits_mid x (by omega) (by omega)
    rw [Lib.len8_of ((x : Int) / 256) (by omega) (by omega), show ((x : Int) / 256).toNat = x / 256 by omega]
    exact ⟨⟨8 + Lib.bitLen (x / 256), by rw [Int.natCast_add]; rfl, e1, e2⟩, rfl⟩
theorem len_small (x : Nat) (w : World) (h1 : x ≤ 1024) :
    Calls Try.prog 53 #[.int .u64 (x : Int)] w fun e w' => (∃ k : Nat, e = .returned (.int .i64 k) ∧ x < 2 ^ k ∧ k ≤ 11) ∧ w = w' := by
  go_enter Try.func53, Try.ntmps53
  go_wp2_with (go_at_call 59; ((with_reducible refine (len64_small x _ h1).mono ?_); rintro e w' ⟨⟨k, rfl, hk⟩, rfl⟩))
  go_ret
  exact ⟨⟨k, rfl, hk⟩, rfl⟩
end Go.Proofs.Ytpmjgomfjfhfkaa
