/- The reference's bit and byte. -/
import Derived.Test.YtlhjligeigkbnaaChecked
import Derived.Test.YtlhjligeigkbnaaCrcBits
import Derived.Lib.Hide
import Derived.Deep.QuietTactic
import Derived.BigQuiet
set_option linter.unusedSimpArgs false
set_option linter.unusedVariables false
namespace Go.Proofs.Ytlhjligeigkbnaa.Crc
open Go.RowKit

theorem refbit_any (s : Nat) (b : Bool) (w : World) (h : s < 65536) :
    Calls Try.prog 42 #[.int .u16 s, .bool b] w fun e w' => e = .returned (.int .u16 (bitZ s b)) ∧ w = w' := by
  have hyes := Lib.hid (bit_yes s b h)
  have hno := Lib.hid (bit_no s b h)
  obtain ⟨S, hS⟩ : ∃ S : Int, S = (s : Int) := ⟨_, rfl⟩
  have h2 : 0 ≤ S ∧ S < 65536 := by omega
  have hlow : ¬ 32768 ≤ s → ¬ 32768 ≤ S := by omega
  have hhigh : 32768 ≤ s → 32768 ≤ S := by omega
  have hm : IntKind.u16.wrap (S * 2) = S * 2 % 65536 := u16_wrap _
  have hS' := Lib.hid hS
  have hm' := Lib.hid hm
  rw [← hS]
  clear hS hm
  generalize hB : bitZ s b = B at *
  by_cases h1 : 32768 ≤ s
  · have h3 := hhigh h1
    have h4 := Lib.hid h1
    clear hhigh hlow h1 hB
    cases b
    · go_enter Try.func42, Try.ntmps42
      go_wp2
      go_ret
      exact ⟨ret_int (hyes.out (by simp [h4.out]) _ (by rw [hm'.out, hS'.out])), rfl⟩
    · go_enter Try.func42, Try.ntmps42
      go_wp2
      go_ret
      exact ⟨ret_int (hno.out (by simp [h4.out]) _ (by rw [hm'.out, hS'.out])), rfl⟩
  · have h3 := hlow h1
    have h4 := Lib.hid h1
    clear hhigh hlow h1 hB
    have e : S * 2 = (s : Int) * 2 % 65536 := by have := hS'.out; omega
    have he := Lib.hid e
    clear e
    cases b
    · go_enter Try.func42, Try.ntmps42
      go_wp2
      go_ret
      exact ⟨ret_int (hno.out (by simp [h4.out]) _ he.out), rfl⟩
    · go_enter Try.func42, Try.ntmps42
      go_wp2
      go_ret
      exact ⟨ret_int (hyes.out (by simp [h4.out]) _ he.out), rfl⟩
theorem bits_go (s b : Nat) (h : s < 65536) (hb : b < 256) : ∃ g : Nat → Int, ∃ f : Nat → Nat, (∀ i, i < 8 → bitZ (f i) (decide (128 ≤ g i)) = f (i + 1)) ∧ g 0 = b ∧ (∀ i, g (i + 1) = g i * 2 % 256) ∧ (∀ i, 0 ≤ g i ∧ g i < 256) ∧
    (∀ i, f i < 65536) ∧ f 0 = s ∧ f 8 = nextZ s b := by
  refine ⟨fun i => ((b * 2 ^ i % 256 : Nat) : Int), partZ s b, fun i hi => ?_, by show ((b * 2 ^ 0 % 256 : Nat) : Int) = b; omega, fun i => ?_, fun i => ?_, fun i => partZ_lt s b i h, partZ_0 s b, partZ_8 s b⟩
  · show bitZ (partZ s b i) (decide (128 ≤ ((b * 2 ^ i % 256 : Nat) : Int))) = partZ s b (i + 1)
    rw [partZ_succ s b i hi, ← bit_of b i hb hi]
    congr 1
    have h1 : b * 2 ^ i % 256 < 256 := Nat.mod_lt _ (by decide)
    generalize b * 2 ^ i % 256 = x at *
    rw [Nat.testBit_eq_decide_div_mod_eq]
    have : x / 2 ^ 7 % 2 = 1 ↔ 128 ≤ x := by omega
    simp only [this]
    congr 1
    exact propext (by omega)
  · show ((b * 2 ^ (i + 1) % 256 : Nat) : Int) = ((b * 2 ^ i % 256 : Nat) : Int) * 2 % 256
    rw [Nat.pow_succ, ← Nat.mul_assoc]
    omega
  · show 0 ≤ ((b * 2 ^ i % 256 : Nat) : Int) ∧ ((b * 2 ^ i % 256 : Nat) : Int) < 256
    omega
theorem refnext_any (s b : Nat) (w : World) (h : s < 65536) (hb : b < 256) :
    Calls Try.prog 39 #[.int .u16 s, .int .u8 b] w fun e w' => e = .returned (.int .u16 (nextZ s b)) ∧ w = w' := by
  obtain ⟨g, f, hst, hg0, hg, hgb, hf, hf0, hf8⟩ := bits_go s b h hb
  have hg' := Lib.hid hg
  rw [← hf0] at hf8
  have hf8' := Lib.hid hf8
  rw [← hg0, ← hf0]
  clear hg hf8 hg0 hf0 hb h
  go_enter Try.func39, Try.ntmps39
  go_wp2
  go_loop [0, 1, 5] (fun a c i => ∃ j : Nat, j ≤ 8 ∧ i = .int .i64 (j : Nat) ∧ a = .int .u16 (f j : Nat) ∧ c = .int .u8 (g j)) (fun _ _ i => 8 - (intOf i).toNat)
  case atStart => exact ⟨0, by omega, rfl, rfl, rfl⟩
  case round =>
    obtain ⟨j, hj, rfl, rfl, rfl⟩ := hrel
    by_cases h9 : j < 8
    · have hs := refbit_any (f j) (decide (128 ≤ g j)) w (hf j)
      rw [hst j h9] at hs
      have hgj := hgb j
      clear hst hf hgb
      go_wp2_with (go_at_call 42; ((with_reducible refine hs.mono ?_); rintro e w' ⟨rfl, rfl⟩))
      go_round
      case rel => exact ⟨j + 1, by omega, by go_num, rfl, by rw [hg'.out]⟩
      case measure => simp [intOf]; omega
    · obtain rfl : j = 8 := by omega
      clear hst hf hgb
      go_wp2
      go_ret
      exact ⟨by rw [← hf8'.out]; rfl, rfl⟩
end Go.Proofs.Ytlhjligeigkbnaa.Crc
