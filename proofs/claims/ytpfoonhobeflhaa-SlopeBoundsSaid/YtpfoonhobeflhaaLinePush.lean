/- A delay line: values in any number, and none any more. -/
import Derived.Test.YtpfoonhobeflhaaLine
import Derived.Deep.RegionWith
set_option linter.unusedSimpArgs false
set_option linter.unusedVariables false
namespace Go.Proofs.Ytpfoonhobeflhaa
open Go.RowKit RI64

theorem line_forget (x b g n most : Nat) (h : List Int) (w : World) (L : Line w x b g n most h) :
    Calls Try.prog 32 #[.pointer (some ⟨x, 0, none⟩)] w fun e w' => e = .returned (.tuple #[]) ∧ LineBecame w x b g n most [] w' := by
  obtain ⟨c0, c1⟩ := L.cells
  obtain ⟨f, cs, hR⟩ := L.ring
  have hne := L.ne_
  have hcl := clear_any b g n n f cs _ w hR
  go_enter Try.func32, Try.ntmps32
  go_wp2_with (go_at_call 41; ((with_reducible refine hcl.mono ?_); rintro e w1 ⟨rfl, cs1, hR1, hT1⟩))
  go_end0
  exact ⟨rfl, ⟨hT1.has L.head hne.1 hne.2, ⟨_, cs1, by simpa using hR1⟩, L.most_, L.room, hne⟩, Kept.of_turned hT1⟩
def Pushing (w : World) (x b g n most : Nat) (h ys : List Int) (len : Nat) (i : Value) (wr : World) : Prop :=
  ∃ k, k ≤ len ∧ i = .int .i64 (k : Nat) ∧ LineBecame w x b g n most ((ys.take k).reverse ++ h) wr
theorem push_step (ys : List Int) (h : List Int) (k : Nat) (hk : k < ys.length) : ys.getD k 0 :: ((ys.take k).reverse ++ h) = (ys.take (k + 1)).reverse ++ h := by
  rw [List.take_succ_eq_append_getElem hk, List.reverse_append, List.getD_eq_getElem?_getD, List.getElem?_eq_getElem hk]
  simp
theorem line_push (x b g n most : Nat) (h : List Int) (a : Option Addr) (len cap : Nat) (ys : List Int) (w : World) (L : Line w x b g n most h) (hv : Vals w a len ys) (hl : len ≤ cap) (hcap : cap ≤ 9223372036854775807) (hfar : 0 < len → ∀ y, a = some y → y.block ≠ b ∧ y.block ≠ g) :
    Calls Try.prog 22 #[.pointer (some ⟨x, 0, none⟩), .slice a len cap] w fun e w' => e = .returned (.tuple #[]) ∧ LineBecame w x b g n most (ys.reverse ++ h) w' := by
  have hK := Kept.refl [b, g] w
  have hy := hv.len_
  have hfar2 : 0 < len → ∀ y, a = some y → y.block ∉ [b, g] := fun h0 y hy => by have := hfar h0 y hy; simpa using this
  go_enter Try.func22, Try.ntmps22
  go_wp2
  go_loopw [10] (fun i wr => Pushing w x b g n most h ys len i wr) (fun i _ => len - (intOf i).toNat)
  case atStart => exact ⟨0, by omega, rfl, L, hK⟩
  case round =>
    clear L hK
    obtain ⟨k, hk, rfl, hL, hK⟩ := hrel
    by_cases hlt : k < len
    · obtain ⟨y, rfl, hcx⟩ := (hv.kept hK hfar2).cells (by omega)
      have hcell := hcx k hlt
      have hst := Lib.hid (push_step ys h k (by omega))
      generalize ys.getD k 0 = v at *
      clear hcx
      have hco := line_come x b g n most _ v wr hL
      go_wp2_with (go_at_call 33; ((with_reducible refine hco.mono ?_); rintro e w1 ⟨rfl, hL1, hK1⟩))
      go_roundw
      case rel => exact ⟨k + 1, by omega, by go_num, by rw [← hst.out]; exact hL1, hK.trans hK1⟩
      case measure => simp [intOf]; omega
    · obtain rfl : k = len := by omega
      rw [List.take_of_length_le (by omega)] at hL
      go_wp2
      go_end0
      exact ⟨rfl, hL, hK⟩
end Go.Proofs.Ytpfoonhobeflhaa
