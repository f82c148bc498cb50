/- crc's Sealed. -/
import Derived.Test.YtlhjligeigkbnaaCrcCodeB
import Derived.Test.YtlhjligeigkbnaaCrcSealed
set_option linter.unusedSimpArgs false
set_option linter.unusedVariables false
namespace Go.Proofs.Ytlhjligeigkbnaa.Crc
open Go.RowKit RU8

theorem sealed_any (A : Option Addr) (len c : Nat) (ys : List Nat) (w : World) (hv : Vals w A len ys) (hb : Bytes ys) (hl : len ≤ 100000) (hc : len ≤ c) (hc2 : c ≤ 9223372036854775807) :
    Calls Try.prog 34 #[.slice A len c] w fun e w' => e = .returned (.bool (sealedB ys)) ∧ w = w' := by
  have hlen := hv.len_
  rcases Nat.lt_or_ge len 2 with h2 | h2
  · rw [sealed_few ys (by omega)]
    go_enter Try.func34, Try.ntmps34
    go_wp2
    go_ret
    exact ⟨rfl, rfl⟩
  · obtain ⟨n, hn⟩ : ∃ n, len = n + 2 := ⟨len - 2, by omega⟩
    rw [sealed_two ys n (by omega)]
    have hck := check_any A n c (ys.take n) w (hv.take n (by omega)) (hb.take n) (by omega)
    obtain ⟨x, rfl, hx⟩ := hv.cells (by omega)
    have hc0 := hx n (by omega)
    have hc1 := hx (n + 1) (by omega)
    have hnz : (len : Int) - 2 = (n : Int) := by omega
    obtain ⟨n1, hn1⟩ : ∃ n1, n + 1 = n1 := ⟨_, rfl⟩
    rw [hn1] at hc1 ⊢
    have hnz2 : (n : Int) + 1 = (n1 : Int) := by omega
    have hn2 : n1 < len := by omega
    have hn3 : n < len := by omega
    clear hn1
    clear hx hv hb hlen
    generalize sumZ (ys.take n) % 256 = lo at *
    generalize sumZ (ys.take n) / 256 = hi at *
    generalize ys.getD n 0 = y0 at *
    generalize ys.getD n1 0 = y1 at *
    clear hn
    go_enter Try.func34, Try.ntmps34
    go_wp2_with (go_at_call 38; ((with_reducible refine hck.mono ?_); rintro e w' ⟨rfl, rfl⟩))
    · have e : y0 = lo := by omega
      go_ret
      exact ⟨ret_bool (by rw [cast_beq, decide_eq_true e, Bool.true_and]), rfl⟩
    · have e : ¬ y0 = lo := by omega
      go_ret
      exact ⟨ret_bool (by rw [decide_eq_false e, Bool.false_and]), rfl⟩
end Go.Proofs.Ytlhjligeigkbnaa.Crc
