/- The landed tally's Beat. -/
import Derived.Test.YtpmjgomfjfhfkaaTallyCode
import Derived.Test.YtpmjgomfjfhfkaaOwn
set_option linter.unusedSimpArgs false
set_option linter.unusedVariables false
namespace Go.Proofs.Ytpmjgomfjfhfkaa.Tally
open Go.RowKit RI64
def Beating (w : World) (b : Nat) (l : Lim) (s : St) (a : Int) (ys : List Int) (n : Nat) (i : Value) (wr : World) : Prop :=
  ∃ k, k ≤ n ∧ i = .int .i64 (k : Nat) ∧ Tal wr b l ⟨true, a, cntT (ys.take k) s.rs⟩ ∧ Kept [b] w wr
set_option maxHeartbeats 1000000 in
theorem beat_k (b : Nat) (l : Lim) (s : St) (a : Int) (A : Option Addr) (n c : Nat) (ys : List Int) (w : World) (h : Tal w b l s) (hv : Vals w A n ys) (hn : n ≤ 100000) (hr : s.rs.length ≤ 3000000000) (hfar : ∀ x', 0 < n → A = some x' → x'.block ≠ b) :
    Calls Try.prog 36 #[.pointer (some ⟨b, 0, none⟩), .int .i64 a, .slice A n c] w fun e w' => e = .returned (.tuple #[]) ∧ Tal w' b l (beatT s a ys) ∧ Kept [b] w w' := by
  have hfar2 : 0 < n → ∀ x', A = some x' → x'.block ∉ [b] := fun h0 x' hx => by have := hfar x' h0 hx; simpa using this
  have hy := hv.len_
  have hnr := fun W => near_k a W
  have hnb := nearA_bd a
  unfold beatT
  generalize nearA a = m at *
  have hK0 := Kept.refl [b] w
  obtain ⟨hH, hl, hm⟩ := h
  have hend : ∀ W, Has W b 77 ((cellsT l s.begun s.last (fastT l s.rs : Nat) (slowT l s.rs : Nat)).setIfInBounds 9 (.bool true) |>.setIfInBounds 10 (.int .i64 m)) → Tal W b l ⟨true, m, cntT (ys.take 0) s.rs⟩ := fun W hW => ⟨hW, hnb, hm⟩
  clear hnb hl hm hfar
  have c9 := hH.cell 9
  have c10 := hH.cell 10
  have f9 := hH.frozen 9
  have f10 := hH.frozen 10
  have HH := Lib.hid hH
  unfold cellsT at c9 c10
  clear hH
  go_enter Try.func36, Try.ntmps36
  go_wp2_with (go_at_call 44; ((with_reducible refine (hnr _).mono ?_); rintro e w1 ⟨rfl, rfl⟩))
  have hT0 := hend _ ((HH.out.set_ 9 (.bool true)).set_ 10 (.int .i64 m))
  have hK := (hK0.setCell (p := ⟨b, 9, none⟩) (.inl (by simp)) (.bool true)).setCell (p := ⟨b, 10, none⟩) (.inl (by simp)) (.int .i64 m)
  clear HH hend c9 c10 f9 f10 hK0
  go_loopw [20] (fun i wr => Beating w b l s m ys n i wr) (fun i _ => n - (intOf i).toNat)
  case atStart => exact ⟨0, by omega, rfl, hT0, hK⟩
  case round =>
    clear hT0 hK
    obtain ⟨k, hk, rfl, hL, hK⟩ := hrel
    by_cases hlt : k < n
    · obtain ⟨x', rfl, hcx⟩ := (hv.kept hK hfar2).cells (by omega)
      have hcell := hcx k hlt
      have hst := cnt_step ys s.rs k (by omega)
      have hlen := cnt_len (ys.take k) s.rs
      have hlt2 : (ys.take k).length ≤ n := by rw [List.length_take]; omega
      have hck := count_k b l _ (ys.getD k 0) wr hL (by dsimp only; omega)
      dsimp only at hck
      rw [← hst] at hck
      have HV := Lib.hid hv
      have HF := Lib.hid hfar2
      clear hcx hv hfar2 hL hst hlen hlt2 hy
      generalize hrs : cntT (ys.take (k + 1)) s.rs = rs at *
      have HR := Lib.hid hrs
      clear hrs
      generalize ys.getD k 0 = v at *
      go_wp2_with (go_at_call 45; ((with_reducible refine hck.mono ?_); rintro e w1 ⟨rfl, hL1, hK1⟩))
      go_roundw
      case rel => exact ⟨k + 1, by omega, by go_num, by rw [HR.out]; exact hL1, hK.trans hK1⟩
      case measure => simp [intOf]; omega
    · obtain rfl : k = n := by omega
      rw [List.take_of_length_le (by omega)] at hL
      have HL := Lib.hid hL
      clear hv hfar2 hL hy
      go_wp2
      go_end0
      exact ⟨rfl, HL.out, hK⟩
end Go.Proofs.Ytpmjgomfjfhfkaa.Tally
