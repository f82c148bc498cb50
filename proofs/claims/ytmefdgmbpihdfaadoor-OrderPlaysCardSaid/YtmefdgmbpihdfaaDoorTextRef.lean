/- The reference's numbers as texts, and texts as numbers. -/
import Derived.Test.YtmefdgmbpihdfaaDoorChecked
import Derived.Test.YtmefdgmbpihdfaaDoorTextMath
import Derived.Test.YtmefdgmbpihdfaaDoorOwn
import Derived.Lib.Hide
import Derived.Deep.QuietTactic
import Derived.BigQuiet
set_option linter.unusedSimpArgs false
set_option linter.unusedVariables false
namespace Go.Proofs.YtmefdgmbpihdfaaDoor.Txt
open Go.RowKit RU8

theorem ret_str {a b : List Nat} (h : a = b) : Ending.returned (.string (str a)) = .returned (.string (str b)) := by rw [h]
theorem digits_any (u : Nat) (hu : u < 18446744073709551616) (w : World) :
    Calls Tryd.prog 39 #[.int .u64 u] w fun e w' => e = .returned (.string (str (digs u))) ∧ Below w.heap.size w w' := by
  induction u using digs.induct generalizing w with
  | case1 u h =>
    rw [digs_low h]
    obtain ⟨D, hD⟩ : ∃ D, 48 + u = D := ⟨_, rfl⟩
    have hr : (u : Int) % 10 = (u : Int) := by omega
    have hDz : 48 + (u : Int) = (D : Int) := by omega
    have hD8 : IntKind.u8.wrap (D : Int) = (D : Int) := by rw [IntKind.wrap_u8]; omega
    have hDl : D < 256 := by omega
    rw [hD]
    clear hD
    have hB := (Below.refl w.heap.size w).alloc (Nat.le_refl _) (.cells #[.int .u8 D] 5)
    have hcv : ∀ c, (convert 55 9 (.slice (some ⟨w.heap.size, 0, none⟩) 1 c)).run Tryd.prog (w.alloc (.cells #[.int .u8 D] 5)) = .ok (.string (str [D])) (w.alloc (.cells #[.int .u8 D] 5)) := fun c =>
      conv _ 5 _ Tryd.underlying55 Tryd.underlying5 Tryd.underlying9 (Vals.has (ys := [D]) (tl := []) (Has.new w _ _)) c
    have h10 : (u : Int) < 10 := by omega
    go_enter Tryd.func39, Tryd.ntmps39
    go_wp2
    go_ret
    exact ⟨rfl, hB⟩
  | case2 u h ih =>
    rw [digs_high (by omega)]
    obtain ⟨q, hq⟩ : ∃ q, u / 10 = q := ⟨_, rfl⟩
    obtain ⟨r, hr⟩ : ∃ r, u % 10 = r := ⟨_, rfl⟩
    obtain ⟨D, hD⟩ : ∃ D, 48 + r = D := ⟨_, rfl⟩
    have hrz : (u : Int) % 10 = (r : Int) := by omega
    have hqz : (u : Int) / 10 = (q : Int) := by omega
    have hDz : 48 + (r : Int) = (D : Int) := by omega
    have hD8 : IntKind.u8.wrap (D : Int) = (D : Int) := by rw [IntKind.wrap_u8]; omega
    have hDl : D < 256 := by omega
    have hr10 : r < 10 := by omega
    have hlen := digs_len q 20 (by decide) (by omega)
    rw [hq] at ih ⊢
    rw [hr, hD]
    have h10 : ¬ (u : Int) < 10 := by omega
    have hq64 : q < 18446744073709551616 := by omega
    have ih2 := fun W => ih hq64 W
    clear ih hq hr hD h
    have hB := (Below.refl w.heap.size w).alloc (Nat.le_refl _) (.cells #[.int .u8 D] 5)
    have hcv : ∀ c, (convert 55 9 (.slice (some ⟨w.heap.size, 0, none⟩) 1 c)).run Tryd.prog (w.alloc (.cells #[.int .u8 D] 5)) = .ok (.string (str [D])) (w.alloc (.cells #[.int .u8 D] 5)) := fun c =>
      conv _ 5 _ Tryd.underlying55 Tryd.underlying5 Tryd.underlying9 (Vals.has (ys := [D]) (tl := []) (Has.new w _ _)) c
    have hadd : ∀ W, (Op.stringOp .add (str (digs q)) (str [D])).run Tryd.prog W = .ok (.string (str (digs q ++ [D]))) W := fun W => run_add _ _ W (by simp; omega)
    go_enter Tryd.func39, Tryd.ntmps39
    go_wp2_with (go_at_call 39; ((with_reducible refine (ih2 _).mono ?_); rintro e W2 ⟨rfl, hB2⟩))
    go_ret
    exact ⟨rfl, hB.trans (hB2.mono hB.size)⟩
theorem str_minus : (⟨#[45]⟩ : ByteArray) = str [45] := rfl
theorem refnum_any (n : Int) (h : -9223372036854775808 ≤ n ∧ n ≤ 9223372036854775807) (w : World) :
    Calls Tryd.prog 29 #[.int .i64 n] w fun e w' => e = .returned (.string (str (numT n))) ∧ Below w.heap.size w w' := by
  have hd := digits_any n.natAbs (by omega) w
  have hlen := digs_len n.natAbs 19 (by decide) (by omega)
  unfold numT
  by_cases h0 : n < 0
  · rw [if_pos h0]
    obtain ⟨m, hm⟩ : ∃ m, n.natAbs = m := ⟨_, rfl⟩
    have h1 : IntKind.u64.wrap n = n + 18446744073709551616 := by rw [IntKind.wrap_u64]; omega
    have h2 : IntKind.u64.wrap (-(n + 18446744073709551616)) = (m : Int) := by rw [IntKind.wrap_u64]; omega
    rw [hm] at hd hlen ⊢
    have hadd : ∀ W, (Op.stringOp .add (⟨#[45]⟩ : ByteArray) (str (digs m))).run Tryd.prog W = .ok (.string (str (45 :: digs m))) W := fun W => run_add [45] _ W (by simp; omega)
    clear hm
    generalize digs m = d at *
    go_enter Tryd.func29, Tryd.ntmps29
    go_wp2_with (go_at_call 39; ((with_reducible refine hd.mono ?_); rintro e W2 ⟨rfl, hB2⟩))
    go_ret
    exact ⟨rfl, hB2⟩
  · rw [if_neg h0]
    have h1 : (n.natAbs : Int) = n := by omega
    have h2 : IntKind.u64.wrap n = n := by rw [IntKind.wrap_u64]; omega
    rw [h1] at hd
    generalize digs n.natAbs = d at *
    clear h1
    go_enter Tryd.func29, Tryd.ntmps29
    go_wp2_with (go_at_call 39; ((with_reducible refine hd.mono ?_); rintro e W2 ⟨rfl, hB2⟩))
    go_ret
    exact ⟨rfl, hB2⟩
end Go.Proofs.YtmefdgmbpihdfaaDoor.Txt
