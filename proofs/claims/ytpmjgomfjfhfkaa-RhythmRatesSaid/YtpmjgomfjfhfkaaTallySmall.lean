/- The landed tally: what its memory holds, and what its calls answer and do. -/
import Derived.Test.YtpmjgomfjfhfkaaTallyMath
import Derived.Test.YtpmjgomfjfhfkaaKept
import Derived.Test.YtpmjgomfjfhfkaaArgsJ
import Derived.Test.YtpmjgomfjfhfkaaRegion
import Derived.Test.YtpmjgomfjfhfkaaRegionMore
import Derived.Test.YtpmjgomfjfhfkaaRegionTill
import Derived.Lib.Hide
set_option linter.unusedSimpArgs false
set_option linter.unusedVariables false
namespace Go.Proofs.Ytpmjgomfjfhfkaa.Tally
open Go.RowKit RI64
/-- A tally's cells. -/
def cellsT (l : Lim) (b : Bool) (s f g : Int) : Array Value := #[.int .i64 l.mains, .int .i64 l.asys, .int .i64 l.tach, .int .i64 l.tachN, .int .i64 l.brad, .int .i64 l.bradN, .int .i64 l.fib, .int .i64 l.fibN, .int .i64 l.escape, .bool b, .int .i64 s, .int .i64 f, .int .i64 g]
/-- The tally in block b has these limits, and stands so. -/
structure Tal (w : World) (b : Nat) (l : Lim) (s : St) : Prop where
  head : Has w b 77 (cellsT l s.begun s.last (fastT l s.rs : Nat) (slowT l s.rs : Nat))
  last : 0 ≤ s.last ∧ s.last ≤ 1099511627776
  may : May l
theorem Tal.lt {w : World} {b : Nat} {l : Lim} {s : St} (h : Tal w b l s) : b < w.heap.size := h.head.lt
theorem Tal.kept {w w' : World} {b : Nat} {l : Lim} {s : St} {S : List Nat} (h : Tal w b l s) (hK : Kept S w w') (hb : b ∉ S) : Tal w' b l s := ⟨hK.has h.head hb, h.last, h.may⟩
theorem Tal.below {w w' : World} {b : Nat} {l : Lim} {s : St} (h : Tal w b l s) (hB : Below w.heap.size w w') : Tal w' b l s := ⟨h.head.below hB h.lt, h.last, h.may⟩
theorem near_k (n : Int) (w : World) : Calls Try.prog 44 #[.int .i64 n] w fun e w' => e = .returned (.int .i64 (nearA n)) ∧ w = w' := by
  obtain ⟨m, hm⟩ : ∃ m, (if n < 0 then 0 else n) = m := ⟨_, rfl⟩
  obtain ⟨r, hr⟩ : ∃ r, (if 1099511627776 < m then 1099511627776 else m) = r := ⟨_, rfl⟩
  rw [← nearA_ifs n m r hm hr]
  go_enter Try.func44, Try.ntmps44
  go_wp2
  go_ret
  exact ⟨rfl, rfl⟩
theorem within_k (n lo hi : Int) (w : World) : Calls Try.prog 40 #[.int .i64 n, .int .i64 lo, .int .i64 hi] w fun e w' => e = .returned (.bool (within n lo hi)) ∧ w = w' := by
  unfold within
  by_cases h1 : lo ≤ n
  · go_enter Try.func40, Try.ntmps40
    go_wp2
    go_ret
    exact ⟨by simp [h1], rfl⟩
  · go_enter Try.func40, Try.ntmps40
    go_wp2
    go_ret
    exact ⟨by rw [decide_eq_false (show ¬ lo ≤ n by omega)]; rfl, rfl⟩
theorem mains_k (n : Int) (w : World) : Calls Try.prog 39 #[.int .i64 n] w fun e w' => e = .returned (.bool (mainsT n)) ∧ w = w' := by
  unfold mainsT
  by_cases h1 : n = 0
  · subst h1
    go_enter Try.func39, Try.ntmps39
    go_wp2
    go_ret
    exact ⟨by simp, rfl⟩
  · have h1' : (n == 0) = false := by simp [h1]
    by_cases h2 : n = 50
    · subst h2
      go_enter Try.func39, Try.ntmps39
      go_wp2
      go_ret
      exact ⟨by simp, rfl⟩
    · have h2' : (n == 50) = false := by simp [h2]
      go_enter Try.func39, Try.ntmps39
      go_wp2
      go_ret
      exact ⟨by simp [h1, h2]; rfl, rfl⟩
theorem inRow_k (n : Int) (b : Bool) (w : World) (hn : 0 ≤ n ∧ n ≤ 4611686018427387904) : Calls Try.prog 55 #[.int .i64 n, .bool b] w fun e w' => e = .returned (.int .i64 (if b then n + 1 else 0)) ∧ w = w' := by
  cases b with
  | true =>
    go_enter Try.func55, Try.ntmps55
    go_wp2
    go_ret
    exact ⟨rfl, rfl⟩
  | false =>
    go_enter Try.func55, Try.ntmps55
    go_wp2
    go_ret
    exact ⟨rfl, rfl⟩
set_option maxHeartbeats 2000000 in
theorem check_k (l : Lim) (w : World) : Calls Try.prog 26 #[limV l] w fun e w' => e = .returned (.int .i64 (if mayT l then 0 else 200)) ∧ Below w.heap.size w w' := by
  obtain ⟨l0, l1, l2, l3, l4, l5, l6, l7, l8⟩ := l
  unfold limV mayT
  dsimp only
  have hB := (Below.refl w.heap.size w).alloc (Nat.le_refl _) (.cells #[.int .i64 l0, .int .i64 l1, .int .i64 l2, .int .i64 l3, .int .i64 l4, .int .i64 l5, .int .i64 l6, .int .i64 l7, .int .i64 l8] 23)
  have g0 := fun W => mains_k l0 W
  have g1 := fun W => within_k l1 200 6000 W
  have g2 := fun W => within_k l2 40 400 W
  have g3 := fun W => within_k l3 1 20 W
  have g4 := fun W => within_k l4 (l2 + 1) 2000 W
  have g5 := fun W => within_k l5 1 20 W
  have g6 := fun W => within_k l6 1 142847 W
  have g7 := fun W => within_k l7 1 200 W
  have g8 := fun W => within_k l8 1 1048576 W
  have h2 : within l2 40 400 = true → 40 ≤ l2 ∧ l2 ≤ 400 := fun h => by unfold within at h; simpa using h
  generalize mainsT l0 = r0 at *
  generalize within l1 200 6000 = r1 at *
  generalize within l2 40 400 = r2 at *
  generalize within l3 1 20 = r3 at *
  generalize within l4 (l2 + 1) 2000 = r4 at *
  generalize within l5 1 20 = r5 at *
  generalize within l6 1 142847 = r6 at *
  generalize within l7 1 200 = r7 at *
  generalize within l8 1 1048576 = r8 at *
  cases r0 with
  | false => skip
             go_enter Try.func26, Try.ntmps26
             go_wp2_with (first
               | (go_at_call 39; ((with_reducible refine (g0 _).mono ?_); rintro e w1 ⟨rfl, rfl⟩))
               | (go_at_call 40; ((with_reducible refine (g1 _).mono ?_); rintro e w1 ⟨rfl, rfl⟩))
               | (go_at_call 40; ((with_reducible refine (g2 _).mono ?_); rintro e w1 ⟨rfl, rfl⟩))
               | (go_at_call 40; ((with_reducible refine (g3 _).mono ?_); rintro e w1 ⟨rfl, rfl⟩))
               | (go_at_call 40; ((with_reducible refine (g4 _).mono ?_); rintro e w1 ⟨rfl, rfl⟩))
               | (go_at_call 40; ((with_reducible refine (g5 _).mono ?_); rintro e w1 ⟨rfl, rfl⟩))
               | (go_at_call 40; ((with_reducible refine (g6 _).mono ?_); rintro e w1 ⟨rfl, rfl⟩))
               | (go_at_call 40; ((with_reducible refine (g7 _).mono ?_); rintro e w1 ⟨rfl, rfl⟩))
               | (go_at_call 40; ((with_reducible refine (g8 _).mono ?_); rintro e w1 ⟨rfl, rfl⟩)))
             go_ret
             exact ⟨rfl, hB⟩
  | true =>
  cases r1 with
  | false => skip
             go_enter Try.func26, Try.ntmps26
             go_wp2_with (first
               | (go_at_call 39; ((with_reducible refine (g0 _).mono ?_); rintro e w1 ⟨rfl, rfl⟩))
               | (go_at_call 40; ((with_reducible refine (g1 _).mono ?_); rintro e w1 ⟨rfl, rfl⟩))
               | (go_at_call 40; ((with_reducible refine (g2 _).mono ?_); rintro e w1 ⟨rfl, rfl⟩))
               | (go_at_call 40; ((with_reducible refine (g3 _).mono ?_); rintro e w1 ⟨rfl, rfl⟩))
               | (go_at_call 40; ((with_reducible refine (g4 _).mono ?_); rintro e w1 ⟨rfl, rfl⟩))
               | (go_at_call 40; ((with_reducible refine (g5 _).mono ?_); rintro e w1 ⟨rfl, rfl⟩))
               | (go_at_call 40; ((with_reducible refine (g6 _).mono ?_); rintro e w1 ⟨rfl, rfl⟩))
               | (go_at_call 40; ((with_reducible refine (g7 _).mono ?_); rintro e w1 ⟨rfl, rfl⟩))
               | (go_at_call 40; ((with_reducible refine (g8 _).mono ?_); rintro e w1 ⟨rfl, rfl⟩)))
             go_ret
             exact ⟨rfl, hB⟩
  | true =>
  cases r2 with
  | false => skip
             go_enter Try.func26, Try.ntmps26
             go_wp2_with (first
               | (go_at_call 39; ((with_reducible refine (g0 _).mono ?_); rintro e w1 ⟨rfl, rfl⟩))
               | (go_at_call 40; ((with_reducible refine (g1 _).mono ?_); rintro e w1 ⟨rfl, rfl⟩))
               | (go_at_call 40; ((with_reducible refine (g2 _).mono ?_); rintro e w1 ⟨rfl, rfl⟩))
               | (go_at_call 40; ((with_reducible refine (g3 _).mono ?_); rintro e w1 ⟨rfl, rfl⟩))
               | (go_at_call 40; ((with_reducible refine (g4 _).mono ?_); rintro e w1 ⟨rfl, rfl⟩))
               | (go_at_call 40; ((with_reducible refine (g5 _).mono ?_); rintro e w1 ⟨rfl, rfl⟩))
               | (go_at_call 40; ((with_reducible refine (g6 _).mono ?_); rintro e w1 ⟨rfl, rfl⟩))
               | (go_at_call 40; ((with_reducible refine (g7 _).mono ?_); rintro e w1 ⟨rfl, rfl⟩))
               | (go_at_call 40; ((with_reducible refine (g8 _).mono ?_); rintro e w1 ⟨rfl, rfl⟩)))
             go_ret
             exact ⟨rfl, hB⟩
  | true =>
  have hl2 := h2 rfl
  clear h2
  cases r3 with
  | false => skip
             go_enter Try.func26, Try.ntmps26
             go_wp2_with (first
               | (go_at_call 39; ((with_reducible refine (g0 _).mono ?_); rintro e w1 ⟨rfl, rfl⟩))
               | (go_at_call 40; ((with_reducible refine (g1 _).mono ?_); rintro e w1 ⟨rfl, rfl⟩))
               | (go_at_call 40; ((with_reducible refine (g2 _).mono ?_); rintro e w1 ⟨rfl, rfl⟩))
               | (go_at_call 40; ((with_reducible refine (g3 _).mono ?_); rintro e w1 ⟨rfl, rfl⟩))
               | (go_at_call 40; ((with_reducible refine (g4 _).mono ?_); rintro e w1 ⟨rfl, rfl⟩))
               | (go_at_call 40; ((with_reducible refine (g5 _).mono ?_); rintro e w1 ⟨rfl, rfl⟩))
               | (go_at_call 40; ((with_reducible refine (g6 _).mono ?_); rintro e w1 ⟨rfl, rfl⟩))
               | (go_at_call 40; ((with_reducible refine (g7 _).mono ?_); rintro e w1 ⟨rfl, rfl⟩))
               | (go_at_call 40; ((with_reducible refine (g8 _).mono ?_); rintro e w1 ⟨rfl, rfl⟩)))
             go_ret
             exact ⟨rfl, hB⟩
  | true =>
  cases r4 with
  | false => skip
             go_enter Try.func26, Try.ntmps26
             go_wp2_with (first
               | (go_at_call 39; ((with_reducible refine (g0 _).mono ?_); rintro e w1 ⟨rfl, rfl⟩))
               | (go_at_call 40; ((with_reducible refine (g1 _).mono ?_); rintro e w1 ⟨rfl, rfl⟩))
               | (go_at_call 40; ((with_reducible refine (g2 _).mono ?_); rintro e w1 ⟨rfl, rfl⟩))
               | (go_at_call 40; ((with_reducible refine (g3 _).mono ?_); rintro e w1 ⟨rfl, rfl⟩))
               | (go_at_call 40; ((with_reducible refine (g4 _).mono ?_); rintro e w1 ⟨rfl, rfl⟩))
               | (go_at_call 40; ((with_reducible refine (g5 _).mono ?_); rintro e w1 ⟨rfl, rfl⟩))
               | (go_at_call 40; ((with_reducible refine (g6 _).mono ?_); rintro e w1 ⟨rfl, rfl⟩))
               | (go_at_call 40; ((with_reducible refine (g7 _).mono ?_); rintro e w1 ⟨rfl, rfl⟩))
               | (go_at_call 40; ((with_reducible refine (g8 _).mono ?_); rintro e w1 ⟨rfl, rfl⟩)))
             go_ret
             exact ⟨rfl, hB⟩
  | true =>
  cases r5 with
  | false => skip
             go_enter Try.func26, Try.ntmps26
             go_wp2_with (first
               | (go_at_call 39; ((with_reducible refine (g0 _).mono ?_); rintro e w1 ⟨rfl, rfl⟩))
               | (go_at_call 40; ((with_reducible refine (g1 _).mono ?_); rintro e w1 ⟨rfl, rfl⟩))
               | (go_at_call 40; ((with_reducible refine (g2 _).mono ?_); rintro e w1 ⟨rfl, rfl⟩))
               | (go_at_call 40; ((with_reducible refine (g3 _).mono ?_); rintro e w1 ⟨rfl, rfl⟩))
               | (go_at_call 40; ((with_reducible refine (g4 _).mono ?_); rintro e w1 ⟨rfl, rfl⟩))
               | (go_at_call 40; ((with_reducible refine (g5 _).mono ?_); rintro e w1 ⟨rfl, rfl⟩))
               | (go_at_call 40; ((with_reducible refine (g6 _).mono ?_); rintro e w1 ⟨rfl, rfl⟩))
               | (go_at_call 40; ((with_reducible refine (g7 _).mono ?_); rintro e w1 ⟨rfl, rfl⟩))
               | (go_at_call 40; ((with_reducible refine (g8 _).mono ?_); rintro e w1 ⟨rfl, rfl⟩)))
             go_ret
             exact ⟨rfl, hB⟩
  | true =>
  cases r6 with
  | false => skip
             go_enter Try.func26, Try.ntmps26
             go_wp2_with (first
               | (go_at_call 39; ((with_reducible refine (g0 _).mono ?_); rintro e w1 ⟨rfl, rfl⟩))
               | (go_at_call 40; ((with_reducible refine (g1 _).mono ?_); rintro e w1 ⟨rfl, rfl⟩))
               | (go_at_call 40; ((with_reducible refine (g2 _).mono ?_); rintro e w1 ⟨rfl, rfl⟩))
               | (go_at_call 40; ((with_reducible refine (g3 _).mono ?_); rintro e w1 ⟨rfl, rfl⟩))
               | (go_at_call 40; ((with_reducible refine (g4 _).mono ?_); rintro e w1 ⟨rfl, rfl⟩))
               | (go_at_call 40; ((with_reducible refine (g5 _).mono ?_); rintro e w1 ⟨rfl, rfl⟩))
               | (go_at_call 40; ((with_reducible refine (g6 _).mono ?_); rintro e w1 ⟨rfl, rfl⟩))
               | (go_at_call 40; ((with_reducible refine (g7 _).mono ?_); rintro e w1 ⟨rfl, rfl⟩))
               | (go_at_call 40; ((with_reducible refine (g8 _).mono ?_); rintro e w1 ⟨rfl, rfl⟩)))
             go_ret
             exact ⟨rfl, hB⟩
  | true =>
  cases r7 with
  | false => skip
             go_enter Try.func26, Try.ntmps26
             go_wp2_with (first
               | (go_at_call 39; ((with_reducible refine (g0 _).mono ?_); rintro e w1 ⟨rfl, rfl⟩))
               | (go_at_call 40; ((with_reducible refine (g1 _).mono ?_); rintro e w1 ⟨rfl, rfl⟩))
               | (go_at_call 40; ((with_reducible refine (g2 _).mono ?_); rintro e w1 ⟨rfl, rfl⟩))
               | (go_at_call 40; ((with_reducible refine (g3 _).mono ?_); rintro e w1 ⟨rfl, rfl⟩))
               | (go_at_call 40; ((with_reducible refine (g4 _).mono ?_); rintro e w1 ⟨rfl, rfl⟩))
               | (go_at_call 40; ((with_reducible refine (g5 _).mono ?_); rintro e w1 ⟨rfl, rfl⟩))
               | (go_at_call 40; ((with_reducible refine (g6 _).mono ?_); rintro e w1 ⟨rfl, rfl⟩))
               | (go_at_call 40; ((with_reducible refine (g7 _).mono ?_); rintro e w1 ⟨rfl, rfl⟩))
               | (go_at_call 40; ((with_reducible refine (g8 _).mono ?_); rintro e w1 ⟨rfl, rfl⟩)))
             go_ret
             exact ⟨rfl, hB⟩
  | true =>
  cases r8 with
  | false => skip
             go_enter Try.func26, Try.ntmps26
             go_wp2_with (first
               | (go_at_call 39; ((with_reducible refine (g0 _).mono ?_); rintro e w1 ⟨rfl, rfl⟩))
               | (go_at_call 40; ((with_reducible refine (g1 _).mono ?_); rintro e w1 ⟨rfl, rfl⟩))
               | (go_at_call 40; ((with_reducible refine (g2 _).mono ?_); rintro e w1 ⟨rfl, rfl⟩))
               | (go_at_call 40; ((with_reducible refine (g3 _).mono ?_); rintro e w1 ⟨rfl, rfl⟩))
               | (go_at_call 40; ((with_reducible refine (g4 _).mono ?_); rintro e w1 ⟨rfl, rfl⟩))
               | (go_at_call 40; ((with_reducible refine (g5 _).mono ?_); rintro e w1 ⟨rfl, rfl⟩))
               | (go_at_call 40; ((with_reducible refine (g6 _).mono ?_); rintro e w1 ⟨rfl, rfl⟩))
               | (go_at_call 40; ((with_reducible refine (g7 _).mono ?_); rintro e w1 ⟨rfl, rfl⟩))
               | (go_at_call 40; ((with_reducible refine (g8 _).mono ?_); rintro e w1 ⟨rfl, rfl⟩)))
             go_ret
             exact ⟨rfl, hB⟩
  | true => skip
            go_enter Try.func26, Try.ntmps26
            go_wp2_with (first
              | (go_at_call 39; ((with_reducible refine (g0 _).mono ?_); rintro e w1 ⟨rfl, rfl⟩))
              | (go_at_call 40; ((with_reducible refine (g1 _).mono ?_); rintro e w1 ⟨rfl, rfl⟩))
              | (go_at_call 40; ((with_reducible refine (g2 _).mono ?_); rintro e w1 ⟨rfl, rfl⟩))
              | (go_at_call 40; ((with_reducible refine (g3 _).mono ?_); rintro e w1 ⟨rfl, rfl⟩))
              | (go_at_call 40; ((with_reducible refine (g4 _).mono ?_); rintro e w1 ⟨rfl, rfl⟩))
              | (go_at_call 40; ((with_reducible refine (g5 _).mono ?_); rintro e w1 ⟨rfl, rfl⟩))
              | (go_at_call 40; ((with_reducible refine (g6 _).mono ?_); rintro e w1 ⟨rfl, rfl⟩))
              | (go_at_call 40; ((with_reducible refine (g7 _).mono ?_); rintro e w1 ⟨rfl, rfl⟩))
              | (go_at_call 40; ((with_reducible refine (g8 _).mono ?_); rintro e w1 ⟨rfl, rfl⟩)))
            go_ret
            exact ⟨rfl, hB⟩
end Go.Proofs.Ytpmjgomfjfhfkaa.Tally
