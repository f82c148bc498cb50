/- A delay line: what its memory holds, and what its calls answer and do. -/
import Derived.Test.YtpmjgomfjfhfkaaLineMath
import Derived.Test.YtpmjgomfjfhfkaaRingTakeJ
import Derived.Test.YtpmjgomfjfhfkaaArgsJ
import Derived.Test.YtpmjgomfjfhfkaaBitsLen
set_option linter.unusedSimpArgs false
set_option linter.unusedVariables false
namespace Go.Proofs.Ytpmjgomfjfhfkaa
open Go.RowKit RI64

/-- Block x is a line's struct that looks back most steps, over a ring at blocks b and g of n slots; h came, the last value first. -/
structure Line (w : World) (x b g n most : Nat) (h : List Int) : Prop where
  head : Has w x 107 #[.pointer (some ⟨b, 0, none⟩), .int .i64 most]
  ring : ∃ f cs, Ring w b g n n f cs (h.take (most + 1)).reverse
  most_ : most ≤ 1024
  room : most < n
  ne_ : x ≠ b ∧ x ≠ g
section
variable {w w' : World} {x b g n most : Nat} {h : List Int}
theorem Line.lt_ (L : Line w x b g n most h) : x < w.heap.size ∧ b < w.heap.size ∧ g < w.heap.size := by
  obtain ⟨f, cs, hR⟩ := L.ring
  exact ⟨L.head.lt, hR.core.lt_.1, hR.core.lt_.2⟩
theorem Line.cells (L : Line w x b g n most h) : w.cell? ⟨x, 0, none⟩ = some (.pointer (some ⟨b, 0, none⟩)) ∧ w.cell? ⟨x, 1, none⟩ = some (.int .i64 most) := ⟨L.head.cell 0, L.head.cell 1⟩
theorem Line.kept {S : List Nat} (L : Line w x b g n most h) (hk : Kept S w w') (h1 : x ∉ S) (h2 : b ∉ S) (h3 : g ∉ S) : Line w' x b g n most h := by
  obtain ⟨e1, ⟨f, cs, hR⟩, e3, e4, e5⟩ := L
  refine ⟨hk.has e1 h1, ⟨f, cs, ?_⟩, e3, e4, e5⟩
  obtain ⟨⟨h3', ⟨tl, h4⟩, s1, s2, s3, s4, s5⟩, hat⟩ := hR
  exact ⟨⟨hk.has h3' h2, ⟨tl, hk.has h4 h3⟩, s1, s2, s3, s4, s5⟩, hat⟩
theorem Line.same (L : Line w x b g n most h) (e : w'.heap = w.heap) : Line w' x b g n most h := by
  obtain ⟨e1, ⟨f, cs, hR⟩, e3, e4, e5⟩ := L
  exact ⟨by unfold Has at *; rw [e]; exact e1, ⟨f, cs, hR.same e⟩, e3, e4, e5⟩
theorem Line.alloc (L : Line w x b g n most h) (o : Obj) : Line (w.alloc o) x b g n most h := by
  obtain ⟨e1, ⟨f, cs, hR⟩, e3, e4, e5⟩ := L
  exact ⟨e1.alloc o, ⟨f, cs, hR.alloc o⟩, e3, e4, e5⟩
end

/-- The line has these values now; its ring has turned, and no other block that was there. -/
def LineBecame (w : World) (x b g n most : Nat) (h : List Int) (w' : World) : Prop := Line w' x b g n most h ∧ Kept [b, g] w w'

theorem line_new_no (most : Int) (w : World) (h : most < 0 ∨ 1024 < most) :
    Calls Try.prog 41 #[.int .i64 most] w fun e w' => e = .returned (.tuple #[.pointer none, .int .i64 1]) ∧ w = w' := by
  rcases h with h | h
  · go_enter Try.func41, Try.ntmps41
    go_wp2
    go_ret2
    exact ⟨rfl, rfl⟩
  · have h0 : ¬ most < 0 := by omega
    go_enter Try.func41, Try.ntmps41
    go_wp2
    go_ret2
    exact ⟨rfl, rfl⟩
theorem line_new_yes (most : Nat) (w : World) (h : most ≤ 1024) :
    Calls Try.prog 41 #[.int .i64 (most : Int)] w fun e w' => e = .returned (.tuple #[.pointer (some ⟨w.heap.size + 2, 0, none⟩), .int .i64 0]) ∧
      (∃ n, Line w' (w.heap.size + 2) (w.heap.size + 1) w.heap.size n most []) ∧ Below w.heap.size w w' ∧ w'.heap.size = w.heap.size + 3 := by
  have hlen := len_small most w h
  have hw : (most : Int) % 18446744073709551616 = (most : Int) := by omega
  have h0 : ¬ (most : Int) < 0 := by omega
  have h1 : ¬ (1024 : Int) < (most : Int) := by omega
  go_enter Try.func41, Try.ntmps41
  go_wp2_with (first
    | (go_at_call 53; ((with_reducible refine hlen.mono ?_); rintro e w1 ⟨⟨k, rfl, hk, hk11⟩, rfl⟩; have hnew := new_yes k (by omega) w))
    | (go_at_call 52; ((with_reducible refine hnew.mono ?_); rintro e w2 ⟨rfl, hR, hB, hz⟩)))
  go_ret2
  refine ⟨rfl, ⟨2 ^ k, ?_, ⟨0, _, by simpa using hR.alloc _⟩, h, hk, by omega⟩, hB.alloc (by omega) _, by simp [hz]⟩
  have h9 := Has.new w2 107 #[.pointer (some ⟨w.heap.size + 1, 0, none⟩), .int .i64 most]
  rw [hz] at h9
  exact h9

theorem line_ago (x b g n most : Nat) (h : List Int) (k : Int) (w : World) (L : Line w x b g n most h) (hk : k ≤ 9223372036854775807) :
    Calls Try.prog 63 #[.pointer (some ⟨x, 0, none⟩), .int .i64 k] w fun e w' => e = .returned (.int .i64 (agoTo most h k)) ∧ ∃ d, w' = w.drewN d := by
  obtain ⟨c0, c1⟩ := L.cells
  obtain ⟨f, cs, hR⟩ := L.ring
  have hc := hR.core.cells.2.2
  have hm := L.most_
  have hkl := kept_len most h
  by_cases h1 : k < 0 ∨ ((h.take (most + 1)).reverse.length : Int) ≤ k
  · have hb := back_no b _ k w h1 hk (by omega) hc
    rw [kept_far most h k h1]
    go_enter Try.func63, Try.ntmps63
    go_wp2_with (go_at_call 66; ((with_reducible refine hb.mono ?_); rintro e w' ⟨rfl, rfl⟩))
    go_ret
    exact ⟨rfl, 0, rfl⟩
  · obtain ⟨j, rfl⟩ : ∃ j : Nat, k = (j : Int) := ⟨k.toNat, by omega⟩
    have hj : j < (h.take (most + 1)).reverse.length := by omega
    have hb := back_yes b g n n f cs _ j w hR hj
    rw [kept_back most h j hj] at hb
    generalize agoTo most h j = v at *
    go_enter Try.func63, Try.ntmps63
    go_wp2_with (go_at_call 66; ((with_reducible refine hb.mono ?_); rintro e w' ⟨rfl, d, rfl⟩))
    go_ret
    exact ⟨rfl, d, rfl⟩

theorem line_come (x b g n most : Nat) (h : List Int) (v : Int) (w : World) (L : Line w x b g n most h) :
    Calls Try.prog 64 #[.pointer (some ⟨x, 0, none⟩), .int .i64 v] w fun e w' => e = .returned (.tuple #[]) ∧ LineBecame w x b g n most (v :: h) w' := by
  obtain ⟨c0, c1⟩ := L.cells
  obtain ⟨f, cs, hR⟩ := L.ring
  have hc := hR.core.cells.2.2
  have hm := L.most_
  have hn := L.room
  have hne := L.ne_
  have hl := L.lt_
  have hkl := kept_len most h
  have hpu := kept_push most h v
  have hlen := fun W (hW : Ring W b g n n f cs (h.take (most + 1)).reverse) => len_q b g n n f cs _ _ W hW rfl
  have put : ∀ W A f cs zs, A = W.heap.size → Ring W b g n n f cs zs → zs.length < n → Calls Try.prog 69 #[.pointer (some ⟨b, 0, none⟩), .slice (some ⟨A, 0, none⟩) 1 1] (W.alloc (.cells #[.int .i64 v] 2)) fun e w' => e = .returned (.int .i64 1) ∧
      ∃ f' cs', Ring w' b g n n f' cs' (zs ++ [v]) ∧ Turned b g W w' := fun W A f cs zs hA hW hz => by
    subst hA
    have hl := hW.core.lt_
    have hp := put_any b g n n f cs zs (some ⟨W.heap.size, 0, none⟩) 1 1 [v] _ (hW.alloc (.cells #[.int .i64 v] 2)) (Vals.has (ys := [v]) (tl := []) (Has.new W _ _)) (by omega) (by omega) (fun _ x hx => by cases hx; simp; omega)
    rw [show min 1 (n - zs.length) = 1 by omega, show zs ++ [v].take (n - zs.length) = zs ++ [v] by rw [List.take_of_length_le (by simp; omega)]] at hp
    refine hp.mono ?_
    rintro e w' ⟨rfl, cs', hR, hT⟩
    exact ⟨rfl, f, cs', hR, ((Turned.refl b g W).alloc _).trans hT⟩
  generalize hxs : (h.take (most + 1)).reverse = xs at *
  by_cases hf : most < xs.length
  · rw [if_pos hf] at hpu
    have hpop := fun W (hW : Ring W b g n n f cs xs) => pop_yes b g n n f cs xs W hW (by omega)
    have hdl : (xs.drop 1).length < n := by rw [List.length_drop]; omega
    have HPU := Lib.hid hpu
    clear hpu
    go_enter Try.func64, Try.ntmps64
    go_wp2
    go_quiet ((go_at_call 67; exact Calls.quiet_of (hlen _ (hR.same rfl))))
    go_wp2_with (first
      | (go_at_call 68; ((with_reducible refine (hpop _ (by exact hR.same rfl)).mono ?_); rintro e w1 ⟨rfl, cs1, hR1, hT1⟩; have c0' := (hT1.cell (p := ⟨x, 0, none⟩) hl.1 hne.1 hne.2).trans c0))
      | (go_at_call 69; ((with_reducible refine (put _ _ _ _ _ rfl hR1 hdl).mono ?_); rintro e w2 ⟨rfl, f2, cs2, hR2, hT2⟩)))
    go_end0
    exact ⟨rfl, ⟨(hT2.has (hT1.has L.head hne.1 hne.2) hne.1 hne.2), ⟨f2, cs2, by rw [HPU.out]; exact hR2⟩, hm, hn, hne⟩, Kept.of_turned ((Turned.refl b g w).drewN _ |>.trans hT1 |>.trans hT2)⟩
  · rw [if_neg hf] at hpu
    have hdl : xs.length < n := by omega
    have HPU := Lib.hid hpu
    clear hpu
    go_enter Try.func64, Try.ntmps64
    go_wp2
    go_quiet ((go_at_call 67; exact Calls.quiet_of (hlen _ (hR.same rfl))))
    go_wp2_with (go_at_call 69; ((with_reducible refine (put _ _ _ _ _ (by simp) (by exact hR.same rfl) hdl).mono ?_); rintro e w2 ⟨rfl, f2, cs2, hR2, hT2⟩))
    go_end0
    exact ⟨rfl, ⟨(hT2.has (by exact L.head) hne.1 hne.2), ⟨f2, cs2, by rw [HPU.out]; exact hR2⟩, hm, hn, hne⟩, Kept.of_turned ((Turned.refl b g w).drewN _ |>.trans hT2)⟩
end Go.Proofs.Ytpmjgomfjfhfkaa
