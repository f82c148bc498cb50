/- Whatever level and tops come in, LevelBetween answers true, and writes nothing that was there. -/
import Derived.Test.YthhjgdephhfdhaaRows
import Derived.ShutString
import Derived.ChangeOld
import Derived.Below
import Derived.Test.YthhjgdephhfdhaaLawKit
import Derived.Test.YthhjgdephhfdhaaLevelLive
import Derived.Test.YthhjgdephhfdhaaRegionTill
import Derived.Deep.DeepCutAuto
import Derived.Test.YthhjgdephhfdhaaFlat
set_option linter.unusedSimpArgs false
set_option linter.unusedVariables false
namespace Go.Proofs.Ythhjgdephhfdhaa.levelBetween
open Go.ChangeShapes Go.WideShapes Go.ChangeAt Go.RowKit
open Go.ChangeMaps (open_string shut_string)
open Level RI64
def cellsL (l : Lv) : Array Value := #[.int .i64 l.1, .int .i64 l.2]
/-- What stands between the operations that make three levels: which have come up, and what they left. -/
structure Bt (w0 : World) (l sg no ag : Lv) (t : Int) (b2 b3 b6 b7 b10 b11 b12 b13 b14 b15 b16 : Bool) (s32 s33 s36 s37 s40 s8 s9 s10 : Value) (p8 p9 p10 : Nat) (W : World) : Prop where
  box : Has W w0.heap.size 23 (cellsL l)
  below : Below w0.heap.size w0 W
  v2 : b2 = true → b3 = false → ∃ A, s32 = .slice A 1 1 ∧ Vals W A 1 [t]
  r3 : b3 = true → s33 = lvV sg
  v6 : b6 = true → b7 = false → ∃ A, s36 = .slice A 1 1 ∧ Vals W A 1 [t]
  r7 : b7 = true → s37 = lvV no
  r10 : b10 = true → s40 = lvV ag
  w3 : b7 = true → b3 = true
  w7 : b10 = true → b7 = true
  h8 : b11 = true → s8 = .pointer (some ⟨p8, 0, none⟩) ∧ w0.heap.size < p8 ∧ Has W p8 23 (cellsL (if b14 then sg else (0, 0)))
  h9 : b12 = true → s9 = .pointer (some ⟨p9, 0, none⟩) ∧ w0.heap.size < p9 ∧ Has W p9 23 (cellsL (if b15 then no else (0, 0)))
  h10 : b13 = true → s10 = .pointer (some ⟨p10, 0, none⟩) ∧ w0.heap.size < p10 ∧ Has W p10 23 (cellsL (if b16 then ag else (0, 0)))
  n89 : b11 = true → b12 = true → p8 ≠ p9
  n810 : b11 = true → b13 = true → p8 ≠ p10
  n910 : b12 = true → b13 = true → p9 ≠ p10
  w8 : b14 = true → b11 = true
  w9 : b15 = true → b12 = true
  w10 : b16 = true → b13 = true
section
variable {w0 W W' : World} {l sg no ag : Lv} {t : Int} {b2 b3 b6 b7 b10 b11 b12 b13 b14 b15 b16 : Bool} {s32 s33 s36 s37 s40 s8 s9 s10 : Value} {p8 p9 p10 : Nat}
theorem Bt.grow (h : Bt w0 l sg no ag t b2 b3 b6 b7 b10 b11 b12 b13 b14 b15 b16 s32 s33 s36 s37 s40 s8 s9 s10 p8 p9 p10 W) (hB : Below W.heap.size W W') : Bt w0 l sg no ag t b2 b3 b6 b7 b10 b11 b12 b13 b14 b15 b16 s32 s33 s36 s37 s40 s8 s9 s10 p8 p9 p10 W' where
  box := h.box.below hB h.box.lt
  below := h.below.trans (hB.mono h.below.size)
  v2 := fun e e' => by obtain ⟨A, h1, h2⟩ := h.v2 e e'; exact ⟨A, h1, h2.below hB⟩
  r3 := h.r3
  v6 := fun e e' => by obtain ⟨A, h1, h2⟩ := h.v6 e e'; exact ⟨A, h1, h2.below hB⟩
  r7 := h.r7
  r10 := h.r10
  w3 := h.w3
  w7 := h.w7
  h8 := fun e => by obtain ⟨h1, h2, h3⟩ := h.h8 e; exact ⟨h1, h2, h3.below hB h3.lt⟩
  h9 := fun e => by obtain ⟨h1, h2, h3⟩ := h.h9 e; exact ⟨h1, h2, h3.below hB h3.lt⟩
  h10 := fun e => by obtain ⟨h1, h2, h3⟩ := h.h10 e; exact ⟨h1, h2, h3.below hB h3.lt⟩
  n89 := h.n89
  n810 := h.n810
  n910 := h.n910
  w8 := h.w8
  w9 := h.w9
  w10 := h.w10
theorem Bt.al8 (h : Bt w0 l sg no ag t b2 b3 b6 b7 b10 b11 b12 b13 b14 b15 b16 s32 s33 s36 s37 s40 s8 s9 s10 p8 p9 p10 W) (h0 : b11 = false) : Bt w0 l sg no ag t b2 b3 b6 b7 b10 true b12 b13 false b15 b16 s32 s33 s36 s37 s40 (.pointer (some ⟨W.heap.size, 0, none⟩)) s9 s10 W.heap.size p9 p10 (W.alloc (.cells #[.int .i64 0, .int .i64 0] 23)) where
  box := h.box.alloc _
  below := h.below.alloc h.below.size _
  v2 := fun e e' => by obtain ⟨A, h1, h2⟩ := h.v2 e e'; exact ⟨A, h1, h2.alloc _⟩
  r3 := h.r3
  v6 := fun e e' => by obtain ⟨A, h1, h2⟩ := h.v6 e e'; exact ⟨A, h1, h2.alloc _⟩
  r7 := h.r7
  r10 := h.r10
  w3 := h.w3
  w7 := h.w7
  h8 := fun _ => ⟨rfl, h.box.lt, Has.new W _ _⟩
  h9 := fun e => by obtain ⟨h1, h2, h3⟩ := h.h9 e; exact ⟨h1, h2, h3.alloc _⟩
  h10 := fun e => by obtain ⟨h1, h2, h3⟩ := h.h10 e; exact ⟨h1, h2, h3.alloc _⟩
  n89 := fun _ e => by obtain ⟨h1, h2, h3⟩ := h.h9 e; have := h3.lt; omega
  n810 := fun _ e => by obtain ⟨h1, h2, h3⟩ := h.h10 e; have := h3.lt; omega
  n910 := h.n910
  w8 := fun e => by cases e
  w9 := h.w9
  w10 := h.w10
theorem Bt.al9 (h : Bt w0 l sg no ag t b2 b3 b6 b7 b10 b11 b12 b13 b14 b15 b16 s32 s33 s36 s37 s40 s8 s9 s10 p8 p9 p10 W) (h0 : b12 = false) : Bt w0 l sg no ag t b2 b3 b6 b7 b10 b11 true b13 b14 false b16 s32 s33 s36 s37 s40 s8 (.pointer (some ⟨W.heap.size, 0, none⟩)) s10 p8 W.heap.size p10 (W.alloc (.cells #[.int .i64 0, .int .i64 0] 23)) where
  box := h.box.alloc _
  below := h.below.alloc h.below.size _
  v2 := fun e e' => by obtain ⟨A, h1, h2⟩ := h.v2 e e'; exact ⟨A, h1, h2.alloc _⟩
  r3 := h.r3
  v6 := fun e e' => by obtain ⟨A, h1, h2⟩ := h.v6 e e'; exact ⟨A, h1, h2.alloc _⟩
  r7 := h.r7
  r10 := h.r10
  w3 := h.w3
  w7 := h.w7
  h8 := fun e => by obtain ⟨h1, h2, h3⟩ := h.h8 e; exact ⟨h1, h2, h3.alloc _⟩
  h9 := fun _ => ⟨rfl, h.box.lt, Has.new W _ _⟩
  h10 := fun e => by obtain ⟨h1, h2, h3⟩ := h.h10 e; exact ⟨h1, h2, h3.alloc _⟩
  n89 := fun e _ => by obtain ⟨h1, h2, h3⟩ := h.h8 e; have := h3.lt; omega
  n810 := h.n810
  n910 := fun _ e => by obtain ⟨h1, h2, h3⟩ := h.h10 e; have := h3.lt; omega
  w8 := h.w8
  w9 := fun e => by cases e
  w10 := h.w10
theorem Bt.al10 (h : Bt w0 l sg no ag t b2 b3 b6 b7 b10 b11 b12 b13 b14 b15 b16 s32 s33 s36 s37 s40 s8 s9 s10 p8 p9 p10 W) (h0 : b13 = false) : Bt w0 l sg no ag t b2 b3 b6 b7 b10 b11 b12 true b14 b15 false s32 s33 s36 s37 s40 s8 s9 (.pointer (some ⟨W.heap.size, 0, none⟩)) p8 p9 W.heap.size (W.alloc (.cells #[.int .i64 0, .int .i64 0] 23)) where
  box := h.box.alloc _
  below := h.below.alloc h.below.size _
  v2 := fun e e' => by obtain ⟨A, h1, h2⟩ := h.v2 e e'; exact ⟨A, h1, h2.alloc _⟩
  r3 := h.r3
  v6 := fun e e' => by obtain ⟨A, h1, h2⟩ := h.v6 e e'; exact ⟨A, h1, h2.alloc _⟩
  r7 := h.r7
  r10 := h.r10
  w3 := h.w3
  w7 := h.w7
  h8 := fun e => by obtain ⟨h1, h2, h3⟩ := h.h8 e; exact ⟨h1, h2, h3.alloc _⟩
  h9 := fun e => by obtain ⟨h1, h2, h3⟩ := h.h9 e; exact ⟨h1, h2, h3.alloc _⟩
  h10 := fun _ => ⟨rfl, h.box.lt, Has.new W _ _⟩
  n89 := h.n89
  n810 := fun e _ => by obtain ⟨h1, h2, h3⟩ := h.h8 e; have := h3.lt; omega
  n910 := fun e _ => by obtain ⟨h1, h2, h3⟩ := h.h9 e; have := h3.lt; omega
  w8 := h.w8
  w9 := h.w9
  w10 := fun e => by cases e
theorem Bt.st8 (h : Bt w0 l sg no ag t b2 b3 b6 b7 b10 b11 b12 b13 b14 b15 b16 s32 s33 s36 s37 s40 s8 s9 s10 p8 p9 p10 W) (h1 : b11 = true) (h3 : b3 = true) (h7 : b7 = true) : Bt w0 l sg no ag t b2 b3 b6 b7 b10 b11 b12 b13 true b15 b16 s32 s33 s36 s37 s40 s8 s9 s10 p8 p9 p10 ((W.setCell ⟨p8, 0, none⟩ (.int .i64 sg.1)).setCell ⟨p8, 1, none⟩ (.int .i64 sg.2)) where
  box := h.box.far2 (by have := (h.h8 h1).2.1; omega) _ _
  below := below_put2 h.below (Nat.le_of_lt (h.h8 h1).2.1) _ _
  v2 := fun _ e => by rw [h3] at e; cases e
  r3 := h.r3
  v6 := fun _ e => by rw [h7] at e; cases e
  r7 := h.r7
  r10 := h.r10
  w3 := h.w3
  w7 := h.w7
  h8 := fun e => by obtain ⟨g1, g2, g3⟩ := h.h8 e; exact ⟨g1, g2, by rw [if_pos rfl]; exact g3.put2 _ _⟩
  h9 := fun e => by obtain ⟨g1, g2, g3⟩ := h.h9 e; exact ⟨g1, g2, g3.far2 (h.n89 h1 e).symm _ _⟩
  h10 := fun e => by obtain ⟨g1, g2, g3⟩ := h.h10 e; exact ⟨g1, g2, g3.far2 (h.n810 h1 e).symm _ _⟩
  n89 := h.n89
  n810 := h.n810
  n910 := h.n910
  w8 := fun _ => h1
  w9 := h.w9
  w10 := h.w10
theorem Bt.st9 (h : Bt w0 l sg no ag t b2 b3 b6 b7 b10 b11 b12 b13 b14 b15 b16 s32 s33 s36 s37 s40 s8 s9 s10 p8 p9 p10 W) (h1 : b12 = true) (h3 : b3 = true) (h7 : b7 = true) : Bt w0 l sg no ag t b2 b3 b6 b7 b10 b11 b12 b13 b14 true b16 s32 s33 s36 s37 s40 s8 s9 s10 p8 p9 p10 ((W.setCell ⟨p9, 0, none⟩ (.int .i64 no.1)).setCell ⟨p9, 1, none⟩ (.int .i64 no.2)) where
  box := h.box.far2 (by have := (h.h9 h1).2.1; omega) _ _
  below := below_put2 h.below (Nat.le_of_lt (h.h9 h1).2.1) _ _
  v2 := fun _ e => by rw [h3] at e; cases e
  r3 := h.r3
  v6 := fun _ e => by rw [h7] at e; cases e
  r7 := h.r7
  r10 := h.r10
  w3 := h.w3
  w7 := h.w7
  h8 := fun e => by obtain ⟨g1, g2, g3⟩ := h.h8 e; exact ⟨g1, g2, g3.far2 (h.n89 e h1) _ _⟩
  h9 := fun e => by obtain ⟨g1, g2, g3⟩ := h.h9 e; exact ⟨g1, g2, by rw [if_pos rfl]; exact g3.put2 _ _⟩
  h10 := fun e => by obtain ⟨g1, g2, g3⟩ := h.h10 e; exact ⟨g1, g2, g3.far2 (h.n910 h1 e).symm _ _⟩
  n89 := h.n89
  n810 := h.n810
  n910 := h.n910
  w8 := h.w8
  w9 := fun _ => h1
  w10 := h.w10
theorem Bt.st10 (h : Bt w0 l sg no ag t b2 b3 b6 b7 b10 b11 b12 b13 b14 b15 b16 s32 s33 s36 s37 s40 s8 s9 s10 p8 p9 p10 W) (h1 : b13 = true) (h3 : b3 = true) (h7 : b7 = true) : Bt w0 l sg no ag t b2 b3 b6 b7 b10 b11 b12 b13 b14 b15 true s32 s33 s36 s37 s40 s8 s9 s10 p8 p9 p10 ((W.setCell ⟨p10, 0, none⟩ (.int .i64 ag.1)).setCell ⟨p10, 1, none⟩ (.int .i64 ag.2)) where
  box := h.box.far2 (by have := (h.h10 h1).2.1; omega) _ _
  below := below_put2 h.below (Nat.le_of_lt (h.h10 h1).2.1) _ _
  v2 := fun _ e => by rw [h3] at e; cases e
  r3 := h.r3
  v6 := fun _ e => by rw [h7] at e; cases e
  r7 := h.r7
  r10 := h.r10
  w3 := h.w3
  w7 := h.w7
  h8 := fun e => by obtain ⟨g1, g2, g3⟩ := h.h8 e; exact ⟨g1, g2, g3.far2 (h.n810 e h1) _ _⟩
  h9 := fun e => by obtain ⟨g1, g2, g3⟩ := h.h9 e; exact ⟨g1, g2, g3.far2 (h.n910 e h1) _ _⟩
  h10 := fun e => by obtain ⟨g1, g2, g3⟩ := h.h10 e; exact ⟨g1, g2, by rw [if_pos rfl]; exact g3.put2 _ _⟩
  n89 := h.n89
  n810 := h.n810
  n910 := h.n910
  w8 := h.w8
  w9 := h.w9
  w10 := fun _ => h1
end
/-- The frame and the world, wherever the region stands. -/
def Zb (F : Value → Value → Value → Value → Value → Value → Value → Value → Act) (w0 : World) (l sg no ag : Lv) (t : Int) (_ : Act) (L : Array Bool) (a : Act) (W : World) : Prop :=
  ∃ (b2 b3 b6 b7 b10 b11 b12 b13 b14 b15 b16 : Bool) (s32 s33 s36 s37 s40 s8 s9 s10 : Value) (p8 p9 p10 : Nat), L = #[true, true, b2, b3, true, true, b6, b7, true, true, b10, b11, b12, b13, b14, b15, b16] ∧ a = F s32 s33 s36 s37 s40 s8 s9 s10 ∧ Bt w0 l sg no ag t b2 b3 b6 b7 b10 b11 b12 b13 b14 b15 b16 s32 s33 s36 s37 s40 s8 s9 s10 p8 p9 p10 W
theorem between_k (a n b : Int) (w : World) (h : (a ≤ n ∨ b ≤ n) ∧ (n ≤ a ∨ n ≤ b)) :
    Calls Try.prog 23 #[.int .i64 a, .int .i64 n, .int .i64 b] w fun e w' => e = .returned (.bool true) ∧ w = w' := by
  obtain ⟨h1, h2⟩ := h
  by_cases hab : a < b
  · have h3 : a ≤ n := by omega
    have h4 : n ≤ b := by omega
    have e1 : ¬ b < a := by omega
    clear h1 h2
    go_enter Try.func23, Try.ntmps23
    go_wp2
    go_ret
    exact ⟨rfl, rfl⟩
  · have h3 : b ≤ n := by omega
    have h4 : n ≤ a := by omega
    clear h1 h2
    go_enter Try.func23, Try.ntmps23
    go_wp2
    all_goals
      go_ret
      exact ⟨rfl, rfl⟩
theorem near_mm (v : Int) : (if (0 : Int) < (if (62914560 : Int) < v then 62914560 else v) then (if (62914560 : Int) < v then 62914560 else v) else 0) = nearB v := by
  unfold nearB clampZ; repeat' split
  all_goals omega
set_option maxRecDepth 100000 in
set_option maxHeartbeats 2000000 in
theorem walk (z0 : Lv) (a1 : Option Addr) (len1 cap1 : Nat) (z1 : List Int) (w : World) (w0 : AnyLv z0) (w1 : IsRow .i64 w a1 len1 cap1 z1) :
    Calls Try.prog 5 #[lvV z0, .slice a1 len1 cap1] w fun e w' => e = .returned (.bool true) ∧ Below w.heap.size w w' := by
  clear w0
  obtain ⟨a, b⟩ := z0
  rw [show lvV (a, b) = .agg #[.int .i64 a, .int .i64 b] from rfl]
  obtain ⟨p, hp⟩ : ∃ p, min len1 50 = p := ⟨_, rfl⟩
  have hp1 : p ≤ len1 := by omega
  have hp2 : p ≤ 50 := by omega
  have hminA : (if (50 : Int) < (len1 : Int) then (50 : Int) else (len1 : Int)) = (p : Int) := by split <;> omega
  obtain ⟨hV0, hc1, hc2, hltb⟩ := row_vals w1 p hp1
  have hp3 : p ≤ cap1 := by omega
  generalize z1.take p = ts at *
  clear w1 hp hltb
  have hno := fun W => noise_any none 0 0 [] a b W (Vals.none_ W) (by omega)
  have hsi := fun W => signal_any none 0 0 [] (nearB a) (nearB b) W (Vals.none_ W) (by omega)
  rw [show lvV (noiseT (a, b) []) = .agg #[.int .i64 (nearB a), .int .i64 (nearB b)] from rfl] at hno
  rw [show lvV (signalT (nearB a, nearB b) []) = .agg #[.int .i64 (nearB (nearB a)), .int .i64 (nearB (nearB b))] from rfl, nearB_two, nearB_two] at hsi
  have hma := fun W => may_any (nearB a) (nearB b) W
  rw [nearB_two, nearB_two, show (decide (nearB a = nearB a) && decide (nearB b = nearB b)) = true by simp] at hma
  have ha := nearB_bd a
  have hb := nearB_bd b
  generalize nearB a = s0 at *
  generalize nearB b = n0 at *
  have hB0 := (Below.refl w.heap.size w).alloc (Nat.le_refl _) (.cells #[.int .i64 a, .int .i64 b] 23)
  have hH0 := Has.new w 23 #[.int .i64 a, .int .i64 b]
  have c0 := hH0.cell 0
  have c1 := hH0.cell 1
  go_enter Try.func5, Try.ntmps5
  go_wp2_with (first
    | (go_at_call 12; (go_must (refine Calls.mono (by exact hno _) ?_); rintro e W1 ⟨rfl, hBx⟩; have hB1 := hB0.trans (hBx.mono hB0.size); have hH1 := hH0.below hBx hH0.lt))
    | (go_at_call 10; (go_must (refine Calls.mono (by exact hsi _) ?_); rintro e W2 ⟨rfl, hBy⟩; have hB2 := hB1.trans (hBy.mono hB1.size); have hH2 := hH1.below hBy hH1.lt; have hH3 := Has.put2 hH2 (.int .i64 s0) (.int .i64 n0); have hB3 := below_put2 hB2 (Nat.le_refl _) (.int .i64 s0) (.int .i64 n0); have d0 := hH2.cell 0; have d1 := hH2.cell 1; have f0 := hH2.frozen 0; have f1 := hH2.frozen 1; have e0 := hH3.cell 0; have e1 := hH3.cell 1))
    | (go_at_call 21; (go_must (refine Calls.mono (by exact hma _) ?_); rintro e W4 ⟨rfl, hBz⟩; have hB4 := hB3.trans (hBz.mono hB3.size); have hH4 := hH3.below hBz hH3.lt)))
  clear hBx hBy hBz hB0 hH0 hB1 hH1 hB2 hH2 hB3 hH3 c0 c1 d0 d1 f0 f1 e0 e1 hno hsi hma hminA
  go_loopw [23] (fun i wr => ∃ (j : Nat) (s n : Int), j ≤ p ∧ i = .int .i64 (j : Nat) ∧ (0 ≤ s ∧ s ≤ 62914560) ∧ (0 ≤ n ∧ n ≤ 62914560) ∧ Has wr w.heap.size 23 #[.int .i64 s, .int .i64 n] ∧ Below w.heap.size w wr) (fun i _ => p - (intOf i).toNat)
  case atStart => exact ⟨0, s0, n0, by omega, rfl, ha, hb, hH4, hB4⟩
  case round =>
    clear hH4 hB4
    obtain ⟨j, s, n, hj, rfl, hs, hn, hH, hB⟩ := hrel
    by_cases hjp : j < p
    · have hjz : (j : Int) < (p : Int) := by omega
      obtain ⟨x, rfl, hcx⟩ := (hV0.below hB).cells (by omega)
      have hcell := hcx j hjp
      clear hcx
      generalize ts.getD j 0 = v at *
      have hmm := near_mm v
      obtain ⟨m, hm⟩ : ∃ m, (if (62914560 : Int) < v then (62914560 : Int) else v) = m := ⟨_, rfl⟩
      rw [hm] at hmm
      have hsg := fun A W hV => signal_any A 1 1 [v] s n W hV (by omega)
      have hns := fun A W hV => noise_any A 1 1 [v] s n W hV (by omega)
      have hag := fun W => again_any v s n W
      rw [show signalT (s, n) [v] = (goes s (nearB v) 8, n) by unfold signalT; rw [follow_one, nearB_in s hs, nearB_in n hn]] at hsg
      rw [show noiseT (s, n) [v] = (s, goes n (nearB v) 8) by unfold noiseT; rw [follow_one, nearB_in s hs, nearB_in n hn]] at hns
      rw [show againT (s, n) v = (goes s (nearB v) 4, n) by unfold againT; rw [nearB_in s hs, nearB_in n hn]] at hag
      have hvb := nearB_bd v
      have k1 := fun W => between_k s (goes s (nearB v) 8) (nearB v) W (goes_between s (nearB v) 8 (.inl rfl))
      have k2 := fun W => between_k n (goes n (nearB v) 8) (nearB v) W (goes_between n (nearB v) 8 (.inl rfl))
      have k3 := fun W => between_k s (goes s (nearB v) 4) (nearB v) W (goes_between s (nearB v) 4 (.inr rfl))
      have g1 := goes_bd s (nearB v) 8 (.inl rfl) hs hvb
      have g2 := goes_bd n (nearB v) 8 (.inl rfl) hn hvb
      have m1 := fun W => may_any (goes s (nearB v) 8) n W
      have m2 := fun W => may_any s (goes n (nearB v) 8) W
      rw [nearB_in _ g1, nearB_in n hn, show (decide (goes s (nearB v) 8 = goes s (nearB v) 8) && decide (n = n)) = true by simp] at m1
      rw [nearB_in _ g2, nearB_in s hs, show (decide (s = s) && decide (goes n (nearB v) 8 = goes n (nearB v) 8)) = true by simp] at m2
      generalize goes s (nearB v) 8 = s' at *
      generalize goes n (nearB v) 8 = n' at *
      generalize goes s (nearB v) 4 = r at *
      generalize nearB v = t at *
      have c0 := hH.cell 0
      have c1 := hH.cell 1
      go_wp2
      have hHd := hH.drew
      have hBd : Below w.heap.size w wr.drew := below_drewN hB 1
      clear hcell hH hB c0 c1
      refine Till.begin_ (T := []) (S := fun W => W.cell? ⟨w.heap.size, 0, none⟩ = some (.int .i64 s) ∧ W.cell? ⟨w.heap.size, 1, none⟩ = some (.int .i64 n)) (by kernel_rfl) (by exact ⟨hHd.cell 0, hHd.cell 1⟩) (fun hHeld => ?_)
      refine Till.take (i := 0) (v := ?v1) rfl (by kernel_rfl) (by kernel_rfl) (by kernel_rfl) (by kernel_rfl) (by rfl) ?hv1 (by assumption) ?rest1
      case hv1 => first | (intro w hSw; (try dsimp only at hSw); go_simp; done) | (intro w hSw; (try dsimp only at hSw); go_simp; with_reducible rfl)
      (try simp only [Act.put, List.setIfInBounds_toArray, List.set_cons_zero, List.set_cons_succ])
      refine Till.take (i := 1) (v := ?v2) rfl (by kernel_rfl) (by kernel_rfl) (by kernel_rfl) (by kernel_rfl) (by rfl) ?hv2 (by assumption) ?rest2
      case hv2 => first | (intro w hSw; (try dsimp only at hSw); go_simp; done) | (intro w hSw; (try dsimp only at hSw); go_simp; with_reducible rfl)
      (try simp only [Act.put, List.setIfInBounds_toArray, List.set_cons_zero, List.set_cons_succ])
      refine Till.take (i := 4) (v := ?v3) rfl (by kernel_rfl) (by kernel_rfl) (by kernel_rfl) (by kernel_rfl) (by rfl) ?hv3 (by assumption) ?rest3
      case hv3 => first | (intro w hSw; (try dsimp only at hSw); go_simp; done) | (intro w hSw; (try dsimp only at hSw); go_simp; with_reducible rfl)
      (try simp only [Act.put, List.setIfInBounds_toArray, List.set_cons_zero, List.set_cons_succ])
      refine Till.take (i := 5) (v := ?v4) rfl (by kernel_rfl) (by kernel_rfl) (by kernel_rfl) (by kernel_rfl) (by rfl) ?hv4 (by assumption) ?rest4
      case hv4 => first | (intro w hSw; (try dsimp only at hSw); go_simp; done) | (intro w hSw; (try dsimp only at hSw); go_simp; with_reducible rfl)
      (try simp only [Act.put, List.setIfInBounds_toArray, List.set_cons_zero, List.set_cons_succ])
      refine Till.take (i := 8) (v := ?v5) rfl (by kernel_rfl) (by kernel_rfl) (by kernel_rfl) (by kernel_rfl) (by rfl) ?hv5 (by assumption) ?rest5
      case hv5 => first | (intro w hSw; (try dsimp only at hSw); go_simp; done) | (intro w hSw; (try dsimp only at hSw); go_simp; with_reducible rfl)
      (try simp only [Act.put, List.setIfInBounds_toArray, List.set_cons_zero, List.set_cons_succ])
      refine Till.take (i := 9) (v := ?v6) rfl (by kernel_rfl) (by kernel_rfl) (by kernel_rfl) (by kernel_rfl) (by rfl) ?hv6 (by assumption) ?rest6
      case hv6 => first | (intro w hSw; (try dsimp only at hSw); go_simp; done) | (intro w hSw; (try dsimp only at hSw); go_simp; with_reducible rfl)
      (try simp only [Act.put, List.setIfInBounds_toArray, List.set_cons_zero, List.set_cons_succ])
      clear hHeld
      generalize wr.drew = W5 at *
      obtain ⟨F, hF⟩ : ∃ F : Value → Value → Value → Value → Value → Value → Value → Value → Act, F = fun s32 s33 s36 s37 s40 s8 s9 s10 => { tmps := #[.agg #[.int .i64 a, .int .i64 b], .slice (some x) len1 cap1, .pointer (some ⟨w.heap.size, 0, none⟩), undef, u4, undef, .int .i64 v, .int .i64 t, s8, s9, s10, .agg #[.int .i64 a, .int .i64 b], .agg #[.int .i64 s0, .int .i64 n0], .agg #[.int .i64 s0, .int .i64 n0], .agg #[.int .i64 s0, .int .i64 n0], .bool true, .bool false, .slice (some x) len1 cap1, .slice (some x) len1 cap1, .int .i64 (len1 : Nat), .int .i64 (p : Nat), .slice (some x) p cap1, .int .i64 (p : Nat), .int .i64 (j : Nat), .bool true, .pointer (some (x.add j)), .int .i64 v, .int .i64 v, .int .i64 m, .int .i64 t, .agg #[.int .i64 s, .int .i64 n], .int .i64 v, s32, s33, .agg #[.int .i64 s, .int .i64 n], .int .i64 v, s36, s37, .agg #[.int .i64 s, .int .i64 n], .int .i64 v, s40, u41, u42, u43, u44, u45, u46, u47, u48, u49, u50, u51, u52, u53, u54, u55, u56, u57, u58, u59, u60, u61, u62, u63, u64, u65, u66, u67, u68, u69, u70, u71, u72, u73, u74, u75, u76, u77, u78, u79, u80, u81, u82, u83, u84, u85, u86, u87, u88, u89, u90, u91, u92, u93, u94, u95, u96, u97, u98, u99, u100, u101, u102, undef], defers := [] } := ⟨_, rfl⟩
      refine Till.walk_ (Zb F w (s, n) (s', n) (s, n') (r, n) v) (by kernel_rfl) (by kernel_rfl) (Nat.le_of_ble_eq_true (by kernel_rfl)) ?_ ?_ ?_
      · exact ⟨false, false, false, false, false, false, false, false, false, false, false, u32, u33, u36, u37, u40, u8, u9, u10, 0, 0, 0, by kernel_rfl, by rw [hF], ⟨hHd, hBd, (fun e => by cases e), (fun e => by cases e), (fun e => by cases e), (fun e => by cases e), (fun e => by cases e), (fun e => by cases e), (fun e => by cases e), (fun e => by cases e), (fun e => by cases e), (fun e => by cases e), (fun e => by cases e), (fun e => by cases e), (fun e => by cases e), (fun e => by cases e), (fun e => by cases e), (fun e => by cases e)⟩⟩
      · refine ⟨?_, ?_, ?_, ?_, ?_, ?_, ?_, ?_, ?_, ?_, ?_, ?_, ?_, ?_, ?_, ?_, ?_, trivial⟩
        · intro L a W hZ hun hall K hK
          obtain ⟨b2, b3, b6, b7, b10, b11, b12, b13, b14, b15, b16, s32, s33, s36, s37, s40, s8, s9, s10, p8, p9, p10, rfl, rfl, hB⟩ := hZ
          exact absurd hun (by simp)
        · intro L a W hZ hun hall K hK
          obtain ⟨b2, b3, b6, b7, b10, b11, b12, b13, b14, b15, b16, s32, s33, s36, s37, s40, s8, s9, s10, p8, p9, p10, rfl, rfl, hB⟩ := hZ
          exact absurd hun (by simp)
        · intro L a W hZ hun hall K hK
          obtain ⟨b2, b3, b6, b7, b10, b11, b12, b13, b14, b15, b16, s32, s33, s36, s37, s40, s8, s9, s10, p8, p9, p10, rfl, rfl, hB⟩ := hZ
          have e0 : b2 = false := by simpa using hun
          clear hun hall hV0 hmm hm hvb hs hn k1 k2 k3 m1 m2 g1 g2 hHd hBd hjz
          rw [hF]
          refine ⟨rfl, ?_⟩
          subst e0
          have hB1 := hB.grow ((Below.refl _ W).alloc (Nat.le_refl _) (.cells #[.int .i64 v] 2))
          have hV : Vals (W.alloc (.cells #[.int .i64 v] 2)) (some ⟨W.heap.size, 0, none⟩) 1 [v] := Vals.has (ys := [v]) (tl := []) (Has.new W _ _)
          go_simp
          refine hK.out _ _ (fun _ => ⟨hB1.box.cell 0, hB1.box.cell 1⟩) ⟨true, b3, b6, b7, b10, b11, b12, b13, b14, b15, b16, .slice (some ⟨W.heap.size, 0, none⟩) 1 1, s33, s36, s37, s40, s8, s9, s10, p8, p9, p10, rfl, by rw [hF], ?_⟩
          exact { hB1 with v2 := fun _ _ => ⟨_, rfl, hV⟩ }
        · intro L a W hZ hun hall K hK
          obtain ⟨b2, b3, b6, b7, b10, b11, b12, b13, b14, b15, b16, s32, s33, s36, s37, s40, s8, s9, s10, p8, p9, p10, rfl, rfl, hB⟩ := hZ
          have e0 : b3 = false := by simpa using hun
          have eb2 : b2 = true := by simpa using hall ⟨2, .data⟩ (by simp) rfl
          clear hun hall hV0 hmm hm hvb hs hn k1 k2 k3 m1 m2 g1 g2 hHd hBd hjz
          rw [hF]
          refine ⟨rfl, ?_⟩
          subst e0
          obtain ⟨A, rfl, hV⟩ := hB.v2 eb2 rfl
          go_simp
          go_at_call 10
          refine Calls.mono (by exact hsg _ _ hV) ?_
          rintro e W1 ⟨rfl, hBx⟩
          have hB1 := hB.grow hBx
          refine hK.out _ _ (fun _ => ⟨hB1.box.cell 0, hB1.box.cell 1⟩) ⟨b2, true, b6, b7, b10, b11, b12, b13, b14, b15, b16, .slice A 1 1, lvV (s', n), s36, s37, s40, s8, s9, s10, p8, p9, p10, rfl, by rw [hF], ?_⟩
          exact { hB1 with v2 := fun _ e => (by cases e), r3 := fun _ => rfl, w3 := fun _ => rfl }
        · intro L a W hZ hun hall K hK
          obtain ⟨b2, b3, b6, b7, b10, b11, b12, b13, b14, b15, b16, s32, s33, s36, s37, s40, s8, s9, s10, p8, p9, p10, rfl, rfl, hB⟩ := hZ
          exact absurd hun (by simp)
        · intro L a W hZ hun hall K hK
          obtain ⟨b2, b3, b6, b7, b10, b11, b12, b13, b14, b15, b16, s32, s33, s36, s37, s40, s8, s9, s10, p8, p9, p10, rfl, rfl, hB⟩ := hZ
          exact absurd hun (by simp)
        · intro L a W hZ hun hall K hK
          obtain ⟨b2, b3, b6, b7, b10, b11, b12, b13, b14, b15, b16, s32, s33, s36, s37, s40, s8, s9, s10, p8, p9, p10, rfl, rfl, hB⟩ := hZ
          have e0 : b6 = false := by simpa using hun
          clear hun hall hV0 hmm hm hvb hs hn k1 k2 k3 m1 m2 g1 g2 hHd hBd hjz
          rw [hF]
          refine ⟨rfl, ?_⟩
          subst e0
          have hB1 := hB.grow ((Below.refl _ W).alloc (Nat.le_refl _) (.cells #[.int .i64 v] 2))
          have hV : Vals (W.alloc (.cells #[.int .i64 v] 2)) (some ⟨W.heap.size, 0, none⟩) 1 [v] := Vals.has (ys := [v]) (tl := []) (Has.new W _ _)
          go_simp
          refine hK.out _ _ (fun _ => ⟨hB1.box.cell 0, hB1.box.cell 1⟩) ⟨b2, b3, true, b7, b10, b11, b12, b13, b14, b15, b16, s32, s33, .slice (some ⟨W.heap.size, 0, none⟩) 1 1, s37, s40, s8, s9, s10, p8, p9, p10, rfl, by rw [hF], ?_⟩
          exact { hB1 with v6 := fun _ _ => ⟨_, rfl, hV⟩ }
        · intro L a W hZ hun hall K hK
          obtain ⟨b2, b3, b6, b7, b10, b11, b12, b13, b14, b15, b16, s32, s33, s36, s37, s40, s8, s9, s10, p8, p9, p10, rfl, rfl, hB⟩ := hZ
          have e0 : b7 = false := by simpa using hun
          have eb6 : b6 = true := by simpa using hall ⟨6, .data⟩ (by simp) rfl
          have eb3 : b3 = true := by simpa using hall ⟨3, .chain⟩ (by simp) rfl
          clear hun hall hV0 hmm hm hvb hs hn k1 k2 k3 m1 m2 g1 g2 hHd hBd hjz
          rw [hF]
          refine ⟨rfl, ?_⟩
          subst e0
          obtain ⟨A, rfl, hV⟩ := hB.v6 eb6 rfl
          go_simp
          go_at_call 12
          refine Calls.mono (by exact hns _ _ hV) ?_
          rintro e W1 ⟨rfl, hBx⟩
          have hB1 := hB.grow hBx
          refine hK.out _ _ (fun _ => ⟨hB1.box.cell 0, hB1.box.cell 1⟩) ⟨b2, b3, b6, true, b10, b11, b12, b13, b14, b15, b16, s32, s33, .slice A 1 1, lvV (s, n'), s40, s8, s9, s10, p8, p9, p10, rfl, by rw [hF], ?_⟩
          exact { hB1 with v6 := fun _ e => (by cases e), r7 := fun _ => rfl, w3 := fun _ => eb3, w7 := fun _ => rfl }
        · intro L a W hZ hun hall K hK
          obtain ⟨b2, b3, b6, b7, b10, b11, b12, b13, b14, b15, b16, s32, s33, s36, s37, s40, s8, s9, s10, p8, p9, p10, rfl, rfl, hB⟩ := hZ
          exact absurd hun (by simp)
        · intro L a W hZ hun hall K hK
          obtain ⟨b2, b3, b6, b7, b10, b11, b12, b13, b14, b15, b16, s32, s33, s36, s37, s40, s8, s9, s10, p8, p9, p10, rfl, rfl, hB⟩ := hZ
          exact absurd hun (by simp)
        · intro L a W hZ hun hall K hK
          obtain ⟨b2, b3, b6, b7, b10, b11, b12, b13, b14, b15, b16, s32, s33, s36, s37, s40, s8, s9, s10, p8, p9, p10, rfl, rfl, hB⟩ := hZ
          have e0 : b10 = false := by simpa using hun
          have eb7 : b7 = true := by simpa using hall ⟨7, .chain⟩ (by simp) rfl
          clear hun hall hV0 hmm hm hvb hs hn k1 k2 k3 m1 m2 g1 g2 hHd hBd hjz
          rw [hF]
          refine ⟨rfl, ?_⟩
          subst e0
          go_simp
          go_at_call 14
          refine Calls.mono (by exact hag _) ?_
          rintro e W1 ⟨rfl, hBx⟩
          have hB1 := hB.grow hBx
          refine hK.out _ _ (fun _ => ⟨hB1.box.cell 0, hB1.box.cell 1⟩) ⟨b2, b3, b6, b7, true, b11, b12, b13, b14, b15, b16, s32, s33, s36, s37, lvV (r, n), s8, s9, s10, p8, p9, p10, rfl, by rw [hF], ?_⟩
          exact { hB1 with r10 := fun _ => rfl, w7 := fun _ => eb7 }
        · intro L a W hZ hun hall K hK
          obtain ⟨b2, b3, b6, b7, b10, b11, b12, b13, b14, b15, b16, s32, s33, s36, s37, s40, s8, s9, s10, p8, p9, p10, rfl, rfl, hB⟩ := hZ
          have e0 : b11 = false := by simpa using hun
          clear hun hall hV0 hmm hm hvb hs hn k1 k2 k3 m1 m2 g1 g2 hHd hBd hjz
          rw [hF]
          refine ⟨rfl, ?_⟩
          have hB1 := hB.al8 e0
          have e1 : b14 = false := by cases h9 : b14 with | false => rfl | true => exact absurd ((hB.w8 h9).symm.trans e0) (by simp)
          subst e1
          go_simp
          refine hK.out _ _ (fun _ => ⟨hB1.box.cell 0, hB1.box.cell 1⟩) ⟨b2, b3, b6, b7, b10, true, b12, b13, false, b15, b16, s32, s33, s36, s37, s40, .pointer (some ⟨W.heap.size, 0, none⟩), s9, s10, W.heap.size, p9, p10, rfl, by rw [hF], ?_⟩
          exact hB1
        · intro L a W hZ hun hall K hK
          obtain ⟨b2, b3, b6, b7, b10, b11, b12, b13, b14, b15, b16, s32, s33, s36, s37, s40, s8, s9, s10, p8, p9, p10, rfl, rfl, hB⟩ := hZ
          have e0 : b12 = false := by simpa using hun
          clear hun hall hV0 hmm hm hvb hs hn k1 k2 k3 m1 m2 g1 g2 hHd hBd hjz
          rw [hF]
          refine ⟨rfl, ?_⟩
          have hB1 := hB.al9 e0
          have e1 : b15 = false := by cases h9 : b15 with | false => rfl | true => exact absurd ((hB.w9 h9).symm.trans e0) (by simp)
          subst e1
          go_simp
          refine hK.out _ _ (fun _ => ⟨hB1.box.cell 0, hB1.box.cell 1⟩) ⟨b2, b3, b6, b7, b10, b11, true, b13, b14, false, b16, s32, s33, s36, s37, s40, s8, .pointer (some ⟨W.heap.size, 0, none⟩), s10, p8, W.heap.size, p10, rfl, by rw [hF], ?_⟩
          exact hB1
        · intro L a W hZ hun hall K hK
          obtain ⟨b2, b3, b6, b7, b10, b11, b12, b13, b14, b15, b16, s32, s33, s36, s37, s40, s8, s9, s10, p8, p9, p10, rfl, rfl, hB⟩ := hZ
          have e0 : b13 = false := by simpa using hun
          clear hun hall hV0 hmm hm hvb hs hn k1 k2 k3 m1 m2 g1 g2 hHd hBd hjz
          rw [hF]
          refine ⟨rfl, ?_⟩
          have hB1 := hB.al10 e0
          have e1 : b16 = false := by cases h9 : b16 with | false => rfl | true => exact absurd ((hB.w10 h9).symm.trans e0) (by simp)
          subst e1
          go_simp
          refine hK.out _ _ (fun _ => ⟨hB1.box.cell 0, hB1.box.cell 1⟩) ⟨b2, b3, b6, b7, b10, b11, b12, true, b14, b15, false, s32, s33, s36, s37, s40, s8, s9, .pointer (some ⟨W.heap.size, 0, none⟩), p8, p9, W.heap.size, rfl, by rw [hF], ?_⟩
          exact hB1
        · intro L a W hZ hun hall K hK
          obtain ⟨b2, b3, b6, b7, b10, b11, b12, b13, b14, b15, b16, s32, s33, s36, s37, s40, s8, s9, s10, p8, p9, p10, rfl, rfl, hB⟩ := hZ
          have e0 : b14 = false := by simpa using hun
          have eb10 : b10 = true := by simpa using hall ⟨10, .chain⟩ (by simp) rfl
          have eb11 : b11 = true := by simpa using hall ⟨11, .data⟩ (by simp) rfl
          clear hun hall hV0 hmm hm hvb hs hn k1 k2 k3 m1 m2 g1 g2 hHd hBd hjz
          rw [hF]
          refine ⟨rfl, ?_⟩
          have eb7 := hB.w7 eb10
          have eb3 := hB.w3 eb7
          obtain ⟨rfl, hgt, hH⟩ := hB.h8 eb11
          obtain rfl := hB.r3 eb3
          have hB1 := hB.st8 eb11 eb3 eb7
          subst e0
          have c0 : W.cell? ⟨p8, 0, none⟩ = some (.int .i64 0) := hH.cell 0
          have c1 : W.cell? ⟨p8, 1, none⟩ = some (.int .i64 0) := hH.cell 1
          have f0 := hH.frozen 0
          have f1 := hH.frozen 1
          unfold lvV
          go_simp
          refine hK.out _ _ (fun _ => ⟨hB1.box.cell 0, hB1.box.cell 1⟩) ⟨b2, b3, b6, b7, b10, b11, b12, b13, true, b15, b16, s32, lvV (s', n), s36, s37, s40, .pointer (some ⟨p8, 0, none⟩), s9, s10, p8, p9, p10, rfl, by rw [hF]; exact rfl, ?_⟩
          exact hB1
        · intro L a W hZ hun hall K hK
          obtain ⟨b2, b3, b6, b7, b10, b11, b12, b13, b14, b15, b16, s32, s33, s36, s37, s40, s8, s9, s10, p8, p9, p10, rfl, rfl, hB⟩ := hZ
          have e0 : b15 = false := by simpa using hun
          have eb7 : b7 = true := by simpa using hall ⟨7, .data⟩ (by simp) rfl
          have eb12 : b12 = true := by simpa using hall ⟨12, .data⟩ (by simp) rfl
          clear hun hall hV0 hmm hm hvb hs hn k1 k2 k3 m1 m2 g1 g2 hHd hBd hjz
          rw [hF]
          refine ⟨rfl, ?_⟩
          have eb3 := hB.w3 eb7
          obtain ⟨rfl, hgt, hH⟩ := hB.h9 eb12
          obtain rfl := hB.r7 eb7
          have hB1 := hB.st9 eb12 eb3 eb7
          subst e0
          have c0 : W.cell? ⟨p9, 0, none⟩ = some (.int .i64 0) := hH.cell 0
          have c1 : W.cell? ⟨p9, 1, none⟩ = some (.int .i64 0) := hH.cell 1
          have f0 := hH.frozen 0
          have f1 := hH.frozen 1
          unfold lvV
          go_simp
          refine hK.out _ _ (fun _ => ⟨hB1.box.cell 0, hB1.box.cell 1⟩) ⟨b2, b3, b6, b7, b10, b11, b12, b13, b14, true, b16, s32, s33, s36, lvV (s, n'), s40, s8, .pointer (some ⟨p9, 0, none⟩), s10, p8, p9, p10, rfl, by rw [hF]; exact rfl, ?_⟩
          exact hB1
        · intro L a W hZ hun hall K hK
          obtain ⟨b2, b3, b6, b7, b10, b11, b12, b13, b14, b15, b16, s32, s33, s36, s37, s40, s8, s9, s10, p8, p9, p10, rfl, rfl, hB⟩ := hZ
          have e0 : b16 = false := by simpa using hun
          have eb10 : b10 = true := by simpa using hall ⟨10, .data⟩ (by simp) rfl
          have eb13 : b13 = true := by simpa using hall ⟨13, .data⟩ (by simp) rfl
          clear hun hall hV0 hmm hm hvb hs hn k1 k2 k3 m1 m2 g1 g2 hHd hBd hjz
          rw [hF]
          refine ⟨rfl, ?_⟩
          have eb7 := hB.w7 eb10
          have eb3 := hB.w3 eb7
          obtain ⟨rfl, hgt, hH⟩ := hB.h10 eb13
          obtain rfl := hB.r10 eb10
          have hB1 := hB.st10 eb13 eb3 eb7
          subst e0
          have c0 : W.cell? ⟨p10, 0, none⟩ = some (.int .i64 0) := hH.cell 0
          have c1 : W.cell? ⟨p10, 1, none⟩ = some (.int .i64 0) := hH.cell 1
          have f0 := hH.frozen 0
          have f1 := hH.frozen 1
          unfold lvV
          go_simp
          refine hK.out _ _ (fun _ => ⟨hB1.box.cell 0, hB1.box.cell 1⟩) ⟨b2, b3, b6, b7, b10, b11, b12, b13, b14, b15, true, s32, s33, s36, s37, lvV (r, n), s8, s9, .pointer (some ⟨p10, 0, none⟩), p8, p9, p10, rfl, by rw [hF]; exact rfl, ?_⟩
          exact hB1
      · intro L a W hZ hall
        obtain ⟨b2, b3, b6, b7, b10, b11, b12, b13, b14, b15, b16, s32, s33, s36, s37, s40, s8, s9, s10, p8, p9, p10, rfl, rfl, hB⟩ := hZ
        have e11 : b11 = true := by simpa using hall 11 (by decide)
        have e12 : b12 = true := by simpa using hall 12 (by decide)
        have e13 : b13 = true := by simpa using hall 13 (by decide)
        have e14 : b14 = true := by simpa using hall 14 (by decide)
        have e15 : b15 = true := by simpa using hall 15 (by decide)
        have e16 : b16 = true := by simpa using hall 16 (by decide)
        obtain ⟨rfl, h81, h82⟩ := hB.h8 e11
        obtain ⟨rfl, h91, h92⟩ := hB.h9 e12
        obtain ⟨rfl, h101, h102⟩ := hB.h10 e13
        rw [if_pos e14] at h82
        rw [if_pos e15] at h92
        rw [if_pos e16] at h102
        have hbox := hB.box
        have hbel := hB.below
        clear hB hall e11 e12 e13 e14 e15 e16 hHd hBd hsg hns hag
        rw [hF]
        clear hF F
        unfold cellsL at *
        refine NoPanic.normal ?_
        have c0 := hbox.cell 0
        have c1 := hbox.cell 1
        have d0 := h82.cell 0
        have d1 := h82.cell 1
        have d2 := h92.cell 0
        have d3 := h92.cell 1
        have d4 := h102.cell 0
        have d5 := h102.cell 1
        go_wp2_with (first
          | (go_at_call 23; ((with_reducible refine (k1 _).mono ?_); rintro e X1 ⟨rfl, rfl⟩))
          | (go_at_call 23; ((with_reducible refine (k2 _).mono ?_); rintro e X2 ⟨rfl, rfl⟩))
          | (go_at_call 23; ((with_reducible refine (k3 _).mono ?_); rintro e X3 ⟨rfl, rfl⟩))
          | (go_at_call 21; ((with_reducible refine (m1 _).mono ?_); rintro e X4 ⟨rfl, hBx⟩; have q2 := (h92.below hBx h92.lt).cell 0; have q3 := (h92.below hBx h92.lt).cell 1; have h9x := h92.below hBx h92.lt; have h8x := h82.below hBx h82.lt; have hbx := hbox.below hBx hbox.lt; have hbelx := hbel.trans (hBx.mono hbel.size); clear hBx))
          | (go_at_call 21; ((with_reducible refine (m2 _).mono ?_); rintro e X5 ⟨rfl, hBy⟩; have h9y := h9x.below hBy h9x.lt; have h8y := h8x.below hBy h8x.lt; have hby := hbx.below hBy hbx.lt; have hbely := hbelx.trans (hBy.mono hbelx.size); have r0 := hby.cell 0; have r1 := hby.cell 1; have r2 := hby.frozen 0; have r3 := hby.frozen 1; have r4 := h8y.cell 0; have r5 := h9y.cell 1; clear hBy)))
        go_roundw
        case rel => exact ⟨j + 1, s', n', by omega, by go_num, g1, g2, Has.put2 hby _ _, below_put2 hbely (Nat.le_refl _) _ _⟩
        case measure => simp [intOf]; omega
    · obtain rfl : j = p := by omega
      clear hV0
      go_wp2_with (go_at_call 16; ((with_reducible refine (live_k _).mono ?_); rintro e W9 ⟨rfl, hN⟩))
      go_ret
      exact ⟨rfl, hB.trans (hN.mono hB.size)⟩

theorem own : ownKnob Try.prog.godebug = none := by kernel_rfl
theorem laidOut : laidOutB Try.prog = true := by kernel_rfl

/-! ### The row's step -/
set_option maxRecDepth 100000 in
theorem lifted (os : Os) (started : os.Started) (H : Type) (enc : TypeId × Value → H) :
    ReturnsInHanded {} Try.checked os 5 .any (Rows.levelBetweenSpec.pre6 enc Try.prog Try.f5 Rows.levelBetweenRow.domain false) (Rows.levelBetweenSpec.post enc Try.prog Try.f5 false true false false) := by
  refine returnsInHanded_of_change (C := Try.checked) own started (by kernel_rfl) Try.func5
    (ChangeSpec.witness6 (enc := enc) (C := Try.checked) false ⟨#[], #[.agg #[.int .i64 0, .int .i64 0], .slice none 0 0], []⟩ 8 (by kernel_rfl) (by kernel_rfl) (by kernel_rfl) (by kernel_rfl)) ?_
  intro W base args ds gs before hval0 hW hcnd _
  have hval : ∀ (j : Nat) t v, Try.f5.params[j]? = some t → args[j]? = some v → Value.okWide Try.prog W .any base t v := hval0
  have hW' := hW
  obtain ⟨p, q, hA0, hV, rfl, hfz, hnd⟩ := hW
  have hA : DataW.TrodAll enc Try.prog W 0 (fun _ => true) true Try.f5.params.toList args.toList ds p := hA0
  rw [Try.params5] at hA hval
  obtain ⟨v0, vs0, d0, ds0, p0, q0, hargs, rfl, rfl, h0, r0⟩ := trodAll_cons hA
  obtain ⟨v1, vs1, d1, ds1, p1, q1, rfl, rfl, rfl, h1, r1⟩ := trodAll_cons r0
  obtain ⟨rfl, rfl, rfl⟩ := trodAll_nil r1
  obtain rfl : args = #[v0, v1] := by cases args; simp_all
  obtain ⟨rfl, rfl⟩ := trodVars_none hV
  obtain ⟨cs0, rfl, _⟩ := okWide_struct Try.underlying23 (hval 0 23 v0 rfl rfl)
  have k0 := h0
  have lt0 : ∀ x ∈ p0, x.block < W.heap.size := by obtain ⟨m, hm⟩ := k0; exact DataW.trod_lt m _ _ _ hm
  obtain ⟨z0, hz0, w0⟩ : ∃ z, Level.lvS.enc z = cs0.toList ∧ Level.AnyLv z := by
    obtain ⟨fuel, hf⟩ := h0
    exact Level.lv_dec _ ((Row.oks_all 20).1 _ _ _ _ _ (by kernel_rfl) hf)
  obtain rfl : cs0 = (Level.lvS.enc z0).toArray := by rw [hz0]
  obtain ⟨a1, len1, cap1, rfl⟩ := okWide_slice Try.underlying24 (hval 1 24 v1 rfl rfl)
  have k1 := h1
  have lt1 : ∀ x ∈ p1, x.block < W.heap.size := by obtain ⟨m, hm⟩ := k1; exact DataW.trod_lt m _ _ _ hm
  obtain ⟨z1, w1⟩ : ∃ zs, IsRow .i64 W a1 len1 cap1 zs := by
    obtain ⟨fuel, hf⟩ := h1
    rcases open_ints Try.underlying24 Try.underlying2 (by kernel_rfl) hf with ⟨hcs, _⟩ | ⟨x, l, c, zs, hcs, hx, hl, hm, hz, _, hcell, hwz⟩
    · simp [Value.cells] at hcs
      obtain ⟨rfl, rfl, rfl⟩ := hcs
      exact ⟨[], .inl ⟨rfl, rfl, rfl, rfl⟩⟩
    · simp [Value.cells] at hcs
      obtain ⟨rfl, rfl, rfl⟩ := hcs
      exact ⟨zs, isRow_some hl hm (by simpa using hz) hcell hwz⟩
  clear hA0 hval0
  refine (walk z0 a1 len1 cap1 z1 W w0 w1).mono fun e W' ⟨he, bel⟩ => ?_
  subst he
  exact ⟨_, rfl, _, _, _, [], _, [], hW', trodAll_mk1 (shut_bool Try.underlying4 _), (trodAll_cons_mk (Below.trod laidOut (by kernel_rfl) (of_decide_eq_true (by kernel_rfl)) k0 bel lt0) (trodAll_cons_mk (Below.trod laidOut (by kernel_rfl) (of_decide_eq_true (by kernel_rfl)) k1 bel lt1) trodAll_mk0)), rfl, bel.frame _, fun h => by cases h⟩

theorem over : Rows.levelBetweenRow.holds Try.pinned (OpenSpec.ofChange Rows.levelBetweenSpec) :=
  OpenClaim.holds_of_wide 5 Try.f5 rfl rfl rfl rfl rfl rfl rfl ⟨rfl, rfl, rfl, rfl, rfl⟩ rfl rfl rfl rfl rfl (by kernel_rfl) Try.func5 (by kernel_rfl)
    (of_decide_eq_true (by kernel_rfl)) (by unfold Func.isWrapper; first | (rw [if_pos (by decide +kernel)]; kernel_rfl) | (rw [if_neg (by decide +kernel)]; exact ⟨rfl, rfl⟩))
    (fun os started H enc _ => lifted os started H enc)

theorem proved : Rows.LevelBetweenSaid := over
#print axioms proved
end Go.Proofs.Ythhjgdephhfdhaa.levelBetween
