/- A ring of int64: what its memory holds, and what the calls that only look at it answer. -/
import Derived.Test.YtpmjgomfjfhfkaaChecked
import Derived.Test.YtpmjgomfjfhfkaaRingMath
import Derived.Test.YtpmjgomfjfhfkaaTurned
import Derived.WalkKit
import Derived.Deep.QuietTactic
import Derived.BigQuiet
import Derived.Lib.Hide
set_option linter.unusedSimpArgs false
set_option linter.unusedVariables false
namespace Go.Proofs.Ytpmjgomfjfhfkaa.RI64
open Go.RowKit

/-- Block b is a ring's struct, block g its n slots (and what may lie behind them), cs: the first thing at slot f, and c things there. -/
structure Core (w : World) (b g n q f c : Nat) (cs : List Int) : Prop where
  head : Has w b 110 #[.slice (some ⟨g, 0, none⟩) n q, .int .i64 f, .int .i64 c]
  slots : ∃ tl : List Value, Has w g 2 ((cs.map fun (v : Int) => Value.int .i64 v) ++ tl).toArray
  size : cs.length = n
  first : f < n
  room : c ≤ n
  pow : ∃ k, k ≤ 16 ∧ n = 2 ^ k
  cap : n ≤ q ∧ q ≤ 9223372036854775807
/-- .. and the things are xs. -/
structure Ring (w : World) (b g n q f : Nat) (cs xs : List Int) : Prop where
  core : Core w b g n q f xs.length cs
  at_ : ∀ i, i < xs.length → cs.getD ((f + i) % n) 0 = xs.getD i 0

section
variable {w w' : World} {b g n q f c : Nat} {cs xs : List Int}
theorem Core.le (h : Core w b g n q f c cs) : n ≤ 65536 := by
  obtain ⟨k, hk, rfl⟩ := h.pow
  exact Nat.pow_le_pow_right (by omega) hk
theorem Core.ne_ (h : Core w b g n q f c cs) : b ≠ g := by
  rintro rfl
  have h1 := h.head
  obtain ⟨tl, h2⟩ := h.slots
  unfold Has at h1 h2
  rw [h1] at h2
  injection h2 with h2
  injection h2 with _ h3
  exact absurd h3 (by decide)
theorem Core.same (h : Core w b g n q f c cs) (e : w'.heap = w.heap) : Core w' b g n q f c cs := by
  obtain ⟨h1, ⟨tl, h2⟩, s1, s2, s3, s4, s5⟩ := h
  exact ⟨by unfold Has at *; rw [e]; exact h1, ⟨tl, by unfold Has at *; rw [e]; exact h2⟩, s1, s2, s3, s4, s5⟩
theorem Core.below {B : Nat} (h : Core w b g n q f c cs) (hb : Below B w w') (h1 : b < B) (h2 : g < B) : Core w' b g n q f c cs := by
  obtain ⟨h3, ⟨tl, h4⟩, s1, s2, s3, s4, s5⟩ := h
  exact ⟨h3.below hb h1, ⟨tl, h4.below hb h2⟩, s1, s2, s3, s4, s5⟩
theorem Core.far (h : Core w b g n q f c cs) {p : Addr} (h1 : b ≠ p.block) (h2 : g ≠ p.block) (u : Value) : Core (w.setCell p u) b g n q f c cs := by
  obtain ⟨h3, ⟨tl, h4⟩, s1, s2, s3, s4, s5⟩ := h
  exact ⟨h3.far h1 u, ⟨tl, h4.far h2 u⟩, s1, s2, s3, s4, s5⟩
theorem Core.alloc (h : Core w b g n q f c cs) (o : Obj) : Core (w.alloc o) b g n q f c cs := by
  obtain ⟨h3, ⟨tl, h4⟩, s1, s2, s3, s4, s5⟩ := h
  exact ⟨h3.alloc o, ⟨tl, h4.alloc o⟩, s1, s2, s3, s4, s5⟩
theorem Core.turned {b' g' : Nat} (h : Core w b g n q f c cs) (ht : Turned b' g' w w') (h1 : b ≠ b') (h2 : b ≠ g') (h3 : g ≠ b') (h4 : g ≠ g') : Core w' b g n q f c cs := by
  obtain ⟨e3, ⟨tl, e4⟩, s1, s2, s3, s4, s5⟩ := h
  exact ⟨ht.has e3 h1 h2, ⟨tl, ht.has e4 h3 h4⟩, s1, s2, s3, s4, s5⟩
theorem Core.grown {row : Option Nat} (h : Core w b g n q f c cs) (hg : w.grownBy w' row) (h1 : some b ≠ row) (h2 : some g ≠ row) : Core w' b g n q f c cs := by
  obtain ⟨e3, ⟨tl, e4⟩, s1, s2, s3, s4, s5⟩ := h
  exact ⟨(hg.block b e3.lt h1).trans e3, ⟨tl, (hg.block g e4.lt h2).trans e4⟩, s1, s2, s3, s4, s5⟩
theorem Core.lt_ (h : Core w b g n q f c cs) : b < w.heap.size ∧ g < w.heap.size := by
  obtain ⟨tl, h4⟩ := h.slots
  exact ⟨h.head.lt, h4.lt⟩
theorem Core.cells (h : Core w b g n q f c cs) : w.cell? ⟨b, 0, none⟩ = some (.slice (some ⟨g, 0, none⟩) n q) ∧ w.cell? ⟨b, 1, none⟩ = some (.int .i64 f) ∧ w.cell? ⟨b, 2, none⟩ = some (.int .i64 c) := ⟨h.head.cell 0, h.head.cell 1, h.head.cell 2⟩
theorem Core.froz (h : Core w b g n q f c cs) : w.frozen? ⟨b, 1, none⟩ = false ∧ w.frozen? ⟨b, 2, none⟩ = false := ⟨h.head.frozen 1, h.head.frozen 2⟩
theorem Core.slotz (h : Core w b g n q f c cs) (j : Nat) : w.frozen? ⟨g, j, none⟩ = false := by
  obtain ⟨tl, h4⟩ := h.slots
  exact h4.frozen j
theorem Core.slot_ (h : Core w b g n q f c cs) (j : Nat) (hj : j < n) : w.cell? ⟨g, j, none⟩ = some (.int .i64 (cs.getD j 0)) := by
  obtain ⟨tl, h4⟩ := h.slots
  rw [h4.cell j]
  have := h.size
  rw [List.getElem?_toArray, List.getElem?_append_left (by simp; omega)]
  simp [List.getD_eq_getElem?_getD, List.getElem?_eq_getElem (show j < cs.length by omega)]
theorem Core.put (h : Core w b g n q f c cs) (j : Nat) (hj : j < n) (v : Int) : Core (w.setCell ⟨g, j, none⟩ (.int .i64 v)) b g n q f c (cs.set j v) := by
  obtain ⟨tl, h4⟩ := h.slots
  have hs := h.size
  refine ⟨h.head.far h.ne_ _, ⟨tl, ?_⟩, by rw [List.length_set]; exact h.size, h.first, h.room, h.pow, h.cap⟩
  have := h4.set_ j (.int .i64 v)
  rwa [List.setIfInBounds_toArray, List.set_append_left _ _ (by simp; omega), ← List.map_set] at this
theorem Core.first_ (h : Core w b g n q f c cs) (f' : Nat) (hf : f' < n) : Core (w.setCell ⟨b, 1, none⟩ (.int .i64 f')) b g n q f' c cs := by
  obtain ⟨tl, h4⟩ := h.slots
  refine ⟨?_, ⟨tl, h4.far (p := ⟨b, 1, none⟩) (fun e => h.ne_ e.symm) _⟩, h.size, hf, h.room, h.pow, h.cap⟩
  simpa using h.head.set_ 1 (.int .i64 f')
theorem Core.count_ (h : Core w b g n q f c cs) (c' : Nat) (hc : c' ≤ n) : Core (w.setCell ⟨b, 2, none⟩ (.int .i64 c')) b g n q f c' cs := by
  obtain ⟨tl, h4⟩ := h.slots
  refine ⟨?_, ⟨tl, h4.far (p := ⟨b, 2, none⟩) (fun e => h.ne_ e.symm) _⟩, h.size, h.first, hc, h.pow, h.cap⟩
  simpa using h.head.set_ 2 (.int .i64 c')
theorem Ring.turned {b' g' : Nat} (h : Ring w b g n q f cs xs) (ht : Turned b' g' w w') (h1 : b ≠ b') (h2 : b ≠ g') (h3 : g ≠ b') (h4 : g ≠ g') : Ring w' b g n q f cs xs := ⟨h.core.turned ht h1 h2 h3 h4, h.at_⟩
theorem Ring.grown {row : Option Nat} (h : Ring w b g n q f cs xs) (hg : w.grownBy w' row) (h1 : some b ≠ row) (h2 : some g ≠ row) : Ring w' b g n q f cs xs := ⟨h.core.grown hg h1 h2, h.at_⟩
theorem Ring.alloc (h : Ring w b g n q f cs xs) (o : Obj) : Ring (w.alloc o) b g n q f cs xs := ⟨h.core.alloc o, h.at_⟩
theorem Ring.same (h : Ring w b g n q f cs xs) (e : w'.heap = w.heap) : Ring w' b g n q f cs xs := ⟨h.core.same e, h.at_⟩
theorem Ring.below {B : Nat} (h : Ring w b g n q f cs xs) (hb : Below B w w') (h1 : b < B) (h2 : g < B) : Ring w' b g n q f cs xs := ⟨h.core.below hb h1 h2, h.at_⟩
theorem Ring.here (h : Ring w b g n q f cs xs) (i : Nat) (hi : i < xs.length) : w.cell? ⟨g, (f + i) % n, none⟩ = some (.int .i64 (xs.getD i 0)) := by
  rw [h.core.slot_ _ (Nat.mod_lt _ (by have := h.core.first; omega)), h.at_ i hi]
end

/-- The ring has these things now; it, and its slots, have turned, and no other block that was there. -/
def Became (w : World) (b g n q f : Nat) (zs : List Int) (w' : World) : Prop := ∃ cs', Ring w' b g n q f cs' zs ∧ Turned b g w w'

theorem len_any (b c : Nat) (w : World) (h2 : w.cell? ⟨b, 2, none⟩ = some (.int .i64 c)) :
    Calls Try.prog 67 #[.pointer (some ⟨b, 0, none⟩)] w fun e w' => e = .returned (.int .i64 c) ∧ w = w' := by
  go_enter Try.func67, Try.ntmps67
  go_wp2
  go_ret
  simp

theorem len_q (b g n q f : Nat) (cs xs : List Int) (c : Nat) (w : World) (h : Ring w b g n q f cs xs) (hc : xs.length = c) :
    Calls Try.prog 67 #[.pointer (some ⟨b, 0, none⟩)] w fun e w' => e = .returned (.int .i64 (c : Int)) ∧ ∃ k, w' = w.drewN k := by
  subst hc
  exact (len_any b _ w h.core.cells.2.2).mono fun e w' ⟨he, hw⟩ => ⟨he, 0, hw.symm⟩

theorem room_any (b g n q f : Nat) (cs xs : List Int) (w : World) (h : Ring w b g n q f cs xs) :
    Calls Try.prog 72 #[.pointer (some ⟨b, 0, none⟩)] w fun e w' => e = .returned (.int .i64 ((n : Int) - (xs.length : Int))) ∧ ∃ k, w' = w.drewN k := by
  obtain ⟨c0, c1, c2⟩ := h.core.cells
  have hn := h.core.le
  have hq := h.core.cap
  have hr := h.core.room
  clear h
  generalize xs.length = c at *
  go_enter Try.func72, Try.ntmps72
  go_wp2
  go_quiet (fail)
  go_wp2
  go_ret
  exact ⟨rfl, _, rfl⟩

theorem room_nat (b g n q f : Nat) (cs xs : List Int) (r : Nat) (w : World) (h : Ring w b g n q f cs xs) (hr : n - xs.length = r) :
    Calls Try.prog 72 #[.pointer (some ⟨b, 0, none⟩)] w fun e w' => e = .returned (.int .i64 (r : Int)) ∧ ∃ k, w' = w.drewN k :=
  (room_any b g n q f cs xs w h).mono fun e w' ⟨he, hw⟩ => ⟨by rw [he, show ((n : Int) - (xs.length : Int)) = (r : Int) by have := h.core.room; omega], hw⟩

theorem slot_any (b g n q f : Nat) (c : Nat) (cs : List Int) (i : Nat) (w : World) (h : Core w b g n q f c cs) (hi : i ≤ 1000000) :
    Calls Try.prog 70 #[.pointer (some ⟨b, 0, none⟩), .int .i64 i] w fun e w' => e = .returned (.int .i64 (((f + i) % n : Nat) : Int)) ∧ ∃ k, w' = w.drewN k := by
  obtain ⟨c0, c1, c2⟩ := h.cells
  have hn := h.le
  have hf := h.first
  have hq := h.cap
  obtain ⟨k, hk, hp⟩ := h.pow
  have hm := Lib.hid (mask_int (f + i) k n (by omega) hp (by omega))
  clear h hp
  go_enter Try.func70, Try.ntmps70
  go_wp2
  go_quiet (fail)
  go_wp2
  go_ret
  have h9 := hm.out
  rw [Int.natCast_add] at h9
  exact ⟨(show Ending.returned (Value.int .i64 (bits BinOp.and .i64 ((f : Int) + (i : Int)) ((n : Int) - 1))) = _ by rw [h9]), _, rfl⟩

theorem at_yes (b g n q f : Nat) (cs xs : List Int) (i : Nat) (w : World) (h : Ring w b g n q f cs xs) (hi : i < xs.length) :
    Calls Try.prog 71 #[.pointer (some ⟨b, 0, none⟩), .int .i64 i] w fun e w' => e = .returned (.tuple #[.int .i64 (xs.getD i 0), .bool true]) ∧ ∃ k, w' = w.drewN k := by
  obtain ⟨c0, c1, c2⟩ := h.core.cells
  have hn := h.core.le
  have hq := h.core.cap
  have hr := h.core.room
  have hh := h.here i hi
  have hm : (f + i) % n < n := Nat.mod_lt _ (by omega)
  have hs := fun W (hW : Core W b g n q f xs.length cs) => slot_any b g n q f _ cs i W hW (by omega)
  have hC := h.core
  generalize (f + i) % n = m at *
  generalize xs.getD i 0 = v at *
  generalize xs.length = c at *
  go_enter Try.func71, Try.ntmps71
  go_wp2_with (go_at_call 67; refine (len_any b _ _ c2).mono ?_; rintro e w' ⟨rfl, rfl⟩)
  go_quiet ((go_at_call 70; exact Calls.quiet_of (hs _ (hC.same rfl))))
  go_wp2
  go_ret2
  exact ⟨rfl, _, rfl⟩

theorem at_no (b c : Nat) (i : Int) (w : World) (hi : i < 0 ∨ (c : Int) ≤ i) (h2 : w.cell? ⟨b, 2, none⟩ = some (.int .i64 c)) :
    Calls Try.prog 71 #[.pointer (some ⟨b, 0, none⟩), .int .i64 i] w fun e w' => e = .returned (.tuple #[.int .i64 0, .bool false]) ∧ w = w' := by
  rcases hi with hi | hi
  · go_enter Try.func71, Try.ntmps71
    go_wp2_with (go_at_call 67; refine (len_any b _ _ h2).mono ?_; rintro e w' ⟨rfl, rfl⟩)
    go_ret2
    exact ⟨rfl, rfl⟩
  · by_cases h0 : i < 0
    all_goals
      go_enter Try.func71, Try.ntmps71
      go_wp2_with (go_at_call 67; refine (len_any b _ _ h2).mono ?_; rintro e w' ⟨rfl, rfl⟩)
      go_ret2
      exact ⟨rfl, rfl⟩

theorem back_yes (b g n q f : Nat) (cs xs : List Int) (i : Nat) (w : World) (h : Ring w b g n q f cs xs) (hi : i < xs.length) :
    Calls Try.prog 66 #[.pointer (some ⟨b, 0, none⟩), .int .i64 i] w fun e w' => e = .returned (.tuple #[.int .i64 (xs.getD (xs.length - 1 - i) 0), .bool true]) ∧ ∃ k, w' = w.drewN k := by
  obtain ⟨c0, c1, c2⟩ := h.core.cells
  have hn := h.core.le
  have hq := h.core.cap
  have hr := h.core.room
  have hs := at_yes b g n q f cs xs (xs.length - 1 - i) w h (by omega)
  rw [show ((xs.length - 1 - i : Nat) : Int) = (xs.length : Int) - 1 - (i : Int) by omega] at hs
  generalize xs.getD (xs.length - 1 - i) 0 = v at *
  clear h
  generalize xs.length = c at *
  go_enter Try.func66, Try.ntmps66
  go_wp2_with (first
    | (go_at_call 67; refine (len_any b _ _ c2).mono ?_; rintro e w' ⟨rfl, rfl⟩)
    | (go_at_call 71; refine hs.mono ?_; rintro e w' ⟨rfl, k, rfl⟩))
  go_ret2
  exact ⟨rfl, _, rfl⟩

theorem back_no (b c : Nat) (i : Int) (w : World) (hi : i < 0 ∨ (c : Int) ≤ i) (hb : i ≤ 9223372036854775807) (hc : c ≤ 65536) (h2 : w.cell? ⟨b, 2, none⟩ = some (.int .i64 c)) :
    Calls Try.prog 66 #[.pointer (some ⟨b, 0, none⟩), .int .i64 i] w fun e w' => e = .returned (.tuple #[.int .i64 0, .bool false]) ∧ w = w' := by
  by_cases h0 : i < 0
  · clear hi
    go_enter Try.func66, Try.ntmps66
    go_wp2_with (go_at_call 71; refine (at_no b _ _ _ (.inl h0) h2).mono ?_; rintro e w' ⟨rfl, rfl⟩)
    go_ret2
    exact ⟨rfl, rfl⟩
  · have hi' : (c : Int) ≤ i := by omega
    clear hi
    go_enter Try.func66, Try.ntmps66
    go_wp2_with (first
      | (go_at_call 67; refine (len_any b _ _ h2).mono ?_; rintro e w' ⟨rfl, rfl⟩)
      | (go_at_call 71; refine (at_no b c _ _ (.inl (by omega)) h2).mono ?_; rintro e w' ⟨rfl, rfl⟩))
    go_ret2
    exact ⟨rfl, rfl⟩
end Go.Proofs.Ytpmjgomfjfhfkaa.RI64
