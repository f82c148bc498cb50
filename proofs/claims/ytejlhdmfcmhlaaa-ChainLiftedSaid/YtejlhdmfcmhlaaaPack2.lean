/- What the proofs stand on, part 2. -/
import Derived.Test.YtejlhdmfcmhlaaaChecked
import Derived.Test.YtejlhdmfcmhlaaaPack1
import Derived.WalkKit
import Derived.Deep.QuietTactic
import Derived.BigQuiet
import Derived.Lib.Hide
import Derived.Test.YtejlhdmfcmhlaaaRows
import Derived.ProofKit
import Derived.Handy
import Derived.RegionTactic
import Derived.Lib.Mul64
import Derived.Laws.Bits64b
import Derived.Deep.RegionWith
import Derived.Laws.MakeOwn
import Derived.Deep.Slices
import Derived.Deep.Fields
import Derived.Deep.Matrix
import Derived.ChangeSame
import Derived.ChangeSlices
import Derived.Laws.Externs
section
/- A ring of int64: what its memory holds, and what the calls that only look at it answer. -/
set_option linter.unusedSimpArgs false
set_option linter.unusedVariables false
namespace Go.Proofs.Ytejlhdmfcmhlaaa.RI64
open Go.RowKit

/-- Block b is a ring's struct, block g its n slots (and what may lie behind them), cs: the first thing at slot f, and c things there. -/
structure Core (w : World) (b g n q f c : Nat) (cs : List Int) : Prop where
  head : Has w b 108 #[.slice (some ⟨g, 0, none⟩) n q, .int .i64 f, .int .i64 c]
  slots : ∃ tl : List Value, Has w g 2 ((cs.map fun (v : Int) => Value.int .i64 v) ++ tl).toArray
  size : cs.length = n
  first : f < n
  room : c ≤ n
  pow : ∃ k, k ≤ 16 ∧ n = 2 ^ k
  cap : n ≤ q ∧ q ≤ 9223372036854775807
/-- .. and the things are xs. -/
structure Ring (w : World) (b g n q f : Nat) (cs xs : List Int) : Prop where
  core : Core w b g n q f xs.length cs
  at_ : ∀ i, i < xs.length → cs.getD ((f + i) % n) 0 = xs.getD i 0

section
variable {w w' : World} {b g n q f c : Nat} {cs xs : List Int}
theorem Core.le (h : Core w b g n q f c cs) : n ≤ 65536 := by
  obtain ⟨k, hk, rfl⟩ := h.pow
  exact Nat.pow_le_pow_right (by omega) hk
theorem Core.ne_ (h : Core w b g n q f c cs) : b ≠ g := by
  rintro rfl
  have h1 := h.head
  obtain ⟨tl, h2⟩ := h.slots
  unfold Has at h1 h2
  rw [h1] at h2
  injection h2 with h2
  injection h2 with _ h3
  exact absurd h3 (by decide)
theorem Core.same (h : Core w b g n q f c cs) (e : w'.heap = w.heap) : Core w' b g n q f c cs := by
  obtain ⟨h1, ⟨tl, h2⟩, s1, s2, s3, s4, s5⟩ := h
  exact ⟨by unfold Has at *; rw [e]; exact h1, ⟨tl, by unfold Has at *; rw [e]; exact h2⟩, s1, s2, s3, s4, s5⟩
theorem Core.below {B : Nat} (h : Core w b g n q f c cs) (hb : Below B w w') (h1 : b < B) (h2 : g < B) : Core w' b g n q f c cs := by
  obtain ⟨h3, ⟨tl, h4⟩, s1, s2, s3, s4, s5⟩ := h
  exact ⟨h3.below hb h1, ⟨tl, h4.below hb h2⟩, s1, s2, s3, s4, s5⟩
theorem Core.far (h : Core w b g n q f c cs) {p : Addr} (h1 : b ≠ p.block) (h2 : g ≠ p.block) (u : Value) : Core (w.setCell p u) b g n q f c cs := by
  obtain ⟨h3, ⟨tl, h4⟩, s1, s2, s3, s4, s5⟩ := h
  exact ⟨h3.far h1 u, ⟨tl, h4.far h2 u⟩, s1, s2, s3, s4, s5⟩
theorem Core.alloc (h : Core w b g n q f c cs) (o : Obj) : Core (w.alloc o) b g n q f c cs := by
  obtain ⟨h3, ⟨tl, h4⟩, s1, s2, s3, s4, s5⟩ := h
  exact ⟨h3.alloc o, ⟨tl, h4.alloc o⟩, s1, s2, s3, s4, s5⟩
theorem Core.turned {b' g' : Nat} (h : Core w b g n q f c cs) (ht : Turned b' g' w w') (h1 : b ≠ b') (h2 : b ≠ g') (h3 : g ≠ b') (h4 : g ≠ g') : Core w' b g n q f c cs := by
  obtain ⟨e3, ⟨tl, e4⟩, s1, s2, s3, s4, s5⟩ := h
  exact ⟨ht.has e3 h1 h2, ⟨tl, ht.has e4 h3 h4⟩, s1, s2, s3, s4, s5⟩
theorem Core.grown {row : Option Nat} (h : Core w b g n q f c cs) (hg : w.grownBy w' row) (h1 : some b ≠ row) (h2 : some g ≠ row) : Core w' b g n q f c cs := by
  obtain ⟨e3, ⟨tl, e4⟩, s1, s2, s3, s4, s5⟩ := h
  exact ⟨(hg.block b e3.lt h1).trans e3, ⟨tl, (hg.block g e4.lt h2).trans e4⟩, s1, s2, s3, s4, s5⟩
theorem Core.lt_ (h : Core w b g n q f c cs) : b < w.heap.size ∧ g < w.heap.size := by
  obtain ⟨tl, h4⟩ := h.slots
  exact ⟨h.head.lt, h4.lt⟩
theorem Core.cells (h : Core w b g n q f c cs) : w.cell? ⟨b, 0, none⟩ = some (.slice (some ⟨g, 0, none⟩) n q) ∧ w.cell? ⟨b, 1, none⟩ = some (.int .i64 f) ∧ w.cell? ⟨b, 2, none⟩ = some (.int .i64 c) := ⟨h.head.cell 0, h.head.cell 1, h.head.cell 2⟩
theorem Core.froz (h : Core w b g n q f c cs) : w.frozen? ⟨b, 1, none⟩ = false ∧ w.frozen? ⟨b, 2, none⟩ = false := ⟨h.head.frozen 1, h.head.frozen 2⟩
theorem Core.slotz (h : Core w b g n q f c cs) (j : Nat) : w.frozen? ⟨g, j, none⟩ = false := by
  obtain ⟨tl, h4⟩ := h.slots
  exact h4.frozen j
theorem Core.slot_ (h : Core w b g n q f c cs) (j : Nat) (hj : j < n) : w.cell? ⟨g, j, none⟩ = some (.int .i64 (cs.getD j 0)) := by
  obtain ⟨tl, h4⟩ := h.slots
  rw [h4.cell j]
  have := h.size
  rw [List.getElem?_toArray, List.getElem?_append_left (by simp; omega)]
  simp [List.getD_eq_getElem?_getD, List.getElem?_eq_getElem (show j < cs.length by omega)]
theorem Core.put (h : Core w b g n q f c cs) (j : Nat) (hj : j < n) (v : Int) : Core (w.setCell ⟨g, j, none⟩ (.int .i64 v)) b g n q f c (cs.set j v) := by
  obtain ⟨tl, h4⟩ := h.slots
  have hs := h.size
  refine ⟨h.head.far h.ne_ _, ⟨tl, ?_⟩, by rw [List.length_set]; exact h.size, h.first, h.room, h.pow, h.cap⟩
  have := h4.set_ j (.int .i64 v)
  rwa [List.setIfInBounds_toArray, List.set_append_left _ _ (by simp; omega), ← List.map_set] at this
theorem Core.first_ (h : Core w b g n q f c cs) (f' : Nat) (hf : f' < n) : Core (w.setCell ⟨b, 1, none⟩ (.int .i64 f')) b g n q f' c cs := by
  obtain ⟨tl, h4⟩ := h.slots
  refine ⟨?_, ⟨tl, h4.far (p := ⟨b, 1, none⟩) (fun e => h.ne_ e.symm) _⟩, h.size, hf, h.room, h.pow, h.cap⟩
  simpa using h.head.set_ 1 (.int .i64 f')
theorem Core.count_ (h : Core w b g n q f c cs) (c' : Nat) (hc : c' ≤ n) : Core (w.setCell ⟨b, 2, none⟩ (.int .i64 c')) b g n q f c' cs := by
  obtain ⟨tl, h4⟩ := h.slots
  refine ⟨?_, ⟨tl, h4.far (p := ⟨b, 2, none⟩) (fun e => h.ne_ e.symm) _⟩, h.size, h.first, hc, h.pow, h.cap⟩
  simpa using h.head.set_ 2 (.int .i64 c')
theorem Ring.turned {b' g' : Nat} (h : Ring w b g n q f cs xs) (ht : Turned b' g' w w') (h1 : b ≠ b') (h2 : b ≠ g') (h3 : g ≠ b') (h4 : g ≠ g') : Ring w' b g n q f cs xs := ⟨h.core.turned ht h1 h2 h3 h4, h.at_⟩
theorem Ring.grown {row : Option Nat} (h : Ring w b g n q f cs xs) (hg : w.grownBy w' row) (h1 : some b ≠ row) (h2 : some g ≠ row) : Ring w' b g n q f cs xs := ⟨h.core.grown hg h1 h2, h.at_⟩
theorem Ring.alloc (h : Ring w b g n q f cs xs) (o : Obj) : Ring (w.alloc o) b g n q f cs xs := ⟨h.core.alloc o, h.at_⟩
theorem Ring.same (h : Ring w b g n q f cs xs) (e : w'.heap = w.heap) : Ring w' b g n q f cs xs := ⟨h.core.same e, h.at_⟩
theorem Ring.below {B : Nat} (h : Ring w b g n q f cs xs) (hb : Below B w w') (h1 : b < B) (h2 : g < B) : Ring w' b g n q f cs xs := ⟨h.core.below hb h1 h2, h.at_⟩
theorem Ring.here (h : Ring w b g n q f cs xs) (i : Nat) (hi : i < xs.length) : w.cell? ⟨g, (f + i) % n, none⟩ = some (.int .i64 (xs.getD i 0)) := by
  rw [h.core.slot_ _ (Nat.mod_lt _ (by have := h.core.first; omega)), h.at_ i hi]
end

/-- The ring has these things now; it, and its slots, have turned, and no other block that was there. -/
def Became (w : World) (b g n q f : Nat) (zs : List Int) (w' : World) : Prop := ∃ cs', Ring w' b g n q f cs' zs ∧ Turned b g w w'

theorem len_any (b c : Nat) (w : World) (h2 : w.cell? ⟨b, 2, none⟩ = some (.int .i64 c)) :
    Calls Try.prog 78 #[.pointer (some ⟨b, 0, none⟩)] w fun e w' => e = .returned (.int .i64 c) ∧ w = w' := by
  go_enter Try.func78, Try.ntmps78
  go_wp2
  go_ret
  simp

theorem len_q (b g n q f : Nat) (cs xs : List Int) (c : Nat) (w : World) (h : Ring w b g n q f cs xs) (hc : xs.length = c) :
    Calls Try.prog 78 #[.pointer (some ⟨b, 0, none⟩)] w fun e w' => e = .returned (.int .i64 (c : Int)) ∧ ∃ k, w' = w.drewN k := by
  subst hc
  exact (len_any b _ w h.core.cells.2.2).mono fun e w' ⟨he, hw⟩ => ⟨he, 0, hw.symm⟩

theorem room_any (b g n q f : Nat) (cs xs : List Int) (w : World) (h : Ring w b g n q f cs xs) :
    Calls Try.prog 84 #[.pointer (some ⟨b, 0, none⟩)] w fun e w' => e = .returned (.int .i64 ((n : Int) - (xs.length : Int))) ∧ ∃ k, w' = w.drewN k := by
  obtain ⟨c0, c1, c2⟩ := h.core.cells
  have hn := h.core.le
  have hq := h.core.cap
  have hr := h.core.room
  clear h
  generalize xs.length = c at *
  go_enter Try.func84, Try.ntmps84
  go_wp2
  go_quiet (fail)
  go_wp2
  go_ret
  exact ⟨rfl, _, rfl⟩

theorem room_nat (b g n q f : Nat) (cs xs : List Int) (r : Nat) (w : World) (h : Ring w b g n q f cs xs) (hr : n - xs.length = r) :
    Calls Try.prog 84 #[.pointer (some ⟨b, 0, none⟩)] w fun e w' => e = .returned (.int .i64 (r : Int)) ∧ ∃ k, w' = w.drewN k :=
  (room_any b g n q f cs xs w h).mono fun e w' ⟨he, hw⟩ => ⟨by rw [he, show ((n : Int) - (xs.length : Int)) = (r : Int) by have := h.core.room; omega], hw⟩

theorem slot_any (b g n q f : Nat) (c : Nat) (cs : List Int) (i : Nat) (w : World) (h : Core w b g n q f c cs) (hi : i ≤ 1000000) :
    Calls Try.prog 85 #[.pointer (some ⟨b, 0, none⟩), .int .i64 i] w fun e w' => e = .returned (.int .i64 (((f + i) % n : Nat) : Int)) ∧ ∃ k, w' = w.drewN k := by
  obtain ⟨c0, c1, c2⟩ := h.cells
  have hn := h.le
  have hf := h.first
  have hq := h.cap
  obtain ⟨k, hk, hp⟩ := h.pow
  have hm := Lib.hid (mask_int (f + i) k n (by omega) hp (by omega))
  clear h hp
  go_enter Try.func85, Try.ntmps85
  go_wp2
  go_quiet (fail)
  go_wp2
  go_ret
  have h9 := hm.out
  rw [Int.natCast_add] at h9
  exact ⟨(show Ending.returned (Value.int .i64 (bits BinOp.and .i64 ((f : Int) + (i : Int)) ((n : Int) - 1))) = _ by rw [h9]), _, rfl⟩

theorem at_yes (b g n q f : Nat) (cs xs : List Int) (i : Nat) (w : World) (h : Ring w b g n q f cs xs) (hi : i < xs.length) :
    Calls Try.prog 83 #[.pointer (some ⟨b, 0, none⟩), .int .i64 i] w fun e w' => e = .returned (.tuple #[.int .i64 (xs.getD i 0), .bool true]) ∧ ∃ k, w' = w.drewN k := by
  obtain ⟨c0, c1, c2⟩ := h.core.cells
  have hn := h.core.le
  have hq := h.core.cap
  have hr := h.core.room
  have hh := h.here i hi
  have hm : (f + i) % n < n := Nat.mod_lt _ (by omega)
  have hs := fun W (hW : Core W b g n q f xs.length cs) => slot_any b g n q f _ cs i W hW (by omega)
  have hC := h.core
  generalize (f + i) % n = m at *
  generalize xs.getD i 0 = v at *
  generalize xs.length = c at *
  go_enter Try.func83, Try.ntmps83
  go_wp2_with (go_at_call 78; refine (len_any b _ _ c2).mono ?_; rintro e w' ⟨rfl, rfl⟩)
  go_quiet ((go_at_call 85; exact Calls.quiet_of (hs _ (hC.same rfl))))
  go_wp2
  go_ret2
  exact ⟨rfl, _, rfl⟩

theorem at_no (b c : Nat) (i : Int) (w : World) (hi : i < 0 ∨ (c : Int) ≤ i) (h2 : w.cell? ⟨b, 2, none⟩ = some (.int .i64 c)) :
    Calls Try.prog 83 #[.pointer (some ⟨b, 0, none⟩), .int .i64 i] w fun e w' => e = .returned (.tuple #[.int .i64 0, .bool false]) ∧ w = w' := by
  rcases hi with hi | hi
  · go_enter Try.func83, Try.ntmps83
    go_wp2_with (go_at_call 78; refine (len_any b _ _ h2).mono ?_; rintro e w' ⟨rfl, rfl⟩)
    go_ret2
    exact ⟨rfl, rfl⟩
  · by_cases h0 : i < 0
    all_goals
      go_enter Try.func83, Try.ntmps83
      go_wp2_with (go_at_call 78; refine (len_any b _ _ h2).mono ?_; rintro e w' ⟨rfl, rfl⟩)
      go_ret2
      exact ⟨rfl, rfl⟩

theorem back_yes (b g n q f : Nat) (cs xs : List Int) (i : Nat) (w : World) (h : Ring w b g n q f cs xs) (hi : i < xs.length) :
    Calls Try.prog 77 #[.pointer (some ⟨b, 0, none⟩), .int .i64 i] w fun e w' => e = .returned (.tuple #[.int .i64 (xs.getD (xs.length - 1 - i) 0), .bool true]) ∧ ∃ k, w' = w.drewN k := by
  obtain ⟨c0, c1, c2⟩ := h.core.cells
  have hn := h.core.le
  have hq := h.core.cap
  have hr := h.core.room
  have hs := at_yes b g n q f cs xs (xs.length - 1 - i) w h (by omega)
  rw [show ((xs.length - 1 - i : Nat) : Int) = (xs.length : Int) - 1 - (i : Int) by omega] at hs
  generalize xs.getD (xs.length - 1 - i) 0 = v at *
  clear h
  generalize xs.length = c at *
  go_enter Try.func77, Try.ntmps77
  go_wp2_with (first
    | (go_at_call 78; refine (len_any b _ _ c2).mono ?_; rintro e w' ⟨rfl, rfl⟩)
    | (go_at_call 83; refine hs.mono ?_; rintro e w' ⟨rfl, k, rfl⟩))
  go_ret2
  exact ⟨rfl, _, rfl⟩

theorem back_no (b c : Nat) (i : Int) (w : World) (hi : i < 0 ∨ (c : Int) ≤ i) (hb : i ≤ 9223372036854775807) (hc : c ≤ 65536) (h2 : w.cell? ⟨b, 2, none⟩ = some (.int .i64 c)) :
    Calls Try.prog 77 #[.pointer (some ⟨b, 0, none⟩), .int .i64 i] w fun e w' => e = .returned (.tuple #[.int .i64 0, .bool false]) ∧ w = w' := by
  by_cases h0 : i < 0
  · clear hi
    go_enter Try.func77, Try.ntmps77
    go_wp2_with (go_at_call 83; refine (at_no b _ _ _ (.inl h0) h2).mono ?_; rintro e w' ⟨rfl, rfl⟩)
    go_ret2
    exact ⟨rfl, rfl⟩
  · have hi' : (c : Int) ≤ i := by omega
    clear hi
    go_enter Try.func77, Try.ntmps77
    go_wp2_with (first
      | (go_at_call 78; refine (len_any b _ _ h2).mono ?_; rintro e w' ⟨rfl, rfl⟩)
      | (go_at_call 83; refine (at_no b c _ _ (.inl (by omega)) h2).mono ?_; rintro e w' ⟨rfl, rfl⟩))
    go_ret2
    exact ⟨rfl, rfl⟩
end Go.Proofs.Ytejlhdmfcmhlaaa.RI64
end
section
/- What fixq's calls on single numbers answer, and the references' (clamps, floors, differences, signs, magnitudes). -/
set_option linter.unusedSimpArgs false
set_option linter.unusedVariables false
namespace Go.Proofs.Ytejlhdmfcmhlaaa
open Go.RowKit

theorem clamp_any (n lo hi : Int) (w : World) :
    Calls Try.prog 31 #[.int .i64 n, .int .i64 lo, .int .i64 hi] w fun e w' => e = .returned (.int .i64 (clampZ n lo hi)) ∧ w = w' := by
  unfold clampZ
  by_cases h1 : n < lo <;> by_cases h2 : hi < lo <;> by_cases h3 : hi < n
  all_goals
    go_enter Try.func31, Try.ntmps31
    go_wp2
    go_ret
    exact ⟨by simp [*], rfl⟩


theorem shift_any (n k : Int) (w : World) (hk : 0 ≤ k) :
    Calls Try.prog 59 #[.int .i64 n, .int .i64 k] w fun e w' => e = .returned (.int .i64 (n / 2 ^ min k.toNat 64)) ∧ w = w' := by
  go_enter Try.func59, Try.ntmps59
  go_wp2
  go_ret
  exact ⟨by simp [*], rfl⟩
theorem shift_neg (n k : Int) (w : World) (hk : k < 0) :
    Calls Try.prog 59 #[.int .i64 n, .int .i64 k] w fun e w' => e = .returned (.int .i64 n) ∧ w = w' := by
  go_enter Try.func59, Try.ntmps59
  go_wp2
  go_ret
  exact ⟨by simp [*], rfl⟩

end Go.Proofs.Ytejlhdmfcmhlaaa
end
section
/- What fixq's words of 64 bits, roots and products of 15 bits answer; and the references' floors and shifts; the chapter's examples hold. -/
set_option linter.unusedSimpArgs false
set_option linter.unusedVariables false
namespace Go.Proofs.Ytejlhdmfcmhlaaa
open Go.RowKit

def signZ (n : Int) : Int := IntKind.u64.wrap (n / 9223372036854775808)
theorem magnitude_any (n : Int) (w : World) (ha : fits64 n) :
    Calls Try.prog 73 #[.int .i64 n] w fun e w' => e = .returned (.int .u64 (n.natAbs : Int)) ∧ w = w' := by
  unfold fits64 at ha
  by_cases h : n < 0
  all_goals
    go_enter Try.func73, Try.ntmps73
    go_wp2
    go_ret
    refine ⟨?_, rfl⟩
  · exact ret_int (by rw [u64_wrap, u64_wrap]; omega)
  · exact ret_int (by omega)
def RootIs (n : Int) (e : Ending) : Prop := ∃ r : Int, e = .returned (.int .i64 r) ∧ 0 ≤ r ∧ r ≤ 3037000499 ∧ r * r ≤ n ∧ n < (r + 1) * (r + 1)
theorem root_low (n r : Int) (h : r * r ≤ n) (h0 : 0 ≤ r) (hn : n ≤ 9223372036854775807) : r ≤ 3037000499 := by
  rcases (by omega : 3037000499 < r ∨ r ≤ 3037000499) with h1 | h1
  · have := Int.mul_le_mul (a := 3037000500) (b := 3037000500) (c := r) (d := r) (by omega) (by omega) (by omega) (by omega)
    omega
  · exact h1
theorem sq_le (x : Int) (h0 : 0 ≤ x) (h : x ≤ 4294967295) : 0 ≤ x * x ∧ x * x ≤ 18446744073709551615 := by
  have h1 := Int.mul_le_mul (a := x) (b := x) (c := 4294967295) (d := 4294967295) h h h0 (by omega)
  have h2 := Int.mul_nonneg h0 h0
  omega
theorem root_0 {e : Ending} (h : RootIs 0 e) : e = .returned (.int .i64 0) := by
  obtain ⟨r, rfl, h0, _, hl, hh⟩ := h
  rcases (by omega : r = 0 ∨ 1 ≤ r) with h1 | h1
  · exact ret_int h1
  · have := Int.mul_le_mul (a := 1) (b := 1) (c := r) (d := r) h1 h1 (by omega) (by omega)
    omega
theorem root_99 {e : Ending} (h : RootIs 99 e) : e = .returned (.int .i64 9) := by
  obtain ⟨r, rfl, h0, _, hl, hh⟩ := h
  have h1 : r ≤ 9 := by
    rcases (by omega : 10 ≤ r ∨ r ≤ 9) with h1 | h1
    · have := Int.mul_le_mul (a := 10) (b := 10) (c := r) (d := r) h1 h1 (by omega) (by omega)
      omega
    · exact h1
  have h2 : 9 ≤ r := by
    rcases (by omega : r + 1 ≤ 9 ∨ 9 ≤ r) with h2 | h2
    · have := Int.mul_le_mul (a := r + 1) (b := r + 1) (c := 9) (d := 9) h2 h2 (by omega) (by omega)
      omega
    · exact h2
  exact ret_int (by omega)


def shiftZ (n k : Int) : Int := n / 2 ^ min k.toNat 63
theorem shift_is (n k : Int) (w : World) (hn : fits64 n) :
    Calls Try.prog 59 #[.int .i64 n, .int .i64 k] w fun e w' => e = .returned (.int .i64 (shiftZ n k)) ∧ w = w' := by
  unfold fits64 at hn
  rcases (by omega : k < 0 ∨ 0 ≤ k) with h | h
  · refine (shift_neg n k w h).mono fun e w' ⟨he, hw⟩ => ⟨?_, hw⟩
    rw [he]
    exact ret_int (by unfold shiftZ; rw [show k.toNat = 0 by omega]; simp)
  · refine (shift_any n k w h).mono fun e w' ⟨he, hw⟩ => ⟨?_, hw⟩
    rw [he]
    refine ret_int ?_
    unfold shiftZ
    rcases Nat.lt_or_ge k.toNat 64 with h1 | h1
    · rw [show min k.toNat 64 = min k.toNat 63 by omega]
    · rw [show min k.toNat 64 = 64 by omega, show min k.toNat 63 = 63 by omega]
      omega

theorem mul32_in (x y : Int) (hx : -2147483648 ≤ x ∧ x ≤ 2147483647) (hy : -2147483648 ≤ y ∧ y ≤ 2147483647) : fits64 (x * y) := by
  have h1 : (x * y).natAbs ≤ 2147483648 * 2147483648 := by
    rw [Int.natAbs_mul]; exact Nat.mul_le_mul (by omega) (by omega)
  unfold fits64; omega
end Go.Proofs.Ytejlhdmfcmhlaaa
end
section
/- What the reference's Div answers: floors of quotients. -/
set_option linter.unusedSimpArgs false
set_option linter.unusedVariables false
namespace Go.Proofs.Ytejlhdmfcmhlaaa
open Go.RowKit

theorem tmod_of (n b : Int) : n.tdiv b * b = n - n.tmod b := by
  have h := Int.tmod_add_mul_tdiv n b
  have e : n.tdiv b * b = b * n.tdiv b := Int.mul_comm _ _
  omega
theorem tdiv_mul_in (n b : Int) (hn : fits64 n) : -9223372036854775808 ≤ n.tdiv b * b ∧ n.tdiv b * b ≤ 9223372036854775807 := by
  unfold fits64 at hn
  have h1 : (n.tdiv b * b).natAbs ≤ n.natAbs := by
    rw [Int.natAbs_mul, natAbs_tdiv']; exact Nat.div_mul_le_self _ _
  have h2 : n.tdiv b * b ≠ 9223372036854775808 := by
    intro h
    have h3 : n = -9223372036854775808 := by omega
    have h4 := tmod_of n b
    have h5 := Int.tmod_nonneg (a := -n) b (by omega)
    have h7 := Int.neg_tmod n b
    have h6 : (n.tmod b).natAbs ≤ n.natAbs := by rw [Int.natAbs_tmod]; exact Nat.mod_le _ _
    omega
  omega
theorem refdiv_zero (n : Int) (w : World) :
    Calls Try.prog 38 #[.int .i64 n, .int .i64 0] w fun e w' => e = .returned (.tuple #[.int .i64 0, .int .i64 1]) ∧ w = w' := by
  go_enter Try.func38, Try.ntmps38
  go_wp2
  go_ret2
  exact ⟨rfl, rfl⟩
theorem refdiv_over (w : World) :
    Calls Try.prog 38 #[.int .i64 (-9223372036854775808), .int .i64 (-1)] w fun e w' => e = .returned (.tuple #[.int .i64 0, .int .i64 9]) ∧ w = w' := by
  go_enter Try.func38, Try.ntmps38
  go_wp2
  go_ret2
  exact ⟨rfl, rfl⟩
theorem refdiv_yes (n b : Int) (w : World) (hn : fits64 n) (hb : b ≠ 0) (h : ¬ (n = -9223372036854775808 ∧ b = -1)) :
    Calls Try.prog 38 #[.int .i64 n, .int .i64 b] w fun e w' => e = .returned (.tuple #[.int .i64 (n.fdiv b), .int .i64 0]) ∧ w = w' := by
  have hq := tdiv_in n b hn hb h
  have hw : IntKind.i64.wrap (n.tdiv b) = n.tdiv b := IntWalk.i64_in _ hq
  have hp := tdiv_mul_in n b hn
  have hf0 := fdiv_of n b hb
  have hi := fdiv_in n b hn hb h
  have hm : ¬ ((n == -9223372036854775808) = true ∧ (b == -1) = true) := by simpa using h
  have hb0 : (b == 0) = false := by simpa using hb
  have ht : (n.tdiv b * b != n) = (n.tmod b != 0) := by
    rw [Bool.eq_iff_iff]; simp; have := tmod_of n b; omega
  clear hn h
  rcases hr : (n.tdiv b * b != n) <;> rcases h1 : decide (n < 0) <;> rcases h2 : decide (b < 0) <;> rcases h3 : (n == -9223372036854775808) <;> rcases h4 : (b == -1)
  all_goals simp only [h3, h4, and_self, not_true_eq_false] at hm
  all_goals
    clear hm
    rw [h1, h2] at hf0
    have hr' := ht.symm.trans hr
    clear ht
    simp only [bne_eq_false_iff_eq, bne_iff_ne] at hr'
    simp [hr'] at hf0
    have hf := Lib.hid hf0
    rw [hf0] at hi
    clear hf0 hr'
    go_enter Try.func38, Try.ntmps38
    go_wp2
    all_goals
      go_ret2
      refine ⟨?_, rfl⟩
      rw [hf.out]
      rfl
end Go.Proofs.Ytejlhdmfcmhlaaa
end
section
/- A ring of int64: letting the first things go. -/
set_option linter.unusedSimpArgs false
set_option linter.unusedVariables false
namespace Go.Proofs.Ytejlhdmfcmhlaaa.RI64
open Go.RowKit

def Dropping (w : World) (b g n q f : Nat) (xs : List Int) (m : Nat) (i : Value) (wr : World) : Prop :=
  ∃ k, k ≤ m ∧ i = .int .i64 (k : Nat) ∧ Turned b g w wr ∧ ∃ cs, Core wr b g n q f xs.length cs ∧ ∀ i, k ≤ i → i < xs.length → cs.getD ((f + i) % n) 0 = xs.getD i 0
set_option maxHeartbeats 1000000 in
theorem drop_any (b g n q f : Nat) (cs xs : List Int) (m : Nat) (w : World) (h : Ring w b g n q f cs xs) (hm : m ≤ xs.length) :
    Calls Try.prog 82 #[.pointer (some ⟨b, 0, none⟩), .int .i64 m] w fun e w' => e = .returned (.tuple #[]) ∧ Became w b g n q ((f + m) % n) (xs.drop m) w' := by
  have hn := h.core.le
  have hq := h.core.cap
  have hr := h.core.room
  have hT := Turned.refl b g w
  go_enter Try.func82, Try.ntmps82
  go_wp2
  go_loopw [7] (fun i wr => Dropping w b g n q f xs m i wr) (fun i _ => m - (intOf i).toNat)
  case atStart => exact ⟨0, by omega, rfl, hT, cs, h.core, fun i _ hi => h.at_ i hi⟩
  case round =>
    clear h hT
    obtain ⟨k, hk, rfl, hT, cs', hC, hat⟩ := hrel
    obtain ⟨c0, c1, c2⟩ := hC.cells
    obtain ⟨z1, z2⟩ := hC.froz
    have hf := hC.first
    by_cases hlt : k < m
    · have hj : (f + k) % n < n := Nat.mod_lt _ (by omega)
      have hcell := hC.slot_ _ hj
      have hfz := hC.slotz ((f + k) % n)
      have hs := fun W (hW : Core W b g n q f xs.length cs') => slot_any b g n q f _ cs' k W hW (by omega)
      have hat' : ∀ i, k + 1 ≤ i → i < xs.length → (cs'.set ((f + k) % n) 0).getD ((f + i) % n) 0 = xs.getD i 0 := fun i h1 h2 => by
        rw [getD_set _ _ _ _ _ (by rw [hC.size]; exact hj), if_neg (rot_ne (by omega) (by omega) (by omega))]
        exact hat i (by omega) h2
      have HAT := Lib.hid hat'
      clear hat hat'
      generalize (f + k) % n = p at *
      generalize cs'.getD p 0 = old at *
      go_wp2
      go_region_with (go_at_call 85; refine (hs _ (by exact hC.same rfl)).mono ?_; rintro e W2 ⟨rfl, kk, rfl⟩)
      all_goals
        go_wp2
        go_roundw
        case rel => exact ⟨k + 1, by omega, by go_num, (hT.setCell (p := ⟨g, p, none⟩) (.inr (.inl rfl)) (.int .i64 0)).like rfl rfl rfl rfl, _, (hC.put p hj 0).same rfl, HAT.out⟩
        case measure => simp [intOf]; omega
    · have hk' : k = m := by omega
      subst hk'
      have hj : (f + k) % n < n := Nat.mod_lt _ (by omega)
      have hs := fun W (hW : Core W b g n q f xs.length cs') => slot_any b g n q f _ cs' k W hW (by omega)
      have hat' : ∀ i, i < (xs.drop k).length → cs'.getD (((f + k) % n + i) % n) 0 = (xs.drop k).getD i 0 := fun i hi => by
        rw [rot_add, getD_drop]
        rw [List.length_drop] at hi
        exact hat (k + i) (by omega) (by omega)
      have HL := Lib.hid (show (xs.drop k).length = xs.length - k from List.length_drop)
      have HAT := Lib.hid hat'
      clear hat hat'
      generalize hp : (f + k) % n = p at *
      generalize hys : xs.drop k = ys at *
      generalize hc : xs.length = c at *
      have HP := Lib.hid hp
      have HY := Lib.hid hys
      have HC := Lib.hid hc
      clear hp hys hc
      go_wp2_with (go_at_call 85; refine (hs _ (by exact hC.same rfl)).mono ?_; rintro e W2 ⟨rfl, kk, rfl⟩)
      go_end0
      refine ⟨rfl, cs', ?_, ?_⟩
      · rw [HP.out, HY.out]
        refine ⟨?_, HAT.out⟩
        have hC2 := ((hC.first_ p hj).count_ (c - k) (by omega))
        rw [HL.out, show ((c - k : Nat) : Int) = (c : Int) - (k : Int) by omega] at *
        exact hC2.same rfl
      · exact ((hT.setCell (p := ⟨b, 1, none⟩) (.inl rfl) _).setCell (p := ⟨b, 2, none⟩) (.inl rfl) _).like rfl rfl rfl rfl
end Go.Proofs.Ytejlhdmfcmhlaaa.RI64
end
section
/- A ring of int64: made. -/
set_option linter.unusedSimpArgs false
set_option linter.unusedVariables false
namespace Go.Proofs.Ytejlhdmfcmhlaaa.RI64
open Go.RowKit

theorem made_cells (m : Nat) : madeCells #[Value.int .i64 0] (m * 1) = Array.replicate m (Value.int .i64 0) := by
  rw [Nat.mul_one]
  apply Array.ext
  · simp [madeCells]
  · intro i h1 h2
    simp [madeCells, Nat.mod_one]
theorem rep_cells (m : Nat) : Array.replicate m (Value.int .i64 0) = ((List.replicate m 0).map fun (v : Int) => Value.int .i64 v).toArray := by simp
set_option maxRecDepth 100000 in
theorem make_run (m : Nat) (hm : m ≤ 65536) (W : World) : (Instr.makeSlice 63 (.int .i64 (m : Int)) (.int .i64 (m : Int))).run Try.prog W =
    .ok (.slice (some ⟨W.heap.size, 0, none⟩) m m) (W.alloc (.cells (Array.replicate m (Value.int .i64 0)) 2)) := by
  obtain ⟨i, hi, hz, h1, h2⟩ : ∃ i, Try.prog.info? 2 = some i ∧ i.zero = some (Value.int .i64 0) ∧ i.size = 1 ∧ i.bytes ≤ 16 := by
    refine ⟨_, rfl, ?_, ?_, ?_⟩ <;> first | rfl | decide
  have hr := run_make (P := Try.prog) W 63 2 i _ Try.underlying63 hi hz .i64 .i64 (m : Int) (m : Int) (by omega) (by omega) (by
    have : (i.bytes : Int) * (m : Int) ≤ 16 * 65536 := Int.mul_le_mul (by omega) (by omega) (by omega) (by omega)
    omega) (by omega)
  simp only [Int.toNat_natCast, h1] at hr
  rw [show (Value.int .i64 0).cells = #[Value.int .i64 0] from rfl, made_cells] at hr
  exact hr

theorem new_no (log : Int) (w : World) (h : log < 0 ∨ 16 < log) :
    Calls Try.prog 53 #[.int .i64 log] w fun e w' => e = .returned (.tuple #[.pointer none, .int .i64 1]) ∧ w = w' := by
  rcases h with h | h
  · go_enter Try.func53, Try.ntmps53
    go_wp2
    go_ret2
    exact ⟨rfl, rfl⟩
  · have h0 : ¬ log < 0 := by omega
    go_enter Try.func53, Try.ntmps53
    go_wp2
    go_ret2
    exact ⟨rfl, rfl⟩

theorem new_ring (k : Nat) (hk : k ≤ 16) (w : World) :
    Ring ((w.alloc (.cells (Array.replicate (2 ^ k) (Value.int .i64 0)) 2)).alloc (.cells #[.slice (some ⟨w.heap.size, 0, none⟩) (2 ^ k) (2 ^ k), .int .i64 0, .int .i64 0] 108))
      (w.heap.size + 1) w.heap.size (2 ^ k) (2 ^ k) 0 (List.replicate (2 ^ k) 0) [] := by
  have hp : 0 < 2 ^ k := Nat.pos_of_ne_zero (by simp)
  refine ⟨⟨?_, ⟨[], by rw [List.append_nil, ← rep_cells]; exact (Has.new w _ _).alloc _⟩, by simp, hp, by simp, ⟨k, hk, rfl⟩, Nat.le_refl _, by have := Nat.pow_le_pow_right (show 0 < 2 by omega) hk; omega⟩, fun i hi => absurd hi (by simp)⟩
  have h := Has.new (w.alloc (.cells (Array.replicate (2 ^ k) (Value.int .i64 0)) 2)) 108 #[.slice (some ⟨w.heap.size, 0, none⟩) (2 ^ k) (2 ^ k), .int .i64 0, .int .i64 0]
  rw [show (w.alloc (.cells (Array.replicate (2 ^ k) (Value.int .i64 0)) 2)).heap.size = w.heap.size + 1 by simp] at h
  exact h
theorem new_yes (k : Nat) (hk : k ≤ 16) (w : World) :
    Calls Try.prog 53 #[.int .i64 (k : Int)] w fun e w' => e = .returned (.tuple #[.pointer (some ⟨w.heap.size + 1, 0, none⟩), .int .i64 0]) ∧
      Ring w' (w.heap.size + 1) w.heap.size (2 ^ k) (2 ^ k) 0 (List.replicate (2 ^ k) 0) [] ∧ Below w.heap.size w w' ∧ w'.heap.size = w.heap.size + 2 := by
  have hp : (2 : Nat) ^ k ≤ 65536 := (Nat.pow_le_pow_right (by omega) hk : 2 ^ k ≤ 2 ^ 16)
  have hR := new_ring k hk w
  obtain ⟨n, hn⟩ : ∃ n, (2 : Nat) ^ k = n := ⟨_, rfl⟩
  have hw : wrap64 ((2 : Int) ^ k) = (n : Int) := by
    have h1 : ((2 : Int) ^ k) = ((2 ^ k : Nat) : Int) := by rw [Int.natCast_pow]; rfl
    rw [h1, hn]
    unfold wrap64
    omega
  rw [hn] at hp hR ⊢
  clear hn
  have hmk := fun W => make_run n hp W
  have HR := Lib.hid hR
  clear hR
  go_enter Try.func53, Try.ntmps53
  go_wp2
  go_ret2
  exact ⟨rfl, HR.out, ((Below.refl _ _).alloc (Nat.le_refl _) _).alloc (by simp) _, by simp⟩
end Go.Proofs.Ytejlhdmfcmhlaaa.RI64
end
section
/- Slices of structs of whole numbers, booleans and strings that came in (structs within structs, too), and slices of those: as rows. Of no program. -/
set_option linter.unusedSimpArgs false
set_option linter.unusedVariables false
namespace Go.Proofs.Ytejlhdmfcmhlaaa.Row
open Go.ChangeShapes Go.WideShapes Go.Deep Go.RowKit
/-- What a cell holds. -/
inductive Kind where
  | int (k : IntKind)
  | bool
  | str
def Kind.ok : Kind → Value → Prop
  | .int k, v => ∃ n, v = .int k n ∧ (Lit.int k n).wf = true
  | .bool, v => ∃ b, v = .bool b
  | .str, v => ∃ s : ByteArray, v = .string s ∧ s.size ≤ maxLen
mutual
/-- What the cells of a type hold, one after the other. -/
def kindsOf (P : Program) : Nat → TypeId → Option (List Kind)
  | 0, _ => none
  | n + 1, t => match P.underlying t with
    | some (.int k) => some [.int k]
    | some .bool => some [.bool]
    | some .string => some [.str]
    | some (.struct fs) => match fieldKinds P n fs.toList 0 with
      | some ks => if P.cellsOf t = ks.length then some ks else none
      | none => none
    | _ => none
def fieldKinds (P : Program) : Nat → List Field → Nat → Option (List Kind)
  | 0, _, _ => none
  | _ + 1, [], _ => some []
  | n + 1, f :: fs, o => match kindsOf P n f.type with
    | some ks => if f.offset = o ∧ P.cellsOf f.type = ks.length then (match fieldKinds P n fs (o + ks.length) with | some r => some (ks ++ r) | none => none) else none
    | none => none
end
section
variable {H : Type} {enc : TypeId × Value → H} {P : Program} {w : World} {base : Nat} {spare : Nat → Bool} {held : Bool}
/-- These cells hold that. -/
def Oks (ks : List Kind) (cs : List Value) : Prop := cs.length = ks.length ∧ ∀ (i : Nat) (k : Kind), ks[i]? = some k → ∃ v, cs[i]? = some v ∧ k.ok v
theorem oks_one {k : Kind} {v : Value} (h : k.ok v) : Oks [k] [v] := ⟨rfl, fun i k' hk => by
  cases i with
  | zero => simp at hk; subst hk; exact ⟨v, rfl, h⟩
  | succ i => simp at hk⟩
theorem oks_all : ∀ (m : Nat),
    (∀ (t : TypeId) (ks : List Kind) (fuel : Nat) (cs : List Value) (x : DataW H × List MemPlace), kindsOf P m t = some ks → DataW.trod enc P w base spare held fuel t cs = some x → Oks ks cs) ∧
    (∀ (fs : List Field) (o : Nat) (ks : List Kind) (fuel : Nat) (cs : List Value), fieldKinds P m fs o = some ks → cs.length = o + ks.length →
      (∀ (f : Field), f ∈ fs → ∃ x, DataW.trod enc P w base spare held fuel f.type ((cs.drop f.offset).take (P.cellsOf f.type)) = some x) → Oks ks (cs.drop o))
  | 0 => ⟨fun t ks fuel cs x h => by simp [kindsOf] at h, fun fs o ks fuel cs h => by simp [fieldKinds] at h⟩
  | m + 1 => by
    obtain ⟨ih1, ih2⟩ := oks_all m
    refine ⟨fun t ks fuel cs x hk h => ?_, fun fs o ks fuel cs hk hl h => ?_⟩
    · unfold kindsOf at hk
      split at hk
      · rename_i k hu
        obtain ⟨n, rfl, _, hw⟩ := DataW.trod_int hu h
        injection hk with hk
        subst hk
        exact oks_one ⟨n, rfl, hw⟩
      · rename_i hu
        obtain ⟨b, rfl, _⟩ := DataW.trod_bool hu h
        injection hk with hk
        subst hk
        exact oks_one ⟨b, rfl⟩
      · rename_i hu
        obtain ⟨s, rfl, _, hs⟩ := DataW.trod_string hu h
        injection hk with hk
        subst hk
        exact oks_one ⟨s, rfl, hs⟩
      · rename_i fs hu
        split at hk
        · rename_i ks' hks
          split at hk
          · rename_i hc
            injection hk with hk
            subst hk
            obtain ⟨xs, n, rfl, _, hlen, hxl, hf⟩ := DataW.trod_struct hu h
            have := ih2 fs.toList 0 ks' n cs hks (by omega) (fun f hm => by
              obtain ⟨i, hi, rfl⟩ := List.getElem_of_mem hm
              have hi' : i < fs.size := by simpa using hi
              have h9 := hf i fs[i] (by rw [Array.getElem?_eq_getElem hi'])
              rw [List.getElem?_eq_getElem (by omega)] at h9
              exact ⟨_, by simpa using h9⟩)
            rwa [List.drop_zero] at this
          · cases hk
        · cases hk
      · cases hk
    · cases fs with
      | nil =>
        simp [fieldKinds] at hk
        subst hk
        refine ⟨by simp; simp at hl; omega, fun i k hi => by simp at hi⟩
      | cons f fs =>
        unfold fieldKinds at hk
        split at hk
        · rename_i k1 hk1
          split at hk
          · rename_i hc
            obtain ⟨ho, hce⟩ := hc
            split at hk
            · rename_i r hr
              injection hk with hk
              subst hk
              obtain ⟨x, hx⟩ := h f (by simp)
              have h1 := ih1 f.type k1 fuel _ x hk1 hx
              have h2 := ih2 fs (o + k1.length) r fuel cs hr (by rw [List.length_append] at hl; omega) (fun g hg => h g (by simp [hg]))
              rw [ho, hce] at h1
              refine ⟨by rw [List.length_drop, List.length_append]; rw [List.length_append] at hl; omega, fun i k hi => ?_⟩
              rcases Nat.lt_or_ge i k1.length with h3 | h3
              · rw [List.getElem?_append_left h3] at hi
                obtain ⟨v, hv, hok⟩ := h1.2 i k hi
                rw [List.getElem?_take, if_pos h3] at hv
                exact ⟨v, hv, hok⟩
              · rw [List.getElem?_append_right h3] at hi
                obtain ⟨v, hv, hok⟩ := h2.2 _ k hi
                rw [List.getElem?_drop] at hv ⊢
                rw [show o + i = o + k1.length + (i - k1.length) by omega]
                exact ⟨v, hv, hok⟩
            · cases hk
          · cases hk
        · cases hk
/-- A slice of structs that came in: as a row of things of which each lies as the shape says. -/
structure IsFlat {α : Type} (S : Shape α) (Q : α → Prop) (w : World) (a : Option Addr) (len cap : Nat) (ys : List α) : Prop where
  row : Vals S w a len ys
  each : ∀ z ∈ ys, Q z
  le : len ≤ cap
  max : cap ≤ 9223372036854775807
  far : 0 < len → ∀ x, a = some x → x.block < w.heap.size
theorem flat_of {α : Type} (S : Shape α) (Q : α → Prop) {t e : TypeId} {ks : List Kind} {fuel : Nat} {a : Option Addr} {len cap : Nat} {x : DataW H × List MemPlace} (ht : P.underlying t = some (.slice e)) (hk : kindsOf P 20 e = some ks) (hc : P.cellsOf e = ks.length) (hS : S.k = ks.length)
    (hdec : ∀ vs : List Value, Oks ks vs → ∃ z : α, S.enc z = vs ∧ Q z)
    (h : DataW.trod enc P w base (fun _ => true) held fuel t [.slice a len cap] = some x) : ∃ ys : List α, IsFlat S Q w a len cap ys := by
  rcases open_slice ht h with ⟨h0, _⟩ | ⟨y, l, c, m, n, D, Pl, hcs, hb, hl, hm, hmm, hx, hi⟩
  · simp at h0
    obtain ⟨rfl, rfl, rfl⟩ := h0
    exact ⟨[], ⟨rfl, fun h => absurd h (by omega)⟩, (fun z hz => by cases hz), by omega, by omega, fun h => absurd h (by omega)⟩
  · simp at hcs
    obtain ⟨rfl, rfl, rfl⟩ := hcs
    simp only [if_true] at hmm
    subst hmm
    unfold maxLen at hm
    have each : ∀ r, r < m → ∃ z : α, Q z ∧ ∀ i u, (S.enc z)[i]? = some u → w.cell? (y.add (r * S.k + i)) = some u := fun r hr => by
      obtain ⟨cs', hcc, ht'⟩ := hi r hr
      obtain ⟨_, hcl, hat⟩ := World.cells?_some hcc
      obtain ⟨z, hz, hq⟩ := hdec cs' ((oks_all 20).1 e ks n cs' _ hk ht')
      refine ⟨z, hq, fun i u hu => ?_⟩
      rw [hz] at hu
      have hi9 : i < P.cellsOf e := by rw [← hcl]; exact (List.getElem?_eq_some_iff.1 hu).1
      have := hat i hi9
      rw [add_add, hu, hc, ← hS] at this
      exact this
    have hz0 : 0 < len → ∃ z : α, Q z := fun h0 => by obtain ⟨z, hq, _⟩ := each 0 (by omega); exact ⟨z, hq⟩
    rcases Nat.eq_zero_or_pos len with h0 | h0
    · subst h0
      exact ⟨[], ⟨rfl, fun h => absurd h (by omega)⟩, (fun z hz => by cases hz), by omega, by omega, fun h => absurd h (by omega)⟩
    · obtain ⟨z0, _⟩ := hz0 h0
      have inst : Inhabited α := ⟨z0⟩
      obtain ⟨f, hf⟩ := choose_lt each
      refine ⟨(List.range len).map f, ⟨by simp, fun _ => ⟨y, rfl, fun j u hu => ?_⟩⟩, (fun z hz => ?_), hl, by omega, fun _ x hx => ?_⟩
      · have hj : j < (flat S ((List.range len).map f)).length := (List.getElem?_eq_some_iff.1 hu).1
        rw [flat_length, List.length_map, List.length_range] at hj
        have hkp := S.pos
        have hdm := Nat.div_add_mod j S.k
        have hd : j / S.k < len := Nat.div_lt_of_lt_mul (by rwa [Nat.mul_comm] at hj)
        have hmo : j % S.k < S.k := Nat.mod_lt _ hkp
        have hg := flat_get (S := S) ((List.range len).map f) (j / S.k) (j % S.k) (by simpa using hd) hmo
        rw [show j / S.k * S.k + j % S.k = j by rw [Nat.mul_comm]; exact hdm, hu] at hg
        have h9 := (hf (j / S.k) (by omega)).2 (j % S.k) u (by rw [hg]; simp)
        rwa [show j / S.k * S.k + j % S.k = j by rw [Nat.mul_comm]; exact hdm] at h9
      · obtain ⟨r, hr, rfl⟩ := List.mem_map.1 hz
        exact (hf r (by have := List.mem_range.1 hr; omega)).1
      · injection hx with hx
        subst hx
        have h9 : 0 < (S.enc (f 0)).length := by rw [S.len]; exact S.pos
        have := World.block_lt_of_cell? _ _ ((hf 0 (by omega)).2 0 _ (List.getElem?_eq_getElem h9))
        rwa [block_add] at this
/-- A slice of such slices that came in. -/
def IsFlats {α : Type} (S : Shape α) (Q : α → Prop) (w : World) (a : Option Addr) (len cap : Nat) : Prop :=
  (a = none ∧ len = 0 ∧ cap = 0) ∨ ∃ x, a = some x ∧ len ≤ cap ∧ cap ≤ 9223372036854775807 ∧ ∀ r, r < cap → ∃ A L C ys, w.cell? (x.add r) = some (.slice A L C) ∧ IsFlat S Q w A L C ys
theorem flats_of {α : Type} (S : Shape α) (Q : α → Prop) {t e q : TypeId} {ks : List Kind} {fuel : Nat} {a : Option Addr} {len cap : Nat} {x : DataW H × List MemPlace} (ht : P.underlying t = some (.slice e)) (ce : P.cellsOf e = 1) (he : P.underlying e = some (.slice q)) (hk : kindsOf P 20 q = some ks) (hc : P.cellsOf q = ks.length) (hS : S.k = ks.length)
    (hdec : ∀ vs : List Value, Oks ks vs → ∃ z : α, S.enc z = vs ∧ Q z)
    (h : DataW.trod enc P w base (fun _ => true) held fuel t [.slice a len cap] = some x) : IsFlats S Q w a len cap := by
  rcases open_slice1 ht ce h with ⟨h0, _⟩ | ⟨y, l, c, m, n, V, D, Pl, hcs, hb, hl, hm, hmm, hx, hi⟩
  · simp at h0
    obtain ⟨rfl, rfl, rfl⟩ := h0
    exact .inl ⟨rfl, rfl, rfl⟩
  · simp at hcs
    obtain ⟨rfl, rfl, rfl⟩ := hcs
    simp only [if_true] at hmm
    subst hmm
    unfold maxLen at hm
    refine .inr ⟨y, rfl, hl, by omega, fun r hr => ?_⟩
    obtain ⟨h1, h2⟩ := hi r hr
    rcases open_slice he h2 with ⟨h0, _⟩ | ⟨y2, l2, c2, m2, n2, D2, Pl2, hcs, _⟩
    · simp at h0
      rw [h0] at h1 h2
      obtain ⟨ys, hZ⟩ := flat_of S Q he hk hc hS hdec h2
      exact ⟨_, _, _, ys, h1, hZ⟩
    · simp at hcs
      rw [hcs] at h1 h2
      obtain ⟨ys, hZ⟩ := flat_of S Q he hk hc hS hdec h2
      exact ⟨_, _, _, ys, h1, hZ⟩
end
end Go.Proofs.Ytejlhdmfcmhlaaa.Row
end
section
/- The reference of the line: what its calls answer of all that came. -/
set_option linter.unusedSimpArgs false
set_option linter.unusedVariables false
namespace Go.Proofs.Ytejlhdmfcmhlaaa
open Go.RowKit RI64

theorem rev_at (h : List Int) (k : Nat) (hk : k < h.length) : h.reverse.getD (h.length - 1 - k) 0 = h.getD k 0 := by
  rw [List.getD_eq_getElem?_getD, List.getElem?_reverse (by omega), show h.length - 1 - (h.length - 1 - k) = k by omega, List.getD_eq_getElem?_getD]
theorem refback_any (A : Option Addr) (len c : Nat) (h : List Int) (k : Int) (w : World) (hv : Vals w A len h.reverse) (hl : len ≤ 9223372036854775807) :
    Calls Try.prog 37 #[.slice A len c, .int .i64 k] w fun e w' => e = .returned (.int .i64 (ago h k)) ∧ ∃ d, w' = w.drewN d := by
  have hlen : h.length = len := by have := hv.len_; simpa using this
  rcases Decidable.em (k < 0) with h0 | h0
  · rw [ago_neg h k h0]
    go_enter Try.func37, Try.ntmps37
    go_wp2
    go_ret
    exact ⟨rfl, 0, rfl⟩
  · rcases Decidable.em ((len : Int) ≤ k) with h1 | h1
    · rw [ago_far h k (by omega)]
      go_enter Try.func37, Try.ntmps37
      go_wp2
      go_ret
      exact ⟨rfl, 0, rfl⟩
    · obtain ⟨j, rfl⟩ : ∃ j : Nat, k = (j : Int) := ⟨k.toNat, by omega⟩
      have hj : j < len := by omega
      obtain ⟨x, rfl, hx⟩ := hv.cells (by omega)
      have hc := hx (len - 1 - j) (by omega)
      have hr := rev_at h j (by omega)
      rw [hlen] at hr
      rw [hr] at hc
      rw [ago_nat]
      generalize h.getD j 0 = v at *
      obtain ⟨m, hm⟩ : ∃ m, len - 1 - j = m := ⟨_, rfl⟩
      rw [hm] at hc
      have he : (len : Int) - 1 - (j : Int) = (m : Int) := by omega
      have hml : m < len := by omega
      have he1 : IntKind.i64.wrap ((len : Int) - 1) = (len : Int) - 1 := IntWalk.i64_in _ (by omega)
      have he2 : IntKind.i64.wrap ((len : Int) - 1 - (j : Int)) = (m : Int) := by rw [he]; exact IntWalk.i64_in _ (by omega)
      clear hx hv hm hr hlen
      go_enter Try.func37, Try.ntmps37
      go_wp2
      first
      | (go_ret; exact ⟨rfl, 0, rfl⟩)
      | (go_quiet (fail)
         go_wp2
         go_ret
         exact ⟨rfl, _, rfl⟩)
end Go.Proofs.Ytejlhdmfcmhlaaa
end
section
/- What the references of the filters share: the nearest value, and whether two lists are the same. -/
set_option linter.unusedSimpArgs false
set_option linter.unusedVariables false
namespace Go.Proofs.Ytejlhdmfcmhlaaa
open Go.RowKit RI64
/-- One value in memory of its own, ready to be appended to an own row. -/
theorem one_ready {w W : World} {base : Nat} {v : Value} {k : Nat} {xs : List Int} (t : TypeId) (r : Int) (hO : W.ownsRow base t 1 v k (vals xs)) (hB : Below w.heap.size w W) :
    (W.alloc (.cells #[.int .i64 r] t)).ownsRow base t 1 v k (vals xs) ∧ Below w.heap.size w (W.alloc (.cells #[.int .i64 r] t)) ∧ Vals (W.alloc (.cells #[.int .i64 r] t)) (some ⟨W.heap.size, 0, none⟩) 1 [r] :=
  ⟨own_kept hO ((Kept.refl [] _).alloc _) (by simp), hB.alloc hB.size _, Vals.has (ys := [r]) (tl := []) (Has.new W _ _)⟩
theorem own_drewN {W : World} {base : Nat} {t : TypeId} {v : Value} {k : Nat} {xs : List Value} (hO : W.ownsRow base t 1 v k xs) (z : Nat) : (W.drewN z).ownsRow base t 1 v k xs := own_kept hO ((Kept.refl [] _).drewN z) (by simp)
theorem refnear_to (B v : Int) (w : World) (hB : 0 ≤ B) (hB2 : B ≤ 9223372036854775807) :
    Calls Try.prog 36 #[.int .i64 v, .int .i64 B] w fun e w' => e = .returned (.int .i64 (nearTo B v)) ∧ w = w' := by
  have hb0 : -9223372036854775808 ≤ -B ∧ -B ≤ 9223372036854775807 := by omega
  unfold nearTo
  by_cases h1 : B < v
  · rw [if_pos h1]
    go_enter Try.func36, Try.ntmps36
    go_wp2
    go_ret
    exact ⟨rfl, rfl⟩
  · rw [if_neg h1]
    by_cases h2 : v < -B
    · rw [if_pos h2]
      go_enter Try.func36, Try.ntmps36
      go_wp2
      go_ret
      exact ⟨rfl, rfl⟩
    · rw [if_neg h2]
      go_enter Try.func36, Try.ntmps36
      go_wp2
      go_ret
      exact ⟨rfl, rfl⟩
end Go.Proofs.Ytejlhdmfcmhlaaa
end
section
/- What fixq.Add answers of the numbers of a slice. -/
set_option linter.unusedSimpArgs false
set_option linter.unusedVariables false
namespace Go.Proofs.Ytejlhdmfcmhlaaa
open Go.RowKit

/-- The slice (a, len) reads as the numbers xs, each of them one of 64 bits. -/
structure Ints (w : World) (a : Option Addr) (len : Nat) (xs : List Int) : Prop where
  len_ : xs.length = len
  bound : len ≤ 17592186044416
  wf : ∀ n ∈ xs, fits64 n
  cells : 0 < len → ∃ x, a = some x ∧ ∀ i, i < len → w.cell? (x.add i) = some (.int .i64 (xs.getD i 0))

theorem cell_below {w w' : World} (hb : Below w.heap.size w w') {p : Addr} {v : Value} (h : w.cell? p = some v) : w'.cell? p = some v :=
  (hb.cell (World.block_lt_of_cell? _ _ h)).trans h
theorem Ints.below {w w' : World} {a : Option Addr} {len : Nat} {xs : List Int} (h : Ints w a len xs) (hb : Below w.heap.size w w') : Ints w' a len xs :=
  ⟨h.len_, h.bound, h.wf, fun hl => by
    obtain ⟨x, hx, hc⟩ := h.cells hl
    exact ⟨x, hx, fun i hi => cell_below hb (hc i hi)⟩⟩

theorem row_ints {w : World} {a : Option Addr} {len cap : Nat} {zs : List Int} (h : IsRow .i64 w a len cap zs) (hl : len ≤ 17592186044416) : Ints w a len (zs.take len) := by
  rcases h with ⟨rfl, rfl, rfl, rfl⟩ | ⟨x, rfl, h1, h2, h3, h4, h5⟩
  · exact ⟨rfl, by omega, by simp, fun h => absurd h (by omega)⟩
  · refine ⟨by rw [List.length_take]; omega, hl, fun n hn => bounds_i64 (h5 n (List.mem_of_mem_take hn)), fun _ => ⟨x, rfl, fun i hi => ?_⟩⟩
    rw [h4 i (by omega)]
    simp [List.getD_eq_getElem?_getD, List.getElem?_take, hi]

def highZ (S : Int) : Int := (S / 18446744073709551616) % 18446744073709551616
def carryZ (S n : Int) : Int := (loW S + n % 18446744073709551616) / 18446744073709551616
theorem high_step (S n : Int) (h : fits64 n) : IntKind.u64.wrap (highZ S + IntKind.u64.wrap (signZ n + carryZ S n)) = highZ (S + n) := by
  unfold fits64 at h
  have hS : S = 18446744073709551616 * (S / 18446744073709551616) + S % 18446744073709551616 := by omega
  have hl : 0 ≤ S % 18446744073709551616 ∧ S % 18446744073709551616 < 18446744073709551616 := by omega
  unfold signZ highZ carryZ loW
  rw [u64_wrap, u64_wrap, u64_wrap]
  generalize S / 18446744073709551616 = a at *
  generalize S % 18446744073709551616 = l at *
  subst hS
  by_cases h0 : n < 0
  · have e1 : n / 9223372036854775808 = -1 := by omega
    have e2 : n % 18446744073709551616 = n + 18446744073709551616 := by omega
    rw [e1, e2]
    by_cases hc : l + n < 0
    · have e3 : (l + (n + 18446744073709551616)) / 18446744073709551616 = 0 := by omega
      have e4 : (18446744073709551616 * a + l + n) / 18446744073709551616 = a - 1 := by omega
      rw [e3, e4]; omega
    · have e3 : (l + (n + 18446744073709551616)) / 18446744073709551616 = 1 := by omega
      have e4 : (18446744073709551616 * a + l + n) / 18446744073709551616 = a := by omega
      rw [e3, e4]; omega
  · have e1 : n / 9223372036854775808 = 0 := by omega
    have e2 : n % 18446744073709551616 = n := by omega
    rw [e1, e2]
    by_cases hc : l + n < 18446744073709551616
    · have e3 : (l + n) / 18446744073709551616 = 0 := by omega
      have e4 : (18446744073709551616 * a + l + n) / 18446744073709551616 = a := by omega
      rw [e3, e4]; omega
    · have e3 : (l + n) / 18446744073709551616 = 1 := by omega
      have e4 : (18446744073709551616 * a + l + n) / 18446744073709551616 = a + 1 := by omega
      rw [e3, e4]; omega
theorem high_end (S : Int) (h : wide S) : (highZ S != signZ (wrap64 (loW S))) = decide (¬ fits64 S) := by
  rw [Bool.eq_iff_iff, bne_iff_ne, decide_eq_true_iff]
  unfold wide at h
  have hS : S = 18446744073709551616 * (S / 18446744073709551616) + S % 18446744073709551616 := by omega
  have hl : 0 ≤ S % 18446744073709551616 ∧ S % 18446744073709551616 < 18446744073709551616 := by omega
  unfold signZ highZ wrap64 loW fits64
  rw [u64_wrap]
  generalize S / 18446744073709551616 = a at *
  generalize S % 18446744073709551616 = l at *
  subst hS
  by_cases hc : l < 9223372036854775808
  · have e1 : ((l + 9223372036854775808) % 18446744073709551616 - 9223372036854775808) / 9223372036854775808 = 0 := by omega
    rw [e1]; omega
  · have e1 : ((l + 9223372036854775808) % 18446744073709551616 - 9223372036854775808) / 9223372036854775808 = -1 := by omega
    rw [e1]; omega
theorem low_end (S : Int) (h : fits64 S) : wrap64 (loW S) = S := by unfold fits64 at h; unfold wrap64 loW; omega
theorem sum_step (xs : List Int) (k : Nat) (h : k < xs.length) : (xs.take (k + 1)).sum = (xs.take k).sum + xs.getD k 0 := by
  rw [List.take_succ_eq_append_getElem h, List.sum_append]
  simp [List.getD_eq_getElem?_getD, List.getElem?_eq_getElem h]
theorem sum_bd (xs : List Int) (h : ∀ n ∈ xs, fits64 n) : -9223372036854775808 * xs.length ≤ xs.sum ∧ xs.sum ≤ 9223372036854775808 * xs.length := by
  induction xs with
  | nil => simp
  | cons x r ih =>
    have h1 := h x (by simp)
    have h2 := ih (fun n hn => h n (by simp [hn]))
    unfold fits64 at h1
    simp only [List.sum_cons, List.length_cons]
    omega
theorem sum_wide (xs : List Int) (h : ∀ n ∈ xs, fits64 n) (hl : xs.length ≤ 17592186044416) : wide xs.sum := by
  have := sum_bd xs h
  unfold wide
  omega

def addIs (S : Int) : Ending := if fits64 S then .returned (.tuple #[.int .i64 S, .int .i64 0]) else .returned (.tuple #[.int .i64 0, .int .i64 9])
theorem addIs_yes {S : Int} (h : fits64 S) : addIs S = .returned (.tuple #[.int .i64 S, .int .i64 0]) := if_pos h
theorem addIs_no {S : Int} (h : ¬ fits64 S) : addIs S = .returned (.tuple #[.int .i64 0, .int .i64 9]) := if_neg h
theorem addIs_cases {S : Int} {e : Ending} (h : e = addIs S) : (Hid (fits64 S) ∧ e = .returned (.tuple #[.int .i64 S, .int .i64 0])) ∨ (Hid (¬ fits64 S) ∧ e = .returned (.tuple #[.int .i64 0, .int .i64 9])) := by
  by_cases hf : fits64 S
  · exact .inl ⟨hf, h.trans (addIs_yes hf)⟩
  · exact .inr ⟨hf, h.trans (addIs_no hf)⟩
end Go.Proofs.Ytejlhdmfcmhlaaa
end
section
/- What fixq.Mul answers of the numbers of a slice. -/
set_option linter.unusedSimpArgs false
set_option linter.unusedVariables false
namespace Go.Proofs.Ytejlhdmfcmhlaaa
open Go.RowKit

def prodZ (xs : List Int) : Int := xs.foldl (· * ·) 1
theorem foldl_mul (xs : List Int) : ∀ a : Int, xs.foldl (· * ·) a = a * prodZ xs := by
  unfold prodZ
  induction xs with
  | nil => intro a; simp
  | cons x r ih => intro a; simp only [List.foldl_cons]; rw [ih (a * x), ih (1 * x)]; rw [Int.one_mul, Int.mul_assoc]
theorem prod_cons (x : Int) (r : List Int) : prodZ (x :: r) = x * prodZ r := by
  show (x :: r).foldl (· * ·) 1 = _
  rw [List.foldl_cons, foldl_mul, Int.one_mul]
theorem prod_append (l r : List Int) : prodZ (l ++ r) = prodZ l * prodZ r := by
  show (l ++ r).foldl (· * ·) 1 = _
  rw [List.foldl_append, foldl_mul]; rfl
theorem prod_step (xs : List Int) (k : Nat) (h : k < xs.length) : prodZ (xs.take (k + 1)) = prodZ (xs.take k) * xs.getD k 0 := by
  rw [List.take_succ_eq_append_getElem h, prod_append, prod_cons]
  simp [List.getD_eq_getElem?_getD, List.getElem?_eq_getElem h, prodZ]
theorem prod_zero (xs : List Int) (h : (0 : Int) ∈ xs) : prodZ xs = 0 := by
  induction xs with
  | nil => simp at h
  | cons x r ih =>
    rw [prod_cons]
    rcases List.mem_cons.1 h with h | h
    · rw [← h, Int.zero_mul]
    · rw [ih h, Int.mul_zero]
theorem prod_pos (xs : List Int) (h : ∀ n ∈ xs, n ≠ 0) : 1 ≤ (prodZ xs).natAbs := by
  induction xs with
  | nil => simp [prodZ]
  | cons x r ih =>
    rw [prod_cons, Int.natAbs_mul]
    have h1 := h x (by simp)
    have h2 := ih (fun n hn => h n (by simp [hn]))
    exact Nat.mul_pos (by omega) h2
theorem prod_mono (xs : List Int) (k : Nat) (h : ∀ n ∈ xs, n ≠ 0) : (prodZ (xs.take k)).natAbs ≤ (prodZ xs).natAbs := by
  have e : prodZ xs = prodZ (xs.take k) * prodZ (xs.drop k) := by rw [← prod_append, List.take_append_drop]
  rw [e, Int.natAbs_mul]
  have h2 := prod_pos (xs.drop k) (fun n hn => h n (List.mem_of_mem_drop hn))
  exact Nat.le_mul_of_pos_right _ h2
theorem sign_step (P n : Int) (hP : P ≠ 0) (hn : n ≠ 0) : (decide (P < 0) != decide (n < 0)) = decide (P * n < 0) := by
  rcases Int.lt_or_lt_of_ne hP with h1 | h1 <;> rcases Int.lt_or_lt_of_ne hn with h2 | h2
  · have := Int.mul_pos_of_neg_of_neg h1 h2
    rw [decide_eq_true h1, decide_eq_true h2, decide_eq_false (by omega)]; rfl
  · have := Int.mul_neg_of_neg_of_pos h1 h2
    rw [decide_eq_true h1, decide_eq_false (by omega), decide_eq_true this]; rfl
  · have := Int.mul_neg_of_pos_of_neg h1 h2
    rw [decide_eq_false (by omega), decide_eq_true h2, decide_eq_true this]; rfl
  · have := Int.mul_pos h1 h2
    rw [decide_eq_false (by omega), decide_eq_false (by omega), decide_eq_false (by omega)]; rfl

def IndexIs (v : Int) (xs : List Int) (e : Ending) : Prop := ∃ r : Int, e = .returned (.int .i64 r) ∧ ((0 ≤ r ∧ v ∈ xs) ∨ (r = -1 ∧ v ∉ xs))
theorem index_any (a : Option Addr) (len cap : Nat) (xs : List Int) (v : Int) (w : World) (h : Ints w a len xs) :
    Calls Try.prog 81 #[.slice a len cap, .int .i64 v] w fun e w' => IndexIs v xs e ∧ w = w' := by
  obtain ⟨hl, hb, hw, hc⟩ := h
  go_enter Try.func81, Try.ntmps81
  go_wp2
  go_loop [8] (fun i => ∃ k : Nat, k ≤ len ∧ i = .int .i64 k ∧ ∀ j, j < k → xs.getD j 0 ≠ v) (fun i => len - (intOf i).toNat)
  case atStart => exact ⟨0, by omega, rfl, fun j hj => absurd hj (by omega)⟩
  case round =>
    obtain ⟨k, hk, rfl, hno⟩ := hrel
    have HNO := Lib.hid hno
    clear hno
    by_cases hlt : k < len
    · obtain ⟨x, rfl, hcx⟩ := hc (by omega)
      have hcell := hcx k hlt
      have hmem : xs.getD k 0 ∈ xs := by rw [List.getD_eq_getElem?_getD, List.getElem?_eq_getElem (by omega)]; simp
      have HM := Lib.hid hmem
      clear hcx hc hmem
      by_cases hv : xs.getD k 0 = v
      · have hv' : (v == xs.getD k 0) = true := by simpa using hv.symm
        have HV := Lib.hid hv
        clear hv
        generalize hn : xs.getD k 0 = n at *
        clear hn
        go_wp2
        go_ret
        exact ⟨⟨k, rfl, .inl ⟨by omega, by rw [← HV.out]; exact HM.out⟩⟩, rfl⟩
      · have hv' : (v == xs.getD k 0) = false := by simpa using fun h => hv h.symm
        have HV := Lib.hid hv
        clear hv
        generalize hn : xs.getD k 0 = n at *
        have HN := Lib.hid hn
        clear hn
        go_wp2
        go_round
        case rel =>
          refine ⟨k + 1, by omega, by go_num, fun j hj => ?_⟩
          rcases (by omega : j < k ∨ j = k) with h | h
          · exact HNO.out j h
          · rw [h, HN.out]; exact HV.out
        case measure => simp [intOf]; omega
    · clear hc
      go_wp2
      go_ret
      refine ⟨⟨-1, rfl, .inr ⟨rfl, fun hm => ?_⟩⟩, rfl⟩
      obtain ⟨j, hj, he⟩ := List.mem_iff_getElem.1 hm
      exact HNO.out j (by omega) (by rw [List.getD_eq_getElem?_getD, List.getElem?_eq_getElem hj]; simpa using he)
theorem contains_yes (a : Option Addr) (len cap : Nat) (xs : List Int) (v : Int) (w : World) (h : Ints w a len xs) (hv : v ∈ xs) :
    Calls Try.prog 71 #[.slice a len cap, .int .i64 v] w fun e w' => e = .returned (.bool true) ∧ w = w' := by
  have HV := Lib.hid hv
  clear hv
  go_enter Try.func71, Try.ntmps71
  go_wp2_with (go_at_call 81; refine (index_any _ _ _ _ _ _ h).mono ?_; rintro e w' ⟨⟨r, rfl, hr⟩, rfl⟩; rcases hr with ⟨hr0, _⟩ | ⟨_, hr1⟩; rotate_left; exact absurd HV.out hr1)
  go_ret
  exact ⟨by simp [*], rfl⟩
theorem contains_no (a : Option Addr) (len cap : Nat) (xs : List Int) (v : Int) (w : World) (h : Ints w a len xs) (hv : v ∉ xs) :
    Calls Try.prog 71 #[.slice a len cap, .int .i64 v] w fun e w' => e = .returned (.bool false) ∧ w = w' := by
  have HV := Lib.hid hv
  clear hv
  go_enter Try.func71, Try.ntmps71
  go_wp2_with (go_at_call 81; refine (index_any _ _ _ _ _ _ h).mono ?_; rintro e w' ⟨⟨r, rfl, hr⟩, rfl⟩; rcases hr with ⟨_, hr1⟩ | ⟨rfl, _⟩; exact absurd hr1 HV.out)
  go_ret
  exact ⟨by simp [*], rfl⟩
end Go.Proofs.Ytejlhdmfcmhlaaa
end
section
/- Products: two words, a sign put back, and all numbers of a slice. -/
set_option linter.unusedSimpArgs false
set_option linter.unusedVariables false
namespace Go.Proofs.Ytejlhdmfcmhlaaa
open Go.RowKit

theorem maskN (a : Nat) (ha : a < 18446744073709551616) : bits .and .u64 (a : Int) 4294967295 = ((a % 4294967296 : Nat) : Int) := by
  have h := bits_and_u64_nat a 4294967295 ha (by omega)
  have e : a &&& 4294967295 = a % 4294967296 := Nat.and_two_pow_sub_one_eq_mod a 32
  rw [e] at h
  exact h
theorem divN (a : Nat) : (a : Int) / 4294967296 = ((a / 4294967296 : Nat) : Int) := by omega
theorem mulN (a b : Nat) : (a : Int) * (b : Int) = ((a * b : Nat) : Int) := (Int.natCast_mul a b).symm
theorem addN (a b : Nat) : (a : Int) + (b : Int) = ((a + b : Nat) : Int) := (Int.natCast_add a b).symm
theorem wrapN (a : Nat) (ha : a < 18446744073709551616) : IntKind.u64.wrap (a : Int) = (a : Int) := by rw [u64_wrap]; omega
theorem wrapM (a : Nat) : IntKind.u64.wrap (a : Int) = ((a % 18446744073709551616 : Nat) : Int) := by rw [u64_wrap]; omega
set_option maxHeartbeats 1000000 in
theorem mul64_any (x y : Nat) (hx : x < 18446744073709551616) (hy : y < 18446744073709551616) (w : World) :
    Calls Try.prog 72 #[.int .u64 x, .int .u64 y] w fun e w' => e = .returned (.tuple #[.int .u64 ((x * y / 18446744073709551616 : Nat) : Int), .int .u64 ((x * y % 18446744073709551616 : Nat) : Int)]) ∧ w = w' := by
  obtain ⟨bd, bt, bw, hhi⟩ := Lib.mul64_hi x y hx hy
  have ba := Lib.half_mul_le (a := x / 4294967296) (b := y / 4294967296) (by omega) (by omega)
  have bb := Lib.half_mul_le (a := x / 4294967296) (b := y % 4294967296) (by omega) (by omega)
  have bc := Lib.half_mul_le (a := x % 4294967296) (b := y / 4294967296) (by omega) (by omega)
  have ba' : x / 4294967296 * (y / 4294967296) < 18446744073709551616 := by omega
  have bb' : x / 4294967296 * (y % 4294967296) < 18446744073709551616 := by omega
  have bc' : x % 4294967296 * (y / 4294967296) < 18446744073709551616 := by omega
  have bh1 : x / 4294967296 * (y / 4294967296) + (x / 4294967296 * (y % 4294967296) + x % 4294967296 * (y % 4294967296) / 4294967296) / 4294967296 < 18446744073709551616 := by omega
  have bh : x / 4294967296 * (y / 4294967296) + (x / 4294967296 * (y % 4294967296) + x % 4294967296 * (y % 4294967296) / 4294967296) / 4294967296 + ((x / 4294967296 * (y % 4294967296) + x % 4294967296 * (y % 4294967296) / 4294967296) % 4294967296 + x % 4294967296 * (y / 4294967296)) / 4294967296 < 18446744073709551616 := by omega
  go_enter Try.func72, Try.ntmps72
  go_wp2
  simp only [maskN x hx, maskN y hy, divN, mulN, addN, wrapN _ bd, wrapN _ bb', wrapN _ bt, maskN _ bt, wrapN _ bc', wrapN _ bw, wrapN _ ba', wrapN _ bh1, wrapN _ bh, wrapM (x * y)]
  rw [hhi]
  go_ret2
  exact ⟨rfl, rfl⟩

/-- The number that is so far from 0, on that side. -/
def sideZ (size : Nat) (below : Bool) : Int := if below then -(size : Int) else size
theorem signed_any (size : Nat) (below : Bool) (h1 : 1 ≤ size) (h2 : size < 18446744073709551616) (w : World) :
    Calls Try.prog 74 #[.int .u64 size, .bool below] w fun e w' => e = addIs (sideZ size below) ∧ w = w' := by
  unfold sideZ
  rcases below with _ | _
  · by_cases hf : fits64 (size : Int)
    all_goals
      have HF := Lib.hid hf
      have hlt : (decide (wrap64 (size : Int) < 0)) = !decide (fits64 (size : Int)) := by
        unfold fits64 wrap64; rw [Bool.eq_iff_iff]; simp; omega
      first | rw [decide_eq_true hf] at hlt | rw [decide_eq_false hf] at hlt
      have he : fits64 (size : Int) → wrap64 (size : Int) = size := fun h => by unfold fits64 at h; unfold wrap64; omega
      have HE := Lib.hid he
      clear hf he
      go_enter Try.func74, Try.ntmps74
      go_wp2
      go_ret2
    · exact ⟨by rw [addIs_yes HF.out]; exact ret_two (HE.out HF.out) rfl, rfl⟩
    · exact ⟨by rw [addIs_no HF.out]; rfl, rfl⟩
  · by_cases hf : fits64 (-(size : Int))
    all_goals
      have HF := Lib.hid hf
      have hlt : (decide (wrap64 (-wrap64 (size : Int)) < 0)) = decide (fits64 (-(size : Int))) := by
        unfold fits64 wrap64; rw [Bool.eq_iff_iff]; simp; omega
      first | rw [decide_eq_true hf] at hlt | rw [decide_eq_false hf] at hlt
      have he : fits64 (-(size : Int)) → wrap64 (-wrap64 (size : Int)) = -(size : Int) := fun h => by unfold fits64 at h; unfold wrap64; omega
      have HE := Lib.hid he
      clear hf he
      go_enter Try.func74, Try.ntmps74
      go_wp2
      go_ret2
    · exact ⟨by rw [addIs_yes HF.out]; exact ret_two (HE.out HF.out) rfl, rfl⟩
    · exact ⟨by rw [addIs_no HF.out]; rfl, rfl⟩
theorem side_abs (P : Int) : sideZ P.natAbs (decide (P < 0)) = P := by
  unfold sideZ
  by_cases h : P < 0
  · rw [decide_eq_true h, if_pos rfl]; omega
  · rw [decide_eq_false h, if_neg (by simp)]; omega
theorem over_of (xs : List Int) (k : Nat) (h : (0 : Int) ∉ xs) (hk : 9223372036854775808 < (prodZ (xs.take k)).natAbs) : ¬ fits64 (prodZ xs) := by
  have := prod_mono xs k (fun n hn h0 => h (h0 ▸ hn))
  unfold fits64; omega

set_option maxHeartbeats 1000000 in
theorem mul_any (a : Option Addr) (len cap : Nat) (xs : List Int) (w : World) (h : Ints w a len xs) :
    Calls Try.prog 64 #[.slice a len cap] w fun e w' => e = addIs (prodZ xs) ∧ w = w' := by
  by_cases h0 : (0 : Int) ∈ xs
  · have hp := Lib.hid (prod_zero xs h0)
    have HZ := Lib.hid h0
    clear h0
    go_enter Try.func64, Try.ntmps64
    go_wp2_with (go_at_call 71; refine (contains_yes _ _ _ _ _ _ h HZ.out).mono ?_; rintro e w' ⟨rfl, rfl⟩)
    go_ret2
    exact ⟨by rw [hp.out, addIs_yes (by unfold fits64; omega)]; rfl, rfl⟩
  · have HZ := Lib.hid h0
    have hb := h.bound
    have hlen := h.len_
    clear h0
    go_enter Try.func64, Try.ntmps64
    go_wp2_with (go_at_call 71; refine (contains_no _ _ _ _ _ _ h HZ.out).mono ?_; rintro e w' ⟨rfl, rfl⟩)
    go_loop [4, 5, 14] (fun s b i => ∃ k : Nat, k ≤ len ∧ i = .int .i64 k ∧ s = .int .u64 ((prodZ (xs.take k)).natAbs : Int) ∧ b = .bool (decide (prodZ (xs.take k) < 0)) ∧ (prodZ (xs.take k)).natAbs < 18446744073709551616) (fun _ _ i => len - (intOf i).toNat)
    case atStart => exact ⟨0, by omega, rfl, by simp [prodZ], by simp [prodZ], by simp [prodZ]⟩
    case round =>
      obtain ⟨k, hk, rfl, rfl, rfl, hs⟩ := hrel
      have hP1 := prod_pos (xs.take k) (fun n hn h0 => HZ.out (h0 ▸ List.mem_of_mem_take hn))
      by_cases hlt : k < len
      · obtain ⟨x, rfl, hcx⟩ := h.cells (by omega)
        have hcell := hcx k hlt
        have hmem : xs.getD k 0 ∈ xs := by rw [List.getD_eq_getElem?_getD, List.getElem?_eq_getElem (by omega)]; simp
        have hfit := h.wf _ hmem
        have hn0 : xs.getD k 0 ≠ 0 := fun h0 => HZ.out (h0 ▸ hmem)
        have hst := prod_step xs k (by omega)
        have hov := Lib.hid (over_of xs (k + 1) HZ.out)
        have hsg := sign_step (prodZ (xs.take k)) (xs.getD k 0) (by omega) hn0
        rw [hst] at hov
        have HST := Lib.hid hst
        generalize hn : xs.getD k 0 = n at *
        generalize hS : prodZ (xs.take k) = P at *
        have habs : (P * n).natAbs = P.natAbs * n.natAbs := Int.natAbs_mul _ _
        have hna : n.natAbs < 18446744073709551616 := by unfold fits64 at hfit; omega
        clear hcx hn hS h hmem hst hn0
        have HA := Lib.hid habs
        clear habs
        by_cases hbig : P.natAbs * n.natAbs < 18446744073709551616
        · have e1 : P.natAbs * n.natAbs / 18446744073709551616 = 0 := Nat.div_eq_of_lt hbig
          have e2 : P.natAbs * n.natAbs % 18446744073709551616 = P.natAbs * n.natAbs := Nat.mod_eq_of_lt hbig
          have E1 := Lib.hid e1
          have E2 := Lib.hid e2
          have HB := Lib.hid hbig
          clear e1 e2 hbig
          go_wp2_with (first
            | (go_at_call 73; refine (magnitude_any _ _ hfit).mono ?_; rintro e w' ⟨rfl, rfl⟩)
            | (go_at_call 72; refine (mul64_any _ _ hs hna _).mono ?_; rintro e w' ⟨rfl, rfl⟩; rw [E1.out, E2.out]))
          go_round
          case rel =>
            refine ⟨k + 1, by omega, by go_num, ?_, ?_, ?_⟩
            · rw [HST.out, HA.out]; exact congrArg _ (mulN _ _)
            · rw [HST.out]; exact congrArg _ hsg
            · rw [HST.out, HA.out]; exact HB.out
          case measure => simp [intOf]; omega
        · have e1 : 1 ≤ P.natAbs * n.natAbs / 18446744073709551616 := by
            rw [Nat.le_div_iff_mul_le (by omega)]; omega
          have e3 : (((P.natAbs * n.natAbs / 18446744073709551616 : Nat) : Int) != 0) = true := by rw [bne_iff_ne]; omega
          have E2 := Lib.hid (hov.out (by rw [HA.out]; omega))
          clear e1 hbig
          generalize hg1 : P.natAbs * n.natAbs / 18446744073709551616 = g1 at *
          generalize hg2 : P.natAbs * n.natAbs % 18446744073709551616 = g2 at *
          have HG1 := Lib.hid hg1
          have HG2 := Lib.hid hg2
          clear hg1 hg2
          go_wp2_with (first
            | (go_at_call 73; refine (magnitude_any _ _ hfit).mono ?_; rintro e w' ⟨rfl, rfl⟩)
            | (go_at_call 72; refine (mul64_any _ _ hs hna _).mono ?_; rintro e w' ⟨rfl, rfl⟩; rw [HG1.out, HG2.out]))
          go_ret2
          exact ⟨by rw [addIs_no E2.out]; rfl, rfl⟩
      · have hk' : k = len := by omega
        subst hk'
        rw [← hlen, List.take_length] at hs hP1 ⊢
        clear h
        generalize hPe : prodZ xs = P at *
        have HPe := Lib.hid hPe
        clear hPe
        have e1 := Lib.hid (side_abs P)
        by_cases hf : fits64 P
        all_goals
          have HF := Lib.hid hf
          clear hf
        · go_wp2_with (first
            | (go_at_call 74; refine (signed_any _ _ hP1 hs _).mono ?_; rintro e w' ⟨he, rfl⟩; rw [e1.out, addIs_yes HF.out] at he; subst he))
          go_ret2
          exact ⟨by rw [HPe.out, addIs_yes HF.out]; rfl, rfl⟩
        · go_wp2_with (first
            | (go_at_call 74; refine (signed_any _ _ hP1 hs _).mono ?_; rintro e w' ⟨he, rfl⟩; rw [e1.out, addIs_no HF.out] at he; subst he))
          go_ret2
          exact ⟨by rw [HPe.out, addIs_no HF.out]; rfl, rfl⟩
theorem ints_pair (w : World) (a b : Int) (T : TypeId) (ha : fits64 a) (hb : fits64 b) :
    Ints (w.alloc (.cells #[.int .i64 a, .int .i64 b] T)) (some ⟨w.heap.size, 0, none⟩) 2 [a, b] := by
  refine ⟨rfl, by omega, fun n hn => ?_, fun _ => ⟨_, rfl, fun i hi => ?_⟩⟩
  · rcases List.mem_cons.1 hn with rfl | hn
    · exact ha
    · rw [List.mem_singleton.1 hn]; exact hb
  · have h := Has.new w T #[.int .i64 a, .int .i64 b]
    rcases (by omega : i = 0 ∨ i = 1) with rfl | rfl
    · exact h.cell 0
    · exact h.cell 1
theorem prod_pair (a b : Int) : prodZ [a, b] = a * b := by simp [prodZ]
theorem sum_pair (a b : Int) : [a, b].sum = a + b := by simp
theorem mul64_wide (a b : Int) (ha : fits64 a) (hb : fits64 b) : wide (a * b) := by
  have h1 : (a * b).natAbs ≤ 9223372036854775808 * 9223372036854775808 := by
    unfold fits64 at ha hb
    rw [Int.natAbs_mul]; exact Nat.mul_le_mul (by omega) (by omega)
  unfold wide; omega
end Go.Proofs.Ytejlhdmfcmhlaaa
end
section
/- What the reference of layer 14 answers. -/
set_option linter.unusedSimpArgs false
set_option linter.unusedVariables false
namespace Go.Proofs.Ytejlhdmfcmhlaaa.Win
open Go.RowKit RI64
set_option maxHeartbeats 2000000 in
theorem refall_any (A : Option Addr) (n c : Nat) (ys : List Int) (w : World) (hv : Vals w A n ys) (hn : n ≤ 100000) (hc : n ≤ c) (hc2 : c ≤ 9223372036854775807) :
    Calls Try.prog 29 #[.slice A n c] w fun e w' => ∃ B d, e = .returned (.slice B n d) ∧ n ≤ d ∧ d ≤ 9223372036854775807 ∧ Vals w' B n (outsT winT [] ys) ∧ (∀ x, B = some x → w.heap.size ≤ x.block) ∧ Below w.heap.size w w' := by
  have hlen := hv.len_
  have hInfo : (Try.prog.info? 2).map (fun i => (i.zero, i.size, i.bytes)) = some (some (.int .i64 0), 1, 8) := by kernel_rfl
  have HInfo := Lib.hid hInfo
  clear hInfo
  go_enter Try.func29, Try.ntmps29
  go_wp2
  go_loopw [3, 4] (fun v i wr => ∃ j : Nat, j ≤ n ∧ i = .int .i64 (j : Nat) ∧ wr.ownsRow w.heap.size 2 1 v j (vals (outsT winT [] (ys.take j))) ∧ Below w.heap.size w wr) (fun _ i _ => n - (intOf i).toNat)
  case atStart => exact ⟨0, by omega, rfl, own_none _ _ _, Below.refl _ _⟩
  case round =>
    obtain ⟨j, hj, rfl, hO, hB⟩ := hrel
    by_cases hjn : j < n
    · obtain ⟨x, rfl, _⟩ := hv.cells (by omega)
      have hv1 := (hv.take (j + 1) (by omega)).below hB
      rw [show ys.take (j + 1) = (ys.take (j + 1)).reverse.reverse by rw [List.reverse_reverse]] at hv1
      have hst := outs_step winT [] ys j (by omega)
      rw [came_step [] ys j (by omega), List.append_nil] at hst
      have HS := Lib.hid hst
      have hhl : (ys.take (j + 1)).reverse.length = j + 1 := by rw [List.length_reverse, List.length_take]; omega
      clear hst hv hlen
      generalize (ys.take (j + 1)).reverse = h at *
      have HL := Lib.hid hhl
      clear hhl
      obtain ⟨x', hx', hcs⟩ := hv1.cells (by omega)
      cases hx'
      have HC := Lib.hid hcs
      clear hcs hv1
      obtain ⟨m, hm1, hm2, hm3⟩ : ∃ m : Nat, m ≤ 30 ∧ m ≤ j + 1 ∧ (m = 30 ∨ m = j + 1) := by
        rcases Nat.lt_or_ge 30 (j + 1) with h1 | h1
        · exact ⟨30, by omega, by omega, by omega⟩
        · exact ⟨j + 1, by omega, by omega, by omega⟩
      have HM := Lib.hid hm3
      clear hm3
      have hs0 := sum_none h
      have HS0 := Lib.hid hs0
      clear hs0
      go_wp2
      go_loopw [5, 6] (fun s i wr2 => ∃ k : Nat, k ≤ m ∧ i = .int .i64 (k : Nat) ∧ s = .int .i64 (sumT h k) ∧ wr2 = wr) (fun _ i _ => m - (intOf i).toNat)
      case atStart => exact ⟨0, by omega, rfl, by rw [HS0.out], rfl⟩
      case round =>
        obtain ⟨k, hk, rfl, rfl, rfl⟩ := hrel
        by_cases hkn : k < m
        · have hk30 : (k : Int) < 30 := by omega
          have hkj : (k : Int) ≤ (j : Int) := by omega
          have hcell := HC.out (j - k) (by omega)
          have hrv := rev_at h k (by rw [HL.out]; omega)
          rw [HL.out, show j + 1 - 1 - k = j - k by omega] at hrv
          rw [hrv] at hcell
          have hjk : (j : Int) - (k : Int) = ((j - k : Nat) : Int) := by omega
          have hs1 := sum_bd h k (by omega)
          have hs2 := sum_step h k
          have hc1 := cameS_bd h k
          unfold cameS at hs2 hc1
          rw [nearS_ifs] at hs2 hc1
          have HST := Lib.hid hs2
          clear hs2 hrv
          generalize h.getD k 0 = v at *
          generalize sumT h k = sk at *
          obtain ⟨q, hq⟩ : ∃ q, j - k = q := ⟨_, rfl⟩
          have hqj : q < j + 1 := by omega
          rw [hq] at hcell hjk
          clear hq
          go_wp2
          go_roundw
          case rel => exact ⟨k + 1, by omega, by go_num, by rw [HST.out], by trivial⟩
          case measure => simp [intOf]; omega
        · have hkm : k = m := by omega
          have hsf : sumT h k = sumT h 30 := by
            rcases HM.out with h1 | h1
            · rw [hkm, h1]
            · exact sum_few h k (by rw [HL.out]; omega) (by omega)
          have hgo : ¬ (k : Int) < 30 ∨ ((k : Int) < 30 ∧ ¬ (k : Int) ≤ (j : Int)) := by have := HM.out; omega
          have hsb := sum_bd h 30 (by omega)
          have hdv : (sumT h 30).tdiv 32 = winT h := Int.tdiv_eq_ediv_of_nonneg hsb.1
          have hwb := win_bd h
          have hP := one_ready 2 (winT h) hO hB
          rw [hsf]
          clear hkm hkn hk HC hsf
          generalize winT h = r at *
          generalize sumT h 30 = s30 at *
          rcases hgo with g1 | ⟨g1, g2⟩
          all_goals
            go_wp2_with (at_builtin; refine wpList_append_vals rfl (.tmp 32) (.tmp 35) _ rfl w.heap.size 2 8 (by omega) Try.underlying63 HInfo.out u3 j (outsT winT [] (ys.take j)) rfl (by exact hP.1) _ 1 1 [r] rfl (by exact hP.2.2) (by omega) (by exact hP.2.1.size) ?_; intro v3 W3 hO3 hg3 hat3; have hB3 := below_kept hP.2.1 (Kept.of_grown hg3) hP.2.1.size (own_in hP.1); rw [← HS.out] at hO3)
            go_roundw
            case rel => exact ⟨j + 1, by omega, by go_num, hO3, hB3⟩
            case measure => simp [intOf]; omega
    · obtain rfl : j = n := by omega
      rw [List.take_of_length_le (by omega)] at hO
      obtain ⟨A1, c1, rfl, e1, e2, hV1, hfar1, _⟩ := Vals.own hO
      go_wp2
      go_ret
      exact ⟨A1, c1, rfl, e1, e2, hV1, (fun x hx => (hfar1 x hx).1), hB⟩
end Go.Proofs.Ytejlhdmfcmhlaaa.Win
end
section
/- A ring of int64: putting things behind the others. -/
set_option linter.unusedSimpArgs false
set_option linter.unusedVariables false
namespace Go.Proofs.Ytejlhdmfcmhlaaa.RI64
open Go.RowKit

def Putting (w : World) (b g n q f : Nat) (xs ys : List Int) (m : Nat) (i : Value) (wr : World) : Prop :=
  ∃ k, k ≤ m ∧ i = .int .i64 (k : Nat) ∧ Turned b g w wr ∧ ∃ cs, Core wr b g n q f xs.length cs ∧ ∀ i, i < xs.length + k → cs.getD ((f + i) % n) 0 = (xs ++ ys).getD i 0
set_option maxHeartbeats 1000000 in
theorem put_any (b g n q f : Nat) (cs xs : List Int) (a : Option Addr) (len cap : Nat) (ys : List Int) (w : World) (h : Ring w b g n q f cs xs) (hv : Vals w a len ys) (hl : len ≤ cap) (hcap : cap ≤ 9223372036854775807) (hfar : 0 < len → ∀ x, a = some x → x.block ≠ b ∧ x.block ≠ g) :
    Calls Try.prog 80 #[.pointer (some ⟨b, 0, none⟩), .slice a len cap] w fun e w' => e = .returned (.int .i64 (min len (n - xs.length) : Nat)) ∧ Became w b g n q f (xs ++ ys.take (n - xs.length)) w' := by
  have hn := h.core.le
  have hq := h.core.cap
  have hr := h.core.room
  have hT := Turned.refl b g w
  have hy := hv.len_
  obtain ⟨r, hrr⟩ : ∃ r, n - xs.length = r := ⟨_, rfl⟩
  have hroom := fun W (hW : Ring W b g n q f cs xs) => room_nat b g n q f cs xs r W hW hrr
  obtain ⟨m, hm⟩ : ∃ m, min len r = m := ⟨_, rfl⟩
  have HM := Lib.hid (show ((min len (n - xs.length) : Nat) : Int) = (m : Int) by omega)
  have HT := Lib.hid (show xs ++ ys.take (n - xs.length) = xs ++ ys.take m by
    rw [← hm, hrr]
    rcases Nat.le_total len r with h1 | h1
    · rw [Nat.min_eq_left h1, List.take_of_length_le (by omega), List.take_of_length_le (by omega)]
    · rw [Nat.min_eq_right h1])
  rw [HM.out]
  rw [HT.out]
  have hmy : m ≤ ys.length := by omega
  have hmr : xs.length + m ≤ n := by omega
  have HL := Lib.hid (show (xs ++ ys.take m).length = xs.length + m by rw [List.length_append, List.length_take]; omega)
  have two : (m < len ∧ m = r) ∨ (m ≤ r ∧ m = len) := by omega
  rcases two with ⟨hle, rfl⟩ | ⟨hle, rfl⟩
  all_goals
    have HR := Lib.hid hrr
    clear hm hrr hy
    go_enter Try.func80, Try.ntmps80
    go_wp2_with (go_at_call 84; refine (hroom _ (by exact h.same rfl)).mono ?_; rintro e W2 ⟨rfl, kk, rfl⟩)
    have hD := h.core.same (w' := w.drewN kk) rfl
    have hT2 := hT.drewN kk
    generalize hwk : w.drewN kk = w2 at *
    go_loopw [19] (fun i wr => Putting w b g n q f xs ys m i wr) (fun i _ => m - (intOf i).toNat)
    case atStart => exact ⟨0, by omega, rfl, hT2, cs, hD, fun i hi => by rw [h.at_ i (by omega), getD_left _ _ _ _ (by omega)]⟩
    case round =>
      clear hT2 hD hwk
      obtain ⟨k, hk, rfl, hTr, cs', hC, hat⟩ := hrel
      obtain ⟨c0, c1, c2⟩ := hC.cells
      obtain ⟨z1, z2⟩ := hC.froz
      have hf := hC.first
      by_cases hlt : k < m
      · have hj : (f + (xs.length + k)) % n < n := Nat.mod_lt _ (by omega)
        obtain ⟨x, rfl, hcx⟩ := (hv.turned hTr hfar).cells (by omega)
        have hthing := hcx k (by omega)
        have hcell := hC.slot_ _ hj
        have hfz := hC.slotz ((f + (xs.length + k)) % n)
        have hs := fun W (hW : Core W b g n q f xs.length cs') => slot_any b g n q f _ cs' (xs.length + k) W hW (by omega)
        rw [Int.natCast_add] at hs
        have hat' : ∀ i, i < xs.length + (k + 1) → (cs'.set ((f + (xs.length + k)) % n) (ys.getD k 0)).getD ((f + i) % n) 0 = (xs ++ ys).getD i 0 := fun i h1 => by
          rw [getD_set _ _ _ _ _ (by rw [hC.size]; exact hj)]
          by_cases he : i = xs.length + k
          · subst he
            rw [if_pos rfl, getD_right]
          · rw [if_neg (rot_ne (by omega) (by omega) (by omega))]
            exact hat i (by omega)
        have HAT := Lib.hid hat'
        clear hat hat' hcx
        generalize (f + (xs.length + k)) % n = p at *
        generalize cs'.getD p 0 = old at *
        generalize ys.getD k 0 = new at *
        have hwr : IntKind.i64.wrap ((xs.length : Int) + (k : Int)) = (xs.length : Int) + (k : Int) := IntWalk.i64_in _ (by omega)
        go_wp2
        go_region_with (go_at_call 85; ((with_reducible refine (hs _ (by exact hC.same rfl)).mono ?_); rintro e W2 ⟨rfl, kk, rfl⟩))
        clear hwr
        all_goals
          go_wp2
          go_roundw
          case rel => exact ⟨k + 1, by omega, by go_num, (hTr.setCell (p := ⟨g, p, none⟩) (.inr (.inl rfl)) (.int .i64 new)).like rfl rfl rfl rfl, _, (hC.put p hj new).same rfl, HAT.out⟩
          case measure => simp [intOf]; omega
      · have hk' : k = m := by omega
        subst hk'
        have hat' : ∀ i, i < (xs ++ ys.take k).length → cs'.getD ((f + i) % n) 0 = (xs ++ ys.take k).getD i 0 := fun i hi => by
          rw [HL.out] at hi
          rw [hat i hi, getD_take _ _ _ _ _ hi]
        have HAT := Lib.hid hat'
        clear hat hat'
        have hC2 : Core (wr.setCell ⟨b, 2, none⟩ (.int .i64 ((xs.length : Int) + (k : Int)))) b g n q f (xs ++ ys.take k).length cs' := by
          have h9 := hC.count_ (xs.length + k) (by omega)
          rw [Int.natCast_add] at h9
          rw [HL.out]
          exact h9
        have HC2 := Lib.hid hC2
        clear hC2
        go_wp2
        go_ret
        exact ⟨rfl, cs', ⟨HC2.out.same rfl, HAT.out⟩, (hTr.setCell (p := ⟨b, 2, none⟩) (.inl rfl) _).like rfl rfl rfl rfl⟩
end Go.Proofs.Ytejlhdmfcmhlaaa.RI64
end
section
/- A new row of room for 64-bit values (make([]int64, 0, n)). -/
set_option linter.unusedSimpArgs false
set_option linter.unusedVariables false
namespace Go.Proofs.Ytejlhdmfcmhlaaa
open Go.RowKit RI64
set_option maxRecDepth 100000 in
theorem made64 (m : Nat) (hm : m ≤ 100000) (W : World) : (Instr.makeSlice 63 (.int .i64 0) (.int .i64 (m : Int))).run Try.prog W =
    .ok (.slice (some ⟨W.heap.size, 0, none⟩) 0 m) (W.alloc (.cells (vals (List.replicate m 0)).toArray 2)) := by
  obtain ⟨i, hi, hz, h1, h2⟩ : ∃ i, Try.prog.info? 2 = some i ∧ i.zero = some (Value.int .i64 0) ∧ i.size = 1 ∧ i.bytes ≤ 16 := by
    refine ⟨_, rfl, ?_, ?_, ?_⟩ <;> first | rfl | decide
  have hr := run_make (P := Try.prog) W 63 2 i _ Try.underlying63 hi hz .i64 .i64 0 (m : Int) (by omega) (by omega) (by
    have : (i.bytes : Int) * (m : Int) ≤ 16 * 100000 := Int.mul_le_mul (by omega) (by omega) (by omega) (by omega)
    omega) (by omega)
  simp only [Int.toNat_natCast, Int.toNat_zero, h1] at hr
  rw [show (Value.int .i64 0).cells = #[Value.int .i64 0] from rfl] at hr
  rw [hr]
  congr 3
  apply Array.ext
  · simp [madeCells, vals]
  · intro i h1 h2
    simp [madeCells, Nat.mod_one, vals]
theorem own_made (W : World) (t : TypeId) (n : Nat) (hn : n ≤ 100000) : World.ownsRow (W.alloc (.cells (vals (List.replicate n 0)).toArray t)) W.heap.size t 1 (.slice (some ⟨W.heap.size, 0, none⟩) 0 n) 0 (vals ([] : List Int)) :=
  ⟨rfl, .inr ⟨_, n, _, rfl, Nat.le_refl _, Has.new W t _, by omega, by unfold maxLen; omega, by simp [vals], by simp [vals]⟩⟩
end Go.Proofs.Ytejlhdmfcmhlaaa
end
section
/- The landed notch's Block: over whatever its Push answers. -/
set_option linter.unusedSimpArgs false
set_option linter.unusedVariables false
namespace Go.Proofs.Ytejlhdmfcmhlaaa.Notch
open Go.RowKit RI64
end Go.Proofs.Ytejlhdmfcmhlaaa.Notch
end
section
/- The landed low filter's Block: over whatever its Push answers. -/
set_option linter.unusedSimpArgs false
set_option linter.unusedVariables false
namespace Go.Proofs.Ytejlhdmfcmhlaaa.Low
open Go.RowKit RI64
end Go.Proofs.Ytejlhdmfcmhlaaa.Low
end
section
/- The landed high filter's Block: over whatever its Push answers. -/
set_option linter.unusedSimpArgs false
set_option linter.unusedVariables false
namespace Go.Proofs.Ytejlhdmfcmhlaaa.High
open Go.RowKit RI64
end Go.Proofs.Ytejlhdmfcmhlaaa.High
end
section
/- The landed slope filter's Block: over whatever its Push answers. -/
set_option linter.unusedSimpArgs false
set_option linter.unusedVariables false
namespace Go.Proofs.Ytejlhdmfcmhlaaa.Slope
open Go.RowKit RI64
end Go.Proofs.Ytejlhdmfcmhlaaa.Slope
end
section
/- The landed window of squares's Block: over whatever its Push answers. -/
set_option linter.unusedSimpArgs false
set_option linter.unusedVariables false
namespace Go.Proofs.Ytejlhdmfcmhlaaa.Win
open Go.RowKit RI64
end Go.Proofs.Ytejlhdmfcmhlaaa.Win
end
section
/- A ring of int64: taking things out. -/
set_option linter.unusedSimpArgs false
set_option linter.unusedVariables false
namespace Go.Proofs.Ytejlhdmfcmhlaaa.RI64
open Go.RowKit

theorem pop_no (b : Nat) (w : World) (h2 : w.cell? ⟨b, 2, none⟩ = some (.int .i64 0)) :
    Calls Try.prog 79 #[.pointer (some ⟨b, 0, none⟩)] w fun e w' => e = .returned (.tuple #[.int .i64 0, .bool false]) ∧ w = w' := by
  have hat := at_no b 0 0 w (.inr (by omega)) h2
  go_enter Try.func79, Try.ntmps79
  go_wp2_with (go_at_call 83; ((with_reducible refine hat.mono ?_); rintro e w' ⟨rfl, rfl⟩))
  go_ret2
  exact ⟨rfl, rfl⟩
theorem pop_yes (b g n q f : Nat) (cs xs : List Int) (w : World) (h : Ring w b g n q f cs xs) (hx : 0 < xs.length) :
    Calls Try.prog 79 #[.pointer (some ⟨b, 0, none⟩)] w fun e w' => e = .returned (.tuple #[.int .i64 (xs.getD 0 0), .bool true]) ∧ Became w b g n q ((f + 1) % n) (xs.drop 1) w' := by
  have hat := at_yes b g n q f cs xs 0 w h hx
  rw [show ((0 : Nat) : Int) = 0 from rfl] at hat
  obtain ⟨v, hv⟩ : ∃ v, xs.getD 0 0 = v := ⟨_, rfl⟩
  rw [hv] at hat ⊢
  clear hv
  have hdr : ∀ W, Ring W b g n q f cs xs → Calls Try.prog 82 #[.pointer (some ⟨b, 0, none⟩), .int .i64 1] W fun e w' => e = .returned (.tuple #[]) ∧ Became W b g n q ((f + 1) % n) (xs.drop 1) w' := fun W hW => drop_any b g n q f cs xs 1 W hW hx
  go_enter Try.func79, Try.ntmps79
  go_wp2_with (first
    | (go_at_call 83; ((with_reducible refine hat.mono ?_); rintro e w' ⟨rfl, kk, rfl⟩))
    | (go_at_call 82; ((with_reducible refine (hdr _ (by exact h.same rfl)).mono ?_); rintro e w' ⟨rfl, hB⟩)))
  go_ret2
  obtain ⟨cs', hR, hT⟩ := hB
  exact ⟨rfl, cs', hR, ((Turned.refl b g w).drewN kk).trans hT⟩

theorem clear_any (b g n q f : Nat) (cs xs : List Int) (w : World) (h : Ring w b g n q f cs xs) :
    Calls Try.prog 76 #[.pointer (some ⟨b, 0, none⟩)] w fun e w' => e = .returned (.tuple #[]) ∧ Became w b g n q ((f + xs.length) % n) [] w' := by
  obtain ⟨c0, c1, c2⟩ := h.core.cells
  have hdr := drop_any b g n q f cs xs xs.length w h (Nat.le_refl _)
  rw [List.drop_length] at hdr
  go_enter Try.func76, Try.ntmps76
  go_wp2_with (go_at_call 82; ((with_reducible refine hdr.mono ?_); rintro e w' ⟨rfl, hB⟩))
  go_end0
  exact ⟨rfl, hB⟩
end Go.Proofs.Ytejlhdmfcmhlaaa.RI64
end
section
/- What the landed Square and Steepest answer, and the reference's. -/
set_option linter.unusedSimpArgs false
set_option linter.unusedVariables false
namespace Go.Proofs.Ytejlhdmfcmhlaaa.Slope
open Go.RowKit RI64
set_option maxHeartbeats 1000000 in
theorem square_any (d : Int) (w : World) (hd : fits64 d) :
    Calls Try.prog 51 #[.int .i64 d] w fun e w' => e = .returned (.int .i64 (squareT d)) ∧ Below w.heap.size w w' := by
  have hB := (Below.refl w.heap.size w).alloc (Nat.le_refl _) (.cells #[.int .i64 d, .int .i64 d] 2)
  have hmu := mul_any _ _ 2 _ _ (ints_pair w d d 2 hd hd)
  rw [prod_pair] at hmu
  have hmin := square_min d
  have hov := square_over d
  generalize squareT d = q at *
  by_cases hf : fits64 (d * d)
  · rw [addIs_yes hf] at hmu
    clear hov
    have HF := Lib.hid hf
    clear hf
    generalize d * d = s at *
    go_enter Try.func51, Try.ntmps51
    go_wp2_with (go_at_call 64; ((with_reducible refine hmu.mono ?_); rintro e w1 ⟨rfl, rfl⟩))
    go_ret
    exact ⟨rfl, hB⟩
  · rw [addIs_no hf] at hmu
    have HQ := hov hf
    clear hov hmin hf
    subst HQ
    go_enter Try.func51, Try.ntmps51
    go_wp2_with (go_at_call 64; ((with_reducible refine hmu.mono ?_); rintro e w1 ⟨rfl, rfl⟩))
    go_ret
    exact ⟨rfl, hB⟩
theorem refsquare_any (d : Int) (w : World) (hd : fits64 d) :
    Calls Try.prog 28 #[.int .i64 d] w fun e w' => e = .returned (.int .i64 (squareT d)) ∧ w = w' := by
  unfold squareT
  by_cases h1 : 8191 < d
  · rw [if_pos (Or.inl h1)]
    go_enter Try.func28, Try.ntmps28
    go_wp2
    go_ret
    exact ⟨rfl, rfl⟩
  · by_cases h2 : d < -8191
    · rw [if_pos (Or.inr h2)]
      go_enter Try.func28, Try.ntmps28
      go_wp2
      go_ret
      exact ⟨rfl, rfl⟩
    · rw [if_neg (by omega)]
      have hb := mul_bd d d 8191 8191 (by omega) (by omega)
      have hb2 : -9223372036854775808 ≤ d * d ∧ d * d ≤ 9223372036854775807 := by omega
      go_enter Try.func28, Try.ntmps28
      go_wp2
      go_ret
      exact ⟨rfl, rfl⟩
end Go.Proofs.Ytejlhdmfcmhlaaa.Slope
end
section
/- A delay line: what its memory holds, and what its calls answer and do. -/
set_option linter.unusedSimpArgs false
set_option linter.unusedVariables false
namespace Go.Proofs.Ytejlhdmfcmhlaaa
open Go.RowKit RI64

/-- Block x is a line's struct that looks back most steps, over a ring at blocks b and g of n slots; h came, the last value first. -/
structure Line (w : World) (x b g n most : Nat) (h : List Int) : Prop where
  head : Has w x 98 #[.pointer (some ⟨b, 0, none⟩), .int .i64 most]
  ring : ∃ f cs, Ring w b g n n f cs (h.take (most + 1)).reverse
  most_ : most ≤ 1024
  room : most < n
  ne_ : x ≠ b ∧ x ≠ g
section
variable {w w' : World} {x b g n most : Nat} {h : List Int}
theorem Line.lt_ (L : Line w x b g n most h) : x < w.heap.size ∧ b < w.heap.size ∧ g < w.heap.size := by
  obtain ⟨f, cs, hR⟩ := L.ring
  exact ⟨L.head.lt, hR.core.lt_.1, hR.core.lt_.2⟩
theorem Line.cells (L : Line w x b g n most h) : w.cell? ⟨x, 0, none⟩ = some (.pointer (some ⟨b, 0, none⟩)) ∧ w.cell? ⟨x, 1, none⟩ = some (.int .i64 most) := ⟨L.head.cell 0, L.head.cell 1⟩
theorem Line.kept {S : List Nat} (L : Line w x b g n most h) (hk : Kept S w w') (h1 : x ∉ S) (h2 : b ∉ S) (h3 : g ∉ S) : Line w' x b g n most h := by
  obtain ⟨e1, ⟨f, cs, hR⟩, e3, e4, e5⟩ := L
  refine ⟨hk.has e1 h1, ⟨f, cs, ?_⟩, e3, e4, e5⟩
  obtain ⟨⟨h3', ⟨tl, h4⟩, s1, s2, s3, s4, s5⟩, hat⟩ := hR
  exact ⟨⟨hk.has h3' h2, ⟨tl, hk.has h4 h3⟩, s1, s2, s3, s4, s5⟩, hat⟩
theorem Line.same (L : Line w x b g n most h) (e : w'.heap = w.heap) : Line w' x b g n most h := by
  obtain ⟨e1, ⟨f, cs, hR⟩, e3, e4, e5⟩ := L
  exact ⟨by unfold Has at *; rw [e]; exact e1, ⟨f, cs, hR.same e⟩, e3, e4, e5⟩
theorem Line.alloc (L : Line w x b g n most h) (o : Obj) : Line (w.alloc o) x b g n most h := by
  obtain ⟨e1, ⟨f, cs, hR⟩, e3, e4, e5⟩ := L
  exact ⟨e1.alloc o, ⟨f, cs, hR.alloc o⟩, e3, e4, e5⟩
end

/-- The line has these values now; its ring has turned, and no other block that was there. -/
def LineBecame (w : World) (x b g n most : Nat) (h : List Int) (w' : World) : Prop := Line w' x b g n most h ∧ Kept [b, g] w w'

theorem line_new_no (most : Int) (w : World) (h : most < 0 ∨ 1024 < most) :
    Calls Try.prog 34 #[.int .i64 most] w fun e w' => e = .returned (.tuple #[.pointer none, .int .i64 1]) ∧ w = w' := by
  rcases h with h | h
  · go_enter Try.func34, Try.ntmps34
    go_wp2
    go_ret2
    exact ⟨rfl, rfl⟩
  · have h0 : ¬ most < 0 := by omega
    go_enter Try.func34, Try.ntmps34
    go_wp2
    go_ret2
    exact ⟨rfl, rfl⟩
theorem line_new_yes (most : Nat) (w : World) (h : most ≤ 1024) :
    Calls Try.prog 34 #[.int .i64 (most : Int)] w fun e w' => e = .returned (.tuple #[.pointer (some ⟨w.heap.size + 2, 0, none⟩), .int .i64 0]) ∧
      (∃ n, Line w' (w.heap.size + 2) (w.heap.size + 1) w.heap.size n most []) ∧ Below w.heap.size w w' ∧ w'.heap.size = w.heap.size + 3 := by
  have hlen := len_small most w h
  have hw : (most : Int) % 18446744073709551616 = (most : Int) := by omega
  have h0 : ¬ (most : Int) < 0 := by omega
  have h1 : ¬ (1024 : Int) < (most : Int) := by omega
  go_enter Try.func34, Try.ntmps34
  go_wp2_with (first
    | (go_at_call 54; ((with_reducible refine hlen.mono ?_); rintro e w1 ⟨⟨k, rfl, hk, hk11⟩, rfl⟩; have hnew := new_yes k (by omega) w))
    | (go_at_call 53; ((with_reducible refine hnew.mono ?_); rintro e w2 ⟨rfl, hR, hB, hz⟩)))
  go_ret2
  refine ⟨rfl, ⟨2 ^ k, ?_, ⟨0, _, by simpa using hR.alloc _⟩, h, hk, by omega⟩, hB.alloc (by omega) _, by simp [hz]⟩
  have h9 := Has.new w2 98 #[.pointer (some ⟨w.heap.size + 1, 0, none⟩), .int .i64 most]
  rw [hz] at h9
  exact h9

theorem line_ago (x b g n most : Nat) (h : List Int) (k : Int) (w : World) (L : Line w x b g n most h) (hk : k ≤ 9223372036854775807) :
    Calls Try.prog 69 #[.pointer (some ⟨x, 0, none⟩), .int .i64 k] w fun e w' => e = .returned (.int .i64 (agoTo most h k)) ∧ ∃ d, w' = w.drewN d := by
  obtain ⟨c0, c1⟩ := L.cells
  obtain ⟨f, cs, hR⟩ := L.ring
  have hc := hR.core.cells.2.2
  have hm := L.most_
  have hkl := kept_len most h
  by_cases h1 : k < 0 ∨ ((h.take (most + 1)).reverse.length : Int) ≤ k
  · have hb := back_no b _ k w h1 hk (by omega) hc
    rw [kept_far most h k h1]
    go_enter Try.func69, Try.ntmps69
    go_wp2_with (go_at_call 77; ((with_reducible refine hb.mono ?_); rintro e w' ⟨rfl, rfl⟩))
    go_ret
    exact ⟨rfl, 0, rfl⟩
  · obtain ⟨j, rfl⟩ : ∃ j : Nat, k = (j : Int) := ⟨k.toNat, by omega⟩
    have hj : j < (h.take (most + 1)).reverse.length := by omega
    have hb := back_yes b g n n f cs _ j w hR hj
    rw [kept_back most h j hj] at hb
    generalize agoTo most h j = v at *
    go_enter Try.func69, Try.ntmps69
    go_wp2_with (go_at_call 77; ((with_reducible refine hb.mono ?_); rintro e w' ⟨rfl, d, rfl⟩))
    go_ret
    exact ⟨rfl, d, rfl⟩
theorem line_back (x b g n most : Nat) (h : List Int) (k : Int) (w : World) (L : Line w x b g n most h) (hk : k ≤ 9223372036854775807) :
    Calls Try.prog 63 #[.pointer (some ⟨x, 0, none⟩), .int .i64 k] w fun e w' => e = .returned (.int .i64 (agoTo most h k)) ∧ ∃ d, w' = w.drewN d := by
  have hb := line_ago x b g n most h k w L hk
  go_enter Try.func63, Try.ntmps63
  go_wp2_with (go_at_call 69; ((with_reducible refine hb.mono ?_); rintro e w' ⟨rfl, d, rfl⟩))
  go_ret
  exact ⟨rfl, d, rfl⟩

theorem line_come (x b g n most : Nat) (h : List Int) (v : Int) (w : World) (L : Line w x b g n most h) :
    Calls Try.prog 70 #[.pointer (some ⟨x, 0, none⟩), .int .i64 v] w fun e w' => e = .returned (.tuple #[]) ∧ LineBecame w x b g n most (v :: h) w' := by
  obtain ⟨c0, c1⟩ := L.cells
  obtain ⟨f, cs, hR⟩ := L.ring
  have hc := hR.core.cells.2.2
  have hm := L.most_
  have hn := L.room
  have hne := L.ne_
  have hl := L.lt_
  have hkl := kept_len most h
  have hpu := kept_push most h v
  have hlen := fun W (hW : Ring W b g n n f cs (h.take (most + 1)).reverse) => len_q b g n n f cs _ _ W hW rfl
  have put : ∀ W A f cs zs, A = W.heap.size → Ring W b g n n f cs zs → zs.length < n → Calls Try.prog 80 #[.pointer (some ⟨b, 0, none⟩), .slice (some ⟨A, 0, none⟩) 1 1] (W.alloc (.cells #[.int .i64 v] 2)) fun e w' => e = .returned (.int .i64 1) ∧
      ∃ f' cs', Ring w' b g n n f' cs' (zs ++ [v]) ∧ Turned b g W w' := fun W A f cs zs hA hW hz => by
    subst hA
    have hl := hW.core.lt_
    have hp := put_any b g n n f cs zs (some ⟨W.heap.size, 0, none⟩) 1 1 [v] _ (hW.alloc (.cells #[.int .i64 v] 2)) (Vals.has (ys := [v]) (tl := []) (Has.new W _ _)) (by omega) (by omega) (fun _ x hx => by cases hx; simp; omega)
    rw [show min 1 (n - zs.length) = 1 by omega, show zs ++ [v].take (n - zs.length) = zs ++ [v] by rw [List.take_of_length_le (by simp; omega)]] at hp
    refine hp.mono ?_
    rintro e w' ⟨rfl, cs', hR, hT⟩
    exact ⟨rfl, f, cs', hR, ((Turned.refl b g W).alloc _).trans hT⟩
  generalize hxs : (h.take (most + 1)).reverse = xs at *
  by_cases hf : most < xs.length
  · rw [if_pos hf] at hpu
    have hpop := fun W (hW : Ring W b g n n f cs xs) => pop_yes b g n n f cs xs W hW (by omega)
    have hdl : (xs.drop 1).length < n := by rw [List.length_drop]; omega
    have HPU := Lib.hid hpu
    clear hpu
    go_enter Try.func70, Try.ntmps70
    go_wp2
    go_quiet ((go_at_call 78; exact Calls.quiet_of (hlen _ (hR.same rfl))))
    go_wp2_with (first
      | (go_at_call 79; ((with_reducible refine (hpop _ (by exact hR.same rfl)).mono ?_); rintro e w1 ⟨rfl, cs1, hR1, hT1⟩; have c0' := (hT1.cell (p := ⟨x, 0, none⟩) hl.1 hne.1 hne.2).trans c0))
      | (go_at_call 80; ((with_reducible refine (put _ _ _ _ _ rfl hR1 hdl).mono ?_); rintro e w2 ⟨rfl, f2, cs2, hR2, hT2⟩)))
    go_end0
    exact ⟨rfl, ⟨(hT2.has (hT1.has L.head hne.1 hne.2) hne.1 hne.2), ⟨f2, cs2, by rw [HPU.out]; exact hR2⟩, hm, hn, hne⟩, Kept.of_turned ((Turned.refl b g w).drewN _ |>.trans hT1 |>.trans hT2)⟩
  · rw [if_neg hf] at hpu
    have hdl : xs.length < n := by omega
    have HPU := Lib.hid hpu
    clear hpu
    go_enter Try.func70, Try.ntmps70
    go_wp2
    go_quiet ((go_at_call 78; exact Calls.quiet_of (hlen _ (hR.same rfl))))
    go_wp2_with (go_at_call 80; ((with_reducible refine (put _ _ _ _ _ (by simp) (by exact hR.same rfl) hdl).mono ?_); rintro e w2 ⟨rfl, f2, cs2, hR2, hT2⟩))
    go_end0
    exact ⟨rfl, ⟨(hT2.has (by exact L.head) hne.1 hne.2), ⟨f2, cs2, by rw [HPU.out]; exact hR2⟩, hm, hn, hne⟩, Kept.of_turned ((Turned.refl b g w).drewN _ |>.trans hT2)⟩
end Go.Proofs.Ytejlhdmfcmhlaaa
end
section
/- A delay line: values in any number, and none any more. -/
set_option linter.unusedSimpArgs false
set_option linter.unusedVariables false
namespace Go.Proofs.Ytejlhdmfcmhlaaa
open Go.RowKit RI64

theorem line_forget (x b g n most : Nat) (h : List Int) (w : World) (L : Line w x b g n most h) :
    Calls Try.prog 68 #[.pointer (some ⟨x, 0, none⟩)] w fun e w' => e = .returned (.tuple #[]) ∧ LineBecame w x b g n most [] w' := by
  obtain ⟨c0, c1⟩ := L.cells
  obtain ⟨f, cs, hR⟩ := L.ring
  have hne := L.ne_
  have hcl := clear_any b g n n f cs _ w hR
  go_enter Try.func68, Try.ntmps68
  go_wp2_with (go_at_call 76; ((with_reducible refine hcl.mono ?_); rintro e w1 ⟨rfl, cs1, hR1, hT1⟩))
  go_end0
  exact ⟨rfl, ⟨hT1.has L.head hne.1 hne.2, ⟨_, cs1, by simpa using hR1⟩, L.most_, L.room, hne⟩, Kept.of_turned hT1⟩
def Pushing (w : World) (x b g n most : Nat) (h ys : List Int) (len : Nat) (i : Value) (wr : World) : Prop :=
  ∃ k, k ≤ len ∧ i = .int .i64 (k : Nat) ∧ LineBecame w x b g n most ((ys.take k).reverse ++ h) wr
theorem push_step (ys : List Int) (h : List Int) (k : Nat) (hk : k < ys.length) : ys.getD k 0 :: ((ys.take k).reverse ++ h) = (ys.take (k + 1)).reverse ++ h := by
  rw [List.take_succ_eq_append_getElem hk, List.reverse_append, List.getD_eq_getElem?_getD, List.getElem?_eq_getElem hk]
  simp
theorem line_push (x b g n most : Nat) (h : List Int) (a : Option Addr) (len cap : Nat) (ys : List Int) (w : World) (L : Line w x b g n most h) (hv : Vals w a len ys) (hl : len ≤ cap) (hcap : cap ≤ 9223372036854775807) (hfar : 0 < len → ∀ y, a = some y → y.block ≠ b ∧ y.block ≠ g) :
    Calls Try.prog 61 #[.pointer (some ⟨x, 0, none⟩), .slice a len cap] w fun e w' => e = .returned (.tuple #[]) ∧ LineBecame w x b g n most (ys.reverse ++ h) w' := by
  have hK := Kept.refl [b, g] w
  have hy := hv.len_
  have hfar2 : 0 < len → ∀ y, a = some y → y.block ∉ [b, g] := fun h0 y hy => by have := hfar h0 y hy; simpa using this
  go_enter Try.func61, Try.ntmps61
  go_wp2
  go_loopw [10] (fun i wr => Pushing w x b g n most h ys len i wr) (fun i _ => len - (intOf i).toNat)
  case atStart => exact ⟨0, by omega, rfl, L, hK⟩
  case round =>
    clear L hK
    obtain ⟨k, hk, rfl, hL, hK⟩ := hrel
    by_cases hlt : k < len
    · obtain ⟨y, rfl, hcx⟩ := (hv.kept hK hfar2).cells (by omega)
      have hcell := hcx k hlt
      have hst := Lib.hid (push_step ys h k (by omega))
      generalize ys.getD k 0 = v at *
      clear hcx
      have hco := line_come x b g n most _ v wr hL
      go_wp2_with (go_at_call 70; ((with_reducible refine hco.mono ?_); rintro e w1 ⟨rfl, hL1, hK1⟩))
      go_roundw
      case rel => exact ⟨k + 1, by omega, by go_num, by rw [← hst.out]; exact hL1, hK.trans hK1⟩
      case measure => simp [intOf]; omega
    · obtain rfl : k = len := by omega
      rw [List.take_of_length_le (by omega)] at hL
      go_wp2
      go_end0
      exact ⟨rfl, hL, hK⟩
end Go.Proofs.Ytejlhdmfcmhlaaa
end
section
/- A delay line: Reset (a text of its own: a seat whose code resets windows alone has this function without a body). -/
set_option linter.unusedSimpArgs false
set_option linter.unusedVariables false
namespace Go.Proofs.Ytejlhdmfcmhlaaa
open Go.RowKit RI64

theorem line_reset (x b g n most : Nat) (h : List Int) (w : World) (L : Line w x b g n most h) :
    Calls Try.prog 56 #[.pointer (some ⟨x, 0, none⟩)] w fun e w' => e = .returned (.tuple #[]) ∧ LineBecame w x b g n most [] w' := by
  have hcl := line_forget x b g n most h w L
  go_enter Try.func56, Try.ntmps56
  go_wp2_with (go_at_call 68; ((with_reducible refine hcl.mono ?_); rintro e w1 ⟨rfl, hB⟩))
  go_end0
  exact ⟨rfl, hB⟩
end Go.Proofs.Ytejlhdmfcmhlaaa
end
section
/- A window of sums: what its memory holds, and what its calls answer and do. -/
set_option linter.unusedSimpArgs false
set_option linter.unusedVariables false
namespace Go.Proofs.Ytejlhdmfcmhlaaa
open Go.RowKit RI64

/-- Block y is a window's struct over a line at x that looks back most steps (so over most + 1 values): its sum is that of the last values, modulo 2^64. -/
structure Window (w : World) (y x b g n most : Nat) (h : List Int) : Prop where
  head : Has w y 100 #[.pointer (some ⟨x, 0, none⟩), .int .i64 (wrap64 (winSum most h))]
  line : Line w x b g n most h
  ne_ : y ≠ x ∧ y ≠ b ∧ y ≠ g
section
variable {w w' : World} {y x b g n most : Nat} {h : List Int}
theorem Window.cells (L : Window w y x b g n most h) : w.cell? ⟨y, 0, none⟩ = some (.pointer (some ⟨x, 0, none⟩)) ∧ w.cell? ⟨y, 1, none⟩ = some (.int .i64 (wrap64 (winSum most h))) ∧ w.frozen? ⟨y, 1, none⟩ = false := ⟨L.head.cell 0, L.head.cell 1, L.head.frozen 1⟩
theorem Window.lt_ (L : Window w y x b g n most h) : y < w.heap.size ∧ x < w.heap.size ∧ b < w.heap.size ∧ g < w.heap.size := ⟨L.head.lt, L.line.lt_⟩
theorem Window.kept {S : List Nat} (L : Window w y x b g n most h) (hk : Kept S w w') (h1 : y ∉ S) (h2 : x ∉ S) (h3 : b ∉ S) (h4 : g ∉ S) : Window w' y x b g n most h := ⟨hk.has L.head h1, L.line.kept hk h2 h3 h4, L.ne_⟩
theorem Window.same (L : Window w y x b g n most h) (e : w'.heap = w.heap) : Window w' y x b g n most h := ⟨by have := L.head; unfold Has at *; rw [e]; exact this, L.line.same e, L.ne_⟩
theorem Window.alloc (L : Window w y x b g n most h) (o : Obj) : Window (w.alloc o) y x b g n most h := ⟨L.head.alloc o, L.line.alloc o, L.ne_⟩
end
/-- The window has these values now; its struct and its ring have turned, and no other block that was there. -/
def WindowBecame (w : World) (y x b g n most : Nat) (h : List Int) (w' : World) : Prop := Window w' y x b g n most h ∧ Kept [y, b, g] w w'

theorem window_of_no (n : Int) (w : World) (h : n < 1 ∨ 1024 < n) :
    Calls Try.prog 35 #[.int .i64 n] w fun e w' => e = .returned (.tuple #[.pointer none, .int .i64 1]) ∧ w = w' := by
  rcases h with h | h
  · go_enter Try.func35, Try.ntmps35
    go_wp2
    go_ret2
    exact ⟨rfl, rfl⟩
  · have h0 : ¬ n < 1 := by omega
    go_enter Try.func35, Try.ntmps35
    go_wp2
    go_ret2
    exact ⟨rfl, rfl⟩
theorem window_of_yes (most : Nat) (w : World) (h : most < 1024) :
    Calls Try.prog 35 #[.int .i64 ((most : Int) + 1)] w fun e w' => e = .returned (.tuple #[.pointer (some ⟨w.heap.size + 3, 0, none⟩), .int .i64 0]) ∧
      (∃ n, Window w' (w.heap.size + 3) (w.heap.size + 2) (w.heap.size + 1) w.heap.size n most []) ∧ Below w.heap.size w w' ∧ w'.heap.size = w.heap.size + 4 := by
  have hnew := line_new_yes most w (by omega)
  have h0 : ¬ (most : Int) + 1 < 1 := by omega
  have h1 : ¬ (1024 : Int) < (most : Int) + 1 := by omega
  have h2 : (most : Int) + 1 - 1 = (most : Int) := by omega
  go_enter Try.func35, Try.ntmps35
  go_wp2_with (go_at_call 34; ((with_reducible refine hnew.mono ?_); rintro e w2 ⟨rfl, ⟨n, hL⟩, hB, hz⟩))
  go_ret2
  refine ⟨rfl, ⟨n, ?_, hL.alloc _, by omega⟩, hB.alloc (by omega) _, by simp [hz]⟩
  have h9 := Has.new w2 100 #[.pointer (some ⟨w.heap.size + 2, 0, none⟩), .int .i64 0]
  rw [hz] at h9
  rw [winSum_nil, show wrap64 0 = 0 from by unfold wrap64; omega]
  exact h9

set_option maxHeartbeats 2000000 in
theorem window_push (y x b g n most : Nat) (h : List Int) (v : Int) (w : World) (L : Window w y x b g n most h) :
    Calls Try.prog 58 #[.pointer (some ⟨y, 0, none⟩), .int .i64 v] w fun e w' => e = .returned (.int .i64 (wrap64 (winSum most (v :: h)))) ∧ WindowBecame w y x b g n most (v :: h) w' := by
  obtain ⟨c0, c1, z1⟩ := L.cells
  obtain ⟨d0, d1⟩ := L.line.cells
  have hm := L.line.most_
  have hne := L.ne_
  have hlt := L.lt_
  have hago := fun W (hW : Line W x b g n most h) => line_ago x b g n most h most W hW (by omega)
  rw [agoTo_in most h most (Nat.le_refl _)] at hago
  have hws := winSum_push most h v
  have hs2 := wrap64_sum (winSum most h) v (h.getD most 0)
  rw [← hws] at hs2
  clear hws
  have hlk := L.line
  have hhd := L.head
  generalize hS2 : wrap64 (winSum most (v :: h)) = S2 at *
  generalize wrap64 (winSum most h) = S1 at *
  generalize h.getD most 0 = out at *
  have hs3 : IntKind.i64.wrap (S1 + IntKind.i64.wrap (v - out)) = S2 := by rw [IntWalk.i64_left, IntWalk.i64_left]; exact hs2
  have hH2 : ∀ m, Has ((w.drewN m).setCell ⟨y, 1, none⟩ (.int .i64 S2)) y 100 #[.pointer (some ⟨x, 0, none⟩), .int .i64 S2] := fun m => by
    have := (hhd.drewN m).set_ 1 (.int .i64 S2)
    simpa using this
  have hK2 : ∀ m, Kept [y] w ((w.drewN m).setCell ⟨y, 1, none⟩ (.int .i64 S2)) := fun m => ((Kept.refl [y] w).drewN m).setCell (p := ⟨y, 1, none⟩) (.inl (by simp)) _
  have hL2 : ∀ m, Line ((w.drewN m).setCell ⟨y, 1, none⟩ (.int .i64 S2)) x b g n most h := fun m => hlk.kept (hK2 m) (by simp; omega) (by simp; omega) (by simp; omega)
  have hco := fun m => line_come x b g n most h v _ (hL2 m)
  have hbg : y ∉ [b, g] := by simp; omega
  have HS := Lib.hid hs3
  clear hs2 hs3 L
  go_enter Try.func58, Try.ntmps58
  go_wp2
  go_region_with (go_at_call 69; ((with_reducible refine (hago _ (by exact hlk.same rfl)).mono ?_); rintro e w1 ⟨rfl, kk, rfl⟩))
  all_goals
    rw [HS.out]
    go_wp2_with (go_at_call 70; ((with_reducible refine (hco _).mono ?_); rintro e w1 ⟨rfl, hL1, hK1⟩; have hH1 := hK1.has (hH2 _) hbg; have c1' := hH1.cell 1))
    go_ret
    exact ⟨rfl, ⟨by rw [hS2]; exact hH1, hL1, hne⟩, ((hK2 _).wide (fun k hk _ => by simp at hk; simp [hk])).trans (hK1.wide (fun k hk _ => by simp at hk; simp [hk]))⟩
theorem window_sum (y x b g n most : Nat) (h : List Int) (w : World) (L : Window w y x b g n most h) :
    Calls Try.prog 75 #[.pointer (some ⟨y, 0, none⟩)] w fun e w' => e = .returned (.int .i64 (wrap64 (winSum most h))) ∧ w = w' := by
  obtain ⟨c0, c1, z1⟩ := L.cells
  generalize wrap64 (winSum most h) = S at *
  go_enter Try.func75, Try.ntmps75
  go_wp2
  go_ret
  exact ⟨rfl, rfl⟩
theorem window_back (y x b g n most : Nat) (h : List Int) (k : Int) (w : World) (L : Window w y x b g n most h) (hk : k ≤ 9223372036854775807) :
    Calls Try.prog 60 #[.pointer (some ⟨y, 0, none⟩), .int .i64 k] w fun e w' => e = .returned (.int .i64 (agoTo most h k)) ∧ ∃ d, w' = w.drewN d := by
  obtain ⟨c0, c1, z1⟩ := L.cells
  have hb := line_ago x b g n most h k w L.line hk
  go_enter Try.func60, Try.ntmps60
  go_wp2_with (go_at_call 69; ((with_reducible refine hb.mono ?_); rintro e w' ⟨rfl, d, rfl⟩))
  go_ret
  exact ⟨rfl, d, rfl⟩
theorem window_reset (y x b g n most : Nat) (h : List Int) (w : World) (L : Window w y x b g n most h) :
    Calls Try.prog 57 #[.pointer (some ⟨y, 0, none⟩)] w fun e w' => e = .returned (.tuple #[]) ∧ WindowBecame w y x b g n most [] w' := by
  obtain ⟨c0, c1, z1⟩ := L.cells
  have hne := L.ne_
  have hb := line_forget x b g n most h w L.line
  have hbg : y ∉ [b, g] := by simp; omega
  have hhd := L.head
  generalize wrap64 (winSum most h) = S at *
  go_enter Try.func57, Try.ntmps57
  go_wp2_with (go_at_call 68; ((with_reducible refine hb.mono ?_); rintro e w1 ⟨rfl, hL1, hK1⟩; have hH1 := hK1.has hhd hbg; have c1' := hH1.cell 1; have z1' := hH1.frozen 1))
  go_end0
  have hK2 : Kept [y] w1 (w1.setCell ⟨y, 1, none⟩ (.int .i64 0)) := (Kept.refl [y] w1).setCell (p := ⟨y, 1, none⟩) (.inl (by simp)) _
  refine ⟨rfl, ⟨?_, hL1.kept hK2 (by simp; omega) (by simp; omega) (by simp; omega), hne⟩, (hK1.wide (fun k hk _ => by simp at hk; simp [hk])).trans (hK2.wide (fun k hk _ => by simp at hk; simp [hk]))⟩
  rw [winSum_nil, show wrap64 0 = 0 from by unfold wrap64; omega]
  have := hH1.set_ 1 (.int .i64 0)
  simpa using this
end Go.Proofs.Ytejlhdmfcmhlaaa
end
section
/- What the reference of layer 10 answers. -/
set_option linter.unusedSimpArgs false
set_option linter.unusedVariables false
namespace Go.Proofs.Ytejlhdmfcmhlaaa.Notch
open Go.RowKit RI64
theorem refcame_any (A : Option Addr) (n c : Nat) (h : List Int) (k : Nat) (w : World) (hv : Vals w A n h.reverse) (hn : n ≤ 1000000) :
    Calls Try.prog 55 #[.slice A n c, .int .i64 (k : Nat)] w fun e w' => e = .returned (.int .i64 (cameT 65535 h k)) ∧ ∃ z, w' = w.drewN z := by
  have hb := refback_any A n c h k w hv (by omega)
  rw [ago_nat] at hb
  have hne := fun W => refnear_to 65535 (h.getD k 0) W (by omega) (by omega)
  unfold cameT
  generalize nearTo 65535 (h.getD k 0) = r at *
  generalize h.getD k 0 = v at *
  go_enter Try.func55, Try.ntmps55
  go_wp2_with (first
    | (go_at_call 37; ((with_reducible refine hb.mono ?_); rintro e w1 ⟨rfl, z, rfl⟩))
    | (go_at_call 36; ((with_reducible refine (hne _).mono ?_); rintro e w2 ⟨rfl, rfl⟩)))
  go_ret
  exact ⟨rfl, z, rfl⟩
theorem refone_any (m : Nat) (A : Option Addr) (n c : Nat) (h : List Int) (w : World) (hv : Vals w A n h.reverse) (hn : n ≤ 1000000) :
    Calls Try.prog 40 #[.int .i64 (m : Nat), .slice A n c] w fun e w' => e = .returned (.int .i64 (notchT m h)) ∧ ∃ z, w' = w.drewN z := by
  have hc0 : ∀ W, Vals W A n h.reverse → Calls Try.prog 55 #[.slice A n c, .int .i64 0] W fun e w' => e = .returned (.int .i64 (cameT 65535 h 0)) ∧ ∃ z, w' = W.drewN z := fun W hW => refcame_any A n c h 0 W hW hn
  have hc1 : ∀ W, Vals W A n h.reverse → Calls Try.prog 55 #[.slice A n c, .int .i64 1] W fun e w' => e = .returned (.int .i64 (cameT 65535 h 1)) ∧ ∃ z, w' = W.drewN z := fun W hW => refcame_any A n c h 1 W hW hn
  have hc2 : ∀ W, Vals W A n h.reverse → Calls Try.prog 55 #[.slice A n c, .int .i64 2] W fun e w' => e = .returned (.int .i64 (cameT 65535 h 2)) ∧ ∃ z, w' = W.drewN z := fun W hW => refcame_any A n c h 2 W hW hn
  have hc3 : ∀ W, Vals W A n h.reverse → Calls Try.prog 55 #[.slice A n c, .int .i64 3] W fun e w' => e = .returned (.int .i64 (cameT 65535 h 3)) ∧ ∃ z, w' = W.drewN z := fun W hW => refcame_any A n c h 3 W hW hn
  have b0 := came4 h 0; have b1 := came4 h 1; have b2 := came4 h 2; have b3 := came4 h 3
  unfold notchT sum50 sum60
  generalize cameT 65535 h 0 = x0 at *
  generalize cameT 65535 h 1 = x1 at *
  generalize cameT 65535 h 2 = x2 at *
  generalize cameT 65535 h 3 = x3 at *
  by_cases h50 : m = 50
  · subst h50
    rw [if_pos rfl]
    have hd := fun W => refdiv_yes (x0 + x1 + x2 + x3) 4 W (by unfold fits64; omega) (by omega) (by omega)
    rw [Int.fdiv_eq_ediv_of_nonneg _ (by omega : (0 : Int) ≤ 4)] at hd
    have s1 : -9223372036854775808 ≤ x0 + x1 ∧ x0 + x1 ≤ 9223372036854775807 := by omega
    have s2 : -9223372036854775808 ≤ x0 + x1 + x2 ∧ x0 + x1 + x2 ≤ 9223372036854775807 := by omega
    have s3 : -9223372036854775808 ≤ x0 + x1 + x2 + x3 ∧ x0 + x1 + x2 + x3 ≤ 9223372036854775807 := by omega
    go_enter Try.func40, Try.ntmps40
    go_wp2_with (first
      | (go_at_call 55; ((with_reducible refine (hc0 _ (by exact hv)).mono ?_); rintro e w1 ⟨rfl, z1, rfl⟩))
      | (go_at_call 55; ((with_reducible refine (hc0 _ (by exact hv.same rfl)).mono ?_); rintro e w2 ⟨rfl, z2, rfl⟩))
      | (go_at_call 55; ((with_reducible refine (hc1 _ (by exact hv.same rfl)).mono ?_); rintro e w3 ⟨rfl, z3, rfl⟩))
      | (go_at_call 55; ((with_reducible refine (hc2 _ (by exact hv.same rfl)).mono ?_); rintro e w4 ⟨rfl, z4, rfl⟩))
      | (go_at_call 55; ((with_reducible refine (hc3 _ (by exact hv.same rfl)).mono ?_); rintro e w5 ⟨rfl, z5, rfl⟩))
      | (go_at_call 38; ((with_reducible refine (hd _).mono ?_); rintro e w6 ⟨rfl, rfl⟩)))
    go_ret
    exact ⟨rfl, _, rfl⟩
  · rw [if_neg h50]
    have m50 : ((m : Int) == 50) = false := by simp; omega
    by_cases h60 : m = 60
    · subst h60
      rw [if_pos rfl]
      clear h50 m50
      have hd := fun W => refdiv_yes (12516 * x0 + 7736 * x1 + 12516 * x2) 32768 W (by unfold fits64; omega) (by omega) (by omega)
      rw [Int.fdiv_eq_ediv_of_nonneg _ (by omega : (0 : Int) ≤ 32768)] at hd
      have s0 : -9223372036854775808 ≤ 12516 * x0 ∧ 12516 * x0 ≤ 9223372036854775807 := by omega
      have s1 : -9223372036854775808 ≤ 7736 * x1 ∧ 7736 * x1 ≤ 9223372036854775807 := by omega
      have s2 : -9223372036854775808 ≤ 12516 * x2 ∧ 12516 * x2 ≤ 9223372036854775807 := by omega
      have s3 : -9223372036854775808 ≤ 12516 * x0 + 7736 * x1 ∧ 12516 * x0 + 7736 * x1 ≤ 9223372036854775807 := by omega
      have s4 : -9223372036854775808 ≤ 12516 * x0 + 7736 * x1 + 12516 * x2 ∧ 12516 * x0 + 7736 * x1 + 12516 * x2 ≤ 9223372036854775807 := by omega
      go_enter Try.func40, Try.ntmps40
      go_wp2_with (first
        | (go_at_call 55; ((with_reducible refine (hc0 _ (by exact hv)).mono ?_); rintro e w1 ⟨rfl, z1, rfl⟩))
        | (go_at_call 55; ((with_reducible refine (hc0 _ (by exact hv.same rfl)).mono ?_); rintro e w2 ⟨rfl, z2, rfl⟩))
        | (go_at_call 55; ((with_reducible refine (hc1 _ (by exact hv.same rfl)).mono ?_); rintro e w3 ⟨rfl, z3, rfl⟩))
        | (go_at_call 55; ((with_reducible refine (hc2 _ (by exact hv.same rfl)).mono ?_); rintro e w4 ⟨rfl, z4, rfl⟩))
        | (go_at_call 38; ((with_reducible refine (hd _).mono ?_); rintro e w6 ⟨rfl, rfl⟩)))
      go_ret
      exact ⟨rfl, _, rfl⟩
    · rw [if_neg h60]
      have m60 : ((m : Int) == 60) = false := by simp; omega
      go_enter Try.func40, Try.ntmps40
      go_wp2_with (go_at_call 55; ((with_reducible refine (hc0 _ (by exact hv)).mono ?_); rintro e w1 ⟨rfl, z1, rfl⟩))
      go_ret
      exact ⟨rfl, _, rfl⟩
set_option maxHeartbeats 1000000 in
theorem refall_any (m : Nat) (A : Option Addr) (n c : Nat) (ys : List Int) (w : World) (hv : Vals w A n ys) (hn : n ≤ 100000) (hc : n ≤ c) (hc2 : c ≤ 9223372036854775807) :
    Calls Try.prog 26 #[.int .i64 (m : Nat), .slice A n c] w fun e w' => ∃ B d, e = .returned (.slice B n d) ∧ n ≤ d ∧ d ≤ 9223372036854775807 ∧ Vals w' B n (outsT (notchT m) [] ys) ∧ (∀ x, B = some x → w.heap.size ≤ x.block) ∧ Below w.heap.size w w' := by
  have hlen := hv.len_
  have hInfo : (Try.prog.info? 2).map (fun i => (i.zero, i.size, i.bytes)) = some (some (.int .i64 0), 1, 8) := by kernel_rfl
  have HInfo := Lib.hid hInfo
  clear hInfo
  go_enter Try.func26, Try.ntmps26
  go_wp2
  go_loopw [5, 6] (fun v i wr => ∃ j : Nat, j ≤ n ∧ i = .int .i64 (j : Nat) ∧ wr.ownsRow w.heap.size 2 1 v j (vals (outsT (notchT m) [] (ys.take j))) ∧ Below w.heap.size w wr) (fun _ i _ => n - (intOf i).toNat)
  case atStart => exact ⟨0, by omega, rfl, own_none _ _ _, Below.refl _ _⟩
  case round =>
    obtain ⟨j, hj, rfl, hO, hB⟩ := hrel
    by_cases hjn : j < n
    · obtain ⟨x, rfl, _⟩ := hv.cells (by omega)
      have hv1 := (hv.take (j + 1) (by omega)).below hB
      rw [show ys.take (j + 1) = (ys.take (j + 1)).reverse.reverse by rw [List.reverse_reverse]] at hv1
      have hone := refone_any m (some x) (j + 1) c (ys.take (j + 1)).reverse wr hv1 (by omega)
      have hst := outs_step (notchT m) [] ys j (by omega)
      rw [came_step [] ys j (by omega), List.append_nil] at hst
      generalize notchT m (ys.take (j + 1)).reverse = r at *
      have HS := Lib.hid hst
      clear hst hv hv1 hlen
      go_wp2_with (first
        | (go_at_call 40; ((with_reducible refine hone.mono ?_); rintro e w1 ⟨rfl, z, rfl⟩; have hP := one_ready 2 r (own_drewN hO z) (below_drewN hB z)))
        | (at_builtin; refine wpList_append_vals rfl (.tmp 13) (.tmp 20) _ rfl w.heap.size 2 8 (by omega) Try.underlying63 HInfo.out u5 j (outsT (notchT m) [] (ys.take j)) rfl (by exact hP.1) _ 1 1 [r] rfl (by exact hP.2.2) (by omega) (by exact hP.2.1.size) ?_; intro v3 W3 hO3 hg3 hat3; have hB3 := below_kept hP.2.1 (Kept.of_grown hg3) hP.2.1.size (own_in hP.1); rw [← HS.out] at hO3))
      go_roundw
      case rel => exact ⟨j + 1, by omega, by go_num, hO3, hB3⟩
      case measure => simp [intOf]; omega
    · obtain rfl : j = n := by omega
      rw [List.take_of_length_le (by omega)] at hO
      obtain ⟨A1, c1, rfl, e1, e2, hV1, hfar1, _⟩ := Vals.own hO
      go_wp2
      go_ret
      exact ⟨A1, c1, rfl, e1, e2, hV1, (fun x hx => (hfar1 x hx).1), hB⟩
end Go.Proofs.Ytejlhdmfcmhlaaa.Notch
end
section
/- What the reference of layer 11 answers. -/
set_option linter.unusedSimpArgs false
set_option linter.unusedVariables false
namespace Go.Proofs.Ytejlhdmfcmhlaaa.Low
open Go.RowKit RI64
set_option maxHeartbeats 1000000 in
theorem refweighed_any (A : Option Addr) (n c : Nat) (h : List Int) (w : World) (hv : Vals w A n h.reverse) (hn : n ≤ 1000000) :
    Calls Try.prog 39 #[.slice A n c] w fun e w' => e = .returned (.int .i64 (sumT h)) ∧ Below w.heap.size w w' := by
  have hbd := fun j hj => partial_bd h j hj
  have hst := fun j (hj : j < 11) => weighed_step 65535 h wsT j hj
  have hfull : weighed 65535 h 0 (wsT.take 11) = sumT h := rfl
  have hz : weighed 65535 h 0 (wsT.take 0) = 0 := rfl
  have hws : ∀ W : World, Vals (W.alloc (.cells #[.int .i64 1, .int .i64 2, .int .i64 3, .int .i64 4, .int .i64 5, .int .i64 6, .int .i64 5, .int .i64 4, .int .i64 3, .int .i64 2, .int .i64 1] 2)) (some ⟨W.heap.size, 0, none⟩) 11 wsT := fun W => Vals.has (ys := wsT) (tl := []) (Has.new W _ _)
  have hW0 := hws w
  have hB0 := (Below.refl w.heap.size w).alloc (Nat.le_refl _) (.cells #[.int .i64 1, .int .i64 2, .int .i64 3, .int .i64 4, .int .i64 5, .int .i64 6, .int .i64 5, .int .i64 4, .int .i64 3, .int .i64 2, .int .i64 1] 2)
  have hv0 := hv.below hB0
  generalize hw1 : w.alloc (.cells #[.int .i64 1, .int .i64 2, .int .i64 3, .int .i64 4, .int .i64 5, .int .i64 6, .int .i64 5, .int .i64 4, .int .i64 3, .int .i64 2, .int .i64 1] 2) = w1 at *
  have hback : ∀ (k : Nat) W, W.heap = w1.heap → Calls Try.prog 37 #[.slice A n c, .int .i64 (k : Nat)] W fun e w' => e = .returned (.int .i64 (h.getD k 0)) ∧ ∃ z, w' = W.drewN z := fun k W hW => by
    have hb := refback_any A n c h k W (hv0.same hW) (by omega)
    rwa [ago_nat] at hb
  have hne : ∀ k W, Calls Try.prog 36 #[.int .i64 (h.getD k 0), .int .i64 65535] W fun e w' => e = .returned (.int .i64 (cameT 65535 h k)) ∧ w' = W := fun k W => (refnear_to 65535 (h.getD k 0) W (by omega) (by omega)).mono fun e w' h => ⟨h.1, h.2.symm⟩
  have hcell : ∀ j, j < 11 → w1.cell? ⟨w.heap.size, j, none⟩ = some (.int .i64 (wsT.getD j 0)) := fun j hj => by
    have hH := Has.new w 2 (vals wsT).toArray
    rw [show w.alloc (.cells (vals wsT).toArray 2) = w1 from hw1] at hH
    rw [hH.cell j]
    have hl : j < wsT.length := hj
    simp [vals, List.getD_eq_getElem?_getD, List.getElem?_eq_getElem hl]
  have HBD := Lib.hid hbd
  have HST := Lib.hid hst
  clear hbd hst hws hW0 hv hv0
  generalize hwss : wsT = ws at *
  have HF := Lib.hid hfull
  clear hfull hwss
  go_enter Try.func39, Try.ntmps39
  go_wp2
  go_loopw [3, 5] (fun s i wr => ∃ j : Nat, j ≤ 11 ∧ i = .int .i64 (j : Nat) ∧ s = .int .i64 (weighed 65535 h 0 (ws.take j)) ∧ ∃ d, wr = w1.drewN d) (fun _ i _ => 11 - (intOf i).toNat)
  case atStart => exact ⟨0, by omega, rfl, by rw [hz], 0, rfl⟩
  case round =>
    obtain ⟨j, hj, rfl, rfl, d, hwd⟩ := hrel
    by_cases hjn : j < 11
    · obtain ⟨hb1, hb2⟩ := HBD.out j hjn
      have HS := Lib.hid (HST.out j hjn)
      have hbj := fun z => hback j (wr.drewN z) (by rw [hwd]; rfl)
      have hnj := hne j
      have d1 : wr.cell? ⟨w.heap.size, j, none⟩ = some (.int .i64 (ws.getD j 0)) := by rw [hwd]; exact hcell j hjn
      have HWD := Lib.hid hwd
      clear hwd hback hne hcell
      generalize ws.getD j 0 = a at *
      generalize cameT 65535 h j = cv at *
      generalize h.getD j 0 = v at *
      generalize weighed 65535 h 0 (ws.take j) = s at *
      have hb3 : -9000000000 ≤ s + a * cv ∧ s + a * cv ≤ 9000000000 := by omega
      go_wp2
      go_quiet ((first
        | (go_at_call 37; exact Calls.quiet_of (hbj _))
        | (go_at_call 36; exact Calls.quiet_of_same (hnj _))))
      go_wp2
      go_roundw
      case rel => exact ⟨j + 1, by omega, by go_num, by rw [HS.out], d + nq, by rw [HWD.out, World.drewN_drewN]⟩
      case measure => simp [intOf]; omega
    · obtain rfl : j = 11 := by omega
      rw [HF.out]
      clear hback hne hcell
      go_wp2
      go_ret
      exact ⟨rfl, below_drewN hB0 d⟩
set_option maxHeartbeats 1000000 in
theorem refall_any (A : Option Addr) (n c : Nat) (ys : List Int) (w : World) (hv : Vals w A n ys) (hn : n ≤ 100000) (hc : n ≤ c) (hc2 : c ≤ 9223372036854775807) :
    Calls Try.prog 25 #[.slice A n c] w fun e w' => ∃ B d, e = .returned (.slice B n d) ∧ n ≤ d ∧ d ≤ 9223372036854775807 ∧ Vals w' B n (outsT lowT [] ys) ∧ (∀ x, B = some x → w.heap.size ≤ x.block) ∧ Below w.heap.size w w' := by
  have hlen := hv.len_
  have hInfo : (Try.prog.info? 2).map (fun i => (i.zero, i.size, i.bytes)) = some (some (.int .i64 0), 1, 8) := by kernel_rfl
  have HInfo := Lib.hid hInfo
  clear hInfo
  go_enter Try.func25, Try.ntmps25
  go_wp2
  go_loopw [3, 4] (fun v i wr => ∃ j : Nat, j ≤ n ∧ i = .int .i64 (j : Nat) ∧ wr.ownsRow w.heap.size 2 1 v j (vals (outsT lowT [] (ys.take j))) ∧ Below w.heap.size w wr) (fun _ i _ => n - (intOf i).toNat)
  case atStart => exact ⟨0, by omega, rfl, own_none _ _ _, Below.refl _ _⟩
  case round =>
    obtain ⟨j, hj, rfl, hO, hB⟩ := hrel
    by_cases hjn : j < n
    · obtain ⟨x, rfl, _⟩ := hv.cells (by omega)
      have hv1 := (hv.take (j + 1) (by omega)).below hB
      rw [show ys.take (j + 1) = (ys.take (j + 1)).reverse.reverse by rw [List.reverse_reverse]] at hv1
      have hwe := refweighed_any (some x) (j + 1) c (ys.take (j + 1)).reverse wr hv1 (by omega)
      have hsb := sum_bd (ys.take (j + 1)).reverse
      have hdv := fun W => refdiv_yes (sumT (ys.take (j + 1)).reverse) 32 W (by unfold fits64; omega) (by omega) (by omega)
      rw [Int.fdiv_eq_ediv_of_nonneg _ (by omega : (0 : Int) ≤ 32), show sumT (ys.take (j + 1)).reverse / 32 = lowT (ys.take (j + 1)).reverse from rfl] at hdv
      have hst := outs_step lowT [] ys j (by omega)
      rw [came_step [] ys j (by omega), List.append_nil] at hst
      generalize lowT (ys.take (j + 1)).reverse = r at *
      generalize sumT (ys.take (j + 1)).reverse = s at *
      have HS := Lib.hid hst
      clear hst hv hv1 hlen
      go_wp2_with (first
        | (go_at_call 39; ((with_reducible refine hwe.mono ?_); rintro e w1 ⟨rfl, hB1⟩; have hB2 := hB.trans (hB1.mono hB.size); have hO1 := own_kept hO (Kept.of_below (S := []) hB1) (by simp)))
        | (go_at_call 38; ((with_reducible refine (hdv _).mono ?_); rintro e w2 ⟨rfl, rfl⟩; have hP := one_ready 2 r hO1 hB2))
        | (at_builtin; refine wpList_append_vals rfl (.tmp 22) (.tmp 24) _ rfl w.heap.size 2 8 (by omega) Try.underlying63 HInfo.out u3 j (outsT lowT [] (ys.take j)) rfl (by exact hP.1) _ 1 1 [r] rfl (by exact hP.2.2) (by omega) (by exact hP.2.1.size) ?_; intro v3 W3 hO3 hg3 hat3; have hB3 := below_kept hP.2.1 (Kept.of_grown hg3) hP.2.1.size (own_in hP.1); rw [← HS.out] at hO3))
      go_roundw
      case rel => exact ⟨j + 1, by omega, by go_num, hO3, hB3⟩
      case measure => simp [intOf]; omega
    · obtain rfl : j = n := by omega
      rw [List.take_of_length_le (by omega)] at hO
      obtain ⟨A1, c1, rfl, e1, e2, hV1, hfar1, _⟩ := Vals.own hO
      go_wp2
      go_ret
      exact ⟨A1, c1, rfl, e1, e2, hV1, (fun x hx => (hfar1 x hx).1), hB⟩
end Go.Proofs.Ytejlhdmfcmhlaaa.Low
end
section
/- What the reference of layer 12 answers. -/
set_option linter.unusedSimpArgs false
set_option linter.unusedVariables false
namespace Go.Proofs.Ytejlhdmfcmhlaaa.High
open Go.RowKit RI64
set_option maxRecDepth 100000 in
set_option maxHeartbeats 2000000 in
theorem refall_any (A : Option Addr) (n c : Nat) (ys : List Int) (w : World) (hv : Vals w A n ys) (hn : n ≤ 100000) (hc : n ≤ c) (hc2 : c ≤ 9223372036854775807) :
    Calls Try.prog 24 #[.slice A n c] w fun e w' => ∃ B d, e = .returned (.slice B n d) ∧ n ≤ d ∧ d ≤ 9223372036854775807 ∧ Vals w' B n (outsT highT [] ys) ∧ (∀ x, B = some x → w.heap.size ≤ x.block) ∧ Below w.heap.size w w' := by
  have hlen := hv.len_
  have hInfo : (Try.prog.info? 2).map (fun i => (i.zero, i.size, i.bytes)) = some (some (.int .i64 0), 1, 8) := by kernel_rfl
  have HInfo := Lib.hid hInfo
  clear hInfo
  go_enter Try.func24, Try.ntmps24
  go_wp2
  go_loopw [3, 4] (fun v i wr => ∃ j : Nat, j ≤ n ∧ i = .int .i64 (j : Nat) ∧ wr.ownsRow w.heap.size 2 1 v j (vals (outsT highT [] (ys.take j))) ∧ Below w.heap.size w wr) (fun _ i _ => n - (intOf i).toNat)
  case atStart => exact ⟨0, by omega, rfl, own_none _ _ _, Below.refl _ _⟩
  case round =>
    obtain ⟨j, hj, rfl, hO, hB⟩ := hrel
    by_cases hjn : j < n
    · obtain ⟨x, rfl, _⟩ := hv.cells (by omega)
      have hv1 := (hv.take (j + 1) (by omega)).below hB
      rw [show ys.take (j + 1) = (ys.take (j + 1)).reverse.reverse by rw [List.reverse_reverse]] at hv1
      have hst := outs_step highT [] ys j (by omega)
      rw [came_step [] ys j (by omega), List.append_nil] at hst
      have HS := Lib.hid hst
      clear hst hv hlen
      generalize (ys.take (j + 1)).reverse = h at *
      have hback : ∀ (k : Nat) W, W.heap = wr.heap → Calls Try.prog 37 #[.slice (some x) (j + 1) c, .int .i64 (k : Nat)] W fun e w' => e = .returned (.int .i64 (h.getD k 0)) ∧ ∃ z, w' = W.drewN z := fun k W hW => by
        have hb := refback_any (some x) (j + 1) c h k W (hv1.same hW) (by omega)
        rwa [ago_nat] at hb
      have hne : ∀ k W, Calls Try.prog 36 #[.int .i64 (h.getD k 0), .int .i64 73727] W fun e w' => e = .returned (.int .i64 (cameT 73727 h k)) ∧ W = w' := fun k W => refnear_to 73727 (h.getD k 0) W (by omega) (by omega)
      have hb16 := fun W hW => hback 16 W hW
      rw [show ((16 : Nat) : Int) = 16 from rfl] at hb16
      have hn16 := hne 16
      have hc16 := came_high h 16
      have hwb := whole_bd h
      have hdv := fun W => refdiv_yes (wholeT h) 32 W (by unfold fits64; omega) (by omega) (by omega)
      rw [Int.fdiv_eq_ediv_of_nonneg _ (by omega : (0 : Int) ≤ 32), show wholeT h / 32 = highT h from rfl] at hdv
      unfold wholeT at hdv hwb
      have hbd := fun (k : Nat) (hk : k ≤ 32) => sum_bd h k hk
      have hss := fun (k : Nat) => sum_step h k
      have hcc := fun (k : Nat) => came_high h k
      have hs0 := sum_none h
      generalize highT h = r at *
      generalize cameT 73727 h 16 = c16 at *
      generalize h.getD 16 0 = v16 at *
      have HBD := Lib.hid (And.intro hbd (And.intro hss hcc))
      clear hbd hss hcc
      have HS0 := Lib.hid hs0
      clear hs0
      go_wp2_with (first
        | (go_at_call 37; ((with_reducible refine (hb16 _ (by rfl)).mono ?_); rintro e W1 ⟨rfl, z1, rfl⟩))
        | (go_at_call 36; ((with_reducible refine (hn16 _).mono ?_); rintro e W2 ⟨rfl, rfl⟩)))
      go_loopw [6, 7] (fun s i wr2 => ∃ k : Nat, k ≤ 32 ∧ i = .int .i64 (k : Nat) ∧ s = .int .i64 (32 * c16 - sumT h k) ∧ ∃ d, wr2 = wr.drewN d) (fun _ i _ => 32 - (intOf i).toNat)
      case atStart => exact ⟨0, by omega, rfl, by rw [HS0.out, Int.sub_zero], z1, rfl⟩
      case round =>
        obtain ⟨k, hk, rfl, rfl, d, rfl⟩ := hrel
        by_cases hkn : k < 32
        · have hbk := hback k (wr.drewN d) rfl
          have hnk := hne k
          have hs1 := HBD.out.1 k hk
          have hs2 := HBD.out.2.2 k
          have HST := Lib.hid (HBD.out.2.1 k)
          clear hback hne hb16 hn16 hdv hwb
          generalize cameT 73727 h k = ck at *
          generalize h.getD k 0 = vk at *
          generalize sumT h k = sk at *
          go_wp2_with (first
            | (go_at_call 37; ((with_reducible refine hbk.mono ?_); rintro e W1 ⟨rfl, z2, rfl⟩))
            | (go_at_call 36; ((with_reducible refine (hnk _).mono ?_); rintro e W2 ⟨rfl, rfl⟩)))
          go_roundw
          case rel => exact ⟨k + 1, by omega, by go_num, by rw [HST.out, Int.sub_sub], d + z2, by first | rfl | rw [World.drewN_drewN]⟩
          case measure => simp [intOf]; omega
        · obtain rfl : k = 32 := by omega
          have hO1 := own_drewN hO d
          have hB2 := below_drewN hB d
          generalize sumT h 32 = s32 at *
          clear hback hne hb16 hn16 HBD HS0
          go_wp2_with (first
            | (go_at_call 38; ((with_reducible refine (hdv _).mono ?_); rintro e w2 ⟨rfl, rfl⟩; have hP := one_ready 2 r hO1 hB2))
            | (at_builtin; refine wpList_append_vals rfl (.tmp 39) (.tmp 41) _ rfl w.heap.size 2 8 (by omega) Try.underlying63 HInfo.out u3 j (outsT highT [] (ys.take j)) rfl (by exact hP.1) _ 1 1 [r] rfl (by exact hP.2.2) (by omega) (by exact hP.2.1.size) ?_; intro v3 W3 hO3 hg3 hat3; have hB3 := below_kept hP.2.1 (Kept.of_grown hg3) hP.2.1.size (own_in hP.1); rw [← HS.out] at hO3))
          go_roundw
          case rel => exact ⟨j + 1, by omega, by go_num, hO3, hB3⟩
          case measure => simp [intOf]; omega
    · obtain rfl : j = n := by omega
      rw [List.take_of_length_le (by omega)] at hO
      obtain ⟨A1, c1, rfl, e1, e2, hV1, hfar1, _⟩ := Vals.own hO
      go_wp2
      go_ret
      exact ⟨A1, c1, rfl, e1, e2, hV1, (fun x hx => (hfar1 x hx).1), hB⟩
end Go.Proofs.Ytejlhdmfcmhlaaa.High
end
section
/- What the reference of layer 13 answers. -/
set_option linter.unusedSimpArgs false
set_option linter.unusedVariables false
namespace Go.Proofs.Ytejlhdmfcmhlaaa.Slope
open Go.RowKit RI64
theorem refcame_any (A : Option Addr) (n c : Nat) (h : List Int) (k : Nat) (w : World) (hv : Vals w A n h.reverse) (hn : n ≤ 1000000) (hk : k ≤ 4) :
    Calls Try.prog 41 #[.slice A n c, .int .i64 (k : Nat)] w fun e w' => e = .returned (.int .i64 (cameT 142847 h k)) ∧ ∃ z, w' = w.drewN z := by
  have hb := refback_any A n c h k w hv (by omega)
  rw [ago_nat] at hb
  have hne := fun W => refnear_to 142847 (h.getD k 0) W (by omega) (by omega)
  unfold cameT
  generalize nearTo 142847 (h.getD k 0) = r at *
  generalize h.getD k 0 = v at *
  go_enter Try.func41, Try.ntmps41
  go_wp2_with (first
    | (go_at_call 37; ((with_reducible refine hb.mono ?_); rintro e w1 ⟨rfl, z, rfl⟩))
    | (go_at_call 36; ((with_reducible refine (hne _).mono ?_); rintro e w2 ⟨rfl, rfl⟩)))
  go_ret
  exact ⟨rfl, z, rfl⟩
set_option maxHeartbeats 1000000 in
theorem refall_any (A : Option Addr) (n c : Nat) (ys : List Int) (w : World) (hv : Vals w A n ys) (hn : n ≤ 100000) (hc : n ≤ c) (hc2 : c ≤ 9223372036854775807) :
    Calls Try.prog 27 #[.slice A n c] w fun e w' => ∃ B d, e = .returned (.slice B n d) ∧ n ≤ d ∧ d ≤ 9223372036854775807 ∧ Vals w' B n (outsT slopeT [] ys) ∧ (∀ x, B = some x → w.heap.size ≤ x.block) ∧ Below w.heap.size w w' := by
  have hlen := hv.len_
  have hInfo : (Try.prog.info? 2).map (fun i => (i.zero, i.size, i.bytes)) = some (some (.int .i64 0), 1, 8) := by kernel_rfl
  have HInfo := Lib.hid hInfo
  clear hInfo
  go_enter Try.func27, Try.ntmps27
  go_wp2
  go_loopw [3, 4] (fun v i wr => ∃ j : Nat, j ≤ n ∧ i = .int .i64 (j : Nat) ∧ wr.ownsRow w.heap.size 2 1 v j (vals (outsT slopeT [] (ys.take j))) ∧ Below w.heap.size w wr) (fun _ i _ => n - (intOf i).toNat)
  case atStart => exact ⟨0, by omega, rfl, own_none _ _ _, Below.refl _ _⟩
  case round =>
    obtain ⟨j, hj, rfl, hO, hB⟩ := hrel
    by_cases hjn : j < n
    · obtain ⟨x, rfl, _⟩ := hv.cells (by omega)
      have hv1 := (hv.take (j + 1) (by omega)).below hB
      rw [show ys.take (j + 1) = (ys.take (j + 1)).reverse.reverse by rw [List.reverse_reverse]] at hv1
      have hst := outs_step slopeT [] ys j (by omega)
      rw [came_step [] ys j (by omega), List.append_nil] at hst
      have HS := Lib.hid hst
      clear hst hv hlen
      generalize (ys.take (j + 1)).reverse = h at *
      have hca : ∀ (k : Nat), k ≤ 4 → ∀ W, W.heap = wr.heap → Calls Try.prog 41 #[.slice (some x) (j + 1) c, .int .i64 (k : Nat)] W fun e w' => e = .returned (.int .i64 (cameT 142847 h k)) ∧ ∃ z, w' = W.drewN z := fun k hk W hW => refcame_any (some x) (j + 1) c h k W (hv1.same hW) (by omega) hk
      have hb0 := hca 0 (by omega) wr rfl
      have hb1 := fun z0 => hca 1 (by omega) (wr.drewN z0) rfl
      have hb3 := fun z0 => hca 3 (by omega) (wr.drewN z0) rfl
      have hb4 := fun z0 => hca 4 (by omega) (wr.drewN z0) rfl
      rw [show ((0 : Nat) : Int) = 0 from rfl] at hb0
      rw [show ((1 : Nat) : Int) = 1 from rfl] at hb1
      rw [show ((3 : Nat) : Int) = 3 from rfl] at hb3
      rw [show ((4 : Nat) : Int) = 4 from rfl] at hb4
      have e0 := came_slope h 0
      have e1 := came_slope h 1
      have e3 := came_slope h 3
      have e4 := came_slope h 4
      have hsb := sum_bd h
      have hdv := fun W => refdiv_yes (sumT h) 8 W (by unfold fits64; omega) (by omega) (by omega)
      rw [Int.fdiv_eq_ediv_of_nonneg _ (by omega : (0 : Int) ≤ 8), show sumT h / 8 = slopeT h from rfl] at hdv
      unfold sumT at hdv hsb
      generalize slopeT h = r at *
      generalize cameT 142847 h 0 = x0 at *
      generalize cameT 142847 h 1 = x1 at *
      generalize cameT 142847 h 3 = x3 at *
      generalize cameT 142847 h 4 = x4 at *
      clear hca hv1
      go_wp2_with (first
        | (go_at_call 41; ((with_reducible refine hb0.mono ?_); rintro e w1 ⟨rfl, z0, rfl⟩))
        | (go_at_call 41; ((with_reducible refine (hb1 _).mono ?_); rintro e w2 ⟨rfl, z1, rfl⟩))
        | (go_at_call 41; ((with_reducible refine (hb3 _).mono ?_); rintro e w3 ⟨rfl, z3, rfl⟩))
        | (go_at_call 41; ((with_reducible refine (hb4 _).mono ?_); rintro e w4 ⟨rfl, z4, rfl⟩))
        | (go_at_call 38; ((with_reducible refine (hdv _).mono ?_); rintro e w5 ⟨rfl, rfl⟩; have hP := one_ready 2 r (own_drewN hO (z0 + z1 + z3 + z4)) (below_drewN hB (z0 + z1 + z3 + z4))))
        | (at_builtin; refine wpList_append_vals rfl (.tmp 35) (.tmp 37) _ rfl w.heap.size 2 8 (by omega) Try.underlying63 HInfo.out u3 j (outsT slopeT [] (ys.take j)) rfl (by exact hP.1) _ 1 1 [r] rfl (by exact hP.2.2) (by omega) (by exact hP.2.1.size) ?_; intro v3 W3 hO3 hg3 hat3; have hB3 := below_kept hP.2.1 (Kept.of_grown hg3) hP.2.1.size (own_in hP.1); rw [← HS.out] at hO3))
      go_roundw
      case rel => exact ⟨j + 1, by omega, by go_num, hO3, hB3⟩
      case measure => simp [intOf]; omega
    · obtain rfl : j = n := by omega
      rw [List.take_of_length_le (by omega)] at hO
      obtain ⟨A1, c1, rfl, e1, e2, hV1, hfar1, _⟩ := Vals.own hO
      go_wp2
      go_ret
      exact ⟨A1, c1, rfl, e1, e2, hV1, (fun x hx => (hfar1 x hx).1), hB⟩
end Go.Proofs.Ytejlhdmfcmhlaaa.Slope
end
section
/- The landed notch: what its memory holds, and what its calls answer and do. -/
set_option linter.unusedSimpArgs false
set_option linter.unusedVariables false
namespace Go.Proofs.Ytejlhdmfcmhlaaa.Notch
open Go.RowKit RI64
/-- Block y is a notch's struct for mains m: over a line at x (its ring at b and g, n slots), with its weights in block q. -/
structure NotchIs (w : World) (y q x b g n m : Nat) (h : List Int) : Prop where
  head : Has w y 75 #[.pointer (some ⟨x, 0, none⟩), .int .i64 m, .slice (some ⟨q, 0, none⟩) (weightsT m).length (weightsT m).length, .int .i64 (logT m : Nat)]
  weights : Has w q 2 (vals (weightsT m)).toArray
  line : Line w x b g n ((weightsT m).length - 1) (h.map (nearTo 65535))
  known : Known m
  ne_ : y ≠ q ∧ y ≠ x ∧ y ≠ b ∧ y ≠ g ∧ q ≠ x ∧ q ≠ b ∧ q ≠ g
section
variable {w w' : World} {y q x b g n m : Nat} {h : List Int}
theorem NotchIs.kept {S : List Nat} (L : NotchIs w y q x b g n m h) (hk : Kept S w w') (h1 : y ∉ S) (h2 : q ∉ S) (h3 : x ∉ S) (h4 : b ∉ S) (h5 : g ∉ S) : NotchIs w' y q x b g n m h := ⟨hk.has L.head h1, hk.has L.weights h2, L.line.kept hk h3 h4 h5, L.known, L.ne_⟩
theorem NotchIs.lt_ (L : NotchIs w y q x b g n m h) : y < w.heap.size ∧ q < w.heap.size ∧ x < w.heap.size ∧ b < w.heap.size ∧ g < w.heap.size := ⟨L.head.lt, L.weights.lt, L.line.lt_⟩
theorem NotchIs.cells (L : NotchIs w y q x b g n m h) : w.cell? ⟨y, 0, none⟩ = some (.pointer (some ⟨x, 0, none⟩)) ∧ w.cell? ⟨y, 1, none⟩ = some (.int .i64 m) ∧ w.cell? ⟨y, 2, none⟩ = some (.slice (some ⟨q, 0, none⟩) (weightsT m).length (weightsT m).length) ∧ w.cell? ⟨y, 3, none⟩ = some (.int .i64 (logT m : Nat)) :=
  ⟨L.head.cell 0, L.head.cell 1, L.head.cell 2, L.head.cell 3⟩
end
def Fil (m : Nat) (w : World) (y : Nat) (S : List Nat) (h : List Int) : Prop := ∃ q x b g n, S = [y, q, x, b, g] ∧ NotchIs w y q x b g n m h
/-- Behind a Push of the line: the notch is as it was, but for what came. -/
theorem NotchIs.turned {w w' : World} {y q x b g n m : Nat} {h h' : List Int} (L : NotchIs w y q x b g n m h) (hL : Line w' x b g n ((weightsT m).length - 1) (h'.map (nearTo 65535))) (hK : Kept [b, g] w w') : NotchIs w' y q x b g n m h' :=
  ⟨hK.has L.head (by have := L.ne_; simp; omega), hK.has L.weights (by have := L.ne_; simp; omega), hL, L.known, L.ne_⟩
set_option maxHeartbeats 1000000 in
theorem push_k (m y q x b g n : Nat) (h : List Int) (v : Int) (w : World) (L : NotchIs w y q x b g n m h) :
    Calls Try.prog 49 #[.pointer (some ⟨y, 0, none⟩), .int .i64 v] w fun e w' => e = .returned (.int .i64 (notchT m (v :: h))) ∧ NotchIs w' y q x b g n m (v :: h) ∧ Kept [b, g] w w' := by
  obtain ⟨c0, c1, c2, c3⟩ := L.cells
  have hcl := clamp_any v (-65535) 65535
  rw [nearTo_clamp 65535 v (by omega)] at hcl
  have hpu := fun (A : Option Addr) W (hW : Line W x b g n ((weightsT m).length - 1) (h.map (nearTo 65535))) (hv : Vals W A 1 [nearTo 65535 v]) hf => line_push x b g n _ _ A 1 1 [nearTo 65535 v] W hW hv (by omega) (by omega) hf
  rw [show [nearTo 65535 v].reverse ++ h.map (nearTo 65535) = (v :: h).map (nearTo 65535) from rfl] at hpu
  have hV1 : Vals (w.alloc (.cells #[.int .i64 (nearTo 65535 v)] 2)).drew (some ⟨w.heap.size, 0, none⟩) 1 [nearTo 65535 v] := Vals.same (Vals.has (ys := [nearTo 65535 v]) (tl := []) (Has.new w 2 _)) rfl
  have hpc := hpu (some ⟨w.heap.size, 0, none⟩) (w.alloc (.cells #[.int .i64 (nearTo 65535 v)] 2)).drew ((L.line.alloc (.cells #[.int .i64 (nearTo 65535 v)] 2)).same rfl) hV1 (fun _ z hz => by cases hz; have := L.lt_; simp; omega)
  clear hpu hV1
  go_enter Try.func49, Try.ntmps49
  go_wp2
  refine Reg.begin_ (S := fun W => W.cell? ⟨y, 0, none⟩ = some (.pointer (some ⟨x, 0, none⟩))) (by kernel_rfl) (by exact c0) (fun hHeld => ?_)
  refine Reg.take (i := 0) (v := ?v1) rfl (by kernel_rfl) (by kernel_rfl) (by kernel_rfl) (by rfl) ?hv1 (by assumption) ?rest1
  case hv1 => first | (intro w hSw; (try dsimp only at hSw); go_simp; done) | (intro w hSw; (try dsimp only at hSw); go_simp; with_reducible rfl)
  (try simp only [Act.put, List.setIfInBounds_toArray, List.set_cons_zero, List.set_cons_succ])
  refine Reg.take (i := 1) (v := ?v2) rfl (by kernel_rfl) (by kernel_rfl) (by kernel_rfl) (by rfl) ?hv2 (by assumption) ?rest2
  case hv2 => first | (intro w hSw; (try dsimp only at hSw); go_simp; done) | (intro w hSw; (try dsimp only at hSw); go_simp; with_reducible rfl)
  (try simp only [Act.put, List.setIfInBounds_toArray, List.set_cons_zero, List.set_cons_succ])
  refine Reg.take (i := 2) (v := ?v3) rfl (by kernel_rfl) (by kernel_rfl) (by kernel_rfl) (by rfl) ?hv3 (by assumption) ?rest3
  case hv3 => first | (intro w hSw; (try dsimp only at hSw); go_simp; done) | (intro w hSw; (try dsimp only at hSw); go_simp; with_reducible rfl)
  (try simp only [Act.put, List.setIfInBounds_toArray, List.set_cons_zero, List.set_cons_succ])
  refine Reg.take (i := 3) (v := ?v4) rfl (by kernel_rfl) (by kernel_rfl) (by kernel_rfl) (by rfl) ?hv4 (by assumption) ?rest4
  case hv4 => first | (intro w hSw; (try dsimp only at hSw); go_simp; done) | (intro w hSw; (try dsimp only at hSw); go_simp; with_reducible rfl)
  (try simp only [Act.put, List.setIfInBounds_toArray, List.set_cons_zero, List.set_cons_succ])
  refine Reg.take (i := 4) (v := ?v5) rfl (by kernel_rfl) (by kernel_rfl) (by kernel_rfl) (by rfl) ?hv5 (by assumption) ?rest5
  case hv5 => first | (intro w hSw; (try dsimp only at hSw); go_simp; done) | (intro w hSw; (try dsimp only at hSw); go_simp; with_reducible rfl)
  (try simp only [Act.put, List.setIfInBounds_toArray, List.set_cons_zero, List.set_cons_succ])
  refine Reg.call (i := 5) rfl (by kernel_rfl) (by rfl) ?_
  intro K1 hK1
  go_simp
  go_at_call 31
  (with_reducible refine (hcl _).mono ?_)
  rintro e W1 ⟨rfl, rfl⟩
  refine hK1.out _ _ (by exact c0) (fun hHeld => ?_)
  clear hK1 K1
  (try simp only [Act.put, List.setIfInBounds_toArray, List.set_cons_zero, List.set_cons_succ])
  refine Reg.call (i := 6) rfl (by kernel_rfl) (by rfl) ?_
  intro K1 hK1
  go_simp
  refine hK1.out _ _ (by exact (L.head.alloc _).cell 0) (fun hHeld => ?_)
  clear hK1 K1
  (try simp only [Act.put, List.setIfInBounds_toArray, List.set_cons_zero, List.set_cons_succ])
  refine Reg.call (i := 7) rfl (by kernel_rfl) (by rfl) ?_
  intro K1 hK1
  go_simp
  go_at_call 61
  (with_reducible refine hpc.mono ?_)
  rintro e W2 ⟨rfl, hL2, hK2⟩
  have hK3 : Kept [b, g] w W2 := (((Kept.refl [b, g] w).alloc _).drewN 1).trans hK2
  have hN2 := L.turned hL2 hK3
  obtain ⟨d0, d1, d2, d3⟩ := hN2.cells
  refine hK1.out _ _ (by exact d0) (fun hHeld => ?_)
  clear hK1 K1
  (try simp only [Act.put, List.setIfInBounds_toArray, List.set_cons_zero, List.set_cons_succ])
  refine Reg.done (by kernel_rfl) ?_ _
  have hwv : ∀ j, j < (weightsT m).length → W2.cell? ⟨q, j, none⟩ = some (.int .i64 ((weightsT m).getD j 0)) := fun j hj => by
    rw [hN2.weights.cell j]
    simp [vals, List.getD_eq_getElem?_getD, List.getElem?_eq_getElem hj]
  have hm := L.known
  obtain ⟨hm4, hm1, hm15, _⟩ := weights_few hm
  have hbd := fun j hj => partial_bd hm (v :: h) j hj
  have hbk : ∀ (k : Nat), k < (weightsT m).length → ∀ d, Calls Try.prog 63 #[.pointer (some ⟨x, 0, none⟩), .int .i64 (k : Nat)] (W2.drewN d) fun e w' => e = .returned (.int .i64 (cameT 65535 (v :: h) k)) ∧ ∃ z, w' = (W2.drewN d).drewN z := fun k hk d => by
    have h9 := line_back x b g n _ _ (k : Int) (W2.drewN d) (hL2.same rfl) (by omega)
    rwa [agoTo_in _ _ k (by omega), came_map 65535 _ k (by omega)] at h9
  have hst := fun j hj => weighed_step 65535 (v :: h) (weightsT m) j hj
  have hfin := notch_weighed hm (v :: h)
  have hsh := fun W => shift_any (weighed 65535 (v :: h) 0 (weightsT m)) (logT m : Nat) W (by omega)
  rw [show min ((logT m : Int)).toNat 64 = logT m by omega, hfin] at hsh
  have hz : weighed 65535 (v :: h) 0 ((weightsT m).take 0) = 0 := rfl
  have HBD := Lib.hid hbd
  have HST := Lib.hid hst
  have HN := Lib.hid hN2
  clear c0 c1 c2 c3 hcl hpc hfin hbd hst L hL2 hN2 hm hK2
  generalize weightsT m = ws at *
  generalize hlen : ws.length = len at *
  have HLEN := Lib.hid hlen
  clear hlen
  generalize (logT m : Nat) = lg at *
  go_wp2
  go_loopw [5, 23] (fun s i wr => ∃ j : Nat, j ≤ len ∧ i = .int .i64 (j : Nat) ∧ s = .int .i64 (weighed 65535 (v :: h) 0 (ws.take j)) ∧ ∃ d, wr = W2.drewN d) (fun _ i _ => len - (intOf i).toNat)
  case atStart => exact ⟨0, by omega, rfl, by rw [hz], 0, rfl⟩
  case round =>
    obtain ⟨j, hj, rfl, rfl, d, rfl⟩ := hrel
    by_cases hjn : j < len
    · have hcj := hwv j hjn
      obtain ⟨hb1, hb2⟩ := HBD.out j (by have := HLEN.out; omega)
      have HS := Lib.hid (HST.out j (by have := HLEN.out; omega))
      have hbj := hbk j hjn d
      generalize ws.getD j 0 = a at *
      generalize cameT 65535 (v :: h) j = cv at *
      generalize weighed 65535 (v :: h) 0 (ws.take j) = s at *
      have hb3 : -9000000000 ≤ s + a * cv ∧ s + a * cv ≤ 9000000000 := by omega
      clear hsh hwv hbk
      go_wp2_with (go_at_call 63; ((with_reducible refine hbj.mono ?_); rintro e w' ⟨rfl, z, rfl⟩))
      go_roundw
      case rel => exact ⟨j + 1, by omega, by go_num, by rw [HS.out], _, by first | rfl | simp⟩
      case measure => simp [intOf]; omega
    · obtain rfl : j = len := by omega
      have HT := Lib.hid (show weighed 65535 (v :: h) 0 (ws.take j) = weighed 65535 (v :: h) 0 ws by rw [List.take_of_length_le (by have := HLEN.out; omega)])
      clear hbk hwv
      rw [HT.out]
      generalize weighed 65535 (v :: h) 0 ws = s at *
      go_wp2_with (go_at_call 59; ((with_reducible refine (hsh _).mono ?_); rintro e w' ⟨rfl, rfl⟩))
      go_ret
      exact ⟨rfl, HN.out.kept ((Kept.refl [] W2).drewN d) (by simp) (by simp) (by simp) (by simp) (by simp), hK3.drewN d⟩
end Go.Proofs.Ytejlhdmfcmhlaaa.Notch
end
