/- A ring of outs: what its memory holds, and what the calls that only look at it answer. -/
import Derived.Test.YtjhpogiknhbegaaDoorChecked
import Derived.Test.YtjhpogiknhbegaaDoorRingMath
import Derived.Test.YtjhpogiknhbegaaDoorTurned
import Derived.WalkKit
import Derived.Deep.QuietTactic
import Derived.BigQuiet
import Derived.Lib.Hide
import Derived.Test.YtjhpogiknhbegaaDoorAlarmMath
import Derived.Test.YtjhpogiknhbegaaDoorRegionMore
import Derived.Test.YtjhpogiknhbegaaDoorRegionTill
import Derived.Test.YtjhpogiknhbegaaDoorShape
set_option linter.unusedSimpArgs false
set_option linter.unusedVariables false
namespace Go.Proofs.YtjhpogiknhbegaaDoor.RingO
open Go.RowKit
open Alarm (Ot otS noOt ot_cells)
/-- An out as a value. -/
abbrev otV (o : Ot) : Value := .agg #[.int .i64 o.1, .int .i64 o.2.1, .int .i64 o.2.2.1, .int .i64 o.2.2.2]
/-- A world where an out is laid at place j of block g. -/
abbrev laid (w : World) (g j : Nat) (o : Ot) : World := (((w.setCell ⟨g, j * 4, none⟩ (.int .i64 o.1)).setCell ⟨g, j * 4 + 1, none⟩ (.int .i64 o.2.1)).setCell ⟨g, j * 4 + 2, none⟩ (.int .i64 o.2.2.1)).setCell ⟨g, j * 4 + 3, none⟩ (.int .i64 o.2.2.2)
theorem flat_set4 (ys : List Ot) (tl : List Value) (p : Nat) (hp : p < ys.length) (o : Ot) : ((((Row.flat otS ys ++ tl).set (p * 4) (.int .i64 o.1)).set (p * 4 + 1) (.int .i64 o.2.1)).set (p * 4 + 2) (.int .i64 o.2.2.1)).set (p * 4 + 3) (.int .i64 o.2.2.2) = Row.flat otS (ys.set p o) ++ tl := by
  induction ys generalizing p with
  | nil => simp at hp
  | cons y ys ih =>
    cases p with
    | zero => rfl
    | succ p =>
      have h9 := ih p (by simpa using hp)
      rw [show (p + 1) * 4 = p * 4 + 1 + 1 + 1 + 1 by omega]
      show _ = [_, _, _, _] ++ Row.flat otS (ys.set p o) ++ tl
      rw [List.append_assoc, ← h9]
      rfl

/-- Block b is a ring's struct, block g its n slots (and what may lie behind them), cs: the first thing at slot f, and c things there. -/
structure Core (w : World) (b g n q f c : Nat) (cs : List Ot) : Prop where
  head : Has w b 55 #[.slice (some ⟨g, 0, none⟩) n q, .int .i64 f, .int .i64 c]
  slots : ∃ tl : List Value, Has w g 28 (Row.flat otS cs ++ tl).toArray
  size : cs.length = n
  first : f < n
  room : c ≤ n
  pow : ∃ k, k ≤ 16 ∧ n = 2 ^ k
  cap : n ≤ q ∧ q ≤ 9223372036854775807
/-- .. and the things are xs. -/
structure Ring (w : World) (b g n q f : Nat) (cs xs : List Ot) : Prop where
  core : Core w b g n q f xs.length cs
  at_ : ∀ i, i < xs.length → cs.getD ((f + i) % n) noOt = xs.getD i noOt

section
variable {w w' : World} {b g n q f c : Nat} {cs xs : List Ot}
theorem Core.le (h : Core w b g n q f c cs) : n ≤ 65536 := by
  obtain ⟨k, hk, rfl⟩ := h.pow
  exact Nat.pow_le_pow_right (by omega) hk
theorem Core.ne_ (h : Core w b g n q f c cs) : b ≠ g := by
  rintro rfl
  have h1 := h.head
  obtain ⟨tl, h2⟩ := h.slots
  unfold Has at h1 h2
  rw [h1] at h2
  injection h2 with h2
  injection h2 with _ h3
  exact absurd h3 (by decide)
theorem Core.same (h : Core w b g n q f c cs) (e : w'.heap = w.heap) : Core w' b g n q f c cs := by
  obtain ⟨h1, ⟨tl, h2⟩, s1, s2, s3, s4, s5⟩ := h
  exact ⟨by unfold Has at *; rw [e]; exact h1, ⟨tl, by unfold Has at *; rw [e]; exact h2⟩, s1, s2, s3, s4, s5⟩
theorem Core.below {B : Nat} (h : Core w b g n q f c cs) (hb : Below B w w') (h1 : b < B) (h2 : g < B) : Core w' b g n q f c cs := by
  obtain ⟨h3, ⟨tl, h4⟩, s1, s2, s3, s4, s5⟩ := h
  exact ⟨h3.below hb h1, ⟨tl, h4.below hb h2⟩, s1, s2, s3, s4, s5⟩
theorem Core.far (h : Core w b g n q f c cs) {p : Addr} (h1 : b ≠ p.block) (h2 : g ≠ p.block) (u : Value) : Core (w.setCell p u) b g n q f c cs := by
  obtain ⟨h3, ⟨tl, h4⟩, s1, s2, s3, s4, s5⟩ := h
  exact ⟨h3.far h1 u, ⟨tl, h4.far h2 u⟩, s1, s2, s3, s4, s5⟩
theorem Core.alloc (h : Core w b g n q f c cs) (o : Obj) : Core (w.alloc o) b g n q f c cs := by
  obtain ⟨h3, ⟨tl, h4⟩, s1, s2, s3, s4, s5⟩ := h
  exact ⟨h3.alloc o, ⟨tl, h4.alloc o⟩, s1, s2, s3, s4, s5⟩
theorem Core.turned {b' g' : Nat} (h : Core w b g n q f c cs) (ht : Turned b' g' w w') (h1 : b ≠ b') (h2 : b ≠ g') (h3 : g ≠ b') (h4 : g ≠ g') : Core w' b g n q f c cs := by
  obtain ⟨e3, ⟨tl, e4⟩, s1, s2, s3, s4, s5⟩ := h
  exact ⟨ht.has e3 h1 h2, ⟨tl, ht.has e4 h3 h4⟩, s1, s2, s3, s4, s5⟩
theorem Core.grown {row : Option Nat} (h : Core w b g n q f c cs) (hg : w.grownBy w' row) (h1 : some b ≠ row) (h2 : some g ≠ row) : Core w' b g n q f c cs := by
  obtain ⟨e3, ⟨tl, e4⟩, s1, s2, s3, s4, s5⟩ := h
  exact ⟨(hg.block b e3.lt h1).trans e3, ⟨tl, (hg.block g e4.lt h2).trans e4⟩, s1, s2, s3, s4, s5⟩
theorem Core.lt_ (h : Core w b g n q f c cs) : b < w.heap.size ∧ g < w.heap.size := by
  obtain ⟨tl, h4⟩ := h.slots
  exact ⟨h.head.lt, h4.lt⟩
theorem Core.cells (h : Core w b g n q f c cs) : w.cell? ⟨b, 0, none⟩ = some (.slice (some ⟨g, 0, none⟩) n q) ∧ w.cell? ⟨b, 1, none⟩ = some (.int .i64 f) ∧ w.cell? ⟨b, 2, none⟩ = some (.int .i64 c) := ⟨h.head.cell 0, h.head.cell 1, h.head.cell 2⟩
theorem Core.froz (h : Core w b g n q f c cs) : w.frozen? ⟨b, 1, none⟩ = false ∧ w.frozen? ⟨b, 2, none⟩ = false := ⟨h.head.frozen 1, h.head.frozen 2⟩
theorem Core.slotz (h : Core w b g n q f c cs) (j : Nat) : w.frozen? ⟨g, j, none⟩ = false := by
  obtain ⟨tl, h4⟩ := h.slots
  exact h4.frozen j
theorem Core.vals (h : Core w b g n q f c cs) : Row.Vals otS w (some ⟨g, 0, none⟩) n cs := by
  obtain ⟨tl, h4⟩ := h.slots
  have := Row.Vals.has (S := otS) (ys := cs) h4
  rwa [h.size] at this
theorem Core.slot_ (h : Core w b g n q f c cs) (j : Nat) (hj : j < n) : w.cell? ⟨g, j * 4, none⟩ = some (.int .i64 (cs.getD j noOt).1) ∧ w.cell? ⟨g, j * 4 + 1, none⟩ = some (.int .i64 (cs.getD j noOt).2.1) ∧ w.cell? ⟨g, j * 4 + 2, none⟩ = some (.int .i64 (cs.getD j noOt).2.2.1) ∧ w.cell? ⟨g, j * 4 + 3, none⟩ = some (.int .i64 (cs.getD j noOt).2.2.2) := by
  obtain ⟨tl, h4⟩ := h.slots
  have hs := h.size
  have hg : cs.getD j noOt = cs[j]'(by omega) := by rw [List.getD_eq_getElem?_getD, List.getElem?_eq_getElem (by omega), Option.getD_some]
  have hk : ∀ m, (hm : m < 4) → w.cell? ⟨g, j * 4 + m, none⟩ = (otS.enc (cs.getD j noOt))[m]? := fun m hm => by
    have h9 := Row.flat_get (S := otS) cs j m (by omega) hm
    rw [h4.cell (j * 4 + m), List.getElem?_toArray, List.getElem?_append_left (by rw [Row.flat_length]; show j * 4 + m < cs.length * 4; omega), hg]
    exact h9
  exact ⟨hk 0 (by omega), hk 1 (by omega), hk 2 (by omega), hk 3 (by omega)⟩
theorem Core.put (h : Core w b g n q f c cs) (j : Nat) (hj : j < n) (v : Ot) : Core (laid w g j v) b g n q f c (cs.set j v) := by
  obtain ⟨tl, h4⟩ := h.slots
  have hs := h.size
  refine ⟨(((h.head.far h.ne_ _).far h.ne_ _).far h.ne_ _).far h.ne_ _, ⟨tl, ?_⟩, by rw [List.length_set]; exact h.size, h.first, h.room, h.pow, h.cap⟩
  have h9 := (((h4.set_ (j * 4) (.int .i64 v.1)).set_ (j * 4 + 1) (.int .i64 v.2.1)).set_ (j * 4 + 2) (.int .i64 v.2.2.1)).set_ (j * 4 + 3) (.int .i64 v.2.2.2)
  rwa [List.setIfInBounds_toArray, List.setIfInBounds_toArray, List.setIfInBounds_toArray, List.setIfInBounds_toArray, flat_set4 cs tl j (by omega) v] at h9
theorem Core.first_ (h : Core w b g n q f c cs) (f' : Nat) (hf : f' < n) : Core (w.setCell ⟨b, 1, none⟩ (.int .i64 f')) b g n q f' c cs := by
  obtain ⟨tl, h4⟩ := h.slots
  refine ⟨?_, ⟨tl, h4.far (p := ⟨b, 1, none⟩) (fun e => h.ne_ e.symm) _⟩, h.size, hf, h.room, h.pow, h.cap⟩
  simpa using h.head.set_ 1 (.int .i64 f')
theorem Core.count_ (h : Core w b g n q f c cs) (c' : Nat) (hc : c' ≤ n) : Core (w.setCell ⟨b, 2, none⟩ (.int .i64 c')) b g n q f c' cs := by
  obtain ⟨tl, h4⟩ := h.slots
  refine ⟨?_, ⟨tl, h4.far (p := ⟨b, 2, none⟩) (fun e => h.ne_ e.symm) _⟩, h.size, h.first, hc, h.pow, h.cap⟩
  simpa using h.head.set_ 2 (.int .i64 c')
theorem Ring.turned {b' g' : Nat} (h : Ring w b g n q f cs xs) (ht : Turned b' g' w w') (h1 : b ≠ b') (h2 : b ≠ g') (h3 : g ≠ b') (h4 : g ≠ g') : Ring w' b g n q f cs xs := ⟨h.core.turned ht h1 h2 h3 h4, h.at_⟩
theorem Ring.grown {row : Option Nat} (h : Ring w b g n q f cs xs) (hg : w.grownBy w' row) (h1 : some b ≠ row) (h2 : some g ≠ row) : Ring w' b g n q f cs xs := ⟨h.core.grown hg h1 h2, h.at_⟩
theorem Ring.alloc (h : Ring w b g n q f cs xs) (o : Obj) : Ring (w.alloc o) b g n q f cs xs := ⟨h.core.alloc o, h.at_⟩
theorem Ring.same (h : Ring w b g n q f cs xs) (e : w'.heap = w.heap) : Ring w' b g n q f cs xs := ⟨h.core.same e, h.at_⟩
theorem Ring.below {B : Nat} (h : Ring w b g n q f cs xs) (hb : Below B w w') (h1 : b < B) (h2 : g < B) : Ring w' b g n q f cs xs := ⟨h.core.below hb h1 h2, h.at_⟩
theorem Ring.here (h : Ring w b g n q f cs xs) (i : Nat) (hi : i < xs.length) : w.cell? ⟨g, (f + i) % n * 4, none⟩ = some (.int .i64 (xs.getD i noOt).1) ∧ w.cell? ⟨g, (f + i) % n * 4 + 1, none⟩ = some (.int .i64 (xs.getD i noOt).2.1) ∧ w.cell? ⟨g, (f + i) % n * 4 + 2, none⟩ = some (.int .i64 (xs.getD i noOt).2.2.1) ∧ w.cell? ⟨g, (f + i) % n * 4 + 3, none⟩ = some (.int .i64 (xs.getD i noOt).2.2.2) := by
  rw [← h.at_ i hi]
  exact h.core.slot_ _ (Nat.mod_lt _ (by have := h.core.first; omega))
end

/-- The ring has these things now; it, and its slots, have turned, and no other block that was there. -/
def Became (w : World) (b g n q f : Nat) (zs : List Ot) (w' : World) : Prop := ∃ cs', Ring w' b g n q f cs' zs ∧ Turned b g w w'

theorem len_any (b c : Nat) (w : World) (h2 : w.cell? ⟨b, 2, none⟩ = some (.int .i64 c)) :
    Calls Tryd.prog 23 #[.pointer (some ⟨b, 0, none⟩)] w fun e w' => e = .returned (.int .i64 c) ∧ w = w' := by
  go_enter Tryd.func23, Tryd.ntmps23
  go_wp2
  go_ret
  simp

theorem len_q (b g n q f : Nat) (cs xs : List Ot) (c : Nat) (w : World) (h : Ring w b g n q f cs xs) (hc : xs.length = c) :
    Calls Tryd.prog 23 #[.pointer (some ⟨b, 0, none⟩)] w fun e w' => e = .returned (.int .i64 (c : Int)) ∧ ∃ k, w' = w.drewN k := by
  subst hc
  exact (len_any b _ w h.core.cells.2.2).mono fun e w' ⟨he, hw⟩ => ⟨he, 0, hw.symm⟩

theorem room_any (b g n q f : Nat) (cs xs : List Ot) (w : World) (h : Ring w b g n q f cs xs) :
    Calls Tryd.prog 28 #[.pointer (some ⟨b, 0, none⟩)] w fun e w' => e = .returned (.int .i64 ((n : Int) - (xs.length : Int))) ∧ ∃ k, w' = w.drewN k := by
  obtain ⟨c0, c1, c2⟩ := h.core.cells
  have hn := h.core.le
  have hq := h.core.cap
  have hr := h.core.room
  clear h
  generalize xs.length = c at *
  go_enter Tryd.func28, Tryd.ntmps28
  go_wp2
  go_quiet (fail)
  go_wp2
  go_ret
  exact ⟨rfl, _, rfl⟩

theorem room_nat (b g n q f : Nat) (cs xs : List Ot) (r : Nat) (w : World) (h : Ring w b g n q f cs xs) (hr : n - xs.length = r) :
    Calls Tryd.prog 28 #[.pointer (some ⟨b, 0, none⟩)] w fun e w' => e = .returned (.int .i64 (r : Int)) ∧ ∃ k, w' = w.drewN k :=
  (room_any b g n q f cs xs w h).mono fun e w' ⟨he, hw⟩ => ⟨by rw [he, show ((n : Int) - (xs.length : Int)) = (r : Int) by have := h.core.room; omega], hw⟩

theorem slot_any (b g n q f : Nat) (c : Nat) (cs : List Ot) (i : Nat) (w : World) (h : Core w b g n q f c cs) (hi : i ≤ 1000000) :
    Calls Tryd.prog 32 #[.pointer (some ⟨b, 0, none⟩), .int .i64 i] w fun e w' => e = .returned (.int .i64 (((f + i) % n : Nat) : Int)) ∧ ∃ k, w' = w.drewN k := by
  obtain ⟨c0, c1, c2⟩ := h.cells
  have hn := h.le
  have hf := h.first
  have hq := h.cap
  obtain ⟨k, hk, hp⟩ := h.pow
  have hm := Lib.hid (mask_int (f + i) k n (by omega) hp (by omega))
  clear h hp
  go_enter Tryd.func32, Tryd.ntmps32
  go_wp2
  go_quiet (fail)
  go_wp2
  go_ret
  have h9 := hm.out
  rw [Int.natCast_add] at h9
  exact ⟨(show Ending.returned (Value.int .i64 (bits BinOp.and .i64 ((f : Int) + (i : Int)) ((n : Int) - 1))) = _ by rw [h9]), _, rfl⟩

theorem put4 {w : World} {b : Nat} {t : TypeId} {u0 u1 u2 u3 : Value} (h : Has w b t #[u0, u1, u2, u3]) (x0 x1 x2 x3 : Value) : Has ((((w.setCell ⟨b, 0, none⟩ x0).setCell ⟨b, 1, none⟩ x1).setCell ⟨b, 2, none⟩ x2).setCell ⟨b, 3, none⟩ x3) b t #[x0, x1, x2, x3] := by
  have := (((h.set_ 0 x0).set_ 1 x1).set_ 2 x2).set_ 3 x3
  simpa using this
theorem below_put4 {B : Nat} {w w' : World} (h : Below B w w') {c : Nat} (hc : B ≤ c) (x0 x1 x2 x3 : Value) : Below B w ((((w'.setCell ⟨c, 0, none⟩ x0).setCell ⟨c, 1, none⟩ x1).setCell ⟨c, 2, none⟩ x2).setCell ⟨c, 3, none⟩ x3) :=
  (((h.setCell (p := ⟨c, 0, none⟩) hc x0).setCell (p := ⟨c, 1, none⟩) hc x1).setCell (p := ⟨c, 2, none⟩) hc x2).setCell (p := ⟨c, 3, none⟩) hc x3
theorem out_ret {fn : Func} {R : Ending → World → Prop} {a : Act} {w : World} {p u : Tmp} (hf : fn.results = #[.cell p 28, .tmp u]) (g : Nat) (hx : a.tmps.getD p undef = .pointer (some ⟨g, 0, none⟩)) (V : Value) (hV : a.tmps.getD u undef = V) (cs : Array Value) (h : Has w g 28 cs) (hs : cs.size = 4) (hd : a.defers = []) (hR : R (.returned (.tuple #[.agg cs, V])) w) : bodyPost Tryd.prog fn R .ret a w := by
  have hi : (Tryd.prog.info? 28).map (·.size) = some 4 := by kernel_rfl
  have hu : Tryd.prog.underlying 28 = some (.struct (Tryd.prog.fieldsOf 28)) := by kernel_rfl
  have hl := run_loadVar_row (P := Tryd.prog) w g _ 28 cs (0, 0) (.struct (Tryd.prog.fieldsOf 28)) h hu rfl (by rw [hs]; exact hi)
  have hp' : a.tmps[p]?.getD undef = .pointer (some ⟨g, 0, none⟩) := by simpa using hx
  have hv' : a.tmps[u]?.getD undef = V := by simpa using hV
  exact bodyPost_ret (by simp [results, hf, hp', hv', asAddr, hl]) hd hR
set_option maxHeartbeats 2000000 in
theorem at_yes (b g n q f : Nat) (cs xs : List Ot) (i : Nat) (w : World) (h : Ring w b g n q f cs xs) (hi : i < xs.length) :
    Calls Tryd.prog 22 #[.pointer (some ⟨b, 0, none⟩), .int .i64 i] w fun e w' => e = .returned (.tuple #[otV (xs.getD i noOt), .bool true]) ∧ Below w.heap.size w w' := by
  have hR0 := h.alloc (.cells #[.int .i64 0, .int .i64 0, .int .i64 0, .int .i64 0] 28)
  have hX0 := Has.new w 28 #[.int .i64 0, .int .i64 0, .int .i64 0, .int .i64 0]
  have hB0 := (Below.refl w.heap.size w).alloc (Nat.le_refl _) (.cells #[.int .i64 0, .int .i64 0, .int .i64 0, .int .i64 0] 28)
  obtain ⟨c0, c1, c2⟩ := hR0.core.cells
  have hn := h.core.le
  have hq := h.core.cap
  have hr := h.core.room
  obtain ⟨h0, h1, h2, h3⟩ := hR0.here i hi
  have hm : (f + i) % n < n := Nat.mod_lt _ (by omega)
  have hs := fun W (hW : Core W b g n q f xs.length cs) => slot_any b g n q f _ cs i W hW (by omega)
  have hC := hR0.core
  clear hR0 h
  generalize (f + i) % n = m at *
  generalize xs.getD i noOt = v at *
  generalize xs.length = c at *
  obtain ⟨v0, v1, v2, v3⟩ := v
  dsimp only [otV] at h0 h1 h2 h3 ⊢
  go_enter Tryd.func22, Tryd.ntmps22
  go_wp2_with (go_at_call 23; refine (len_any b _ _ c2).mono ?_; rintro e w' ⟨rfl, rfl⟩)
  refine Till.begin_ (T := [9, 10]) (S := fun W => W.cell? ⟨b, 0, none⟩ = some (.slice (some ⟨g, 0, none⟩) n q) ∧ W.cell? ⟨g, m * 4, none⟩ = some (.int .i64 v0) ∧ W.cell? ⟨g, m * 4 + 1, none⟩ = some (.int .i64 v1) ∧ W.cell? ⟨g, m * 4 + 2, none⟩ = some (.int .i64 v2) ∧ W.cell? ⟨g, m * 4 + 3, none⟩ = some (.int .i64 v3)) (by kernel_rfl) (by exact ⟨c0, h0, h1, h2, h3⟩) (fun hHeld => ?_)
  have hCd : Core (w.alloc (.cells #[.int .i64 0, .int .i64 0, .int .i64 0, .int .i64 0] 28)).drew b g n q f c cs := hC.same rfl
  have hXd : Has (w.alloc (.cells #[.int .i64 0, .int .i64 0, .int .i64 0, .int .i64 0] 28)).drew w.heap.size 28 #[.int .i64 0, .int .i64 0, .int .i64 0, .int .i64 0] := hX0
  have hBd : Below w.heap.size w (w.alloc (.cells #[.int .i64 0, .int .i64 0, .int .i64 0, .int .i64 0] 28)).drew := below_drewN hB0 1
  clear hC hX0 hB0 c0 c1 c2 h0 h1 h2 h3
  generalize (w.alloc (.cells #[.int .i64 0, .int .i64 0, .int .i64 0, .int .i64 0] 28)).drew = Wd at *
  refine Till.take (i := 0) (v := ?v1) rfl (by kernel_rfl) (by kernel_rfl) (by kernel_rfl) (by kernel_rfl) (by rfl) ?hv1 (by assumption) ?rest1
  case hv1 => first | (intro w hSw; (try dsimp only at hSw); go_simp; done) | (intro w hSw; (try dsimp only at hSw); go_simp; with_reducible rfl)
  (try simp only [Act.put, List.setIfInBounds_toArray, List.set_cons_zero, List.set_cons_succ])
  refine Till.take (i := 1) (v := ?v2) rfl (by kernel_rfl) (by kernel_rfl) (by kernel_rfl) (by kernel_rfl) (by rfl) ?hv2 (by assumption) ?rest2
  case hv2 => first | (intro w hSw; (try dsimp only at hSw); go_simp; done) | (intro w hSw; (try dsimp only at hSw); go_simp; with_reducible rfl)
  (try simp only [Act.put, List.setIfInBounds_toArray, List.set_cons_zero, List.set_cons_succ])
  refine Till.take (i := 2) (v := ?v3) rfl (by kernel_rfl) (by kernel_rfl) (by kernel_rfl) (by kernel_rfl) (by rfl) ?hv3 (by assumption) ?rest3
  case hv3 => first | (intro w hSw; (try dsimp only at hSw); go_simp; done) | (intro w hSw; (try dsimp only at hSw); go_simp; with_reducible rfl)
  (try simp only [Act.put, List.setIfInBounds_toArray, List.set_cons_zero, List.set_cons_succ])
  refine Till.take (i := 3) (v := ?v4) rfl (by kernel_rfl) (by kernel_rfl) (by kernel_rfl) (by kernel_rfl) (by rfl) ?hv4 (by assumption) ?rest4
  case hv4 => first | (intro w hSw; (try dsimp only at hSw); go_simp; done) | (intro w hSw; (try dsimp only at hSw); go_simp; with_reducible rfl)
  (try simp only [Act.put, List.setIfInBounds_toArray, List.set_cons_zero, List.set_cons_succ])
  refine Till.take (i := 4) (v := ?v5) rfl (by kernel_rfl) (by kernel_rfl) (by kernel_rfl) (by kernel_rfl) (by rfl) ?hv5 (by assumption) ?rest5
  case hv5 => first | (intro w hSw; (try dsimp only at hSw); go_simp; done) | (intro w hSw; (try dsimp only at hSw); go_simp; with_reducible rfl)
  (try simp only [Act.put, List.setIfInBounds_toArray, List.set_cons_zero, List.set_cons_succ])
  refine Till.take (i := 5) (v := ?v6) rfl (by kernel_rfl) (by kernel_rfl) (by kernel_rfl) (by kernel_rfl) (by rfl) ?hv6 (by assumption) ?rest6
  case hv6 => first | (intro w hSw; (try dsimp only at hSw); go_simp; done) | (intro w hSw; (try dsimp only at hSw); go_simp; with_reducible rfl)
  (try simp only [Act.put, List.setIfInBounds_toArray, List.set_cons_zero, List.set_cons_succ])
  refine Till.call (i := 6) rfl (by kernel_rfl) (by rfl) ?_
  intro K hK
  go_simp
  go_at_call 32
  (with_reducible refine (hs Wd hCd).mono ?_)
  rintro e W2 ⟨rfl, kk, rfl⟩
  refine hK.out _ _ (by exact hHeld) (fun hHeld => ?_)
  clear hK K
  (try simp only [Act.put, List.setIfInBounds_toArray, List.set_cons_zero, List.set_cons_succ])
  refine Till.take (i := 7) (v := ?v7) rfl (by kernel_rfl) (by kernel_rfl) (by kernel_rfl) (by kernel_rfl) (by rfl) ?hv7 (by assumption) ?rest7
  case hv7 => first | (intro w hSw; (try dsimp only at hSw); go_simp; done) | (intro w hSw; (try dsimp only at hSw); go_simp; with_reducible rfl)
  (try simp only [Act.put, List.setIfInBounds_toArray, List.set_cons_zero, List.set_cons_succ])
  refine Till.take (i := 8) (v := ?v8) rfl (by kernel_rfl) (by kernel_rfl) (by kernel_rfl) (by kernel_rfl) (by rfl) ?hv8 (by assumption) ?rest8
  case hv8 => first | (intro w hSw; (try dsimp only at hSw); go_simp; done) | (intro w hSw; (try dsimp only at hSw); go_simp; with_reducible rfl)
  (try simp only [Act.put, List.setIfInBounds_toArray, List.set_cons_zero, List.set_cons_succ])
  have hX2 := hXd.drewN kk
  have hB2 := below_drewN hBd kk
  have hC2 : Core (Wd.drewN kk) b g n q f c cs := hCd.same rfl
  clear hXd hBd hCd hHeld hs
  generalize Wd.drewN kk = W3 at *
  have f0 := hX2.frozen 0
  have f1 := hX2.frozen 1
  have f2 := hX2.frozen 2
  have f3 := hX2.frozen 3
  have z0 := hX2.cell 0
  have z1 := hX2.cell 1
  have z2 := hX2.cell 2
  have z3 := hX2.cell 3
  refine Till.put (i := 9) rfl (by kernel_rfl) (by rfl) (by rfl) ?_
  intro K hK
  go_simp
  refine hK.out _ _ ?_
  clear hK K
  (try simp only [Act.put, List.setIfInBounds_toArray, List.set_cons_zero, List.set_cons_succ])
  refine Till.put (i := 10) rfl (by kernel_rfl) (by rfl) (by rfl) ?_
  intro K hK
  go_simp
  refine hK.out _ _ ?_
  clear hK K
  (try simp only [Act.put, List.setIfInBounds_toArray, List.set_cons_zero, List.set_cons_succ])
  refine Till.done (by kernel_rfl) ?_ _
  go_wp2
  exact out_ret rfl w.heap.size rfl _ rfl _ (put4 hX2 _ _ _ _) rfl rfl ⟨rfl, below_put4 hB2 (Nat.le_refl _) _ _ _ _⟩
theorem at_no (b c : Nat) (i : Int) (w : World) (hi : i < 0 ∨ (c : Int) ≤ i) (h2 : w.cell? ⟨b, 2, none⟩ = some (.int .i64 c)) :
    Calls Tryd.prog 22 #[.pointer (some ⟨b, 0, none⟩), .int .i64 i] w fun e w' => e = .returned (.tuple #[.agg #[.int .i64 0, .int .i64 0, .int .i64 0, .int .i64 0], .bool false]) ∧ Below w.heap.size w w' := by
  have hbl : b < w.heap.size := World.block_lt_of_cell? _ _ h2
  have hX0 := (Has.new w 28 #[.int .i64 0, .int .i64 0, .int .i64 0, .int .i64 0]).alloc (.cells #[.int .i64 0, .int .i64 0, .int .i64 0, .int .i64 0] 28)
  have hB0 := ((Below.refl w.heap.size w).alloc (Nat.le_refl _) (.cells #[.int .i64 0, .int .i64 0, .int .i64 0, .int .i64 0] 28)).alloc (by simp) (.cells #[.int .i64 0, .int .i64 0, .int .i64 0, .int .i64 0] 28)
  have h3 : (w.alloc (.cells #[.int .i64 0, .int .i64 0, .int .i64 0, .int .i64 0] 28)).cell? ⟨b, 2, none⟩ = some (.int .i64 c) := (((Below.refl w.heap.size w).alloc (Nat.le_refl _) (.cells #[.int .i64 0, .int .i64 0, .int .i64 0, .int .i64 0] 28)).cell (p := ⟨b, 2, none⟩) hbl).trans h2
  by_cases h0 : i < 0
  · clear hi
    go_enter Tryd.func22, Tryd.ntmps22
    go_wp2_with (go_at_call 23; refine (len_any b _ _ h3).mono ?_; rintro e w' ⟨rfl, rfl⟩)
    exact out_ret rfl w.heap.size rfl _ rfl _ hX0 rfl rfl ⟨rfl, hB0⟩
  · have hi' : (c : Int) ≤ i := by omega
    clear hi
    go_enter Tryd.func22, Tryd.ntmps22
    go_wp2_with (go_at_call 23; refine (len_any b _ _ h3).mono ?_; rintro e w' ⟨rfl, rfl⟩)
    exact out_ret rfl w.heap.size rfl _ rfl _ hX0 rfl rfl ⟨rfl, hB0⟩
theorem back_yes (b g n q f : Nat) (cs xs : List Ot) (i : Nat) (w : World) (h : Ring w b g n q f cs xs) (hi : i < xs.length) :
    Calls Tryd.prog 24 #[.pointer (some ⟨b, 0, none⟩), .int .i64 i] w fun e w' => e = .returned (.tuple #[otV (xs.getD (xs.length - 1 - i) noOt), .bool true]) ∧ Below w.heap.size w w' := by
  have hR0 := h.alloc (.cells #[.int .i64 0, .int .i64 0, .int .i64 0, .int .i64 0] 28)
  have hX0 := Has.new w 28 #[.int .i64 0, .int .i64 0, .int .i64 0, .int .i64 0]
  have hB0 := (Below.refl w.heap.size w).alloc (Nat.le_refl _) (.cells #[.int .i64 0, .int .i64 0, .int .i64 0, .int .i64 0] 28)
  obtain ⟨c0, c1, c2⟩ := hR0.core.cells
  have hn := h.core.le
  have hr := h.core.room
  have hs := at_yes b g n q f cs xs (xs.length - 1 - i) _ hR0 (by omega)
  rw [show ((xs.length - 1 - i : Nat) : Int) = (xs.length : Int) - 1 - (i : Int) by omega] at hs
  generalize xs.getD (xs.length - 1 - i) noOt = v at *
  obtain ⟨v0, v1, v2, v3⟩ := v
  dsimp only [otV] at hs ⊢
  clear h hR0 c0 c1
  generalize xs.length = c at *
  go_enter Tryd.func24, Tryd.ntmps24
  go_wp2_with (first
    | (go_at_call 23; refine (len_any b _ _ c2).mono ?_; rintro e w' ⟨rfl, rfl⟩)
    | (go_at_call 22; refine hs.mono ?_; rintro e W2 ⟨rfl, hB2⟩; have hX2 := hX0.below hB2 hX0.lt; have hB3 := hB0.trans (hB2.mono hB0.size); have z0 := hX2.cell 0; have z1 := hX2.cell 1; have z2 := hX2.cell 2; have z3 := hX2.cell 3; have f0 := hX2.frozen 0; have f1 := hX2.frozen 1; have f2 := hX2.frozen 2; have f3 := hX2.frozen 3))
  exact out_ret rfl w.heap.size rfl _ rfl _ (put4 hX2 _ _ _ _) rfl rfl ⟨rfl, below_put4 hB3 (Nat.le_refl _) _ _ _ _⟩
theorem back_no (b c : Nat) (i : Int) (w : World) (hi : i < 0 ∨ (c : Int) ≤ i) (hb : i ≤ 9223372036854775807) (hc : c ≤ 65536) (h2 : w.cell? ⟨b, 2, none⟩ = some (.int .i64 c)) :
    Calls Tryd.prog 24 #[.pointer (some ⟨b, 0, none⟩), .int .i64 i] w fun e w' => e = .returned (.tuple #[.agg #[.int .i64 0, .int .i64 0, .int .i64 0, .int .i64 0], .bool false]) ∧ Below w.heap.size w w' := by
  have hbl : b < w.heap.size := World.block_lt_of_cell? _ _ h2
  have hX0 := Has.new w 28 #[.int .i64 0, .int .i64 0, .int .i64 0, .int .i64 0]
  have hB0 := (Below.refl w.heap.size w).alloc (Nat.le_refl _) (.cells #[.int .i64 0, .int .i64 0, .int .i64 0, .int .i64 0] 28)
  have h3 : (w.alloc (.cells #[.int .i64 0, .int .i64 0, .int .i64 0, .int .i64 0] 28)).cell? ⟨b, 2, none⟩ = some (.int .i64 c) := (hB0.cell (p := ⟨b, 2, none⟩) hbl).trans h2
  by_cases h0 : i < 0
  · clear hi
    have hs := at_no b c i _ (.inl h0) h3
    go_enter Tryd.func24, Tryd.ntmps24
    go_wp2_with (first
      | (go_at_call 23; refine (len_any b _ _ h3).mono ?_; rintro e w' ⟨rfl, rfl⟩)
      | (go_at_call 22; refine hs.mono ?_; rintro e W2 ⟨rfl, hB2⟩; have hX2 := hX0.below hB2 hX0.lt; have hB3 := hB0.trans (hB2.mono hB0.size); have z0 := hX2.cell 0; have z1 := hX2.cell 1; have z2 := hX2.cell 2; have z3 := hX2.cell 3; have f0 := hX2.frozen 0; have f1 := hX2.frozen 1; have f2 := hX2.frozen 2; have f3 := hX2.frozen 3))
    exact out_ret rfl w.heap.size rfl _ rfl _ (put4 hX2 _ _ _ _) rfl rfl ⟨rfl, below_put4 hB3 (Nat.le_refl _) _ _ _ _⟩
  · have hi' : (c : Int) ≤ i := by omega
    have hs := at_no b c ((c : Int) - 1 - i) _ (.inl (by omega)) h3
    clear hi
    go_enter Tryd.func24, Tryd.ntmps24
    go_wp2_with (first
      | (go_at_call 23; refine (len_any b _ _ h3).mono ?_; rintro e w' ⟨rfl, rfl⟩)
      | (go_at_call 22; refine hs.mono ?_; rintro e W2 ⟨rfl, hB2⟩; have hX2 := hX0.below hB2 hX0.lt; have hB3 := hB0.trans (hB2.mono hB0.size); have z0 := hX2.cell 0; have z1 := hX2.cell 1; have z2 := hX2.cell 2; have z3 := hX2.cell 3; have f0 := hX2.frozen 0; have f1 := hX2.frozen 1; have f2 := hX2.frozen 2; have f3 := hX2.frozen 3))
    exact out_ret rfl w.heap.size rfl _ rfl _ (put4 hX2 _ _ _ _) rfl rfl ⟨rfl, below_put4 hB3 (Nat.le_refl _) _ _ _ _⟩
end Go.Proofs.YtjhpogiknhbegaaDoor.RingO
