/- A window of sums: what its memory holds, and what its calls answer and do. -/
import Derived.Test.YtpmjgomfjfhfkaaLine
import Derived.Test.YtpmjgomfjfhfkaaLinePush
import Derived.Deep.RegionWith
set_option linter.unusedSimpArgs false
set_option linter.unusedVariables false
namespace Go.Proofs.Ytpmjgomfjfhfkaa
open Go.RowKit RI64

/-- Block y is a window's struct over a line at x that looks back most steps (so over most + 1 values): its sum is that of the last values, modulo 2^64. -/
structure Window (w : World) (y x b g n most : Nat) (h : List Int) : Prop where
  head : Has w y 97 #[.pointer (some ⟨x, 0, none⟩), .int .i64 (wrap64 (winSum most h))]
  line : Line w x b g n most h
  ne_ : y ≠ x ∧ y ≠ b ∧ y ≠ g
section
variable {w w' : World} {y x b g n most : Nat} {h : List Int}
theorem Window.cells (L : Window w y x b g n most h) : w.cell? ⟨y, 0, none⟩ = some (.pointer (some ⟨x, 0, none⟩)) ∧ w.cell? ⟨y, 1, none⟩ = some (.int .i64 (wrap64 (winSum most h))) ∧ w.frozen? ⟨y, 1, none⟩ = false := ⟨L.head.cell 0, L.head.cell 1, L.head.frozen 1⟩
theorem Window.lt_ (L : Window w y x b g n most h) : y < w.heap.size ∧ x < w.heap.size ∧ b < w.heap.size ∧ g < w.heap.size := ⟨L.head.lt, L.line.lt_⟩
theorem Window.kept {S : List Nat} (L : Window w y x b g n most h) (hk : Kept S w w') (h1 : y ∉ S) (h2 : x ∉ S) (h3 : b ∉ S) (h4 : g ∉ S) : Window w' y x b g n most h := ⟨hk.has L.head h1, L.line.kept hk h2 h3 h4, L.ne_⟩
theorem Window.same (L : Window w y x b g n most h) (e : w'.heap = w.heap) : Window w' y x b g n most h := ⟨by have := L.head; unfold Has at *; rw [e]; exact this, L.line.same e, L.ne_⟩
theorem Window.alloc (L : Window w y x b g n most h) (o : Obj) : Window (w.alloc o) y x b g n most h := ⟨L.head.alloc o, L.line.alloc o, L.ne_⟩
end
/-- The window has these values now; its struct and its ring have turned, and no other block that was there. -/
def WindowBecame (w : World) (y x b g n most : Nat) (h : List Int) (w' : World) : Prop := Window w' y x b g n most h ∧ Kept [y, b, g] w w'

theorem window_of_no (n : Int) (w : World) (h : n < 1 ∨ 1024 < n) :
    Calls Try.prog 27 #[.int .i64 n] w fun e w' => e = .returned (.tuple #[.pointer none, .int .i64 1]) ∧ w = w' := by
  rcases h with h | h
  · go_enter Try.func27, Try.ntmps27
    go_wp2
    go_ret2
    exact ⟨rfl, rfl⟩
  · have h0 : ¬ n < 1 := by omega
    go_enter Try.func27, Try.ntmps27
    go_wp2
    go_ret2
    exact ⟨rfl, rfl⟩
theorem window_of_yes (most : Nat) (w : World) (h : most < 1024) :
    Calls Try.prog 27 #[.int .i64 ((most : Int) + 1)] w fun e w' => e = .returned (.tuple #[.pointer (some ⟨w.heap.size + 3, 0, none⟩), .int .i64 0]) ∧
      (∃ n, Window w' (w.heap.size + 3) (w.heap.size + 2) (w.heap.size + 1) w.heap.size n most []) ∧ Below w.heap.size w w' ∧ w'.heap.size = w.heap.size + 4 := by
  have hnew := line_new_yes most w (by omega)
  have h0 : ¬ (most : Int) + 1 < 1 := by omega
  have h1 : ¬ (1024 : Int) < (most : Int) + 1 := by omega
  have h2 : (most : Int) + 1 - 1 = (most : Int) := by omega
  go_enter Try.func27, Try.ntmps27
  go_wp2_with (go_at_call 41; ((with_reducible refine hnew.mono ?_); rintro e w2 ⟨rfl, ⟨n, hL⟩, hB, hz⟩))
  go_ret2
  refine ⟨rfl, ⟨n, ?_, hL.alloc _, by omega⟩, hB.alloc (by omega) _, by simp [hz]⟩
  have h9 := Has.new w2 97 #[.pointer (some ⟨w.heap.size + 2, 0, none⟩), .int .i64 0]
  rw [hz] at h9
  rw [winSum_nil, show wrap64 0 = 0 from by unfold wrap64; omega]
  exact h9

set_option maxHeartbeats 2000000 in
theorem window_push (y x b g n most : Nat) (h : List Int) (v : Int) (w : World) (L : Window w y x b g n most h) :
    Calls Try.prog 61 #[.pointer (some ⟨y, 0, none⟩), .int .i64 v] w fun e w' => e = .returned (.int .i64 (wrap64 (winSum most (v :: h)))) ∧ WindowBecame w y x b g n most (v :: h) w' := by
  obtain ⟨c0, c1, z1⟩ := L.cells
  obtain ⟨d0, d1⟩ := L.line.cells
  have hm := L.line.most_
  have hne := L.ne_
  have hlt := L.lt_
  have hago := fun W (hW : Line W x b g n most h) => line_ago x b g n most h most W hW (by omega)
  rw [agoTo_in most h most (Nat.le_refl _)] at hago
  have hws := winSum_push most h v
  have hs2 := wrap64_sum (winSum most h) v (h.getD most 0)
  rw [← hws] at hs2
  clear hws
  have hlk := L.line
  have hhd := L.head
  generalize hS2 : wrap64 (winSum most (v :: h)) = S2 at *
  generalize wrap64 (winSum most h) = S1 at *
  generalize h.getD most 0 = out at *
  have hs3 : IntKind.i64.wrap (S1 + IntKind.i64.wrap (v - out)) = S2 := by rw [IntWalk.i64_left, IntWalk.i64_left]; exact hs2
  have hH2 : ∀ m, Has ((w.drewN m).setCell ⟨y, 1, none⟩ (.int .i64 S2)) y 97 #[.pointer (some ⟨x, 0, none⟩), .int .i64 S2] := fun m => by
    have := (hhd.drewN m).set_ 1 (.int .i64 S2)
    simpa using this
  have hK2 : ∀ m, Kept [y] w ((w.drewN m).setCell ⟨y, 1, none⟩ (.int .i64 S2)) := fun m => ((Kept.refl [y] w).drewN m).setCell (p := ⟨y, 1, none⟩) (.inl (by simp)) _
  have hL2 : ∀ m, Line ((w.drewN m).setCell ⟨y, 1, none⟩ (.int .i64 S2)) x b g n most h := fun m => hlk.kept (hK2 m) (by simp; omega) (by simp; omega) (by simp; omega)
  have hco := fun m => line_come x b g n most h v _ (hL2 m)
  have hbg : y ∉ [b, g] := by simp; omega
  have HS := Lib.hid hs3
  clear hs2 hs3 L
  go_enter Try.func61, Try.ntmps61
  go_wp2
  go_region_with (go_at_call 63; ((with_reducible refine (hago _ (by exact hlk.same rfl)).mono ?_); rintro e w1 ⟨rfl, kk, rfl⟩))
  all_goals
    rw [HS.out]
    go_wp2_with (go_at_call 64; ((with_reducible refine (hco _).mono ?_); rintro e w1 ⟨rfl, hL1, hK1⟩; have hH1 := hK1.has (hH2 _) hbg; have c1' := hH1.cell 1))
    go_ret
    exact ⟨rfl, ⟨by rw [hS2]; exact hH1, hL1, hne⟩, ((hK2 _).wide (fun k hk _ => by simp at hk; simp [hk])).trans (hK1.wide (fun k hk _ => by simp at hk; simp [hk]))⟩
theorem window_sum (y x b g n most : Nat) (h : List Int) (w : World) (L : Window w y x b g n most h) :
    Calls Try.prog 57 #[.pointer (some ⟨y, 0, none⟩)] w fun e w' => e = .returned (.int .i64 (wrap64 (winSum most h))) ∧ w = w' := by
  obtain ⟨c0, c1, z1⟩ := L.cells
  generalize wrap64 (winSum most h) = S at *
  go_enter Try.func57, Try.ntmps57
  go_wp2
  go_ret
  exact ⟨rfl, rfl⟩
theorem window_reset (y x b g n most : Nat) (h : List Int) (w : World) (L : Window w y x b g n most h) :
    Calls Try.prog 54 #[.pointer (some ⟨y, 0, none⟩)] w fun e w' => e = .returned (.tuple #[]) ∧ WindowBecame w y x b g n most [] w' := by
  obtain ⟨c0, c1, z1⟩ := L.cells
  have hne := L.ne_
  have hb := line_forget x b g n most h w L.line
  have hbg : y ∉ [b, g] := by simp; omega
  have hhd := L.head
  generalize wrap64 (winSum most h) = S at *
  go_enter Try.func54, Try.ntmps54
  go_wp2_with (go_at_call 60; ((with_reducible refine hb.mono ?_); rintro e w1 ⟨rfl, hL1, hK1⟩; have hH1 := hK1.has hhd hbg; have c1' := hH1.cell 1; have z1' := hH1.frozen 1))
  go_end0
  have hK2 : Kept [y] w1 (w1.setCell ⟨y, 1, none⟩ (.int .i64 0)) := (Kept.refl [y] w1).setCell (p := ⟨y, 1, none⟩) (.inl (by simp)) _
  refine ⟨rfl, ⟨?_, hL1.kept hK2 (by simp; omega) (by simp; omega) (by simp; omega), hne⟩, (hK1.wide (fun k hk _ => by simp at hk; simp [hk])).trans (hK2.wide (fun k hk _ => by simp at hk; simp [hk]))⟩
  rw [winSum_nil, show wrap64 0 = 0 from by unfold wrap64; omega]
  have := hH1.set_ 1 (.int .i64 0)
  simpa using this
end Go.Proofs.Ytpmjgomfjfhfkaa
