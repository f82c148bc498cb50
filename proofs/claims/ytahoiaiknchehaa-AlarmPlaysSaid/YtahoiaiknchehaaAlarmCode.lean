/- The landed alarm: what its memory holds; its small functions. -/
import Derived.Test.YtahoiaiknchehaaAlarmMath
import Derived.Test.YtahoiaiknchehaaWholeRow
import Derived.Test.YtahoiaiknchehaaFixqA
import Derived.Test.YtahoiaiknchehaaRegion
import Derived.Test.YtahoiaiknchehaaRegionTill
import Derived.Deep.DeepCutAuto
set_option linter.unusedSimpArgs false
set_option linter.unusedVariables false
namespace Go.Proofs.Ytahoiaiknchehaa.Alarm
open Go.RowKit
/-- All cells. -/
def cellsA (s : St) : Array Value := (onesC s ++ ([.int .i64 s.escape, .int .i64 s.till, .bool s.sounds] : List Value)).toArray
theorem cells_get (s : St) (k m : Nat) (hk : k < 6) (hm : m < 5) : (cellsA s)[k * 5 + m]? = (oneC (s.get k))[m]? := by
  have hcm : m = 0 ∨ m = 1 ∨ m = 2 ∨ m = 3 ∨ m = 4 := by omega
  rcases k_cases6 hk with rfl | rfl | rfl | rfl | rfl | rfl <;> rcases hcm with rfl | rfl | rfl | rfl | rfl <;> rfl
theorem cells_set (s : St) (k m : Nat) (hk : 1 ≤ k ∧ k ≤ 5) (hm : m < 5) (u : Value) (o : One) (ho : oneC o = (oneC (s.get k)).set m u) : (cellsA s).setIfInBounds (k * 5 + m) u = cellsA (s.set k o) := by
  have hcm : m = 0 ∨ m = 1 ∨ m = 2 ∨ m = 3 ∨ m = 4 := by omega
  rcases k_cases hk with rfl | rfl | rfl | rfl | rfl
  · rw [show cellsA (s.set 1 o) = ((oneC noOne ++ (oneC o ++ (oneC s.a2 ++ (oneC s.a3 ++ (oneC s.a4 ++ (oneC s.a5)))))) ++ ([.int .i64 s.escape, .int .i64 s.till, .bool s.sounds] : List Value)).toArray from rfl, ho]
    rcases hcm with rfl | rfl | rfl | rfl | rfl <;> rfl
  · rw [show cellsA (s.set 2 o) = ((oneC noOne ++ (oneC s.a1 ++ (oneC o ++ (oneC s.a3 ++ (oneC s.a4 ++ (oneC s.a5)))))) ++ ([.int .i64 s.escape, .int .i64 s.till, .bool s.sounds] : List Value)).toArray from rfl, ho]
    rcases hcm with rfl | rfl | rfl | rfl | rfl <;> rfl
  · rw [show cellsA (s.set 3 o) = ((oneC noOne ++ (oneC s.a1 ++ (oneC s.a2 ++ (oneC o ++ (oneC s.a4 ++ (oneC s.a5)))))) ++ ([.int .i64 s.escape, .int .i64 s.till, .bool s.sounds] : List Value)).toArray from rfl, ho]
    rcases hcm with rfl | rfl | rfl | rfl | rfl <;> rfl
  · rw [show cellsA (s.set 4 o) = ((oneC noOne ++ (oneC s.a1 ++ (oneC s.a2 ++ (oneC s.a3 ++ (oneC o ++ (oneC s.a5)))))) ++ ([.int .i64 s.escape, .int .i64 s.till, .bool s.sounds] : List Value)).toArray from rfl, ho]
    rcases hcm with rfl | rfl | rfl | rfl | rfl <;> rfl
  · rw [show cellsA (s.set 5 o) = ((oneC noOne ++ (oneC s.a1 ++ (oneC s.a2 ++ (oneC s.a3 ++ (oneC s.a4 ++ (oneC o)))))) ++ ([.int .i64 s.escape, .int .i64 s.till, .bool s.sounds] : List Value)).toArray from rfl, ho]
    rcases hcm with rfl | rfl | rfl | rfl | rfl <;> rfl
section
variable {w w' : World} {b : Nat} {s : St}
theorem part (h : Has w b 66 (cellsA s)) {k : Nat} (hk : k < 6) : w.cell? ⟨b, k * 5, none⟩ = some (.bool (s.get k).on) ∧ w.cell? ⟨b, k * 5 + 1, none⟩ = some (.bool (s.get k).stands) ∧ w.cell? ⟨b, k * 5 + 2, none⟩ = some (.bool (s.get k).acked) ∧ w.cell? ⟨b, k * 5 + 3, none⟩ = some (.bool (s.get k).esc) ∧ w.cell? ⟨b, k * 5 + 4, none⟩ = some (.int .i64 (s.get k).since) := by
  have h0 := h.cell (k * 5 + 0)
  have h1 := h.cell (k * 5 + 1)
  have h2 := h.cell (k * 5 + 2)
  have h3 := h.cell (k * 5 + 3)
  have h4 := h.cell (k * 5 + 4)
  rw [cells_get s k _ hk (by omega)] at h0 h1 h2 h3 h4
  exact ⟨h0, h1, h2, h3, h4⟩
theorem partF (h : Has w b 66 (cellsA s)) (k : Nat) : w.frozen? ⟨b, k * 5, none⟩ = false ∧ w.frozen? ⟨b, k * 5 + 1, none⟩ = false ∧ w.frozen? ⟨b, k * 5 + 2, none⟩ = false ∧ w.frozen? ⟨b, k * 5 + 3, none⟩ = false ∧ w.frozen? ⟨b, k * 5 + 4, none⟩ = false :=
  ⟨h.frozen _, h.frozen _, h.frozen _, h.frozen _, h.frozen _⟩
end
theorem isKind_k (k : Int) (w : World) : Calls Try.prog 21 #[.int .i64 k] w fun e w' => e = .returned (.bool (decide (1 ≤ k ∧ k ≤ 5))) ∧ w' = w := by
  by_cases h1 : 1 ≤ k <;> by_cases h2 : k ≤ 5
  all_goals
    go_enter Try.func21, Try.ntmps21
    go_wp2
    go_ret
    exact ⟨by simp [*], rfl⟩
theorem grave_k (k : Int) (w : World) : Calls Try.prog 36 #[.int .i64 k] w fun e w' => e = .returned (.bool (decide (k = 2) || decide (k = 3))) ∧ w' = w := by
  by_cases h1 : k = 2 <;> by_cases h2 : k = 3
  all_goals
    go_enter Try.func36, Try.ntmps36
    go_wp2
    go_ret
    exact ⟨by simp [*], rfl⟩
theorem near_k (n : Int) (w : World) : Calls Try.prog 22 #[.int .i64 n] w fun e w' => e = .returned (.int .i64 (nearT n)) ∧ w' = w := by
  have e : clampZ n 0 1099511627776 = nearT n := by unfold clampZ nearT; split <;> (try split) <;> (try split) <;> omega
  have hc := clamp_any n 0 1099511627776
  rw [e] at hc
  go_enter Try.func22, Try.ntmps22
  go_wp2_with (go_at_call 34; ((with_reducible refine (hc _).mono ?_); rintro e w' ⟨rfl, rfl⟩))
  go_ret
  exact ⟨rfl, rfl⟩
theorem waits_k (o : One) (w : World) : Calls Try.prog 38 #[.agg #[.bool o.on, .bool o.stands, .bool o.acked, .bool o.esc, .int .i64 o.since]] w fun e w' => e = .returned (.bool (waits o)) ∧ Below w.heap.size w w' := by
  have hB := (Below.refl w.heap.size w).alloc (Nat.le_refl _) (.cells #[.bool o.on, .bool o.stands, .bool o.acked, .bool o.esc, .int .i64 o.since] 61)
  have hH := Has.new w 61 #[.bool o.on, .bool o.stands, .bool o.acked, .bool o.esc, .int .i64 o.since]
  obtain ⟨o1, o2, o3, o4, o5⟩ := o
  unfold waits
  dsimp only at hB hH ⊢
  have c1 := hH.cell 1
  have c2 := hH.cell 2
  go_enter Try.func38, Try.ntmps38
  cases o2
  all_goals
    go_wp2
    go_ret
    exact ⟨rfl, hB⟩
set_option maxHeartbeats 1000000 in
theorem of_k (b : Nat) (s : St) (k : Int) (w : World) (h : Has w b 66 (cellsA s)) : Calls Try.prog 32 #[.pointer (some ⟨b, 0, none⟩), .int .i64 k] w fun e w' => e = .returned (.agg #[.bool (s.getZ k).on, .bool (s.getZ k).stands, .bool (s.getZ k).acked, .bool (s.getZ k).esc, .int .i64 (s.getZ k).since]) ∧ Below w.heap.size w w' := by
  have hik := fun W => isKind_k k W
  have hB := (Below.refl w.heap.size w).alloc (Nat.le_refl _) (.cells #[.bool false, .bool false, .bool false, .bool false, .int .i64 0] 61)
  have hH := Has.new w 61 #[.bool false, .bool false, .bool false, .bool false, .int .i64 0]
  have hA := h.alloc (.cells #[.bool false, .bool false, .bool false, .bool false, .int .i64 0] 61)
  by_cases hk : 1 ≤ k ∧ k ≤ 5
  · obtain ⟨j, rfl⟩ : ∃ j : Nat, k = (j : Int) := ⟨k.toNat, by omega⟩
    rw [getZ_nat]
    have hj : j < 6 := by omega
    obtain ⟨c0, c1, c2, c3, c4⟩ := part hA hj
    rw [decide_eq_true hk] at hik
    clear h
    go_enter Try.func32, Try.ntmps32
    go_wp2_with (go_at_call 21; ((with_reducible refine (hik _).mono ?_); rintro e w1 ⟨rfl, rfl⟩))
    exact bodyPost_ret (results_cell_row rfl _ _ w.heap.size 61 _ (0, 0) (.struct (Try.prog.fieldsOf 61)) rfl (Has.new w _ _) (by kernel_rfl) rfl (by kernel_rfl)) rfl ⟨rfl, (Below.refl _ w).alloc (Nat.le_refl _) _⟩
  · have e : s.getZ k = noOne := by unfold St.getZ; rw [if_neg hk]
    rw [e]
    rw [decide_eq_false hk] at hik
    clear h
    go_enter Try.func32, Try.ntmps32
    go_wp2_with (go_at_call 21; ((with_reducible refine (hik _).mono ?_); rintro e w1 ⟨rfl, rfl⟩))
    exact bodyPost_ret (results_cell_row rfl _ _ w.heap.size 61 _ (0, 0) (.struct (Try.prog.fieldsOf 61)) rfl (Has.new w _ _) (by kernel_rfl) rfl (by kernel_rfl)) rfl ⟨rfl, (Below.refl _ w).alloc (Nat.le_refl _) _⟩
theorem high_k (b : Nat) (s : St) (k : Int) (w : World) (h : Has w b 66 (cellsA s)) : Calls Try.prog 33 #[.pointer (some ⟨b, 0, none⟩), .int .i64 k] w fun e w' => e = .returned (.bool (s.highZ k)) ∧ Below w.heap.size w w' := by
  have hgr := fun W => grave_k k W
  have hof := of_k b s k w h
  have hfd : ∀ w, (Instr.field 61 (.agg #[.bool (s.getZ k).on, .bool (s.getZ k).stands, .bool (s.getZ k).acked, .bool (s.getZ k).esc, .int .i64 (s.getZ k).since]) 3).run Try.prog w = .ok (.bool (s.getZ k).esc) w := fun _ => by kernel_rfl
  unfold St.highZ
  have hB0 := Below.refl w.heap.size w
  generalize s.getZ k = o at *
  obtain ⟨o1, o2, o3, o4, o5⟩ := o
  dsimp only at hof hfd ⊢
  generalize hq : (decide (k = 2) || decide (k = 3)) = q at *
  clear hq
  cases q
  · go_enter Try.func33, Try.ntmps33
    go_wp2_with (first
      | (go_at_call 36; ((with_reducible refine (hgr _).mono ?_); rintro e w1 ⟨rfl, rfl⟩))
      | (go_at_call 32; ((with_reducible refine hof.mono ?_); rintro e w1 ⟨rfl, hB1⟩)))
    go_ret
    exact ⟨rfl, hB1⟩
  · go_enter Try.func33, Try.ntmps33
    go_wp2_with (first
      | (go_at_call 36; ((with_reducible refine (hgr _).mono ?_); rintro e w1 ⟨rfl, rfl⟩)))
    go_ret
    exact ⟨rfl, hB0⟩
end Go.Proofs.Ytahoiaiknchehaa.Alarm
