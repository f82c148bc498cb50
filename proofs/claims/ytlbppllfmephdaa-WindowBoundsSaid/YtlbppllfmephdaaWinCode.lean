/- The landed window of squares: what its memory holds, and what its Push answers and does. -/
import Derived.Test.YtlbppllfmephdaaFilterKit
import Derived.Test.YtlbppllfmephdaaWinMath
import Derived.Test.YtlbppllfmephdaaWindow
import Derived.Test.YtlbppllfmephdaaFixqA
import Derived.Test.YtlbppllfmephdaaFilterRef
import Derived.Test.YtlbppllfmephdaaOwn
import Derived.Test.YtlbppllfmephdaaRegion
import Derived.Laws.MakeOwn
set_option linter.unusedSimpArgs false
set_option linter.unusedVariables false
namespace Go.Proofs.Ytlbppllfmephdaa.Win
open Go.RowKit RI64
/-- Block y is a window of squares's struct: over a window at z (its line at x, its ring at b and g, n slots). -/
structure WinIs (w : World) (y z x b g n : Nat) (h : List Int) : Prop where
  head : Has w y 39 #[.pointer (some ⟨z, 0, none⟩)]
  win : Window w z x b g n 29 (h.map nearS)
  ne_ : y ≠ z ∧ y ≠ x ∧ y ≠ b ∧ y ≠ g
section
variable {w w' : World} {y z x b g n : Nat} {h : List Int}
theorem WinIs.kept {S : List Nat} (L : WinIs w y z x b g n h) (hk : Kept S w w') (h1 : y ∉ S) (h2 : z ∉ S) (h3 : x ∉ S) (h4 : b ∉ S) (h5 : g ∉ S) : WinIs w' y z x b g n h := ⟨hk.has L.head h1, L.win.kept hk h2 h3 h4 h5, L.ne_⟩
theorem WinIs.lt_ (L : WinIs w y z x b g n h) : y < w.heap.size ∧ z < w.heap.size ∧ x < w.heap.size ∧ b < w.heap.size ∧ g < w.heap.size := ⟨L.head.lt, L.win.lt_⟩
theorem WinIs.cell (L : WinIs w y z x b g n h) : w.cell? ⟨y, 0, none⟩ = some (.pointer (some ⟨z, 0, none⟩)) := L.head.cell 0
end
def Fil (w : World) (y : Nat) (S : List Nat) (h : List Int) : Prop := ∃ z x b g n, S = [y, z, x, b, g] ∧ WinIs w y z x b g n h
/-- Behind a call of the window: the filter is as it was, but for what came. -/
theorem WinIs.turned {w w' : World} {y z x b g n : Nat} {h h' : List Int} (L : WinIs w y z x b g n h) (hL : Window w' z x b g n 29 (h'.map nearS)) (hK : Kept [z, b, g] w w') : WinIs w' y z x b g n h' :=
  ⟨hK.has L.head (by have := L.ne_; simp; omega), hL, L.ne_⟩
/-- What Last answers. -/
theorem last_k (y z x b g n : Nat) (h : List Int) (w : World) (L : WinIs w y z x b g n h) :
    Calls Try.prog 10 #[.pointer (some ⟨y, 0, none⟩)] w fun e w' => e = .returned (.int .i64 (winT h)) ∧ w = w' := by
  have c0 := L.cell
  have hsm := window_sum z x b g n 29 (h.map nearS) w L.win
  rw [sum_wrap] at hsm
  have hsb := sum_bd h 30 (by omega)
  have hsh := fun W => shift_any (sumT h 30) 5 W (by omega)
  rw [show sumT h 30 / 2 ^ min ((5 : Int)).toNat 64 = winT h from rfl] at hsh
  generalize winT h = r at *
  generalize sumT h 30 = s at *
  go_enter Try.func10, Try.ntmps10
  go_wp2_with (first
    | (go_at_call 16; ((with_reducible refine hsm.mono ?_); rintro e W3 ⟨rfl, rfl⟩))
    | (go_at_call 15; ((with_reducible refine (hsh _).mono ?_); rintro e w' ⟨rfl, rfl⟩)))
  go_ret
  exact ⟨rfl, rfl⟩
set_option maxHeartbeats 1000000 in
theorem push_k (y z x b g n : Nat) (h : List Int) (v : Int) (w : World) (L : WinIs w y z x b g n h) :
    Calls Try.prog 12 #[.pointer (some ⟨y, 0, none⟩), .int .i64 v] w fun e w' => e = .returned (.int .i64 (winT (v :: h))) ∧ WinIs w' y z x b g n (v :: h) ∧ Kept [z, b, g] w w' := by
  have c0 := L.cell
  have hcl := clamp_any v 0 67108864
  rw [show clampZ v 0 67108864 = nearS v from rfl] at hcl
  have hpc := window_push z x b g n 29 (h.map nearS) (nearS v) w.drew (L.win.same rfl)
  unfold WindowBecame at hpc
  rw [show nearS v :: h.map nearS = (v :: h).map nearS from rfl] at hpc
  go_enter Try.func12, Try.ntmps12
  go_wp2
  refine Reg.begin_ (S := fun W => W.cell? ⟨y, 0, none⟩ = some (.pointer (some ⟨z, 0, none⟩))) (by kernel_rfl) (by exact c0) (fun hHeld => ?_)
  refine Reg.take (i := 0) (v := ?v1) rfl (by kernel_rfl) (by kernel_rfl) (by kernel_rfl) (by rfl) ?hv1 (by assumption) ?rest1
  case hv1 => first | (intro w hSw; (try dsimp only at hSw); go_simp; done) | (intro w hSw; (try dsimp only at hSw); go_simp; with_reducible rfl)
  (try simp only [Act.put, List.setIfInBounds_toArray, List.set_cons_zero, List.set_cons_succ])
  refine Reg.take (i := 1) (v := ?v2) rfl (by kernel_rfl) (by kernel_rfl) (by kernel_rfl) (by rfl) ?hv2 (by assumption) ?rest2
  case hv2 => first | (intro w hSw; (try dsimp only at hSw); go_simp; done) | (intro w hSw; (try dsimp only at hSw); go_simp; with_reducible rfl)
  (try simp only [Act.put, List.setIfInBounds_toArray, List.set_cons_zero, List.set_cons_succ])
  refine Reg.take (i := 2) (v := ?v3) rfl (by kernel_rfl) (by kernel_rfl) (by kernel_rfl) (by rfl) ?hv3 (by assumption) ?rest3
  case hv3 => first | (intro w hSw; (try dsimp only at hSw); go_simp; done) | (intro w hSw; (try dsimp only at hSw); go_simp; with_reducible rfl)
  (try simp only [Act.put, List.setIfInBounds_toArray, List.set_cons_zero, List.set_cons_succ])
  refine Reg.take (i := 3) (v := ?v4) rfl (by kernel_rfl) (by kernel_rfl) (by kernel_rfl) (by rfl) ?hv4 (by assumption) ?rest4
  case hv4 => first | (intro w hSw; (try dsimp only at hSw); go_simp; done) | (intro w hSw; (try dsimp only at hSw); go_simp; with_reducible rfl)
  (try simp only [Act.put, List.setIfInBounds_toArray, List.set_cons_zero, List.set_cons_succ])
  refine Reg.take (i := 4) (v := ?v5) rfl (by kernel_rfl) (by kernel_rfl) (by kernel_rfl) (by rfl) ?hv5 (by assumption) ?rest5
  case hv5 => first | (intro w hSw; (try dsimp only at hSw); go_simp; done) | (intro w hSw; (try dsimp only at hSw); go_simp; with_reducible rfl)
  (try simp only [Act.put, List.setIfInBounds_toArray, List.set_cons_zero, List.set_cons_succ])
  refine Reg.call (i := 5) rfl (by kernel_rfl) (by rfl) ?_
  intro K1 hK1
  go_simp
  go_at_call 19
  (with_reducible refine (hcl _).mono ?_)
  rintro e W1 ⟨rfl, rfl⟩
  refine hK1.out _ _ (by exact c0) (fun hHeld => ?_)
  clear hK1 K1
  (try simp only [Act.put, List.setIfInBounds_toArray, List.set_cons_zero, List.set_cons_succ])
  refine Reg.call (i := 6) rfl (by kernel_rfl) (by rfl) ?_
  intro K1 hK1
  go_simp
  go_at_call 18
  (with_reducible refine hpc.mono ?_)
  rintro e W2 ⟨rfl, hL2, hK2⟩
  have hK3 : Kept [z, b, g] w W2 := ((Kept.refl [z, b, g] w).drewN 1).trans hK2
  have hN2 := L.turned hL2 hK3
  have d0 := hN2.cell
  refine hK1.out _ _ (by exact d0) (fun hHeld => ?_)
  clear hK1 K1
  (try simp only [Act.put, List.setIfInBounds_toArray, List.set_cons_zero, List.set_cons_succ])
  refine Reg.done (by kernel_rfl) ?_ _
  have hla := last_k y z x b g n (v :: h) W2 hN2
  have HN := Lib.hid hN2
  clear c0 hcl hpc L hN2 hK2 hL2
  go_wp2_with (go_at_call 10; ((with_reducible refine hla.mono ?_); rintro e W3 ⟨rfl, rfl⟩))
  go_ret
  exact ⟨rfl, HN.out, hK3⟩
end Go.Proofs.Ytlbppllfmephdaa.Win
