/- The landed high filter: what its memory holds, and what its Push answers and does. -/
import Derived.Test.YtbahcoghkmfchaaFilterKit
import Derived.Test.YtbahcoghkmfchaaHighMath
import Derived.Test.YtbahcoghkmfchaaWindow
import Derived.Test.YtbahcoghkmfchaaFixqA
import Derived.Test.YtbahcoghkmfchaaFilterRef
import Derived.Test.YtbahcoghkmfchaaOwn
import Derived.Test.YtbahcoghkmfchaaRegion
import Derived.Laws.MakeOwn
set_option linter.unusedSimpArgs false
set_option linter.unusedVariables false
namespace Go.Proofs.Ytbahcoghkmfchaa.High
open Go.RowKit RI64
/-- Block y is a high filter's struct: over a window at z (its line at x, its ring at b and g, n slots). -/
structure HighIs (w : World) (y z x b g n : Nat) (h : List Int) : Prop where
  head : Has w y 39 #[.pointer (some ⟨z, 0, none⟩)]
  win : Window w z x b g n 31 (h.map (nearTo 73727))
  ne_ : y ≠ z ∧ y ≠ x ∧ y ≠ b ∧ y ≠ g
section
variable {w w' : World} {y z x b g n : Nat} {h : List Int}
theorem HighIs.kept {S : List Nat} (L : HighIs w y z x b g n h) (hk : Kept S w w') (h1 : y ∉ S) (h2 : z ∉ S) (h3 : x ∉ S) (h4 : b ∉ S) (h5 : g ∉ S) : HighIs w' y z x b g n h := ⟨hk.has L.head h1, L.win.kept hk h2 h3 h4 h5, L.ne_⟩
theorem HighIs.lt_ (L : HighIs w y z x b g n h) : y < w.heap.size ∧ z < w.heap.size ∧ x < w.heap.size ∧ b < w.heap.size ∧ g < w.heap.size := ⟨L.head.lt, L.win.lt_⟩
theorem HighIs.cell (L : HighIs w y z x b g n h) : w.cell? ⟨y, 0, none⟩ = some (.pointer (some ⟨z, 0, none⟩)) := L.head.cell 0
end
def Fil (w : World) (y : Nat) (S : List Nat) (h : List Int) : Prop := ∃ z x b g n, S = [y, z, x, b, g] ∧ HighIs w y z x b g n h
/-- Behind a call of the window: the filter is as it was, but for what came. -/
theorem HighIs.turned {w w' : World} {y z x b g n : Nat} {h h' : List Int} (L : HighIs w y z x b g n h) (hL : Window w' z x b g n 31 (h'.map (nearTo 73727))) (hK : Kept [z, b, g] w w') : HighIs w' y z x b g n h' :=
  ⟨hK.has L.head (by have := L.ne_; simp; omega), hL, L.ne_⟩
set_option maxHeartbeats 1000000 in
theorem push_k (y z x b g n : Nat) (h : List Int) (v : Int) (w : World) (L : HighIs w y z x b g n h) :
    Calls Try.prog 12 #[.pointer (some ⟨y, 0, none⟩), .int .i64 v] w fun e w' => e = .returned (.int .i64 (highT (v :: h))) ∧ HighIs w' y z x b g n (v :: h) ∧ Kept [z, b, g] w w' := by
  have c0 := L.cell
  have hcl := clamp_any v (-73727) 73727
  rw [nearTo_clamp 73727 v (by omega)] at hcl
  have hpc := window_push z x b g n 31 (h.map (nearTo 73727)) (nearTo 73727 v) w.drew (L.win.same rfl)
  unfold WindowBecame at hpc
  rw [show nearTo 73727 v :: h.map (nearTo 73727) = (v :: h).map (nearTo 73727) from rfl, sum_wrap] at hpc
  go_enter Try.func12, Try.ntmps12
  go_wp2
  refine Reg.begin_ (S := fun W => W.cell? ⟨y, 0, none⟩ = some (.pointer (some ⟨z, 0, none⟩))) (by kernel_rfl) (by exact c0) (fun hHeld => ?_)
  refine Reg.take (i := 0) (v := ?v1) rfl (by kernel_rfl) (by kernel_rfl) (by kernel_rfl) (by rfl) ?hv1 (by assumption) ?rest1
  case hv1 => first | (intro w hSw; (try dsimp only at hSw); go_simp; done) | (intro w hSw; (try dsimp only at hSw); go_simp; with_reducible rfl)
  (try simp only [Act.put, List.setIfInBounds_toArray, List.set_cons_zero, List.set_cons_succ])
  refine Reg.take (i := 1) (v := ?v2) rfl (by kernel_rfl) (by kernel_rfl) (by kernel_rfl) (by rfl) ?hv2 (by assumption) ?rest2
  case hv2 => first | (intro w hSw; (try dsimp only at hSw); go_simp; done) | (intro w hSw; (try dsimp only at hSw); go_simp; with_reducible rfl)
  (try simp only [Act.put, List.setIfInBounds_toArray, List.set_cons_zero, List.set_cons_succ])
  refine Reg.take (i := 2) (v := ?v3) rfl (by kernel_rfl) (by kernel_rfl) (by kernel_rfl) (by rfl) ?hv3 (by assumption) ?rest3
  case hv3 => first | (intro w hSw; (try dsimp only at hSw); go_simp; done) | (intro w hSw; (try dsimp only at hSw); go_simp; with_reducible rfl)
  (try simp only [Act.put, List.setIfInBounds_toArray, List.set_cons_zero, List.set_cons_succ])
  refine Reg.take (i := 3) (v := ?v4) rfl (by kernel_rfl) (by kernel_rfl) (by kernel_rfl) (by rfl) ?hv4 (by assumption) ?rest4
  case hv4 => first | (intro w hSw; (try dsimp only at hSw); go_simp; done) | (intro w hSw; (try dsimp only at hSw); go_simp; with_reducible rfl)
  (try simp only [Act.put, List.setIfInBounds_toArray, List.set_cons_zero, List.set_cons_succ])
  refine Reg.take (i := 4) (v := ?v5) rfl (by kernel_rfl) (by kernel_rfl) (by kernel_rfl) (by rfl) ?hv5 (by assumption) ?rest5
  case hv5 => first | (intro w hSw; (try dsimp only at hSw); go_simp; done) | (intro w hSw; (try dsimp only at hSw); go_simp; with_reducible rfl)
  (try simp only [Act.put, List.setIfInBounds_toArray, List.set_cons_zero, List.set_cons_succ])
  refine Reg.call (i := 5) rfl (by kernel_rfl) (by rfl) ?_
  intro K1 hK1
  go_simp
  go_at_call 20
  (with_reducible refine (hcl _).mono ?_)
  rintro e W1 ⟨rfl, rfl⟩
  refine hK1.out _ _ (by exact c0) (fun hHeld => ?_)
  clear hK1 K1
  (try simp only [Act.put, List.setIfInBounds_toArray, List.set_cons_zero, List.set_cons_succ])
  refine Reg.call (i := 6) rfl (by kernel_rfl) (by rfl) ?_
  intro K1 hK1
  go_simp
  go_at_call 19
  (with_reducible refine hpc.mono ?_)
  rintro e W2 ⟨rfl, hL2, hK2⟩
  have hK3 : Kept [z, b, g] w W2 := ((Kept.refl [z, b, g] w).drewN 1).trans hK2
  have hN2 := L.turned hL2 hK3
  have d0 := hN2.cell
  refine hK1.out _ _ (by exact d0) (fun hHeld => ?_)
  clear hK1 K1
  (try simp only [Act.put, List.setIfInBounds_toArray, List.set_cons_zero, List.set_cons_succ])
  refine Reg.take (i := 7) (v := ?v6) rfl (by kernel_rfl) (by kernel_rfl) (by kernel_rfl) (by rfl) ?hv6 (by assumption) ?rest6
  case hv6 => first | (intro w hSw; (try dsimp only at hSw); go_simp; done) | (intro w hSw; (try dsimp only at hSw); go_simp; with_reducible rfl)
  (try simp only [Act.put, List.setIfInBounds_toArray, List.set_cons_zero, List.set_cons_succ])
  refine Reg.done (by kernel_rfl) ?_ _
  have hbk := window_back z x b g n 31 _ 16 W2 hL2 (by omega)
  rw [show (16 : Int) = ((16 : Nat) : Int) from rfl, agoTo_in _ _ 16 (by omega), came_map 73727 _ 16 (by omega), show ((16 : Nat) : Int) = 16 from rfl] at hbk
  have hwb := whole_bd (v :: h)
  have hsh := fun W => shift_any (wholeT (v :: h)) 5 W (by omega)
  rw [show wholeT (v :: h) / 2 ^ min ((5 : Int)).toNat 64 = highT (v :: h) from rfl] at hsh
  have hc := came_high (v :: h) 16
  have hs := sum_bd (v :: h) 32 (by omega)
  unfold wholeT at hsh hwb
  have HN := Lib.hid hN2
  clear c0 hcl hpc L hN2 hK2 hL2
  generalize sumT (v :: h) 32 = s at *
  generalize cameT 73727 (v :: h) 16 = cv at *
  go_wp2_with (first
    | (go_at_call 22; ((with_reducible refine hbk.mono ?_); rintro e W3 ⟨rfl, d, rfl⟩))
    | (go_at_call 21; ((with_reducible refine (hsh _).mono ?_); rintro e w' ⟨rfl, rfl⟩)))
  go_ret
  exact ⟨rfl, HN.out.kept ((Kept.refl [] W2).drewN d) (by simp) (by simp) (by simp) (by simp) (by simp), hK3.drewN d⟩
end Go.Proofs.Ytbahcoghkmfchaa.High
