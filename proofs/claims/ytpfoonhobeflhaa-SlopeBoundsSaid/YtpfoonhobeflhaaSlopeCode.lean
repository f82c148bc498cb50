/- The landed slope filter: what its memory holds, and what its Push answers and does. -/
import Derived.Test.YtpfoonhobeflhaaFilterKit
import Derived.Test.YtpfoonhobeflhaaSlopeMath
import Derived.Test.YtpfoonhobeflhaaLinePush
import Derived.Test.YtpfoonhobeflhaaFixqA
import Derived.Test.YtpfoonhobeflhaaFilterRef
import Derived.Test.YtpfoonhobeflhaaOwn
import Derived.Test.YtpfoonhobeflhaaRegion
import Derived.Laws.MakeOwn
set_option linter.unusedSimpArgs false
set_option linter.unusedVariables false
namespace Go.Proofs.Ytpfoonhobeflhaa.Slope
open Go.RowKit RI64
/-- Block y is a slope filter's struct: over a line at x (its ring at b and g, n slots). -/
structure SlopeIs (w : World) (y x b g n : Nat) (h : List Int) : Prop where
  head : Has w y 42 #[.pointer (some ⟨x, 0, none⟩)]
  line : Line w x b g n 4 (h.map (nearTo 142847))
  ne_ : y ≠ x ∧ y ≠ b ∧ y ≠ g
section
variable {w w' : World} {y x b g n : Nat} {h : List Int}
theorem SlopeIs.kept {S : List Nat} (L : SlopeIs w y x b g n h) (hk : Kept S w w') (h1 : y ∉ S) (h3 : x ∉ S) (h4 : b ∉ S) (h5 : g ∉ S) : SlopeIs w' y x b g n h := ⟨hk.has L.head h1, L.line.kept hk h3 h4 h5, L.ne_⟩
theorem SlopeIs.lt_ (L : SlopeIs w y x b g n h) : y < w.heap.size ∧ x < w.heap.size ∧ b < w.heap.size ∧ g < w.heap.size := ⟨L.head.lt, L.line.lt_⟩
theorem SlopeIs.cell (L : SlopeIs w y x b g n h) : w.cell? ⟨y, 0, none⟩ = some (.pointer (some ⟨x, 0, none⟩)) := L.head.cell 0
end
def Fil (w : World) (y : Nat) (S : List Nat) (h : List Int) : Prop := ∃ x b g n, S = [y, x, b, g] ∧ SlopeIs w y x b g n h
/-- Behind a Push of the line: the filter is as it was, but for what came. -/
theorem SlopeIs.turned {w w' : World} {y x b g n : Nat} {h h' : List Int} (L : SlopeIs w y x b g n h) (hL : Line w' x b g n 4 (h'.map (nearTo 142847))) (hK : Kept [b, g] w w') : SlopeIs w' y x b g n h' :=
  ⟨hK.has L.head (by have := L.ne_; simp; omega), hL, L.ne_⟩
set_option maxHeartbeats 1000000 in
theorem push_k (y x b g n : Nat) (h : List Int) (v : Int) (w : World) (L : SlopeIs w y x b g n h) :
    Calls Try.prog 12 #[.pointer (some ⟨y, 0, none⟩), .int .i64 v] w fun e w' => e = .returned (.int .i64 (slopeT (v :: h))) ∧ SlopeIs w' y x b g n (v :: h) ∧ Kept [b, g] w w' := by
  have c0 := L.cell
  have hcl := clamp_any v (-142847) 142847
  rw [nearTo_clamp 142847 v (by omega)] at hcl
  have hpu := fun (A : Option Addr) W (hW : Line W x b g n 4 (h.map (nearTo 142847))) (hv : Vals W A 1 [nearTo 142847 v]) hf => line_push x b g n _ _ A 1 1 [nearTo 142847 v] W hW hv (by omega) (by omega) hf
  rw [show [nearTo 142847 v].reverse ++ h.map (nearTo 142847) = (v :: h).map (nearTo 142847) from rfl] at hpu
  have hV1 : Vals (w.alloc (.cells #[.int .i64 (nearTo 142847 v)] 2)).drew (some ⟨w.heap.size, 0, none⟩) 1 [nearTo 142847 v] := Vals.same (Vals.has (ys := [nearTo 142847 v]) (tl := []) (Has.new w 2 _)) rfl
  have hpc := hpu (some ⟨w.heap.size, 0, none⟩) (w.alloc (.cells #[.int .i64 (nearTo 142847 v)] 2)).drew ((L.line.alloc (.cells #[.int .i64 (nearTo 142847 v)] 2)).same rfl) hV1 (fun _ z hz => by cases hz; have := L.lt_; simp; omega)
  clear hpu hV1
  go_enter Try.func12, Try.ntmps12
  go_wp2
  refine Reg.begin_ (S := fun W => W.cell? ⟨y, 0, none⟩ = some (.pointer (some ⟨x, 0, none⟩))) (by kernel_rfl) (by exact c0) (fun hHeld => ?_)
  refine Reg.take (i := 0) (v := ?v1) rfl (by kernel_rfl) (by kernel_rfl) (by kernel_rfl) (by rfl) ?hv1 (by assumption) ?rest1
  case hv1 => first | (intro w hSw; (try dsimp only at hSw); go_simp; done) | (intro w hSw; (try dsimp only at hSw); go_simp; with_reducible rfl)
  (try simp only [Act.put, List.setIfInBounds_toArray, List.set_cons_zero, List.set_cons_succ])
  refine Reg.take (i := 1) (v := ?v2) rfl (by kernel_rfl) (by kernel_rfl) (by kernel_rfl) (by rfl) ?hv2 (by assumption) ?rest2
  case hv2 => first | (intro w hSw; (try dsimp only at hSw); go_simp; done) | (intro w hSw; (try dsimp only at hSw); go_simp; with_reducible rfl)
  (try simp only [Act.put, List.setIfInBounds_toArray, List.set_cons_zero, List.set_cons_succ])
  refine Reg.take (i := 2) (v := ?v3) rfl (by kernel_rfl) (by kernel_rfl) (by kernel_rfl) (by rfl) ?hv3 (by assumption) ?rest3
  case hv3 => first | (intro w hSw; (try dsimp only at hSw); go_simp; done) | (intro w hSw; (try dsimp only at hSw); go_simp; with_reducible rfl)
  (try simp only [Act.put, List.setIfInBounds_toArray, List.set_cons_zero, List.set_cons_succ])
  refine Reg.take (i := 3) (v := ?v4) rfl (by kernel_rfl) (by kernel_rfl) (by kernel_rfl) (by rfl) ?hv4 (by assumption) ?rest4
  case hv4 => first | (intro w hSw; (try dsimp only at hSw); go_simp; done) | (intro w hSw; (try dsimp only at hSw); go_simp; with_reducible rfl)
  (try simp only [Act.put, List.setIfInBounds_toArray, List.set_cons_zero, List.set_cons_succ])
  refine Reg.take (i := 4) (v := ?v5) rfl (by kernel_rfl) (by kernel_rfl) (by kernel_rfl) (by rfl) ?hv5 (by assumption) ?rest5
  case hv5 => first | (intro w hSw; (try dsimp only at hSw); go_simp; done) | (intro w hSw; (try dsimp only at hSw); go_simp; with_reducible rfl)
  (try simp only [Act.put, List.setIfInBounds_toArray, List.set_cons_zero, List.set_cons_succ])
  refine Reg.call (i := 5) rfl (by kernel_rfl) (by rfl) ?_
  intro K1 hK1
  go_simp
  go_at_call 23
  (with_reducible refine (hcl _).mono ?_)
  rintro e W1 ⟨rfl, rfl⟩
  refine hK1.out _ _ (by exact c0) (fun hHeld => ?_)
  clear hK1 K1
  (try simp only [Act.put, List.setIfInBounds_toArray, List.set_cons_zero, List.set_cons_succ])
  refine Reg.call (i := 6) rfl (by kernel_rfl) (by rfl) ?_
  intro K1 hK1
  go_simp
  refine hK1.out _ _ (by exact (L.head.alloc _).cell 0) (fun hHeld => ?_)
  clear hK1 K1
  (try simp only [Act.put, List.setIfInBounds_toArray, List.set_cons_zero, List.set_cons_succ])
  refine Reg.call (i := 7) rfl (by kernel_rfl) (by rfl) ?_
  intro K1 hK1
  go_simp
  go_at_call 22
  (with_reducible refine hpc.mono ?_)
  rintro e W2 ⟨rfl, hL2, hK2⟩
  have hK3 : Kept [b, g] w W2 := (((Kept.refl [b, g] w).alloc _).drewN 1).trans hK2
  have hN2 := L.turned hL2 hK3
  have d0 := hN2.cell
  refine hK1.out _ _ (by exact d0) (fun hHeld => ?_)
  clear hK1 K1
  (try simp only [Act.put, List.setIfInBounds_toArray, List.set_cons_zero, List.set_cons_succ])
  refine Reg.done (by kernel_rfl) ?_ _
  have hbk : ∀ (k : Nat), k ≤ 4 → ∀ d, Calls Try.prog 24 #[.pointer (some ⟨x, 0, none⟩), .int .i64 (k : Nat)] (W2.drewN d) fun e w' => e = .returned (.int .i64 (cameT 142847 (v :: h) k)) ∧ ∃ z, w' = (W2.drewN d).drewN z := fun k hk d => by
    have h9 := line_back x b g n _ _ (k : Int) (W2.drewN d) (hL2.same rfl) (by omega)
    rwa [agoTo_in _ _ k (by omega), came_map 142847 _ k (by omega)] at h9
  have hb0 := hbk 0 (by omega)
  have hb1 := hbk 1 (by omega)
  have hb3 := hbk 3 (by omega)
  have hb4 := hbk 4 (by omega)
  rw [show ((0 : Nat) : Int) = 0 from rfl] at hb0
  rw [show ((1 : Nat) : Int) = 1 from rfl] at hb1
  rw [show ((3 : Nat) : Int) = 3 from rfl] at hb3
  rw [show ((4 : Nat) : Int) = 4 from rfl] at hb4
  have hsh := fun W => shift_any (sumT (v :: h)) 3 W (by omega)
  rw [show sumT (v :: h) / 2 ^ min ((3 : Int)).toNat 64 = slopeT (v :: h) from rfl] at hsh
  have e0 := came_slope (v :: h) 0
  have e1 := came_slope (v :: h) 1
  have e3 := came_slope (v :: h) 3
  have e4 := came_slope (v :: h) 4
  unfold sumT at hsh
  have HN := Lib.hid hN2
  clear c0 hcl hpc L hN2 hK2 hL2 hbk
  generalize cameT 142847 (v :: h) 0 = x0 at *
  generalize cameT 142847 (v :: h) 1 = x1 at *
  generalize cameT 142847 (v :: h) 3 = x3 at *
  generalize cameT 142847 (v :: h) 4 = x4 at *
  go_wp2
  go_quiet ((first
    | (go_at_call 24; with_reducible exact Calls.quiet_of (hb0 _))
    | (go_at_call 24; with_reducible exact Calls.quiet_of (hb1 _))
    | (go_at_call 24; with_reducible exact Calls.quiet_of (hb3 _))
    | (go_at_call 24; with_reducible exact Calls.quiet_of (hb4 _))))
  go_wp2_with (go_at_call 25; ((with_reducible refine (hsh _).mono ?_); rintro e w' ⟨rfl, rfl⟩))
  go_ret
  exact ⟨rfl, HN.out.kept ((Kept.refl [] W2).drewN nq) (by simp) (by simp) (by simp) (by simp), hK3.drewN nq⟩
end Go.Proofs.Ytpfoonhobeflhaa.Slope
