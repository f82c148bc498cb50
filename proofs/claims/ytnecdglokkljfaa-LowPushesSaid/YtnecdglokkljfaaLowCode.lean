/- The landed low filter: what its memory holds, and what its Push answers and does. -/
import Derived.Test.YtnecdglokkljfaaFilterKit
import Derived.Test.YtnecdglokkljfaaLowMath
import Derived.Test.YtnecdglokkljfaaLinePush
import Derived.Test.YtnecdglokkljfaaFixqA
import Derived.Test.YtnecdglokkljfaaFilterRef
import Derived.Test.YtnecdglokkljfaaOwn
import Derived.Test.YtnecdglokkljfaaRegion
import Derived.Laws.MakeOwn
set_option linter.unusedSimpArgs false
set_option linter.unusedVariables false
namespace Go.Proofs.Ytnecdglokkljfaa.Low
open Go.RowKit RI64
/-- Block y is a low filter's struct: over a line at x (its ring at b and g, n slots). -/
structure LowIs (w : World) (y x b g n : Nat) (h : List Int) : Prop where
  head : Has w y 42 #[.pointer (some ⟨x, 0, none⟩)]
  line : Line w x b g n 10 (h.map (nearTo 65535))
  ne_ : y ≠ x ∧ y ≠ b ∧ y ≠ g
section
variable {w w' : World} {y x b g n : Nat} {h : List Int}
theorem LowIs.kept {S : List Nat} (L : LowIs w y x b g n h) (hk : Kept S w w') (h1 : y ∉ S) (h3 : x ∉ S) (h4 : b ∉ S) (h5 : g ∉ S) : LowIs w' y x b g n h := ⟨hk.has L.head h1, L.line.kept hk h3 h4 h5, L.ne_⟩
theorem LowIs.lt_ (L : LowIs w y x b g n h) : y < w.heap.size ∧ x < w.heap.size ∧ b < w.heap.size ∧ g < w.heap.size := ⟨L.head.lt, L.line.lt_⟩
theorem LowIs.cell (L : LowIs w y x b g n h) : w.cell? ⟨y, 0, none⟩ = some (.pointer (some ⟨x, 0, none⟩)) := L.head.cell 0
end
def Fil (w : World) (y : Nat) (S : List Nat) (h : List Int) : Prop := ∃ x b g n, S = [y, x, b, g] ∧ LowIs w y x b g n h
/-- Behind a Push of the line: the filter is as it was, but for what came. -/
theorem LowIs.turned {w w' : World} {y x b g n : Nat} {h h' : List Int} (L : LowIs w y x b g n h) (hL : Line w' x b g n 10 (h'.map (nearTo 65535))) (hK : Kept [b, g] w w') : LowIs w' y x b g n h' :=
  ⟨hK.has L.head (by have := L.ne_; simp; omega), hL, L.ne_⟩
theorem weight_k (j : Nat) (hj : j < 11) (w : World) :
    Calls Try.prog 21 #[.int .i64 (j : Nat)] w fun e w' => e = .returned (.int .i64 (wsT.getD j 0)) ∧ w = w' := by
  have hb : 0 ≤ (j : Int) ∧ (j : Int) ≤ 10 := by omega
  have hmin : (if 11 - (j : Int) < (j : Int) + 1 then 11 - (j : Int) else (j : Int) + 1) = wsT.getD j 0 := by
    rw [ws_at j hj]
    split <;> split <;> omega
  go_enter Try.func21, Try.ntmps21
  go_wp2
  go_ret
  exact ⟨rfl, rfl⟩
set_option maxHeartbeats 1000000 in
theorem push_k (y x b g n : Nat) (h : List Int) (v : Int) (w : World) (L : LowIs w y x b g n h) :
    Calls Try.prog 12 #[.pointer (some ⟨y, 0, none⟩), .int .i64 v] w fun e w' => e = .returned (.int .i64 (lowT (v :: h))) ∧ LowIs w' y x b g n (v :: h) ∧ Kept [b, g] w w' := by
  have c0 := L.cell
  have hcl := clamp_any v (-65535) 65535
  rw [nearTo_clamp 65535 v (by omega)] at hcl
  have hpu := fun (A : Option Addr) W (hW : Line W x b g n 10 (h.map (nearTo 65535))) (hv : Vals W A 1 [nearTo 65535 v]) hf => line_push x b g n _ _ A 1 1 [nearTo 65535 v] W hW hv (by omega) (by omega) hf
  rw [show [nearTo 65535 v].reverse ++ h.map (nearTo 65535) = (v :: h).map (nearTo 65535) from rfl] at hpu
  have hV1 : Vals (w.alloc (.cells #[.int .i64 (nearTo 65535 v)] 2)).drew (some ⟨w.heap.size, 0, none⟩) 1 [nearTo 65535 v] := Vals.same (Vals.has (ys := [nearTo 65535 v]) (tl := []) (Has.new w 2 _)) rfl
  have hpc := hpu (some ⟨w.heap.size, 0, none⟩) (w.alloc (.cells #[.int .i64 (nearTo 65535 v)] 2)).drew ((L.line.alloc (.cells #[.int .i64 (nearTo 65535 v)] 2)).same rfl) hV1 (fun _ z hz => by cases hz; have := L.lt_; simp; omega)
  clear hpu hV1
  go_enter Try.func12, Try.ntmps12
  go_wp2
  refine Reg.begin_ (S := fun W => W.cell? ⟨y, 0, none⟩ = some (.pointer (some ⟨x, 0, none⟩))) (by kernel_rfl) (by exact c0) (fun hHeld => ?_)
  refine Reg.take (i := 0) (v := ?v1) rfl (by kernel_rfl) (by kernel_rfl) (by kernel_rfl) (by rfl) ?hv1 (by assumption) ?rest1
  case hv1 => first | (intro w hSw; (try dsimp only at hSw); go_simp; done) | (intro w hSw; (try dsimp only at hSw); go_simp; with_reducible rfl)
  (try simp only [Act.put, List.setIfInBounds_toArray, List.set_cons_zero, List.set_cons_succ])
  refine Reg.take (i := 1) (v := ?v2) rfl (by kernel_rfl) (by kernel_rfl) (by kernel_rfl) (by rfl) ?hv2 (by assumption) ?rest2
  case hv2 => first | (intro w hSw; (try dsimp only at hSw); go_simp; done) | (intro w hSw; (try dsimp only at hSw); go_simp; with_reducible rfl)
  (try simp only [Act.put, List.setIfInBounds_toArray, List.set_cons_zero, List.set_cons_succ])
  refine Reg.take (i := 2) (v := ?v3) rfl (by kernel_rfl) (by kernel_rfl) (by kernel_rfl) (by rfl) ?hv3 (by assumption) ?rest3
  case hv3 => first | (intro w hSw; (try dsimp only at hSw); go_simp; done) | (intro w hSw; (try dsimp only at hSw); go_simp; with_reducible rfl)
  (try simp only [Act.put, List.setIfInBounds_toArray, List.set_cons_zero, List.set_cons_succ])
  refine Reg.take (i := 3) (v := ?v4) rfl (by kernel_rfl) (by kernel_rfl) (by kernel_rfl) (by rfl) ?hv4 (by assumption) ?rest4
  case hv4 => first | (intro w hSw; (try dsimp only at hSw); go_simp; done) | (intro w hSw; (try dsimp only at hSw); go_simp; with_reducible rfl)
  (try simp only [Act.put, List.setIfInBounds_toArray, List.set_cons_zero, List.set_cons_succ])
  refine Reg.take (i := 4) (v := ?v5) rfl (by kernel_rfl) (by kernel_rfl) (by kernel_rfl) (by rfl) ?hv5 (by assumption) ?rest5
  case hv5 => first | (intro w hSw; (try dsimp only at hSw); go_simp; done) | (intro w hSw; (try dsimp only at hSw); go_simp; with_reducible rfl)
  (try simp only [Act.put, List.setIfInBounds_toArray, List.set_cons_zero, List.set_cons_succ])
  refine Reg.call (i := 5) rfl (by kernel_rfl) (by rfl) ?_
  intro K1 hK1
  go_simp
  go_at_call 20
  (with_reducible refine (hcl _).mono ?_)
  rintro e W1 ⟨rfl, rfl⟩
  refine hK1.out _ _ (by exact c0) (fun hHeld => ?_)
  clear hK1 K1
  (try simp only [Act.put, List.setIfInBounds_toArray, List.set_cons_zero, List.set_cons_succ])
  refine Reg.call (i := 6) rfl (by kernel_rfl) (by rfl) ?_
  intro K1 hK1
  go_simp
  refine hK1.out _ _ (by exact (L.head.alloc _).cell 0) (fun hHeld => ?_)
  clear hK1 K1
  (try simp only [Act.put, List.setIfInBounds_toArray, List.set_cons_zero, List.set_cons_succ])
  refine Reg.call (i := 7) rfl (by kernel_rfl) (by rfl) ?_
  intro K1 hK1
  go_simp
  go_at_call 19
  (with_reducible refine hpc.mono ?_)
  rintro e W2 ⟨rfl, hL2, hK2⟩
  have hK3 : Kept [b, g] w W2 := (((Kept.refl [b, g] w).alloc _).drewN 1).trans hK2
  have hN2 := L.turned hL2 hK3
  have d0 := hN2.cell
  refine hK1.out _ _ (by exact d0) (fun hHeld => ?_)
  clear hK1 K1
  (try simp only [Act.put, List.setIfInBounds_toArray, List.set_cons_zero, List.set_cons_succ])
  refine Reg.done (by kernel_rfl) ?_ _
  have hbd := fun j hj => partial_bd (v :: h) j hj
  have hbk : ∀ (k : Nat), k < 11 → ∀ W, W.heap = W2.heap → Calls Try.prog 22 #[.pointer (some ⟨x, 0, none⟩), .int .i64 (k : Nat)] W fun e w' => e = .returned (.int .i64 (cameT 65535 (v :: h) k)) ∧ ∃ z, w' = W.drewN z := fun k hk W hW => by
    have h9 := line_back x b g n _ _ (k : Int) W (hL2.same hW) (by omega)
    rwa [agoTo_in _ _ k (by omega), came_map 65535 _ k (by omega)] at h9
  have hst := fun j (hj : j < 11) => weighed_step 65535 (v :: h) wsT j hj
  have hsh := fun W => shift_any (sumT (v :: h)) 5 W (by omega)
  rw [show sumT (v :: h) / 2 ^ min ((5 : Int)).toNat 64 = lowT (v :: h) from rfl] at hsh
  have hz : weighed 65535 (v :: h) 0 (wsT.take 0) = 0 := rfl
  have hfull : weighed 65535 (v :: h) 0 (wsT.take 11) = sumT (v :: h) := rfl
  have HBD := Lib.hid hbd
  have HST := Lib.hid hst
  have HN := Lib.hid hN2
  clear c0 hcl hpc hbd hst L hN2 hK2
  have hwt : ∀ j, j < 11 → ∀ W, Calls Try.prog 21 #[.int .i64 (j : Nat)] W fun e w' => e = .returned (.int .i64 (wsT.getD j 0)) ∧ w' = W := fun j hj W => (weight_k j hj W).mono fun e w' h => ⟨h.1, h.2.symm⟩
  clear hL2
  generalize wsT = ws at *
  have HF := Lib.hid hfull
  clear hfull
  go_wp2
  go_loopw [5, 17] (fun s i wr => ∃ j : Nat, j ≤ 11 ∧ i = .int .i64 (j : Nat) ∧ s = .int .i64 (weighed 65535 (v :: h) 0 (ws.take j)) ∧ ∃ d, wr = W2.drewN d) (fun _ i _ => 11 - (intOf i).toNat)
  case atStart => exact ⟨0, by omega, rfl, by rw [hz], 0, rfl⟩
  case round =>
    obtain ⟨j, hj, rfl, rfl, d, hwd⟩ := hrel
    by_cases hjn : j < 11
    · obtain ⟨hb1, hb2⟩ := HBD.out j hjn
      have HS := Lib.hid (HST.out j hjn)
      have hbj := fun z => hbk j hjn (wr.drewN z) (by rw [hwd]; rfl)
      have d1 : wr.cell? ⟨y, 0, none⟩ = some (.pointer (some ⟨x, 0, none⟩)) := by rw [hwd]; exact d0
      have HWD := Lib.hid hwd
      clear hwd
      have hwj := hwt j hjn
      generalize ws.getD j 0 = a at *
      generalize cameT 65535 (v :: h) j = cv at *
      generalize weighed 65535 (v :: h) 0 (ws.take j) = s at *
      have hb3 : -9000000000 ≤ s + a * cv ∧ s + a * cv ≤ 9000000000 := by omega
      clear hsh hbk hwt
      go_wp2
      go_quiet ((first
        | (go_at_call 22; exact Calls.quiet_of (hbj _))
        | (go_at_call 21; exact Calls.quiet_of_same (hwj _))))
      go_wp2
      go_roundw
      case rel => exact ⟨j + 1, by omega, by go_num, by rw [HS.out], d + nq, by rw [HWD.out, World.drewN_drewN]⟩
      case measure => simp [intOf]; omega
    · obtain rfl : j = 11 := by omega
      subst hwd
      rw [HF.out]
      clear hbk hwt
      generalize sumT (v :: h) = s at *
      go_wp2_with (go_at_call 23; ((with_reducible refine (hsh _).mono ?_); rintro e w' ⟨rfl, rfl⟩))
      go_ret
      exact ⟨rfl, HN.out.kept ((Kept.refl [] W2).drewN d) (by simp) (by simp) (by simp) (by simp), hK3.drewN d⟩
end Go.Proofs.Ytnecdglokkljfaa.Low
