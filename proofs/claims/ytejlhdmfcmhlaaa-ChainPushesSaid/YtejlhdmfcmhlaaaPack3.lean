/- What the proofs stand on, part 3. -/
import Derived.Test.YtejlhdmfcmhlaaaPack2
import Derived.Test.YtejlhdmfcmhlaaaPack1
import Derived.Laws.MakeOwn
import Derived.Lib.Hide
import Derived.Deep.QuietTactic
import Derived.BigQuiet
import Derived.Laws.StructEq
section
/- The landed notch's other calls, and the kit. -/
set_option linter.unusedSimpArgs false
set_option linter.unusedVariables false
namespace Go.Proofs.Ytejlhdmfcmhlaaa.Notch
open Go.RowKit RI64
theorem weights_k {m : Nat} (hm : Known m) (w : World) :
    Calls Try.prog 33 #[.int .i64 (m : Nat)] w fun e w' => e = .returned (.tuple #[.slice (some ⟨w.heap.size, 0, none⟩) (weightsT m).length (weightsT m).length, .int .i64 (logT m : Nat)]) ∧ w' = w.alloc (.cells (vals (weightsT m)).toArray 2) := by
  rcases hm with rfl | rfl | rfl
  all_goals
    go_enter Try.func33, Try.ntmps33
    go_wp2
    go_ret2
    exact ⟨rfl, rfl⟩
theorem weights_no (m : Int) (w : World) (h : m ≠ 0 ∧ m ≠ 50 ∧ m ≠ 60) :
    Calls Try.prog 33 #[.int .i64 m] w fun e w' => e = .returned (.tuple #[.slice none 0 0, .int .i64 0]) ∧ w = w' := by
  have h1 : (m == 0) = false := by simp [h]
  have h2 : (m == 50) = false := by simp [h]
  have h3 : (m == 60) = false := by simp [h]
  go_enter Try.func33, Try.ntmps33
  go_wp2
  go_ret2
  exact ⟨rfl, rfl⟩
theorem new_no (m : Int) (w : World) (h : m ≠ 0 ∧ m ≠ 50 ∧ m ≠ 60) :
    Calls Try.prog 19 #[.int .i64 m] w fun e w' => e = .returned (.tuple #[.pointer none, .int .i64 1]) ∧ w = w' := by
  have hw := weights_no m w h
  go_enter Try.func19, Try.ntmps19
  go_wp2_with (go_at_call 33; ((with_reducible refine hw.mono ?_); rintro e w1 ⟨rfl, rfl⟩))
  go_ret2
  exact ⟨rfl, rfl⟩
theorem new_k {m : Nat} (hm : Known m) (w : World) :
    Calls Try.prog 19 #[.int .i64 (m : Nat)] w fun e w' => e = .returned (.tuple #[.pointer (some ⟨w.heap.size + 4, 0, none⟩), .int .i64 0]) ∧
      (∃ n, NotchIs w' (w.heap.size + 4) w.heap.size (w.heap.size + 3) (w.heap.size + 2) (w.heap.size + 1) n m []) ∧ Below w.heap.size w w' := by
  have hw := weights_k hm w
  obtain ⟨h4, h1, h15, _⟩ := weights_few hm
  have hln := line_new_yes ((weightsT m).length - 1) (w.alloc (.cells (vals (weightsT m)).toArray 2)) (by omega)
  rw [show (w.alloc (.cells (vals (weightsT m)).toArray 2)).heap.size = w.heap.size + 1 by simp] at hln
  have hH := Has.new w 2 (vals (weightsT m)).toArray
  have hB0 := (Below.refl w.heap.size w).alloc (Nat.le_refl _) (.cells (vals (weightsT m)).toArray 2)
  have hz0 : (w.alloc (.cells (vals (weightsT m)).toArray 2)).heap.size = w.heap.size + 1 := by simp
  have hpos : ((weightsT m).length : Int) - 1 = (((weightsT m).length - 1 : Nat) : Int) := by omega
  have hlen0 : (((weightsT m).length : Int) == 0) = false := beq_eq_false_iff_ne.2 (by omega)
  go_enter Try.func19, Try.ntmps19
  go_wp2_with (first
    | (go_at_call 33; ((with_reducible refine hw.mono ?_); rintro e w1 ⟨rfl, rfl⟩))
    | (go_at_call 34; ((with_reducible refine hln.mono ?_); rintro e w2 ⟨rfl, ⟨n, hL⟩, hB, hz⟩)))
  go_ret2
  have hB2 := hB0.trans (hB.mono (by omega))
  refine ⟨by first | rfl | simp [hz], ⟨n, ?_, ?_, by exact hL.alloc _, hm, by omega⟩, hB2.alloc hB2.size _⟩
  · have h9 := Has.new w2 75 #[.pointer (some ⟨w.heap.size + 3, 0, none⟩), .int .i64 m, .slice (some ⟨w.heap.size, 0, none⟩) (weightsT m).length (weightsT m).length, .int .i64 (logT m : Nat)]
    rw [hz] at h9
    exact h9
  · exact (hH.below hB (by omega)).alloc _
theorem reset_k (m y q x b g n : Nat) (h : List Int) (w : World) (L : NotchIs w y q x b g n m h) :
    Calls Try.prog 42 #[.pointer (some ⟨y, 0, none⟩)] w fun e w' => e = .returned (.tuple #[]) ∧ NotchIs w' y q x b g n m [] ∧ Kept [b, g] w w' := by
  obtain ⟨c0, c1, c2, c3⟩ := L.cells
  have hr := line_reset x b g n _ _ w L.line
  go_enter Try.func42, Try.ntmps42
  go_wp2_with (go_at_call 56; ((with_reducible refine hr.mono ?_); rintro e w1 ⟨rfl, hL, hK⟩))
  go_end0
  exact ⟨rfl, L.turned (h' := []) hL hK, hK⟩
theorem no_push (v : Int) (w : World) : Calls Try.prog 49 #[.pointer none, .int .i64 v] w fun e w' => e = .returned (.int .i64 0) ∧ w = w' := by
  go_enter Try.func49, Try.ntmps49
  go_wp2
  go_ret
  exact ⟨rfl, rfl⟩
theorem no_reset (w : World) : Calls Try.prog 42 #[.pointer none] w fun e w' => e = .returned (.tuple #[]) ∧ w = w' := by
  go_enter Try.func42, Try.ntmps42
  go_wp2
  exact bodyPost_ret (results_none rfl _ _ _) rfl ⟨rfl, rfl⟩
theorem fil_lt {m : Nat} {w : World} {b : Nat} {S : List Nat} {h : List Int} (hF : Fil m w b S h) : ∀ k ∈ S, k < w.heap.size := by
  obtain ⟨q, x, b', g, n, rfl, L⟩ := hF
  intro k hk
  have := L.lt_
  simp at hk
  omega
theorem fil_kept {m : Nat} {w w' : World} {b : Nat} {S T : List Nat} {h : List Int} (hF : Fil m w b S h) (hK : Kept T w w') (hd : ∀ k ∈ S, k ∉ T) : Fil m w' b S h := by
  obtain ⟨q, x, b', g, n, rfl, L⟩ := hF
  exact ⟨q, x, b', g, n, rfl, L.kept hK (hd _ (by simp)) (hd _ (by simp)) (hd _ (by simp)) (hd _ (by simp)) (hd _ (by simp))⟩
theorem push_any {m : Nat} (b : Nat) (S : List Nat) (h : List Int) (v : Int) (w : World) (hF : Fil m w b S h) :
    Calls Try.prog 49 #[.pointer (some ⟨b, 0, none⟩), .int .i64 v] w fun e w' => e = .returned (.int .i64 (notchT m (v :: h))) ∧ Fil m w' b S (v :: h) ∧ Kept S w w' := by
  obtain ⟨q, x, b', g, n, rfl, L⟩ := hF
  exact (push_k m b q x b' g n h v w L).mono fun e w' ⟨h1, h2, h3⟩ => ⟨h1, ⟨q, x, b', g, n, rfl, h2⟩, h3.wide (fun k hk _ => by simp at hk; rcases hk with rfl | rfl <;> simp)⟩
/-- What the landed notch answers, as a filter by its Push and Reset alone. -/
def core (m : Nat) : FilterCore 49 42 (notchT m) where
  Fil := Fil m
  lt := fil_lt
  kept := fil_kept
  push_any := push_any
  reset_any := fun b S h w hF => by
    obtain ⟨q, x, b', g, n, rfl, L⟩ := hF
    exact (reset_k m b q x b' g n h w L).mono fun e w' ⟨h1, h2, h3⟩ => ⟨h1, ⟨q, x, b', g, n, rfl, h2⟩, h3.wide (fun k hk _ => by simp at hk; rcases hk with rfl | rfl <;> simp)⟩
theorem new_core {m : Nat} (hm : Known m) (w : World) :
    Calls Try.prog 19 #[.int .i64 (m : Nat)] w fun e w' => ∃ b S, e = .returned (.tuple #[.pointer (some ⟨b, 0, none⟩), .int .i64 0]) ∧ NewIs (core m).Fil w b S w' :=
  (new_k hm w).mono fun e w' ⟨h1, ⟨n, h2⟩, h3⟩ => ⟨_, _, h1, ⟨_, _, _, _, n, rfl, h2⟩, (fun k hk => by simp at hk; omega), h3⟩
end Go.Proofs.Ytejlhdmfcmhlaaa.Notch
end
section
/- The landed low filter: what its memory holds, and what its Push answers and does. -/
set_option linter.unusedSimpArgs false
set_option linter.unusedVariables false
namespace Go.Proofs.Ytejlhdmfcmhlaaa.Low
open Go.RowKit RI64
/-- Block y is a low filter's struct: over a line at x (its ring at b and g, n slots). -/
structure LowIs (w : World) (y x b g n : Nat) (h : List Int) : Prop where
  head : Has w y 77 #[.pointer (some ⟨x, 0, none⟩)]
  line : Line w x b g n 10 (h.map (nearTo 65535))
  ne_ : y ≠ x ∧ y ≠ b ∧ y ≠ g
section
variable {w w' : World} {y x b g n : Nat} {h : List Int}
theorem LowIs.kept {S : List Nat} (L : LowIs w y x b g n h) (hk : Kept S w w') (h1 : y ∉ S) (h3 : x ∉ S) (h4 : b ∉ S) (h5 : g ∉ S) : LowIs w' y x b g n h := ⟨hk.has L.head h1, L.line.kept hk h3 h4 h5, L.ne_⟩
theorem LowIs.lt_ (L : LowIs w y x b g n h) : y < w.heap.size ∧ x < w.heap.size ∧ b < w.heap.size ∧ g < w.heap.size := ⟨L.head.lt, L.line.lt_⟩
theorem LowIs.cell (L : LowIs w y x b g n h) : w.cell? ⟨y, 0, none⟩ = some (.pointer (some ⟨x, 0, none⟩)) := L.head.cell 0
end
def Fil (w : World) (y : Nat) (S : List Nat) (h : List Int) : Prop := ∃ x b g n, S = [y, x, b, g] ∧ LowIs w y x b g n h
/-- Behind a Push of the line: the filter is as it was, but for what came. -/
theorem LowIs.turned {w w' : World} {y x b g n : Nat} {h h' : List Int} (L : LowIs w y x b g n h) (hL : Line w' x b g n 10 (h'.map (nearTo 65535))) (hK : Kept [b, g] w w') : LowIs w' y x b g n h' :=
  ⟨hK.has L.head (by have := L.ne_; simp; omega), hL, L.ne_⟩
theorem weight_k (j : Nat) (hj : j < 11) (w : World) :
    Calls Try.prog 62 #[.int .i64 (j : Nat)] w fun e w' => e = .returned (.int .i64 (wsT.getD j 0)) ∧ w = w' := by
  have hb : 0 ≤ (j : Int) ∧ (j : Int) ≤ 10 := by omega
  have hmin : (if 11 - (j : Int) < (j : Int) + 1 then 11 - (j : Int) else (j : Int) + 1) = wsT.getD j 0 := by
    rw [ws_at j hj]
    split <;> split <;> omega
  go_enter Try.func62, Try.ntmps62
  go_wp2
  go_ret
  exact ⟨rfl, rfl⟩
set_option maxHeartbeats 1000000 in
theorem push_k (y x b g n : Nat) (h : List Int) (v : Int) (w : World) (L : LowIs w y x b g n h) :
    Calls Try.prog 48 #[.pointer (some ⟨y, 0, none⟩), .int .i64 v] w fun e w' => e = .returned (.int .i64 (lowT (v :: h))) ∧ LowIs w' y x b g n (v :: h) ∧ Kept [b, g] w w' := by
  have c0 := L.cell
  have hcl := clamp_any v (-65535) 65535
  rw [nearTo_clamp 65535 v (by omega)] at hcl
  have hpu := fun (A : Option Addr) W (hW : Line W x b g n 10 (h.map (nearTo 65535))) (hv : Vals W A 1 [nearTo 65535 v]) hf => line_push x b g n _ _ A 1 1 [nearTo 65535 v] W hW hv (by omega) (by omega) hf
  rw [show [nearTo 65535 v].reverse ++ h.map (nearTo 65535) = (v :: h).map (nearTo 65535) from rfl] at hpu
  have hV1 : Vals (w.alloc (.cells #[.int .i64 (nearTo 65535 v)] 2)).drew (some ⟨w.heap.size, 0, none⟩) 1 [nearTo 65535 v] := Vals.same (Vals.has (ys := [nearTo 65535 v]) (tl := []) (Has.new w 2 _)) rfl
  have hpc := hpu (some ⟨w.heap.size, 0, none⟩) (w.alloc (.cells #[.int .i64 (nearTo 65535 v)] 2)).drew ((L.line.alloc (.cells #[.int .i64 (nearTo 65535 v)] 2)).same rfl) hV1 (fun _ z hz => by cases hz; have := L.lt_; simp; omega)
  clear hpu hV1
  go_enter Try.func48, Try.ntmps48
  go_wp2
  refine Reg.begin_ (S := fun W => W.cell? ⟨y, 0, none⟩ = some (.pointer (some ⟨x, 0, none⟩))) (by kernel_rfl) (by exact c0) (fun hHeld => ?_)
  refine Reg.take (i := 0) (v := ?v1) rfl (by kernel_rfl) (by kernel_rfl) (by kernel_rfl) (by rfl) ?hv1 (by assumption) ?rest1
  case hv1 => first | (intro w hSw; (try dsimp only at hSw); go_simp; done) | (intro w hSw; (try dsimp only at hSw); go_simp; with_reducible rfl)
  (try simp only [Act.put, List.setIfInBounds_toArray, List.set_cons_zero, List.set_cons_succ])
  refine Reg.take (i := 1) (v := ?v2) rfl (by kernel_rfl) (by kernel_rfl) (by kernel_rfl) (by rfl) ?hv2 (by assumption) ?rest2
  case hv2 => first | (intro w hSw; (try dsimp only at hSw); go_simp; done) | (intro w hSw; (try dsimp only at hSw); go_simp; with_reducible rfl)
  (try simp only [Act.put, List.setIfInBounds_toArray, List.set_cons_zero, List.set_cons_succ])
  refine Reg.take (i := 2) (v := ?v3) rfl (by kernel_rfl) (by kernel_rfl) (by kernel_rfl) (by rfl) ?hv3 (by assumption) ?rest3
  case hv3 => first | (intro w hSw; (try dsimp only at hSw); go_simp; done) | (intro w hSw; (try dsimp only at hSw); go_simp; with_reducible rfl)
  (try simp only [Act.put, List.setIfInBounds_toArray, List.set_cons_zero, List.set_cons_succ])
  refine Reg.take (i := 3) (v := ?v4) rfl (by kernel_rfl) (by kernel_rfl) (by kernel_rfl) (by rfl) ?hv4 (by assumption) ?rest4
  case hv4 => first | (intro w hSw; (try dsimp only at hSw); go_simp; done) | (intro w hSw; (try dsimp only at hSw); go_simp; with_reducible rfl)
  (try simp only [Act.put, List.setIfInBounds_toArray, List.set_cons_zero, List.set_cons_succ])
  refine Reg.take (i := 4) (v := ?v5) rfl (by kernel_rfl) (by kernel_rfl) (by kernel_rfl) (by rfl) ?hv5 (by assumption) ?rest5
  case hv5 => first | (intro w hSw; (try dsimp only at hSw); go_simp; done) | (intro w hSw; (try dsimp only at hSw); go_simp; with_reducible rfl)
  (try simp only [Act.put, List.setIfInBounds_toArray, List.set_cons_zero, List.set_cons_succ])
  refine Reg.call (i := 5) rfl (by kernel_rfl) (by rfl) ?_
  intro K1 hK1
  go_simp
  go_at_call 31
  (with_reducible refine (hcl _).mono ?_)
  rintro e W1 ⟨rfl, rfl⟩
  refine hK1.out _ _ (by exact c0) (fun hHeld => ?_)
  clear hK1 K1
  (try simp only [Act.put, List.setIfInBounds_toArray, List.set_cons_zero, List.set_cons_succ])
  refine Reg.call (i := 6) rfl (by kernel_rfl) (by rfl) ?_
  intro K1 hK1
  go_simp
  refine hK1.out _ _ (by exact (L.head.alloc _).cell 0) (fun hHeld => ?_)
  clear hK1 K1
  (try simp only [Act.put, List.setIfInBounds_toArray, List.set_cons_zero, List.set_cons_succ])
  refine Reg.call (i := 7) rfl (by kernel_rfl) (by rfl) ?_
  intro K1 hK1
  go_simp
  go_at_call 61
  (with_reducible refine hpc.mono ?_)
  rintro e W2 ⟨rfl, hL2, hK2⟩
  have hK3 : Kept [b, g] w W2 := (((Kept.refl [b, g] w).alloc _).drewN 1).trans hK2
  have hN2 := L.turned hL2 hK3
  have d0 := hN2.cell
  refine hK1.out _ _ (by exact d0) (fun hHeld => ?_)
  clear hK1 K1
  (try simp only [Act.put, List.setIfInBounds_toArray, List.set_cons_zero, List.set_cons_succ])
  refine Reg.done (by kernel_rfl) ?_ _
  have hbd := fun j hj => partial_bd (v :: h) j hj
  have hbk : ∀ (k : Nat), k < 11 → ∀ W, W.heap = W2.heap → Calls Try.prog 63 #[.pointer (some ⟨x, 0, none⟩), .int .i64 (k : Nat)] W fun e w' => e = .returned (.int .i64 (cameT 65535 (v :: h) k)) ∧ ∃ z, w' = W.drewN z := fun k hk W hW => by
    have h9 := line_back x b g n _ _ (k : Int) W (hL2.same hW) (by omega)
    rwa [agoTo_in _ _ k (by omega), came_map 65535 _ k (by omega)] at h9
  have hst := fun j (hj : j < 11) => weighed_step 65535 (v :: h) wsT j hj
  have hsh := fun W => shift_any (sumT (v :: h)) 5 W (by omega)
  rw [show sumT (v :: h) / 2 ^ min ((5 : Int)).toNat 64 = lowT (v :: h) from rfl] at hsh
  have hz : weighed 65535 (v :: h) 0 (wsT.take 0) = 0 := rfl
  have hfull : weighed 65535 (v :: h) 0 (wsT.take 11) = sumT (v :: h) := rfl
  have HBD := Lib.hid hbd
  have HST := Lib.hid hst
  have HN := Lib.hid hN2
  clear c0 hcl hpc hbd hst L hN2 hK2
  have hwt : ∀ j, j < 11 → ∀ W, Calls Try.prog 62 #[.int .i64 (j : Nat)] W fun e w' => e = .returned (.int .i64 (wsT.getD j 0)) ∧ w' = W := fun j hj W => (weight_k j hj W).mono fun e w' h => ⟨h.1, h.2.symm⟩
  clear hL2
  generalize wsT = ws at *
  have HF := Lib.hid hfull
  clear hfull
  go_wp2
  go_loopw [5, 17] (fun s i wr => ∃ j : Nat, j ≤ 11 ∧ i = .int .i64 (j : Nat) ∧ s = .int .i64 (weighed 65535 (v :: h) 0 (ws.take j)) ∧ ∃ d, wr = W2.drewN d) (fun _ i _ => 11 - (intOf i).toNat)
  case atStart => exact ⟨0, by omega, rfl, by rw [hz], 0, rfl⟩
  case round =>
    obtain ⟨j, hj, rfl, rfl, d, hwd⟩ := hrel
    by_cases hjn : j < 11
    · obtain ⟨hb1, hb2⟩ := HBD.out j hjn
      have HS := Lib.hid (HST.out j hjn)
      have hbj := fun z => hbk j hjn (wr.drewN z) (by rw [hwd]; rfl)
      have d1 : wr.cell? ⟨y, 0, none⟩ = some (.pointer (some ⟨x, 0, none⟩)) := by rw [hwd]; exact d0
      have HWD := Lib.hid hwd
      clear hwd
      have hwj := hwt j hjn
      generalize ws.getD j 0 = a at *
      generalize cameT 65535 (v :: h) j = cv at *
      generalize weighed 65535 (v :: h) 0 (ws.take j) = s at *
      have hb3 : -9000000000 ≤ s + a * cv ∧ s + a * cv ≤ 9000000000 := by omega
      clear hsh hbk hwt
      go_wp2
      go_quiet ((first
        | (go_at_call 63; exact Calls.quiet_of (hbj _))
        | (go_at_call 62; exact Calls.quiet_of_same (hwj _))))
      go_wp2
      go_roundw
      case rel => exact ⟨j + 1, by omega, by go_num, by rw [HS.out], d + nq, by rw [HWD.out, World.drewN_drewN]⟩
      case measure => simp [intOf]; omega
    · obtain rfl : j = 11 := by omega
      subst hwd
      rw [HF.out]
      clear hbk hwt
      generalize sumT (v :: h) = s at *
      go_wp2_with (go_at_call 59; ((with_reducible refine (hsh _).mono ?_); rintro e w' ⟨rfl, rfl⟩))
      go_ret
      exact ⟨rfl, HN.out.kept ((Kept.refl [] W2).drewN d) (by simp) (by simp) (by simp) (by simp), hK3.drewN d⟩
end Go.Proofs.Ytejlhdmfcmhlaaa.Low
end
section
/- The landed low filter's other calls, and the kit. -/
set_option linter.unusedSimpArgs false
set_option linter.unusedVariables false
namespace Go.Proofs.Ytejlhdmfcmhlaaa.Low
open Go.RowKit RI64
theorem new_k (w : World) :
    Calls Try.prog 20 #[] w fun e w' => e = .returned (.pointer (some ⟨w.heap.size + 3, 0, none⟩)) ∧
      (∃ n, LowIs w' (w.heap.size + 3) (w.heap.size + 2) (w.heap.size + 1) w.heap.size n []) ∧ Below w.heap.size w w' := by
  have hln := line_new_yes 10 w (by omega)
  rw [show ((10 : Nat) : Int) = 10 from rfl] at hln
  go_enter Try.func20, Try.ntmps20
  go_wp2_with (go_at_call 34; ((with_reducible refine hln.mono ?_); rintro e w2 ⟨rfl, ⟨n, hL⟩, hB, hz⟩))
  go_ret
  refine ⟨by first | rfl | simp [hz], ⟨n, ?_, by exact hL.alloc _, by omega⟩, hB.alloc hB.size _⟩
  have h9 := Has.new w2 77 #[.pointer (some ⟨w.heap.size + 2, 0, none⟩)]
  rw [hz] at h9
  exact h9
theorem reset_k (y x b g n : Nat) (h : List Int) (w : World) (L : LowIs w y x b g n h) :
    Calls Try.prog 43 #[.pointer (some ⟨y, 0, none⟩)] w fun e w' => e = .returned (.tuple #[]) ∧ LowIs w' y x b g n [] ∧ Kept [b, g] w w' := by
  have c0 := L.cell
  have hr := line_reset x b g n _ _ w L.line
  go_enter Try.func43, Try.ntmps43
  go_wp2_with (go_at_call 56; ((with_reducible refine hr.mono ?_); rintro e w1 ⟨rfl, hL, hK⟩))
  go_end0
  exact ⟨rfl, L.turned (h' := []) hL hK, hK⟩
theorem no_push (v : Int) (w : World) : Calls Try.prog 48 #[.pointer none, .int .i64 v] w fun e w' => e = .returned (.int .i64 0) ∧ w = w' := by
  go_enter Try.func48, Try.ntmps48
  go_wp2
  go_ret
  exact ⟨rfl, rfl⟩
theorem no_reset (w : World) : Calls Try.prog 43 #[.pointer none] w fun e w' => e = .returned (.tuple #[]) ∧ w = w' := by
  go_enter Try.func43, Try.ntmps43
  go_wp2
  exact bodyPost_ret (results_none rfl _ _ _) rfl ⟨rfl, rfl⟩
theorem fil_lt {w : World} {b : Nat} {S : List Nat} {h : List Int} (hF : Fil w b S h) : ∀ k ∈ S, k < w.heap.size := by
  obtain ⟨x, b', g, n, rfl, L⟩ := hF
  intro k hk
  have := L.lt_
  simp at hk
  omega
theorem fil_kept {w w' : World} {b : Nat} {S T : List Nat} {h : List Int} (hF : Fil w b S h) (hK : Kept T w w') (hd : ∀ k ∈ S, k ∉ T) : Fil w' b S h := by
  obtain ⟨x, b', g, n, rfl, L⟩ := hF
  exact ⟨x, b', g, n, rfl, L.kept hK (hd _ (by simp)) (hd _ (by simp)) (hd _ (by simp)) (hd _ (by simp))⟩
theorem push_any (b : Nat) (S : List Nat) (h : List Int) (v : Int) (w : World) (hF : Fil w b S h) :
    Calls Try.prog 48 #[.pointer (some ⟨b, 0, none⟩), .int .i64 v] w fun e w' => e = .returned (.int .i64 (lowT (v :: h))) ∧ Fil w' b S (v :: h) ∧ Kept S w w' := by
  obtain ⟨x, b', g, n, rfl, L⟩ := hF
  exact (push_k b x b' g n h v w L).mono fun e w' ⟨h1, h2, h3⟩ => ⟨h1, ⟨x, b', g, n, rfl, h2⟩, h3.wide (fun k hk _ => by simp at hk; rcases hk with rfl | rfl <;> simp)⟩
/-- What the landed low filter answers, as a filter by its Push and Reset alone. -/
def core : FilterCore 48 43 lowT where
  Fil := Fil
  lt := fil_lt
  kept := fil_kept
  push_any := push_any
  reset_any := fun b S h w hF => by
    obtain ⟨x, b', g, n, rfl, L⟩ := hF
    exact (reset_k b x b' g n h w L).mono fun e w' ⟨h1, h2, h3⟩ => ⟨h1, ⟨x, b', g, n, rfl, h2⟩, h3.wide (fun k hk _ => by simp at hk; rcases hk with rfl | rfl <;> simp)⟩
theorem new_core (w : World) :
    Calls Try.prog 20 #[] w fun e w' => ∃ b S, e = .returned (.pointer (some ⟨b, 0, none⟩)) ∧ NewIs core.Fil w b S w' :=
  (new_k w).mono fun e w' ⟨h1, ⟨n, h2⟩, h3⟩ => ⟨_, _, h1, ⟨_, _, _, n, rfl, h2⟩, (fun k hk => by simp at hk; omega), h3⟩
end Go.Proofs.Ytejlhdmfcmhlaaa.Low
end
section
/- The landed high filter: what its memory holds, and what its Push answers and does. -/
set_option linter.unusedSimpArgs false
set_option linter.unusedVariables false
namespace Go.Proofs.Ytejlhdmfcmhlaaa.High
open Go.RowKit RI64
/-- Block y is a high filter's struct: over a window at z (its line at x, its ring at b and g, n slots). -/
structure HighIs (w : World) (y z x b g n : Nat) (h : List Int) : Prop where
  head : Has w y 82 #[.pointer (some ⟨z, 0, none⟩)]
  win : Window w z x b g n 31 (h.map (nearTo 73727))
  ne_ : y ≠ z ∧ y ≠ x ∧ y ≠ b ∧ y ≠ g
section
variable {w w' : World} {y z x b g n : Nat} {h : List Int}
theorem HighIs.kept {S : List Nat} (L : HighIs w y z x b g n h) (hk : Kept S w w') (h1 : y ∉ S) (h2 : z ∉ S) (h3 : x ∉ S) (h4 : b ∉ S) (h5 : g ∉ S) : HighIs w' y z x b g n h := ⟨hk.has L.head h1, L.win.kept hk h2 h3 h4 h5, L.ne_⟩
theorem HighIs.lt_ (L : HighIs w y z x b g n h) : y < w.heap.size ∧ z < w.heap.size ∧ x < w.heap.size ∧ b < w.heap.size ∧ g < w.heap.size := ⟨L.head.lt, L.win.lt_⟩
theorem HighIs.cell (L : HighIs w y z x b g n h) : w.cell? ⟨y, 0, none⟩ = some (.pointer (some ⟨z, 0, none⟩)) := L.head.cell 0
end
def Fil (w : World) (y : Nat) (S : List Nat) (h : List Int) : Prop := ∃ z x b g n, S = [y, z, x, b, g] ∧ HighIs w y z x b g n h
/-- Behind a call of the window: the filter is as it was, but for what came. -/
theorem HighIs.turned {w w' : World} {y z x b g n : Nat} {h h' : List Int} (L : HighIs w y z x b g n h) (hL : Window w' z x b g n 31 (h'.map (nearTo 73727))) (hK : Kept [z, b, g] w w') : HighIs w' y z x b g n h' :=
  ⟨hK.has L.head (by have := L.ne_; simp; omega), hL, L.ne_⟩
set_option maxHeartbeats 1000000 in
theorem push_k (y z x b g n : Nat) (h : List Int) (v : Int) (w : World) (L : HighIs w y z x b g n h) :
    Calls Try.prog 47 #[.pointer (some ⟨y, 0, none⟩), .int .i64 v] w fun e w' => e = .returned (.int .i64 (highT (v :: h))) ∧ HighIs w' y z x b g n (v :: h) ∧ Kept [z, b, g] w w' := by
  have c0 := L.cell
  have hcl := clamp_any v (-73727) 73727
  rw [nearTo_clamp 73727 v (by omega)] at hcl
  have hpc := window_push z x b g n 31 (h.map (nearTo 73727)) (nearTo 73727 v) w.drew (L.win.same rfl)
  unfold WindowBecame at hpc
  rw [show nearTo 73727 v :: h.map (nearTo 73727) = (v :: h).map (nearTo 73727) from rfl, sum_wrap] at hpc
  go_enter Try.func47, Try.ntmps47
  go_wp2
  refine Reg.begin_ (S := fun W => W.cell? ⟨y, 0, none⟩ = some (.pointer (some ⟨z, 0, none⟩))) (by kernel_rfl) (by exact c0) (fun hHeld => ?_)
  refine Reg.take (i := 0) (v := ?v1) rfl (by kernel_rfl) (by kernel_rfl) (by kernel_rfl) (by rfl) ?hv1 (by assumption) ?rest1
  case hv1 => first | (intro w hSw; (try dsimp only at hSw); go_simp; done) | (intro w hSw; (try dsimp only at hSw); go_simp; with_reducible rfl)
  (try simp only [Act.put, List.setIfInBounds_toArray, List.set_cons_zero, List.set_cons_succ])
  refine Reg.take (i := 1) (v := ?v2) rfl (by kernel_rfl) (by kernel_rfl) (by kernel_rfl) (by rfl) ?hv2 (by assumption) ?rest2
  case hv2 => first | (intro w hSw; (try dsimp only at hSw); go_simp; done) | (intro w hSw; (try dsimp only at hSw); go_simp; with_reducible rfl)
  (try simp only [Act.put, List.setIfInBounds_toArray, List.set_cons_zero, List.set_cons_succ])
  refine Reg.take (i := 2) (v := ?v3) rfl (by kernel_rfl) (by kernel_rfl) (by kernel_rfl) (by rfl) ?hv3 (by assumption) ?rest3
  case hv3 => first | (intro w hSw; (try dsimp only at hSw); go_simp; done) | (intro w hSw; (try dsimp only at hSw); go_simp; with_reducible rfl)
  (try simp only [Act.put, List.setIfInBounds_toArray, List.set_cons_zero, List.set_cons_succ])
  refine Reg.take (i := 3) (v := ?v4) rfl (by kernel_rfl) (by kernel_rfl) (by kernel_rfl) (by rfl) ?hv4 (by assumption) ?rest4
  case hv4 => first | (intro w hSw; (try dsimp only at hSw); go_simp; done) | (intro w hSw; (try dsimp only at hSw); go_simp; with_reducible rfl)
  (try simp only [Act.put, List.setIfInBounds_toArray, List.set_cons_zero, List.set_cons_succ])
  refine Reg.take (i := 4) (v := ?v5) rfl (by kernel_rfl) (by kernel_rfl) (by kernel_rfl) (by rfl) ?hv5 (by assumption) ?rest5
  case hv5 => first | (intro w hSw; (try dsimp only at hSw); go_simp; done) | (intro w hSw; (try dsimp only at hSw); go_simp; with_reducible rfl)
  (try simp only [Act.put, List.setIfInBounds_toArray, List.set_cons_zero, List.set_cons_succ])
  refine Reg.call (i := 5) rfl (by kernel_rfl) (by rfl) ?_
  intro K1 hK1
  go_simp
  go_at_call 31
  (with_reducible refine (hcl _).mono ?_)
  rintro e W1 ⟨rfl, rfl⟩
  refine hK1.out _ _ (by exact c0) (fun hHeld => ?_)
  clear hK1 K1
  (try simp only [Act.put, List.setIfInBounds_toArray, List.set_cons_zero, List.set_cons_succ])
  refine Reg.call (i := 6) rfl (by kernel_rfl) (by rfl) ?_
  intro K1 hK1
  go_simp
  go_at_call 58
  (with_reducible refine hpc.mono ?_)
  rintro e W2 ⟨rfl, hL2, hK2⟩
  have hK3 : Kept [z, b, g] w W2 := ((Kept.refl [z, b, g] w).drewN 1).trans hK2
  have hN2 := L.turned hL2 hK3
  have d0 := hN2.cell
  refine hK1.out _ _ (by exact d0) (fun hHeld => ?_)
  clear hK1 K1
  (try simp only [Act.put, List.setIfInBounds_toArray, List.set_cons_zero, List.set_cons_succ])
  refine Reg.take (i := 7) (v := ?v6) rfl (by kernel_rfl) (by kernel_rfl) (by kernel_rfl) (by rfl) ?hv6 (by assumption) ?rest6
  case hv6 => first | (intro w hSw; (try dsimp only at hSw); go_simp; done) | (intro w hSw; (try dsimp only at hSw); go_simp; with_reducible rfl)
  (try simp only [Act.put, List.setIfInBounds_toArray, List.set_cons_zero, List.set_cons_succ])
  refine Reg.done (by kernel_rfl) ?_ _
  have hbk := window_back z x b g n 31 _ 16 W2 hL2 (by omega)
  rw [show (16 : Int) = ((16 : Nat) : Int) from rfl, agoTo_in _ _ 16 (by omega), came_map 73727 _ 16 (by omega), show ((16 : Nat) : Int) = 16 from rfl] at hbk
  have hwb := whole_bd (v :: h)
  have hsh := fun W => shift_any (wholeT (v :: h)) 5 W (by omega)
  rw [show wholeT (v :: h) / 2 ^ min ((5 : Int)).toNat 64 = highT (v :: h) from rfl] at hsh
  have hc := came_high (v :: h) 16
  have hs := sum_bd (v :: h) 32 (by omega)
  unfold wholeT at hsh hwb
  have HN := Lib.hid hN2
  clear c0 hcl hpc L hN2 hK2 hL2
  generalize sumT (v :: h) 32 = s at *
  generalize cameT 73727 (v :: h) 16 = cv at *
  go_wp2_with (first
    | (go_at_call 60; ((with_reducible refine hbk.mono ?_); rintro e W3 ⟨rfl, d, rfl⟩))
    | (go_at_call 59; ((with_reducible refine (hsh _).mono ?_); rintro e w' ⟨rfl, rfl⟩)))
  go_ret
  exact ⟨rfl, HN.out.kept ((Kept.refl [] W2).drewN d) (by simp) (by simp) (by simp) (by simp) (by simp), hK3.drewN d⟩
end Go.Proofs.Ytejlhdmfcmhlaaa.High
end
section
/- The landed high filter's other calls, and the kit. -/
set_option linter.unusedSimpArgs false
set_option linter.unusedVariables false
namespace Go.Proofs.Ytejlhdmfcmhlaaa.High
open Go.RowKit RI64
theorem new_k (w : World) :
    Calls Try.prog 21 #[] w fun e w' => e = .returned (.pointer (some ⟨w.heap.size + 4, 0, none⟩)) ∧
      (∃ n, HighIs w' (w.heap.size + 4) (w.heap.size + 3) (w.heap.size + 2) (w.heap.size + 1) w.heap.size n []) ∧ Below w.heap.size w w' := by
  have hln := window_of_yes 31 w (by omega)
  rw [show ((31 : Nat) : Int) + 1 = 32 from rfl] at hln
  go_enter Try.func21, Try.ntmps21
  go_wp2_with (go_at_call 35; ((with_reducible refine hln.mono ?_); rintro e w2 ⟨rfl, ⟨n, hL⟩, hB, hz⟩))
  go_ret
  refine ⟨by first | rfl | simp [hz], ⟨n, ?_, by exact hL.alloc _, by omega⟩, hB.alloc hB.size _⟩
  have h9 := Has.new w2 82 #[.pointer (some ⟨w.heap.size + 3, 0, none⟩)]
  rw [hz] at h9
  exact h9
theorem reset_k (y z x b g n : Nat) (h : List Int) (w : World) (L : HighIs w y z x b g n h) :
    Calls Try.prog 44 #[.pointer (some ⟨y, 0, none⟩)] w fun e w' => e = .returned (.tuple #[]) ∧ HighIs w' y z x b g n [] ∧ Kept [z, b, g] w w' := by
  have c0 := L.cell
  have hr := window_reset z x b g n 31 _ w L.win
  go_enter Try.func44, Try.ntmps44
  go_wp2_with (go_at_call 57; ((with_reducible refine hr.mono ?_); rintro e w1 ⟨rfl, hL, hK⟩))
  go_end0
  exact ⟨rfl, L.turned (h' := []) hL hK, hK⟩
theorem no_push (v : Int) (w : World) : Calls Try.prog 47 #[.pointer none, .int .i64 v] w fun e w' => e = .returned (.int .i64 0) ∧ w = w' := by
  go_enter Try.func47, Try.ntmps47
  go_wp2
  go_ret
  exact ⟨rfl, rfl⟩
theorem no_reset (w : World) : Calls Try.prog 44 #[.pointer none] w fun e w' => e = .returned (.tuple #[]) ∧ w = w' := by
  go_enter Try.func44, Try.ntmps44
  go_wp2
  exact bodyPost_ret (results_none rfl _ _ _) rfl ⟨rfl, rfl⟩
theorem fil_lt {w : World} {b : Nat} {S : List Nat} {h : List Int} (hF : Fil w b S h) : ∀ k ∈ S, k < w.heap.size := by
  obtain ⟨z, x, b', g, n, rfl, L⟩ := hF
  intro k hk
  have := L.lt_
  simp at hk
  omega
theorem fil_kept {w w' : World} {b : Nat} {S T : List Nat} {h : List Int} (hF : Fil w b S h) (hK : Kept T w w') (hd : ∀ k ∈ S, k ∉ T) : Fil w' b S h := by
  obtain ⟨z, x, b', g, n, rfl, L⟩ := hF
  exact ⟨z, x, b', g, n, rfl, L.kept hK (hd _ (by simp)) (hd _ (by simp)) (hd _ (by simp)) (hd _ (by simp)) (hd _ (by simp))⟩
theorem push_any (b : Nat) (S : List Nat) (h : List Int) (v : Int) (w : World) (hF : Fil w b S h) :
    Calls Try.prog 47 #[.pointer (some ⟨b, 0, none⟩), .int .i64 v] w fun e w' => e = .returned (.int .i64 (highT (v :: h))) ∧ Fil w' b S (v :: h) ∧ Kept S w w' := by
  obtain ⟨z, x, b', g, n, rfl, L⟩ := hF
  exact (push_k b z x b' g n h v w L).mono fun e w' ⟨h1, h2, h3⟩ => ⟨h1, ⟨z, x, b', g, n, rfl, h2⟩, h3.wide (fun k hk _ => by simp at hk; rcases hk with rfl | rfl | rfl <;> simp)⟩
/-- What the landed high filter answers, as a filter by its Push and Reset alone. -/
def core : FilterCore 47 44 highT where
  Fil := Fil
  lt := fil_lt
  kept := fil_kept
  push_any := push_any
  reset_any := fun b S h w hF => by
    obtain ⟨z, x, b', g, n, rfl, L⟩ := hF
    exact (reset_k b z x b' g n h w L).mono fun e w' ⟨h1, h2, h3⟩ => ⟨h1, ⟨z, x, b', g, n, rfl, h2⟩, h3.wide (fun k hk _ => by simp at hk; rcases hk with rfl | rfl | rfl <;> simp)⟩
theorem new_core (w : World) :
    Calls Try.prog 21 #[] w fun e w' => ∃ b S, e = .returned (.pointer (some ⟨b, 0, none⟩)) ∧ NewIs core.Fil w b S w' :=
  (new_k w).mono fun e w' ⟨h1, ⟨n, h2⟩, h3⟩ => ⟨_, _, h1, ⟨_, _, _, _, n, rfl, h2⟩, (fun k hk => by simp at hk; omega), h3⟩
end Go.Proofs.Ytejlhdmfcmhlaaa.High
end
section
/- The landed slope filter: what its memory holds, and what its Push answers and does. -/
set_option linter.unusedSimpArgs false
set_option linter.unusedVariables false
namespace Go.Proofs.Ytejlhdmfcmhlaaa.Slope
open Go.RowKit RI64
/-- Block y is a slope filter's struct: over a line at x (its ring at b and g, n slots). -/
structure SlopeIs (w : World) (y x b g n : Nat) (h : List Int) : Prop where
  head : Has w y 83 #[.pointer (some ⟨x, 0, none⟩)]
  line : Line w x b g n 4 (h.map (nearTo 142847))
  ne_ : y ≠ x ∧ y ≠ b ∧ y ≠ g
section
variable {w w' : World} {y x b g n : Nat} {h : List Int}
theorem SlopeIs.kept {S : List Nat} (L : SlopeIs w y x b g n h) (hk : Kept S w w') (h1 : y ∉ S) (h3 : x ∉ S) (h4 : b ∉ S) (h5 : g ∉ S) : SlopeIs w' y x b g n h := ⟨hk.has L.head h1, L.line.kept hk h3 h4 h5, L.ne_⟩
theorem SlopeIs.lt_ (L : SlopeIs w y x b g n h) : y < w.heap.size ∧ x < w.heap.size ∧ b < w.heap.size ∧ g < w.heap.size := ⟨L.head.lt, L.line.lt_⟩
theorem SlopeIs.cell (L : SlopeIs w y x b g n h) : w.cell? ⟨y, 0, none⟩ = some (.pointer (some ⟨x, 0, none⟩)) := L.head.cell 0
end
def Fil (w : World) (y : Nat) (S : List Nat) (h : List Int) : Prop := ∃ x b g n, S = [y, x, b, g] ∧ SlopeIs w y x b g n h
/-- Behind a Push of the line: the filter is as it was, but for what came. -/
theorem SlopeIs.turned {w w' : World} {y x b g n : Nat} {h h' : List Int} (L : SlopeIs w y x b g n h) (hL : Line w' x b g n 4 (h'.map (nearTo 142847))) (hK : Kept [b, g] w w') : SlopeIs w' y x b g n h' :=
  ⟨hK.has L.head (by have := L.ne_; simp; omega), hL, L.ne_⟩
set_option maxHeartbeats 1000000 in
theorem push_k (y x b g n : Nat) (h : List Int) (v : Int) (w : World) (L : SlopeIs w y x b g n h) :
    Calls Try.prog 50 #[.pointer (some ⟨y, 0, none⟩), .int .i64 v] w fun e w' => e = .returned (.int .i64 (slopeT (v :: h))) ∧ SlopeIs w' y x b g n (v :: h) ∧ Kept [b, g] w w' := by
  have c0 := L.cell
  have hcl := clamp_any v (-142847) 142847
  rw [nearTo_clamp 142847 v (by omega)] at hcl
  have hpu := fun (A : Option Addr) W (hW : Line W x b g n 4 (h.map (nearTo 142847))) (hv : Vals W A 1 [nearTo 142847 v]) hf => line_push x b g n _ _ A 1 1 [nearTo 142847 v] W hW hv (by omega) (by omega) hf
  rw [show [nearTo 142847 v].reverse ++ h.map (nearTo 142847) = (v :: h).map (nearTo 142847) from rfl] at hpu
  have hV1 : Vals (w.alloc (.cells #[.int .i64 (nearTo 142847 v)] 2)).drew (some ⟨w.heap.size, 0, none⟩) 1 [nearTo 142847 v] := Vals.same (Vals.has (ys := [nearTo 142847 v]) (tl := []) (Has.new w 2 _)) rfl
  have hpc := hpu (some ⟨w.heap.size, 0, none⟩) (w.alloc (.cells #[.int .i64 (nearTo 142847 v)] 2)).drew ((L.line.alloc (.cells #[.int .i64 (nearTo 142847 v)] 2)).same rfl) hV1 (fun _ z hz => by cases hz; have := L.lt_; simp; omega)
  clear hpu hV1
  go_enter Try.func50, Try.ntmps50
  go_wp2
  refine Reg.begin_ (S := fun W => W.cell? ⟨y, 0, none⟩ = some (.pointer (some ⟨x, 0, none⟩))) (by kernel_rfl) (by exact c0) (fun hHeld => ?_)
  refine Reg.take (i := 0) (v := ?v1) rfl (by kernel_rfl) (by kernel_rfl) (by kernel_rfl) (by rfl) ?hv1 (by assumption) ?rest1
  case hv1 => first | (intro w hSw; (try dsimp only at hSw); go_simp; done) | (intro w hSw; (try dsimp only at hSw); go_simp; with_reducible rfl)
  (try simp only [Act.put, List.setIfInBounds_toArray, List.set_cons_zero, List.set_cons_succ])
  refine Reg.take (i := 1) (v := ?v2) rfl (by kernel_rfl) (by kernel_rfl) (by kernel_rfl) (by rfl) ?hv2 (by assumption) ?rest2
  case hv2 => first | (intro w hSw; (try dsimp only at hSw); go_simp; done) | (intro w hSw; (try dsimp only at hSw); go_simp; with_reducible rfl)
  (try simp only [Act.put, List.setIfInBounds_toArray, List.set_cons_zero, List.set_cons_succ])
  refine Reg.take (i := 2) (v := ?v3) rfl (by kernel_rfl) (by kernel_rfl) (by kernel_rfl) (by rfl) ?hv3 (by assumption) ?rest3
  case hv3 => first | (intro w hSw; (try dsimp only at hSw); go_simp; done) | (intro w hSw; (try dsimp only at hSw); go_simp; with_reducible rfl)
  (try simp only [Act.put, List.setIfInBounds_toArray, List.set_cons_zero, List.set_cons_succ])
  refine Reg.take (i := 3) (v := ?v4) rfl (by kernel_rfl) (by kernel_rfl) (by kernel_rfl) (by rfl) ?hv4 (by assumption) ?rest4
  case hv4 => first | (intro w hSw; (try dsimp only at hSw); go_simp; done) | (intro w hSw; (try dsimp only at hSw); go_simp; with_reducible rfl)
  (try simp only [Act.put, List.setIfInBounds_toArray, List.set_cons_zero, List.set_cons_succ])
  refine Reg.take (i := 4) (v := ?v5) rfl (by kernel_rfl) (by kernel_rfl) (by kernel_rfl) (by rfl) ?hv5 (by assumption) ?rest5
  case hv5 => first | (intro w hSw; (try dsimp only at hSw); go_simp; done) | (intro w hSw; (try dsimp only at hSw); go_simp; with_reducible rfl)
  (try simp only [Act.put, List.setIfInBounds_toArray, List.set_cons_zero, List.set_cons_succ])
  refine Reg.call (i := 5) rfl (by kernel_rfl) (by rfl) ?_
  intro K1 hK1
  go_simp
  go_at_call 31
  (with_reducible refine (hcl _).mono ?_)
  rintro e W1 ⟨rfl, rfl⟩
  refine hK1.out _ _ (by exact c0) (fun hHeld => ?_)
  clear hK1 K1
  (try simp only [Act.put, List.setIfInBounds_toArray, List.set_cons_zero, List.set_cons_succ])
  refine Reg.call (i := 6) rfl (by kernel_rfl) (by rfl) ?_
  intro K1 hK1
  go_simp
  refine hK1.out _ _ (by exact (L.head.alloc _).cell 0) (fun hHeld => ?_)
  clear hK1 K1
  (try simp only [Act.put, List.setIfInBounds_toArray, List.set_cons_zero, List.set_cons_succ])
  refine Reg.call (i := 7) rfl (by kernel_rfl) (by rfl) ?_
  intro K1 hK1
  go_simp
  go_at_call 61
  (with_reducible refine hpc.mono ?_)
  rintro e W2 ⟨rfl, hL2, hK2⟩
  have hK3 : Kept [b, g] w W2 := (((Kept.refl [b, g] w).alloc _).drewN 1).trans hK2
  have hN2 := L.turned hL2 hK3
  have d0 := hN2.cell
  refine hK1.out _ _ (by exact d0) (fun hHeld => ?_)
  clear hK1 K1
  (try simp only [Act.put, List.setIfInBounds_toArray, List.set_cons_zero, List.set_cons_succ])
  refine Reg.done (by kernel_rfl) ?_ _
  have hbk : ∀ (k : Nat), k ≤ 4 → ∀ d, Calls Try.prog 63 #[.pointer (some ⟨x, 0, none⟩), .int .i64 (k : Nat)] (W2.drewN d) fun e w' => e = .returned (.int .i64 (cameT 142847 (v :: h) k)) ∧ ∃ z, w' = (W2.drewN d).drewN z := fun k hk d => by
    have h9 := line_back x b g n _ _ (k : Int) (W2.drewN d) (hL2.same rfl) (by omega)
    rwa [agoTo_in _ _ k (by omega), came_map 142847 _ k (by omega)] at h9
  have hb0 := hbk 0 (by omega)
  have hb1 := hbk 1 (by omega)
  have hb3 := hbk 3 (by omega)
  have hb4 := hbk 4 (by omega)
  rw [show ((0 : Nat) : Int) = 0 from rfl] at hb0
  rw [show ((1 : Nat) : Int) = 1 from rfl] at hb1
  rw [show ((3 : Nat) : Int) = 3 from rfl] at hb3
  rw [show ((4 : Nat) : Int) = 4 from rfl] at hb4
  have hsh := fun W => shift_any (sumT (v :: h)) 3 W (by omega)
  rw [show sumT (v :: h) / 2 ^ min ((3 : Int)).toNat 64 = slopeT (v :: h) from rfl] at hsh
  have e0 := came_slope (v :: h) 0
  have e1 := came_slope (v :: h) 1
  have e3 := came_slope (v :: h) 3
  have e4 := came_slope (v :: h) 4
  unfold sumT at hsh
  have HN := Lib.hid hN2
  clear c0 hcl hpc L hN2 hK2 hL2 hbk
  generalize cameT 142847 (v :: h) 0 = x0 at *
  generalize cameT 142847 (v :: h) 1 = x1 at *
  generalize cameT 142847 (v :: h) 3 = x3 at *
  generalize cameT 142847 (v :: h) 4 = x4 at *
  go_wp2
  go_quiet ((first
    | (go_at_call 63; with_reducible exact Calls.quiet_of (hb0 _))
    | (go_at_call 63; with_reducible exact Calls.quiet_of (hb1 _))
    | (go_at_call 63; with_reducible exact Calls.quiet_of (hb3 _))
    | (go_at_call 63; with_reducible exact Calls.quiet_of (hb4 _))))
  go_wp2_with (go_at_call 59; ((with_reducible refine (hsh _).mono ?_); rintro e w' ⟨rfl, rfl⟩))
  go_ret
  exact ⟨rfl, HN.out.kept ((Kept.refl [] W2).drewN nq) (by simp) (by simp) (by simp) (by simp), hK3.drewN nq⟩
end Go.Proofs.Ytejlhdmfcmhlaaa.Slope
end
section
/- The landed slope filter's other calls, and the kit. -/
set_option linter.unusedSimpArgs false
set_option linter.unusedVariables false
namespace Go.Proofs.Ytejlhdmfcmhlaaa.Slope
open Go.RowKit RI64
theorem new_k (w : World) :
    Calls Try.prog 22 #[] w fun e w' => e = .returned (.pointer (some ⟨w.heap.size + 3, 0, none⟩)) ∧
      (∃ n, SlopeIs w' (w.heap.size + 3) (w.heap.size + 2) (w.heap.size + 1) w.heap.size n []) ∧ Below w.heap.size w w' := by
  have hln := line_new_yes 4 w (by omega)
  rw [show ((4 : Nat) : Int) = 4 from rfl] at hln
  go_enter Try.func22, Try.ntmps22
  go_wp2_with (go_at_call 34; ((with_reducible refine hln.mono ?_); rintro e w2 ⟨rfl, ⟨n, hL⟩, hB, hz⟩))
  go_ret
  refine ⟨by first | rfl | simp [hz], ⟨n, ?_, by exact hL.alloc _, by omega⟩, hB.alloc hB.size _⟩
  have h9 := Has.new w2 83 #[.pointer (some ⟨w.heap.size + 2, 0, none⟩)]
  rw [hz] at h9
  exact h9
theorem reset_k (y x b g n : Nat) (h : List Int) (w : World) (L : SlopeIs w y x b g n h) :
    Calls Try.prog 45 #[.pointer (some ⟨y, 0, none⟩)] w fun e w' => e = .returned (.tuple #[]) ∧ SlopeIs w' y x b g n [] ∧ Kept [b, g] w w' := by
  have c0 := L.cell
  have hr := line_reset x b g n _ _ w L.line
  go_enter Try.func45, Try.ntmps45
  go_wp2_with (go_at_call 56; ((with_reducible refine hr.mono ?_); rintro e w1 ⟨rfl, hL, hK⟩))
  go_end0
  exact ⟨rfl, L.turned (h' := []) hL hK, hK⟩
theorem no_push (v : Int) (w : World) : Calls Try.prog 50 #[.pointer none, .int .i64 v] w fun e w' => e = .returned (.int .i64 0) ∧ w = w' := by
  go_enter Try.func50, Try.ntmps50
  go_wp2
  go_ret
  exact ⟨rfl, rfl⟩
theorem no_reset (w : World) : Calls Try.prog 45 #[.pointer none] w fun e w' => e = .returned (.tuple #[]) ∧ w = w' := by
  go_enter Try.func45, Try.ntmps45
  go_wp2
  exact bodyPost_ret (results_none rfl _ _ _) rfl ⟨rfl, rfl⟩
theorem fil_lt {w : World} {b : Nat} {S : List Nat} {h : List Int} (hF : Fil w b S h) : ∀ k ∈ S, k < w.heap.size := by
  obtain ⟨x, b', g, n, rfl, L⟩ := hF
  intro k hk
  have := L.lt_
  simp at hk
  omega
theorem fil_kept {w w' : World} {b : Nat} {S T : List Nat} {h : List Int} (hF : Fil w b S h) (hK : Kept T w w') (hd : ∀ k ∈ S, k ∉ T) : Fil w' b S h := by
  obtain ⟨x, b', g, n, rfl, L⟩ := hF
  exact ⟨x, b', g, n, rfl, L.kept hK (hd _ (by simp)) (hd _ (by simp)) (hd _ (by simp)) (hd _ (by simp))⟩
theorem push_any (b : Nat) (S : List Nat) (h : List Int) (v : Int) (w : World) (hF : Fil w b S h) :
    Calls Try.prog 50 #[.pointer (some ⟨b, 0, none⟩), .int .i64 v] w fun e w' => e = .returned (.int .i64 (slopeT (v :: h))) ∧ Fil w' b S (v :: h) ∧ Kept S w w' := by
  obtain ⟨x, b', g, n, rfl, L⟩ := hF
  exact (push_k b x b' g n h v w L).mono fun e w' ⟨h1, h2, h3⟩ => ⟨h1, ⟨x, b', g, n, rfl, h2⟩, h3.wide (fun k hk _ => by simp at hk; rcases hk with rfl | rfl <;> simp)⟩
/-- What the landed slope filter answers, as a filter by its Push and Reset alone. -/
def core : FilterCore 50 45 slopeT where
  Fil := Fil
  lt := fil_lt
  kept := fil_kept
  push_any := push_any
  reset_any := fun b S h w hF => by
    obtain ⟨x, b', g, n, rfl, L⟩ := hF
    exact (reset_k b x b' g n h w L).mono fun e w' ⟨h1, h2, h3⟩ => ⟨h1, ⟨x, b', g, n, rfl, h2⟩, h3.wide (fun k hk _ => by simp at hk; rcases hk with rfl | rfl <;> simp)⟩
theorem new_core (w : World) :
    Calls Try.prog 22 #[] w fun e w' => ∃ b S, e = .returned (.pointer (some ⟨b, 0, none⟩)) ∧ NewIs core.Fil w b S w' :=
  (new_k w).mono fun e w' ⟨h1, ⟨n, h2⟩, h3⟩ => ⟨_, _, h1, ⟨_, _, _, n, rfl, h2⟩, (fun k hk => by simp at hk; omega), h3⟩
end Go.Proofs.Ytejlhdmfcmhlaaa.Slope
end
section
/- The landed window of squares: what its memory holds, and what its Push answers and does. -/
set_option linter.unusedSimpArgs false
set_option linter.unusedVariables false
namespace Go.Proofs.Ytejlhdmfcmhlaaa.Win
open Go.RowKit RI64
/-- Block y is a window of squares's struct: over a window at z (its line at x, its ring at b and g, n slots). -/
structure WinIs (w : World) (y z x b g n : Nat) (h : List Int) : Prop where
  head : Has w y 84 #[.pointer (some ⟨z, 0, none⟩)]
  win : Window w z x b g n 29 (h.map nearS)
  ne_ : y ≠ z ∧ y ≠ x ∧ y ≠ b ∧ y ≠ g
section
variable {w w' : World} {y z x b g n : Nat} {h : List Int}
theorem WinIs.kept {S : List Nat} (L : WinIs w y z x b g n h) (hk : Kept S w w') (h1 : y ∉ S) (h2 : z ∉ S) (h3 : x ∉ S) (h4 : b ∉ S) (h5 : g ∉ S) : WinIs w' y z x b g n h := ⟨hk.has L.head h1, L.win.kept hk h2 h3 h4 h5, L.ne_⟩
theorem WinIs.lt_ (L : WinIs w y z x b g n h) : y < w.heap.size ∧ z < w.heap.size ∧ x < w.heap.size ∧ b < w.heap.size ∧ g < w.heap.size := ⟨L.head.lt, L.win.lt_⟩
theorem WinIs.cell (L : WinIs w y z x b g n h) : w.cell? ⟨y, 0, none⟩ = some (.pointer (some ⟨z, 0, none⟩)) := L.head.cell 0
end
def Fil (w : World) (y : Nat) (S : List Nat) (h : List Int) : Prop := ∃ z x b g n, S = [y, z, x, b, g] ∧ WinIs w y z x b g n h
/-- Behind a call of the window: the filter is as it was, but for what came. -/
theorem WinIs.turned {w w' : World} {y z x b g n : Nat} {h h' : List Int} (L : WinIs w y z x b g n h) (hL : Window w' z x b g n 29 (h'.map nearS)) (hK : Kept [z, b, g] w w') : WinIs w' y z x b g n h' :=
  ⟨hK.has L.head (by have := L.ne_; simp; omega), hL, L.ne_⟩
/-- What Last answers. -/
theorem last_k (y z x b g n : Nat) (h : List Int) (w : World) (L : WinIs w y z x b g n h) :
    Calls Try.prog 65 #[.pointer (some ⟨y, 0, none⟩)] w fun e w' => e = .returned (.int .i64 (winT h)) ∧ w = w' := by
  have c0 := L.cell
  have hsm := window_sum z x b g n 29 (h.map nearS) w L.win
  rw [sum_wrap] at hsm
  have hsb := sum_bd h 30 (by omega)
  have hsh := fun W => shift_any (sumT h 30) 5 W (by omega)
  rw [show sumT h 30 / 2 ^ min ((5 : Int)).toNat 64 = winT h from rfl] at hsh
  generalize winT h = r at *
  generalize sumT h 30 = s at *
  go_enter Try.func65, Try.ntmps65
  go_wp2_with (first
    | (go_at_call 75; ((with_reducible refine hsm.mono ?_); rintro e W3 ⟨rfl, rfl⟩))
    | (go_at_call 59; ((with_reducible refine (hsh _).mono ?_); rintro e w' ⟨rfl, rfl⟩)))
  go_ret
  exact ⟨rfl, rfl⟩
set_option maxHeartbeats 1000000 in
theorem push_k (y z x b g n : Nat) (h : List Int) (v : Int) (w : World) (L : WinIs w y z x b g n h) :
    Calls Try.prog 52 #[.pointer (some ⟨y, 0, none⟩), .int .i64 v] w fun e w' => e = .returned (.int .i64 (winT (v :: h))) ∧ WinIs w' y z x b g n (v :: h) ∧ Kept [z, b, g] w w' := by
  have c0 := L.cell
  have hcl := clamp_any v 0 67108864
  rw [show clampZ v 0 67108864 = nearS v from rfl] at hcl
  have hpc := window_push z x b g n 29 (h.map nearS) (nearS v) w.drew (L.win.same rfl)
  unfold WindowBecame at hpc
  rw [show nearS v :: h.map nearS = (v :: h).map nearS from rfl] at hpc
  go_enter Try.func52, Try.ntmps52
  go_wp2
  refine Reg.begin_ (S := fun W => W.cell? ⟨y, 0, none⟩ = some (.pointer (some ⟨z, 0, none⟩))) (by kernel_rfl) (by exact c0) (fun hHeld => ?_)
  refine Reg.take (i := 0) (v := ?v1) rfl (by kernel_rfl) (by kernel_rfl) (by kernel_rfl) (by rfl) ?hv1 (by assumption) ?rest1
  case hv1 => first | (intro w hSw; (try dsimp only at hSw); go_simp; done) | (intro w hSw; (try dsimp only at hSw); go_simp; with_reducible rfl)
  (try simp only [Act.put, List.setIfInBounds_toArray, List.set_cons_zero, List.set_cons_succ])
  refine Reg.take (i := 1) (v := ?v2) rfl (by kernel_rfl) (by kernel_rfl) (by kernel_rfl) (by rfl) ?hv2 (by assumption) ?rest2
  case hv2 => first | (intro w hSw; (try dsimp only at hSw); go_simp; done) | (intro w hSw; (try dsimp only at hSw); go_simp; with_reducible rfl)
  (try simp only [Act.put, List.setIfInBounds_toArray, List.set_cons_zero, List.set_cons_succ])
  refine Reg.take (i := 2) (v := ?v3) rfl (by kernel_rfl) (by kernel_rfl) (by kernel_rfl) (by rfl) ?hv3 (by assumption) ?rest3
  case hv3 => first | (intro w hSw; (try dsimp only at hSw); go_simp; done) | (intro w hSw; (try dsimp only at hSw); go_simp; with_reducible rfl)
  (try simp only [Act.put, List.setIfInBounds_toArray, List.set_cons_zero, List.set_cons_succ])
  refine Reg.take (i := 3) (v := ?v4) rfl (by kernel_rfl) (by kernel_rfl) (by kernel_rfl) (by rfl) ?hv4 (by assumption) ?rest4
  case hv4 => first | (intro w hSw; (try dsimp only at hSw); go_simp; done) | (intro w hSw; (try dsimp only at hSw); go_simp; with_reducible rfl)
  (try simp only [Act.put, List.setIfInBounds_toArray, List.set_cons_zero, List.set_cons_succ])
  refine Reg.take (i := 4) (v := ?v5) rfl (by kernel_rfl) (by kernel_rfl) (by kernel_rfl) (by rfl) ?hv5 (by assumption) ?rest5
  case hv5 => first | (intro w hSw; (try dsimp only at hSw); go_simp; done) | (intro w hSw; (try dsimp only at hSw); go_simp; with_reducible rfl)
  (try simp only [Act.put, List.setIfInBounds_toArray, List.set_cons_zero, List.set_cons_succ])
  refine Reg.call (i := 5) rfl (by kernel_rfl) (by rfl) ?_
  intro K1 hK1
  go_simp
  go_at_call 31
  (with_reducible refine (hcl _).mono ?_)
  rintro e W1 ⟨rfl, rfl⟩
  refine hK1.out _ _ (by exact c0) (fun hHeld => ?_)
  clear hK1 K1
  (try simp only [Act.put, List.setIfInBounds_toArray, List.set_cons_zero, List.set_cons_succ])
  refine Reg.call (i := 6) rfl (by kernel_rfl) (by rfl) ?_
  intro K1 hK1
  go_simp
  go_at_call 58
  (with_reducible refine hpc.mono ?_)
  rintro e W2 ⟨rfl, hL2, hK2⟩
  have hK3 : Kept [z, b, g] w W2 := ((Kept.refl [z, b, g] w).drewN 1).trans hK2
  have hN2 := L.turned hL2 hK3
  have d0 := hN2.cell
  refine hK1.out _ _ (by exact d0) (fun hHeld => ?_)
  clear hK1 K1
  (try simp only [Act.put, List.setIfInBounds_toArray, List.set_cons_zero, List.set_cons_succ])
  refine Reg.done (by kernel_rfl) ?_ _
  have hla := last_k y z x b g n (v :: h) W2 hN2
  have HN := Lib.hid hN2
  clear c0 hcl hpc L hN2 hK2 hL2
  go_wp2_with (go_at_call 65; ((with_reducible refine hla.mono ?_); rintro e W3 ⟨rfl, rfl⟩))
  go_ret
  exact ⟨rfl, HN.out, hK3⟩
end Go.Proofs.Ytejlhdmfcmhlaaa.Win
end
section
/- The landed window of squares's other calls, and the kit. -/
set_option linter.unusedSimpArgs false
set_option linter.unusedVariables false
namespace Go.Proofs.Ytejlhdmfcmhlaaa.Win
open Go.RowKit RI64
theorem new_k (w : World) :
    Calls Try.prog 23 #[] w fun e w' => e = .returned (.pointer (some ⟨w.heap.size + 4, 0, none⟩)) ∧
      (∃ n, WinIs w' (w.heap.size + 4) (w.heap.size + 3) (w.heap.size + 2) (w.heap.size + 1) w.heap.size n []) ∧ Below w.heap.size w w' := by
  have hln := window_of_yes 29 w (by omega)
  rw [show ((29 : Nat) : Int) + 1 = 30 from rfl] at hln
  go_enter Try.func23, Try.ntmps23
  go_wp2_with (go_at_call 35; ((with_reducible refine hln.mono ?_); rintro e w2 ⟨rfl, ⟨n, hL⟩, hB, hz⟩))
  go_ret
  refine ⟨by first | rfl | simp [hz], ⟨n, ?_, by exact hL.alloc _, by omega⟩, hB.alloc hB.size _⟩
  have h9 := Has.new w2 84 #[.pointer (some ⟨w.heap.size + 3, 0, none⟩)]
  rw [hz] at h9
  exact h9
theorem reset_k (y z x b g n : Nat) (h : List Int) (w : World) (L : WinIs w y z x b g n h) :
    Calls Try.prog 46 #[.pointer (some ⟨y, 0, none⟩)] w fun e w' => e = .returned (.tuple #[]) ∧ WinIs w' y z x b g n [] ∧ Kept [z, b, g] w w' := by
  have c0 := L.cell
  have hr := window_reset z x b g n 29 _ w L.win
  go_enter Try.func46, Try.ntmps46
  go_wp2_with (go_at_call 57; ((with_reducible refine hr.mono ?_); rintro e w1 ⟨rfl, hL, hK⟩))
  go_end0
  exact ⟨rfl, L.turned (h' := []) hL hK, hK⟩
theorem no_push (v : Int) (w : World) : Calls Try.prog 52 #[.pointer none, .int .i64 v] w fun e w' => e = .returned (.int .i64 0) ∧ w = w' := by
  go_enter Try.func52, Try.ntmps52
  go_wp2
  go_ret
  exact ⟨rfl, rfl⟩
theorem no_reset (w : World) : Calls Try.prog 46 #[.pointer none] w fun e w' => e = .returned (.tuple #[]) ∧ w = w' := by
  go_enter Try.func46, Try.ntmps46
  go_wp2
  exact bodyPost_ret (results_none rfl _ _ _) rfl ⟨rfl, rfl⟩
theorem no_last (w : World) : Calls Try.prog 65 #[.pointer none] w fun e w' => e = .returned (.int .i64 0) ∧ w = w' := by
  go_enter Try.func65, Try.ntmps65
  go_wp2
  go_ret
  exact ⟨rfl, rfl⟩
theorem fil_lt {w : World} {b : Nat} {S : List Nat} {h : List Int} (hF : Fil w b S h) : ∀ k ∈ S, k < w.heap.size := by
  obtain ⟨z, x, b', g, n, rfl, L⟩ := hF
  intro k hk
  have := L.lt_
  simp at hk
  omega
theorem fil_kept {w w' : World} {b : Nat} {S T : List Nat} {h : List Int} (hF : Fil w b S h) (hK : Kept T w w') (hd : ∀ k ∈ S, k ∉ T) : Fil w' b S h := by
  obtain ⟨z, x, b', g, n, rfl, L⟩ := hF
  exact ⟨z, x, b', g, n, rfl, L.kept hK (hd _ (by simp)) (hd _ (by simp)) (hd _ (by simp)) (hd _ (by simp)) (hd _ (by simp))⟩
theorem push_any (b : Nat) (S : List Nat) (h : List Int) (v : Int) (w : World) (hF : Fil w b S h) :
    Calls Try.prog 52 #[.pointer (some ⟨b, 0, none⟩), .int .i64 v] w fun e w' => e = .returned (.int .i64 (winT (v :: h))) ∧ Fil w' b S (v :: h) ∧ Kept S w w' := by
  obtain ⟨z, x, b', g, n, rfl, L⟩ := hF
  exact (push_k b z x b' g n h v w L).mono fun e w' ⟨h1, h2, h3⟩ => ⟨h1, ⟨z, x, b', g, n, rfl, h2⟩, h3.wide (fun k hk _ => by simp at hk; rcases hk with rfl | rfl | rfl <;> simp)⟩
/-- What the landed window of squares answers, as a filter by its Push and Reset alone. -/
def core : FilterCore 52 46 winT where
  Fil := Fil
  lt := fil_lt
  kept := fil_kept
  push_any := push_any
  reset_any := fun b S h w hF => by
    obtain ⟨z, x, b', g, n, rfl, L⟩ := hF
    exact (reset_k b z x b' g n h w L).mono fun e w' ⟨h1, h2, h3⟩ => ⟨h1, ⟨z, x, b', g, n, rfl, h2⟩, h3.wide (fun k hk _ => by simp at hk; rcases hk with rfl | rfl | rfl <;> simp)⟩
theorem new_core (w : World) :
    Calls Try.prog 23 #[] w fun e w' => ∃ b S, e = .returned (.pointer (some ⟨b, 0, none⟩)) ∧ NewIs core.Fil w b S w' :=
  (new_k w).mono fun e w' ⟨h1, ⟨n, h2⟩, h3⟩ => ⟨_, _, h1, ⟨_, _, _, _, n, rfl, h2⟩, (fun k hk => by simp at hk; omega), h3⟩
end Go.Proofs.Ytejlhdmfcmhlaaa.Win
end
section
/- The landed chain: what its memory holds, and what its Push answers and does. -/
set_option linter.unusedSimpArgs false
set_option linter.unusedVariables false
namespace Go.Proofs.Ytejlhdmfcmhlaaa.Chain
open Go.RowKit
open Notch (notchT Known)
open Low (lowT)
open High (highT)
open Slope (slopeT squareT)
open Win (winT)
/-- The five filters, each in blocks of its own, one range behind the other; what came to each (the last value first). -/
structure Filters (w : World) (bn : Nat) (Sn : List Nat) (bl : Nat) (Sl : List Nat) (bh : Nat) (Sh : List Nat) (bs : Nat) (Ss : List Nat) (bw : Nat) (Sw : List Nat) (a1 a2 a3 a4 a5 m : Nat) (x n l hh e : List Int) : Prop where
  notch : (Notch.core m).Fil w bn Sn x
  low : Low.core.Fil w bl Sl n
  high : High.core.Fil w bh Sh l
  slope : Slope.core.Fil w bs Ss hh
  win : Win.core.Fil w bw Sw e
  in1 : ∀ k ∈ Sn, k < a1
  in2 : ∀ k ∈ Sl, a1 ≤ k ∧ k < a2
  in3 : ∀ k ∈ Sh, a2 ≤ k ∧ k < a3
  in4 : ∀ k ∈ Ss, a3 ≤ k ∧ k < a4
  in5 : ∀ k ∈ Sw, a4 ≤ k ∧ k < a5
  le_ : a1 ≤ a2 ∧ a2 ≤ a3 ∧ a3 ≤ a4 ∧ a4 ≤ a5 ∧ a5 ≤ w.heap.size
section
variable {w w' : World} {bn : Nat} {Sn : List Nat} {bl : Nat} {Sl : List Nat} {bh : Nat} {Sh : List Nat} {bs : Nat} {Ss : List Nat} {bw : Nat} {Sw : List Nat} {a1 a2 a3 a4 a5 m : Nat} {x n l hh e x' n' l' hh' e' : List Int}
theorem Filters.kept {T : List Nat} (L : Filters w bn Sn bl Sl bh Sh bs Ss bw Sw a1 a2 a3 a4 a5 m x n l hh e) (hK : Kept T w w') (hT : ∀ k ∈ T, a5 ≤ k) : Filters w' bn Sn bl Sl bh Sh bs Ss bw Sw a1 a2 a3 a4 a5 m x n l hh e := by
  obtain ⟨h1, h2, h3, h4, h5, i1, i2, i3, i4, i5, hle⟩ := L
  exact ⟨(Notch.core m).kept h1 hK (fun k hk hm => by have := i1 k hk; have := hT k hm; omega), Low.core.kept h2 hK (fun k hk hm => by have := i2 k hk; have := hT k hm; omega), High.core.kept h3 hK (fun k hk hm => by have := i3 k hk; have := hT k hm; omega),
    Slope.core.kept h4 hK (fun k hk hm => by have := i4 k hk; have := hT k hm; omega), Win.core.kept h5 hK (fun k hk hm => by have := i5 k hk; have := hT k hm; omega), i1, i2, i3, i4, i5, by have := hK.size; omega⟩
theorem Filters.drewN (L : Filters w bn Sn bl Sl bh Sh bs Ss bw Sw a1 a2 a3 a4 a5 m x n l hh e) (z : Nat) : Filters (w.drewN z) bn Sn bl Sl bh Sh bs Ss bw Sw a1 a2 a3 a4 a5 m x n l hh e := L.kept ((Kept.refl [] w).drewN z) (by simp)
theorem Filters.drew (L : Filters w bn Sn bl Sl bh Sh bs Ss bw Sw a1 a2 a3 a4 a5 m x n l hh e) : Filters w.drew bn Sn bl Sl bh Sh bs Ss bw Sw a1 a2 a3 a4 a5 m x n l hh e := L.drewN 1
theorem Filters.alloc (L : Filters w bn Sn bl Sl bh Sh bs Ss bw Sw a1 a2 a3 a4 a5 m x n l hh e) (o : Obj) : Filters (w.alloc o) bn Sn bl Sl bh Sh bs Ss bw Sw a1 a2 a3 a4 a5 m x n l hh e := L.kept ((Kept.refl [] w).alloc o) (by simp)
theorem Filters.set_ (L : Filters w bn Sn bl Sl bh Sh bs Ss bw Sw a1 a2 a3 a4 a5 m x n l hh e) {p : Addr} (hp : a5 ≤ p.block) (u : Value) : Filters (w.setCell p u) bn Sn bl Sl bh Sh bs Ss bw Sw a1 a2 a3 a4 a5 m x n l hh e := L.kept (T := [p.block]) ((Kept.refl [p.block] w).setCell (.inl (by simp)) u) (by simpa using hp)
theorem Filters.on1 (L : Filters w bn Sn bl Sl bh Sh bs Ss bw Sw a1 a2 a3 a4 a5 m x n l hh e) (hF : (Notch.core m).Fil w' bn Sn x') (hK : Kept Sn w w') : Filters w' bn Sn bl Sl bh Sh bs Ss bw Sw a1 a2 a3 a4 a5 m x' n l hh e := by
  obtain ⟨h1, h2, h3, h4, h5, i1, i2, i3, i4, i5, hle⟩ := L
  exact ⟨hF, Low.core.kept h2 hK (fun k hk hm => by have := i2 k hk; have := i1 k hm; omega), High.core.kept h3 hK (fun k hk hm => by have := i3 k hk; have := i1 k hm; omega),
    Slope.core.kept h4 hK (fun k hk hm => by have := i4 k hk; have := i1 k hm; omega), Win.core.kept h5 hK (fun k hk hm => by have := i5 k hk; have := i1 k hm; omega), i1, i2, i3, i4, i5, by have := hK.size; omega⟩
theorem Filters.on2 (L : Filters w bn Sn bl Sl bh Sh bs Ss bw Sw a1 a2 a3 a4 a5 m x n l hh e) (hF : Low.core.Fil w' bl Sl n') (hK : Kept Sl w w') : Filters w' bn Sn bl Sl bh Sh bs Ss bw Sw a1 a2 a3 a4 a5 m x n' l hh e := by
  obtain ⟨h1, h2, h3, h4, h5, i1, i2, i3, i4, i5, hle⟩ := L
  exact ⟨(Notch.core m).kept h1 hK (fun k hk hm => by have := i1 k hk; have := i2 k hm; omega), hF, High.core.kept h3 hK (fun k hk hm => by have := i3 k hk; have := i2 k hm; omega),
    Slope.core.kept h4 hK (fun k hk hm => by have := i4 k hk; have := i2 k hm; omega), Win.core.kept h5 hK (fun k hk hm => by have := i5 k hk; have := i2 k hm; omega), i1, i2, i3, i4, i5, by have := hK.size; omega⟩
theorem Filters.on3 (L : Filters w bn Sn bl Sl bh Sh bs Ss bw Sw a1 a2 a3 a4 a5 m x n l hh e) (hF : High.core.Fil w' bh Sh l') (hK : Kept Sh w w') : Filters w' bn Sn bl Sl bh Sh bs Ss bw Sw a1 a2 a3 a4 a5 m x n l' hh e := by
  obtain ⟨h1, h2, h3, h4, h5, i1, i2, i3, i4, i5, hle⟩ := L
  exact ⟨(Notch.core m).kept h1 hK (fun k hk hm => by have := i1 k hk; have := i3 k hm; omega), Low.core.kept h2 hK (fun k hk hm => by have := i2 k hk; have := i3 k hm; omega), hF,
    Slope.core.kept h4 hK (fun k hk hm => by have := i4 k hk; have := i3 k hm; omega), Win.core.kept h5 hK (fun k hk hm => by have := i5 k hk; have := i3 k hm; omega), i1, i2, i3, i4, i5, by have := hK.size; omega⟩
theorem Filters.on4 (L : Filters w bn Sn bl Sl bh Sh bs Ss bw Sw a1 a2 a3 a4 a5 m x n l hh e) (hF : Slope.core.Fil w' bs Ss hh') (hK : Kept Ss w w') : Filters w' bn Sn bl Sl bh Sh bs Ss bw Sw a1 a2 a3 a4 a5 m x n l hh' e := by
  obtain ⟨h1, h2, h3, h4, h5, i1, i2, i3, i4, i5, hle⟩ := L
  exact ⟨(Notch.core m).kept h1 hK (fun k hk hm => by have := i1 k hk; have := i4 k hm; omega), Low.core.kept h2 hK (fun k hk hm => by have := i2 k hk; have := i4 k hm; omega), High.core.kept h3 hK (fun k hk hm => by have := i3 k hk; have := i4 k hm; omega),
    hF, Win.core.kept h5 hK (fun k hk hm => by have := i5 k hk; have := i4 k hm; omega), i1, i2, i3, i4, i5, by have := hK.size; omega⟩
theorem Filters.on5 (L : Filters w bn Sn bl Sl bh Sh bs Ss bw Sw a1 a2 a3 a4 a5 m x n l hh e) (hF : Win.core.Fil w' bw Sw e') (hK : Kept Sw w w') : Filters w' bn Sn bl Sl bh Sh bs Ss bw Sw a1 a2 a3 a4 a5 m x n l hh e' := by
  obtain ⟨h1, h2, h3, h4, h5, i1, i2, i3, i4, i5, hle⟩ := L
  exact ⟨(Notch.core m).kept h1 hK (fun k hk hm => by have := i1 k hk; have := i5 k hm; omega), Low.core.kept h2 hK (fun k hk hm => by have := i2 k hk; have := i5 k hm; omega), High.core.kept h3 hK (fun k hk hm => by have := i3 k hk; have := i5 k hm; omega),
    Slope.core.kept h4 hK (fun k hk hm => by have := i4 k hk; have := i5 k hm; omega), hF, i1, i2, i3, i4, i5, by have := hK.size; omega⟩
/-- All the blocks of the filters. -/
def blocks (Sn Sl Sh Ss Sw : List Nat) : List Nat := Sn ++ (Sl ++ (Sh ++ (Ss ++ Sw)))
theorem Filters.below (L : Filters w bn Sn bl Sl bh Sh bs Ss bw Sw a1 a2 a3 a4 a5 m x n l hh e) : ∀ k ∈ blocks Sn Sl Sh Ss Sw, k < a5 := by
  intro k hk
  have hle := L.le_
  unfold blocks at hk
  rw [List.mem_append, List.mem_append, List.mem_append, List.mem_append] at hk
  rcases hk with hk | hk | hk | hk | hk
  · have := L.in1 k hk; omega
  · have := L.in2 k hk; omega
  · have := L.in3 k hk; omega
  · have := L.in4 k hk; omega
  · have := L.in5 k hk; omega
theorem kept1 (hK : Kept Sn w w') : Kept (blocks Sn Sl Sh Ss Sw) w w' := hK.wide (fun k hk _ => by simp [blocks, hk])
theorem kept2 (hK : Kept Sl w w') : Kept (blocks Sn Sl Sh Ss Sw) w w' := hK.wide (fun k hk _ => by simp [blocks, hk])
theorem kept3 (hK : Kept Sh w w') : Kept (blocks Sn Sl Sh Ss Sw) w w' := hK.wide (fun k hk _ => by simp [blocks, hk])
theorem kept4 (hK : Kept Ss w w') : Kept (blocks Sn Sl Sh Ss Sw) w w' := hK.wide (fun k hk _ => by simp [blocks, hk])
theorem kept5 (hK : Kept Sw w w') : Kept (blocks Sn Sl Sh Ss Sw) w w' := hK.wide (fun k hk _ => by simp [blocks, hk])
end
theorem Has.put4 {w : World} {b : Nat} {t : TypeId} {u0 u1 u2 u3 : Value} (h : Has w b t #[u0, u1, u2, u3]) (x0 x1 x2 x3 : Value) :
    Has ((((w.setCell ⟨b, 0, none⟩ x0).setCell ⟨b, 1, none⟩ x1).setCell ⟨b, 2, none⟩ x2).setCell ⟨b, 3, none⟩ x3) b t #[x0, x1, x2, x3] := by
  have := (((h.set_ 0 x0).set_ 1 x1).set_ 2 x2).set_ 3 x3
  simpa using this
/-- A wave, as a value. -/
def waveV (v : Wave) : Value := .agg #[.int .i64 v.1, .int .i64 v.2.1, .int .i64 v.2.2.1, .int .i64 v.2.2.2]
set_option maxRecDepth 100000 in
set_option maxHeartbeats 1000000 in
theorem through_k (y bn : Nat) (Sn : List Nat) (bl : Nat) (Sl : List Nat) (bh : Nat) (Sh : List Nat) (bs : Nat) (Ss : List Nat) (bw : Nat) (Sw : List Nat) (a1 a2 a3 a4 a5 m : Nat) (x n l hh e : List Int) (u5 u6 : Value) (v : Int) (w : World)
    (L : Filters w bn Sn bl Sl bh Sh bs Ss bw Sw a1 a2 a3 a4 a5 m x n l hh e) (hy : a5 ≤ y) (hH : Has w y 62 #[.pointer (some ⟨bn, 0, none⟩), .pointer (some ⟨bl, 0, none⟩), .pointer (some ⟨bh, 0, none⟩), .pointer (some ⟨bs, 0, none⟩), .pointer (some ⟨bw, 0, none⟩), u5, u6]) :
    Calls Try.prog 32 #[.pointer (some ⟨y, 0, none⟩), .int .i64 v] w fun r w' =>
      r = .returned (waveV (highT (lowT (notchT m (v :: x) :: n) :: l), slopeT (highT (lowT (notchT m (v :: x) :: n) :: l) :: hh), squareT (slopeT (highT (lowT (notchT m (v :: x) :: n) :: l) :: hh)), winT (squareT (slopeT (highT (lowT (notchT m (v :: x) :: n) :: l) :: hh)) :: e))) ∧
      Filters w' bn Sn bl Sl bh Sh bs Ss bw Sw a1 a2 a3 a4 a5 m (v :: x) (notchT m (v :: x) :: n) (lowT (notchT m (v :: x) :: n) :: l) (highT (lowT (notchT m (v :: x) :: n) :: l) :: hh) (squareT (slopeT (highT (lowT (notchT m (v :: x) :: n) :: l) :: hh)) :: e) ∧ Kept (blocks Sn Sl Sh Ss Sw) w w' := by
  have hp1 := fun W (hF : (Notch.core m).Fil W bn Sn x) => (Notch.core m).push_any bn Sn x v W hF
  generalize notchT m (v :: x) = vn at *
  have hp2 := fun W (hF : Low.core.Fil W bl Sl n) => Low.core.push_any bl Sl n vn W hF
  generalize lowT (vn :: n) = vl at *
  have hp3 := fun W (hF : High.core.Fil W bh Sh l) => High.core.push_any bh Sh l vl W hF
  generalize highT (vl :: l) = vh at *
  have hp4 := fun W (hF : Slope.core.Fil W bs Ss hh) => Slope.core.push_any bs Ss hh vh W hF
  have hsb := Slope.slope_bd (vh :: hh)
  generalize slopeT (vh :: hh) = vs at *
  have hsq := fun W => Slope.square_any vs W (by unfold fits64; omega)
  generalize squareT vs = vq at *
  have hp5 := fun W (hF : Win.core.Fil W bw Sw e) => Win.core.push_any bw Sw e vq W hF
  generalize winT (vq :: e) = vw at *
  have hlt := L.below
  have hle := L.le_
  have hyl := hH.lt
  go_enter Try.func32, Try.ntmps32
  go_wp2
  obtain ⟨W0, hW0⟩ : ∃ W0, (w.alloc (.cells #[.int .i64 0, .int .i64 0, .int .i64 0, .int .i64 0] 39)).alloc (.cells #[.int .i64 0, .int .i64 0, .int .i64 0, .int .i64 0] 39) = W0 := ⟨_, rfl⟩
  have hR0 : Has W0 w.heap.size 39 #[.int .i64 0, .int .i64 0, .int .i64 0, .int .i64 0] := by rw [← hW0]; exact (Has.new w _ _).alloc _
  have hA0 : Has W0 (w.heap.size + 1) 39 #[.int .i64 0, .int .i64 0, .int .i64 0, .int .i64 0] := by
    rw [← hW0]
    have h9 := Has.new (w.alloc (.cells #[.int .i64 0, .int .i64 0, .int .i64 0, .int .i64 0] 39)) 39 #[.int .i64 0, .int .i64 0, .int .i64 0, .int .i64 0]
    rwa [show (w.alloc (.cells #[.int .i64 0, .int .i64 0, .int .i64 0, .int .i64 0] 39)).heap.size = w.heap.size + 1 by simp] at h9
  have hH0 : Has W0 y 62 #[.pointer (some ⟨bn, 0, none⟩), .pointer (some ⟨bl, 0, none⟩), .pointer (some ⟨bh, 0, none⟩), .pointer (some ⟨bs, 0, none⟩), .pointer (some ⟨bw, 0, none⟩), u5, u6] := by rw [← hW0]; exact (hH.alloc _).alloc _
  have L0 : Filters W0 bn Sn bl Sl bh Sh bs Ss bw Sw a1 a2 a3 a4 a5 m x n l hh e := by rw [← hW0]; exact (L.alloc _).alloc _
  have hK0 : Kept (blocks Sn Sl Sh Ss Sw) w W0 := by rw [← hW0]; exact ((Kept.refl _ w).alloc _).alloc _
  rw [hW0]
  clear hW0 L hH
  have c0 := hH0.cell 0
  have c1 := hH0.cell 1
  have c2 := hH0.cell 2
  refine Reg.begin_ (S := fun W => W.cell? ⟨y, 0, none⟩ = some (.pointer (some ⟨bn, 0, none⟩)) ∧ W.cell? ⟨y, 1, none⟩ = some (.pointer (some ⟨bl, 0, none⟩)) ∧ W.cell? ⟨y, 2, none⟩ = some (.pointer (some ⟨bh, 0, none⟩))) (by kernel_rfl) (by exact ⟨c0, c1, c2⟩) (fun hHeld => ?_)
  refine Reg.take (i := 0) (v := ?v1) rfl (by kernel_rfl) (by kernel_rfl) (by kernel_rfl) (by rfl) ?hv1 (by assumption) ?rest1
  case hv1 => first | (intro w hSw; (try dsimp only at hSw); go_simp; done) | (intro w hSw; (try dsimp only at hSw); go_simp; with_reducible rfl)
  (try simp only [Act.put, List.setIfInBounds_toArray, List.set_cons_zero, List.set_cons_succ])
  refine Reg.take (i := 1) (v := ?v2) rfl (by kernel_rfl) (by kernel_rfl) (by kernel_rfl) (by rfl) ?hv2 (by assumption) ?rest2
  case hv2 => first | (intro w hSw; (try dsimp only at hSw); go_simp; done) | (intro w hSw; (try dsimp only at hSw); go_simp; with_reducible rfl)
  (try simp only [Act.put, List.setIfInBounds_toArray, List.set_cons_zero, List.set_cons_succ])
  refine Reg.take (i := 2) (v := ?v3) rfl (by kernel_rfl) (by kernel_rfl) (by kernel_rfl) (by rfl) ?hv3 (by assumption) ?rest3
  case hv3 => first | (intro w hSw; (try dsimp only at hSw); go_simp; done) | (intro w hSw; (try dsimp only at hSw); go_simp; with_reducible rfl)
  (try simp only [Act.put, List.setIfInBounds_toArray, List.set_cons_zero, List.set_cons_succ])
  refine Reg.take (i := 3) (v := ?v4) rfl (by kernel_rfl) (by kernel_rfl) (by kernel_rfl) (by rfl) ?hv4 (by assumption) ?rest4
  case hv4 => first | (intro w hSw; (try dsimp only at hSw); go_simp; done) | (intro w hSw; (try dsimp only at hSw); go_simp; with_reducible rfl)
  (try simp only [Act.put, List.setIfInBounds_toArray, List.set_cons_zero, List.set_cons_succ])
  refine Reg.take (i := 4) (v := ?v5) rfl (by kernel_rfl) (by kernel_rfl) (by kernel_rfl) (by rfl) ?hv5 (by assumption) ?rest5
  case hv5 => first | (intro w hSw; (try dsimp only at hSw); go_simp; done) | (intro w hSw; (try dsimp only at hSw); go_simp; with_reducible rfl)
  (try simp only [Act.put, List.setIfInBounds_toArray, List.set_cons_zero, List.set_cons_succ])
  refine Reg.take (i := 5) (v := ?v6) rfl (by kernel_rfl) (by kernel_rfl) (by kernel_rfl) (by rfl) ?hv6 (by assumption) ?rest6
  case hv6 => first | (intro w hSw; (try dsimp only at hSw); go_simp; done) | (intro w hSw; (try dsimp only at hSw); go_simp; with_reducible rfl)
  (try simp only [Act.put, List.setIfInBounds_toArray, List.set_cons_zero, List.set_cons_succ])
  refine Reg.take (i := 6) (v := ?v7) rfl (by kernel_rfl) (by kernel_rfl) (by kernel_rfl) (by rfl) ?hv7 (by assumption) ?rest7
  case hv7 => first | (intro w hSw; (try dsimp only at hSw); go_simp; done) | (intro w hSw; (try dsimp only at hSw); go_simp; with_reducible rfl)
  (try simp only [Act.put, List.setIfInBounds_toArray, List.set_cons_zero, List.set_cons_succ])
  refine Reg.take (i := 7) (v := ?v8) rfl (by kernel_rfl) (by kernel_rfl) (by kernel_rfl) (by rfl) ?hv8 (by assumption) ?rest8
  case hv8 => first | (intro w hSw; (try dsimp only at hSw); go_simp; done) | (intro w hSw; (try dsimp only at hSw); go_simp; with_reducible rfl)
  (try simp only [Act.put, List.setIfInBounds_toArray, List.set_cons_zero, List.set_cons_succ])
  refine Reg.take (i := 8) (v := ?v9) rfl (by kernel_rfl) (by kernel_rfl) (by kernel_rfl) (by rfl) ?hv9 (by assumption) ?rest9
  case hv9 => first | (intro w hSw; (try dsimp only at hSw); go_simp; done) | (intro w hSw; (try dsimp only at hSw); go_simp; with_reducible rfl)
  (try simp only [Act.put, List.setIfInBounds_toArray, List.set_cons_zero, List.set_cons_succ])
  refine Reg.take (i := 9) (v := ?v10) rfl (by kernel_rfl) (by kernel_rfl) (by kernel_rfl) (by rfl) ?hv10 (by assumption) ?rest10
  case hv10 => first | (intro w hSw; (try dsimp only at hSw); go_simp; done) | (intro w hSw; (try dsimp only at hSw); go_simp; with_reducible rfl)
  (try simp only [Act.put, List.setIfInBounds_toArray, List.set_cons_zero, List.set_cons_succ])
  refine Reg.take (i := 10) (v := ?v11) rfl (by kernel_rfl) (by kernel_rfl) (by kernel_rfl) (by rfl) ?hv11 (by assumption) ?rest11
  case hv11 => first | (intro w hSw; (try dsimp only at hSw); go_simp; done) | (intro w hSw; (try dsimp only at hSw); go_simp; with_reducible rfl)
  (try simp only [Act.put, List.setIfInBounds_toArray, List.set_cons_zero, List.set_cons_succ])
  refine Reg.take (i := 11) (v := ?v12) rfl (by kernel_rfl) (by kernel_rfl) (by kernel_rfl) (by rfl) ?hv12 (by assumption) ?rest12
  case hv12 => first | (intro w hSw; (try dsimp only at hSw); go_simp; done) | (intro w hSw; (try dsimp only at hSw); go_simp; with_reducible rfl)
  (try simp only [Act.put, List.setIfInBounds_toArray, List.set_cons_zero, List.set_cons_succ])
  refine Reg.take (i := 12) (v := ?v13) rfl (by kernel_rfl) (by kernel_rfl) (by kernel_rfl) (by rfl) ?hv13 (by assumption) ?rest13
  case hv13 => first | (intro w hSw; (try dsimp only at hSw); go_simp; done) | (intro w hSw; (try dsimp only at hSw); go_simp; with_reducible rfl)
  (try simp only [Act.put, List.setIfInBounds_toArray, List.set_cons_zero, List.set_cons_succ])
  have Ld := L0.drew
  have hHd := hH0.drew
  have hRd := hR0.drew
  have hAd := hA0.drew
  have hKd : Kept (blocks Sn Sl Sh Ss Sw) w W0.drew := hK0.drewN 1
  refine Reg.call (i := 13) rfl (by kernel_rfl) (by rfl) ?_
  intro K hK
  go_simp
  go_at_call 49
  (with_reducible refine (hp1 _ (by exact Ld.notch)).mono ?_)
  rintro r W1 ⟨rfl, hF, hKc⟩
  have L1 := Ld.on1 hF hKc
  have hH1 := hKc.has hHd (fun hm => by have := Ld.in1 _ hm; omega)
  have hR1 := hKc.has hRd (fun hm => by have := Ld.in1 _ hm; omega)
  have hA1 := hKc.has hAd (fun hm => by have := Ld.in1 _ hm; omega)
  have hK1 := hKd.trans (kept1 hKc)
  refine hK.out _ _ (by exact ⟨hH1.cell 0, hH1.cell 1, hH1.cell 2⟩) (fun hHeld => ?_)
  clear hK K
  (try simp only [Act.put, List.setIfInBounds_toArray, List.set_cons_zero, List.set_cons_succ])
  refine Reg.call (i := 14) rfl (by kernel_rfl) (by rfl) ?_
  intro K hK
  go_simp
  go_at_call 48
  (with_reducible refine (hp2 _ (by exact L1.low)).mono ?_)
  rintro r W2 ⟨rfl, hF, hKc⟩
  have L2 := L1.on2 hF hKc
  have hH2 := hKc.has hH1 (fun hm => by have := L1.in2 _ hm; omega)
  have hR2 := hKc.has hR1 (fun hm => by have := L1.in2 _ hm; omega)
  have hA2 := hKc.has hA1 (fun hm => by have := L1.in2 _ hm; omega)
  have hK2 := hK1.trans (kept2 hKc)
  refine hK.out _ _ (by exact ⟨hH2.cell 0, hH2.cell 1, hH2.cell 2⟩) (fun hHeld => ?_)
  clear hK K
  (try simp only [Act.put, List.setIfInBounds_toArray, List.set_cons_zero, List.set_cons_succ])
  refine Reg.call (i := 15) rfl (by kernel_rfl) (by rfl) ?_
  intro K hK
  go_simp
  go_at_call 47
  (with_reducible refine (hp3 _ (by exact L2.high)).mono ?_)
  rintro r W3 ⟨rfl, hF, hKc⟩
  have L3 := L2.on3 hF hKc
  have hH3 := hKc.has hH2 (fun hm => by have := L2.in3 _ hm; omega)
  have hR3 := hKc.has hR2 (fun hm => by have := L2.in3 _ hm; omega)
  have hA3 := hKc.has hA2 (fun hm => by have := L2.in3 _ hm; omega)
  have hK3 := hK2.trans (kept3 hKc)
  refine hK.out _ _ (by exact ⟨hH3.cell 0, hH3.cell 1, hH3.cell 2⟩) (fun hHeld => ?_)
  clear hK K
  (try simp only [Act.put, List.setIfInBounds_toArray, List.set_cons_zero, List.set_cons_succ])
  refine Reg.take (i := 16) (v := ?v14) rfl (by kernel_rfl) (by kernel_rfl) (by kernel_rfl) (by rfl) ?hv14 (by assumption) ?rest14
  case hv14 => first | (intro w hSw; (try dsimp only at hSw); go_simp; done) | (intro w hSw; (try dsimp only at hSw); go_simp; with_reducible rfl)
  (try simp only [Act.put, List.setIfInBounds_toArray, List.set_cons_zero, List.set_cons_succ])
  refine Reg.call (i := 17) rfl (by kernel_rfl) (by rfl) ?_
  intro K hK
  have t1 := hA3.cell 0
  have g1 := hA3.frozen 0
  have q1 := hH3.far (p := ⟨w.heap.size + 1, 0, none⟩) (by simp; omega) (.int .i64 vh)
  go_simp
  refine hK.out _ _ (by exact ⟨q1.cell 0, q1.cell 1, q1.cell 2⟩) (fun hHeld => ?_)
  clear hK K t1 g1 q1 hHeld
  (try simp only [Act.put, List.setIfInBounds_toArray, List.set_cons_zero, List.set_cons_succ])
  refine Reg.done (by kernel_rfl) ?_ _
  clear hH0 hR0 hA0 L0 hK0 hHd hRd hAd Ld hKd hH1 hR1 hA1 L1 hK1 hH2 hR2 hA2 L2 hK2 c0 c1 c2
  have hAa : Has (W3.setCell ⟨w.heap.size + 1, 0, none⟩ (.int .i64 vh)) (w.heap.size + 1) 39 #[.int .i64 vh, .int .i64 0, .int .i64 0, .int .i64 0] := by
    have h9 := hA3.set_ 0 (.int .i64 vh)
    simpa using h9
  have hRa := hR3.far (p := ⟨w.heap.size + 1, 0, none⟩) (by simp) (.int .i64 vh)
  have hHa := hH3.far (p := ⟨w.heap.size + 1, 0, none⟩) (by simp; omega) (.int .i64 vh)
  have La := L3.set_ (p := ⟨w.heap.size + 1, 0, none⟩) (by simp; omega) (.int .i64 vh)
  have hKa := hK3.setCell (p := ⟨w.heap.size + 1, 0, none⟩) (.inr (by simp)) (.int .i64 vh)
  clear hA3 hR3 hH3 L3 hK3
  generalize (W3.setCell ⟨w.heap.size + 1, 0, none⟩ (.int .i64 vh)) = Wa at *
  clear hF hKc hHeld
  go_wp2
  have c0 := hHa.drew.cell 3
  have c1 := hAa.drew.cell 0
  refine Reg.begin_ (S := fun W => W.cell? ⟨y, 3, none⟩ = some (.pointer (some ⟨bs, 0, none⟩)) ∧ W.cell? ⟨w.heap.size + 1, 0, none⟩ = some (.int .i64 vh)) (by kernel_rfl) (by exact ⟨c0, c1⟩) (fun hHeld => ?_)
  refine Reg.take (i := 0) (v := ?v15) rfl (by kernel_rfl) (by kernel_rfl) (by kernel_rfl) (by rfl) ?hv15 (by assumption) ?rest15
  case hv15 => first | (intro w hSw; (try dsimp only at hSw); go_simp; done) | (intro w hSw; (try dsimp only at hSw); go_simp; with_reducible rfl)
  (try simp only [Act.put, List.setIfInBounds_toArray, List.set_cons_zero, List.set_cons_succ])
  refine Reg.take (i := 1) (v := ?v16) rfl (by kernel_rfl) (by kernel_rfl) (by kernel_rfl) (by rfl) ?hv16 (by assumption) ?rest16
  case hv16 => first | (intro w hSw; (try dsimp only at hSw); go_simp; done) | (intro w hSw; (try dsimp only at hSw); go_simp; with_reducible rfl)
  (try simp only [Act.put, List.setIfInBounds_toArray, List.set_cons_zero, List.set_cons_succ])
  refine Reg.take (i := 2) (v := ?v17) rfl (by kernel_rfl) (by kernel_rfl) (by kernel_rfl) (by rfl) ?hv17 (by assumption) ?rest17
  case hv17 => first | (intro w hSw; (try dsimp only at hSw); go_simp; done) | (intro w hSw; (try dsimp only at hSw); go_simp; with_reducible rfl)
  (try simp only [Act.put, List.setIfInBounds_toArray, List.set_cons_zero, List.set_cons_succ])
  refine Reg.take (i := 3) (v := ?v18) rfl (by kernel_rfl) (by kernel_rfl) (by kernel_rfl) (by rfl) ?hv18 (by assumption) ?rest18
  case hv18 => first | (intro w hSw; (try dsimp only at hSw); go_simp; done) | (intro w hSw; (try dsimp only at hSw); go_simp; with_reducible rfl)
  (try simp only [Act.put, List.setIfInBounds_toArray, List.set_cons_zero, List.set_cons_succ])
  refine Reg.take (i := 4) (v := ?v19) rfl (by kernel_rfl) (by kernel_rfl) (by kernel_rfl) (by rfl) ?hv19 (by assumption) ?rest19
  case hv19 => first | (intro w hSw; (try dsimp only at hSw); go_simp; done) | (intro w hSw; (try dsimp only at hSw); go_simp; with_reducible rfl)
  (try simp only [Act.put, List.setIfInBounds_toArray, List.set_cons_zero, List.set_cons_succ])
  refine Reg.take (i := 5) (v := ?v20) rfl (by kernel_rfl) (by kernel_rfl) (by kernel_rfl) (by rfl) ?hv20 (by assumption) ?rest20
  case hv20 => first | (intro w hSw; (try dsimp only at hSw); go_simp; done) | (intro w hSw; (try dsimp only at hSw); go_simp; with_reducible rfl)
  (try simp only [Act.put, List.setIfInBounds_toArray, List.set_cons_zero, List.set_cons_succ])
  clear hHeld
  have Ld := La.drew
  have hHd := hHa.drew
  have hRd := hRa.drew
  have hAd := hAa.drew
  have hKd : Kept (blocks Sn Sl Sh Ss Sw) w Wa.drew := hKa.drewN 1
  clear c0 c1
  refine Reg.call (i := 6) rfl (by kernel_rfl) (by rfl) ?_
  intro K hK
  go_simp
  go_at_call 50
  (with_reducible refine (hp4 _ (by exact Ld.slope)).mono ?_)
  rintro r Wb ⟨rfl, hF, hKc⟩
  have Lb := Ld.on4 hF hKc
  have hHb := hKc.has hHd (fun hm => by have := Ld.in4 _ hm; omega)
  have hRb := hKc.has hRd (fun hm => by have := Ld.in4 _ hm; omega)
  have hAb := hKc.has hAd (fun hm => by have := Ld.in4 _ hm; omega)
  have hKb := hKd.trans (kept4 hKc)
  clear hF hKc Ld hHd hRd hAd hKd La hHa hRa hAa hKa
  refine hK.out _ _ (by exact ⟨hHb.cell 3, hAb.cell 0⟩) (fun hHeld => ?_)
  clear hK K
  (try simp only [Act.put, List.setIfInBounds_toArray, List.set_cons_zero, List.set_cons_succ])
  refine Reg.take (i := 7) (v := ?v21) rfl (by kernel_rfl) (by kernel_rfl) (by kernel_rfl) (by rfl) ?hv21 (by assumption) ?rest21
  case hv21 => first | (intro w hSw; (try dsimp only at hSw); go_simp; done) | (intro w hSw; (try dsimp only at hSw); go_simp; with_reducible rfl)
  (try simp only [Act.put, List.setIfInBounds_toArray, List.set_cons_zero, List.set_cons_succ])
  clear hHeld
  refine Reg.call (i := 8) rfl (by kernel_rfl) (by rfl) ?_
  intro K hK
  have t1 := hAb.cell 1
  have g1 := hAb.frozen 1
  have q1 := hHb.far (p := ⟨w.heap.size + 1, 1, none⟩) (by simp; omega) (.int .i64 vs)
  have q2 := hAb.set_ 1 (.int .i64 vs)
  go_simp
  refine hK.out _ _ (by exact ⟨q1.cell 3, q2.cell 0⟩) (fun hHeld => ?_)
  clear hK K t1 g1 q1 q2 hHeld
  (try simp only [Act.put, List.setIfInBounds_toArray, List.set_cons_zero, List.set_cons_succ])
  refine Reg.done (by kernel_rfl) ?_ _
  have hAc : Has (Wb.setCell ⟨w.heap.size + 1, 1, none⟩ (.int .i64 vs)) (w.heap.size + 1) 39 #[.int .i64 vh, .int .i64 vs, .int .i64 0, .int .i64 0] := by
    have h9 := hAb.set_ 1 (.int .i64 vs)
    simpa using h9
  have hRc := hRb.far (p := ⟨w.heap.size + 1, 1, none⟩) (by simp) (.int .i64 vs)
  have hHc := hHb.far (p := ⟨w.heap.size + 1, 1, none⟩) (by simp; omega) (.int .i64 vs)
  have Lc := Lb.set_ (p := ⟨w.heap.size + 1, 1, none⟩) (by simp; omega) (.int .i64 vs)
  have hKc := hKb.setCell (p := ⟨w.heap.size + 1, 1, none⟩) (.inr (by simp)) (.int .i64 vs)
  clear hAb hRb hHb Lb hKb
  generalize (Wb.setCell ⟨w.heap.size + 1, 1, none⟩ (.int .i64 vs)) = Wc at *
  have t1 := hAc.cell 1
  go_wp2_with (go_at_call 51; ((with_reducible refine (hsq _).mono ?_); rintro r We ⟨rfl, hB⟩; have Le := Lc.kept (Kept.of_below (S := []) hB) (by simp); have hHe := hHc.below hB hHc.lt; have hRe := hRc.below hB hRc.lt; have hAe := hAc.below hB hAc.lt; have hKe := hKc.trans (Kept.of_below hB); have t2 := hAe.cell 2; have g2 := hAe.frozen 2))
  clear t1 t2 g2 hB hAc hRc hHc Lc hKc
  have hAf : Has (We.setCell ⟨w.heap.size + 1, 2, none⟩ (.int .i64 vq)) (w.heap.size + 1) 39 #[.int .i64 vh, .int .i64 vs, .int .i64 vq, .int .i64 0] := by
    have h9 := hAe.set_ 2 (.int .i64 vq)
    simpa using h9
  have hRf := hRe.far (p := ⟨w.heap.size + 1, 2, none⟩) (by simp) (.int .i64 vq)
  have hHf := hHe.far (p := ⟨w.heap.size + 1, 2, none⟩) (by simp; omega) (.int .i64 vq)
  have Lf := Le.set_ (p := ⟨w.heap.size + 1, 2, none⟩) (by simp; omega) (.int .i64 vq)
  have hKf := hKe.setCell (p := ⟨w.heap.size + 1, 2, none⟩) (.inr (by simp)) (.int .i64 vq)
  clear hAe hRe hHe Le hKe
  generalize (We.setCell ⟨w.heap.size + 1, 2, none⟩ (.int .i64 vq)) = Wf at *
  have c0 := hHf.drew.cell 4
  have c1 := hAf.drew.cell 2
  refine Reg.begin_ (S := fun W => W.cell? ⟨y, 4, none⟩ = some (.pointer (some ⟨bw, 0, none⟩)) ∧ W.cell? ⟨w.heap.size + 1, 2, none⟩ = some (.int .i64 vq)) (by kernel_rfl) (by exact ⟨c0, c1⟩) (fun hHeld => ?_)
  refine Reg.take (i := 0) (v := ?v22) rfl (by kernel_rfl) (by kernel_rfl) (by kernel_rfl) (by rfl) ?hv22 (by assumption) ?rest22
  case hv22 => first | (intro w hSw; (try dsimp only at hSw); go_simp; done) | (intro w hSw; (try dsimp only at hSw); go_simp; with_reducible rfl)
  (try simp only [Act.put, List.setIfInBounds_toArray, List.set_cons_zero, List.set_cons_succ])
  refine Reg.take (i := 1) (v := ?v23) rfl (by kernel_rfl) (by kernel_rfl) (by kernel_rfl) (by rfl) ?hv23 (by assumption) ?rest23
  case hv23 => first | (intro w hSw; (try dsimp only at hSw); go_simp; done) | (intro w hSw; (try dsimp only at hSw); go_simp; with_reducible rfl)
  (try simp only [Act.put, List.setIfInBounds_toArray, List.set_cons_zero, List.set_cons_succ])
  refine Reg.take (i := 2) (v := ?v24) rfl (by kernel_rfl) (by kernel_rfl) (by kernel_rfl) (by rfl) ?hv24 (by assumption) ?rest24
  case hv24 => first | (intro w hSw; (try dsimp only at hSw); go_simp; done) | (intro w hSw; (try dsimp only at hSw); go_simp; with_reducible rfl)
  (try simp only [Act.put, List.setIfInBounds_toArray, List.set_cons_zero, List.set_cons_succ])
  refine Reg.take (i := 3) (v := ?v25) rfl (by kernel_rfl) (by kernel_rfl) (by kernel_rfl) (by rfl) ?hv25 (by assumption) ?rest25
  case hv25 => first | (intro w hSw; (try dsimp only at hSw); go_simp; done) | (intro w hSw; (try dsimp only at hSw); go_simp; with_reducible rfl)
  (try simp only [Act.put, List.setIfInBounds_toArray, List.set_cons_zero, List.set_cons_succ])
  refine Reg.take (i := 4) (v := ?v26) rfl (by kernel_rfl) (by kernel_rfl) (by kernel_rfl) (by rfl) ?hv26 (by assumption) ?rest26
  case hv26 => first | (intro w hSw; (try dsimp only at hSw); go_simp; done) | (intro w hSw; (try dsimp only at hSw); go_simp; with_reducible rfl)
  (try simp only [Act.put, List.setIfInBounds_toArray, List.set_cons_zero, List.set_cons_succ])
  refine Reg.take (i := 5) (v := ?v27) rfl (by kernel_rfl) (by kernel_rfl) (by kernel_rfl) (by rfl) ?hv27 (by assumption) ?rest27
  case hv27 => first | (intro w hSw; (try dsimp only at hSw); go_simp; done) | (intro w hSw; (try dsimp only at hSw); go_simp; with_reducible rfl)
  (try simp only [Act.put, List.setIfInBounds_toArray, List.set_cons_zero, List.set_cons_succ])
  clear hHeld
  have Ld := Lf.drew
  have hHd := hHf.drew
  have hRd := hRf.drew
  have hAd := hAf.drew
  have hKd : Kept (blocks Sn Sl Sh Ss Sw) w Wf.drew := hKf.drewN 1
  clear c0 c1
  refine Reg.call (i := 6) rfl (by kernel_rfl) (by rfl) ?_
  intro K hK
  go_simp
  go_at_call 52
  (with_reducible refine (hp5 _ (by exact Ld.win)).mono ?_)
  rintro r Wg ⟨rfl, hF, hKc⟩
  have Lg := Ld.on5 hF hKc
  have hHg := hKc.has hHd (fun hm => by have := Ld.in5 _ hm; omega)
  have hRg := hKc.has hRd (fun hm => by have := Ld.in5 _ hm; omega)
  have hAg := hKc.has hAd (fun hm => by have := Ld.in5 _ hm; omega)
  have hKg := hKd.trans (kept5 hKc)
  clear hF hKc Ld hHd hRd hAd hKd Lf hHf hRf hAf hKf
  refine hK.out _ _ (by exact ⟨hHg.cell 4, hAg.cell 2⟩) (fun hHeld => ?_)
  clear hK K
  (try simp only [Act.put, List.setIfInBounds_toArray, List.set_cons_zero, List.set_cons_succ])
  refine Reg.take (i := 7) (v := ?v28) rfl (by kernel_rfl) (by kernel_rfl) (by kernel_rfl) (by rfl) ?hv28 (by assumption) ?rest28
  case hv28 => first | (intro w hSw; (try dsimp only at hSw); go_simp; done) | (intro w hSw; (try dsimp only at hSw); go_simp; with_reducible rfl)
  (try simp only [Act.put, List.setIfInBounds_toArray, List.set_cons_zero, List.set_cons_succ])
  clear hHeld
  refine Reg.call (i := 8) rfl (by kernel_rfl) (by rfl) ?_
  intro K hK
  have t1 := hAg.cell 3
  have g1 := hAg.frozen 3
  have q1 := hHg.far (p := ⟨w.heap.size + 1, 3, none⟩) (by simp; omega) (.int .i64 vw)
  have q2 := hAg.set_ 3 (.int .i64 vw)
  go_simp
  refine hK.out _ _ (by exact ⟨q1.cell 4, q2.cell 2⟩) (fun hHeld => ?_)
  clear hK K t1 g1 q1 q2 hHeld
  (try simp only [Act.put, List.setIfInBounds_toArray, List.set_cons_zero, List.set_cons_succ])
  refine Reg.done (by kernel_rfl) ?_ _
  have hAi : Has (Wg.setCell ⟨w.heap.size + 1, 3, none⟩ (.int .i64 vw)) (w.heap.size + 1) 39 #[.int .i64 vh, .int .i64 vs, .int .i64 vq, .int .i64 vw] := by
    have h9 := hAg.set_ 3 (.int .i64 vw)
    simpa using h9
  have hRi := hRg.far (p := ⟨w.heap.size + 1, 3, none⟩) (by simp) (.int .i64 vw)
  have hHi := hHg.far (p := ⟨w.heap.size + 1, 3, none⟩) (by simp; omega) (.int .i64 vw)
  have Li := Lg.set_ (p := ⟨w.heap.size + 1, 3, none⟩) (by simp; omega) (.int .i64 vw)
  have hKi := hKg.setCell (p := ⟨w.heap.size + 1, 3, none⟩) (.inr (by simp)) (.int .i64 vw)
  clear hAg hRg hHg Lg hKg
  generalize (Wg.setCell ⟨w.heap.size + 1, 3, none⟩ (.int .i64 vw)) = Wi at *
  have t0 := hAi.cell 0
  have t1 := hAi.cell 1
  have t2 := hAi.cell 2
  have t3 := hAi.cell 3
  have q0 := hRi.cell 0
  have q1 := hRi.cell 1
  have q2 := hRi.cell 2
  have q3 := hRi.cell 3
  have g0 := hRi.frozen 0
  have g1 := hRi.frozen 1
  have g2 := hRi.frozen 2
  have g3 := hRi.frozen 3
  go_wp2
  have hR9 := Has.put4 hRi (.int .i64 vh) (.int .i64 vs) (.int .i64 vq) (.int .i64 vw)
  have p0 := hR9.cell 0
  have p1 := hR9.cell 1
  have p2 := hR9.cell 2
  have p3 := hR9.cell 3
  refine bodyPost_ret (v := waveV (vh, vs, vq, vw)) (by simp [results, Try.results32, go_sem, p0, p1, p2, p3, waveV]) rfl ⟨rfl, ?_, ?_⟩
  · exact (((Li.set_ (p := ⟨w.heap.size, 0, none⟩) (by simp; omega) _).set_ (p := ⟨w.heap.size, 1, none⟩) (by simp; omega) _).set_ (p := ⟨w.heap.size, 2, none⟩) (by simp; omega) _).set_ (p := ⟨w.heap.size, 3, none⟩) (by simp; omega) _
  · exact (((hKi.setCell (p := ⟨w.heap.size, 0, none⟩) (.inr (by simp)) _).setCell (p := ⟨w.heap.size, 1, none⟩) (.inr (by simp)) _).setCell (p := ⟨w.heap.size, 2, none⟩) (.inr (by simp)) _).setCell (p := ⟨w.heap.size, 3, none⟩) (.inr (by simp)) _
/-- Block y is a chain's struct, for mains m; this came (the last sample first). -/
structure ChainIs (w : World) (y bn : Nat) (Sn : List Nat) (bl : Nat) (Sl : List Nat) (bh : Nat) (Sh : List Nat) (bs : Nat) (Ss : List Nat) (bw : Nat) (Sw : List Nat) (a1 a2 a3 a4 a5 m : Nat) (h : List Int) : Prop where
  head : Has w y 62 #[.pointer (some ⟨bn, 0, none⟩), .pointer (some ⟨bl, 0, none⟩), .pointer (some ⟨bh, 0, none⟩), .pointer (some ⟨bs, 0, none⟩), .pointer (some ⟨bw, 0, none⟩), .int .i32 (baseT h), .bool (!h.isEmpty)]
  fs : Filters w bn Sn bl Sl bh Sh bs Ss bw Sw a1 a2 a3 a4 a5 m (inT h) (nT m h) (lT m h) (hT m h) (eT m h)
  far : a5 ≤ y
def Fil (m : Nat) (w : World) (y : Nat) (S : List Nat) (h : List Int) : Prop := ∃ bn Sn bl Sl bh Sh bs Ss bw Sw a1 a2 a3 a4 a5, S = y :: blocks Sn Sl Sh Ss Sw ∧ ChainIs w y bn Sn bl Sl bh Sh bs Ss bw Sw a1 a2 a3 a4 a5 m h
set_option maxRecDepth 100000 in
set_option maxHeartbeats 1000000 in
theorem push_k (y bn : Nat) (Sn : List Nat) (bl : Nat) (Sl : List Nat) (bh : Nat) (Sh : List Nat) (bs : Nat) (Ss : List Nat) (bw : Nat) (Sw : List Nat) (a1 a2 a3 a4 a5 m : Nat) (h : List Int) (v : Int) (w : World)
    (L : ChainIs w y bn Sn bl Sl bh Sh bs Ss bw Sw a1 a2 a3 a4 a5 m h) (hv : -2147483648 ≤ v ∧ v ≤ 2147483647) :
    Calls Try.prog 17 #[.pointer (some ⟨y, 0, none⟩), .int .i32 v] w fun r w' =>
      r = .returned (waveV (waveT m (v :: h))) ∧ ChainIs w' y bn Sn bl Sl bh Sh bs Ss bw Sw a1 a2 a3 a4 a5 m (v :: h) ∧ Kept (y :: blocks Sn Sl Sh Ss Sw) w w' := by
  obtain ⟨hH, hF, hfar⟩ := L
  have hcl := clamp_any v (-32768) 32767
  rw [show clampZ v (-32768) 32767 = near16 v from rfl] at hcl
  have hn := near16_bd v
  have hb := base_bd (v :: h)
  have hth := fun W u5 u6 hF hH => through_k y bn Sn bl Sl bh Sh bs Ss bw Sw a1 a2 a3 a4 a5 m (inT h) (nT m h) (lT m h) (hT m h) (eT m h) u5 u6 (near16 v - baseT (v :: h)) W hF hfar hH
  rw [← in_step, ← n_step, ← l_step, ← h_step, ← e_step, ← wave_step] at hth
  have hyl := hH.lt
  have hle := hF.le_
  have c6 := hH.cell 6
  have f6 := hH.frozen 6
  rcases h with _ | ⟨u, h⟩
  · have hBs : baseT [v] = near16 v := rfl
    have c5 := hH.cell 5
    have f5 := hH.frozen 5
    go_enter Try.func17, Try.ntmps17
    go_wp2_with (go_at_call 31; ((with_reducible refine (hcl _).mono ?_); rintro e W1 ⟨rfl, rfl⟩))
    obtain ⟨W1, hW1⟩ : ∃ W1, ((w.setCell ⟨y, 5, none⟩ (.int .i32 (near16 v))).setCell ⟨y, 6, none⟩ (.bool true)).alloc (.cells #[.int .i64 0, .int .i64 0, .int .i64 0, .int .i64 0] 39) = W1 := ⟨_, rfl⟩
    have hH1 : Has W1 y 62 #[.pointer (some ⟨bn, 0, none⟩), .pointer (some ⟨bl, 0, none⟩), .pointer (some ⟨bh, 0, none⟩), .pointer (some ⟨bs, 0, none⟩), .pointer (some ⟨bw, 0, none⟩), .int .i32 (baseT [v]), .bool true] := by
      rw [← hW1, hBs]
      have h9 := ((hH.set_ 5 (.int .i32 (near16 v))).set_ 6 (.bool true)).alloc (.cells #[.int .i64 0, .int .i64 0, .int .i64 0, .int .i64 0] 39)
      simpa using h9
    have hF1 := ((hF.set_ (p := ⟨y, 5, none⟩) hfar (.int .i32 (near16 v))).set_ (p := ⟨y, 6, none⟩) hfar (.bool true)).alloc (.cells #[.int .i64 0, .int .i64 0, .int .i64 0, .int .i64 0] 39)
    have hR1 : Has W1 w.heap.size 39 #[.int .i64 0, .int .i64 0, .int .i64 0, .int .i64 0] := by
      rw [← hW1]
      have h9 := Has.new ((w.setCell ⟨y, 5, none⟩ (.int .i32 (near16 v))).setCell ⟨y, 6, none⟩ (.bool true)) 39 #[.int .i64 0, .int .i64 0, .int .i64 0, .int .i64 0]
      rwa [show ((w.setCell ⟨y, 5, none⟩ (.int .i32 (near16 v))).setCell ⟨y, 6, none⟩ (.bool true)).heap.size = w.heap.size by simp [World.setCell]] at h9
    have hK1 : Kept (y :: blocks Sn Sl Sh Ss Sw) w W1 := by
      rw [← hW1]
      exact (((Kept.refl _ w).setCell (p := ⟨y, 5, none⟩) (.inl (by simp)) _).setCell (p := ⟨y, 6, none⟩) (.inl (by simp)) _).alloc _
    rw [hW1] at hF1 ⊢
    clear hW1 hF hH c6 f6 c5 f5
    clear hBs
    obtain ⟨B, hB⟩ : ∃ B, (baseT [v]) = B := ⟨_, rfl⟩
    rw [hB] at hth hb hH1
    have HB := Lib.hid hB
    clear hB
    have hFd := hF1.drew
    have hHd := hH1.drew
    have hRd := hR1.drew
    have hKd : Kept (y :: blocks Sn Sl Sh Ss Sw) w W1.drew := hK1.drewN 1
    clear hF1 hH1 hR1 hK1
    have c5 := hHd.cell 5
    have hwn : IntKind.i64.wrap (near16 v) = near16 v := by rw [IntKind.wrap_i64]; omega
    have hwB : IntKind.i64.wrap B = B := by rw [IntKind.wrap_i64]; omega
    have hwd : IntKind.i64.wrap (near16 v - B) = near16 v - B := by rw [IntKind.wrap_i64]; omega
    refine Reg.begin_ (S := fun W => W.cell? ⟨y, 5, none⟩ = some (.int .i32 B)) (by kernel_rfl) (by exact c5) (fun hHeld => ?_)
    refine Reg.take (i := 0) (v := ?v29) rfl (by kernel_rfl) (by kernel_rfl) (by kernel_rfl) (by rfl) ?hv29 (by assumption) ?rest29
    case hv29 => first | (intro w hSw; (try dsimp only at hSw); go_simp; done) | (intro w hSw; (try dsimp only at hSw); go_simp; with_reducible rfl)
    (try simp only [Act.put, List.setIfInBounds_toArray, List.set_cons_zero, List.set_cons_succ])
    refine Reg.take (i := 1) (v := ?v30) rfl (by kernel_rfl) (by kernel_rfl) (by kernel_rfl) (by rfl) ?hv30 (by assumption) ?rest30
    case hv30 => first | (intro w hSw; (try dsimp only at hSw); go_simp; done) | (intro w hSw; (try dsimp only at hSw); go_simp; with_reducible rfl)
    (try simp only [Act.put, List.setIfInBounds_toArray, List.set_cons_zero, List.set_cons_succ])
    refine Reg.take (i := 2) (v := ?v31) rfl (by kernel_rfl) (by kernel_rfl) (by kernel_rfl) (by rfl) ?hv31 (by assumption) ?rest31
    case hv31 => first | (intro w hSw; (try dsimp only at hSw); go_simp; done) | (intro w hSw; (try dsimp only at hSw); go_simp; with_reducible rfl)
    (try simp only [Act.put, List.setIfInBounds_toArray, List.set_cons_zero, List.set_cons_succ])
    refine Reg.take (i := 3) (v := ?v32) rfl (by kernel_rfl) (by kernel_rfl) (by kernel_rfl) (by rfl) ?hv32 (by assumption) ?rest32
    case hv32 => first | (intro w hSw; (try dsimp only at hSw); go_simp; done) | (intro w hSw; (try dsimp only at hSw); go_simp; with_reducible rfl)
    (try simp only [Act.put, List.setIfInBounds_toArray, List.set_cons_zero, List.set_cons_succ])
    refine Reg.take (i := 4) (v := ?v33) rfl (by kernel_rfl) (by kernel_rfl) (by kernel_rfl) (by rfl) ?hv33 (by assumption) ?rest33
    case hv33 => first | (intro w hSw; (try dsimp only at hSw); go_simp; done) | (intro w hSw; (try dsimp only at hSw); go_simp; with_reducible rfl)
    (try simp only [Act.put, List.setIfInBounds_toArray, List.set_cons_zero, List.set_cons_succ])
    refine Reg.take (i := 5) (v := ?v34) rfl (by kernel_rfl) (by kernel_rfl) (by kernel_rfl) (by rfl) ?hv34 (by assumption) ?rest34
    case hv34 => first | (intro w hSw; (try dsimp only at hSw); go_simp; done) | (intro w hSw; (try dsimp only at hSw); go_simp; with_reducible rfl)
    (try simp only [Act.put, List.setIfInBounds_toArray, List.set_cons_zero, List.set_cons_succ])
    refine Reg.take (i := 6) (v := ?v35) rfl (by kernel_rfl) (by kernel_rfl) (by kernel_rfl) (by rfl) ?hv35 (by assumption) ?rest35
    case hv35 => first | (intro w hSw; (try dsimp only at hSw); go_simp; done) | (intro w hSw; (try dsimp only at hSw); go_simp; with_reducible rfl)
    (try simp only [Act.put, List.setIfInBounds_toArray, List.set_cons_zero, List.set_cons_succ])
    refine Reg.take (i := 7) (v := ?v36) rfl (by kernel_rfl) (by kernel_rfl) (by kernel_rfl) (by rfl) ?hv36 (by assumption) ?rest36
    case hv36 => first | (intro w hSw; (try dsimp only at hSw); go_simp; done) | (intro w hSw; (try dsimp only at hSw); go_simp; with_reducible rfl)
    (try simp only [Act.put, List.setIfInBounds_toArray, List.set_cons_zero, List.set_cons_succ])
    refine Reg.take (i := 8) (v := ?v37) rfl (by kernel_rfl) (by kernel_rfl) (by kernel_rfl) (by rfl) ?hv37 (by assumption) ?rest37
    case hv37 => first | (intro w hSw; (try dsimp only at hSw); go_simp; done) | (intro w hSw; (try dsimp only at hSw); go_simp; with_reducible rfl)
    (try simp only [Act.put, List.setIfInBounds_toArray, List.set_cons_zero, List.set_cons_succ])
    refine Reg.take (i := 9) (v := ?v38) rfl (by kernel_rfl) (by kernel_rfl) (by kernel_rfl) (by rfl) ?hv38 (by assumption) ?rest38
    case hv38 => first | (intro w hSw; (try dsimp only at hSw); go_simp; done) | (intro w hSw; (try dsimp only at hSw); go_simp; with_reducible rfl)
    (try simp only [Act.put, List.setIfInBounds_toArray, List.set_cons_zero, List.set_cons_succ])
    refine Reg.take (i := 10) (v := ?v39) rfl (by kernel_rfl) (by kernel_rfl) (by kernel_rfl) (by rfl) ?hv39 (by assumption) ?rest39
    case hv39 => first | (intro w hSw; (try dsimp only at hSw); go_simp; done) | (intro w hSw; (try dsimp only at hSw); go_simp; with_reducible rfl)
    (try simp only [Act.put, List.setIfInBounds_toArray, List.set_cons_zero, List.set_cons_succ])
    clear hHeld
    have hth1 := hth _ _ _ hFd hHd
    have hbl := hFd.below
    refine Reg.call (i := 11) rfl (by kernel_rfl) (by rfl) ?_
    intro K hK
    go_simp
    go_at_call 32
    (with_reducible refine hth1.mono ?_)
    rintro r W2 ⟨rfl, hF2, hK2⟩
    have hH2 := hK2.has hHd (fun hm => by have := hbl _ hm; omega)
    have hR2 := hK2.has hRd (fun hm => by have := hbl _ hm; omega)
    have hK3 := hKd.trans (hK2.wide (T := y :: blocks Sn Sl Sh Ss Sw) (fun k hk _ => by simp [hk]))
    clear hth1 hth hbl hFd hHd hRd hKd hK2 c5
    refine hK.out _ _ (by exact hH2.cell 5) (fun hHeld => ?_)
    clear hK K hHeld
    (try simp only [Act.put, List.setIfInBounds_toArray, List.set_cons_zero, List.set_cons_succ])
    obtain ⟨vh, vs, vq, vw, hwv⟩ : ∃ vh vs vq vw, waveT m [v] = (vh, vs, vq, vw) := ⟨_, _, _, _, rfl⟩
    rw [hwv]
    have HWV := Lib.hid hwv
    clear hwv
    rw [show waveV (vh, vs, vq, vw) = .agg #[.int .i64 vh, .int .i64 vs, .int .i64 vq, .int .i64 vw] from rfl]
    have q0 := hR2.cell 0
    have q1 := hR2.cell 1
    have q2 := hR2.cell 2
    have q3 := hR2.cell 3
    have g0 := hR2.frozen 0
    have g1 := hR2.frozen 1
    have g2 := hR2.frozen 2
    have g3 := hR2.frozen 3
    have hH9 := (((hH2.far (p := ⟨w.heap.size, 0, none⟩) (by simp; omega) (.int .i64 vh)).far (p := ⟨w.heap.size, 1, none⟩) (by simp; omega) (.int .i64 vs)).far (p := ⟨w.heap.size, 2, none⟩) (by simp; omega) (.int .i64 vq)).far (p := ⟨w.heap.size, 3, none⟩) (by simp; omega) (.int .i64 vw)
    have hF9 := (((hF2.set_ (p := ⟨w.heap.size, 0, none⟩) (by simp; omega) (.int .i64 vh)).set_ (p := ⟨w.heap.size, 1, none⟩) (by simp; omega) (.int .i64 vs)).set_ (p := ⟨w.heap.size, 2, none⟩) (by simp; omega) (.int .i64 vq)).set_ (p := ⟨w.heap.size, 3, none⟩) (by simp; omega) (.int .i64 vw)
    have hK9 := (((hK3.setCell (p := ⟨w.heap.size, 0, none⟩) (.inr (by simp)) (.int .i64 vh)).setCell (p := ⟨w.heap.size, 1, none⟩) (.inr (by simp)) (.int .i64 vs)).setCell (p := ⟨w.heap.size, 2, none⟩) (.inr (by simp)) (.int .i64 vq)).setCell (p := ⟨w.heap.size, 3, none⟩) (.inr (by simp)) (.int .i64 vw)
    have hR9 := Has.put4 hR2 (.int .i64 vh) (.int .i64 vs) (.int .i64 vq) (.int .i64 vw)
    refine Reg.call (i := 12) rfl (by kernel_rfl) (by rfl) ?_
    intro K hK
    go_simp
    refine hK.out _ _ (by exact hH9.cell 5) (fun hHeld => ?_)
    clear hK K hHeld q0 q1 q2 q3 g0 g1 g2 g3
    (try simp only [Act.put, List.setIfInBounds_toArray, List.set_cons_zero, List.set_cons_succ])
    refine Reg.done (by kernel_rfl) ?_ _
    have p0 := hR9.cell 0
    have p1 := hR9.cell 1
    have p2 := hR9.cell 2
    have p3 := hR9.cell 3
    go_wp2
    refine bodyPost_ret (v := .agg #[.int .i64 vh, .int .i64 vs, .int .i64 vq, .int .i64 vw]) (by simp [results, Try.results17, go_sem, p0, p1, p2, p3]) rfl ⟨by rw [HWV.out]; rfl, ⟨by rw [HB.out]; exact hH9, hF9, hfar⟩, hK9⟩
  · have hBs := base_cons v (u :: h) (by simp)
    go_enter Try.func17, Try.ntmps17
    go_wp2_with (go_at_call 31; ((with_reducible refine (hcl _).mono ?_); rintro e W1 ⟨rfl, rfl⟩))
    obtain ⟨W1, hW1⟩ : ∃ W1, w.alloc (.cells #[.int .i64 0, .int .i64 0, .int .i64 0, .int .i64 0] 39) = W1 := ⟨_, rfl⟩
    have hH1 : Has W1 y 62 #[.pointer (some ⟨bn, 0, none⟩), .pointer (some ⟨bl, 0, none⟩), .pointer (some ⟨bh, 0, none⟩), .pointer (some ⟨bs, 0, none⟩), .pointer (some ⟨bw, 0, none⟩), .int .i32 (baseT (v :: u :: h)), .bool true] := by
      rw [← hW1, hBs]
      exact hH.alloc _
    have hF1 := hF.alloc (.cells #[.int .i64 0, .int .i64 0, .int .i64 0, .int .i64 0] 39)
    have hR1 : Has W1 w.heap.size 39 #[.int .i64 0, .int .i64 0, .int .i64 0, .int .i64 0] := by
      rw [← hW1]
      exact Has.new w 39 #[.int .i64 0, .int .i64 0, .int .i64 0, .int .i64 0]
    have hK1 : Kept (y :: blocks Sn Sl Sh Ss Sw) w W1 := by
      rw [← hW1]
      exact (Kept.refl _ w).alloc _
    rw [hW1] at hF1 ⊢
    clear hW1 hF hH c6 f6
    clear hBs
    obtain ⟨B, hB⟩ : ∃ B, (baseT (v :: u :: h)) = B := ⟨_, rfl⟩
    rw [hB] at hth hb hH1
    have HB := Lib.hid hB
    clear hB
    have hFd := hF1.drew
    have hHd := hH1.drew
    have hRd := hR1.drew
    have hKd : Kept (y :: blocks Sn Sl Sh Ss Sw) w W1.drew := hK1.drewN 1
    clear hF1 hH1 hR1 hK1
    have c5 := hHd.cell 5
    have hwn : IntKind.i64.wrap (near16 v) = near16 v := by rw [IntKind.wrap_i64]; omega
    have hwB : IntKind.i64.wrap B = B := by rw [IntKind.wrap_i64]; omega
    have hwd : IntKind.i64.wrap (near16 v - B) = near16 v - B := by rw [IntKind.wrap_i64]; omega
    refine Reg.begin_ (S := fun W => W.cell? ⟨y, 5, none⟩ = some (.int .i32 B)) (by kernel_rfl) (by exact c5) (fun hHeld => ?_)
    refine Reg.take (i := 0) (v := ?v40) rfl (by kernel_rfl) (by kernel_rfl) (by kernel_rfl) (by rfl) ?hv40 (by assumption) ?rest40
    case hv40 => first | (intro w hSw; (try dsimp only at hSw); go_simp; done) | (intro w hSw; (try dsimp only at hSw); go_simp; with_reducible rfl)
    (try simp only [Act.put, List.setIfInBounds_toArray, List.set_cons_zero, List.set_cons_succ])
    refine Reg.take (i := 1) (v := ?v41) rfl (by kernel_rfl) (by kernel_rfl) (by kernel_rfl) (by rfl) ?hv41 (by assumption) ?rest41
    case hv41 => first | (intro w hSw; (try dsimp only at hSw); go_simp; done) | (intro w hSw; (try dsimp only at hSw); go_simp; with_reducible rfl)
    (try simp only [Act.put, List.setIfInBounds_toArray, List.set_cons_zero, List.set_cons_succ])
    refine Reg.take (i := 2) (v := ?v42) rfl (by kernel_rfl) (by kernel_rfl) (by kernel_rfl) (by rfl) ?hv42 (by assumption) ?rest42
    case hv42 => first | (intro w hSw; (try dsimp only at hSw); go_simp; done) | (intro w hSw; (try dsimp only at hSw); go_simp; with_reducible rfl)
    (try simp only [Act.put, List.setIfInBounds_toArray, List.set_cons_zero, List.set_cons_succ])
    refine Reg.take (i := 3) (v := ?v43) rfl (by kernel_rfl) (by kernel_rfl) (by kernel_rfl) (by rfl) ?hv43 (by assumption) ?rest43
    case hv43 => first | (intro w hSw; (try dsimp only at hSw); go_simp; done) | (intro w hSw; (try dsimp only at hSw); go_simp; with_reducible rfl)
    (try simp only [Act.put, List.setIfInBounds_toArray, List.set_cons_zero, List.set_cons_succ])
    refine Reg.take (i := 4) (v := ?v44) rfl (by kernel_rfl) (by kernel_rfl) (by kernel_rfl) (by rfl) ?hv44 (by assumption) ?rest44
    case hv44 => first | (intro w hSw; (try dsimp only at hSw); go_simp; done) | (intro w hSw; (try dsimp only at hSw); go_simp; with_reducible rfl)
    (try simp only [Act.put, List.setIfInBounds_toArray, List.set_cons_zero, List.set_cons_succ])
    refine Reg.take (i := 5) (v := ?v45) rfl (by kernel_rfl) (by kernel_rfl) (by kernel_rfl) (by rfl) ?hv45 (by assumption) ?rest45
    case hv45 => first | (intro w hSw; (try dsimp only at hSw); go_simp; done) | (intro w hSw; (try dsimp only at hSw); go_simp; with_reducible rfl)
    (try simp only [Act.put, List.setIfInBounds_toArray, List.set_cons_zero, List.set_cons_succ])
    refine Reg.take (i := 6) (v := ?v46) rfl (by kernel_rfl) (by kernel_rfl) (by kernel_rfl) (by rfl) ?hv46 (by assumption) ?rest46
    case hv46 => first | (intro w hSw; (try dsimp only at hSw); go_simp; done) | (intro w hSw; (try dsimp only at hSw); go_simp; with_reducible rfl)
    (try simp only [Act.put, List.setIfInBounds_toArray, List.set_cons_zero, List.set_cons_succ])
    refine Reg.take (i := 7) (v := ?v47) rfl (by kernel_rfl) (by kernel_rfl) (by kernel_rfl) (by rfl) ?hv47 (by assumption) ?rest47
    case hv47 => first | (intro w hSw; (try dsimp only at hSw); go_simp; done) | (intro w hSw; (try dsimp only at hSw); go_simp; with_reducible rfl)
    (try simp only [Act.put, List.setIfInBounds_toArray, List.set_cons_zero, List.set_cons_succ])
    refine Reg.take (i := 8) (v := ?v48) rfl (by kernel_rfl) (by kernel_rfl) (by kernel_rfl) (by rfl) ?hv48 (by assumption) ?rest48
    case hv48 => first | (intro w hSw; (try dsimp only at hSw); go_simp; done) | (intro w hSw; (try dsimp only at hSw); go_simp; with_reducible rfl)
    (try simp only [Act.put, List.setIfInBounds_toArray, List.set_cons_zero, List.set_cons_succ])
    refine Reg.take (i := 9) (v := ?v49) rfl (by kernel_rfl) (by kernel_rfl) (by kernel_rfl) (by rfl) ?hv49 (by assumption) ?rest49
    case hv49 => first | (intro w hSw; (try dsimp only at hSw); go_simp; done) | (intro w hSw; (try dsimp only at hSw); go_simp; with_reducible rfl)
    (try simp only [Act.put, List.setIfInBounds_toArray, List.set_cons_zero, List.set_cons_succ])
    refine Reg.take (i := 10) (v := ?v50) rfl (by kernel_rfl) (by kernel_rfl) (by kernel_rfl) (by rfl) ?hv50 (by assumption) ?rest50
    case hv50 => first | (intro w hSw; (try dsimp only at hSw); go_simp; done) | (intro w hSw; (try dsimp only at hSw); go_simp; with_reducible rfl)
    (try simp only [Act.put, List.setIfInBounds_toArray, List.set_cons_zero, List.set_cons_succ])
    clear hHeld
    have hth1 := hth _ _ _ hFd hHd
    have hbl := hFd.below
    refine Reg.call (i := 11) rfl (by kernel_rfl) (by rfl) ?_
    intro K hK
    go_simp
    go_at_call 32
    (with_reducible refine hth1.mono ?_)
    rintro r W2 ⟨rfl, hF2, hK2⟩
    have hH2 := hK2.has hHd (fun hm => by have := hbl _ hm; omega)
    have hR2 := hK2.has hRd (fun hm => by have := hbl _ hm; omega)
    have hK3 := hKd.trans (hK2.wide (T := y :: blocks Sn Sl Sh Ss Sw) (fun k hk _ => by simp [hk]))
    clear hth1 hth hbl hFd hHd hRd hKd hK2 c5
    refine hK.out _ _ (by exact hH2.cell 5) (fun hHeld => ?_)
    clear hK K hHeld
    (try simp only [Act.put, List.setIfInBounds_toArray, List.set_cons_zero, List.set_cons_succ])
    obtain ⟨vh, vs, vq, vw, hwv⟩ : ∃ vh vs vq vw, waveT m (v :: u :: h) = (vh, vs, vq, vw) := ⟨_, _, _, _, rfl⟩
    rw [hwv]
    have HWV := Lib.hid hwv
    clear hwv
    rw [show waveV (vh, vs, vq, vw) = .agg #[.int .i64 vh, .int .i64 vs, .int .i64 vq, .int .i64 vw] from rfl]
    have q0 := hR2.cell 0
    have q1 := hR2.cell 1
    have q2 := hR2.cell 2
    have q3 := hR2.cell 3
    have g0 := hR2.frozen 0
    have g1 := hR2.frozen 1
    have g2 := hR2.frozen 2
    have g3 := hR2.frozen 3
    have hH9 := (((hH2.far (p := ⟨w.heap.size, 0, none⟩) (by simp; omega) (.int .i64 vh)).far (p := ⟨w.heap.size, 1, none⟩) (by simp; omega) (.int .i64 vs)).far (p := ⟨w.heap.size, 2, none⟩) (by simp; omega) (.int .i64 vq)).far (p := ⟨w.heap.size, 3, none⟩) (by simp; omega) (.int .i64 vw)
    have hF9 := (((hF2.set_ (p := ⟨w.heap.size, 0, none⟩) (by simp; omega) (.int .i64 vh)).set_ (p := ⟨w.heap.size, 1, none⟩) (by simp; omega) (.int .i64 vs)).set_ (p := ⟨w.heap.size, 2, none⟩) (by simp; omega) (.int .i64 vq)).set_ (p := ⟨w.heap.size, 3, none⟩) (by simp; omega) (.int .i64 vw)
    have hK9 := (((hK3.setCell (p := ⟨w.heap.size, 0, none⟩) (.inr (by simp)) (.int .i64 vh)).setCell (p := ⟨w.heap.size, 1, none⟩) (.inr (by simp)) (.int .i64 vs)).setCell (p := ⟨w.heap.size, 2, none⟩) (.inr (by simp)) (.int .i64 vq)).setCell (p := ⟨w.heap.size, 3, none⟩) (.inr (by simp)) (.int .i64 vw)
    have hR9 := Has.put4 hR2 (.int .i64 vh) (.int .i64 vs) (.int .i64 vq) (.int .i64 vw)
    refine Reg.call (i := 12) rfl (by kernel_rfl) (by rfl) ?_
    intro K hK
    go_simp
    refine hK.out _ _ (by exact hH9.cell 5) (fun hHeld => ?_)
    clear hK K hHeld q0 q1 q2 q3 g0 g1 g2 g3
    (try simp only [Act.put, List.setIfInBounds_toArray, List.set_cons_zero, List.set_cons_succ])
    refine Reg.done (by kernel_rfl) ?_ _
    have p0 := hR9.cell 0
    have p1 := hR9.cell 1
    have p2 := hR9.cell 2
    have p3 := hR9.cell 3
    go_wp2
    refine bodyPost_ret (v := .agg #[.int .i64 vh, .int .i64 vs, .int .i64 vq, .int .i64 vw]) (by simp [results, Try.results17, go_sem, p0, p1, p2, p3]) rfl ⟨by rw [HWV.out]; rfl, ⟨by rw [HB.out]; exact hH9, hF9, hfar⟩, hK9⟩
end Go.Proofs.Ytejlhdmfcmhlaaa.Chain
end
section
/- The landed chain's other calls, and what it is by them. -/
set_option linter.unusedSimpArgs false
set_option linter.unusedVariables false
namespace Go.Proofs.Ytejlhdmfcmhlaaa.Chain
open Go.RowKit
open Notch (notchT Known)
theorem base_none : baseT [] = 0 := rfl
set_option maxRecDepth 100000 in
set_option maxHeartbeats 1000000 in
theorem forget_k (y bn : Nat) (Sn : List Nat) (bl : Nat) (Sl : List Nat) (bh : Nat) (Sh : List Nat) (bs : Nat) (Ss : List Nat) (bw : Nat) (Sw : List Nat) (a1 a2 a3 a4 a5 m : Nat) (x n l hh e : List Int) (u5 u6 : Value) (w : World)
    (L : Filters w bn Sn bl Sl bh Sh bs Ss bw Sw a1 a2 a3 a4 a5 m x n l hh e) (hy : a5 ≤ y) (hH : Has w y 62 #[.pointer (some ⟨bn, 0, none⟩), .pointer (some ⟨bl, 0, none⟩), .pointer (some ⟨bh, 0, none⟩), .pointer (some ⟨bs, 0, none⟩), .pointer (some ⟨bw, 0, none⟩), u5, u6]) :
    Calls Try.prog 30 #[.pointer (some ⟨y, 0, none⟩)] w fun r w' =>
      r = .returned (.tuple #[]) ∧ Filters w' bn Sn bl Sl bh Sh bs Ss bw Sw a1 a2 a3 a4 a5 m [] [] [] [] [] ∧ Kept (blocks Sn Sl Sh Ss Sw) w w' := by
  have hp1 := fun W (hF : (Notch.core m).Fil W bn Sn x) => (Notch.core m).reset_any bn Sn x W hF
  have hp2 := fun W (hF : Low.core.Fil W bl Sl n) => Low.core.reset_any bl Sl n W hF
  have hp3 := fun W (hF : High.core.Fil W bh Sh l) => High.core.reset_any bh Sh l W hF
  have hp4 := fun W (hF : Slope.core.Fil W bs Ss hh) => Slope.core.reset_any bs Ss hh W hF
  have hp5 := fun W (hF : Win.core.Fil W bw Sw e) => Win.core.reset_any bw Sw e W hF
  have hbl := L.below
  have c0 := hH.cell 0
  go_enter Try.func30, Try.ntmps30
  go_wp2_with (first
    | (go_at_call 42; ((with_reducible refine (hp1 _ (by exact L.notch)).mono ?_); rintro r W1 ⟨rfl, hF1, hK1⟩; have L1 := L.on1 hF1 hK1; have hH1 := hK1.has hH (fun hm => by have := hbl y (by simp [blocks, hm]); omega); have c1 := hH1.cell 1; clear hF1))
    | (go_at_call 43; ((with_reducible refine (hp2 _ (by exact L1.low)).mono ?_); rintro r W2 ⟨rfl, hF2, hK2⟩; have L2 := L1.on2 hF2 hK2; have hH2 := hK2.has hH1 (fun hm => by have := hbl y (by simp [blocks, hm]); omega); have c2 := hH2.cell 2; clear hF2))
    | (go_at_call 44; ((with_reducible refine (hp3 _ (by exact L2.high)).mono ?_); rintro r W3 ⟨rfl, hF3, hK3⟩; have L3 := L2.on3 hF3 hK3; have hH3 := hK3.has hH2 (fun hm => by have := hbl y (by simp [blocks, hm]); omega); have c3 := hH3.cell 3; clear hF3))
    | (go_at_call 45; ((with_reducible refine (hp4 _ (by exact L3.slope)).mono ?_); rintro r W4 ⟨rfl, hF4, hK4⟩; have L4 := L3.on4 hF4 hK4; have hH4 := hK4.has hH3 (fun hm => by have := hbl y (by simp [blocks, hm]); omega); have c4 := hH4.cell 4; clear hF4))
    | (go_at_call 46; ((with_reducible refine (hp5 _ (by exact L4.win)).mono ?_); rintro r W5 ⟨rfl, hF5, hK5⟩; have L5 := L4.on5 hF5 hK5; clear hF5)))
  go_end0
  exact ⟨rfl, L5, ((((kept1 hK1).trans (kept2 hK2)).trans (kept3 hK3)).trans (kept4 hK4)).trans (kept5 hK5)⟩
set_option maxHeartbeats 1000000 in
theorem reset_k (y bn : Nat) (Sn : List Nat) (bl : Nat) (Sl : List Nat) (bh : Nat) (Sh : List Nat) (bs : Nat) (Ss : List Nat) (bw : Nat) (Sw : List Nat) (a1 a2 a3 a4 a5 m : Nat) (h : List Int) (w : World)
    (L : ChainIs w y bn Sn bl Sl bh Sh bs Ss bw Sw a1 a2 a3 a4 a5 m h) :
    Calls Try.prog 16 #[.pointer (some ⟨y, 0, none⟩)] w fun r w' =>
      r = .returned (.tuple #[]) ∧ ChainIs w' y bn Sn bl Sl bh Sh bs Ss bw Sw a1 a2 a3 a4 a5 m [] ∧ Kept (y :: blocks Sn Sl Sh Ss Sw) w w' := by
  obtain ⟨hH, hF, hfar⟩ := L
  have hfo := forget_k y bn Sn bl Sl bh Sh bs Ss bw Sw a1 a2 a3 a4 a5 m _ _ _ _ _ _ _ w hF hfar hH
  have hbl := hF.below
  go_enter Try.func16, Try.ntmps16
  go_wp2_with (go_at_call 30; ((with_reducible refine hfo.mono ?_); rintro r W1 ⟨rfl, L1, hK1⟩; have hH1 := hK1.has hH (fun hm => by have := hbl y hm; omega); have c5 := hH1.cell 5; have f5 := hH1.frozen 5; have c6 := hH1.cell 6; have f6 := hH1.frozen 6))
  go_end0
  refine ⟨rfl, ⟨?_, (L1.set_ (p := ⟨y, 5, none⟩) hfar _).set_ (p := ⟨y, 6, none⟩) hfar _, hfar⟩, (((hK1.wide (T := y :: blocks Sn Sl Sh Ss Sw) (fun k hk _ => by simp [hk])).setCell (p := ⟨y, 5, none⟩) (.inl (by simp)) _).setCell (p := ⟨y, 6, none⟩) (.inl (by simp)) _)⟩
  have h9 := (hH1.set_ 5 (.int .i32 0)).set_ 6 (.bool false)
  rw [base_none]
  simpa using h9
theorem base_k (y bn : Nat) (Sn : List Nat) (bl : Nat) (Sl : List Nat) (bh : Nat) (Sh : List Nat) (bs : Nat) (Ss : List Nat) (bw : Nat) (Sw : List Nat) (a1 a2 a3 a4 a5 m : Nat) (h : List Int) (w : World)
    (L : ChainIs w y bn Sn bl Sl bh Sh bs Ss bw Sw a1 a2 a3 a4 a5 m h) :
    Calls Try.prog 14 #[.pointer (some ⟨y, 0, none⟩)] w fun r w' => r = .returned (.tuple #[.int .i32 (baseT h), .bool (!h.isEmpty)]) ∧ ∃ z, w' = w.drewN z := by
  have c5 := L.head.cell 5
  have c6 := L.head.cell 6
  generalize baseT h = B at *
  generalize h.isEmpty = E at *
  go_enter Try.func14, Try.ntmps14
  go_wp2
  go_quiet (fail)
  go_wp2
  go_ret2
  exact ⟨rfl, _, rfl⟩
theorem new_no (m : Int) (w : World) (h : m ≠ 0 ∧ m ≠ 50 ∧ m ≠ 60) :
    Calls Try.prog 8 #[.int .i64 m] w fun e w' => e = .returned (.tuple #[.pointer none, .int .i64 1]) ∧ w = w' := by
  have hw := Notch.new_no m w h
  go_enter Try.func8, Try.ntmps8
  go_wp2_with (go_at_call 19; ((with_reducible refine hw.mono ?_); rintro e w1 ⟨rfl, rfl⟩))
  go_ret2
  exact ⟨rfl, rfl⟩
set_option maxRecDepth 100000 in
set_option maxHeartbeats 1000000 in
theorem new_k {m : Nat} (hm : Known m) (w : World) :
    Calls Try.prog 8 #[.int .i64 (m : Nat)] w fun e w' => ∃ y bn Sn bl Sl bh Sh bs Ss bw Sw a1 a2 a3 a4 a5, e = .returned (.tuple #[.pointer (some ⟨y, 0, none⟩), .int .i64 0]) ∧
      ChainIs w' y bn Sn bl Sl bh Sh bs Ss bw Sw a1 a2 a3 a4 a5 m [] ∧ (∀ k ∈ y :: blocks Sn Sl Sh Ss Sw, w.heap.size ≤ k) ∧ Below w.heap.size w w' := by
  have h1 := fun W => Notch.new_core hm W
  have h2 := fun W => Low.new_core W
  have h3 := fun W => High.new_core W
  have h4 := fun W => Slope.new_core W
  have h5 := fun W => Win.new_core W
  unfold NewIs at h1 h2 h3 h4 h5
  go_enter Try.func8, Try.ntmps8
  go_wp2_with (first
    | (go_at_call 19; ((with_reducible refine (h1 _).mono ?_); rintro r W1 ⟨bn, Sn, rfl, F1, S1, B1⟩))
    | (go_at_call 20; ((with_reducible refine (h2 _).mono ?_); rintro r W2 ⟨bl, Sl, rfl, F2, S2, B2⟩))
    | (go_at_call 21; ((with_reducible refine (h3 _).mono ?_); rintro r W3 ⟨bh, Sh, rfl, F3, S3, B3⟩))
    | (go_at_call 22; ((with_reducible refine (h4 _).mono ?_); rintro r W4 ⟨bs, Ss, rfl, F4, S4, B4⟩))
    | (go_at_call 23; ((with_reducible refine (h5 _).mono ?_); rintro r W5 ⟨bw, Sw, rfl, F5, S5, B5⟩)))
  go_ret2
  have z1 := B1.size
  have z2 := B2.size
  have z3 := B3.size
  have z4 := B4.size
  have z5 := B5.size
  have e2 := Low.core.lt F2
  have e1 := (Notch.core m).lt F1
  have e3 := High.core.lt F3
  have e4 := Slope.core.lt F4
  have e5 := Win.core.lt F5
  have K1 : Kept [] W1 W5 := (((Kept.of_below (S := []) B2).trans (Kept.of_below B3)).trans (Kept.of_below B4)).trans (Kept.of_below B5)
  have K2 : Kept [] W2 W5 := ((Kept.of_below (S := []) B3).trans (Kept.of_below B4)).trans (Kept.of_below B5)
  have K3 : Kept [] W3 W5 := (Kept.of_below (S := []) B4).trans (Kept.of_below B5)
  have K4 : Kept [] W4 W5 := Kept.of_below (S := []) B5
  have hF5 : Filters W5 bn Sn bl Sl bh Sh bs Ss bw Sw W1.heap.size W2.heap.size W3.heap.size W4.heap.size W5.heap.size m [] [] [] [] [] :=
    ⟨(Notch.core m).kept F1 K1 (fun k _ h => by cases h), Low.core.kept F2 K2 (fun k _ h => by cases h), High.core.kept F3 K3 (fun k _ h => by cases h), Slope.core.kept F4 K4 (fun k _ h => by cases h), F5,
      e1, (fun k hk => ⟨S2 k hk, e2 k hk⟩), (fun k hk => ⟨S3 k hk, e3 k hk⟩), (fun k hk => ⟨S4 k hk, e4 k hk⟩), (fun k hk => ⟨S5 k hk, e5 k hk⟩), by omega⟩
  have hB5 : Below w.heap.size w W5 := (((B1.trans (B2.mono z1)).trans (B3.mono (by omega))).trans (B4.mono (by omega))).trans (B5.mono (by omega))
  have h9 := Has.new (W5.alloc (.cells #[.pointer (some ⟨bn, 0, none⟩), .pointer (some ⟨bl, 0, none⟩), .pointer (some ⟨bh, 0, none⟩), .pointer (some ⟨bs, 0, none⟩), .pointer (some ⟨bw, 0, none⟩)] 60)) 62 #[.pointer (some ⟨bn, 0, none⟩), .pointer (some ⟨bl, 0, none⟩), .pointer (some ⟨bh, 0, none⟩), .pointer (some ⟨bs, 0, none⟩), .pointer (some ⟨bw, 0, none⟩), .int .i32 0, .bool false]
  rw [show (W5.alloc (.cells #[.pointer (some ⟨bn, 0, none⟩), .pointer (some ⟨bl, 0, none⟩), .pointer (some ⟨bh, 0, none⟩), .pointer (some ⟨bs, 0, none⟩), .pointer (some ⟨bw, 0, none⟩)] 60)).heap.size = W5.heap.size + 1 by simp] at h9
  refine ⟨_, bn, Sn, bl, Sl, bh, Sh, bs, Ss, bw, Sw, _, _, _, _, _, rfl, ⟨h9, (hF5.alloc _).alloc _, by omega⟩, fun k hk => ?_, (hB5.alloc hB5.size _).alloc (by have := hB5.size; simp; omega) _⟩
  rcases List.mem_cons.1 hk with rfl | hk
  · omega
  · unfold blocks at hk
    rw [List.mem_append, List.mem_append, List.mem_append, List.mem_append] at hk
    rcases hk with hk | hk | hk | hk | hk
    · exact S1 k hk
    · have := S2 k hk; omega
    · have := S3 k hk; omega
    · have := S4 k hk; omega
    · have := S5 k hk; omega
theorem no_push (v : Int) (w : World) : Calls Try.prog 17 #[.pointer none, .int .i32 v] w fun e w' => e = .returned (waveV noWave) ∧ Below w.heap.size w w' := by
  go_enter Try.func17, Try.ntmps17
  go_wp2
  refine bodyPost_ret (v := waveV noWave) (by simp [results, Try.results17, go_sem, waveV, noWave]) rfl ⟨rfl, (Below.refl _ w).alloc (Nat.le_refl _) _⟩
theorem no_block (A : Option Addr) (n c : Nat) (w : World) : Calls Try.prog 12 #[.pointer none, .slice A n c] w fun e w' => ∃ B d, e = .returned (.slice B 0 d) ∧ Below w.heap.size w w' := by
  go_enter Try.func12, Try.ntmps12
  go_wp2
  go_ret
  exact ⟨_, _, rfl, Below.refl _ _⟩
theorem no_reset (w : World) : Calls Try.prog 16 #[.pointer none] w fun e w' => e = .returned (.tuple #[]) ∧ w = w' := by
  go_enter Try.func16, Try.ntmps16
  go_wp2
  exact bodyPost_ret (results_none rfl _ _ _) rfl ⟨rfl, rfl⟩
theorem no_base (w : World) : Calls Try.prog 14 #[.pointer none] w fun e w' => e = .returned (.tuple #[.int .i32 0, .bool false]) ∧ w = w' := by
  go_enter Try.func14, Try.ntmps14
  go_wp2
  go_ret2
  exact ⟨rfl, rfl⟩
/-! ### A chain, by its block and what came -/
theorem fil_lt {m : Nat} {w : World} {b : Nat} {S : List Nat} {h : List Int} (hF : Fil m w b S h) : ∀ k ∈ S, k < w.heap.size := by
  obtain ⟨bn, Sn, bl, Sl, bh, Sh, bs, Ss, bw, Sw, a1, a2, a3, a4, a5, rfl, hH, hf, hfar⟩ := hF
  intro k hk
  rcases List.mem_cons.1 hk with rfl | hk
  · exact hH.lt
  · have := hf.below k hk
    have := hf.le_
    omega
theorem fil_kept {m : Nat} {w w' : World} {b : Nat} {S T : List Nat} {h : List Int} (hF : Fil m w b S h) (hK : Kept T w w') (hd : ∀ k ∈ S, k ∉ T) : Fil m w' b S h := by
  obtain ⟨bn, Sn, bl, Sl, bh, Sh, bs, Ss, bw, Sw, a1, a2, a3, a4, a5, rfl, hH, hf, hfar⟩ := hF
  refine ⟨bn, Sn, bl, Sl, bh, Sh, bs, Ss, bw, Sw, a1, a2, a3, a4, a5, rfl, hK.has hH (hd _ (by simp)), ?_, hfar⟩
  have hd2 : ∀ k ∈ blocks Sn Sl Sh Ss Sw, k ∉ T := fun k hk => hd k (by simp [hk])
  unfold blocks at hd2
  obtain ⟨h1, h2, h3, h4, h5, i1, i2, i3, i4, i5, hle⟩ := hf
  exact ⟨(Notch.core m).kept h1 hK (fun k hk => hd2 k (by simp [hk])), Low.core.kept h2 hK (fun k hk => hd2 k (by simp [hk])), High.core.kept h3 hK (fun k hk => hd2 k (by simp [hk])),
    Slope.core.kept h4 hK (fun k hk => hd2 k (by simp [hk])), Win.core.kept h5 hK (fun k hk => hd2 k (by simp [hk])), i1, i2, i3, i4, i5, by have := hK.size; omega⟩
theorem push_any {m : Nat} (b : Nat) (S : List Nat) (h : List Int) (v : Int) (w : World) (hF : Fil m w b S h) (hv : -2147483648 ≤ v ∧ v ≤ 2147483647) :
    Calls Try.prog 17 #[.pointer (some ⟨b, 0, none⟩), .int .i32 v] w fun e w' => e = .returned (waveV (waveT m (v :: h))) ∧ Fil m w' b S (v :: h) ∧ Kept S w w' := by
  obtain ⟨bn, Sn, bl, Sl, bh, Sh, bs, Ss, bw, Sw, a1, a2, a3, a4, a5, rfl, L⟩ := hF
  exact (push_k b bn Sn bl Sl bh Sh bs Ss bw Sw a1 a2 a3 a4 a5 m h v w L hv).mono fun e w' ⟨h1, h2, h3⟩ => ⟨h1, ⟨bn, Sn, bl, Sl, bh, Sh, bs, Ss, bw, Sw, a1, a2, a3, a4, a5, rfl, h2⟩, h3⟩
theorem reset_any {m : Nat} (b : Nat) (S : List Nat) (h : List Int) (w : World) (hF : Fil m w b S h) :
    Calls Try.prog 16 #[.pointer (some ⟨b, 0, none⟩)] w fun e w' => e = .returned (.tuple #[]) ∧ Fil m w' b S [] ∧ Kept S w w' := by
  obtain ⟨bn, Sn, bl, Sl, bh, Sh, bs, Ss, bw, Sw, a1, a2, a3, a4, a5, rfl, L⟩ := hF
  exact (reset_k b bn Sn bl Sl bh Sh bs Ss bw Sw a1 a2 a3 a4 a5 m h w L).mono fun e w' ⟨h1, h2, h3⟩ => ⟨h1, ⟨bn, Sn, bl, Sl, bh, Sh, bs, Ss, bw, Sw, a1, a2, a3, a4, a5, rfl, h2⟩, h3⟩
theorem base_any {m : Nat} (b : Nat) (S : List Nat) (h : List Int) (w : World) (hF : Fil m w b S h) :
    Calls Try.prog 14 #[.pointer (some ⟨b, 0, none⟩)] w fun e w' => e = .returned (.tuple #[.int .i32 (baseT h), .bool (!h.isEmpty)]) ∧ ∃ z, w' = w.drewN z := by
  obtain ⟨bn, Sn, bl, Sl, bh, Sh, bs, Ss, bw, Sw, a1, a2, a3, a4, a5, rfl, L⟩ := hF
  exact base_k b bn Sn bl Sl bh Sh bs Ss bw Sw a1 a2 a3 a4 a5 m h w L
theorem new_any {m : Nat} (hm : Known m) (w : World) :
    Calls Try.prog 8 #[.int .i64 (m : Nat)] w fun e w' => ∃ b S, e = .returned (.tuple #[.pointer (some ⟨b, 0, none⟩), .int .i64 0]) ∧ NewIs (Fil m) w b S w' :=
  (new_k hm w).mono fun e w' ⟨y, bn, Sn, bl, Sl, bh, Sh, bs, Ss, bw, Sw, a1, a2, a3, a4, a5, h1, h2, h3, h4⟩ => ⟨y, _, h1, ⟨bn, Sn, bl, Sl, bh, Sh, bs, Ss, bw, Sw, a1, a2, a3, a4, a5, rfl, h2⟩, h3, h4⟩
end Go.Proofs.Ytejlhdmfcmhlaaa.Chain
end
section
/- Waves as they lie; the landed chain's Block. -/
set_option linter.unusedSimpArgs false
set_option linter.unusedVariables false
namespace Go.Proofs.Ytejlhdmfcmhlaaa.Chain
open Go.RowKit
def waveS : Row.Shape Wave := ⟨4, fun v => [.int .i64 v.1, .int .i64 v.2.1, .int .i64 v.2.2.1, .int .i64 v.2.2.2], fun _ => rfl, by decide, fun p u hu => by
  simp at hu
  rcases hu with rfl | rfl | rfl | rfl <;> rfl⟩
set_option maxRecDepth 100000 in
theorem madeW (m : Nat) (hm : m ≤ 100000) (W : World) : ∃ cs : Array Value, cs.size = m * 4 ∧ (Instr.makeSlice 30 (.int .i64 0) (.int .i64 (m : Int))).run Try.prog W =
    .ok (.slice (some ⟨W.heap.size, 0, none⟩) 0 m) (W.alloc (.cells cs 39)) := by
  obtain ⟨i, hi, hz, h1, h2⟩ : ∃ i, Try.prog.info? 39 = some i ∧ i.zero = some (Value.agg #[.int .i64 0, .int .i64 0, .int .i64 0, .int .i64 0]) ∧ i.size = 4 ∧ i.bytes ≤ 64 := by
    refine ⟨_, rfl, ?_, ?_, ?_⟩ <;> first | rfl | decide
  have hr := run_make (P := Try.prog) W 30 39 i _ Try.underlying30 hi hz .i64 .i64 0 (m : Int) (by omega) (by omega) (by
    have : (i.bytes : Int) * (m : Int) ≤ 64 * 100000 := Int.mul_le_mul (by omega) (by omega) (by omega) (by omega)
    omega) (by omega)
  simp only [Int.toNat_natCast, Int.toNat_zero, h1] at hr
  exact ⟨_, by simp [madeCells], hr⟩
theorem own_madeW (W : World) (t : TypeId) (n : Nat) (hn : n ≤ 100000) (cs : Array Value) (hc : cs.size = n * 4) : World.ownsRow (W.alloc (.cells cs t)) W.heap.size t 4 (.slice (some ⟨W.heap.size, 0, none⟩) 0 n) 0 (Row.flat waveS []) :=
  ⟨rfl, .inr ⟨_, n, _, rfl, Nat.le_refl _, Has.new W t _, by omega, by unfold maxLen; omega, by simp [hc], by simp [Row.flat]⟩⟩
/-- What a Block answers: the waves, in memory of their own; of what was there only the chain's blocks turn. -/
def WavesIs (m : Nat) (w : World) (b : Nat) (S : List Nat) (h ys : List Int) (e : Ending) (w' : World) : Prop :=
  ∃ B d, e = .returned (.slice B ys.length d) ∧ ys.length ≤ d ∧ d ≤ 9223372036854775807 ∧ Row.Vals waveS w' B ys.length (wavesT m h ys) ∧ (∀ x, B = some x → w.heap.size ≤ x.block) ∧ Fil m w' b S (ys.reverse ++ h) ∧ Kept S w w'
set_option maxRecDepth 100000 in
set_option maxHeartbeats 1000000 in
theorem block_any {m : Nat} (b : Nat) (S : List Nat) (h : List Int) (A : Option Addr) (n c : Nat) (ys : List Int) (w : World) (hF : Fil m w b S h) (hv : RI32.Vals w A n ys) (hy : ∀ v ∈ ys, -2147483648 ≤ v ∧ v ≤ 2147483647) (hn : n ≤ 100000) (hc : n ≤ c) (hc2 : c ≤ 9223372036854775807) (hfar : 0 < n → ∀ x, A = some x → x.block ∉ S) :
    Calls Try.prog 12 #[.pointer (some ⟨b, 0, none⟩), .slice A n c] w (WavesIs m w b S h ys) := by
  have hlen := hv.len_
  have hInfo : (Try.prog.info? 39).map (fun i => (i.zero, i.size, i.bytes)) = some (some (.agg #[.int .i64 0, .int .i64 0, .int .i64 0, .int .i64 0]), 4, 32) := by kernel_rfl
  have HInfo := Lib.hid hInfo
  obtain ⟨cs, hcs, hmk⟩ := madeW n hn w
  have hlt := fil_lt hF
  have hO0 := own_madeW w 39 n hn cs hcs
  have hF0 : Fil m (w.alloc (.cells cs 39)) b S h := fil_kept hF ((Kept.refl [] w).alloc _) (fun _ _ h => by cases h)
  have hK0 : Kept S w (w.alloc (.cells cs 39)) := (Kept.refl S w).alloc _
  unfold WavesIs
  rw [hlen]
  have HLEN := Lib.hid hlen
  clear hInfo hlen hF hcs
  go_enter Try.func12, Try.ntmps12
  go_wp2
  go_loopw [5, 15] (fun v i wr => ∃ j : Nat, j ≤ n ∧ i = .int .i64 (j : Nat) ∧ wr.ownsRow w.heap.size 39 4 v j (Row.flat waveS (wavesT m h (ys.take j))) ∧ Fil m wr b S ((ys.take j).reverse ++ h) ∧ Kept S w wr) (fun _ i _ => n - (intOf i).toNat)
  case atStart => exact ⟨0, by omega, rfl, hO0, hF0, hK0⟩
  case round =>
    clear hO0 hF0 hK0 hmk
    obtain ⟨j, hj, rfl, hO, hFj, hK⟩ := hrel
    by_cases hjn : j < n
    · obtain ⟨x, rfl, hcx⟩ := (hv.kept hK hfar).cells (by omega)
      have hcell := hcx j hjn
      have hyj : -2147483648 ≤ ys.getD j 0 ∧ ys.getD j 0 ≤ 2147483647 := by
        rw [List.getD_eq_getElem?_getD, List.getElem?_eq_getElem (by have := HLEN.out; omega)]
        exact hy _ (List.getElem_mem _)
      have hpu := push_any b S ((ys.take j).reverse ++ h) (ys.getD j 0) wr hFj hyj
      have hst := waves_step m h ys j (by have := HLEN.out; omega)
      rw [came_step h ys j (by have := HLEN.out; omega)] at hpu
      obtain ⟨vh, vs, vq, vw, hwv⟩ : ∃ vh vs vq vw, waveT m ((ys.take (j + 1)).reverse ++ h) = (vh, vs, vq, vw) := ⟨_, _, _, _, rfl⟩
      rw [hwv] at hst hpu
      rw [show waveV (vh, vs, vq, vw) = .agg #[.int .i64 vh, .int .i64 vs, .int .i64 vq, .int .i64 vw] from rfl] at hpu
      generalize ys.getD j 0 = y at *
      have HS := Lib.hid hst
      clear hst hwv hcx hv hfar hyj hy
      have hready : ∀ W1, Fil m W1 b S ((ys.take (j + 1)).reverse ++ h) → Kept S wr W1 → (W1.alloc (.cells #[.int .i64 vh, .int .i64 vs, .int .i64 vq, .int .i64 vw] 39)).ownsRow w.heap.size 39 4 u5 j (Row.flat waveS (wavesT m h (ys.take j))) ∧ Row.Vals waveS (W1.alloc (.cells #[.int .i64 vh, .int .i64 vs, .int .i64 vq, .int .i64 vw] 39)) (some ⟨W1.heap.size, 0, none⟩) 1 [(vh, vs, vq, vw)] ∧ w.heap.size ≤ (W1.alloc (.cells #[.int .i64 vh, .int .i64 vs, .int .i64 vq, .int .i64 vw] 39)).heap.size ∧ Fil m (W1.alloc (.cells #[.int .i64 vh, .int .i64 vs, .int .i64 vq, .int .i64 vw] 39)) b S ((ys.take (j + 1)).reverse ++ h) ∧ Kept S w (W1.alloc (.cells #[.int .i64 vh, .int .i64 vs, .int .i64 vq, .int .i64 vw] 39)) := fun W1 h1 h2 =>
        ⟨own_kept (own_kept hO h2 hlt) ((Kept.refl [] _).alloc _) (by simp), Row.Vals.has (ys := [(vh, vs, vq, vw)]) (tl := []) (Has.new W1 _ _), ((hK.trans h2).alloc _).size, fil_kept h1 ((Kept.refl [] _).alloc _) (fun _ _ h => by cases h), (hK.trans h2).alloc _⟩
      have HR := Lib.hid hready
      clear hready hFj
      go_wp2_with (first
        | (go_at_call 17; ((with_reducible refine hpu.mono ?_); rintro e W1 ⟨rfl, hF1, hK1⟩; obtain ⟨hO2, hV2, hz2, hF2, hK2⟩ := HR.out W1 hF1 hK1))
        | (at_builtin; refine Row.wpList_append (S := waveS) rfl (.tmp 19) (.tmp 23) _ rfl w.heap.size 39 _ 32 (by omega) Try.underlying30 HInfo.out (by kernel_rfl) u5 j (wavesT m h (ys.take j)) rfl (by exact hO2) _ 1 1 [(vh, vs, vq, vw)] rfl (by exact hV2) (by omega) (by exact hz2) ?_; intro v3 W3 hO3 hg3 hat3; have hK3 := Kept.of_grown hg3; have hF3 := fil_kept hF2 hK3 (fun k hk => own_apart hO2 (hlt k hk)); have hK4 := hK2.grown hg3 (fun k hk => .inr (own_block hO2 k hk).1); rw [← HS.out] at hO3))
      go_roundw
      case rel => exact ⟨j + 1, by omega, by go_num, hO3, hF3, hK4⟩
      case measure => simp [intOf]; omega
    · obtain rfl : j = n := by omega
      have HT := Lib.hid (show ys.take j = ys from List.take_of_length_le (by have := HLEN.out; omega))
      rw [HT.out] at hO hFj
      obtain ⟨A1, c1, rfl, e1, e2, hV1, hfar1, _⟩ := Row.Vals.own hO
      clear hv hfar
      go_wp2
      go_ret
      exact ⟨A1, c1, rfl, e1, e2, hV1, (fun x hx => (hfar1 x hx).1), hFj, hK⟩
end Go.Proofs.Ytejlhdmfcmhlaaa.Chain
end
section
/- Waves: their cells, == and != on them, Zero, and the reference's Same. -/
set_option linter.unusedSimpArgs false
set_option linter.unusedVariables false
namespace Go.Proofs.Ytejlhdmfcmhlaaa.Chain
open Go.RowKit
/-- A cell of an element behind its first. -/
theorem part_at {α : Type} {S : Row.Shape α} {w : World} {x : Addr} {len : Nat} {ys : List α} (h : Row.Vals S w (some x) len ys) (i m : Nat) (hi : i < ys.length) (u : Value) (hu : (S.enc ys[i])[m]? = some u) (h0 : m ≠ 0) :
    w.cell? ⟨(x.add (i * S.k)).block, (x.add (i * S.k)).off + m, none⟩ = some u := by
  have h1 := h.at_ i m hi u hu
  rwa [show x.add (i * S.k + m) = ⟨(x.add (i * S.k)).block, (x.add (i * S.k)).off + m, none⟩ by
    unfold Addr.add
    by_cases h2 : i * S.k = 0 <;> simp [h2, h0, Nat.add_assoc]] at h1
theorem wave_cells {w : World} {x : Addr} {len : Nat} {ys : List Wave} (h : Row.Vals waveS w (some x) len ys) (i : Nat) (hi : i < len) :
    w.cell? (x.add (i * 4)) = some (.int .i64 (ys.getD i noWave).1) ∧ w.cell? ⟨(x.add (i * 4)).block, (x.add (i * 4)).off + 1, none⟩ = some (.int .i64 (ys.getD i noWave).2.1) ∧
    w.cell? ⟨(x.add (i * 4)).block, (x.add (i * 4)).off + 2, none⟩ = some (.int .i64 (ys.getD i noWave).2.2.1) ∧ w.cell? ⟨(x.add (i * 4)).block, (x.add (i * 4)).off + 3, none⟩ = some (.int .i64 (ys.getD i noWave).2.2.2) := by
  have hl := h.len_
  have e : ys.getD i noWave = ys[i]'(by omega) := by rw [List.getD_eq_getElem?_getD, List.getElem?_eq_getElem (by omega)]; rfl
  rw [e]
  exact ⟨by simpa [waveS] using h.at_ i 0 (by omega) _ rfl, part_at h i 1 (by omega) _ rfl (by omega), part_at h i 2 (by omega) _ rfl (by omega), part_at h i 3 (by omega) _ rfl (by omega)⟩
theorem wave_cells_at {w : World} {x : Addr} {len : Nat} {ys : List Wave} (h : Row.Vals waveS w (some x) len ys) (i o : Nat) (hi : i < len) (ho : o = i * 4) (h0 : o ≠ 0) :
    w.cell? ⟨x.block, x.off + o, none⟩ = some (.int .i64 (ys.getD i noWave).1) ∧ w.cell? ⟨x.block, x.off + o + 1, none⟩ = some (.int .i64 (ys.getD i noWave).2.1) ∧ w.cell? ⟨x.block, x.off + o + 2, none⟩ = some (.int .i64 (ys.getD i noWave).2.2.1) ∧ w.cell? ⟨x.block, x.off + o + 3, none⟩ = some (.int .i64 (ys.getD i noWave).2.2.2) := by
  have h1 := wave_cells h i hi
  subst ho
  unfold Addr.add at h1
  rw [if_neg h0] at h1
  exact h1
theorem neq_wave (W : World) (a b c d a' b' c' d' : Int) : (binOp .neq 39 (.agg #[.int .i64 a, .int .i64 b, .int .i64 c, .int .i64 d]) (.agg #[.int .i64 a', .int .i64 b', .int .i64 c', .int .i64 d'])).run Try.prog W = .ok (.bool (!decide (a = a' ∧ b = b' ∧ c = c' ∧ d = d'))) W := by
  have ht : Try.prog.underlying 39 = some (.struct (Try.prog.fieldsOf 39)) := by kernel_rfl
  have hst : Try.prog.stoodInHeld 39 = false := by kernel_rfl
  rw [run_neq_struct, run_equalIn_agg W 9999 39 _ _ ht hst]
  simp only [Program.fieldsOf, Try.underlying39]
  simp [go_sem, Op.eqFields]
  by_cases h1 : a = a' <;> by_cases h2 : b = b' <;> by_cases h3 : c = c' <;> by_cases h4 : d = d' <;> simp [h1, h2, h3, h4]
theorem guard_neq (W : World) (x y : Operand) (a b c d a' b' c' d' : Int) : (eqGuard .neq 39 x y (.agg #[.int .i64 a, .int .i64 b, .int .i64 c, .int .i64 d]) (.agg #[.int .i64 a', .int .i64 b', .int .i64 c', .int .i64 d'])).run Try.prog W = .ok () W := run_eqGuard_agg W _ _ _ _ _ _ (by kernel_rfl)
theorem eql_wave (W : World) (a b c d a' b' c' d' : Int) : (binOp .eql 39 (.agg #[.int .i64 a, .int .i64 b, .int .i64 c, .int .i64 d]) (.agg #[.int .i64 a', .int .i64 b', .int .i64 c', .int .i64 d'])).run Try.prog W = .ok (.bool (decide (a = a' ∧ b = b' ∧ c = c' ∧ d = d'))) W := by
  have ht : Try.prog.underlying 39 = some (.struct (Try.prog.fieldsOf 39)) := by kernel_rfl
  have hst : Try.prog.stoodInHeld 39 = false := by kernel_rfl
  rw [run_eql_struct, run_equalIn_agg W 9999 39 _ _ ht hst]
  simp only [Program.fieldsOf, Try.underlying39]
  simp [go_sem, Op.eqFields]
  by_cases h1 : a = a' <;> by_cases h2 : b = b' <;> by_cases h3 : c = c' <;> by_cases h4 : d = d' <;> simp [h1, h2, h3, h4]
theorem guard_eql (W : World) (x y : Operand) (a b c d a' b' c' d' : Int) : (eqGuard .eql 39 x y (.agg #[.int .i64 a, .int .i64 b, .int .i64 c, .int .i64 d]) (.agg #[.int .i64 a', .int .i64 b', .int .i64 c', .int .i64 d'])).run Try.prog W = .ok () W := run_eqGuard_agg W _ _ _ _ _ _ (by kernel_rfl)
/-- Are all four 0? -/
theorem zero_any (a b c d : Int) (w : World) : Calls Try.prog 18 #[.agg #[.int .i64 a, .int .i64 b, .int .i64 c, .int .i64 d]] w fun e w' => e = .returned (.bool (decide (a = 0) && (decide (b = 0) && (decide (c = 0) && decide (d = 0))))) ∧ Below w.heap.size w w' := by
  have hg := fun (W : World) (x y : Operand) => guard_eql W x y a b c d 0 0 0 0
  have hc := fun (W : World) => eql_wave W a b c d 0 0 0 0
  have hH := Has.new w 39 #[.int .i64 a, .int .i64 b, .int .i64 c, .int .i64 d]
  have c0 := hH.cell 0
  have c1 := hH.cell 1
  have c2 := hH.cell 2
  have c3 := hH.cell 3
  have hB := (Below.refl w.heap.size w).alloc (Nat.le_refl _) (.cells #[.int .i64 a, .int .i64 b, .int .i64 c, .int .i64 d] 39)
  clear hH
  go_enter Try.func18, Try.ntmps18
  go_wp2
  go_ret
  exact ⟨rfl, hB⟩
set_option maxHeartbeats 1000000 in
theorem same_yes (A B : Option Addr) (n c d : Nat) (ys : List Wave) (w : World) (hv : Row.Vals waveS w A n ys) (hu : Row.Vals waveS w B n ys) (hn : n ≤ 1000000) :
    Calls Try.prog 11 #[.slice A n c, .slice B n d] w fun e w' => e = .returned (.bool true) ∧ ∃ z, w' = w.drewN z := by
  go_enter Try.func11, Try.ntmps11
  go_wp2
  go_loopw [5] (fun i wr => (∃ k : Nat, k ≤ n ∧ i = .int .i64 (k : Nat)) ∧ ∃ z, wr = w.drewN z) (fun i _ => n - (intOf i).toNat)
  case atStart => exact ⟨⟨0, by omega, rfl⟩, 0, rfl⟩
  case round =>
    obtain ⟨⟨k, hk, rfl⟩, z, rfl⟩ := hrel
    by_cases hlt : k < n
    · obtain ⟨x, rfl, _⟩ := hv.cells (by omega)
      obtain ⟨y, rfl, _⟩ := hu.cells (by omega)
      obtain ⟨x0, x1, x2, x3⟩ := wave_cells hv k hlt
      obtain ⟨y0, y1, y2, y3⟩ := wave_cells hu k hlt
      generalize (ys.getD k noWave).1 = a at *
      generalize (ys.getD k noWave).2.1 = b at *
      generalize (ys.getD k noWave).2.2.1 = p at *
      generalize (ys.getD k noWave).2.2.2 = q at *
      have hg := fun (W : World) (x y : Operand) => guard_neq W x y a b p q a b p q
      have hc : ∀ W : World, (binOp .neq 39 (.agg #[.int .i64 a, .int .i64 b, .int .i64 p, .int .i64 q]) (.agg #[.int .i64 a, .int .i64 b, .int .i64 p, .int .i64 q])).run Try.prog W = .ok (.bool false) W := fun W => by rw [neq_wave]; simp
      clear hu hv
      go_wp2
      go_quiet (fail)
      go_wp2
      go_roundw
      case rel => exact ⟨⟨k + 1, by omega, by go_num⟩, _, by first | rfl | rw [World.drewN_drewN]⟩
      case measure => simp [intOf]; omega
    · obtain rfl : k = n := by omega
      clear hu hv
      go_wp2
      go_ret
      exact ⟨rfl, z, rfl⟩
end Go.Proofs.Ytejlhdmfcmhlaaa.Chain
end
section
/- The chapter's example of layer 15, and a step behind it: so it is. -/
set_option linter.unusedSimpArgs false
set_option linter.unusedVariables false
namespace Go.Proofs.Ytejlhdmfcmhlaaa.Chain
open Go.RowKit
/-- What comes in the example: 500 again and again. -/
theorem rep_step (k : Nat) (v : Int) : v :: List.replicate k v = List.replicate (k + 1) v := rfl
/-- The step's samples. -/
def stepL : List Int := List.replicate 22 900
theorem step_out : waveT 0 (stepL.reverse ++ (List.replicate 20 500)) = (23, 52, 2704, 233) := by decide +kernel
set_option maxRecDepth 100000 in
set_option maxHeartbeats 1000000 in
theorem live_k (w : World) : Calls Try.prog 10 #[] w fun e w' => e = .returned (.bool true) ∧ Below w.heap.size w w' := by
  have hnew := new_any (m := 0) (.inl rfl) w
  unfold NewIs at hnew
  rw [show ((0 : Nat) : Int) = 0 from rfl] at hnew
  go_enter Try.func10, Try.ntmps10
  go_wp2_with (go_at_call 8; ((with_reducible refine hnew.mono ?_); rintro e w1 ⟨b, S, rfl, hF, hS, hB⟩))
  go_loopw [10] (fun i wr => ∃ k : Nat, k ≤ 20 ∧ i = .int .i64 (k : Nat) ∧ Fil 0 wr b S (List.replicate k 500) ∧ Below w.heap.size w wr) (fun i _ => 20 - (intOf i).toNat)
  case atStart => exact ⟨0, by omega, rfl, hF, hB⟩
  case round =>
    clear hF hnew hB
    obtain ⟨k, hk, rfl, hF, hB⟩ := hrel
    by_cases hkn : k < 20
    · have hpu := push_any b S (List.replicate k 500) 500 wr hF (by omega)
      have hev := wave_even 0 (k + 1) 500
      rw [rep_step, hev] at hpu
      have hz := fun W => zero_any 0 0 0 0 W
      have hkz : (k : Int) < 20 := by omega
      clear hF hev
      rw [show waveV noWave = .agg #[.int .i64 0, .int .i64 0, .int .i64 0, .int .i64 0] from rfl] at hpu
      go_wp2_with (first
        | (go_at_call 17; ((with_reducible refine hpu.mono ?_); rintro e W4 ⟨rfl, hF4, hK4⟩; have hB4 := below_kept hB hK4 hB.size hS))
        | (go_at_call 18; ((with_reducible refine (hz _).mono ?_); rintro e W5 ⟨rfl, hB5⟩; have hF5 := fil_kept hF4 (Kept.of_below (S := []) hB5) (fun _ _ h => by cases h); have hB6 := hB4.trans (hB5.mono hB4.size))))
      go_roundw
      case rel => exact ⟨k + 1, by omega, by go_num, hF5, hB6⟩
      case measure => simp [intOf]; omega
    · obtain rfl : k = 20 := by omega
      have hV1 : RI32.Vals (wr.alloc (.cells (Array.replicate 22 (.int .i32 900)) 21)) (some ⟨wr.heap.size, 0, none⟩) 22 stepL := RI32.Vals.has (ys := stepL) (tl := []) (Has.new wr _ _)
      have hF1 : Fil 0 (wr.alloc (.cells (Array.replicate 22 (.int .i32 900)) 21)) b S (List.replicate 20 500) := fil_kept hF ((Kept.refl [] wr).alloc _) (fun _ _ h => by cases h)
      have hB1 : Below w.heap.size w (wr.alloc (.cells (Array.replicate 22 (.int .i32 900)) 21)) := hB.alloc hB.size _
      have hlt := fil_lt hF
      have hbl := block_any b S (List.replicate 20 500) (some ⟨wr.heap.size, 0, none⟩) 22 22 stepL _ hF1 hV1 (fun v hv => by rw [(List.mem_replicate.1 hv).2]; omega) (by omega) (by omega) (by omega) (fun _ x hx hm => by injection hx with hx; subst hx; have := hlt _ hm; simp at this)
      unfold WavesIs at hbl
      have hz := fun W => zero_any 23 52 2704 233 W
      clear hV1 hF1 hF hlt hB
      go_wp2_with (first
        | (go_at_call 12; ((refine Calls.mono (by exact hbl) ?_); rintro e W2 ⟨B2, d2, rfl, _, _, hV2, hf2, hF2, hK2⟩; have hC2 := below_kept hB1 hK2 hB1.size hS; obtain ⟨x2, rfl, _⟩ := hV2.cells (by simp [stepL]); have q := wave_cells_at hV2 21 84 (by simp [stepL]) rfl (by omega); rw [waves_at 0 _ stepL 21 (by simp [stepL]), show stepL.take (21 + 1) = stepL from rfl, step_out] at q; obtain ⟨q0, q1, q2, q3⟩ := q; clear hV2))
        | (go_at_call 18; ((with_reducible refine (hz _).mono ?_); rintro e W5 ⟨rfl, hB5⟩; have hC5 := hC2.trans (hB5.mono hC2.size); replace q3 := (hB5.cell (World.block_lt_of_cell? _ _ q3)).trans q3)))
      go_ret
      exact ⟨rfl, hC5⟩
end Go.Proofs.Ytejlhdmfcmhlaaa.Chain
end
