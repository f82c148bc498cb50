/- The landed notch: what its memory holds, and what its calls answer and do. -/
import Derived.Test.YthfddociljeolaaFilterKit
import Derived.Test.YthfddociljeolaaNotchMath
import Derived.Test.YthfddociljeolaaLinePush
import Derived.Test.YthfddociljeolaaFixqA
import Derived.Test.YthfddociljeolaaFilterRef
import Derived.Test.YthfddociljeolaaOwn
import Derived.Test.YthfddociljeolaaRegion
import Derived.Laws.MakeOwn
set_option linter.unusedSimpArgs false
set_option linter.unusedVariables false
namespace Go.Proofs.Ythfddociljeolaa.Notch
open Go.RowKit RI64
/-- Block y is a notch's struct for mains m: over a line at x (its ring at b and g, n slots), with its weights in block q. -/
structure NotchIs (w : World) (y q x b g n m : Nat) (h : List Int) : Prop where
  head : Has w y 43 #[.pointer (some ⟨x, 0, none⟩), .int .i64 m, .slice (some ⟨q, 0, none⟩) (weightsT m).length (weightsT m).length, .int .i64 (logT m : Nat)]
  weights : Has w q 2 (vals (weightsT m)).toArray
  line : Line w x b g n ((weightsT m).length - 1) (h.map (nearTo 65535))
  known : Known m
  ne_ : y ≠ q ∧ y ≠ x ∧ y ≠ b ∧ y ≠ g ∧ q ≠ x ∧ q ≠ b ∧ q ≠ g
section
variable {w w' : World} {y q x b g n m : Nat} {h : List Int}
theorem NotchIs.kept {S : List Nat} (L : NotchIs w y q x b g n m h) (hk : Kept S w w') (h1 : y ∉ S) (h2 : q ∉ S) (h3 : x ∉ S) (h4 : b ∉ S) (h5 : g ∉ S) : NotchIs w' y q x b g n m h := ⟨hk.has L.head h1, hk.has L.weights h2, L.line.kept hk h3 h4 h5, L.known, L.ne_⟩
theorem NotchIs.lt_ (L : NotchIs w y q x b g n m h) : y < w.heap.size ∧ q < w.heap.size ∧ x < w.heap.size ∧ b < w.heap.size ∧ g < w.heap.size := ⟨L.head.lt, L.weights.lt, L.line.lt_⟩
theorem NotchIs.cells (L : NotchIs w y q x b g n m h) : w.cell? ⟨y, 0, none⟩ = some (.pointer (some ⟨x, 0, none⟩)) ∧ w.cell? ⟨y, 1, none⟩ = some (.int .i64 m) ∧ w.cell? ⟨y, 2, none⟩ = some (.slice (some ⟨q, 0, none⟩) (weightsT m).length (weightsT m).length) ∧ w.cell? ⟨y, 3, none⟩ = some (.int .i64 (logT m : Nat)) :=
  ⟨L.head.cell 0, L.head.cell 1, L.head.cell 2, L.head.cell 3⟩
end
def Fil (m : Nat) (w : World) (y : Nat) (S : List Nat) (h : List Int) : Prop := ∃ q x b g n, S = [y, q, x, b, g] ∧ NotchIs w y q x b g n m h
/-- Behind a Push of the line: the notch is as it was, but for what came. -/
theorem NotchIs.turned {w w' : World} {y q x b g n m : Nat} {h h' : List Int} (L : NotchIs w y q x b g n m h) (hL : Line w' x b g n ((weightsT m).length - 1) (h'.map (nearTo 65535))) (hK : Kept [b, g] w w') : NotchIs w' y q x b g n m h' :=
  ⟨hK.has L.head (by have := L.ne_; simp; omega), hK.has L.weights (by have := L.ne_; simp; omega), hL, L.known, L.ne_⟩
set_option maxHeartbeats 1000000 in
theorem push_k (m y q x b g n : Nat) (h : List Int) (v : Int) (w : World) (L : NotchIs w y q x b g n m h) :
    Calls Try.prog 13 #[.pointer (some ⟨y, 0, none⟩), .int .i64 v] w fun e w' => e = .returned (.int .i64 (notchT m (v :: h))) ∧ NotchIs w' y q x b g n m (v :: h) ∧ Kept [b, g] w w' := by
  obtain ⟨c0, c1, c2, c3⟩ := L.cells
  have hcl := clamp_any v (-65535) 65535
  rw [nearTo_clamp 65535 v (by omega)] at hcl
  have hpu := fun (A : Option Addr) W (hW : Line W x b g n ((weightsT m).length - 1) (h.map (nearTo 65535))) (hv : Vals W A 1 [nearTo 65535 v]) hf => line_push x b g n _ _ A 1 1 [nearTo 65535 v] W hW hv (by omega) (by omega) hf
  rw [show [nearTo 65535 v].reverse ++ h.map (nearTo 65535) = (v :: h).map (nearTo 65535) from rfl] at hpu
  have hV1 : Vals (w.alloc (.cells #[.int .i64 (nearTo 65535 v)] 2)).drew (some ⟨w.heap.size, 0, none⟩) 1 [nearTo 65535 v] := Vals.same (Vals.has (ys := [nearTo 65535 v]) (tl := []) (Has.new w 2 _)) rfl
  have hpc := hpu (some ⟨w.heap.size, 0, none⟩) (w.alloc (.cells #[.int .i64 (nearTo 65535 v)] 2)).drew ((L.line.alloc (.cells #[.int .i64 (nearTo 65535 v)] 2)).same rfl) hV1 (fun _ z hz => by cases hz; have := L.lt_; simp; omega)
  clear hpu hV1
  go_enter Try.func13, Try.ntmps13
  go_wp2
  refine Reg.begin_ (S := fun W => W.cell? ⟨y, 0, none⟩ = some (.pointer (some ⟨x, 0, none⟩))) (by kernel_rfl) (by exact c0) (fun hHeld => ?_)
  refine Reg.take (i := 0) (v := ?v1) rfl (by kernel_rfl) (by kernel_rfl) (by kernel_rfl) (by rfl) ?hv1 (by assumption) ?rest1
  case hv1 => first | (intro w hSw; (try dsimp only at hSw); go_simp; done) | (intro w hSw; (try dsimp only at hSw); go_simp; with_reducible rfl)
  (try simp only [Act.put, List.setIfInBounds_toArray, List.set_cons_zero, List.set_cons_succ])
  refine Reg.take (i := 1) (v := ?v2) rfl (by kernel_rfl) (by kernel_rfl) (by kernel_rfl) (by rfl) ?hv2 (by assumption) ?rest2
  case hv2 => first | (intro w hSw; (try dsimp only at hSw); go_simp; done) | (intro w hSw; (try dsimp only at hSw); go_simp; with_reducible rfl)
  (try simp only [Act.put, List.setIfInBounds_toArray, List.set_cons_zero, List.set_cons_succ])
  refine Reg.take (i := 2) (v := ?v3) rfl (by kernel_rfl) (by kernel_rfl) (by kernel_rfl) (by rfl) ?hv3 (by assumption) ?rest3
  case hv3 => first | (intro w hSw; (try dsimp only at hSw); go_simp; done) | (intro w hSw; (try dsimp only at hSw); go_simp; with_reducible rfl)
  (try simp only [Act.put, List.setIfInBounds_toArray, List.set_cons_zero, List.set_cons_succ])
  refine Reg.take (i := 3) (v := ?v4) rfl (by kernel_rfl) (by kernel_rfl) (by kernel_rfl) (by rfl) ?hv4 (by assumption) ?rest4
  case hv4 => first | (intro w hSw; (try dsimp only at hSw); go_simp; done) | (intro w hSw; (try dsimp only at hSw); go_simp; with_reducible rfl)
  (try simp only [Act.put, List.setIfInBounds_toArray, List.set_cons_zero, List.set_cons_succ])
  refine Reg.take (i := 4) (v := ?v5) rfl (by kernel_rfl) (by kernel_rfl) (by kernel_rfl) (by rfl) ?hv5 (by assumption) ?rest5
  case hv5 => first | (intro w hSw; (try dsimp only at hSw); go_simp; done) | (intro w hSw; (try dsimp only at hSw); go_simp; with_reducible rfl)
  (try simp only [Act.put, List.setIfInBounds_toArray, List.set_cons_zero, List.set_cons_succ])
  refine Reg.call (i := 5) rfl (by kernel_rfl) (by rfl) ?_
  intro K1 hK1
  go_simp
  go_at_call 19
  (with_reducible refine (hcl _).mono ?_)
  rintro e W1 ⟨rfl, rfl⟩
  refine hK1.out _ _ (by exact c0) (fun hHeld => ?_)
  clear hK1 K1
  (try simp only [Act.put, List.setIfInBounds_toArray, List.set_cons_zero, List.set_cons_succ])
  refine Reg.call (i := 6) rfl (by kernel_rfl) (by rfl) ?_
  intro K1 hK1
  go_simp
  refine hK1.out _ _ (by exact (L.head.alloc _).cell 0) (fun hHeld => ?_)
  clear hK1 K1
  (try simp only [Act.put, List.setIfInBounds_toArray, List.set_cons_zero, List.set_cons_succ])
  refine Reg.call (i := 7) rfl (by kernel_rfl) (by rfl) ?_
  intro K1 hK1
  go_simp
  go_at_call 18
  (with_reducible refine hpc.mono ?_)
  rintro e W2 ⟨rfl, hL2, hK2⟩
  have hK3 : Kept [b, g] w W2 := (((Kept.refl [b, g] w).alloc _).drewN 1).trans hK2
  have hN2 := L.turned hL2 hK3
  obtain ⟨d0, d1, d2, d3⟩ := hN2.cells
  refine hK1.out _ _ (by exact d0) (fun hHeld => ?_)
  clear hK1 K1
  (try simp only [Act.put, List.setIfInBounds_toArray, List.set_cons_zero, List.set_cons_succ])
  refine Reg.done (by kernel_rfl) ?_ _
  have hwv : ∀ j, j < (weightsT m).length → W2.cell? ⟨q, j, none⟩ = some (.int .i64 ((weightsT m).getD j 0)) := fun j hj => by
    rw [hN2.weights.cell j]
    simp [vals, List.getD_eq_getElem?_getD, List.getElem?_eq_getElem hj]
  have hm := L.known
  obtain ⟨hm4, hm1, hm15, _⟩ := weights_few hm
  have hbd := fun j hj => partial_bd hm (v :: h) j hj
  have hbk : ∀ (k : Nat), k < (weightsT m).length → ∀ d, Calls Try.prog 20 #[.pointer (some ⟨x, 0, none⟩), .int .i64 (k : Nat)] (W2.drewN d) fun e w' => e = .returned (.int .i64 (cameT 65535 (v :: h) k)) ∧ ∃ z, w' = (W2.drewN d).drewN z := fun k hk d => by
    have h9 := line_back x b g n _ _ (k : Int) (W2.drewN d) (hL2.same rfl) (by omega)
    rwa [agoTo_in _ _ k (by omega), came_map 65535 _ k (by omega)] at h9
  have hst := fun j hj => weighed_step 65535 (v :: h) (weightsT m) j hj
  have hfin := notch_weighed hm (v :: h)
  have hsh := fun W => shift_any (weighed 65535 (v :: h) 0 (weightsT m)) (logT m : Nat) W (by omega)
  rw [show min ((logT m : Int)).toNat 64 = logT m by omega, hfin] at hsh
  have hz : weighed 65535 (v :: h) 0 ((weightsT m).take 0) = 0 := rfl
  have HBD := Lib.hid hbd
  have HST := Lib.hid hst
  have HN := Lib.hid hN2
  clear c0 c1 c2 c3 hcl hpc hfin hbd hst L hL2 hN2 hm hK2
  generalize weightsT m = ws at *
  generalize hlen : ws.length = len at *
  have HLEN := Lib.hid hlen
  clear hlen
  generalize (logT m : Nat) = lg at *
  go_wp2
  go_loopw [5, 23] (fun s i wr => ∃ j : Nat, j ≤ len ∧ i = .int .i64 (j : Nat) ∧ s = .int .i64 (weighed 65535 (v :: h) 0 (ws.take j)) ∧ ∃ d, wr = W2.drewN d) (fun _ i _ => len - (intOf i).toNat)
  case atStart => exact ⟨0, by omega, rfl, by rw [hz], 0, rfl⟩
  case round =>
    obtain ⟨j, hj, rfl, rfl, d, rfl⟩ := hrel
    by_cases hjn : j < len
    · have hcj := hwv j hjn
      obtain ⟨hb1, hb2⟩ := HBD.out j (by have := HLEN.out; omega)
      have HS := Lib.hid (HST.out j (by have := HLEN.out; omega))
      have hbj := hbk j hjn d
      generalize ws.getD j 0 = a at *
      generalize cameT 65535 (v :: h) j = cv at *
      generalize weighed 65535 (v :: h) 0 (ws.take j) = s at *
      have hb3 : -9000000000 ≤ s + a * cv ∧ s + a * cv ≤ 9000000000 := by omega
      clear hsh hwv hbk
      go_wp2_with (go_at_call 20; ((with_reducible refine hbj.mono ?_); rintro e w' ⟨rfl, z, rfl⟩))
      go_roundw
      case rel => exact ⟨j + 1, by omega, by go_num, by rw [HS.out], _, by first | rfl | simp⟩
      case measure => simp [intOf]; omega
    · obtain rfl : j = len := by omega
      have HT := Lib.hid (show weighed 65535 (v :: h) 0 (ws.take j) = weighed 65535 (v :: h) 0 ws by rw [List.take_of_length_le (by have := HLEN.out; omega)])
      clear hbk hwv
      rw [HT.out]
      generalize weighed 65535 (v :: h) 0 ws = s at *
      go_wp2_with (go_at_call 21; ((with_reducible refine (hsh _).mono ?_); rintro e w' ⟨rfl, rfl⟩))
      go_ret
      exact ⟨rfl, HN.out.kept ((Kept.refl [] W2).drewN d) (by simp) (by simp) (by simp) (by simp) (by simp), hK3.drewN d⟩
end Go.Proofs.Ythfddociljeolaa.Notch
