/- The reference's answers of layer 20: what began, beats, and what is told of them. -/
import Derived.Test.YtpmjgomfjfhfkaaTallyRef
import Derived.Test.YtpmjgomfjfhfkaaRegion
import Derived.Test.YtpmjgomfjfhfkaaRegionTill
set_option linter.unusedSimpArgs false
set_option linter.unusedVariables false
namespace Go.Proofs.Ytpmjgomfjfhfkaa.Tally
open Go.RowKit RI64
/-- The document's state as a value: its distances lie in A, the first one first. -/
def stV (s : St) (A : Option Addr) (c : Nat) : Value := .agg #[.bool s.begun, .int .i64 s.last, .slice A s.rs.length c]
theorem refbegin_any (a : Int) (w : World) : Calls Try.prog 21 #[.int .i64 a] w fun e w' => e = .returned (stV (beginT a) none 0) ∧ Below w.heap.size w w' := by
  have hnr := fun W => refnear_any a W
  unfold stV beginT
  dsimp only [List.length_nil]
  generalize nearA a = n at *
  go_enter Try.func21, Try.ntmps21
  go_wp2_with (go_at_call 28; ((with_reducible refine (hnr _).mono ?_); rintro e w1 ⟨rfl, rfl⟩))
  have hH := Has.new w 38 #[.bool true, .int .i64 n, .slice none 0 0]
  have c0 := hH.cell 0
  have c1 := hH.cell 1
  have c2 := hH.cell 2
  refine bodyPost_ret (v := .agg #[.bool true, .int .i64 n, .slice none 0 0]) (by simp [results, Try.results21, go_sem, c0, c1, c2]) rfl ⟨rfl, (Below.refl _ w).alloc (Nat.le_refl _) _⟩
theorem refstill_any (l : Lim) (s : St) (A : Option Addr) (c : Nat) (a : Int) (w : World) (hs : 0 ≤ s.last ∧ s.last ≤ 1099511627776) : Calls Try.prog 30 #[stV s A c, limV l, .int .i64 a] w fun e w' => e = .returned (.bool (stillT l s a)) ∧ Below w.heap.size w w' := by
  have hnr := fun W => refnear_any a W
  have hnb := nearA_bd a
  obtain ⟨l0, l1, l2, l3, l4, l5, l6, l7, l8⟩ := l
  unfold stV stillT limV
  dsimp only
  generalize s.rs.length = N at *
  generalize s.begun = B at *
  generalize s.last = L at *
  generalize nearA a = n at *
  have hwr : IntKind.i64.wrap (n - L) = n - L := by rw [IntKind.wrap_i64]; omega
  have hB := ((Below.refl w.heap.size w).alloc (Nat.le_refl _) (.cells #[.bool B, .int .i64 L, .slice A N c] 38)).alloc (by simp) (.cells #[.int .i64 l0, .int .i64 l1, .int .i64 l2, .int .i64 l3, .int .i64 l4, .int .i64 l5, .int .i64 l6, .int .i64 l7, .int .i64 l8] 23)
  have hX := (Has.new w 38 #[.bool B, .int .i64 L, .slice A N c]).alloc (.cells #[.int .i64 l0, .int .i64 l1, .int .i64 l2, .int .i64 l3, .int .i64 l4, .int .i64 l5, .int .i64 l6, .int .i64 l7, .int .i64 l8] 23)
  have hY := Has.new (w.alloc (.cells #[.bool B, .int .i64 L, .slice A N c] 38)) 23 #[.int .i64 l0, .int .i64 l1, .int .i64 l2, .int .i64 l3, .int .i64 l4, .int .i64 l5, .int .i64 l6, .int .i64 l7, .int .i64 l8]
  rw [show (w.alloc (.cells #[.bool B, .int .i64 L, .slice A N c] 38)).heap.size = w.heap.size + 1 by simp] at hY
  go_enter Try.func30, Try.ntmps30
  go_wp2
  generalize (w.alloc (.cells #[.bool B, .int .i64 L, .slice A N c] 38)).alloc (.cells #[.int .i64 l0, .int .i64 l1, .int .i64 l2, .int .i64 l3, .int .i64 l4, .int .i64 l5, .int .i64 l6, .int .i64 l7, .int .i64 l8] 23) = W0 at *
  have hBd := below_drewN hB 1
  have x0 := hX.drew.cell 0
  have x1 := hX.drew.cell 1
  have y1 := hY.drew.cell 1
  refine Reg.begin_ (S := fun W => W.cell? ⟨w.heap.size, 0, none⟩ = some (.bool B) ∧ W.cell? ⟨w.heap.size, 1, none⟩ = some (.int .i64 L) ∧ W.cell? ⟨w.heap.size + 1, 1, none⟩ = some (.int .i64 l1)) (by kernel_rfl) (by exact ⟨x0, x1, y1⟩) (fun hHeld => ?_)
  change Below w.heap.size w W0.drew at hBd
  clear hX hY x0 x1 y1 hB
  generalize W0.drew = W1 at *
  cases B with
  | false =>
    refine Reg.take (i := 0) (v := ?v1) rfl (by kernel_rfl) (by kernel_rfl) (by kernel_rfl) (by rfl) ?hv1 (by assumption) ?rest1
    case hv1 => first | (intro w hSw; (try dsimp only at hSw); go_simp; done) | (intro w hSw; (try dsimp only at hSw); go_simp; with_reducible rfl)
    (try simp only [Act.put, List.setIfInBounds_toArray, List.set_cons_zero, List.set_cons_succ])
    refine Reg.take (i := 1) (v := ?v2) rfl (by kernel_rfl) (by kernel_rfl) (by kernel_rfl) (by rfl) ?hv2 (by assumption) ?rest2
    case hv2 => first | (intro w hSw; (try dsimp only at hSw); go_simp; done) | (intro w hSw; (try dsimp only at hSw); go_simp; with_reducible rfl)
    (try simp only [Act.put, List.setIfInBounds_toArray, List.set_cons_zero, List.set_cons_succ])
    refine Reg.take (i := 2) (v := ?v3) rfl (by kernel_rfl) (by kernel_rfl) (by kernel_rfl) (by rfl) ?hv3 (by assumption) ?rest3
    case hv3 => first | (intro w hSw; (try dsimp only at hSw); go_simp; done) | (intro w hSw; (try dsimp only at hSw); go_simp; with_reducible rfl)
    (try simp only [Act.put, List.setIfInBounds_toArray, List.set_cons_zero, List.set_cons_succ])
    refine Reg.skip (i := 3) rfl (by kernel_rfl) (by kernel_rfl) (by kernel_rfl) (by rfl) (by assumption) ?_
    (try simp only [Act.put, List.setIfInBounds_toArray, List.set_cons_zero, List.set_cons_succ])
    refine Reg.skip (i := 4) rfl (by kernel_rfl) (by kernel_rfl) (by kernel_rfl) (by rfl) (by assumption) ?_
    (try simp only [Act.put, List.setIfInBounds_toArray, List.set_cons_zero, List.set_cons_succ])
    refine Reg.skip (i := 5) rfl (by kernel_rfl) (by kernel_rfl) (by kernel_rfl) (by rfl) (by assumption) ?_
    (try simp only [Act.put, List.setIfInBounds_toArray, List.set_cons_zero, List.set_cons_succ])
    refine Reg.skip (i := 6) rfl (by kernel_rfl) (by kernel_rfl) (by kernel_rfl) (by rfl) (by assumption) ?_
    (try simp only [Act.put, List.setIfInBounds_toArray, List.set_cons_zero, List.set_cons_succ])
    refine Reg.skip (i := 7) rfl (by kernel_rfl) (by kernel_rfl) (by kernel_rfl) (by rfl) (by assumption) ?_
    (try simp only [Act.put, List.setIfInBounds_toArray, List.set_cons_zero, List.set_cons_succ])
    refine Reg.skip (i := 8) rfl (by kernel_rfl) (by kernel_rfl) (by kernel_rfl) (by rfl) (by assumption) ?_
    (try simp only [Act.put, List.setIfInBounds_toArray, List.set_cons_zero, List.set_cons_succ])
    refine Reg.skip (i := 9) rfl (by kernel_rfl) (by kernel_rfl) (by kernel_rfl) (by rfl) (by assumption) ?_
    (try simp only [Act.put, List.setIfInBounds_toArray, List.set_cons_zero, List.set_cons_succ])
    refine Reg.skip (i := 10) rfl (by kernel_rfl) (by kernel_rfl) (by kernel_rfl) (by rfl) (by assumption) ?_
    (try simp only [Act.put, List.setIfInBounds_toArray, List.set_cons_zero, List.set_cons_succ])
    refine Reg.take (i := 11) (v := ?v4) rfl (by kernel_rfl) (by kernel_rfl) (by kernel_rfl) (by rfl) ?hv4 (by assumption) ?rest4
    case hv4 => first | (intro w hSw; (try dsimp only at hSw); go_simp; done) | (intro w hSw; (try dsimp only at hSw); go_simp; with_reducible rfl)
    (try simp only [Act.put, List.setIfInBounds_toArray, List.set_cons_zero, List.set_cons_succ])
    refine Reg.take (i := 12) (v := ?v5) rfl (by kernel_rfl) (by kernel_rfl) (by kernel_rfl) (by rfl) ?hv5 (by assumption) ?rest5
    case hv5 => first | (intro w hSw; (try dsimp only at hSw); go_simp; done) | (intro w hSw; (try dsimp only at hSw); go_simp; with_reducible rfl)
    (try simp only [Act.put, List.setIfInBounds_toArray, List.set_cons_zero, List.set_cons_succ])
    refine Reg.done (by kernel_rfl) ?_ _
    go_wp2
    go_ret
    exact ⟨rfl, hBd⟩
  | true =>
    refine Reg.take (i := 0) (v := ?v6) rfl (by kernel_rfl) (by kernel_rfl) (by kernel_rfl) (by rfl) ?hv6 (by assumption) ?rest6
    case hv6 => first | (intro w hSw; (try dsimp only at hSw); go_simp; done) | (intro w hSw; (try dsimp only at hSw); go_simp; with_reducible rfl)
    (try simp only [Act.put, List.setIfInBounds_toArray, List.set_cons_zero, List.set_cons_succ])
    refine Reg.take (i := 1) (v := ?v7) rfl (by kernel_rfl) (by kernel_rfl) (by kernel_rfl) (by rfl) ?hv7 (by assumption) ?rest7
    case hv7 => first | (intro w hSw; (try dsimp only at hSw); go_simp; done) | (intro w hSw; (try dsimp only at hSw); go_simp; with_reducible rfl)
    (try simp only [Act.put, List.setIfInBounds_toArray, List.set_cons_zero, List.set_cons_succ])
    refine Reg.take (i := 2) (v := ?v8) rfl (by kernel_rfl) (by kernel_rfl) (by kernel_rfl) (by rfl) ?hv8 (by assumption) ?rest8
    case hv8 => first | (intro w hSw; (try dsimp only at hSw); go_simp; done) | (intro w hSw; (try dsimp only at hSw); go_simp; with_reducible rfl)
    (try simp only [Act.put, List.setIfInBounds_toArray, List.set_cons_zero, List.set_cons_succ])
    refine Reg.take (i := 3) (v := ?v9) rfl (by kernel_rfl) (by kernel_rfl) (by kernel_rfl) (by rfl) ?hv9 (by assumption) ?rest9
    case hv9 => first | (intro w hSw; (try dsimp only at hSw); go_simp; done) | (intro w hSw; (try dsimp only at hSw); go_simp; with_reducible rfl)
    (try simp only [Act.put, List.setIfInBounds_toArray, List.set_cons_zero, List.set_cons_succ])
    refine Reg.take (i := 5) (v := ?v10) rfl (by kernel_rfl) (by kernel_rfl) (by kernel_rfl) (by rfl) ?hv10 (by assumption) ?rest10
    case hv10 => first | (intro w hSw; (try dsimp only at hSw); go_simp; done) | (intro w hSw; (try dsimp only at hSw); go_simp; with_reducible rfl)
    (try simp only [Act.put, List.setIfInBounds_toArray, List.set_cons_zero, List.set_cons_succ])
    refine Reg.take (i := 6) (v := ?v11) rfl (by kernel_rfl) (by kernel_rfl) (by kernel_rfl) (by rfl) ?hv11 (by assumption) ?rest11
    case hv11 => first | (intro w hSw; (try dsimp only at hSw); go_simp; done) | (intro w hSw; (try dsimp only at hSw); go_simp; with_reducible rfl)
    (try simp only [Act.put, List.setIfInBounds_toArray, List.set_cons_zero, List.set_cons_succ])
    refine Reg.take (i := 8) (v := ?v12) rfl (by kernel_rfl) (by kernel_rfl) (by kernel_rfl) (by rfl) ?hv12 (by assumption) ?rest12
    case hv12 => first | (intro w hSw; (try dsimp only at hSw); go_simp; done) | (intro w hSw; (try dsimp only at hSw); go_simp; with_reducible rfl)
    (try simp only [Act.put, List.setIfInBounds_toArray, List.set_cons_zero, List.set_cons_succ])
    refine Reg.take (i := 9) (v := ?v13) rfl (by kernel_rfl) (by kernel_rfl) (by kernel_rfl) (by rfl) ?hv13 (by assumption) ?rest13
    case hv13 => first | (intro w hSw; (try dsimp only at hSw); go_simp; done) | (intro w hSw; (try dsimp only at hSw); go_simp; with_reducible rfl)
    (try simp only [Act.put, List.setIfInBounds_toArray, List.set_cons_zero, List.set_cons_succ])
    refine Reg.call (i := 4) rfl (by kernel_rfl) (by rfl) ?_
    intro K hK
    go_simp
    go_at_call 28
    (with_reducible refine (hnr _).mono ?_)
    rintro e w1 ⟨rfl, rfl⟩
    refine hK.out _ _ (by exact hHeld) (fun hHeld => ?_)
    clear hK K
    (try simp only [Act.put, List.setIfInBounds_toArray, List.set_cons_zero, List.set_cons_succ])
    refine Reg.take (i := 7) (v := ?v14) rfl (by kernel_rfl) (by kernel_rfl) (by kernel_rfl) (by rfl) ?hv14 (by assumption) ?rest14
    case hv14 => first | (intro w hSw; (try dsimp only at hSw); go_simp; done) | (intro w hSw; (try dsimp only at hSw); go_simp; with_reducible rfl)
    (try simp only [Act.put, List.setIfInBounds_toArray, List.set_cons_zero, List.set_cons_succ])
    refine Reg.take (i := 10) (v := ?v15) rfl (by kernel_rfl) (by kernel_rfl) (by kernel_rfl) (by rfl) ?hv15 (by assumption) ?rest15
    case hv15 => first | (intro w hSw; (try dsimp only at hSw); go_simp; done) | (intro w hSw; (try dsimp only at hSw); go_simp; with_reducible rfl)
    (try simp only [Act.put, List.setIfInBounds_toArray, List.set_cons_zero, List.set_cons_succ])
    refine Reg.take (i := 11) (v := ?v16) rfl (by kernel_rfl) (by kernel_rfl) (by kernel_rfl) (by rfl) ?hv16 (by assumption) ?rest16
    case hv16 => first | (intro w hSw; (try dsimp only at hSw); go_simp; done) | (intro w hSw; (try dsimp only at hSw); go_simp; with_reducible rfl)
    (try simp only [Act.put, List.setIfInBounds_toArray, List.set_cons_zero, List.set_cons_succ])
    refine Reg.take (i := 12) (v := ?v17) rfl (by kernel_rfl) (by kernel_rfl) (by kernel_rfl) (by rfl) ?hv17 (by assumption) ?rest17
    case hv17 => first | (intro w hSw; (try dsimp only at hSw); go_simp; done) | (intro w hSw; (try dsimp only at hSw); go_simp; with_reducible rfl)
    (try simp only [Act.put, List.setIfInBounds_toArray, List.set_cons_zero, List.set_cons_succ])
    refine Reg.done (by kernel_rfl) ?_ _
    go_wp2
    go_ret
    rw [Bool.true_and]
    exact ⟨rfl, hBd⟩
set_option maxHeartbeats 1000000 in
theorem reftach_any (l : Lim) (s : St) (A : Option Addr) (c : Nat) (w : World) (hv : Vals w A s.rs.length s.rs.reverse) (hn : s.rs.length ≤ 1000000) (hN : 1 ≤ l.tachN ∧ l.tachN ≤ 20) :
    Calls Try.prog 32 #[stV s A c, limV l] w fun e w' => e = .returned (.bool (tachT l s.rs)) ∧ Below w.heap.size w w' := by
  have hle := inRow_le (isFast l) s.rs
  have hnx := fun (j : Nat) (v : Int) => inRow_next (p := isFast l) (rs := s.rs) (j := j) (v := v)
  have hsp := fun (j : Nat) (v : Int) => inRow_stop (p := isFast l) (rs := s.rs) (j := j) (v := v)
  obtain ⟨N, hNN⟩ : ∃ N : Nat, l.tachN = (N : Int) := ⟨l.tachN.toNat, by omega⟩
  unfold tachT fastT
  obtain ⟨l0, l1, l2, l3, l4, l5, l6, l7, l8⟩ := l
  unfold stV limV
  dsimp only at hNN hN ⊢
  subst hNN
  have hfa : ∀ v : Int, isFast ⟨l0, l1, l2, N, l4, l5, l6, l7, l8⟩ v = decide (v ≤ l2) := fun _ => rfl
  generalize inRow (isFast _) s.rs = F at *
  have hX := (Has.new w 38 #[.bool s.begun, .int .i64 s.last, .slice A s.rs.length c]).alloc (.cells #[.int .i64 l0, .int .i64 l1, .int .i64 l2, .int .i64 N, .int .i64 l4, .int .i64 l5, .int .i64 l6, .int .i64 l7, .int .i64 l8] 23)
  have hY := Has.new (w.alloc (.cells #[.bool s.begun, .int .i64 s.last, .slice A s.rs.length c] 38)) 23 #[.int .i64 l0, .int .i64 l1, .int .i64 l2, .int .i64 N, .int .i64 l4, .int .i64 l5, .int .i64 l6, .int .i64 l7, .int .i64 l8]
  have hB := ((Below.refl w.heap.size w).alloc (Nat.le_refl _) (.cells #[.bool s.begun, .int .i64 s.last, .slice A s.rs.length c] 38)).alloc (by simp) (.cells #[.int .i64 l0, .int .i64 l1, .int .i64 l2, .int .i64 N, .int .i64 l4, .int .i64 l5, .int .i64 l6, .int .i64 l7, .int .i64 l8] 23)
  have hv0 := hv.below hB
  rw [show (w.alloc (.cells #[.bool s.begun, .int .i64 s.last, .slice A s.rs.length c] 38)).heap.size = w.heap.size + 1 by simp] at hY
  go_enter Try.func32, Try.ntmps32
  go_wp2
  generalize (w.alloc (.cells #[.bool s.begun, .int .i64 s.last, .slice A s.rs.length c] 38)).alloc (.cells #[.int .i64 l0, .int .i64 l1, .int .i64 l2, .int .i64 N, .int .i64 l4, .int .i64 l5, .int .i64 l6, .int .i64 l7, .int .i64 l8] 23) = W0 at *
  have x2 := hX.cell 2
  have y2 := hY.cell 2
  have y3 := hY.cell 3
  have hget : ∀ j, j < s.rs.length → s.rs[j]? = some (s.rs.reverse.getD (s.rs.length - 1 - j) 0) := fun j hj => by
    rw [List.getD_eq_getElem?_getD, List.getElem?_reverse (by omega), show s.rs.length - 1 - (s.rs.length - 1 - j) = j by omega, List.getElem?_eq_getElem hj]
    rfl
  generalize s.rs.reverse = ys at *
  generalize s.rs.length = n at *
  clear hv hX hY
  have HG := Lib.hid hget
  have HNX := Lib.hid hnx
  have HSP := Lib.hid hsp
  have HFA := Lib.hid hfa
  clear hget hnx hsp hfa
  go_loopw [5] (fun i wr => (∃ j, j ≤ N ∧ j ≤ F ∧ i = .int .i64 (j : Nat)) ∧ ∃ z, wr = W0.drewN z) (fun i _ => N - (intOf i).toNat)
  case atStart => exact ⟨⟨0, by omega, by omega, rfl⟩, 0, rfl⟩
  case round =>
    obtain ⟨⟨j, hj, hjF, rfl⟩, z, rfl⟩ := hrel
    have x2z : (W0.drewN z).cell? ⟨w.heap.size, 2, none⟩ = some (.slice A n c) := x2
    have y2z : (W0.drewN z).cell? ⟨w.heap.size + 1, 2, none⟩ = some (.int .i64 l2) := y2
    have y3z : (W0.drewN z).cell? ⟨w.heap.size + 1, 3, none⟩ = some (.int .i64 N) := y3
    by_cases hlt : j < N
    · by_cases hjn : j < n
      · have g1 : decide (n ≤ j) = false := decide_eq_false (by omega)
        obtain ⟨x', rfl, hcx⟩ := hv0.cells (by omega)
        have hcell := hcx (n - 1 - j) (by omega)
        have hgj := HG.out j hjn
        obtain ⟨q, hq⟩ : ∃ q, n - 1 - j = q := ⟨_, rfl⟩
        rw [hq] at hcell hgj
        have e1 : IntKind.i64.wrap ((n : Int) - 1) = (n : Int) - 1 := by rw [IntKind.wrap_i64]; omega
        have e2 : IntKind.i64.wrap ((n : Int) - 1 - (j : Int)) = (q : Int) := by rw [IntKind.wrap_i64]; omega
        have hqn : q < n := by omega
        have hqn2 : (q : Int) < (n : Int) := by omega
        have hnx := HNX.out j (ys.getD q 0) hjF hgj
        have hsp := HSP.out j (ys.getD q 0) hgj
        rw [HFA.out] at hnx hsp
        have HNX2 := Lib.hid hnx
        have HSP2 := Lib.hid hsp
        clear hnx hsp hgj hcx
        generalize ys.getD q 0 = v at *
        have hcz : (W0.drewN z).cell? (x'.add q) = some (.int .i64 v) := hcell
        clear hcell
        have HE := Lib.hid hq
        clear hq hv0
        go_wp2
        refine Reg.begin_ (S := fun W => W.cell? ⟨w.heap.size, 2, none⟩ = some (.slice (some x') n c) ∧ W.cell? ⟨w.heap.size + 1, 2, none⟩ = some (.int .i64 l2) ∧ W.cell? (x'.add q) = some (.int .i64 v)) (by kernel_rfl) (by exact ⟨x2z, y2z, hcz⟩) (fun hHeld => ?_)
        refine Reg.take (i := 0) (v := ?v18) rfl (by kernel_rfl) (by kernel_rfl) (by kernel_rfl) (by rfl) ?hv18 (by assumption) ?rest18
        case hv18 => first | (intro w hSw; (try dsimp only at hSw); go_simp; done) | (intro w hSw; (try dsimp only at hSw); go_simp; with_reducible rfl)
        (try simp only [Act.put, List.setIfInBounds_toArray, List.set_cons_zero, List.set_cons_succ])
        refine Reg.take (i := 1) (v := ?v19) rfl (by kernel_rfl) (by kernel_rfl) (by kernel_rfl) (by rfl) ?hv19 (by assumption) ?rest19
        case hv19 => first | (intro w hSw; (try dsimp only at hSw); go_simp; done) | (intro w hSw; (try dsimp only at hSw); go_simp; with_reducible rfl)
        (try simp only [Act.put, List.setIfInBounds_toArray, List.set_cons_zero, List.set_cons_succ])
        refine Reg.take (i := 2) (v := ?v20) rfl (by kernel_rfl) (by kernel_rfl) (by kernel_rfl) (by rfl) ?hv20 (by assumption) ?rest20
        case hv20 => first | (intro w hSw; (try dsimp only at hSw); go_simp; done) | (intro w hSw; (try dsimp only at hSw); go_simp; with_reducible rfl)
        (try simp only [Act.put, List.setIfInBounds_toArray, List.set_cons_zero, List.set_cons_succ])
        refine Reg.take (i := 3) (v := ?v21) rfl (by kernel_rfl) (by kernel_rfl) (by kernel_rfl) (by rfl) ?hv21 (by assumption) ?rest21
        case hv21 => first | (intro w hSw; (try dsimp only at hSw); go_simp; done) | (intro w hSw; (try dsimp only at hSw); go_simp; with_reducible rfl)
        (try simp only [Act.put, List.setIfInBounds_toArray, List.set_cons_zero, List.set_cons_succ])
        refine Reg.take (i := 4) (v := ?v22) rfl (by kernel_rfl) (by kernel_rfl) (by kernel_rfl) (by rfl) ?hv22 (by assumption) ?rest22
        case hv22 => first | (intro w hSw; (try dsimp only at hSw); go_simp; done) | (intro w hSw; (try dsimp only at hSw); go_simp; with_reducible rfl)
        (try simp only [Act.put, List.setIfInBounds_toArray, List.set_cons_zero, List.set_cons_succ])
        (try simp only [g1])
        refine Reg.take (i := 5) (v := ?v23) rfl (by kernel_rfl) (by kernel_rfl) (by kernel_rfl) (by rfl) ?hv23 (by assumption) ?rest23
        case hv23 => first | (intro w hSw; (try dsimp only at hSw); go_simp; done) | (intro w hSw; (try dsimp only at hSw); go_simp; with_reducible rfl)
        (try simp only [Act.put, List.setIfInBounds_toArray, List.set_cons_zero, List.set_cons_succ])
        refine Reg.take (i := 6) (v := ?v24) rfl (by kernel_rfl) (by kernel_rfl) (by kernel_rfl) (by rfl) ?hv24 (by assumption) ?rest24
        case hv24 => first | (intro w hSw; (try dsimp only at hSw); go_simp; done) | (intro w hSw; (try dsimp only at hSw); go_simp; with_reducible rfl)
        (try simp only [Act.put, List.setIfInBounds_toArray, List.set_cons_zero, List.set_cons_succ])
        refine Reg.take (i := 7) (v := ?v25) rfl (by kernel_rfl) (by kernel_rfl) (by kernel_rfl) (by rfl) ?hv25 (by assumption) ?rest25
        case hv25 => first | (intro w hSw; (try dsimp only at hSw); go_simp; done) | (intro w hSw; (try dsimp only at hSw); go_simp; with_reducible rfl)
        (try simp only [Act.put, List.setIfInBounds_toArray, List.set_cons_zero, List.set_cons_succ])
        refine Reg.take (i := 8) (v := ?v26) rfl (by kernel_rfl) (by kernel_rfl) (by kernel_rfl) (by rfl) ?hv26 (by assumption) ?rest26
        case hv26 => first | (intro w hSw; (try dsimp only at hSw); go_simp; done) | (intro w hSw; (try dsimp only at hSw); go_simp; with_reducible rfl)
        (try simp only [Act.put, List.setIfInBounds_toArray, List.set_cons_zero, List.set_cons_succ])
        refine Reg.take (i := 9) (v := ?v27) rfl (by kernel_rfl) (by kernel_rfl) (by kernel_rfl) (by rfl) ?hv27 (by assumption) ?rest27
        case hv27 => first | (intro w hSw; (try dsimp only at hSw); go_simp; done) | (intro w hSw; (try dsimp only at hSw); go_simp; with_reducible rfl)
        (try simp only [Act.put, List.setIfInBounds_toArray, List.set_cons_zero, List.set_cons_succ])
        refine Reg.take (i := 10) (v := ?v28) rfl (by kernel_rfl) (by kernel_rfl) (by kernel_rfl) (by rfl) ?hv28 (by assumption) ?rest28
        case hv28 => first | (intro w hSw; (try dsimp only at hSw); go_simp; done) | (intro w hSw; (try dsimp only at hSw); go_simp; with_reducible rfl)
        (try simp only [Act.put, List.setIfInBounds_toArray, List.set_cons_zero, List.set_cons_succ])
        refine Reg.take (i := 11) (v := ?v29) rfl (by kernel_rfl) (by kernel_rfl) (by kernel_rfl) (by rfl) ?hv29 (by assumption) ?rest29
        case hv29 => first | (intro w hSw; (try dsimp only at hSw); go_simp; done) | (intro w hSw; (try dsimp only at hSw); go_simp; with_reducible rfl)
        (try simp only [Act.put, List.setIfInBounds_toArray, List.set_cons_zero, List.set_cons_succ])
        refine Reg.take (i := 12) (v := ?v30) rfl (by kernel_rfl) (by kernel_rfl) (by kernel_rfl) (by rfl) ?hv30 (by assumption) ?rest30
        case hv30 => first | (intro w hSw; (try dsimp only at hSw); go_simp; done) | (intro w hSw; (try dsimp only at hSw); go_simp; with_reducible rfl)
        (try simp only [Act.put, List.setIfInBounds_toArray, List.set_cons_zero, List.set_cons_succ])
        refine Reg.take (i := 13) (v := ?v31) rfl (by kernel_rfl) (by kernel_rfl) (by kernel_rfl) (by rfl) ?hv31 (by assumption) ?rest31
        case hv31 => first | (intro w hSw; (try dsimp only at hSw); go_simp; done) | (intro w hSw; (try dsimp only at hSw); go_simp; with_reducible rfl)
        (try simp only [Act.put, List.setIfInBounds_toArray, List.set_cons_zero, List.set_cons_succ])
        refine Reg.take (i := 14) (v := ?v32) rfl (by kernel_rfl) (by kernel_rfl) (by kernel_rfl) (by rfl) ?hv32 (by assumption) ?rest32
        case hv32 => first | (intro w hSw; (try dsimp only at hSw); go_simp; done) | (intro w hSw; (try dsimp only at hSw); go_simp; with_reducible rfl)
        (try simp only [Act.put, List.setIfInBounds_toArray, List.set_cons_zero, List.set_cons_succ])
        refine Reg.take (i := 15) (v := ?v33) rfl (by kernel_rfl) (by kernel_rfl) (by kernel_rfl) (by rfl) ?hv33 (by assumption) ?rest33
        case hv33 => first | (intro w hSw; (try dsimp only at hSw); go_simp; done) | (intro w hSw; (try dsimp only at hSw); go_simp; with_reducible rfl)
        (try simp only [Act.put, List.setIfInBounds_toArray, List.set_cons_zero, List.set_cons_succ])
        refine Reg.take (i := 16) (v := ?v34) rfl (by kernel_rfl) (by kernel_rfl) (by kernel_rfl) (by rfl) ?hv34 (by assumption) ?rest34
        case hv34 => first | (intro w hSw; (try dsimp only at hSw); go_simp; done) | (intro w hSw; (try dsimp only at hSw); go_simp; with_reducible rfl)
        (try simp only [Act.put, List.setIfInBounds_toArray, List.set_cons_zero, List.set_cons_succ])
        refine Reg.take (i := 17) (v := ?v35) rfl (by kernel_rfl) (by kernel_rfl) (by kernel_rfl) (by rfl) ?hv35 (by assumption) ?rest35
        case hv35 => first | (intro w hSw; (try dsimp only at hSw); go_simp; done) | (intro w hSw; (try dsimp only at hSw); go_simp; with_reducible rfl)
        (try simp only [Act.put, List.setIfInBounds_toArray, List.set_cons_zero, List.set_cons_succ])
        refine Reg.take (i := 18) (v := ?v36) rfl (by kernel_rfl) (by kernel_rfl) (by kernel_rfl) (by rfl) ?hv36 (by assumption) ?rest36
        case hv36 => first | (intro w hSw; (try dsimp only at hSw); go_simp; done) | (intro w hSw; (try dsimp only at hSw); go_simp; with_reducible rfl)
        (try simp only [Act.put, List.setIfInBounds_toArray, List.set_cons_zero, List.set_cons_succ])
        refine Reg.take (i := 19) (v := ?v37) rfl (by kernel_rfl) (by kernel_rfl) (by kernel_rfl) (by rfl) ?hv37 (by assumption) ?rest37
        case hv37 => first | (intro w hSw; (try dsimp only at hSw); go_simp; done) | (intro w hSw; (try dsimp only at hSw); go_simp; with_reducible rfl)
        (try simp only [Act.put, List.setIfInBounds_toArray, List.set_cons_zero, List.set_cons_succ])
        refine Reg.done (by kernel_rfl) ?_ _
        clear hHeld
        by_cases hvf : l2 < v
        · have HF := Lib.hid (HSP2.out (decide_eq_false (by omega)))
          go_wp2
          go_ret
          have hF := HF.out
          exact ⟨by rw [decide_eq_false (show ¬ (N : Int) ≤ (F : Int) by omega)]; rfl, below_drewN (below_drewN hB z) 1⟩
        · have HF := Lib.hid (HNX2.out (decide_eq_true (by omega)))
          go_wp2
          go_roundw
          case rel =>
            have hF := HF.out
            exact ⟨⟨j + 1, by omega, by omega, by go_num⟩, _, by first | rfl | simp⟩
          case measure => simp [intOf]; omega
      · have g1 : decide (n ≤ j) = true := decide_eq_true (by omega)
        go_wp2
        refine Reg.begin_ (S := fun W => W.cell? ⟨w.heap.size, 2, none⟩ = some (.slice A n c)) (by kernel_rfl) (by exact x2z) (fun hHeld => ?_)
        refine Reg.take (i := 0) (v := ?v38) rfl (by kernel_rfl) (by kernel_rfl) (by kernel_rfl) (by rfl) ?hv38 (by assumption) ?rest38
        case hv38 => first | (intro w hSw; (try dsimp only at hSw); go_simp; done) | (intro w hSw; (try dsimp only at hSw); go_simp; with_reducible rfl)
        (try simp only [Act.put, List.setIfInBounds_toArray, List.set_cons_zero, List.set_cons_succ])
        refine Reg.take (i := 1) (v := ?v39) rfl (by kernel_rfl) (by kernel_rfl) (by kernel_rfl) (by rfl) ?hv39 (by assumption) ?rest39
        case hv39 => first | (intro w hSw; (try dsimp only at hSw); go_simp; done) | (intro w hSw; (try dsimp only at hSw); go_simp; with_reducible rfl)
        (try simp only [Act.put, List.setIfInBounds_toArray, List.set_cons_zero, List.set_cons_succ])
        refine Reg.take (i := 2) (v := ?v40) rfl (by kernel_rfl) (by kernel_rfl) (by kernel_rfl) (by rfl) ?hv40 (by assumption) ?rest40
        case hv40 => first | (intro w hSw; (try dsimp only at hSw); go_simp; done) | (intro w hSw; (try dsimp only at hSw); go_simp; with_reducible rfl)
        (try simp only [Act.put, List.setIfInBounds_toArray, List.set_cons_zero, List.set_cons_succ])
        refine Reg.take (i := 3) (v := ?v41) rfl (by kernel_rfl) (by kernel_rfl) (by kernel_rfl) (by rfl) ?hv41 (by assumption) ?rest41
        case hv41 => first | (intro w hSw; (try dsimp only at hSw); go_simp; done) | (intro w hSw; (try dsimp only at hSw); go_simp; with_reducible rfl)
        (try simp only [Act.put, List.setIfInBounds_toArray, List.set_cons_zero, List.set_cons_succ])
        refine Reg.take (i := 4) (v := ?v42) rfl (by kernel_rfl) (by kernel_rfl) (by kernel_rfl) (by rfl) ?hv42 (by assumption) ?rest42
        case hv42 => first | (intro w hSw; (try dsimp only at hSw); go_simp; done) | (intro w hSw; (try dsimp only at hSw); go_simp; with_reducible rfl)
        (try simp only [Act.put, List.setIfInBounds_toArray, List.set_cons_zero, List.set_cons_succ])
        (try simp only [g1])
        refine Reg.take (i := 5) (v := ?v43) rfl (by kernel_rfl) (by kernel_rfl) (by kernel_rfl) (by rfl) ?hv43 (by assumption) ?rest43
        case hv43 => first | (intro w hSw; (try dsimp only at hSw); go_simp; done) | (intro w hSw; (try dsimp only at hSw); go_simp; with_reducible rfl)
        (try simp only [Act.put, List.setIfInBounds_toArray, List.set_cons_zero, List.set_cons_succ])
        refine Reg.skip (i := 6) rfl (by kernel_rfl) (by kernel_rfl) (by kernel_rfl) (by rfl) (by assumption) ?_
        (try simp only [Act.put, List.setIfInBounds_toArray, List.set_cons_zero, List.set_cons_succ])
        refine Reg.skip (i := 7) rfl (by kernel_rfl) (by kernel_rfl) (by kernel_rfl) (by rfl) (by assumption) ?_
        (try simp only [Act.put, List.setIfInBounds_toArray, List.set_cons_zero, List.set_cons_succ])
        refine Reg.skip (i := 8) rfl (by kernel_rfl) (by kernel_rfl) (by kernel_rfl) (by rfl) (by assumption) ?_
        (try simp only [Act.put, List.setIfInBounds_toArray, List.set_cons_zero, List.set_cons_succ])
        refine Reg.skip (i := 9) rfl (by kernel_rfl) (by kernel_rfl) (by kernel_rfl) (by rfl) (by assumption) ?_
        (try simp only [Act.put, List.setIfInBounds_toArray, List.set_cons_zero, List.set_cons_succ])
        refine Reg.skip (i := 10) rfl (by kernel_rfl) (by kernel_rfl) (by kernel_rfl) (by rfl) (by assumption) ?_
        (try simp only [Act.put, List.setIfInBounds_toArray, List.set_cons_zero, List.set_cons_succ])
        refine Reg.skip (i := 11) rfl (by kernel_rfl) (by kernel_rfl) (by kernel_rfl) (by rfl) (by assumption) ?_
        (try simp only [Act.put, List.setIfInBounds_toArray, List.set_cons_zero, List.set_cons_succ])
        refine Reg.skip (i := 12) rfl (by kernel_rfl) (by kernel_rfl) (by kernel_rfl) (by rfl) (by assumption) ?_
        (try simp only [Act.put, List.setIfInBounds_toArray, List.set_cons_zero, List.set_cons_succ])
        refine Reg.skip (i := 13) rfl (by kernel_rfl) (by kernel_rfl) (by kernel_rfl) (by rfl) (by assumption) ?_
        (try simp only [Act.put, List.setIfInBounds_toArray, List.set_cons_zero, List.set_cons_succ])
        refine Reg.skip (i := 14) rfl (by kernel_rfl) (by kernel_rfl) (by kernel_rfl) (by rfl) (by assumption) ?_
        (try simp only [Act.put, List.setIfInBounds_toArray, List.set_cons_zero, List.set_cons_succ])
        refine Reg.skip (i := 15) rfl (by kernel_rfl) (by kernel_rfl) (by kernel_rfl) (by rfl) (by assumption) ?_
        (try simp only [Act.put, List.setIfInBounds_toArray, List.set_cons_zero, List.set_cons_succ])
        refine Reg.skip (i := 16) rfl (by kernel_rfl) (by kernel_rfl) (by kernel_rfl) (by rfl) (by assumption) ?_
        (try simp only [Act.put, List.setIfInBounds_toArray, List.set_cons_zero, List.set_cons_succ])
        refine Reg.skip (i := 17) rfl (by kernel_rfl) (by kernel_rfl) (by kernel_rfl) (by rfl) (by assumption) ?_
        (try simp only [Act.put, List.setIfInBounds_toArray, List.set_cons_zero, List.set_cons_succ])
        refine Reg.skip (i := 18) rfl (by kernel_rfl) (by kernel_rfl) (by kernel_rfl) (by rfl) (by assumption) ?_
        (try simp only [Act.put, List.setIfInBounds_toArray, List.set_cons_zero, List.set_cons_succ])
        refine Reg.take (i := 19) (v := ?v44) rfl (by kernel_rfl) (by kernel_rfl) (by kernel_rfl) (by rfl) ?hv44 (by assumption) ?rest44
        case hv44 => first | (intro w hSw; (try dsimp only at hSw); go_simp; done) | (intro w hSw; (try dsimp only at hSw); go_simp; with_reducible rfl)
        (try simp only [Act.put, List.setIfInBounds_toArray, List.set_cons_zero, List.set_cons_succ])
        refine Reg.done (by kernel_rfl) ?_ _
        go_wp2
        go_ret
        exact ⟨by rw [decide_eq_false (show ¬ (N : Int) ≤ (F : Int) by omega)]; rfl, below_drewN (below_drewN hB z) 1⟩
    · obtain rfl : j = N := by omega
      go_wp2
      go_ret
      exact ⟨by rw [decide_eq_true (show (j : Int) ≤ (F : Int) by omega)]; rfl, below_drewN hB z⟩
set_option maxHeartbeats 1000000 in
theorem refbrad_any (l : Lim) (s : St) (A : Option Addr) (c : Nat) (w : World) (hv : Vals w A s.rs.length s.rs.reverse) (hn : s.rs.length ≤ 1000000) (hN : 1 ≤ l.bradN ∧ l.bradN ≤ 20) :
    Calls Try.prog 33 #[stV s A c, limV l] w fun e w' => e = .returned (.bool (bradT l s.rs)) ∧ Below w.heap.size w w' := by
  have hle := inRow_le (isSlow l) s.rs
  have hnx := fun (j : Nat) (v : Int) => inRow_next (p := isSlow l) (rs := s.rs) (j := j) (v := v)
  have hsp := fun (j : Nat) (v : Int) => inRow_stop (p := isSlow l) (rs := s.rs) (j := j) (v := v)
  obtain ⟨N, hNN⟩ : ∃ N : Nat, l.bradN = (N : Int) := ⟨l.bradN.toNat, by omega⟩
  unfold bradT slowT
  obtain ⟨l0, l1, l2, l3, l4, l5, l6, l7, l8⟩ := l
  unfold stV limV
  dsimp only at hNN hN ⊢
  subst hNN
  have hfa : ∀ v : Int, isSlow ⟨l0, l1, l2, l3, l4, N, l6, l7, l8⟩ v = decide (l4 ≤ v) := fun _ => rfl
  generalize inRow (isSlow _) s.rs = F at *
  have hX := (Has.new w 38 #[.bool s.begun, .int .i64 s.last, .slice A s.rs.length c]).alloc (.cells #[.int .i64 l0, .int .i64 l1, .int .i64 l2, .int .i64 l3, .int .i64 l4, .int .i64 N, .int .i64 l6, .int .i64 l7, .int .i64 l8] 23)
  have hY := Has.new (w.alloc (.cells #[.bool s.begun, .int .i64 s.last, .slice A s.rs.length c] 38)) 23 #[.int .i64 l0, .int .i64 l1, .int .i64 l2, .int .i64 l3, .int .i64 l4, .int .i64 N, .int .i64 l6, .int .i64 l7, .int .i64 l8]
  have hB := ((Below.refl w.heap.size w).alloc (Nat.le_refl _) (.cells #[.bool s.begun, .int .i64 s.last, .slice A s.rs.length c] 38)).alloc (by simp) (.cells #[.int .i64 l0, .int .i64 l1, .int .i64 l2, .int .i64 l3, .int .i64 l4, .int .i64 N, .int .i64 l6, .int .i64 l7, .int .i64 l8] 23)
  have hv0 := hv.below hB
  rw [show (w.alloc (.cells #[.bool s.begun, .int .i64 s.last, .slice A s.rs.length c] 38)).heap.size = w.heap.size + 1 by simp] at hY
  go_enter Try.func33, Try.ntmps33
  go_wp2
  generalize (w.alloc (.cells #[.bool s.begun, .int .i64 s.last, .slice A s.rs.length c] 38)).alloc (.cells #[.int .i64 l0, .int .i64 l1, .int .i64 l2, .int .i64 l3, .int .i64 l4, .int .i64 N, .int .i64 l6, .int .i64 l7, .int .i64 l8] 23) = W0 at *
  have x2 := hX.cell 2
  have y2 := hY.cell 4
  have y3 := hY.cell 5
  have hget : ∀ j, j < s.rs.length → s.rs[j]? = some (s.rs.reverse.getD (s.rs.length - 1 - j) 0) := fun j hj => by
    rw [List.getD_eq_getElem?_getD, List.getElem?_reverse (by omega), show s.rs.length - 1 - (s.rs.length - 1 - j) = j by omega, List.getElem?_eq_getElem hj]
    rfl
  generalize s.rs.reverse = ys at *
  generalize s.rs.length = n at *
  clear hv hX hY
  have HG := Lib.hid hget
  have HNX := Lib.hid hnx
  have HSP := Lib.hid hsp
  have HFA := Lib.hid hfa
  clear hget hnx hsp hfa
  go_loopw [5] (fun i wr => (∃ j, j ≤ N ∧ j ≤ F ∧ i = .int .i64 (j : Nat)) ∧ ∃ z, wr = W0.drewN z) (fun i _ => N - (intOf i).toNat)
  case atStart => exact ⟨⟨0, by omega, by omega, rfl⟩, 0, rfl⟩
  case round =>
    obtain ⟨⟨j, hj, hjF, rfl⟩, z, rfl⟩ := hrel
    have x2z : (W0.drewN z).cell? ⟨w.heap.size, 2, none⟩ = some (.slice A n c) := x2
    have y2z : (W0.drewN z).cell? ⟨w.heap.size + 1, 4, none⟩ = some (.int .i64 l4) := y2
    have y3z : (W0.drewN z).cell? ⟨w.heap.size + 1, 5, none⟩ = some (.int .i64 N) := y3
    by_cases hlt : j < N
    · by_cases hjn : j < n
      · have g1 : decide (n ≤ j) = false := decide_eq_false (by omega)
        obtain ⟨x', rfl, hcx⟩ := hv0.cells (by omega)
        have hcell := hcx (n - 1 - j) (by omega)
        have hgj := HG.out j hjn
        obtain ⟨q, hq⟩ : ∃ q, n - 1 - j = q := ⟨_, rfl⟩
        rw [hq] at hcell hgj
        have e1 : IntKind.i64.wrap ((n : Int) - 1) = (n : Int) - 1 := by rw [IntKind.wrap_i64]; omega
        have e2 : IntKind.i64.wrap ((n : Int) - 1 - (j : Int)) = (q : Int) := by rw [IntKind.wrap_i64]; omega
        have hqn : q < n := by omega
        have hqn2 : (q : Int) < (n : Int) := by omega
        have hnx := HNX.out j (ys.getD q 0) hjF hgj
        have hsp := HSP.out j (ys.getD q 0) hgj
        rw [HFA.out] at hnx hsp
        have HNX2 := Lib.hid hnx
        have HSP2 := Lib.hid hsp
        clear hnx hsp hgj hcx
        generalize ys.getD q 0 = v at *
        have hcz : (W0.drewN z).cell? (x'.add q) = some (.int .i64 v) := hcell
        clear hcell
        have HE := Lib.hid hq
        clear hq hv0
        go_wp2
        refine Reg.begin_ (S := fun W => W.cell? ⟨w.heap.size, 2, none⟩ = some (.slice (some x') n c) ∧ W.cell? ⟨w.heap.size + 1, 4, none⟩ = some (.int .i64 l4) ∧ W.cell? (x'.add q) = some (.int .i64 v)) (by kernel_rfl) (by exact ⟨x2z, y2z, hcz⟩) (fun hHeld => ?_)
        refine Reg.take (i := 0) (v := ?v45) rfl (by kernel_rfl) (by kernel_rfl) (by kernel_rfl) (by rfl) ?hv45 (by assumption) ?rest45
        case hv45 => first | (intro w hSw; (try dsimp only at hSw); go_simp; done) | (intro w hSw; (try dsimp only at hSw); go_simp; with_reducible rfl)
        (try simp only [Act.put, List.setIfInBounds_toArray, List.set_cons_zero, List.set_cons_succ])
        refine Reg.take (i := 1) (v := ?v46) rfl (by kernel_rfl) (by kernel_rfl) (by kernel_rfl) (by rfl) ?hv46 (by assumption) ?rest46
        case hv46 => first | (intro w hSw; (try dsimp only at hSw); go_simp; done) | (intro w hSw; (try dsimp only at hSw); go_simp; with_reducible rfl)
        (try simp only [Act.put, List.setIfInBounds_toArray, List.set_cons_zero, List.set_cons_succ])
        refine Reg.take (i := 2) (v := ?v47) rfl (by kernel_rfl) (by kernel_rfl) (by kernel_rfl) (by rfl) ?hv47 (by assumption) ?rest47
        case hv47 => first | (intro w hSw; (try dsimp only at hSw); go_simp; done) | (intro w hSw; (try dsimp only at hSw); go_simp; with_reducible rfl)
        (try simp only [Act.put, List.setIfInBounds_toArray, List.set_cons_zero, List.set_cons_succ])
        refine Reg.take (i := 3) (v := ?v48) rfl (by kernel_rfl) (by kernel_rfl) (by kernel_rfl) (by rfl) ?hv48 (by assumption) ?rest48
        case hv48 => first | (intro w hSw; (try dsimp only at hSw); go_simp; done) | (intro w hSw; (try dsimp only at hSw); go_simp; with_reducible rfl)
        (try simp only [Act.put, List.setIfInBounds_toArray, List.set_cons_zero, List.set_cons_succ])
        refine Reg.take (i := 4) (v := ?v49) rfl (by kernel_rfl) (by kernel_rfl) (by kernel_rfl) (by rfl) ?hv49 (by assumption) ?rest49
        case hv49 => first | (intro w hSw; (try dsimp only at hSw); go_simp; done) | (intro w hSw; (try dsimp only at hSw); go_simp; with_reducible rfl)
        (try simp only [Act.put, List.setIfInBounds_toArray, List.set_cons_zero, List.set_cons_succ])
        (try simp only [g1])
        refine Reg.take (i := 5) (v := ?v50) rfl (by kernel_rfl) (by kernel_rfl) (by kernel_rfl) (by rfl) ?hv50 (by assumption) ?rest50
        case hv50 => first | (intro w hSw; (try dsimp only at hSw); go_simp; done) | (intro w hSw; (try dsimp only at hSw); go_simp; with_reducible rfl)
        (try simp only [Act.put, List.setIfInBounds_toArray, List.set_cons_zero, List.set_cons_succ])
        refine Reg.take (i := 6) (v := ?v51) rfl (by kernel_rfl) (by kernel_rfl) (by kernel_rfl) (by rfl) ?hv51 (by assumption) ?rest51
        case hv51 => first | (intro w hSw; (try dsimp only at hSw); go_simp; done) | (intro w hSw; (try dsimp only at hSw); go_simp; with_reducible rfl)
        (try simp only [Act.put, List.setIfInBounds_toArray, List.set_cons_zero, List.set_cons_succ])
        refine Reg.take (i := 7) (v := ?v52) rfl (by kernel_rfl) (by kernel_rfl) (by kernel_rfl) (by rfl) ?hv52 (by assumption) ?rest52
        case hv52 => first | (intro w hSw; (try dsimp only at hSw); go_simp; done) | (intro w hSw; (try dsimp only at hSw); go_simp; with_reducible rfl)
        (try simp only [Act.put, List.setIfInBounds_toArray, List.set_cons_zero, List.set_cons_succ])
        refine Reg.take (i := 8) (v := ?v53) rfl (by kernel_rfl) (by kernel_rfl) (by kernel_rfl) (by rfl) ?hv53 (by assumption) ?rest53
        case hv53 => first | (intro w hSw; (try dsimp only at hSw); go_simp; done) | (intro w hSw; (try dsimp only at hSw); go_simp; with_reducible rfl)
        (try simp only [Act.put, List.setIfInBounds_toArray, List.set_cons_zero, List.set_cons_succ])
        refine Reg.take (i := 9) (v := ?v54) rfl (by kernel_rfl) (by kernel_rfl) (by kernel_rfl) (by rfl) ?hv54 (by assumption) ?rest54
        case hv54 => first | (intro w hSw; (try dsimp only at hSw); go_simp; done) | (intro w hSw; (try dsimp only at hSw); go_simp; with_reducible rfl)
        (try simp only [Act.put, List.setIfInBounds_toArray, List.set_cons_zero, List.set_cons_succ])
        refine Reg.take (i := 10) (v := ?v55) rfl (by kernel_rfl) (by kernel_rfl) (by kernel_rfl) (by rfl) ?hv55 (by assumption) ?rest55
        case hv55 => first | (intro w hSw; (try dsimp only at hSw); go_simp; done) | (intro w hSw; (try dsimp only at hSw); go_simp; with_reducible rfl)
        (try simp only [Act.put, List.setIfInBounds_toArray, List.set_cons_zero, List.set_cons_succ])
        refine Reg.take (i := 11) (v := ?v56) rfl (by kernel_rfl) (by kernel_rfl) (by kernel_rfl) (by rfl) ?hv56 (by assumption) ?rest56
        case hv56 => first | (intro w hSw; (try dsimp only at hSw); go_simp; done) | (intro w hSw; (try dsimp only at hSw); go_simp; with_reducible rfl)
        (try simp only [Act.put, List.setIfInBounds_toArray, List.set_cons_zero, List.set_cons_succ])
        refine Reg.take (i := 12) (v := ?v57) rfl (by kernel_rfl) (by kernel_rfl) (by kernel_rfl) (by rfl) ?hv57 (by assumption) ?rest57
        case hv57 => first | (intro w hSw; (try dsimp only at hSw); go_simp; done) | (intro w hSw; (try dsimp only at hSw); go_simp; with_reducible rfl)
        (try simp only [Act.put, List.setIfInBounds_toArray, List.set_cons_zero, List.set_cons_succ])
        refine Reg.take (i := 13) (v := ?v58) rfl (by kernel_rfl) (by kernel_rfl) (by kernel_rfl) (by rfl) ?hv58 (by assumption) ?rest58
        case hv58 => first | (intro w hSw; (try dsimp only at hSw); go_simp; done) | (intro w hSw; (try dsimp only at hSw); go_simp; with_reducible rfl)
        (try simp only [Act.put, List.setIfInBounds_toArray, List.set_cons_zero, List.set_cons_succ])
        refine Reg.take (i := 14) (v := ?v59) rfl (by kernel_rfl) (by kernel_rfl) (by kernel_rfl) (by rfl) ?hv59 (by assumption) ?rest59
        case hv59 => first | (intro w hSw; (try dsimp only at hSw); go_simp; done) | (intro w hSw; (try dsimp only at hSw); go_simp; with_reducible rfl)
        (try simp only [Act.put, List.setIfInBounds_toArray, List.set_cons_zero, List.set_cons_succ])
        refine Reg.take (i := 15) (v := ?v60) rfl (by kernel_rfl) (by kernel_rfl) (by kernel_rfl) (by rfl) ?hv60 (by assumption) ?rest60
        case hv60 => first | (intro w hSw; (try dsimp only at hSw); go_simp; done) | (intro w hSw; (try dsimp only at hSw); go_simp; with_reducible rfl)
        (try simp only [Act.put, List.setIfInBounds_toArray, List.set_cons_zero, List.set_cons_succ])
        refine Reg.take (i := 16) (v := ?v61) rfl (by kernel_rfl) (by kernel_rfl) (by kernel_rfl) (by rfl) ?hv61 (by assumption) ?rest61
        case hv61 => first | (intro w hSw; (try dsimp only at hSw); go_simp; done) | (intro w hSw; (try dsimp only at hSw); go_simp; with_reducible rfl)
        (try simp only [Act.put, List.setIfInBounds_toArray, List.set_cons_zero, List.set_cons_succ])
        refine Reg.take (i := 17) (v := ?v62) rfl (by kernel_rfl) (by kernel_rfl) (by kernel_rfl) (by rfl) ?hv62 (by assumption) ?rest62
        case hv62 => first | (intro w hSw; (try dsimp only at hSw); go_simp; done) | (intro w hSw; (try dsimp only at hSw); go_simp; with_reducible rfl)
        (try simp only [Act.put, List.setIfInBounds_toArray, List.set_cons_zero, List.set_cons_succ])
        refine Reg.take (i := 18) (v := ?v63) rfl (by kernel_rfl) (by kernel_rfl) (by kernel_rfl) (by rfl) ?hv63 (by assumption) ?rest63
        case hv63 => first | (intro w hSw; (try dsimp only at hSw); go_simp; done) | (intro w hSw; (try dsimp only at hSw); go_simp; with_reducible rfl)
        (try simp only [Act.put, List.setIfInBounds_toArray, List.set_cons_zero, List.set_cons_succ])
        refine Reg.take (i := 19) (v := ?v64) rfl (by kernel_rfl) (by kernel_rfl) (by kernel_rfl) (by rfl) ?hv64 (by assumption) ?rest64
        case hv64 => first | (intro w hSw; (try dsimp only at hSw); go_simp; done) | (intro w hSw; (try dsimp only at hSw); go_simp; with_reducible rfl)
        (try simp only [Act.put, List.setIfInBounds_toArray, List.set_cons_zero, List.set_cons_succ])
        refine Reg.done (by kernel_rfl) ?_ _
        clear hHeld
        by_cases hvf : v < l4
        · have HF := Lib.hid (HSP2.out (decide_eq_false (by omega)))
          go_wp2
          go_ret
          have hF := HF.out
          exact ⟨by rw [decide_eq_false (show ¬ (N : Int) ≤ (F : Int) by omega)]; rfl, below_drewN (below_drewN hB z) 1⟩
        · have HF := Lib.hid (HNX2.out (decide_eq_true (by omega)))
          go_wp2
          go_roundw
          case rel =>
            have hF := HF.out
            exact ⟨⟨j + 1, by omega, by omega, by go_num⟩, _, by first | rfl | simp⟩
          case measure => simp [intOf]; omega
      · have g1 : decide (n ≤ j) = true := decide_eq_true (by omega)
        go_wp2
        refine Reg.begin_ (S := fun W => W.cell? ⟨w.heap.size, 2, none⟩ = some (.slice A n c)) (by kernel_rfl) (by exact x2z) (fun hHeld => ?_)
        refine Reg.take (i := 0) (v := ?v65) rfl (by kernel_rfl) (by kernel_rfl) (by kernel_rfl) (by rfl) ?hv65 (by assumption) ?rest65
        case hv65 => first | (intro w hSw; (try dsimp only at hSw); go_simp; done) | (intro w hSw; (try dsimp only at hSw); go_simp; with_reducible rfl)
        (try simp only [Act.put, List.setIfInBounds_toArray, List.set_cons_zero, List.set_cons_succ])
        refine Reg.take (i := 1) (v := ?v66) rfl (by kernel_rfl) (by kernel_rfl) (by kernel_rfl) (by rfl) ?hv66 (by assumption) ?rest66
        case hv66 => first | (intro w hSw; (try dsimp only at hSw); go_simp; done) | (intro w hSw; (try dsimp only at hSw); go_simp; with_reducible rfl)
        (try simp only [Act.put, List.setIfInBounds_toArray, List.set_cons_zero, List.set_cons_succ])
        refine Reg.take (i := 2) (v := ?v67) rfl (by kernel_rfl) (by kernel_rfl) (by kernel_rfl) (by rfl) ?hv67 (by assumption) ?rest67
        case hv67 => first | (intro w hSw; (try dsimp only at hSw); go_simp; done) | (intro w hSw; (try dsimp only at hSw); go_simp; with_reducible rfl)
        (try simp only [Act.put, List.setIfInBounds_toArray, List.set_cons_zero, List.set_cons_succ])
        refine Reg.take (i := 3) (v := ?v68) rfl (by kernel_rfl) (by kernel_rfl) (by kernel_rfl) (by rfl) ?hv68 (by assumption) ?rest68
        case hv68 => first | (intro w hSw; (try dsimp only at hSw); go_simp; done) | (intro w hSw; (try dsimp only at hSw); go_simp; with_reducible rfl)
        (try simp only [Act.put, List.setIfInBounds_toArray, List.set_cons_zero, List.set_cons_succ])
        refine Reg.take (i := 4) (v := ?v69) rfl (by kernel_rfl) (by kernel_rfl) (by kernel_rfl) (by rfl) ?hv69 (by assumption) ?rest69
        case hv69 => first | (intro w hSw; (try dsimp only at hSw); go_simp; done) | (intro w hSw; (try dsimp only at hSw); go_simp; with_reducible rfl)
        (try simp only [Act.put, List.setIfInBounds_toArray, List.set_cons_zero, List.set_cons_succ])
        (try simp only [g1])
        refine Reg.take (i := 5) (v := ?v70) rfl (by kernel_rfl) (by kernel_rfl) (by kernel_rfl) (by rfl) ?hv70 (by assumption) ?rest70
        case hv70 => first | (intro w hSw; (try dsimp only at hSw); go_simp; done) | (intro w hSw; (try dsimp only at hSw); go_simp; with_reducible rfl)
        (try simp only [Act.put, List.setIfInBounds_toArray, List.set_cons_zero, List.set_cons_succ])
        refine Reg.skip (i := 6) rfl (by kernel_rfl) (by kernel_rfl) (by kernel_rfl) (by rfl) (by assumption) ?_
        (try simp only [Act.put, List.setIfInBounds_toArray, List.set_cons_zero, List.set_cons_succ])
        refine Reg.skip (i := 7) rfl (by kernel_rfl) (by kernel_rfl) (by kernel_rfl) (by rfl) (by assumption) ?_
        (try simp only [Act.put, List.setIfInBounds_toArray, List.set_cons_zero, List.set_cons_succ])
        refine Reg.skip (i := 8) rfl (by kernel_rfl) (by kernel_rfl) (by kernel_rfl) (by rfl) (by assumption) ?_
        (try simp only [Act.put, List.setIfInBounds_toArray, List.set_cons_zero, List.set_cons_succ])
        refine Reg.skip (i := 9) rfl (by kernel_rfl) (by kernel_rfl) (by kernel_rfl) (by rfl) (by assumption) ?_
        (try simp only [Act.put, List.setIfInBounds_toArray, List.set_cons_zero, List.set_cons_succ])
        refine Reg.skip (i := 10) rfl (by kernel_rfl) (by kernel_rfl) (by kernel_rfl) (by rfl) (by assumption) ?_
        (try simp only [Act.put, List.setIfInBounds_toArray, List.set_cons_zero, List.set_cons_succ])
        refine Reg.skip (i := 11) rfl (by kernel_rfl) (by kernel_rfl) (by kernel_rfl) (by rfl) (by assumption) ?_
        (try simp only [Act.put, List.setIfInBounds_toArray, List.set_cons_zero, List.set_cons_succ])
        refine Reg.skip (i := 12) rfl (by kernel_rfl) (by kernel_rfl) (by kernel_rfl) (by rfl) (by assumption) ?_
        (try simp only [Act.put, List.setIfInBounds_toArray, List.set_cons_zero, List.set_cons_succ])
        refine Reg.skip (i := 13) rfl (by kernel_rfl) (by kernel_rfl) (by kernel_rfl) (by rfl) (by assumption) ?_
        (try simp only [Act.put, List.setIfInBounds_toArray, List.set_cons_zero, List.set_cons_succ])
        refine Reg.skip (i := 14) rfl (by kernel_rfl) (by kernel_rfl) (by kernel_rfl) (by rfl) (by assumption) ?_
        (try simp only [Act.put, List.setIfInBounds_toArray, List.set_cons_zero, List.set_cons_succ])
        refine Reg.skip (i := 15) rfl (by kernel_rfl) (by kernel_rfl) (by kernel_rfl) (by rfl) (by assumption) ?_
        (try simp only [Act.put, List.setIfInBounds_toArray, List.set_cons_zero, List.set_cons_succ])
        refine Reg.skip (i := 16) rfl (by kernel_rfl) (by kernel_rfl) (by kernel_rfl) (by rfl) (by assumption) ?_
        (try simp only [Act.put, List.setIfInBounds_toArray, List.set_cons_zero, List.set_cons_succ])
        refine Reg.skip (i := 17) rfl (by kernel_rfl) (by kernel_rfl) (by kernel_rfl) (by rfl) (by assumption) ?_
        (try simp only [Act.put, List.setIfInBounds_toArray, List.set_cons_zero, List.set_cons_succ])
        refine Reg.skip (i := 18) rfl (by kernel_rfl) (by kernel_rfl) (by kernel_rfl) (by rfl) (by assumption) ?_
        (try simp only [Act.put, List.setIfInBounds_toArray, List.set_cons_zero, List.set_cons_succ])
        refine Reg.take (i := 19) (v := ?v71) rfl (by kernel_rfl) (by kernel_rfl) (by kernel_rfl) (by rfl) ?hv71 (by assumption) ?rest71
        case hv71 => first | (intro w hSw; (try dsimp only at hSw); go_simp; done) | (intro w hSw; (try dsimp only at hSw); go_simp; with_reducible rfl)
        (try simp only [Act.put, List.setIfInBounds_toArray, List.set_cons_zero, List.set_cons_succ])
        refine Reg.done (by kernel_rfl) ?_ _
        go_wp2
        go_ret
        exact ⟨by rw [decide_eq_false (show ¬ (N : Int) ≤ (F : Int) by omega)]; rfl, below_drewN (below_drewN hB z) 1⟩
    · obtain rfl : j = N := by omega
      go_wp2
      go_ret
      exact ⟨by rw [decide_eq_true (show (j : Int) ≤ (F : Int) by omega)]; rfl, below_drewN hB z⟩
end Go.Proofs.Ytpmjgomfjfhfkaa.Tally
