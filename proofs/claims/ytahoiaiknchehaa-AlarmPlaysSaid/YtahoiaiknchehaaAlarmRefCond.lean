/- The reference of layer 23: Cond. -/
import Derived.Test.YtahoiaiknchehaaAlarmRef
import Derived.Test.YtahoiaiknchehaaAlarmTurn
import Derived.Test.YtahoiaiknchehaaAlarmMore
import Derived.Test.YtahoiaiknchehaaRegion
import Derived.Test.YtahoiaiknchehaaRegionMore
set_option linter.unusedSimpArgs false
set_option linter.unusedVariables false
namespace Go.Proofs.Ytahoiaiknchehaa.Alarm
open Go.RowKit
/-- What a call of the reference answers: the state, what is said, in memory of its own. -/
def RAns (w : World) (r : St × List Ot) (e : Ending) (w' : World) : Prop :=
  ∃ A d, e = .returned (.tuple #[refV r.1, .slice A r.2.length d]) ∧ r.2.length ≤ d ∧ d ≤ 9223372036854775807 ∧ Row.Vals otS w' A r.2.length r.2 ∧ (∀ x, A = some x → w.heap.size ≤ x.block) ∧ Below w.heap.size w w'
theorem cond_same {s : St} (h : Ok s) {j : Nat} (hj : 1 ≤ j ∧ j ≤ 5) (a : Int) {q : Bool} (hq : (s.get j).on = q) : condT s ((j : Int), a, q) = (s, []) := by
  unfold condT
  dsimp only
  rw [if_pos (by omega), Int.toNat_natCast]
  cases q
  · rw [if_neg (by decide)]
    unfold endT
    rw [hq, if_neg (by decide)]
  · rw [if_pos rfl]
    unfold beginT
    have hs := on_stands (h j) hq
    rw [if_pos hs]
    have e : ({ s.get j with on := true } : One) = s.get j := by
      generalize s.get j = o at *
      obtain ⟨o1, o2, o3, o4, o5⟩ := o
      dsimp only at hq ⊢
      rw [hq]
    rw [e, set_same]
theorem cond_off {s : St} {k : Int} (hk : ¬ (1 ≤ k ∧ k ≤ 5)) (a : Int) (q : Bool) : condT s (k, a, q) = (s, []) := by
  unfold condT
  rw [if_neg hk]
theorem ot_one (W : World) (t : TypeId) (e : Ot) : Row.Vals otS (W.alloc (.cells #[.int .i64 e.1, .int .i64 e.2.1, .int .i64 e.2.2.1, .int .i64 e.2.2.2] t)) (some ⟨W.heap.size, 0, none⟩) 1 [e] :=
  Row.Vals.has (S := otS) (ys := [e]) (tl := []) (Has.new W t _)
set_option maxRecDepth 100000 in
set_option maxHeartbeats 4000000 in
theorem refcond_any (s : St) (c : Cd) (hO : Ok s) (w : World) : Calls Try.prog 11 #[refV s, .agg #[.int .i64 c.1, .int .i64 c.2.1, .bool c.2.2]] w (RAns w (condT s c)) := by
  obtain ⟨k, a, q⟩ := c
  dsimp only
  have hX1 := Has.new w 32 (refC s)
  have hM1 : Has ((w.alloc (.cells (refC s) 32)).alloc (.cells #[.int .i64 k, .int .i64 a, .bool q] 40)) (w.heap.size + 1) 40 #[.int .i64 k, .int .i64 a, .bool q] := by simpa using Has.new (w.alloc (.cells (refC s) 32)) 40 #[.int .i64 k, .int .i64 a, .bool q]
  have hY : Has (((w.alloc (.cells (refC s) 32)).alloc (.cells #[.int .i64 k, .int .i64 a, .bool q] 40)).alloc (.cells zeroR 32)) (w.heap.size + 1 + 1) 32 zeroR := by simpa using Has.new ((w.alloc (.cells (refC s) 32)).alloc (.cells #[.int .i64 k, .int .i64 a, .bool q] 40)) 32 zeroR
  have hB : Below w.heap.size w (((w.alloc (.cells (refC s) 32)).alloc (.cells #[.int .i64 k, .int .i64 a, .bool q] 40)).alloc (.cells zeroR 32)) := (((Below.refl w.heap.size w).alloc (Nat.le_refl _) _).alloc (by simp) _).alloc (by simp; omega) _
  have hX := (hX1.alloc (.cells #[.int .i64 k, .int .i64 a, .bool q] 40)).alloc (.cells zeroR 32)
  have hM := hM1.alloc (.cells zeroR 32)
  obtain ⟨W2, hW2⟩ : ∃ W2, ((w.alloc (.cells (refC s) 32)).alloc (.cells #[.int .i64 k, .int .i64 a, .bool q] 40)).alloc (.cells zeroR 32) = W2 := ⟨_, rfl⟩
  rw [hW2] at hX hM hY hB
  have hS : Rs w w.heap.size (w.heap.size + 1 + 1) s W2 := ⟨hX, hY, hB, ⟨Nat.le_refl _, by omega⟩, by omega⟩
  unfold zeroR at hW2
  clear hX1 hM1 hX hY hB
  have m0 : W2.cell? ⟨w.heap.size + 1, 0, none⟩ = some (.int .i64 k) := hM.cell 0
  unfold refV
  by_cases hk : 1 ≤ k ∧ k ≤ 5
  · obtain ⟨j, rfl⟩ : ∃ j : Nat, k = (j : Int) := ⟨k.toNat, by omega⟩
    have hj : 1 ≤ j ∧ j ≤ 5 := by omega
    have hj6 : j < 6 := by omega
    have hj7 : 0 ≤ (j : Int) ∧ (j : Int) < 6 := by omega
    have hd1 : decide ((j : Int) < 1) = false := decide_eq_false (by omega)
    have hd2 : decide ((5 : Int) < (j : Int)) = false := decide_eq_false (by omega)
    have hp := fun (W : World) (h : Rs w w.heap.size (w.heap.size + 1 + 1) s W) => (rpart h.X hj6).1
    have hne := fun W => refnear_any a W
    by_cases ho : (s.get j).on = q
    · have HR := Lib.hid (cond_same hO hj a ho)
      rw [ho] at hp
      clear hO ho
      go_enter Try.func11, Try.ntmps11
      go_upto_region 2 with (fail)
      clear hW2
      refine Reg.begin_ (S := fun W => W.cell? ⟨w.heap.size, 1 + j * 5, none⟩ = some (.bool q) ∧ W.cell? ⟨w.heap.size + 1, 2, none⟩ = some (.bool q)) (by kernel_rfl) (by exact ⟨hp W2 hS, hM.cell 2⟩) (fun hHeld => ?_)
      have hqq : (q == q) = true := by simp
      refine Reg.take (i := 0) (v := ?v1) rfl (by kernel_rfl) (by kernel_rfl) (by kernel_rfl) (by rfl) ?hv1 (by assumption) ?rest1
      case hv1 => first | (intro w hSw; (try dsimp only at hSw); go_simp; done) | (intro w hSw; (try dsimp only at hSw); go_simp; with_reducible rfl)
      (try simp only [Act.put, List.setIfInBounds_toArray, List.set_cons_zero, List.set_cons_succ])
      refine Reg.take (i := 1) (v := ?v2) rfl (by kernel_rfl) (by kernel_rfl) (by kernel_rfl) (by rfl) ?hv2 (by assumption) ?rest2
      case hv2 => first | (intro w hSw; (try dsimp only at hSw); go_simp; done) | (intro w hSw; (try dsimp only at hSw); go_simp; with_reducible rfl)
      (try simp only [Act.put, List.setIfInBounds_toArray, List.set_cons_zero, List.set_cons_succ])
      refine Reg.take (i := 2) (v := ?v3) rfl (by kernel_rfl) (by kernel_rfl) (by kernel_rfl) (by rfl) ?hv3 (by assumption) ?rest3
      case hv3 => first | (intro w hSw; (try dsimp only at hSw); go_simp; done) | (intro w hSw; (try dsimp only at hSw); go_simp; with_reducible rfl)
      (try simp only [Act.put, List.setIfInBounds_toArray, List.set_cons_zero, List.set_cons_succ])
      refine Reg.take (i := 3) (v := ?v4) rfl (by kernel_rfl) (by kernel_rfl) (by kernel_rfl) (by rfl) ?hv4 (by assumption) ?rest4
      case hv4 => first | (intro w hSw; (try dsimp only at hSw); go_simp; done) | (intro w hSw; (try dsimp only at hSw); go_simp; with_reducible rfl)
      (try simp only [Act.put, List.setIfInBounds_toArray, List.set_cons_zero, List.set_cons_succ])
      refine Reg.take (i := 4) (v := ?v5) rfl (by kernel_rfl) (by kernel_rfl) (by kernel_rfl) (by rfl) ?hv5 (by assumption) ?rest5
      case hv5 => first | (intro w hSw; (try dsimp only at hSw); go_simp; done) | (intro w hSw; (try dsimp only at hSw); go_simp; with_reducible rfl)
      (try simp only [Act.put, List.setIfInBounds_toArray, List.set_cons_zero, List.set_cons_succ])
      refine Reg.take (i := 5) (v := ?v6) rfl (by kernel_rfl) (by kernel_rfl) (by kernel_rfl) (by rfl) ?hv6 (by assumption) ?rest6
      case hv6 => first | (intro w hSw; (try dsimp only at hSw); go_simp; done) | (intro w hSw; (try dsimp only at hSw); go_simp; with_reducible rfl)
      (try simp only [Act.put, List.setIfInBounds_toArray, List.set_cons_zero, List.set_cons_succ])
      refine Reg.take (i := 6) (v := ?v7) rfl (by kernel_rfl) (by kernel_rfl) (by kernel_rfl) (by rfl) ?hv7 (by assumption) ?rest7
      case hv7 => first | (intro w hSw; (try dsimp only at hSw); go_simp; done) | (intro w hSw; (try dsimp only at hSw); go_simp; with_reducible rfl)
      (try simp only [Act.put, List.setIfInBounds_toArray, List.set_cons_zero, List.set_cons_succ])
      refine Reg.take (i := 7) (v := ?v8) rfl (by kernel_rfl) (by kernel_rfl) (by kernel_rfl) (by rfl) ?hv8 (by assumption) ?rest8
      case hv8 => first | (intro w hSw; (try dsimp only at hSw); go_simp; done) | (intro w hSw; (try dsimp only at hSw); go_simp; with_reducible rfl)
      (try simp only [Act.put, List.setIfInBounds_toArray, List.set_cons_zero, List.set_cons_succ])
      refine Reg.take (i := 8) (v := ?v9) rfl (by kernel_rfl) (by kernel_rfl) (by kernel_rfl) (by rfl) ?hv9 (by assumption) ?rest9
      case hv9 => first | (intro w hSw; (try dsimp only at hSw); go_simp; done) | (intro w hSw; (try dsimp only at hSw); go_simp; with_reducible rfl)
      (try simp only [Act.put, List.setIfInBounds_toArray, List.set_cons_zero, List.set_cons_succ])
      refine Reg.take (i := 9) (v := ?v10) rfl (by kernel_rfl) (by kernel_rfl) (by kernel_rfl) (by rfl) ?hv10 (by assumption) ?rest10
      case hv10 => first | (intro w hSw; (try dsimp only at hSw); go_simp; done) | (intro w hSw; (try dsimp only at hSw); go_simp; with_reducible rfl)
      (try simp only [Act.put, List.setIfInBounds_toArray, List.set_cons_zero, List.set_cons_succ])
      refine Reg.take (i := 10) (v := ?v11) rfl (by kernel_rfl) (by kernel_rfl) (by kernel_rfl) (by rfl) ?hv11 (by assumption) ?rest11
      case hv11 => first | (intro w hSw; (try dsimp only at hSw); go_simp; done) | (intro w hSw; (try dsimp only at hSw); go_simp; with_reducible rfl)
      (try simp only [Act.put, List.setIfInBounds_toArray, List.set_cons_zero, List.set_cons_succ])
      refine Reg.take (i := 11) (v := ?v12) rfl (by kernel_rfl) (by kernel_rfl) (by kernel_rfl) (by rfl) ?hv12 (by assumption) ?rest12
      case hv12 => first | (intro w hSw; (try dsimp only at hSw); go_simp; done) | (intro w hSw; (try dsimp only at hSw); go_simp; with_reducible rfl)
      (try simp only [Act.put, List.setIfInBounds_toArray, List.set_cons_zero, List.set_cons_succ])
      refine Reg.take (i := 12) (v := ?v13) rfl (by kernel_rfl) (by kernel_rfl) (by kernel_rfl) (by rfl) ?hv13 (by assumption) ?rest13
      case hv13 => first | (intro w hSw; (try dsimp only at hSw); go_simp; done) | (intro w hSw; (try dsimp only at hSw); go_simp; with_reducible rfl)
      (try simp only [Act.put, List.setIfInBounds_toArray, List.set_cons_zero, List.set_cons_succ])
      refine Reg.take (i := 13) (v := ?v14) rfl (by kernel_rfl) (by kernel_rfl) (by kernel_rfl) (by rfl) ?hv14 (by assumption) ?rest14
      case hv14 => first | (intro w hSw; (try dsimp only at hSw); go_simp; done) | (intro w hSw; (try dsimp only at hSw); go_simp; with_reducible rfl)
      (try simp only [Act.put, List.setIfInBounds_toArray, List.set_cons_zero, List.set_cons_succ])
      refine Reg.take (i := 14) (v := ?v15) rfl (by kernel_rfl) (by kernel_rfl) (by kernel_rfl) (by rfl) ?hv15 (by assumption) ?rest15
      case hv15 => first | (intro w hSw; (try dsimp only at hSw); go_simp; done) | (intro w hSw; (try dsimp only at hSw); go_simp; with_reducible rfl)
      (try simp only [Act.put, List.setIfInBounds_toArray, List.set_cons_zero, List.set_cons_succ])
      refine Reg.take (i := 15) (v := ?v16) rfl (by kernel_rfl) (by kernel_rfl) (by kernel_rfl) (by rfl) ?hv16 (by assumption) ?rest16
      case hv16 => first | (intro w hSw; (try dsimp only at hSw); go_simp; done) | (intro w hSw; (try dsimp only at hSw); go_simp; with_reducible rfl)
      (try simp only [Act.put, List.setIfInBounds_toArray, List.set_cons_zero, List.set_cons_succ])
      refine Reg.done (by kernel_rfl) ?_ _
      clear hHeld m0
      have hS3 := hS.grow (below_drewN (Below.refl _ W2) 1)
      have hM3 : Has W2.drew (w.heap.size + 1) 40 #[.int .i64 (j : Nat), .int .i64 a, .bool q] := hM
      change Rs w w.heap.size (w.heap.size + 1 + 1) s W2.drew at hS3
      clear hS hM
      generalize W2.drew = W3 at *
      go_wp2_with (first
        | (refine ref_ld rfl _ rfl _ rfl hS3.X (ref_size _) ?_)
        | (refine ref_st rfl _ _ rfl _ _ rfl rfl hS3.Y (ref_size _) rfl (ref_one _) ?_))
      have hK9 := fun xs => kept_row W3 (w.heap.size + 1 + 1) xs
      refine ref_ret rfl (w.heap.size + 1 + 1) rfl (.slice none 0 0) rfl _ (hS3.Y.row _) (ref_size _) rfl ?_
      rw [HR.out]
      exact ⟨none, 0, rfl, Nat.le_refl _, by show 0 ≤ 9223372036854775807; omega, Row.Vals.none_ _, fun x hx => (by cases hx), below_kept hS3.low (hK9 _) hS3.low.size (fun x hx => by simp at hx; omega)⟩
    · have hQ := quiet_ok hO
      have hOs := on_stands (hO j)
      rw [condT_in s j hj]
      cases q
      · have hon : (s.get j).on = true := by simpa using ho
        have hs1 := hOs hon
        rw [hon] at hp
        have hgh : (s.set j { s.get j with on := false }).high j = s.high j := by unfold St.high; rw [get_set _ _ _ hj]
        have hhi := fun W => refhigh_any (s.set j { s.get j with on := false }) (j : Int) (quiet_set hQ (fun h => (by rw [hs1] at h; cases h))) W
        rw [highZ_nat, hgh] at hhi
        unfold refV at hhi
        have hac : ∀ W, Rs w w.heap.size (w.heap.size + 1 + 1) (s.set j { s.get j with on := false }) W → W.cell? ⟨w.heap.size, 1 + j * 5 + 2, none⟩ = some (.bool (s.get j).acked) := fun W hW => by
          have h9 := (rpart hW.X hj6).2.2.1
          rwa [get_set _ _ _ hj] at h9
        have HE := Lib.hid (show endT s j (nearT a) = if s.high j && !(s.get j).acked then (s.set j { s.get j with on := false }, [(4, nearT a, (j : Int), 0)]) else (s.set j noOne, [(3, nearT a, (j : Int), 0)]) from by unfold endT; rw [if_pos hon])
        rw [if_neg (show ¬ (false = true) by decide)]
        generalize nearT a = t at *
        clear hO ho hOs hQ hgh
        have HAC := Lib.hid hac
        clear hac
        by_cases hla : (s.high j && !(s.get j).acked) = true
        · have HR := Lib.hid (show endT s j t = (s.set j { s.get j with on := false }, [(4, t, (j : Int), 0)]) from by rw [HE.out, if_pos hla])
          rw [Bool.and_eq_true, Bool.not_eq_true'] at hla
          rw [hla.1] at hhi
          rw [hla.2] at HAC
          clear hla HE
          go_enter Try.func11, Try.ntmps11
          go_upto_region 2 with (fail)
          clear hW2
          refine Reg.begin_ (S := fun W => W.cell? ⟨w.heap.size, 1 + j * 5, none⟩ = some (.bool true) ∧ W.cell? ⟨w.heap.size + 1, 2, none⟩ = some (.bool false)) (by kernel_rfl) (by exact ⟨hp W2 hS, hM.cell 2⟩) (fun hHeld => ?_)
          refine Reg.take (i := 0) (v := ?v17) rfl (by kernel_rfl) (by kernel_rfl) (by kernel_rfl) (by rfl) ?hv17 (by assumption) ?rest17
          case hv17 => first | (intro w hSw; (try dsimp only at hSw); go_simp; done) | (intro w hSw; (try dsimp only at hSw); go_simp; with_reducible rfl)
          (try simp only [Act.put, List.setIfInBounds_toArray, List.set_cons_zero, List.set_cons_succ])
          refine Reg.take (i := 1) (v := ?v18) rfl (by kernel_rfl) (by kernel_rfl) (by kernel_rfl) (by rfl) ?hv18 (by assumption) ?rest18
          case hv18 => first | (intro w hSw; (try dsimp only at hSw); go_simp; done) | (intro w hSw; (try dsimp only at hSw); go_simp; with_reducible rfl)
          (try simp only [Act.put, List.setIfInBounds_toArray, List.set_cons_zero, List.set_cons_succ])
          refine Reg.take (i := 2) (v := ?v19) rfl (by kernel_rfl) (by kernel_rfl) (by kernel_rfl) (by rfl) ?hv19 (by assumption) ?rest19
          case hv19 => first | (intro w hSw; (try dsimp only at hSw); go_simp; done) | (intro w hSw; (try dsimp only at hSw); go_simp; with_reducible rfl)
          (try simp only [Act.put, List.setIfInBounds_toArray, List.set_cons_zero, List.set_cons_succ])
          refine Reg.take (i := 3) (v := ?v20) rfl (by kernel_rfl) (by kernel_rfl) (by kernel_rfl) (by rfl) ?hv20 (by assumption) ?rest20
          case hv20 => first | (intro w hSw; (try dsimp only at hSw); go_simp; done) | (intro w hSw; (try dsimp only at hSw); go_simp; with_reducible rfl)
          (try simp only [Act.put, List.setIfInBounds_toArray, List.set_cons_zero, List.set_cons_succ])
          refine Reg.take (i := 4) (v := ?v21) rfl (by kernel_rfl) (by kernel_rfl) (by kernel_rfl) (by rfl) ?hv21 (by assumption) ?rest21
          case hv21 => first | (intro w hSw; (try dsimp only at hSw); go_simp; done) | (intro w hSw; (try dsimp only at hSw); go_simp; with_reducible rfl)
          (try simp only [Act.put, List.setIfInBounds_toArray, List.set_cons_zero, List.set_cons_succ])
          refine Reg.take (i := 5) (v := ?v22) rfl (by kernel_rfl) (by kernel_rfl) (by kernel_rfl) (by rfl) ?hv22 (by assumption) ?rest22
          case hv22 => first | (intro w hSw; (try dsimp only at hSw); go_simp; done) | (intro w hSw; (try dsimp only at hSw); go_simp; with_reducible rfl)
          (try simp only [Act.put, List.setIfInBounds_toArray, List.set_cons_zero, List.set_cons_succ])
          refine Reg.take (i := 6) (v := ?v23) rfl (by kernel_rfl) (by kernel_rfl) (by kernel_rfl) (by rfl) ?hv23 (by assumption) ?rest23
          case hv23 => first | (intro w hSw; (try dsimp only at hSw); go_simp; done) | (intro w hSw; (try dsimp only at hSw); go_simp; with_reducible rfl)
          (try simp only [Act.put, List.setIfInBounds_toArray, List.set_cons_zero, List.set_cons_succ])
          refine Reg.take (i := 7) (v := ?v24) rfl (by kernel_rfl) (by kernel_rfl) (by kernel_rfl) (by rfl) ?hv24 (by assumption) ?rest24
          case hv24 => first | (intro w hSw; (try dsimp only at hSw); go_simp; done) | (intro w hSw; (try dsimp only at hSw); go_simp; with_reducible rfl)
          (try simp only [Act.put, List.setIfInBounds_toArray, List.set_cons_zero, List.set_cons_succ])
          refine Reg.take (i := 8) (v := ?v25) rfl (by kernel_rfl) (by kernel_rfl) (by kernel_rfl) (by rfl) ?hv25 (by assumption) ?rest25
          case hv25 => first | (intro w hSw; (try dsimp only at hSw); go_simp; done) | (intro w hSw; (try dsimp only at hSw); go_simp; with_reducible rfl)
          (try simp only [Act.put, List.setIfInBounds_toArray, List.set_cons_zero, List.set_cons_succ])
          refine Reg.take (i := 9) (v := ?v26) rfl (by kernel_rfl) (by kernel_rfl) (by kernel_rfl) (by rfl) ?hv26 (by assumption) ?rest26
          case hv26 => first | (intro w hSw; (try dsimp only at hSw); go_simp; done) | (intro w hSw; (try dsimp only at hSw); go_simp; with_reducible rfl)
          (try simp only [Act.put, List.setIfInBounds_toArray, List.set_cons_zero, List.set_cons_succ])
          refine Reg.take (i := 10) (v := ?v27) rfl (by kernel_rfl) (by kernel_rfl) (by kernel_rfl) (by rfl) ?hv27 (by assumption) ?rest27
          case hv27 => first | (intro w hSw; (try dsimp only at hSw); go_simp; done) | (intro w hSw; (try dsimp only at hSw); go_simp; with_reducible rfl)
          (try simp only [Act.put, List.setIfInBounds_toArray, List.set_cons_zero, List.set_cons_succ])
          refine Reg.take (i := 11) (v := ?v28) rfl (by kernel_rfl) (by kernel_rfl) (by kernel_rfl) (by rfl) ?hv28 (by assumption) ?rest28
          case hv28 => first | (intro w hSw; (try dsimp only at hSw); go_simp; done) | (intro w hSw; (try dsimp only at hSw); go_simp; with_reducible rfl)
          (try simp only [Act.put, List.setIfInBounds_toArray, List.set_cons_zero, List.set_cons_succ])
          refine Reg.take (i := 12) (v := ?v29) rfl (by kernel_rfl) (by kernel_rfl) (by kernel_rfl) (by rfl) ?hv29 (by assumption) ?rest29
          case hv29 => first | (intro w hSw; (try dsimp only at hSw); go_simp; done) | (intro w hSw; (try dsimp only at hSw); go_simp; with_reducible rfl)
          (try simp only [Act.put, List.setIfInBounds_toArray, List.set_cons_zero, List.set_cons_succ])
          refine Reg.take (i := 13) (v := ?v30) rfl (by kernel_rfl) (by kernel_rfl) (by kernel_rfl) (by rfl) ?hv30 (by assumption) ?rest30
          case hv30 => first | (intro w hSw; (try dsimp only at hSw); go_simp; done) | (intro w hSw; (try dsimp only at hSw); go_simp; with_reducible rfl)
          (try simp only [Act.put, List.setIfInBounds_toArray, List.set_cons_zero, List.set_cons_succ])
          refine Reg.take (i := 14) (v := ?v31) rfl (by kernel_rfl) (by kernel_rfl) (by kernel_rfl) (by rfl) ?hv31 (by assumption) ?rest31
          case hv31 => first | (intro w hSw; (try dsimp only at hSw); go_simp; done) | (intro w hSw; (try dsimp only at hSw); go_simp; with_reducible rfl)
          (try simp only [Act.put, List.setIfInBounds_toArray, List.set_cons_zero, List.set_cons_succ])
          refine Reg.take (i := 15) (v := ?v32) rfl (by kernel_rfl) (by kernel_rfl) (by kernel_rfl) (by rfl) ?hv32 (by assumption) ?rest32
          case hv32 => first | (intro w hSw; (try dsimp only at hSw); go_simp; done) | (intro w hSw; (try dsimp only at hSw); go_simp; with_reducible rfl)
          (try simp only [Act.put, List.setIfInBounds_toArray, List.set_cons_zero, List.set_cons_succ])
          refine Reg.done (by kernel_rfl) ?_ _
          clear hHeld m0
          have hS3 := hS.grow (below_drewN (Below.refl _ W2) 1)
          have hM3 : Has W2.drew (w.heap.size + 1) 40 #[.int .i64 (j : Nat), .int .i64 a, .bool false] := hM
          change Rs w w.heap.size (w.heap.size + 1 + 1) s W2.drew at hS3
          clear hS hM
          generalize W2.drew = W3 at *
          have c0 := (rpart hS3.X hj6).1
          have f0 := hS3.X.frozen (1 + j * 5)
          have n2 := hM3.cell 2
          have hS4 := hS3.put1 j 0 false { s.get j with on := false } hj (by omega) rfl
          have hM4 := hM3.far (p := ⟨w.heap.size, 1 + j * 5 + 0, none⟩) (by show w.heap.size + 1 ≠ w.heap.size; omega) (.bool false)
          go_upto_region 5 with (fail)
          simp only [Nat.add_zero] at hS4 hM4
          generalize W3.setCell ⟨w.heap.size, 1 + j * 5, none⟩ (.bool false) = W4 at *
          clear hS3 hM3 c0 f0 n2
          have n2 := hM4.cell 2
          have n1 := hM4.cell 1
          generalize s.set j { s.get j with on := false } = s1 at *
          go_upto_region 13 with (first
            | (refine ref_ld rfl _ rfl _ rfl hS4.X (ref_size _) ?_)
            | (go_at_call 26; ((with_reducible refine (hhi _).mono ?_); rintro e W5 ⟨rfl, hB5⟩; have hS5 := hS4.grow hB5; have hM5 := hM4.below hB5 hM4.lt; have d2 := HAC.out _ hS5)))
          clear hS4 hM4 d2
          refine Till.begin_ (T := [8]) (S := fun W => Has W w.heap.size 32 (refC s1) ∧ W.cell? ⟨w.heap.size + 1, 1, none⟩ = some (.int .i64 a)) (by kernel_rfl) (by exact ⟨hS5.X, hM5.cell 1⟩) (fun hHeld => ?_)
          refine Till.take (i := 0) (v := .agg (refC s1)) rfl (by kernel_rfl) (by kernel_rfl) (by kernel_rfl) (by kernel_rfl) (by rfl) (fun W hSw => by exact ref_take rfl rfl hSw.1 (ref_size _)) (by assumption) ?_
          (try simp only [Act.put, List.setIfInBounds_toArray, List.set_cons_zero, List.set_cons_succ])
          refine Till.take (i := 1) (v := ?v33) rfl (by kernel_rfl) (by kernel_rfl) (by kernel_rfl) (by kernel_rfl) (by rfl) ?hv33 (by assumption) ?rest33
          case hv33 => first | (intro w hSw; (try dsimp only at hSw); go_simp; done) | (intro w hSw; (try dsimp only at hSw); go_simp; with_reducible rfl)
          (try simp only [Act.put, List.setIfInBounds_toArray, List.set_cons_zero, List.set_cons_succ])
          refine Till.take (i := 2) (v := ?v34) rfl (by kernel_rfl) (by kernel_rfl) (by kernel_rfl) (by kernel_rfl) (by rfl) ?hv34 (by assumption) ?rest34
          case hv34 => first | (intro w hSw; (try dsimp only at hSw); go_simp; done) | (intro w hSw; (try dsimp only at hSw); go_simp; with_reducible rfl)
          (try simp only [Act.put, List.setIfInBounds_toArray, List.set_cons_zero, List.set_cons_succ])
          refine Till.take (i := 4) (v := ?v35) rfl (by kernel_rfl) (by kernel_rfl) (by kernel_rfl) (by kernel_rfl) (by rfl) ?hv35 (by assumption) ?rest35
          case hv35 => first | (intro w hSw; (try dsimp only at hSw); go_simp; done) | (intro w hSw; (try dsimp only at hSw); go_simp; with_reducible rfl)
          (try simp only [Act.put, List.setIfInBounds_toArray, List.set_cons_zero, List.set_cons_succ])
          have hS7 := hS5.grow (below_drewN (Below.refl _ W5) 1)
          have hM7 : Has W5.drew (w.heap.size + 1) 40 #[.int .i64 (j : Nat), .int .i64 a, .bool false] := hM5
          change Rs w w.heap.size (w.heap.size + 1 + 1) _ W5.drew at hS7
          clear hS5 hM5
          generalize W5.drew = W7 at *
          refine Till.call (i := 3) rfl (by kernel_rfl) (by rfl) ?_
          intro K hK
          go_simp
          go_at_call 25
          ((with_reducible refine (hne _).mono ?_); rintro e W8 ⟨rfl, rfl⟩)
          refine hK.out _ _ (by exact hHeld) (fun hHeld => ?_)
          clear hK K
          (try simp only [Act.put, List.setIfInBounds_toArray, List.set_cons_zero, List.set_cons_succ])
          refine Till.take (i := 5) (v := ?v36) rfl (by kernel_rfl) (by kernel_rfl) (by kernel_rfl) (by kernel_rfl) (by rfl) ?hv36 (by assumption) ?rest36
          case hv36 => first | (intro w hSw; (try dsimp only at hSw); go_simp; done) | (intro w hSw; (try dsimp only at hSw); go_simp; with_reducible rfl)
          (try simp only [Act.put, List.setIfInBounds_toArray, List.set_cons_zero, List.set_cons_succ])
          have hz8 : w.heap.size ≤ W8.heap.size := hS7.low.size
          have hy8 : w.heap.size + 1 + 1 < W8.heap.size := hS7.Y.lt
          have hK8 := fun W => kept_row W (w.heap.size + 1 + 1) (refC s1)
          clear hHeld
          refine Till.both (i := 6) (j := 7) rfl rfl (by kernel_rfl) (by rfl) (by rfl) ?_ ?_
          · intro K hK
            go_simp
            have hS8 := hS7.grow ((Below.refl _ W8).alloc (Nat.le_refl _) (.cells #[.int .i64 4, .int .i64 t, .int .i64 (j : Nat), .int .i64 0] 53))
            have hM8 := hM7.alloc (.cells #[.int .i64 4, .int .i64 t, .int .i64 (j : Nat), .int .i64 0] 53)
            have hV8 := ot_one W8 53 (4, t, (j : Int), 0)
            dsimp only at hV8
            refine hK.out _ _ (by exact ⟨hS8.X, hM8.cell 1⟩) (fun hHeld => ?_)
            clear hK K
            (try simp only [Act.put, List.setIfInBounds_toArray, List.set_cons_zero, List.set_cons_succ])
            clear hHeld hM7 hS7
            generalize W8.alloc (.cells #[.int .i64 4, .int .i64 t, .int .i64 (j : Nat), .int .i64 0] 53) = W9 at *
            generalize W8.heap.size = z8 at *
            refine Till.call (i := 7) rfl (by kernel_rfl) (by rfl) ?_
            intro K hK
            refine wp_store_row 32 _ _ rfl (w.heap.size + 1 + 1) (refC s1) rfl rfl 32 _ hS8.Y (by rw [ref_size]; kernel_rfl) (by rw [ref_size]; rfl) (ref_one _) ?_
            have hK9 := hK8 W9
            refine hK.out _ _ (by exact ⟨hK9.has hS8.X (by simp <;> omega), (hK9.has hM8 (by simp <;> omega)).cell 1⟩) (fun hHeld => ?_)
            clear hK K
            (try simp only [Act.put, List.setIfInBounds_toArray, List.set_cons_zero, List.set_cons_succ])
            have hY9 := hS8.Y.row (refC s1)
            have hV9 := hV8.kept hK9 (fun _ x hx hk => by injection hx with hx; subst hx; simp at hk; omega)
            have hB9 := below_kept hS8.low hK9 hS8.low.size (fun x hx => by simp at hx; omega)
            clear hM8 hS8 hV8 hK9 hHeld hK8
            refine Till.put (i := 8) rfl (by kernel_rfl) (by rfl) (by rfl) ?_
            intro K hK
            go_simp
            refine hK.out _ _ ?_
            clear hK K
            (try simp only [Act.put, List.setIfInBounds_toArray, List.set_cons_zero, List.set_cons_succ])
            refine Till.done (by kernel_rfl) ?_ _
            go_wp2
            refine ref_ret rfl (w.heap.size + 1 + 1) rfl (.slice (some ⟨z8, 0, none⟩) 1 1) rfl _ hY9 (ref_size _) rfl ?_
            rw [HR.out]
            exact ⟨some ⟨z8, 0, none⟩, 1, rfl, Nat.le_refl _, by show 1 ≤ 9223372036854775807; omega, hV9, fun x hx => by injection hx with hx; subst hx; exact hz8, hB9⟩
          · intro K hK
            refine wp_store_row 32 _ _ rfl (w.heap.size + 1 + 1) (refC s1) rfl rfl 32 _ hS7.Y (by rw [ref_size]; kernel_rfl) (by rw [ref_size]; rfl) (ref_one _) ?_
            have hK9 := hK8 W8
            have hX9 := hK9.has hS7.X (by simp <;> omega)
            have hM9 := hK9.has hM7 (by simp <;> omega)
            have hYb := hS7.Y.row (refC s1)
            have hBb := below_kept hS7.low hK9 hS7.low.size (fun x hx => by simp at hx; omega)
            have hzz := hK9.size
            refine hK.out _ _ (by exact ⟨hX9, hM9.cell 1⟩) (fun hHeld => ?_)
            clear hK K
            (try simp only [Act.put, List.setIfInBounds_toArray, List.set_cons_zero, List.set_cons_succ])
            clear hS7 hM7 hK9 hK8 hHeld
            generalize W8.setRow (w.heap.size + 1 + 1) (refC s1) = Wb at *
            have hX8 := hX9.alloc (.cells #[.int .i64 4, .int .i64 t, .int .i64 (j : Nat), .int .i64 0] 53)
            have hM8 := hM9.alloc (.cells #[.int .i64 4, .int .i64 t, .int .i64 (j : Nat), .int .i64 0] 53)
            have hV9 := ot_one Wb 53 (4, t, (j : Int), 0)
            dsimp only at hV9
            have hY9 := hYb.alloc (.cells #[.int .i64 4, .int .i64 t, .int .i64 (j : Nat), .int .i64 0] 53)
            have hB9 := hBb.alloc hBb.size (.cells #[.int .i64 4, .int .i64 t, .int .i64 (j : Nat), .int .i64 0] 53)
            replace hz8 : w.heap.size ≤ Wb.heap.size := by omega
            refine Till.call (i := 6) rfl (by kernel_rfl) (by rfl) ?_
            intro K hK
            go_simp
            refine hK.out _ _ (by exact ⟨hX8, hM8.cell 1⟩) (fun hHeld => ?_)
            clear hK K
            (try simp only [Act.put, List.setIfInBounds_toArray, List.set_cons_zero, List.set_cons_succ])
            clear hX8 hM8 hX9 hM9 hYb hBb hzz hHeld
            generalize Wb.alloc (.cells #[.int .i64 4, .int .i64 t, .int .i64 (j : Nat), .int .i64 0] 53) = W9 at *
            generalize Wb.heap.size = z8 at *
            refine Till.put (i := 8) rfl (by kernel_rfl) (by rfl) (by rfl) ?_
            intro K hK
            go_simp
            refine hK.out _ _ ?_
            clear hK K
            (try simp only [Act.put, List.setIfInBounds_toArray, List.set_cons_zero, List.set_cons_succ])
            refine Till.done (by kernel_rfl) ?_ _
            go_wp2
            refine ref_ret rfl (w.heap.size + 1 + 1) rfl (.slice (some ⟨z8, 0, none⟩) 1 1) rfl _ hY9 (ref_size _) rfl ?_
            rw [HR.out]
            exact ⟨some ⟨z8, 0, none⟩, 1, rfl, Nat.le_refl _, by show 1 ≤ 9223372036854775807; omega, hV9, fun x hx => by injection hx with hx; subst hx; exact hz8, hB9⟩
        · have HR := Lib.hid (show endT s j t = (s.set j noOne, [(3, t, (j : Int), 0)]) from by rw [HE.out, if_neg hla])
          have hp5 := fun W (hW : Rs w w.heap.size (w.heap.size + 1 + 1) (s.set j { s.get j with on := false }) W) => hW.put5 j noOne hj
          rw [set_set] at hp5
          have HPT := Lib.hid (fun W (hW : Rs w w.heap.size (w.heap.size + 1 + 1) (s.set j { s.get j with on := false }) W) => rpart hW.X hj6)
          unfold noOne at hp5
          dsimp only at hp5
          have HP5 := Lib.hid hp5
          clear HE hp5
          go_enter Try.func11, Try.ntmps11
          go_upto_region 2 with (fail)
          clear hW2
          refine Reg.begin_ (S := fun W => W.cell? ⟨w.heap.size, 1 + j * 5, none⟩ = some (.bool true) ∧ W.cell? ⟨w.heap.size + 1, 2, none⟩ = some (.bool false)) (by kernel_rfl) (by exact ⟨hp W2 hS, hM.cell 2⟩) (fun hHeld => ?_)
          refine Reg.take (i := 0) (v := ?v37) rfl (by kernel_rfl) (by kernel_rfl) (by kernel_rfl) (by rfl) ?hv37 (by assumption) ?rest37
          case hv37 => first | (intro w hSw; (try dsimp only at hSw); go_simp; done) | (intro w hSw; (try dsimp only at hSw); go_simp; with_reducible rfl)
          (try simp only [Act.put, List.setIfInBounds_toArray, List.set_cons_zero, List.set_cons_succ])
          refine Reg.take (i := 1) (v := ?v38) rfl (by kernel_rfl) (by kernel_rfl) (by kernel_rfl) (by rfl) ?hv38 (by assumption) ?rest38
          case hv38 => first | (intro w hSw; (try dsimp only at hSw); go_simp; done) | (intro w hSw; (try dsimp only at hSw); go_simp; with_reducible rfl)
          (try simp only [Act.put, List.setIfInBounds_toArray, List.set_cons_zero, List.set_cons_succ])
          refine Reg.take (i := 2) (v := ?v39) rfl (by kernel_rfl) (by kernel_rfl) (by kernel_rfl) (by rfl) ?hv39 (by assumption) ?rest39
          case hv39 => first | (intro w hSw; (try dsimp only at hSw); go_simp; done) | (intro w hSw; (try dsimp only at hSw); go_simp; with_reducible rfl)
          (try simp only [Act.put, List.setIfInBounds_toArray, List.set_cons_zero, List.set_cons_succ])
          refine Reg.take (i := 3) (v := ?v40) rfl (by kernel_rfl) (by kernel_rfl) (by kernel_rfl) (by rfl) ?hv40 (by assumption) ?rest40
          case hv40 => first | (intro w hSw; (try dsimp only at hSw); go_simp; done) | (intro w hSw; (try dsimp only at hSw); go_simp; with_reducible rfl)
          (try simp only [Act.put, List.setIfInBounds_toArray, List.set_cons_zero, List.set_cons_succ])
          refine Reg.take (i := 4) (v := ?v41) rfl (by kernel_rfl) (by kernel_rfl) (by kernel_rfl) (by rfl) ?hv41 (by assumption) ?rest41
          case hv41 => first | (intro w hSw; (try dsimp only at hSw); go_simp; done) | (intro w hSw; (try dsimp only at hSw); go_simp; with_reducible rfl)
          (try simp only [Act.put, List.setIfInBounds_toArray, List.set_cons_zero, List.set_cons_succ])
          refine Reg.take (i := 5) (v := ?v42) rfl (by kernel_rfl) (by kernel_rfl) (by kernel_rfl) (by rfl) ?hv42 (by assumption) ?rest42
          case hv42 => first | (intro w hSw; (try dsimp only at hSw); go_simp; done) | (intro w hSw; (try dsimp only at hSw); go_simp; with_reducible rfl)
          (try simp only [Act.put, List.setIfInBounds_toArray, List.set_cons_zero, List.set_cons_succ])
          refine Reg.take (i := 6) (v := ?v43) rfl (by kernel_rfl) (by kernel_rfl) (by kernel_rfl) (by rfl) ?hv43 (by assumption) ?rest43
          case hv43 => first | (intro w hSw; (try dsimp only at hSw); go_simp; done) | (intro w hSw; (try dsimp only at hSw); go_simp; with_reducible rfl)
          (try simp only [Act.put, List.setIfInBounds_toArray, List.set_cons_zero, List.set_cons_succ])
          refine Reg.take (i := 7) (v := ?v44) rfl (by kernel_rfl) (by kernel_rfl) (by kernel_rfl) (by rfl) ?hv44 (by assumption) ?rest44
          case hv44 => first | (intro w hSw; (try dsimp only at hSw); go_simp; done) | (intro w hSw; (try dsimp only at hSw); go_simp; with_reducible rfl)
          (try simp only [Act.put, List.setIfInBounds_toArray, List.set_cons_zero, List.set_cons_succ])
          refine Reg.take (i := 8) (v := ?v45) rfl (by kernel_rfl) (by kernel_rfl) (by kernel_rfl) (by rfl) ?hv45 (by assumption) ?rest45
          case hv45 => first | (intro w hSw; (try dsimp only at hSw); go_simp; done) | (intro w hSw; (try dsimp only at hSw); go_simp; with_reducible rfl)
          (try simp only [Act.put, List.setIfInBounds_toArray, List.set_cons_zero, List.set_cons_succ])
          refine Reg.take (i := 9) (v := ?v46) rfl (by kernel_rfl) (by kernel_rfl) (by kernel_rfl) (by rfl) ?hv46 (by assumption) ?rest46
          case hv46 => first | (intro w hSw; (try dsimp only at hSw); go_simp; done) | (intro w hSw; (try dsimp only at hSw); go_simp; with_reducible rfl)
          (try simp only [Act.put, List.setIfInBounds_toArray, List.set_cons_zero, List.set_cons_succ])
          refine Reg.take (i := 10) (v := ?v47) rfl (by kernel_rfl) (by kernel_rfl) (by kernel_rfl) (by rfl) ?hv47 (by assumption) ?rest47
          case hv47 => first | (intro w hSw; (try dsimp only at hSw); go_simp; done) | (intro w hSw; (try dsimp only at hSw); go_simp; with_reducible rfl)
          (try simp only [Act.put, List.setIfInBounds_toArray, List.set_cons_zero, List.set_cons_succ])
          refine Reg.take (i := 11) (v := ?v48) rfl (by kernel_rfl) (by kernel_rfl) (by kernel_rfl) (by rfl) ?hv48 (by assumption) ?rest48
          case hv48 => first | (intro w hSw; (try dsimp only at hSw); go_simp; done) | (intro w hSw; (try dsimp only at hSw); go_simp; with_reducible rfl)
          (try simp only [Act.put, List.setIfInBounds_toArray, List.set_cons_zero, List.set_cons_succ])
          refine Reg.take (i := 12) (v := ?v49) rfl (by kernel_rfl) (by kernel_rfl) (by kernel_rfl) (by rfl) ?hv49 (by assumption) ?rest49
          case hv49 => first | (intro w hSw; (try dsimp only at hSw); go_simp; done) | (intro w hSw; (try dsimp only at hSw); go_simp; with_reducible rfl)
          (try simp only [Act.put, List.setIfInBounds_toArray, List.set_cons_zero, List.set_cons_succ])
          refine Reg.take (i := 13) (v := ?v50) rfl (by kernel_rfl) (by kernel_rfl) (by kernel_rfl) (by rfl) ?hv50 (by assumption) ?rest50
          case hv50 => first | (intro w hSw; (try dsimp only at hSw); go_simp; done) | (intro w hSw; (try dsimp only at hSw); go_simp; with_reducible rfl)
          (try simp only [Act.put, List.setIfInBounds_toArray, List.set_cons_zero, List.set_cons_succ])
          refine Reg.take (i := 14) (v := ?v51) rfl (by kernel_rfl) (by kernel_rfl) (by kernel_rfl) (by rfl) ?hv51 (by assumption) ?rest51
          case hv51 => first | (intro w hSw; (try dsimp only at hSw); go_simp; done) | (intro w hSw; (try dsimp only at hSw); go_simp; with_reducible rfl)
          (try simp only [Act.put, List.setIfInBounds_toArray, List.set_cons_zero, List.set_cons_succ])
          refine Reg.take (i := 15) (v := ?v52) rfl (by kernel_rfl) (by kernel_rfl) (by kernel_rfl) (by rfl) ?hv52 (by assumption) ?rest52
          case hv52 => first | (intro w hSw; (try dsimp only at hSw); go_simp; done) | (intro w hSw; (try dsimp only at hSw); go_simp; with_reducible rfl)
          (try simp only [Act.put, List.setIfInBounds_toArray, List.set_cons_zero, List.set_cons_succ])
          refine Reg.done (by kernel_rfl) ?_ _
          clear hHeld m0
          have hS3 := hS.grow (below_drewN (Below.refl _ W2) 1)
          have hM3 : Has W2.drew (w.heap.size + 1) 40 #[.int .i64 (j : Nat), .int .i64 a, .bool false] := hM
          change Rs w w.heap.size (w.heap.size + 1 + 1) s W2.drew at hS3
          clear hS hM
          generalize W2.drew = W3 at *
          have c0 := (rpart hS3.X hj6).1
          have f0 := hS3.X.frozen (1 + j * 5)
          have n2 := hM3.cell 2
          have hS4 := hS3.put1 j 0 false { s.get j with on := false } hj (by omega) rfl
          have hM4 := hM3.far (p := ⟨w.heap.size, 1 + j * 5 + 0, none⟩) (by show w.heap.size + 1 ≠ w.heap.size; omega) (.bool false)
          go_upto_region 5 with (fail)
          simp only [Nat.add_zero] at hS4 hM4
          generalize W3.setCell ⟨w.heap.size, 1 + j * 5, none⟩ (.bool false) = W4 at *
          clear hS3 hM3 c0 f0 n2
          have n2 := hM4.cell 2
          have n1 := hM4.cell 1
          generalize s.set j { s.get j with on := false } = s1 at *
          generalize (s.get j).acked = ak at *
          generalize s.high j = hi at *
          cases hi
          · go_upto_region 15 with (first
              | (refine ref_ld rfl _ rfl _ rfl hS4.X (ref_size _) ?_)
              | (go_at_call 26; ((with_reducible refine (hhi _).mono ?_); rintro e W5 ⟨rfl, hB5⟩; have hS5 := hS4.grow hB5; have hM5 := hM4.below hB5 hM4.lt; obtain ⟨d0, d1, d2, d3, d4⟩ := HPT.out _ hS5; obtain ⟨e0, e1, e2, e3, e4⟩ := hS5.partF j)))
            have hS6 := HP5.out _ hS5
            have hM6 := ((((hM5.far (p := ⟨w.heap.size, 1 + j * 5, none⟩) (by show w.heap.size + 1 ≠ w.heap.size; omega) (.bool false)).far (p := ⟨w.heap.size, 1 + j * 5 + 1, none⟩) (by show w.heap.size + 1 ≠ w.heap.size; omega) (.bool false)).far (p := ⟨w.heap.size, 1 + j * 5 + 2, none⟩) (by show w.heap.size + 1 ≠ w.heap.size; omega) (.bool false)).far (p := ⟨w.heap.size, 1 + j * 5 + 3, none⟩) (by show w.heap.size + 1 ≠ w.heap.size; omega) (.bool false)).far (p := ⟨w.heap.size, 1 + j * 5 + 4, none⟩) (by show w.heap.size + 1 ≠ w.heap.size; omega) (.int .i64 0)
            generalize ((((W5.setCell ⟨w.heap.size, 1 + j * 5, none⟩ (.bool false)).setCell ⟨w.heap.size, 1 + j * 5 + 1, none⟩ (.bool false)).setCell ⟨w.heap.size, 1 + j * 5 + 2, none⟩ (.bool false)).setCell ⟨w.heap.size, 1 + j * 5 + 3, none⟩ (.bool false)).setCell ⟨w.heap.size, 1 + j * 5 + 4, none⟩ (.int .i64 0) = W6 at *
            clear hS4 hM4 hS5 hM5 hB5 HPT HP5
            refine Till.begin_ (T := [8]) (S := fun W => Has W w.heap.size 32 (refC (s.set j ⟨false, false, false, false, 0⟩)) ∧ W.cell? ⟨w.heap.size + 1, 1, none⟩ = some (.int .i64 a)) (by kernel_rfl) (by exact ⟨hS6.X, hM6.cell 1⟩) (fun hHeld => ?_)
            refine Till.take (i := 0) (v := .agg (refC (s.set j ⟨false, false, false, false, 0⟩))) rfl (by kernel_rfl) (by kernel_rfl) (by kernel_rfl) (by kernel_rfl) (by rfl) (fun W hSw => by exact ref_take rfl rfl hSw.1 (ref_size _)) (by assumption) ?_
            (try simp only [Act.put, List.setIfInBounds_toArray, List.set_cons_zero, List.set_cons_succ])
            refine Till.take (i := 1) (v := ?v53) rfl (by kernel_rfl) (by kernel_rfl) (by kernel_rfl) (by kernel_rfl) (by rfl) ?hv53 (by assumption) ?rest53
            case hv53 => first | (intro w hSw; (try dsimp only at hSw); go_simp; done) | (intro w hSw; (try dsimp only at hSw); go_simp; with_reducible rfl)
            (try simp only [Act.put, List.setIfInBounds_toArray, List.set_cons_zero, List.set_cons_succ])
            refine Till.take (i := 2) (v := ?v54) rfl (by kernel_rfl) (by kernel_rfl) (by kernel_rfl) (by kernel_rfl) (by rfl) ?hv54 (by assumption) ?rest54
            case hv54 => first | (intro w hSw; (try dsimp only at hSw); go_simp; done) | (intro w hSw; (try dsimp only at hSw); go_simp; with_reducible rfl)
            (try simp only [Act.put, List.setIfInBounds_toArray, List.set_cons_zero, List.set_cons_succ])
            refine Till.take (i := 4) (v := ?v55) rfl (by kernel_rfl) (by kernel_rfl) (by kernel_rfl) (by kernel_rfl) (by rfl) ?hv55 (by assumption) ?rest55
            case hv55 => first | (intro w hSw; (try dsimp only at hSw); go_simp; done) | (intro w hSw; (try dsimp only at hSw); go_simp; with_reducible rfl)
            (try simp only [Act.put, List.setIfInBounds_toArray, List.set_cons_zero, List.set_cons_succ])
            have hS7 := hS6.grow (below_drewN (Below.refl _ W6) 1)
            have hM7 : Has W6.drew (w.heap.size + 1) 40 #[.int .i64 (j : Nat), .int .i64 a, .bool false] := hM6
            change Rs w w.heap.size (w.heap.size + 1 + 1) _ W6.drew at hS7
            clear hS6 hM6
            generalize W6.drew = W7 at *
            refine Till.call (i := 3) rfl (by kernel_rfl) (by rfl) ?_
            intro K hK
            go_simp
            go_at_call 25
            ((with_reducible refine (hne _).mono ?_); rintro e W8 ⟨rfl, rfl⟩)
            refine hK.out _ _ (by exact hHeld) (fun hHeld => ?_)
            clear hK K
            (try simp only [Act.put, List.setIfInBounds_toArray, List.set_cons_zero, List.set_cons_succ])
            refine Till.take (i := 5) (v := ?v56) rfl (by kernel_rfl) (by kernel_rfl) (by kernel_rfl) (by kernel_rfl) (by rfl) ?hv56 (by assumption) ?rest56
            case hv56 => first | (intro w hSw; (try dsimp only at hSw); go_simp; done) | (intro w hSw; (try dsimp only at hSw); go_simp; with_reducible rfl)
            (try simp only [Act.put, List.setIfInBounds_toArray, List.set_cons_zero, List.set_cons_succ])
            have hz8 : w.heap.size ≤ W8.heap.size := hS7.low.size
            have hy8 : w.heap.size + 1 + 1 < W8.heap.size := hS7.Y.lt
            have hK8 := fun W => kept_row W (w.heap.size + 1 + 1) (refC (s.set j ⟨false, false, false, false, 0⟩))
            clear hHeld
            refine Till.both (i := 6) (j := 7) rfl rfl (by kernel_rfl) (by rfl) (by rfl) ?_ ?_
            · intro K hK
              go_simp
              have hS8 := hS7.grow ((Below.refl _ W8).alloc (Nat.le_refl _) (.cells #[.int .i64 3, .int .i64 t, .int .i64 (j : Nat), .int .i64 0] 53))
              have hM8 := hM7.alloc (.cells #[.int .i64 3, .int .i64 t, .int .i64 (j : Nat), .int .i64 0] 53)
              have hV8 := ot_one W8 53 (3, t, (j : Int), 0)
              dsimp only at hV8
              refine hK.out _ _ (by exact ⟨hS8.X, hM8.cell 1⟩) (fun hHeld => ?_)
              clear hK K
              (try simp only [Act.put, List.setIfInBounds_toArray, List.set_cons_zero, List.set_cons_succ])
              clear hHeld hM7 hS7
              generalize W8.alloc (.cells #[.int .i64 3, .int .i64 t, .int .i64 (j : Nat), .int .i64 0] 53) = W9 at *
              generalize W8.heap.size = z8 at *
              refine Till.call (i := 7) rfl (by kernel_rfl) (by rfl) ?_
              intro K hK
              refine wp_store_row 32 _ _ rfl (w.heap.size + 1 + 1) (refC (s.set j ⟨false, false, false, false, 0⟩)) rfl rfl 32 _ hS8.Y (by rw [ref_size]; kernel_rfl) (by rw [ref_size]; rfl) (ref_one _) ?_
              have hK9 := hK8 W9
              refine hK.out _ _ (by exact ⟨hK9.has hS8.X (by simp <;> omega), (hK9.has hM8 (by simp <;> omega)).cell 1⟩) (fun hHeld => ?_)
              clear hK K
              (try simp only [Act.put, List.setIfInBounds_toArray, List.set_cons_zero, List.set_cons_succ])
              have hY9 := hS8.Y.row (refC (s.set j ⟨false, false, false, false, 0⟩))
              have hV9 := hV8.kept hK9 (fun _ x hx hk => by injection hx with hx; subst hx; simp at hk; omega)
              have hB9 := below_kept hS8.low hK9 hS8.low.size (fun x hx => by simp at hx; omega)
              clear hM8 hS8 hV8 hK9 hHeld hK8
              refine Till.put (i := 8) rfl (by kernel_rfl) (by rfl) (by rfl) ?_
              intro K hK
              go_simp
              refine hK.out _ _ ?_
              clear hK K
              (try simp only [Act.put, List.setIfInBounds_toArray, List.set_cons_zero, List.set_cons_succ])
              refine Till.done (by kernel_rfl) ?_ _
              go_wp2
              refine ref_ret rfl (w.heap.size + 1 + 1) rfl (.slice (some ⟨z8, 0, none⟩) 1 1) rfl _ hY9 (ref_size _) rfl ?_
              rw [HR.out]
              exact ⟨some ⟨z8, 0, none⟩, 1, rfl, Nat.le_refl _, by show 1 ≤ 9223372036854775807; omega, hV9, fun x hx => by injection hx with hx; subst hx; exact hz8, hB9⟩
            · intro K hK
              refine wp_store_row 32 _ _ rfl (w.heap.size + 1 + 1) (refC (s.set j ⟨false, false, false, false, 0⟩)) rfl rfl 32 _ hS7.Y (by rw [ref_size]; kernel_rfl) (by rw [ref_size]; rfl) (ref_one _) ?_
              have hK9 := hK8 W8
              have hX9 := hK9.has hS7.X (by simp <;> omega)
              have hM9 := hK9.has hM7 (by simp <;> omega)
              have hYb := hS7.Y.row (refC (s.set j ⟨false, false, false, false, 0⟩))
              have hBb := below_kept hS7.low hK9 hS7.low.size (fun x hx => by simp at hx; omega)
              have hzz := hK9.size
              refine hK.out _ _ (by exact ⟨hX9, hM9.cell 1⟩) (fun hHeld => ?_)
              clear hK K
              (try simp only [Act.put, List.setIfInBounds_toArray, List.set_cons_zero, List.set_cons_succ])
              clear hS7 hM7 hK9 hK8 hHeld
              generalize W8.setRow (w.heap.size + 1 + 1) (refC (s.set j ⟨false, false, false, false, 0⟩)) = Wb at *
              have hX8 := hX9.alloc (.cells #[.int .i64 3, .int .i64 t, .int .i64 (j : Nat), .int .i64 0] 53)
              have hM8 := hM9.alloc (.cells #[.int .i64 3, .int .i64 t, .int .i64 (j : Nat), .int .i64 0] 53)
              have hV9 := ot_one Wb 53 (3, t, (j : Int), 0)
              dsimp only at hV9
              have hY9 := hYb.alloc (.cells #[.int .i64 3, .int .i64 t, .int .i64 (j : Nat), .int .i64 0] 53)
              have hB9 := hBb.alloc hBb.size (.cells #[.int .i64 3, .int .i64 t, .int .i64 (j : Nat), .int .i64 0] 53)
              replace hz8 : w.heap.size ≤ Wb.heap.size := by omega
              refine Till.call (i := 6) rfl (by kernel_rfl) (by rfl) ?_
              intro K hK
              go_simp
              refine hK.out _ _ (by exact ⟨hX8, hM8.cell 1⟩) (fun hHeld => ?_)
              clear hK K
              (try simp only [Act.put, List.setIfInBounds_toArray, List.set_cons_zero, List.set_cons_succ])
              clear hX8 hM8 hX9 hM9 hYb hBb hzz hHeld
              generalize Wb.alloc (.cells #[.int .i64 3, .int .i64 t, .int .i64 (j : Nat), .int .i64 0] 53) = W9 at *
              generalize Wb.heap.size = z8 at *
              refine Till.put (i := 8) rfl (by kernel_rfl) (by rfl) (by rfl) ?_
              intro K hK
              go_simp
              refine hK.out _ _ ?_
              clear hK K
              (try simp only [Act.put, List.setIfInBounds_toArray, List.set_cons_zero, List.set_cons_succ])
              refine Till.done (by kernel_rfl) ?_ _
              go_wp2
              refine ref_ret rfl (w.heap.size + 1 + 1) rfl (.slice (some ⟨z8, 0, none⟩) 1 1) rfl _ hY9 (ref_size _) rfl ?_
              rw [HR.out]
              exact ⟨some ⟨z8, 0, none⟩, 1, rfl, Nat.le_refl _, by show 1 ≤ 9223372036854775807; omega, hV9, fun x hx => by injection hx with hx; subst hx; exact hz8, hB9⟩
          · have hak : ak = true := by
              cases ak
              · exact absurd rfl hla
              · rfl
            subst hak
            go_upto_region 15 with (first
              | (refine ref_ld rfl _ rfl _ rfl hS4.X (ref_size _) ?_)
              | (go_at_call 26; ((with_reducible refine (hhi _).mono ?_); rintro e W5 ⟨rfl, hB5⟩; have hS5 := hS4.grow hB5; have hM5 := hM4.below hB5 hM4.lt; have dk := HAC.out _ hS5; obtain ⟨d0, d1, -, d3, d4⟩ := HPT.out _ hS5; obtain ⟨e0, e1, e2, e3, e4⟩ := hS5.partF j)))
            have hS6 := HP5.out _ hS5
            have hM6 := ((((hM5.far (p := ⟨w.heap.size, 1 + j * 5, none⟩) (by show w.heap.size + 1 ≠ w.heap.size; omega) (.bool false)).far (p := ⟨w.heap.size, 1 + j * 5 + 1, none⟩) (by show w.heap.size + 1 ≠ w.heap.size; omega) (.bool false)).far (p := ⟨w.heap.size, 1 + j * 5 + 2, none⟩) (by show w.heap.size + 1 ≠ w.heap.size; omega) (.bool false)).far (p := ⟨w.heap.size, 1 + j * 5 + 3, none⟩) (by show w.heap.size + 1 ≠ w.heap.size; omega) (.bool false)).far (p := ⟨w.heap.size, 1 + j * 5 + 4, none⟩) (by show w.heap.size + 1 ≠ w.heap.size; omega) (.int .i64 0)
            generalize ((((W5.setCell ⟨w.heap.size, 1 + j * 5, none⟩ (.bool false)).setCell ⟨w.heap.size, 1 + j * 5 + 1, none⟩ (.bool false)).setCell ⟨w.heap.size, 1 + j * 5 + 2, none⟩ (.bool false)).setCell ⟨w.heap.size, 1 + j * 5 + 3, none⟩ (.bool false)).setCell ⟨w.heap.size, 1 + j * 5 + 4, none⟩ (.int .i64 0) = W6 at *
            clear hS4 hM4 hS5 hM5 hB5 HPT HP5
            refine Till.begin_ (T := [8]) (S := fun W => Has W w.heap.size 32 (refC (s.set j ⟨false, false, false, false, 0⟩)) ∧ W.cell? ⟨w.heap.size + 1, 1, none⟩ = some (.int .i64 a)) (by kernel_rfl) (by exact ⟨hS6.X, hM6.cell 1⟩) (fun hHeld => ?_)
            refine Till.take (i := 0) (v := .agg (refC (s.set j ⟨false, false, false, false, 0⟩))) rfl (by kernel_rfl) (by kernel_rfl) (by kernel_rfl) (by kernel_rfl) (by rfl) (fun W hSw => by exact ref_take rfl rfl hSw.1 (ref_size _)) (by assumption) ?_
            (try simp only [Act.put, List.setIfInBounds_toArray, List.set_cons_zero, List.set_cons_succ])
            refine Till.take (i := 1) (v := ?v57) rfl (by kernel_rfl) (by kernel_rfl) (by kernel_rfl) (by kernel_rfl) (by rfl) ?hv57 (by assumption) ?rest57
            case hv57 => first | (intro w hSw; (try dsimp only at hSw); go_simp; done) | (intro w hSw; (try dsimp only at hSw); go_simp; with_reducible rfl)
            (try simp only [Act.put, List.setIfInBounds_toArray, List.set_cons_zero, List.set_cons_succ])
            refine Till.take (i := 2) (v := ?v58) rfl (by kernel_rfl) (by kernel_rfl) (by kernel_rfl) (by kernel_rfl) (by rfl) ?hv58 (by assumption) ?rest58
            case hv58 => first | (intro w hSw; (try dsimp only at hSw); go_simp; done) | (intro w hSw; (try dsimp only at hSw); go_simp; with_reducible rfl)
            (try simp only [Act.put, List.setIfInBounds_toArray, List.set_cons_zero, List.set_cons_succ])
            refine Till.take (i := 4) (v := ?v59) rfl (by kernel_rfl) (by kernel_rfl) (by kernel_rfl) (by kernel_rfl) (by rfl) ?hv59 (by assumption) ?rest59
            case hv59 => first | (intro w hSw; (try dsimp only at hSw); go_simp; done) | (intro w hSw; (try dsimp only at hSw); go_simp; with_reducible rfl)
            (try simp only [Act.put, List.setIfInBounds_toArray, List.set_cons_zero, List.set_cons_succ])
            have hS7 := hS6.grow (below_drewN (Below.refl _ W6) 1)
            have hM7 : Has W6.drew (w.heap.size + 1) 40 #[.int .i64 (j : Nat), .int .i64 a, .bool false] := hM6
            change Rs w w.heap.size (w.heap.size + 1 + 1) _ W6.drew at hS7
            clear hS6 hM6
            generalize W6.drew = W7 at *
            refine Till.call (i := 3) rfl (by kernel_rfl) (by rfl) ?_
            intro K hK
            go_simp
            go_at_call 25
            ((with_reducible refine (hne _).mono ?_); rintro e W8 ⟨rfl, rfl⟩)
            refine hK.out _ _ (by exact hHeld) (fun hHeld => ?_)
            clear hK K
            (try simp only [Act.put, List.setIfInBounds_toArray, List.set_cons_zero, List.set_cons_succ])
            refine Till.take (i := 5) (v := ?v60) rfl (by kernel_rfl) (by kernel_rfl) (by kernel_rfl) (by kernel_rfl) (by rfl) ?hv60 (by assumption) ?rest60
            case hv60 => first | (intro w hSw; (try dsimp only at hSw); go_simp; done) | (intro w hSw; (try dsimp only at hSw); go_simp; with_reducible rfl)
            (try simp only [Act.put, List.setIfInBounds_toArray, List.set_cons_zero, List.set_cons_succ])
            have hz8 : w.heap.size ≤ W8.heap.size := hS7.low.size
            have hy8 : w.heap.size + 1 + 1 < W8.heap.size := hS7.Y.lt
            have hK8 := fun W => kept_row W (w.heap.size + 1 + 1) (refC (s.set j ⟨false, false, false, false, 0⟩))
            clear hHeld
            refine Till.both (i := 6) (j := 7) rfl rfl (by kernel_rfl) (by rfl) (by rfl) ?_ ?_
            · intro K hK
              go_simp
              have hS8 := hS7.grow ((Below.refl _ W8).alloc (Nat.le_refl _) (.cells #[.int .i64 3, .int .i64 t, .int .i64 (j : Nat), .int .i64 0] 53))
              have hM8 := hM7.alloc (.cells #[.int .i64 3, .int .i64 t, .int .i64 (j : Nat), .int .i64 0] 53)
              have hV8 := ot_one W8 53 (3, t, (j : Int), 0)
              dsimp only at hV8
              refine hK.out _ _ (by exact ⟨hS8.X, hM8.cell 1⟩) (fun hHeld => ?_)
              clear hK K
              (try simp only [Act.put, List.setIfInBounds_toArray, List.set_cons_zero, List.set_cons_succ])
              clear hHeld hM7 hS7
              generalize W8.alloc (.cells #[.int .i64 3, .int .i64 t, .int .i64 (j : Nat), .int .i64 0] 53) = W9 at *
              generalize W8.heap.size = z8 at *
              refine Till.call (i := 7) rfl (by kernel_rfl) (by rfl) ?_
              intro K hK
              refine wp_store_row 32 _ _ rfl (w.heap.size + 1 + 1) (refC (s.set j ⟨false, false, false, false, 0⟩)) rfl rfl 32 _ hS8.Y (by rw [ref_size]; kernel_rfl) (by rw [ref_size]; rfl) (ref_one _) ?_
              have hK9 := hK8 W9
              refine hK.out _ _ (by exact ⟨hK9.has hS8.X (by simp <;> omega), (hK9.has hM8 (by simp <;> omega)).cell 1⟩) (fun hHeld => ?_)
              clear hK K
              (try simp only [Act.put, List.setIfInBounds_toArray, List.set_cons_zero, List.set_cons_succ])
              have hY9 := hS8.Y.row (refC (s.set j ⟨false, false, false, false, 0⟩))
              have hV9 := hV8.kept hK9 (fun _ x hx hk => by injection hx with hx; subst hx; simp at hk; omega)
              have hB9 := below_kept hS8.low hK9 hS8.low.size (fun x hx => by simp at hx; omega)
              clear hM8 hS8 hV8 hK9 hHeld hK8
              refine Till.put (i := 8) rfl (by kernel_rfl) (by rfl) (by rfl) ?_
              intro K hK
              go_simp
              refine hK.out _ _ ?_
              clear hK K
              (try simp only [Act.put, List.setIfInBounds_toArray, List.set_cons_zero, List.set_cons_succ])
              refine Till.done (by kernel_rfl) ?_ _
              go_wp2
              refine ref_ret rfl (w.heap.size + 1 + 1) rfl (.slice (some ⟨z8, 0, none⟩) 1 1) rfl _ hY9 (ref_size _) rfl ?_
              rw [HR.out]
              exact ⟨some ⟨z8, 0, none⟩, 1, rfl, Nat.le_refl _, by show 1 ≤ 9223372036854775807; omega, hV9, fun x hx => by injection hx with hx; subst hx; exact hz8, hB9⟩
            · intro K hK
              refine wp_store_row 32 _ _ rfl (w.heap.size + 1 + 1) (refC (s.set j ⟨false, false, false, false, 0⟩)) rfl rfl 32 _ hS7.Y (by rw [ref_size]; kernel_rfl) (by rw [ref_size]; rfl) (ref_one _) ?_
              have hK9 := hK8 W8
              have hX9 := hK9.has hS7.X (by simp <;> omega)
              have hM9 := hK9.has hM7 (by simp <;> omega)
              have hYb := hS7.Y.row (refC (s.set j ⟨false, false, false, false, 0⟩))
              have hBb := below_kept hS7.low hK9 hS7.low.size (fun x hx => by simp at hx; omega)
              have hzz := hK9.size
              refine hK.out _ _ (by exact ⟨hX9, hM9.cell 1⟩) (fun hHeld => ?_)
              clear hK K
              (try simp only [Act.put, List.setIfInBounds_toArray, List.set_cons_zero, List.set_cons_succ])
              clear hS7 hM7 hK9 hK8 hHeld
              generalize W8.setRow (w.heap.size + 1 + 1) (refC (s.set j ⟨false, false, false, false, 0⟩)) = Wb at *
              have hX8 := hX9.alloc (.cells #[.int .i64 3, .int .i64 t, .int .i64 (j : Nat), .int .i64 0] 53)
              have hM8 := hM9.alloc (.cells #[.int .i64 3, .int .i64 t, .int .i64 (j : Nat), .int .i64 0] 53)
              have hV9 := ot_one Wb 53 (3, t, (j : Int), 0)
              dsimp only at hV9
              have hY9 := hYb.alloc (.cells #[.int .i64 3, .int .i64 t, .int .i64 (j : Nat), .int .i64 0] 53)
              have hB9 := hBb.alloc hBb.size (.cells #[.int .i64 3, .int .i64 t, .int .i64 (j : Nat), .int .i64 0] 53)
              replace hz8 : w.heap.size ≤ Wb.heap.size := by omega
              refine Till.call (i := 6) rfl (by kernel_rfl) (by rfl) ?_
              intro K hK
              go_simp
              refine hK.out _ _ (by exact ⟨hX8, hM8.cell 1⟩) (fun hHeld => ?_)
              clear hK K
              (try simp only [Act.put, List.setIfInBounds_toArray, List.set_cons_zero, List.set_cons_succ])
              clear hX8 hM8 hX9 hM9 hYb hBb hzz hHeld
              generalize Wb.alloc (.cells #[.int .i64 3, .int .i64 t, .int .i64 (j : Nat), .int .i64 0] 53) = W9 at *
              generalize Wb.heap.size = z8 at *
              refine Till.put (i := 8) rfl (by kernel_rfl) (by rfl) (by rfl) ?_
              intro K hK
              go_simp
              refine hK.out _ _ ?_
              clear hK K
              (try simp only [Act.put, List.setIfInBounds_toArray, List.set_cons_zero, List.set_cons_succ])
              refine Till.done (by kernel_rfl) ?_ _
              go_wp2
              refine ref_ret rfl (w.heap.size + 1 + 1) rfl (.slice (some ⟨z8, 0, none⟩) 1 1) rfl _ hY9 (ref_size _) rfl ?_
              rw [HR.out]
              exact ⟨some ⟨z8, 0, none⟩, 1, rfl, Nat.le_refl _, by show 1 ≤ 9223372036854775807; omega, hV9, fun x hx => by injection hx with hx; subst hx; exact hz8, hB9⟩
      · have hoff : (s.get j).on = false := by simpa using ho
        rw [hoff] at hp
        rw [if_pos rfl]
        generalize nearT a = t at *
        have hgt : ∀ W, Rs w w.heap.size (w.heap.size + 1 + 1) (s.set j { s.get j with on := true }) W → W.cell? ⟨w.heap.size, 1 + j * 5 + 1, none⟩ = some (.bool (s.get j).stands) := fun W hW => by
          have h9 := (rpart hW.X hj6).2.1
          rwa [get_set _ _ _ hj] at h9
        have HGT := Lib.hid hgt
        clear hgt
        by_cases hs1 : (s.get j).stands = true
        · have HR := Lib.hid (show beginT s j t = (s.set j { s.get j with on := true }, []) from by unfold beginT; rw [if_pos hs1])
          have HG2 := Lib.hid (fun W hW => (HGT.out W hW).trans (by rw [hs1]))
          clear hO ho hOs hQ hoff HGT
          go_enter Try.func11, Try.ntmps11
          go_upto_region 2 with (fail)
          clear hW2
          refine Reg.begin_ (S := fun W => W.cell? ⟨w.heap.size, 1 + j * 5, none⟩ = some (.bool false) ∧ W.cell? ⟨w.heap.size + 1, 2, none⟩ = some (.bool true)) (by kernel_rfl) (by exact ⟨hp W2 hS, hM.cell 2⟩) (fun hHeld => ?_)
          refine Reg.take (i := 0) (v := ?v61) rfl (by kernel_rfl) (by kernel_rfl) (by kernel_rfl) (by rfl) ?hv61 (by assumption) ?rest61
          case hv61 => first | (intro w hSw; (try dsimp only at hSw); go_simp; done) | (intro w hSw; (try dsimp only at hSw); go_simp; with_reducible rfl)
          (try simp only [Act.put, List.setIfInBounds_toArray, List.set_cons_zero, List.set_cons_succ])
          refine Reg.take (i := 1) (v := ?v62) rfl (by kernel_rfl) (by kernel_rfl) (by kernel_rfl) (by rfl) ?hv62 (by assumption) ?rest62
          case hv62 => first | (intro w hSw; (try dsimp only at hSw); go_simp; done) | (intro w hSw; (try dsimp only at hSw); go_simp; with_reducible rfl)
          (try simp only [Act.put, List.setIfInBounds_toArray, List.set_cons_zero, List.set_cons_succ])
          refine Reg.take (i := 2) (v := ?v63) rfl (by kernel_rfl) (by kernel_rfl) (by kernel_rfl) (by rfl) ?hv63 (by assumption) ?rest63
          case hv63 => first | (intro w hSw; (try dsimp only at hSw); go_simp; done) | (intro w hSw; (try dsimp only at hSw); go_simp; with_reducible rfl)
          (try simp only [Act.put, List.setIfInBounds_toArray, List.set_cons_zero, List.set_cons_succ])
          refine Reg.take (i := 3) (v := ?v64) rfl (by kernel_rfl) (by kernel_rfl) (by kernel_rfl) (by rfl) ?hv64 (by assumption) ?rest64
          case hv64 => first | (intro w hSw; (try dsimp only at hSw); go_simp; done) | (intro w hSw; (try dsimp only at hSw); go_simp; with_reducible rfl)
          (try simp only [Act.put, List.setIfInBounds_toArray, List.set_cons_zero, List.set_cons_succ])
          refine Reg.take (i := 4) (v := ?v65) rfl (by kernel_rfl) (by kernel_rfl) (by kernel_rfl) (by rfl) ?hv65 (by assumption) ?rest65
          case hv65 => first | (intro w hSw; (try dsimp only at hSw); go_simp; done) | (intro w hSw; (try dsimp only at hSw); go_simp; with_reducible rfl)
          (try simp only [Act.put, List.setIfInBounds_toArray, List.set_cons_zero, List.set_cons_succ])
          refine Reg.take (i := 5) (v := ?v66) rfl (by kernel_rfl) (by kernel_rfl) (by kernel_rfl) (by rfl) ?hv66 (by assumption) ?rest66
          case hv66 => first | (intro w hSw; (try dsimp only at hSw); go_simp; done) | (intro w hSw; (try dsimp only at hSw); go_simp; with_reducible rfl)
          (try simp only [Act.put, List.setIfInBounds_toArray, List.set_cons_zero, List.set_cons_succ])
          refine Reg.take (i := 6) (v := ?v67) rfl (by kernel_rfl) (by kernel_rfl) (by kernel_rfl) (by rfl) ?hv67 (by assumption) ?rest67
          case hv67 => first | (intro w hSw; (try dsimp only at hSw); go_simp; done) | (intro w hSw; (try dsimp only at hSw); go_simp; with_reducible rfl)
          (try simp only [Act.put, List.setIfInBounds_toArray, List.set_cons_zero, List.set_cons_succ])
          refine Reg.take (i := 7) (v := ?v68) rfl (by kernel_rfl) (by kernel_rfl) (by kernel_rfl) (by rfl) ?hv68 (by assumption) ?rest68
          case hv68 => first | (intro w hSw; (try dsimp only at hSw); go_simp; done) | (intro w hSw; (try dsimp only at hSw); go_simp; with_reducible rfl)
          (try simp only [Act.put, List.setIfInBounds_toArray, List.set_cons_zero, List.set_cons_succ])
          refine Reg.take (i := 8) (v := ?v69) rfl (by kernel_rfl) (by kernel_rfl) (by kernel_rfl) (by rfl) ?hv69 (by assumption) ?rest69
          case hv69 => first | (intro w hSw; (try dsimp only at hSw); go_simp; done) | (intro w hSw; (try dsimp only at hSw); go_simp; with_reducible rfl)
          (try simp only [Act.put, List.setIfInBounds_toArray, List.set_cons_zero, List.set_cons_succ])
          refine Reg.take (i := 9) (v := ?v70) rfl (by kernel_rfl) (by kernel_rfl) (by kernel_rfl) (by rfl) ?hv70 (by assumption) ?rest70
          case hv70 => first | (intro w hSw; (try dsimp only at hSw); go_simp; done) | (intro w hSw; (try dsimp only at hSw); go_simp; with_reducible rfl)
          (try simp only [Act.put, List.setIfInBounds_toArray, List.set_cons_zero, List.set_cons_succ])
          refine Reg.take (i := 10) (v := ?v71) rfl (by kernel_rfl) (by kernel_rfl) (by kernel_rfl) (by rfl) ?hv71 (by assumption) ?rest71
          case hv71 => first | (intro w hSw; (try dsimp only at hSw); go_simp; done) | (intro w hSw; (try dsimp only at hSw); go_simp; with_reducible rfl)
          (try simp only [Act.put, List.setIfInBounds_toArray, List.set_cons_zero, List.set_cons_succ])
          refine Reg.take (i := 11) (v := ?v72) rfl (by kernel_rfl) (by kernel_rfl) (by kernel_rfl) (by rfl) ?hv72 (by assumption) ?rest72
          case hv72 => first | (intro w hSw; (try dsimp only at hSw); go_simp; done) | (intro w hSw; (try dsimp only at hSw); go_simp; with_reducible rfl)
          (try simp only [Act.put, List.setIfInBounds_toArray, List.set_cons_zero, List.set_cons_succ])
          refine Reg.take (i := 12) (v := ?v73) rfl (by kernel_rfl) (by kernel_rfl) (by kernel_rfl) (by rfl) ?hv73 (by assumption) ?rest73
          case hv73 => first | (intro w hSw; (try dsimp only at hSw); go_simp; done) | (intro w hSw; (try dsimp only at hSw); go_simp; with_reducible rfl)
          (try simp only [Act.put, List.setIfInBounds_toArray, List.set_cons_zero, List.set_cons_succ])
          refine Reg.take (i := 13) (v := ?v74) rfl (by kernel_rfl) (by kernel_rfl) (by kernel_rfl) (by rfl) ?hv74 (by assumption) ?rest74
          case hv74 => first | (intro w hSw; (try dsimp only at hSw); go_simp; done) | (intro w hSw; (try dsimp only at hSw); go_simp; with_reducible rfl)
          (try simp only [Act.put, List.setIfInBounds_toArray, List.set_cons_zero, List.set_cons_succ])
          refine Reg.take (i := 14) (v := ?v75) rfl (by kernel_rfl) (by kernel_rfl) (by kernel_rfl) (by rfl) ?hv75 (by assumption) ?rest75
          case hv75 => first | (intro w hSw; (try dsimp only at hSw); go_simp; done) | (intro w hSw; (try dsimp only at hSw); go_simp; with_reducible rfl)
          (try simp only [Act.put, List.setIfInBounds_toArray, List.set_cons_zero, List.set_cons_succ])
          refine Reg.take (i := 15) (v := ?v76) rfl (by kernel_rfl) (by kernel_rfl) (by kernel_rfl) (by rfl) ?hv76 (by assumption) ?rest76
          case hv76 => first | (intro w hSw; (try dsimp only at hSw); go_simp; done) | (intro w hSw; (try dsimp only at hSw); go_simp; with_reducible rfl)
          (try simp only [Act.put, List.setIfInBounds_toArray, List.set_cons_zero, List.set_cons_succ])
          refine Reg.done (by kernel_rfl) ?_ _
          clear hHeld m0
          have hS3 := hS.grow (below_drewN (Below.refl _ W2) 1)
          have hM3 : Has W2.drew (w.heap.size + 1) 40 #[.int .i64 (j : Nat), .int .i64 a, .bool true] := hM
          change Rs w w.heap.size (w.heap.size + 1 + 1) s W2.drew at hS3
          clear hS hM
          generalize W2.drew = W3 at *
          have c0 := (rpart hS3.X hj6).1
          have f0 := hS3.X.frozen (1 + j * 5)
          have n2 := hM3.cell 2
          have hS4 := hS3.put1 j 0 true { s.get j with on := true } hj (by omega) rfl
          have hM4 := hM3.far (p := ⟨w.heap.size, 1 + j * 5 + 0, none⟩) (by show w.heap.size + 1 ≠ w.heap.size; omega) (.bool true)
          go_upto_region 5 with (fail)
          simp only [Nat.add_zero] at hS4 hM4
          generalize W3.setCell ⟨w.heap.size, 1 + j * 5, none⟩ (.bool true) = W4 at *
          clear hS3 hM3 c0 f0 n2
          have n2 := hM4.cell 2
          have n1 := hM4.cell 1
          clear hs1
          generalize s.set j { s.get j with on := true } = s1 at *
          have d1 : W4.cell? ⟨w.heap.size, 1 + j * 5 + 1, none⟩ = some (.bool true) := HG2.out _ hS4
          go_wp2_with (first
            | (refine ref_ld rfl _ rfl _ rfl hS4.X (ref_size _) ?_)
            | (refine ref_st rfl _ _ rfl _ _ rfl rfl hS4.Y (ref_size _) rfl (ref_one _) ?_))
          have hK9 := fun xs => kept_row W4 (w.heap.size + 1 + 1) xs
          refine ref_ret rfl (w.heap.size + 1 + 1) rfl (.slice none 0 0) rfl _ (hS4.Y.row _) (ref_size _) rfl ?_
          rw [HR.out]
          exact ⟨none, 0, rfl, Nat.le_refl _, by show 0 ≤ 9223372036854775807; omega, Row.Vals.none_ _, fun x hx => (by cases hx), below_kept hS4.low (hK9 _) hS4.low.size (fun x hx => by simp at hx; omega)⟩
        · rw [Bool.not_eq_true] at hs1
          have HG2 := Lib.hid (fun W hW => (HGT.out W hW).trans (by rw [hs1]))
          have hp5 := fun W (hW : Rs w w.heap.size (w.heap.size + 1 + 1) (s.set j { s.get j with on := true }) W) => hW.put5 j ⟨true, true, false, false, t⟩ hj
          rw [set_set] at hp5
          dsimp only at hp5
          have HP5 := Lib.hid hp5
          have HPT := Lib.hid (fun W (hW : Rs w w.heap.size (w.heap.size + 1 + 1) (s.set j { s.get j with on := true }) W) => rpart hW.X hj6)
          have HBG := Lib.hid (show beginT s j t = (if grave j then { s.set j ⟨true, true, false, false, t⟩ with till := 0 } else s.set j ⟨true, true, false, false, t⟩, [(2, t, (j : Int), 0)]) from by unfold beginT; rw [hs1, if_neg (by decide)])
          clear hO ho hOs hQ hoff HGT hp5
          by_cases h2 : j = 2
          · have b2 : ((j : Int) == 2) = true := by simp; omega
            have HR := Lib.hid (show beginT s j t = ({ s.set j ⟨true, true, false, false, t⟩ with till := 0 }, [(2, t, (j : Int), 0)]) from by rw [HBG.out, if_pos (by rw [h2]; rfl)])
            clear h2 HBG
            go_enter Try.func11, Try.ntmps11
            go_upto_region 2 with (fail)
            clear hW2
            refine Reg.begin_ (S := fun W => W.cell? ⟨w.heap.size, 1 + j * 5, none⟩ = some (.bool false) ∧ W.cell? ⟨w.heap.size + 1, 2, none⟩ = some (.bool true)) (by kernel_rfl) (by exact ⟨hp W2 hS, hM.cell 2⟩) (fun hHeld => ?_)
            refine Reg.take (i := 0) (v := ?v77) rfl (by kernel_rfl) (by kernel_rfl) (by kernel_rfl) (by rfl) ?hv77 (by assumption) ?rest77
            case hv77 => first | (intro w hSw; (try dsimp only at hSw); go_simp; done) | (intro w hSw; (try dsimp only at hSw); go_simp; with_reducible rfl)
            (try simp only [Act.put, List.setIfInBounds_toArray, List.set_cons_zero, List.set_cons_succ])
            refine Reg.take (i := 1) (v := ?v78) rfl (by kernel_rfl) (by kernel_rfl) (by kernel_rfl) (by rfl) ?hv78 (by assumption) ?rest78
            case hv78 => first | (intro w hSw; (try dsimp only at hSw); go_simp; done) | (intro w hSw; (try dsimp only at hSw); go_simp; with_reducible rfl)
            (try simp only [Act.put, List.setIfInBounds_toArray, List.set_cons_zero, List.set_cons_succ])
            refine Reg.take (i := 2) (v := ?v79) rfl (by kernel_rfl) (by kernel_rfl) (by kernel_rfl) (by rfl) ?hv79 (by assumption) ?rest79
            case hv79 => first | (intro w hSw; (try dsimp only at hSw); go_simp; done) | (intro w hSw; (try dsimp only at hSw); go_simp; with_reducible rfl)
            (try simp only [Act.put, List.setIfInBounds_toArray, List.set_cons_zero, List.set_cons_succ])
            refine Reg.take (i := 3) (v := ?v80) rfl (by kernel_rfl) (by kernel_rfl) (by kernel_rfl) (by rfl) ?hv80 (by assumption) ?rest80
            case hv80 => first | (intro w hSw; (try dsimp only at hSw); go_simp; done) | (intro w hSw; (try dsimp only at hSw); go_simp; with_reducible rfl)
            (try simp only [Act.put, List.setIfInBounds_toArray, List.set_cons_zero, List.set_cons_succ])
            refine Reg.take (i := 4) (v := ?v81) rfl (by kernel_rfl) (by kernel_rfl) (by kernel_rfl) (by rfl) ?hv81 (by assumption) ?rest81
            case hv81 => first | (intro w hSw; (try dsimp only at hSw); go_simp; done) | (intro w hSw; (try dsimp only at hSw); go_simp; with_reducible rfl)
            (try simp only [Act.put, List.setIfInBounds_toArray, List.set_cons_zero, List.set_cons_succ])
            refine Reg.take (i := 5) (v := ?v82) rfl (by kernel_rfl) (by kernel_rfl) (by kernel_rfl) (by rfl) ?hv82 (by assumption) ?rest82
            case hv82 => first | (intro w hSw; (try dsimp only at hSw); go_simp; done) | (intro w hSw; (try dsimp only at hSw); go_simp; with_reducible rfl)
            (try simp only [Act.put, List.setIfInBounds_toArray, List.set_cons_zero, List.set_cons_succ])
            refine Reg.take (i := 6) (v := ?v83) rfl (by kernel_rfl) (by kernel_rfl) (by kernel_rfl) (by rfl) ?hv83 (by assumption) ?rest83
            case hv83 => first | (intro w hSw; (try dsimp only at hSw); go_simp; done) | (intro w hSw; (try dsimp only at hSw); go_simp; with_reducible rfl)
            (try simp only [Act.put, List.setIfInBounds_toArray, List.set_cons_zero, List.set_cons_succ])
            refine Reg.take (i := 7) (v := ?v84) rfl (by kernel_rfl) (by kernel_rfl) (by kernel_rfl) (by rfl) ?hv84 (by assumption) ?rest84
            case hv84 => first | (intro w hSw; (try dsimp only at hSw); go_simp; done) | (intro w hSw; (try dsimp only at hSw); go_simp; with_reducible rfl)
            (try simp only [Act.put, List.setIfInBounds_toArray, List.set_cons_zero, List.set_cons_succ])
            refine Reg.take (i := 8) (v := ?v85) rfl (by kernel_rfl) (by kernel_rfl) (by kernel_rfl) (by rfl) ?hv85 (by assumption) ?rest85
            case hv85 => first | (intro w hSw; (try dsimp only at hSw); go_simp; done) | (intro w hSw; (try dsimp only at hSw); go_simp; with_reducible rfl)
            (try simp only [Act.put, List.setIfInBounds_toArray, List.set_cons_zero, List.set_cons_succ])
            refine Reg.take (i := 9) (v := ?v86) rfl (by kernel_rfl) (by kernel_rfl) (by kernel_rfl) (by rfl) ?hv86 (by assumption) ?rest86
            case hv86 => first | (intro w hSw; (try dsimp only at hSw); go_simp; done) | (intro w hSw; (try dsimp only at hSw); go_simp; with_reducible rfl)
            (try simp only [Act.put, List.setIfInBounds_toArray, List.set_cons_zero, List.set_cons_succ])
            refine Reg.take (i := 10) (v := ?v87) rfl (by kernel_rfl) (by kernel_rfl) (by kernel_rfl) (by rfl) ?hv87 (by assumption) ?rest87
            case hv87 => first | (intro w hSw; (try dsimp only at hSw); go_simp; done) | (intro w hSw; (try dsimp only at hSw); go_simp; with_reducible rfl)
            (try simp only [Act.put, List.setIfInBounds_toArray, List.set_cons_zero, List.set_cons_succ])
            refine Reg.take (i := 11) (v := ?v88) rfl (by kernel_rfl) (by kernel_rfl) (by kernel_rfl) (by rfl) ?hv88 (by assumption) ?rest88
            case hv88 => first | (intro w hSw; (try dsimp only at hSw); go_simp; done) | (intro w hSw; (try dsimp only at hSw); go_simp; with_reducible rfl)
            (try simp only [Act.put, List.setIfInBounds_toArray, List.set_cons_zero, List.set_cons_succ])
            refine Reg.take (i := 12) (v := ?v89) rfl (by kernel_rfl) (by kernel_rfl) (by kernel_rfl) (by rfl) ?hv89 (by assumption) ?rest89
            case hv89 => first | (intro w hSw; (try dsimp only at hSw); go_simp; done) | (intro w hSw; (try dsimp only at hSw); go_simp; with_reducible rfl)
            (try simp only [Act.put, List.setIfInBounds_toArray, List.set_cons_zero, List.set_cons_succ])
            refine Reg.take (i := 13) (v := ?v90) rfl (by kernel_rfl) (by kernel_rfl) (by kernel_rfl) (by rfl) ?hv90 (by assumption) ?rest90
            case hv90 => first | (intro w hSw; (try dsimp only at hSw); go_simp; done) | (intro w hSw; (try dsimp only at hSw); go_simp; with_reducible rfl)
            (try simp only [Act.put, List.setIfInBounds_toArray, List.set_cons_zero, List.set_cons_succ])
            refine Reg.take (i := 14) (v := ?v91) rfl (by kernel_rfl) (by kernel_rfl) (by kernel_rfl) (by rfl) ?hv91 (by assumption) ?rest91
            case hv91 => first | (intro w hSw; (try dsimp only at hSw); go_simp; done) | (intro w hSw; (try dsimp only at hSw); go_simp; with_reducible rfl)
            (try simp only [Act.put, List.setIfInBounds_toArray, List.set_cons_zero, List.set_cons_succ])
            refine Reg.take (i := 15) (v := ?v92) rfl (by kernel_rfl) (by kernel_rfl) (by kernel_rfl) (by rfl) ?hv92 (by assumption) ?rest92
            case hv92 => first | (intro w hSw; (try dsimp only at hSw); go_simp; done) | (intro w hSw; (try dsimp only at hSw); go_simp; with_reducible rfl)
            (try simp only [Act.put, List.setIfInBounds_toArray, List.set_cons_zero, List.set_cons_succ])
            refine Reg.done (by kernel_rfl) ?_ _
            clear hHeld m0
            have hS3 := hS.grow (below_drewN (Below.refl _ W2) 1)
            have hM3 : Has W2.drew (w.heap.size + 1) 40 #[.int .i64 (j : Nat), .int .i64 a, .bool true] := hM
            change Rs w w.heap.size (w.heap.size + 1 + 1) s W2.drew at hS3
            clear hS hM
            generalize W2.drew = W3 at *
            have c0 := (rpart hS3.X hj6).1
            have f0 := hS3.X.frozen (1 + j * 5)
            have n2 := hM3.cell 2
            have hS4 := hS3.put1 j 0 true { s.get j with on := true } hj (by omega) rfl
            have hM4 := hM3.far (p := ⟨w.heap.size, 1 + j * 5 + 0, none⟩) (by show w.heap.size + 1 ≠ w.heap.size; omega) (.bool true)
            go_upto_region 5 with (fail)
            simp only [Nat.add_zero] at hS4 hM4
            generalize W3.setCell ⟨w.heap.size, 1 + j * 5, none⟩ (.bool true) = W4 at *
            clear hS3 hM3 c0 f0 n2
            have n2 := hM4.cell 2
            have n1 := hM4.cell 1
            clear hs1
            have d1 : W4.cell? ⟨w.heap.size, 1 + j * 5 + 1, none⟩ = some (.bool false) := HG2.out _ hS4
            obtain ⟨d0, -, d2, d3, d4⟩ := HPT.out _ hS4
            obtain ⟨e0, e1, e2, e3, e4⟩ := hS4.partF j
            go_upto_region 9 with (go_at_call 25; ((with_reducible refine (hne _).mono ?_); rintro e W5 ⟨rfl, rfl⟩))
            have hS6 := HP5.out _ hS4
            have hM6 := ((((hM4.far (p := ⟨w.heap.size, 1 + j * 5, none⟩) (by show w.heap.size + 1 ≠ w.heap.size; omega) (.bool true)).far (p := ⟨w.heap.size, 1 + j * 5 + 1, none⟩) (by show w.heap.size + 1 ≠ w.heap.size; omega) (.bool true)).far (p := ⟨w.heap.size, 1 + j * 5 + 2, none⟩) (by show w.heap.size + 1 ≠ w.heap.size; omega) (.bool false)).far (p := ⟨w.heap.size, 1 + j * 5 + 3, none⟩) (by show w.heap.size + 1 ≠ w.heap.size; omega) (.bool false)).far (p := ⟨w.heap.size, 1 + j * 5 + 4, none⟩) (by show w.heap.size + 1 ≠ w.heap.size; omega) (.int .i64 t)
            generalize ((((W5.setCell ⟨w.heap.size, 1 + j * 5, none⟩ (.bool true)).setCell ⟨w.heap.size, 1 + j * 5 + 1, none⟩ (.bool true)).setCell ⟨w.heap.size, 1 + j * 5 + 2, none⟩ (.bool false)).setCell ⟨w.heap.size, 1 + j * 5 + 3, none⟩ (.bool false)).setCell ⟨w.heap.size, 1 + j * 5 + 4, none⟩ (.int .i64 t) = W6 at *
            clear hS4 hM4 HPT HP5 HG2 d0 d1 d2 d3 d4 e0 e1 e2 e3 e4 n1 n2
            obtain ⟨-, r1, -, r3, -⟩ := hS6.rest
            have hS7 := hS6.putTill 0
            have hM7 := hM6.far (p := ⟨w.heap.size, 31, none⟩) (by show w.heap.size + 1 ≠ w.heap.size; omega) (.int .i64 0)
            go_upto_region 11 with (fail)
            generalize W6.setCell ⟨w.heap.size, 31, none⟩ (.int .i64 0) = W7 at *
            generalize ({ s.set j ⟨true, true, false, false, t⟩ with till := 0 } : St) = s6 at *
            clear hS6 hM6 r1 r3
            have hS6 := hS7
            have hM6 := hM7
            clear hS7 hM7
            generalize W7 = W6 at *
            refine Till.begin_ (T := [8]) (S := fun W => Has W w.heap.size 32 (refC s6) ∧ W.cell? ⟨w.heap.size + 1, 1, none⟩ = some (.int .i64 a)) (by kernel_rfl) (by exact ⟨hS6.X, hM6.cell 1⟩) (fun hHeld => ?_)
            refine Till.take (i := 0) (v := .agg (refC s6)) rfl (by kernel_rfl) (by kernel_rfl) (by kernel_rfl) (by kernel_rfl) (by rfl) (fun W hSw => by exact ref_take rfl rfl hSw.1 (ref_size _)) (by assumption) ?_
            (try simp only [Act.put, List.setIfInBounds_toArray, List.set_cons_zero, List.set_cons_succ])
            refine Till.take (i := 1) (v := ?v93) rfl (by kernel_rfl) (by kernel_rfl) (by kernel_rfl) (by kernel_rfl) (by rfl) ?hv93 (by assumption) ?rest93
            case hv93 => first | (intro w hSw; (try dsimp only at hSw); go_simp; done) | (intro w hSw; (try dsimp only at hSw); go_simp; with_reducible rfl)
            (try simp only [Act.put, List.setIfInBounds_toArray, List.set_cons_zero, List.set_cons_succ])
            refine Till.take (i := 2) (v := ?v94) rfl (by kernel_rfl) (by kernel_rfl) (by kernel_rfl) (by kernel_rfl) (by rfl) ?hv94 (by assumption) ?rest94
            case hv94 => first | (intro w hSw; (try dsimp only at hSw); go_simp; done) | (intro w hSw; (try dsimp only at hSw); go_simp; with_reducible rfl)
            (try simp only [Act.put, List.setIfInBounds_toArray, List.set_cons_zero, List.set_cons_succ])
            refine Till.take (i := 4) (v := ?v95) rfl (by kernel_rfl) (by kernel_rfl) (by kernel_rfl) (by kernel_rfl) (by rfl) ?hv95 (by assumption) ?rest95
            case hv95 => first | (intro w hSw; (try dsimp only at hSw); go_simp; done) | (intro w hSw; (try dsimp only at hSw); go_simp; with_reducible rfl)
            (try simp only [Act.put, List.setIfInBounds_toArray, List.set_cons_zero, List.set_cons_succ])
            have hS7 := hS6.grow (below_drewN (Below.refl _ W6) 1)
            have hM7 : Has W6.drew (w.heap.size + 1) 40 #[.int .i64 (j : Nat), .int .i64 a, .bool true] := hM6
            change Rs w w.heap.size (w.heap.size + 1 + 1) _ W6.drew at hS7
            clear hS6 hM6
            generalize W6.drew = W7 at *
            refine Till.call (i := 3) rfl (by kernel_rfl) (by rfl) ?_
            intro K hK
            go_simp
            go_at_call 25
            ((with_reducible refine (hne _).mono ?_); rintro e W8 ⟨rfl, rfl⟩)
            refine hK.out _ _ (by exact hHeld) (fun hHeld => ?_)
            clear hK K
            (try simp only [Act.put, List.setIfInBounds_toArray, List.set_cons_zero, List.set_cons_succ])
            refine Till.take (i := 5) (v := ?v96) rfl (by kernel_rfl) (by kernel_rfl) (by kernel_rfl) (by kernel_rfl) (by rfl) ?hv96 (by assumption) ?rest96
            case hv96 => first | (intro w hSw; (try dsimp only at hSw); go_simp; done) | (intro w hSw; (try dsimp only at hSw); go_simp; with_reducible rfl)
            (try simp only [Act.put, List.setIfInBounds_toArray, List.set_cons_zero, List.set_cons_succ])
            have hz8 : w.heap.size ≤ W8.heap.size := hS7.low.size
            have hy8 : w.heap.size + 1 + 1 < W8.heap.size := hS7.Y.lt
            have hK8 := fun W => kept_row W (w.heap.size + 1 + 1) (refC s6)
            clear hHeld
            refine Till.both (i := 6) (j := 7) rfl rfl (by kernel_rfl) (by rfl) (by rfl) ?_ ?_
            · intro K hK
              go_simp
              have hS8 := hS7.grow ((Below.refl _ W8).alloc (Nat.le_refl _) (.cells #[.int .i64 2, .int .i64 t, .int .i64 (j : Nat), .int .i64 0] 53))
              have hM8 := hM7.alloc (.cells #[.int .i64 2, .int .i64 t, .int .i64 (j : Nat), .int .i64 0] 53)
              have hV8 := ot_one W8 53 (2, t, (j : Int), 0)
              dsimp only at hV8
              refine hK.out _ _ (by exact ⟨hS8.X, hM8.cell 1⟩) (fun hHeld => ?_)
              clear hK K
              (try simp only [Act.put, List.setIfInBounds_toArray, List.set_cons_zero, List.set_cons_succ])
              clear hHeld hM7 hS7
              generalize W8.alloc (.cells #[.int .i64 2, .int .i64 t, .int .i64 (j : Nat), .int .i64 0] 53) = W9 at *
              generalize W8.heap.size = z8 at *
              refine Till.call (i := 7) rfl (by kernel_rfl) (by rfl) ?_
              intro K hK
              refine wp_store_row 32 _ _ rfl (w.heap.size + 1 + 1) (refC s6) rfl rfl 32 _ hS8.Y (by rw [ref_size]; kernel_rfl) (by rw [ref_size]; rfl) (ref_one _) ?_
              have hK9 := hK8 W9
              refine hK.out _ _ (by exact ⟨hK9.has hS8.X (by simp <;> omega), (hK9.has hM8 (by simp <;> omega)).cell 1⟩) (fun hHeld => ?_)
              clear hK K
              (try simp only [Act.put, List.setIfInBounds_toArray, List.set_cons_zero, List.set_cons_succ])
              have hY9 := hS8.Y.row (refC s6)
              have hV9 := hV8.kept hK9 (fun _ x hx hk => by injection hx with hx; subst hx; simp at hk; omega)
              have hB9 := below_kept hS8.low hK9 hS8.low.size (fun x hx => by simp at hx; omega)
              clear hM8 hS8 hV8 hK9 hHeld hK8
              refine Till.put (i := 8) rfl (by kernel_rfl) (by rfl) (by rfl) ?_
              intro K hK
              go_simp
              refine hK.out _ _ ?_
              clear hK K
              (try simp only [Act.put, List.setIfInBounds_toArray, List.set_cons_zero, List.set_cons_succ])
              refine Till.done (by kernel_rfl) ?_ _
              go_wp2
              refine ref_ret rfl (w.heap.size + 1 + 1) rfl (.slice (some ⟨z8, 0, none⟩) 1 1) rfl _ hY9 (ref_size _) rfl ?_
              rw [HR.out]
              exact ⟨some ⟨z8, 0, none⟩, 1, rfl, Nat.le_refl _, by show 1 ≤ 9223372036854775807; omega, hV9, fun x hx => by injection hx with hx; subst hx; exact hz8, hB9⟩
            · intro K hK
              refine wp_store_row 32 _ _ rfl (w.heap.size + 1 + 1) (refC s6) rfl rfl 32 _ hS7.Y (by rw [ref_size]; kernel_rfl) (by rw [ref_size]; rfl) (ref_one _) ?_
              have hK9 := hK8 W8
              have hX9 := hK9.has hS7.X (by simp <;> omega)
              have hM9 := hK9.has hM7 (by simp <;> omega)
              have hYb := hS7.Y.row (refC s6)
              have hBb := below_kept hS7.low hK9 hS7.low.size (fun x hx => by simp at hx; omega)
              have hzz := hK9.size
              refine hK.out _ _ (by exact ⟨hX9, hM9.cell 1⟩) (fun hHeld => ?_)
              clear hK K
              (try simp only [Act.put, List.setIfInBounds_toArray, List.set_cons_zero, List.set_cons_succ])
              clear hS7 hM7 hK9 hK8 hHeld
              generalize W8.setRow (w.heap.size + 1 + 1) (refC s6) = Wb at *
              have hX8 := hX9.alloc (.cells #[.int .i64 2, .int .i64 t, .int .i64 (j : Nat), .int .i64 0] 53)
              have hM8 := hM9.alloc (.cells #[.int .i64 2, .int .i64 t, .int .i64 (j : Nat), .int .i64 0] 53)
              have hV9 := ot_one Wb 53 (2, t, (j : Int), 0)
              dsimp only at hV9
              have hY9 := hYb.alloc (.cells #[.int .i64 2, .int .i64 t, .int .i64 (j : Nat), .int .i64 0] 53)
              have hB9 := hBb.alloc hBb.size (.cells #[.int .i64 2, .int .i64 t, .int .i64 (j : Nat), .int .i64 0] 53)
              replace hz8 : w.heap.size ≤ Wb.heap.size := by omega
              refine Till.call (i := 6) rfl (by kernel_rfl) (by rfl) ?_
              intro K hK
              go_simp
              refine hK.out _ _ (by exact ⟨hX8, hM8.cell 1⟩) (fun hHeld => ?_)
              clear hK K
              (try simp only [Act.put, List.setIfInBounds_toArray, List.set_cons_zero, List.set_cons_succ])
              clear hX8 hM8 hX9 hM9 hYb hBb hzz hHeld
              generalize Wb.alloc (.cells #[.int .i64 2, .int .i64 t, .int .i64 (j : Nat), .int .i64 0] 53) = W9 at *
              generalize Wb.heap.size = z8 at *
              refine Till.put (i := 8) rfl (by kernel_rfl) (by rfl) (by rfl) ?_
              intro K hK
              go_simp
              refine hK.out _ _ ?_
              clear hK K
              (try simp only [Act.put, List.setIfInBounds_toArray, List.set_cons_zero, List.set_cons_succ])
              refine Till.done (by kernel_rfl) ?_ _
              go_wp2
              refine ref_ret rfl (w.heap.size + 1 + 1) rfl (.slice (some ⟨z8, 0, none⟩) 1 1) rfl _ hY9 (ref_size _) rfl ?_
              rw [HR.out]
              exact ⟨some ⟨z8, 0, none⟩, 1, rfl, Nat.le_refl _, by show 1 ≤ 9223372036854775807; omega, hV9, fun x hx => by injection hx with hx; subst hx; exact hz8, hB9⟩
          · by_cases h3 : j = 3
            · have b2 : ((j : Int) == 2) = false := by simp; omega
              have b3 : ((j : Int) == 3) = true := by simp; omega
              have HR := Lib.hid (show beginT s j t = ({ s.set j ⟨true, true, false, false, t⟩ with till := 0 }, [(2, t, (j : Int), 0)]) from by rw [HBG.out, if_pos (by rw [h3]; rfl)])
              clear h2 h3 HBG
              go_enter Try.func11, Try.ntmps11
              go_upto_region 2 with (fail)
              clear hW2
              refine Reg.begin_ (S := fun W => W.cell? ⟨w.heap.size, 1 + j * 5, none⟩ = some (.bool false) ∧ W.cell? ⟨w.heap.size + 1, 2, none⟩ = some (.bool true)) (by kernel_rfl) (by exact ⟨hp W2 hS, hM.cell 2⟩) (fun hHeld => ?_)
              refine Reg.take (i := 0) (v := ?v97) rfl (by kernel_rfl) (by kernel_rfl) (by kernel_rfl) (by rfl) ?hv97 (by assumption) ?rest97
              case hv97 => first | (intro w hSw; (try dsimp only at hSw); go_simp; done) | (intro w hSw; (try dsimp only at hSw); go_simp; with_reducible rfl)
              (try simp only [Act.put, List.setIfInBounds_toArray, List.set_cons_zero, List.set_cons_succ])
              refine Reg.take (i := 1) (v := ?v98) rfl (by kernel_rfl) (by kernel_rfl) (by kernel_rfl) (by rfl) ?hv98 (by assumption) ?rest98
              case hv98 => first | (intro w hSw; (try dsimp only at hSw); go_simp; done) | (intro w hSw; (try dsimp only at hSw); go_simp; with_reducible rfl)
              (try simp only [Act.put, List.setIfInBounds_toArray, List.set_cons_zero, List.set_cons_succ])
              refine Reg.take (i := 2) (v := ?v99) rfl (by kernel_rfl) (by kernel_rfl) (by kernel_rfl) (by rfl) ?hv99 (by assumption) ?rest99
              case hv99 => first | (intro w hSw; (try dsimp only at hSw); go_simp; done) | (intro w hSw; (try dsimp only at hSw); go_simp; with_reducible rfl)
              (try simp only [Act.put, List.setIfInBounds_toArray, List.set_cons_zero, List.set_cons_succ])
              refine Reg.take (i := 3) (v := ?v100) rfl (by kernel_rfl) (by kernel_rfl) (by kernel_rfl) (by rfl) ?hv100 (by assumption) ?rest100
              case hv100 => first | (intro w hSw; (try dsimp only at hSw); go_simp; done) | (intro w hSw; (try dsimp only at hSw); go_simp; with_reducible rfl)
              (try simp only [Act.put, List.setIfInBounds_toArray, List.set_cons_zero, List.set_cons_succ])
              refine Reg.take (i := 4) (v := ?v101) rfl (by kernel_rfl) (by kernel_rfl) (by kernel_rfl) (by rfl) ?hv101 (by assumption) ?rest101
              case hv101 => first | (intro w hSw; (try dsimp only at hSw); go_simp; done) | (intro w hSw; (try dsimp only at hSw); go_simp; with_reducible rfl)
              (try simp only [Act.put, List.setIfInBounds_toArray, List.set_cons_zero, List.set_cons_succ])
              refine Reg.take (i := 5) (v := ?v102) rfl (by kernel_rfl) (by kernel_rfl) (by kernel_rfl) (by rfl) ?hv102 (by assumption) ?rest102
              case hv102 => first | (intro w hSw; (try dsimp only at hSw); go_simp; done) | (intro w hSw; (try dsimp only at hSw); go_simp; with_reducible rfl)
              (try simp only [Act.put, List.setIfInBounds_toArray, List.set_cons_zero, List.set_cons_succ])
              refine Reg.take (i := 6) (v := ?v103) rfl (by kernel_rfl) (by kernel_rfl) (by kernel_rfl) (by rfl) ?hv103 (by assumption) ?rest103
              case hv103 => first | (intro w hSw; (try dsimp only at hSw); go_simp; done) | (intro w hSw; (try dsimp only at hSw); go_simp; with_reducible rfl)
              (try simp only [Act.put, List.setIfInBounds_toArray, List.set_cons_zero, List.set_cons_succ])
              refine Reg.take (i := 7) (v := ?v104) rfl (by kernel_rfl) (by kernel_rfl) (by kernel_rfl) (by rfl) ?hv104 (by assumption) ?rest104
              case hv104 => first | (intro w hSw; (try dsimp only at hSw); go_simp; done) | (intro w hSw; (try dsimp only at hSw); go_simp; with_reducible rfl)
              (try simp only [Act.put, List.setIfInBounds_toArray, List.set_cons_zero, List.set_cons_succ])
              refine Reg.take (i := 8) (v := ?v105) rfl (by kernel_rfl) (by kernel_rfl) (by kernel_rfl) (by rfl) ?hv105 (by assumption) ?rest105
              case hv105 => first | (intro w hSw; (try dsimp only at hSw); go_simp; done) | (intro w hSw; (try dsimp only at hSw); go_simp; with_reducible rfl)
              (try simp only [Act.put, List.setIfInBounds_toArray, List.set_cons_zero, List.set_cons_succ])
              refine Reg.take (i := 9) (v := ?v106) rfl (by kernel_rfl) (by kernel_rfl) (by kernel_rfl) (by rfl) ?hv106 (by assumption) ?rest106
              case hv106 => first | (intro w hSw; (try dsimp only at hSw); go_simp; done) | (intro w hSw; (try dsimp only at hSw); go_simp; with_reducible rfl)
              (try simp only [Act.put, List.setIfInBounds_toArray, List.set_cons_zero, List.set_cons_succ])
              refine Reg.take (i := 10) (v := ?v107) rfl (by kernel_rfl) (by kernel_rfl) (by kernel_rfl) (by rfl) ?hv107 (by assumption) ?rest107
              case hv107 => first | (intro w hSw; (try dsimp only at hSw); go_simp; done) | (intro w hSw; (try dsimp only at hSw); go_simp; with_reducible rfl)
              (try simp only [Act.put, List.setIfInBounds_toArray, List.set_cons_zero, List.set_cons_succ])
              refine Reg.take (i := 11) (v := ?v108) rfl (by kernel_rfl) (by kernel_rfl) (by kernel_rfl) (by rfl) ?hv108 (by assumption) ?rest108
              case hv108 => first | (intro w hSw; (try dsimp only at hSw); go_simp; done) | (intro w hSw; (try dsimp only at hSw); go_simp; with_reducible rfl)
              (try simp only [Act.put, List.setIfInBounds_toArray, List.set_cons_zero, List.set_cons_succ])
              refine Reg.take (i := 12) (v := ?v109) rfl (by kernel_rfl) (by kernel_rfl) (by kernel_rfl) (by rfl) ?hv109 (by assumption) ?rest109
              case hv109 => first | (intro w hSw; (try dsimp only at hSw); go_simp; done) | (intro w hSw; (try dsimp only at hSw); go_simp; with_reducible rfl)
              (try simp only [Act.put, List.setIfInBounds_toArray, List.set_cons_zero, List.set_cons_succ])
              refine Reg.take (i := 13) (v := ?v110) rfl (by kernel_rfl) (by kernel_rfl) (by kernel_rfl) (by rfl) ?hv110 (by assumption) ?rest110
              case hv110 => first | (intro w hSw; (try dsimp only at hSw); go_simp; done) | (intro w hSw; (try dsimp only at hSw); go_simp; with_reducible rfl)
              (try simp only [Act.put, List.setIfInBounds_toArray, List.set_cons_zero, List.set_cons_succ])
              refine Reg.take (i := 14) (v := ?v111) rfl (by kernel_rfl) (by kernel_rfl) (by kernel_rfl) (by rfl) ?hv111 (by assumption) ?rest111
              case hv111 => first | (intro w hSw; (try dsimp only at hSw); go_simp; done) | (intro w hSw; (try dsimp only at hSw); go_simp; with_reducible rfl)
              (try simp only [Act.put, List.setIfInBounds_toArray, List.set_cons_zero, List.set_cons_succ])
              refine Reg.take (i := 15) (v := ?v112) rfl (by kernel_rfl) (by kernel_rfl) (by kernel_rfl) (by rfl) ?hv112 (by assumption) ?rest112
              case hv112 => first | (intro w hSw; (try dsimp only at hSw); go_simp; done) | (intro w hSw; (try dsimp only at hSw); go_simp; with_reducible rfl)
              (try simp only [Act.put, List.setIfInBounds_toArray, List.set_cons_zero, List.set_cons_succ])
              refine Reg.done (by kernel_rfl) ?_ _
              clear hHeld m0
              have hS3 := hS.grow (below_drewN (Below.refl _ W2) 1)
              have hM3 : Has W2.drew (w.heap.size + 1) 40 #[.int .i64 (j : Nat), .int .i64 a, .bool true] := hM
              change Rs w w.heap.size (w.heap.size + 1 + 1) s W2.drew at hS3
              clear hS hM
              generalize W2.drew = W3 at *
              have c0 := (rpart hS3.X hj6).1
              have f0 := hS3.X.frozen (1 + j * 5)
              have n2 := hM3.cell 2
              have hS4 := hS3.put1 j 0 true { s.get j with on := true } hj (by omega) rfl
              have hM4 := hM3.far (p := ⟨w.heap.size, 1 + j * 5 + 0, none⟩) (by show w.heap.size + 1 ≠ w.heap.size; omega) (.bool true)
              go_upto_region 5 with (fail)
              simp only [Nat.add_zero] at hS4 hM4
              generalize W3.setCell ⟨w.heap.size, 1 + j * 5, none⟩ (.bool true) = W4 at *
              clear hS3 hM3 c0 f0 n2
              have n2 := hM4.cell 2
              have n1 := hM4.cell 1
              clear hs1
              have d1 : W4.cell? ⟨w.heap.size, 1 + j * 5 + 1, none⟩ = some (.bool false) := HG2.out _ hS4
              obtain ⟨d0, -, d2, d3, d4⟩ := HPT.out _ hS4
              obtain ⟨e0, e1, e2, e3, e4⟩ := hS4.partF j
              go_upto_region 9 with (go_at_call 25; ((with_reducible refine (hne _).mono ?_); rintro e W5 ⟨rfl, rfl⟩))
              have hS6 := HP5.out _ hS4
              have hM6 := ((((hM4.far (p := ⟨w.heap.size, 1 + j * 5, none⟩) (by show w.heap.size + 1 ≠ w.heap.size; omega) (.bool true)).far (p := ⟨w.heap.size, 1 + j * 5 + 1, none⟩) (by show w.heap.size + 1 ≠ w.heap.size; omega) (.bool true)).far (p := ⟨w.heap.size, 1 + j * 5 + 2, none⟩) (by show w.heap.size + 1 ≠ w.heap.size; omega) (.bool false)).far (p := ⟨w.heap.size, 1 + j * 5 + 3, none⟩) (by show w.heap.size + 1 ≠ w.heap.size; omega) (.bool false)).far (p := ⟨w.heap.size, 1 + j * 5 + 4, none⟩) (by show w.heap.size + 1 ≠ w.heap.size; omega) (.int .i64 t)
              generalize ((((W5.setCell ⟨w.heap.size, 1 + j * 5, none⟩ (.bool true)).setCell ⟨w.heap.size, 1 + j * 5 + 1, none⟩ (.bool true)).setCell ⟨w.heap.size, 1 + j * 5 + 2, none⟩ (.bool false)).setCell ⟨w.heap.size, 1 + j * 5 + 3, none⟩ (.bool false)).setCell ⟨w.heap.size, 1 + j * 5 + 4, none⟩ (.int .i64 t) = W6 at *
              clear hS4 hM4 HPT HP5 HG2 d0 d1 d2 d3 d4 e0 e1 e2 e3 e4 n1 n2
              obtain ⟨-, r1, -, r3, -⟩ := hS6.rest
              have hS7 := hS6.putTill 0
              have hM7 := hM6.far (p := ⟨w.heap.size, 31, none⟩) (by show w.heap.size + 1 ≠ w.heap.size; omega) (.int .i64 0)
              go_upto_region 11 with (fail)
              generalize W6.setCell ⟨w.heap.size, 31, none⟩ (.int .i64 0) = W7 at *
              generalize ({ s.set j ⟨true, true, false, false, t⟩ with till := 0 } : St) = s6 at *
              clear hS6 hM6 r1 r3
              have hS6 := hS7
              have hM6 := hM7
              clear hS7 hM7
              generalize W7 = W6 at *
              refine Till.begin_ (T := [8]) (S := fun W => Has W w.heap.size 32 (refC s6) ∧ W.cell? ⟨w.heap.size + 1, 1, none⟩ = some (.int .i64 a)) (by kernel_rfl) (by exact ⟨hS6.X, hM6.cell 1⟩) (fun hHeld => ?_)
              refine Till.take (i := 0) (v := .agg (refC s6)) rfl (by kernel_rfl) (by kernel_rfl) (by kernel_rfl) (by kernel_rfl) (by rfl) (fun W hSw => by exact ref_take rfl rfl hSw.1 (ref_size _)) (by assumption) ?_
              (try simp only [Act.put, List.setIfInBounds_toArray, List.set_cons_zero, List.set_cons_succ])
              refine Till.take (i := 1) (v := ?v113) rfl (by kernel_rfl) (by kernel_rfl) (by kernel_rfl) (by kernel_rfl) (by rfl) ?hv113 (by assumption) ?rest113
              case hv113 => first | (intro w hSw; (try dsimp only at hSw); go_simp; done) | (intro w hSw; (try dsimp only at hSw); go_simp; with_reducible rfl)
              (try simp only [Act.put, List.setIfInBounds_toArray, List.set_cons_zero, List.set_cons_succ])
              refine Till.take (i := 2) (v := ?v114) rfl (by kernel_rfl) (by kernel_rfl) (by kernel_rfl) (by kernel_rfl) (by rfl) ?hv114 (by assumption) ?rest114
              case hv114 => first | (intro w hSw; (try dsimp only at hSw); go_simp; done) | (intro w hSw; (try dsimp only at hSw); go_simp; with_reducible rfl)
              (try simp only [Act.put, List.setIfInBounds_toArray, List.set_cons_zero, List.set_cons_succ])
              refine Till.take (i := 4) (v := ?v115) rfl (by kernel_rfl) (by kernel_rfl) (by kernel_rfl) (by kernel_rfl) (by rfl) ?hv115 (by assumption) ?rest115
              case hv115 => first | (intro w hSw; (try dsimp only at hSw); go_simp; done) | (intro w hSw; (try dsimp only at hSw); go_simp; with_reducible rfl)
              (try simp only [Act.put, List.setIfInBounds_toArray, List.set_cons_zero, List.set_cons_succ])
              have hS7 := hS6.grow (below_drewN (Below.refl _ W6) 1)
              have hM7 : Has W6.drew (w.heap.size + 1) 40 #[.int .i64 (j : Nat), .int .i64 a, .bool true] := hM6
              change Rs w w.heap.size (w.heap.size + 1 + 1) _ W6.drew at hS7
              clear hS6 hM6
              generalize W6.drew = W7 at *
              refine Till.call (i := 3) rfl (by kernel_rfl) (by rfl) ?_
              intro K hK
              go_simp
              go_at_call 25
              ((with_reducible refine (hne _).mono ?_); rintro e W8 ⟨rfl, rfl⟩)
              refine hK.out _ _ (by exact hHeld) (fun hHeld => ?_)
              clear hK K
              (try simp only [Act.put, List.setIfInBounds_toArray, List.set_cons_zero, List.set_cons_succ])
              refine Till.take (i := 5) (v := ?v116) rfl (by kernel_rfl) (by kernel_rfl) (by kernel_rfl) (by kernel_rfl) (by rfl) ?hv116 (by assumption) ?rest116
              case hv116 => first | (intro w hSw; (try dsimp only at hSw); go_simp; done) | (intro w hSw; (try dsimp only at hSw); go_simp; with_reducible rfl)
              (try simp only [Act.put, List.setIfInBounds_toArray, List.set_cons_zero, List.set_cons_succ])
              have hz8 : w.heap.size ≤ W8.heap.size := hS7.low.size
              have hy8 : w.heap.size + 1 + 1 < W8.heap.size := hS7.Y.lt
              have hK8 := fun W => kept_row W (w.heap.size + 1 + 1) (refC s6)
              clear hHeld
              refine Till.both (i := 6) (j := 7) rfl rfl (by kernel_rfl) (by rfl) (by rfl) ?_ ?_
              · intro K hK
                go_simp
                have hS8 := hS7.grow ((Below.refl _ W8).alloc (Nat.le_refl _) (.cells #[.int .i64 2, .int .i64 t, .int .i64 (j : Nat), .int .i64 0] 53))
                have hM8 := hM7.alloc (.cells #[.int .i64 2, .int .i64 t, .int .i64 (j : Nat), .int .i64 0] 53)
                have hV8 := ot_one W8 53 (2, t, (j : Int), 0)
                dsimp only at hV8
                refine hK.out _ _ (by exact ⟨hS8.X, hM8.cell 1⟩) (fun hHeld => ?_)
                clear hK K
                (try simp only [Act.put, List.setIfInBounds_toArray, List.set_cons_zero, List.set_cons_succ])
                clear hHeld hM7 hS7
                generalize W8.alloc (.cells #[.int .i64 2, .int .i64 t, .int .i64 (j : Nat), .int .i64 0] 53) = W9 at *
                generalize W8.heap.size = z8 at *
                refine Till.call (i := 7) rfl (by kernel_rfl) (by rfl) ?_
                intro K hK
                refine wp_store_row 32 _ _ rfl (w.heap.size + 1 + 1) (refC s6) rfl rfl 32 _ hS8.Y (by rw [ref_size]; kernel_rfl) (by rw [ref_size]; rfl) (ref_one _) ?_
                have hK9 := hK8 W9
                refine hK.out _ _ (by exact ⟨hK9.has hS8.X (by simp <;> omega), (hK9.has hM8 (by simp <;> omega)).cell 1⟩) (fun hHeld => ?_)
                clear hK K
                (try simp only [Act.put, List.setIfInBounds_toArray, List.set_cons_zero, List.set_cons_succ])
                have hY9 := hS8.Y.row (refC s6)
                have hV9 := hV8.kept hK9 (fun _ x hx hk => by injection hx with hx; subst hx; simp at hk; omega)
                have hB9 := below_kept hS8.low hK9 hS8.low.size (fun x hx => by simp at hx; omega)
                clear hM8 hS8 hV8 hK9 hHeld hK8
                refine Till.put (i := 8) rfl (by kernel_rfl) (by rfl) (by rfl) ?_
                intro K hK
                go_simp
                refine hK.out _ _ ?_
                clear hK K
                (try simp only [Act.put, List.setIfInBounds_toArray, List.set_cons_zero, List.set_cons_succ])
                refine Till.done (by kernel_rfl) ?_ _
                go_wp2
                refine ref_ret rfl (w.heap.size + 1 + 1) rfl (.slice (some ⟨z8, 0, none⟩) 1 1) rfl _ hY9 (ref_size _) rfl ?_
                rw [HR.out]
                exact ⟨some ⟨z8, 0, none⟩, 1, rfl, Nat.le_refl _, by show 1 ≤ 9223372036854775807; omega, hV9, fun x hx => by injection hx with hx; subst hx; exact hz8, hB9⟩
              · intro K hK
                refine wp_store_row 32 _ _ rfl (w.heap.size + 1 + 1) (refC s6) rfl rfl 32 _ hS7.Y (by rw [ref_size]; kernel_rfl) (by rw [ref_size]; rfl) (ref_one _) ?_
                have hK9 := hK8 W8
                have hX9 := hK9.has hS7.X (by simp <;> omega)
                have hM9 := hK9.has hM7 (by simp <;> omega)
                have hYb := hS7.Y.row (refC s6)
                have hBb := below_kept hS7.low hK9 hS7.low.size (fun x hx => by simp at hx; omega)
                have hzz := hK9.size
                refine hK.out _ _ (by exact ⟨hX9, hM9.cell 1⟩) (fun hHeld => ?_)
                clear hK K
                (try simp only [Act.put, List.setIfInBounds_toArray, List.set_cons_zero, List.set_cons_succ])
                clear hS7 hM7 hK9 hK8 hHeld
                generalize W8.setRow (w.heap.size + 1 + 1) (refC s6) = Wb at *
                have hX8 := hX9.alloc (.cells #[.int .i64 2, .int .i64 t, .int .i64 (j : Nat), .int .i64 0] 53)
                have hM8 := hM9.alloc (.cells #[.int .i64 2, .int .i64 t, .int .i64 (j : Nat), .int .i64 0] 53)
                have hV9 := ot_one Wb 53 (2, t, (j : Int), 0)
                dsimp only at hV9
                have hY9 := hYb.alloc (.cells #[.int .i64 2, .int .i64 t, .int .i64 (j : Nat), .int .i64 0] 53)
                have hB9 := hBb.alloc hBb.size (.cells #[.int .i64 2, .int .i64 t, .int .i64 (j : Nat), .int .i64 0] 53)
                replace hz8 : w.heap.size ≤ Wb.heap.size := by omega
                refine Till.call (i := 6) rfl (by kernel_rfl) (by rfl) ?_
                intro K hK
                go_simp
                refine hK.out _ _ (by exact ⟨hX8, hM8.cell 1⟩) (fun hHeld => ?_)
                clear hK K
                (try simp only [Act.put, List.setIfInBounds_toArray, List.set_cons_zero, List.set_cons_succ])
                clear hX8 hM8 hX9 hM9 hYb hBb hzz hHeld
                generalize Wb.alloc (.cells #[.int .i64 2, .int .i64 t, .int .i64 (j : Nat), .int .i64 0] 53) = W9 at *
                generalize Wb.heap.size = z8 at *
                refine Till.put (i := 8) rfl (by kernel_rfl) (by rfl) (by rfl) ?_
                intro K hK
                go_simp
                refine hK.out _ _ ?_
                clear hK K
                (try simp only [Act.put, List.setIfInBounds_toArray, List.set_cons_zero, List.set_cons_succ])
                refine Till.done (by kernel_rfl) ?_ _
                go_wp2
                refine ref_ret rfl (w.heap.size + 1 + 1) rfl (.slice (some ⟨z8, 0, none⟩) 1 1) rfl _ hY9 (ref_size _) rfl ?_
                rw [HR.out]
                exact ⟨some ⟨z8, 0, none⟩, 1, rfl, Nat.le_refl _, by show 1 ≤ 9223372036854775807; omega, hV9, fun x hx => by injection hx with hx; subst hx; exact hz8, hB9⟩
            · have b2 : ((j : Int) == 2) = false := by simp; omega
              have b3 : ((j : Int) == 3) = false := by simp; omega
              have HR := Lib.hid (show beginT s j t = (s.set j ⟨true, true, false, false, t⟩, [(2, t, (j : Int), 0)]) from by
                rw [HBG.out, if_neg]
                unfold grave
                rw [show (j == 2) = false by simpa using h2, show (j == 3) = false by simpa using h3]
                decide)
              clear h2 h3 HBG
              go_enter Try.func11, Try.ntmps11
              go_upto_region 2 with (fail)
              clear hW2
              refine Reg.begin_ (S := fun W => W.cell? ⟨w.heap.size, 1 + j * 5, none⟩ = some (.bool false) ∧ W.cell? ⟨w.heap.size + 1, 2, none⟩ = some (.bool true)) (by kernel_rfl) (by exact ⟨hp W2 hS, hM.cell 2⟩) (fun hHeld => ?_)
              refine Reg.take (i := 0) (v := ?v117) rfl (by kernel_rfl) (by kernel_rfl) (by kernel_rfl) (by rfl) ?hv117 (by assumption) ?rest117
              case hv117 => first | (intro w hSw; (try dsimp only at hSw); go_simp; done) | (intro w hSw; (try dsimp only at hSw); go_simp; with_reducible rfl)
              (try simp only [Act.put, List.setIfInBounds_toArray, List.set_cons_zero, List.set_cons_succ])
              refine Reg.take (i := 1) (v := ?v118) rfl (by kernel_rfl) (by kernel_rfl) (by kernel_rfl) (by rfl) ?hv118 (by assumption) ?rest118
              case hv118 => first | (intro w hSw; (try dsimp only at hSw); go_simp; done) | (intro w hSw; (try dsimp only at hSw); go_simp; with_reducible rfl)
              (try simp only [Act.put, List.setIfInBounds_toArray, List.set_cons_zero, List.set_cons_succ])
              refine Reg.take (i := 2) (v := ?v119) rfl (by kernel_rfl) (by kernel_rfl) (by kernel_rfl) (by rfl) ?hv119 (by assumption) ?rest119
              case hv119 => first | (intro w hSw; (try dsimp only at hSw); go_simp; done) | (intro w hSw; (try dsimp only at hSw); go_simp; with_reducible rfl)
              (try simp only [Act.put, List.setIfInBounds_toArray, List.set_cons_zero, List.set_cons_succ])
              refine Reg.take (i := 3) (v := ?v120) rfl (by kernel_rfl) (by kernel_rfl) (by kernel_rfl) (by rfl) ?hv120 (by assumption) ?rest120
              case hv120 => first | (intro w hSw; (try dsimp only at hSw); go_simp; done) | (intro w hSw; (try dsimp only at hSw); go_simp; with_reducible rfl)
              (try simp only [Act.put, List.setIfInBounds_toArray, List.set_cons_zero, List.set_cons_succ])
              refine Reg.take (i := 4) (v := ?v121) rfl (by kernel_rfl) (by kernel_rfl) (by kernel_rfl) (by rfl) ?hv121 (by assumption) ?rest121
              case hv121 => first | (intro w hSw; (try dsimp only at hSw); go_simp; done) | (intro w hSw; (try dsimp only at hSw); go_simp; with_reducible rfl)
              (try simp only [Act.put, List.setIfInBounds_toArray, List.set_cons_zero, List.set_cons_succ])
              refine Reg.take (i := 5) (v := ?v122) rfl (by kernel_rfl) (by kernel_rfl) (by kernel_rfl) (by rfl) ?hv122 (by assumption) ?rest122
              case hv122 => first | (intro w hSw; (try dsimp only at hSw); go_simp; done) | (intro w hSw; (try dsimp only at hSw); go_simp; with_reducible rfl)
              (try simp only [Act.put, List.setIfInBounds_toArray, List.set_cons_zero, List.set_cons_succ])
              refine Reg.take (i := 6) (v := ?v123) rfl (by kernel_rfl) (by kernel_rfl) (by kernel_rfl) (by rfl) ?hv123 (by assumption) ?rest123
              case hv123 => first | (intro w hSw; (try dsimp only at hSw); go_simp; done) | (intro w hSw; (try dsimp only at hSw); go_simp; with_reducible rfl)
              (try simp only [Act.put, List.setIfInBounds_toArray, List.set_cons_zero, List.set_cons_succ])
              refine Reg.take (i := 7) (v := ?v124) rfl (by kernel_rfl) (by kernel_rfl) (by kernel_rfl) (by rfl) ?hv124 (by assumption) ?rest124
              case hv124 => first | (intro w hSw; (try dsimp only at hSw); go_simp; done) | (intro w hSw; (try dsimp only at hSw); go_simp; with_reducible rfl)
              (try simp only [Act.put, List.setIfInBounds_toArray, List.set_cons_zero, List.set_cons_succ])
              refine Reg.take (i := 8) (v := ?v125) rfl (by kernel_rfl) (by kernel_rfl) (by kernel_rfl) (by rfl) ?hv125 (by assumption) ?rest125
              case hv125 => first | (intro w hSw; (try dsimp only at hSw); go_simp; done) | (intro w hSw; (try dsimp only at hSw); go_simp; with_reducible rfl)
              (try simp only [Act.put, List.setIfInBounds_toArray, List.set_cons_zero, List.set_cons_succ])
              refine Reg.take (i := 9) (v := ?v126) rfl (by kernel_rfl) (by kernel_rfl) (by kernel_rfl) (by rfl) ?hv126 (by assumption) ?rest126
              case hv126 => first | (intro w hSw; (try dsimp only at hSw); go_simp; done) | (intro w hSw; (try dsimp only at hSw); go_simp; with_reducible rfl)
              (try simp only [Act.put, List.setIfInBounds_toArray, List.set_cons_zero, List.set_cons_succ])
              refine Reg.take (i := 10) (v := ?v127) rfl (by kernel_rfl) (by kernel_rfl) (by kernel_rfl) (by rfl) ?hv127 (by assumption) ?rest127
              case hv127 => first | (intro w hSw; (try dsimp only at hSw); go_simp; done) | (intro w hSw; (try dsimp only at hSw); go_simp; with_reducible rfl)
              (try simp only [Act.put, List.setIfInBounds_toArray, List.set_cons_zero, List.set_cons_succ])
              refine Reg.take (i := 11) (v := ?v128) rfl (by kernel_rfl) (by kernel_rfl) (by kernel_rfl) (by rfl) ?hv128 (by assumption) ?rest128
              case hv128 => first | (intro w hSw; (try dsimp only at hSw); go_simp; done) | (intro w hSw; (try dsimp only at hSw); go_simp; with_reducible rfl)
              (try simp only [Act.put, List.setIfInBounds_toArray, List.set_cons_zero, List.set_cons_succ])
              refine Reg.take (i := 12) (v := ?v129) rfl (by kernel_rfl) (by kernel_rfl) (by kernel_rfl) (by rfl) ?hv129 (by assumption) ?rest129
              case hv129 => first | (intro w hSw; (try dsimp only at hSw); go_simp; done) | (intro w hSw; (try dsimp only at hSw); go_simp; with_reducible rfl)
              (try simp only [Act.put, List.setIfInBounds_toArray, List.set_cons_zero, List.set_cons_succ])
              refine Reg.take (i := 13) (v := ?v130) rfl (by kernel_rfl) (by kernel_rfl) (by kernel_rfl) (by rfl) ?hv130 (by assumption) ?rest130
              case hv130 => first | (intro w hSw; (try dsimp only at hSw); go_simp; done) | (intro w hSw; (try dsimp only at hSw); go_simp; with_reducible rfl)
              (try simp only [Act.put, List.setIfInBounds_toArray, List.set_cons_zero, List.set_cons_succ])
              refine Reg.take (i := 14) (v := ?v131) rfl (by kernel_rfl) (by kernel_rfl) (by kernel_rfl) (by rfl) ?hv131 (by assumption) ?rest131
              case hv131 => first | (intro w hSw; (try dsimp only at hSw); go_simp; done) | (intro w hSw; (try dsimp only at hSw); go_simp; with_reducible rfl)
              (try simp only [Act.put, List.setIfInBounds_toArray, List.set_cons_zero, List.set_cons_succ])
              refine Reg.take (i := 15) (v := ?v132) rfl (by kernel_rfl) (by kernel_rfl) (by kernel_rfl) (by rfl) ?hv132 (by assumption) ?rest132
              case hv132 => first | (intro w hSw; (try dsimp only at hSw); go_simp; done) | (intro w hSw; (try dsimp only at hSw); go_simp; with_reducible rfl)
              (try simp only [Act.put, List.setIfInBounds_toArray, List.set_cons_zero, List.set_cons_succ])
              refine Reg.done (by kernel_rfl) ?_ _
              clear hHeld m0
              have hS3 := hS.grow (below_drewN (Below.refl _ W2) 1)
              have hM3 : Has W2.drew (w.heap.size + 1) 40 #[.int .i64 (j : Nat), .int .i64 a, .bool true] := hM
              change Rs w w.heap.size (w.heap.size + 1 + 1) s W2.drew at hS3
              clear hS hM
              generalize W2.drew = W3 at *
              have c0 := (rpart hS3.X hj6).1
              have f0 := hS3.X.frozen (1 + j * 5)
              have n2 := hM3.cell 2
              have hS4 := hS3.put1 j 0 true { s.get j with on := true } hj (by omega) rfl
              have hM4 := hM3.far (p := ⟨w.heap.size, 1 + j * 5 + 0, none⟩) (by show w.heap.size + 1 ≠ w.heap.size; omega) (.bool true)
              go_upto_region 5 with (fail)
              simp only [Nat.add_zero] at hS4 hM4
              generalize W3.setCell ⟨w.heap.size, 1 + j * 5, none⟩ (.bool true) = W4 at *
              clear hS3 hM3 c0 f0 n2
              have n2 := hM4.cell 2
              have n1 := hM4.cell 1
              clear hs1
              have d1 : W4.cell? ⟨w.heap.size, 1 + j * 5 + 1, none⟩ = some (.bool false) := HG2.out _ hS4
              obtain ⟨d0, -, d2, d3, d4⟩ := HPT.out _ hS4
              obtain ⟨e0, e1, e2, e3, e4⟩ := hS4.partF j
              go_upto_region 9 with (go_at_call 25; ((with_reducible refine (hne _).mono ?_); rintro e W5 ⟨rfl, rfl⟩))
              have hS6 := HP5.out _ hS4
              have hM6 := ((((hM4.far (p := ⟨w.heap.size, 1 + j * 5, none⟩) (by show w.heap.size + 1 ≠ w.heap.size; omega) (.bool true)).far (p := ⟨w.heap.size, 1 + j * 5 + 1, none⟩) (by show w.heap.size + 1 ≠ w.heap.size; omega) (.bool true)).far (p := ⟨w.heap.size, 1 + j * 5 + 2, none⟩) (by show w.heap.size + 1 ≠ w.heap.size; omega) (.bool false)).far (p := ⟨w.heap.size, 1 + j * 5 + 3, none⟩) (by show w.heap.size + 1 ≠ w.heap.size; omega) (.bool false)).far (p := ⟨w.heap.size, 1 + j * 5 + 4, none⟩) (by show w.heap.size + 1 ≠ w.heap.size; omega) (.int .i64 t)
              generalize ((((W5.setCell ⟨w.heap.size, 1 + j * 5, none⟩ (.bool true)).setCell ⟨w.heap.size, 1 + j * 5 + 1, none⟩ (.bool true)).setCell ⟨w.heap.size, 1 + j * 5 + 2, none⟩ (.bool false)).setCell ⟨w.heap.size, 1 + j * 5 + 3, none⟩ (.bool false)).setCell ⟨w.heap.size, 1 + j * 5 + 4, none⟩ (.int .i64 t) = W6 at *
              clear hS4 hM4 HPT HP5 HG2 d0 d1 d2 d3 d4 e0 e1 e2 e3 e4 n1 n2
              go_upto_region 11 with (fail)
              generalize s.set j ⟨true, true, false, false, t⟩ = s6 at *
              refine Till.begin_ (T := [8]) (S := fun W => Has W w.heap.size 32 (refC s6) ∧ W.cell? ⟨w.heap.size + 1, 1, none⟩ = some (.int .i64 a)) (by kernel_rfl) (by exact ⟨hS6.X, hM6.cell 1⟩) (fun hHeld => ?_)
              refine Till.take (i := 0) (v := .agg (refC s6)) rfl (by kernel_rfl) (by kernel_rfl) (by kernel_rfl) (by kernel_rfl) (by rfl) (fun W hSw => by exact ref_take rfl rfl hSw.1 (ref_size _)) (by assumption) ?_
              (try simp only [Act.put, List.setIfInBounds_toArray, List.set_cons_zero, List.set_cons_succ])
              refine Till.take (i := 1) (v := ?v133) rfl (by kernel_rfl) (by kernel_rfl) (by kernel_rfl) (by kernel_rfl) (by rfl) ?hv133 (by assumption) ?rest133
              case hv133 => first | (intro w hSw; (try dsimp only at hSw); go_simp; done) | (intro w hSw; (try dsimp only at hSw); go_simp; with_reducible rfl)
              (try simp only [Act.put, List.setIfInBounds_toArray, List.set_cons_zero, List.set_cons_succ])
              refine Till.take (i := 2) (v := ?v134) rfl (by kernel_rfl) (by kernel_rfl) (by kernel_rfl) (by kernel_rfl) (by rfl) ?hv134 (by assumption) ?rest134
              case hv134 => first | (intro w hSw; (try dsimp only at hSw); go_simp; done) | (intro w hSw; (try dsimp only at hSw); go_simp; with_reducible rfl)
              (try simp only [Act.put, List.setIfInBounds_toArray, List.set_cons_zero, List.set_cons_succ])
              refine Till.take (i := 4) (v := ?v135) rfl (by kernel_rfl) (by kernel_rfl) (by kernel_rfl) (by kernel_rfl) (by rfl) ?hv135 (by assumption) ?rest135
              case hv135 => first | (intro w hSw; (try dsimp only at hSw); go_simp; done) | (intro w hSw; (try dsimp only at hSw); go_simp; with_reducible rfl)
              (try simp only [Act.put, List.setIfInBounds_toArray, List.set_cons_zero, List.set_cons_succ])
              have hS7 := hS6.grow (below_drewN (Below.refl _ W6) 1)
              have hM7 : Has W6.drew (w.heap.size + 1) 40 #[.int .i64 (j : Nat), .int .i64 a, .bool true] := hM6
              change Rs w w.heap.size (w.heap.size + 1 + 1) _ W6.drew at hS7
              clear hS6 hM6
              generalize W6.drew = W7 at *
              refine Till.call (i := 3) rfl (by kernel_rfl) (by rfl) ?_
              intro K hK
              go_simp
              go_at_call 25
              ((with_reducible refine (hne _).mono ?_); rintro e W8 ⟨rfl, rfl⟩)
              refine hK.out _ _ (by exact hHeld) (fun hHeld => ?_)
              clear hK K
              (try simp only [Act.put, List.setIfInBounds_toArray, List.set_cons_zero, List.set_cons_succ])
              refine Till.take (i := 5) (v := ?v136) rfl (by kernel_rfl) (by kernel_rfl) (by kernel_rfl) (by kernel_rfl) (by rfl) ?hv136 (by assumption) ?rest136
              case hv136 => first | (intro w hSw; (try dsimp only at hSw); go_simp; done) | (intro w hSw; (try dsimp only at hSw); go_simp; with_reducible rfl)
              (try simp only [Act.put, List.setIfInBounds_toArray, List.set_cons_zero, List.set_cons_succ])
              have hz8 : w.heap.size ≤ W8.heap.size := hS7.low.size
              have hy8 : w.heap.size + 1 + 1 < W8.heap.size := hS7.Y.lt
              have hK8 := fun W => kept_row W (w.heap.size + 1 + 1) (refC s6)
              clear hHeld
              refine Till.both (i := 6) (j := 7) rfl rfl (by kernel_rfl) (by rfl) (by rfl) ?_ ?_
              · intro K hK
                go_simp
                have hS8 := hS7.grow ((Below.refl _ W8).alloc (Nat.le_refl _) (.cells #[.int .i64 2, .int .i64 t, .int .i64 (j : Nat), .int .i64 0] 53))
                have hM8 := hM7.alloc (.cells #[.int .i64 2, .int .i64 t, .int .i64 (j : Nat), .int .i64 0] 53)
                have hV8 := ot_one W8 53 (2, t, (j : Int), 0)
                dsimp only at hV8
                refine hK.out _ _ (by exact ⟨hS8.X, hM8.cell 1⟩) (fun hHeld => ?_)
                clear hK K
                (try simp only [Act.put, List.setIfInBounds_toArray, List.set_cons_zero, List.set_cons_succ])
                clear hHeld hM7 hS7
                generalize W8.alloc (.cells #[.int .i64 2, .int .i64 t, .int .i64 (j : Nat), .int .i64 0] 53) = W9 at *
                generalize W8.heap.size = z8 at *
                refine Till.call (i := 7) rfl (by kernel_rfl) (by rfl) ?_
                intro K hK
                refine wp_store_row 32 _ _ rfl (w.heap.size + 1 + 1) (refC s6) rfl rfl 32 _ hS8.Y (by rw [ref_size]; kernel_rfl) (by rw [ref_size]; rfl) (ref_one _) ?_
                have hK9 := hK8 W9
                refine hK.out _ _ (by exact ⟨hK9.has hS8.X (by simp <;> omega), (hK9.has hM8 (by simp <;> omega)).cell 1⟩) (fun hHeld => ?_)
                clear hK K
                (try simp only [Act.put, List.setIfInBounds_toArray, List.set_cons_zero, List.set_cons_succ])
                have hY9 := hS8.Y.row (refC s6)
                have hV9 := hV8.kept hK9 (fun _ x hx hk => by injection hx with hx; subst hx; simp at hk; omega)
                have hB9 := below_kept hS8.low hK9 hS8.low.size (fun x hx => by simp at hx; omega)
                clear hM8 hS8 hV8 hK9 hHeld hK8
                refine Till.put (i := 8) rfl (by kernel_rfl) (by rfl) (by rfl) ?_
                intro K hK
                go_simp
                refine hK.out _ _ ?_
                clear hK K
                (try simp only [Act.put, List.setIfInBounds_toArray, List.set_cons_zero, List.set_cons_succ])
                refine Till.done (by kernel_rfl) ?_ _
                go_wp2
                refine ref_ret rfl (w.heap.size + 1 + 1) rfl (.slice (some ⟨z8, 0, none⟩) 1 1) rfl _ hY9 (ref_size _) rfl ?_
                rw [HR.out]
                exact ⟨some ⟨z8, 0, none⟩, 1, rfl, Nat.le_refl _, by show 1 ≤ 9223372036854775807; omega, hV9, fun x hx => by injection hx with hx; subst hx; exact hz8, hB9⟩
              · intro K hK
                refine wp_store_row 32 _ _ rfl (w.heap.size + 1 + 1) (refC s6) rfl rfl 32 _ hS7.Y (by rw [ref_size]; kernel_rfl) (by rw [ref_size]; rfl) (ref_one _) ?_
                have hK9 := hK8 W8
                have hX9 := hK9.has hS7.X (by simp <;> omega)
                have hM9 := hK9.has hM7 (by simp <;> omega)
                have hYb := hS7.Y.row (refC s6)
                have hBb := below_kept hS7.low hK9 hS7.low.size (fun x hx => by simp at hx; omega)
                have hzz := hK9.size
                refine hK.out _ _ (by exact ⟨hX9, hM9.cell 1⟩) (fun hHeld => ?_)
                clear hK K
                (try simp only [Act.put, List.setIfInBounds_toArray, List.set_cons_zero, List.set_cons_succ])
                clear hS7 hM7 hK9 hK8 hHeld
                generalize W8.setRow (w.heap.size + 1 + 1) (refC s6) = Wb at *
                have hX8 := hX9.alloc (.cells #[.int .i64 2, .int .i64 t, .int .i64 (j : Nat), .int .i64 0] 53)
                have hM8 := hM9.alloc (.cells #[.int .i64 2, .int .i64 t, .int .i64 (j : Nat), .int .i64 0] 53)
                have hV9 := ot_one Wb 53 (2, t, (j : Int), 0)
                dsimp only at hV9
                have hY9 := hYb.alloc (.cells #[.int .i64 2, .int .i64 t, .int .i64 (j : Nat), .int .i64 0] 53)
                have hB9 := hBb.alloc hBb.size (.cells #[.int .i64 2, .int .i64 t, .int .i64 (j : Nat), .int .i64 0] 53)
                replace hz8 : w.heap.size ≤ Wb.heap.size := by omega
                refine Till.call (i := 6) rfl (by kernel_rfl) (by rfl) ?_
                intro K hK
                go_simp
                refine hK.out _ _ (by exact ⟨hX8, hM8.cell 1⟩) (fun hHeld => ?_)
                clear hK K
                (try simp only [Act.put, List.setIfInBounds_toArray, List.set_cons_zero, List.set_cons_succ])
                clear hX8 hM8 hX9 hM9 hYb hBb hzz hHeld
                generalize Wb.alloc (.cells #[.int .i64 2, .int .i64 t, .int .i64 (j : Nat), .int .i64 0] 53) = W9 at *
                generalize Wb.heap.size = z8 at *
                refine Till.put (i := 8) rfl (by kernel_rfl) (by rfl) (by rfl) ?_
                intro K hK
                go_simp
                refine hK.out _ _ ?_
                clear hK K
                (try simp only [Act.put, List.setIfInBounds_toArray, List.set_cons_zero, List.set_cons_succ])
                refine Till.done (by kernel_rfl) ?_ _
                go_wp2
                refine ref_ret rfl (w.heap.size + 1 + 1) rfl (.slice (some ⟨z8, 0, none⟩) 1 1) rfl _ hY9 (ref_size _) rfl ?_
                rw [HR.out]
                exact ⟨some ⟨z8, 0, none⟩, 1, rfl, Nat.le_refl _, by show 1 ≤ 9223372036854775807; omega, hV9, fun x hx => by injection hx with hx; subst hx; exact hz8, hB9⟩
  · have HR := Lib.hid (cond_off (s := s) hk a q)
    by_cases h1 : k < 1
    · have hd1 : decide (k < 1) = true := decide_eq_true h1
      go_enter Try.func11, Try.ntmps11
      go_upto_region 2 with (fail)
      clear hW2
      refine Reg.begin_ (S := fun W => True) (by kernel_rfl) trivial (fun hHeld => ?_)
      refine Reg.take (i := 0) (v := ?v137) rfl (by kernel_rfl) (by kernel_rfl) (by kernel_rfl) (by rfl) ?hv137 (by assumption) ?rest137
      case hv137 => first | (intro w hSw; (try dsimp only at hSw); go_simp; done) | (intro w hSw; (try dsimp only at hSw); go_simp; with_reducible rfl)
      (try simp only [Act.put, List.setIfInBounds_toArray, List.set_cons_zero, List.set_cons_succ])
      refine Reg.take (i := 1) (v := ?v138) rfl (by kernel_rfl) (by kernel_rfl) (by kernel_rfl) (by rfl) ?hv138 (by assumption) ?rest138
      case hv138 => first | (intro w hSw; (try dsimp only at hSw); go_simp; done) | (intro w hSw; (try dsimp only at hSw); go_simp; with_reducible rfl)
      (try simp only [Act.put, List.setIfInBounds_toArray, List.set_cons_zero, List.set_cons_succ])
      refine Reg.take (i := 2) (v := ?v139) rfl (by kernel_rfl) (by kernel_rfl) (by kernel_rfl) (by rfl) ?hv139 (by assumption) ?rest139
      case hv139 => first | (intro w hSw; (try dsimp only at hSw); go_simp; done) | (intro w hSw; (try dsimp only at hSw); go_simp; with_reducible rfl)
      (try simp only [Act.put, List.setIfInBounds_toArray, List.set_cons_zero, List.set_cons_succ])
      refine Reg.skip (i := 3) rfl (by kernel_rfl) (by kernel_rfl) (by kernel_rfl) (by rfl) (by assumption) ?_
      (try simp only [Act.put, List.setIfInBounds_toArray, List.set_cons_zero, List.set_cons_succ])
      refine Reg.skip (i := 4) rfl (by kernel_rfl) (by kernel_rfl) (by kernel_rfl) (by rfl) (by assumption) ?_
      (try simp only [Act.put, List.setIfInBounds_toArray, List.set_cons_zero, List.set_cons_succ])
      refine Reg.take (i := 5) (v := ?v140) rfl (by kernel_rfl) (by kernel_rfl) (by kernel_rfl) (by rfl) ?hv140 (by assumption) ?rest140
      case hv140 => first | (intro w hSw; (try dsimp only at hSw); go_simp; done) | (intro w hSw; (try dsimp only at hSw); go_simp; with_reducible rfl)
      (try simp only [Act.put, List.setIfInBounds_toArray, List.set_cons_zero, List.set_cons_succ])
      refine Reg.take (i := 6) (v := ?v141) rfl (by kernel_rfl) (by kernel_rfl) (by kernel_rfl) (by rfl) ?hv141 (by assumption) ?rest141
      case hv141 => first | (intro w hSw; (try dsimp only at hSw); go_simp; done) | (intro w hSw; (try dsimp only at hSw); go_simp; with_reducible rfl)
      (try simp only [Act.put, List.setIfInBounds_toArray, List.set_cons_zero, List.set_cons_succ])
      refine Reg.skip (i := 7) rfl (by kernel_rfl) (by kernel_rfl) (by kernel_rfl) (by rfl) (by assumption) ?_
      (try simp only [Act.put, List.setIfInBounds_toArray, List.set_cons_zero, List.set_cons_succ])
      refine Reg.skip (i := 8) rfl (by kernel_rfl) (by kernel_rfl) (by kernel_rfl) (by rfl) (by assumption) ?_
      (try simp only [Act.put, List.setIfInBounds_toArray, List.set_cons_zero, List.set_cons_succ])
      refine Reg.skip (i := 9) rfl (by kernel_rfl) (by kernel_rfl) (by kernel_rfl) (by rfl) (by assumption) ?_
      (try simp only [Act.put, List.setIfInBounds_toArray, List.set_cons_zero, List.set_cons_succ])
      refine Reg.skip (i := 10) rfl (by kernel_rfl) (by kernel_rfl) (by kernel_rfl) (by rfl) (by assumption) ?_
      (try simp only [Act.put, List.setIfInBounds_toArray, List.set_cons_zero, List.set_cons_succ])
      refine Reg.skip (i := 11) rfl (by kernel_rfl) (by kernel_rfl) (by kernel_rfl) (by rfl) (by assumption) ?_
      (try simp only [Act.put, List.setIfInBounds_toArray, List.set_cons_zero, List.set_cons_succ])
      refine Reg.skip (i := 12) rfl (by kernel_rfl) (by kernel_rfl) (by kernel_rfl) (by rfl) (by assumption) ?_
      (try simp only [Act.put, List.setIfInBounds_toArray, List.set_cons_zero, List.set_cons_succ])
      refine Reg.skip (i := 13) rfl (by kernel_rfl) (by kernel_rfl) (by kernel_rfl) (by rfl) (by assumption) ?_
      (try simp only [Act.put, List.setIfInBounds_toArray, List.set_cons_zero, List.set_cons_succ])
      refine Reg.skip (i := 14) rfl (by kernel_rfl) (by kernel_rfl) (by kernel_rfl) (by rfl) (by assumption) ?_
      (try simp only [Act.put, List.setIfInBounds_toArray, List.set_cons_zero, List.set_cons_succ])
      refine Reg.take (i := 15) (v := ?v142) rfl (by kernel_rfl) (by kernel_rfl) (by kernel_rfl) (by rfl) ?hv142 (by assumption) ?rest142
      case hv142 => first | (intro w hSw; (try dsimp only at hSw); go_simp; done) | (intro w hSw; (try dsimp only at hSw); go_simp; with_reducible rfl)
      (try simp only [Act.put, List.setIfInBounds_toArray, List.set_cons_zero, List.set_cons_succ])
      refine Reg.done (by kernel_rfl) ?_ _
      clear hHeld m0
      have hS3 := hS.grow (below_drewN (Below.refl _ W2) 1)
      have hM3 : Has W2.drew (w.heap.size + 1) 40 #[.int .i64 k, .int .i64 a, .bool q] := hM
      change Rs w w.heap.size (w.heap.size + 1 + 1) s W2.drew at hS3
      clear hS hM
      generalize W2.drew = W3 at *
      go_wp2_with (first
        | (refine ref_ld rfl _ rfl _ rfl hS3.X (ref_size _) ?_)
        | (refine ref_st rfl _ _ rfl _ _ rfl rfl hS3.Y (ref_size _) rfl (ref_one _) ?_))
      have hK9 := fun xs => kept_row W3 (w.heap.size + 1 + 1) xs
      refine ref_ret rfl (w.heap.size + 1 + 1) rfl (.slice none 0 0) rfl _ (hS3.Y.row _) (ref_size _) rfl ?_
      rw [HR.out]
      exact ⟨none, 0, rfl, Nat.le_refl _, by show 0 ≤ 9223372036854775807; omega, Row.Vals.none_ _, fun x hx => (by cases hx), below_kept hS3.low (hK9 _) hS3.low.size (fun x hx => by simp at hx; omega)⟩
    · have hd1 : decide (k < 1) = false := decide_eq_false h1
      have hd2 : decide (5 < k) = true := decide_eq_true (by omega)
      go_enter Try.func11, Try.ntmps11
      go_upto_region 2 with (fail)
      clear hW2
      refine Reg.begin_ (S := fun W => True) (by kernel_rfl) trivial (fun hHeld => ?_)
      refine Reg.take (i := 0) (v := ?v143) rfl (by kernel_rfl) (by kernel_rfl) (by kernel_rfl) (by rfl) ?hv143 (by assumption) ?rest143
      case hv143 => first | (intro w hSw; (try dsimp only at hSw); go_simp; done) | (intro w hSw; (try dsimp only at hSw); go_simp; with_reducible rfl)
      (try simp only [Act.put, List.setIfInBounds_toArray, List.set_cons_zero, List.set_cons_succ])
      refine Reg.take (i := 1) (v := ?v144) rfl (by kernel_rfl) (by kernel_rfl) (by kernel_rfl) (by rfl) ?hv144 (by assumption) ?rest144
      case hv144 => first | (intro w hSw; (try dsimp only at hSw); go_simp; done) | (intro w hSw; (try dsimp only at hSw); go_simp; with_reducible rfl)
      (try simp only [Act.put, List.setIfInBounds_toArray, List.set_cons_zero, List.set_cons_succ])
      refine Reg.take (i := 2) (v := ?v145) rfl (by kernel_rfl) (by kernel_rfl) (by kernel_rfl) (by rfl) ?hv145 (by assumption) ?rest145
      case hv145 => first | (intro w hSw; (try dsimp only at hSw); go_simp; done) | (intro w hSw; (try dsimp only at hSw); go_simp; with_reducible rfl)
      (try simp only [Act.put, List.setIfInBounds_toArray, List.set_cons_zero, List.set_cons_succ])
      refine Reg.take (i := 3) (v := ?v146) rfl (by kernel_rfl) (by kernel_rfl) (by kernel_rfl) (by rfl) ?hv146 (by assumption) ?rest146
      case hv146 => first | (intro w hSw; (try dsimp only at hSw); go_simp; done) | (intro w hSw; (try dsimp only at hSw); go_simp; with_reducible rfl)
      (try simp only [Act.put, List.setIfInBounds_toArray, List.set_cons_zero, List.set_cons_succ])
      refine Reg.take (i := 4) (v := ?v147) rfl (by kernel_rfl) (by kernel_rfl) (by kernel_rfl) (by rfl) ?hv147 (by assumption) ?rest147
      case hv147 => first | (intro w hSw; (try dsimp only at hSw); go_simp; done) | (intro w hSw; (try dsimp only at hSw); go_simp; with_reducible rfl)
      (try simp only [Act.put, List.setIfInBounds_toArray, List.set_cons_zero, List.set_cons_succ])
      refine Reg.take (i := 5) (v := ?v148) rfl (by kernel_rfl) (by kernel_rfl) (by kernel_rfl) (by rfl) ?hv148 (by assumption) ?rest148
      case hv148 => first | (intro w hSw; (try dsimp only at hSw); go_simp; done) | (intro w hSw; (try dsimp only at hSw); go_simp; with_reducible rfl)
      (try simp only [Act.put, List.setIfInBounds_toArray, List.set_cons_zero, List.set_cons_succ])
      refine Reg.take (i := 6) (v := ?v149) rfl (by kernel_rfl) (by kernel_rfl) (by kernel_rfl) (by rfl) ?hv149 (by assumption) ?rest149
      case hv149 => first | (intro w hSw; (try dsimp only at hSw); go_simp; done) | (intro w hSw; (try dsimp only at hSw); go_simp; with_reducible rfl)
      (try simp only [Act.put, List.setIfInBounds_toArray, List.set_cons_zero, List.set_cons_succ])
      refine Reg.skip (i := 7) rfl (by kernel_rfl) (by kernel_rfl) (by kernel_rfl) (by rfl) (by assumption) ?_
      (try simp only [Act.put, List.setIfInBounds_toArray, List.set_cons_zero, List.set_cons_succ])
      refine Reg.skip (i := 8) rfl (by kernel_rfl) (by kernel_rfl) (by kernel_rfl) (by rfl) (by assumption) ?_
      (try simp only [Act.put, List.setIfInBounds_toArray, List.set_cons_zero, List.set_cons_succ])
      refine Reg.skip (i := 9) rfl (by kernel_rfl) (by kernel_rfl) (by kernel_rfl) (by rfl) (by assumption) ?_
      (try simp only [Act.put, List.setIfInBounds_toArray, List.set_cons_zero, List.set_cons_succ])
      refine Reg.skip (i := 10) rfl (by kernel_rfl) (by kernel_rfl) (by kernel_rfl) (by rfl) (by assumption) ?_
      (try simp only [Act.put, List.setIfInBounds_toArray, List.set_cons_zero, List.set_cons_succ])
      refine Reg.skip (i := 11) rfl (by kernel_rfl) (by kernel_rfl) (by kernel_rfl) (by rfl) (by assumption) ?_
      (try simp only [Act.put, List.setIfInBounds_toArray, List.set_cons_zero, List.set_cons_succ])
      refine Reg.skip (i := 12) rfl (by kernel_rfl) (by kernel_rfl) (by kernel_rfl) (by rfl) (by assumption) ?_
      (try simp only [Act.put, List.setIfInBounds_toArray, List.set_cons_zero, List.set_cons_succ])
      refine Reg.skip (i := 13) rfl (by kernel_rfl) (by kernel_rfl) (by kernel_rfl) (by rfl) (by assumption) ?_
      (try simp only [Act.put, List.setIfInBounds_toArray, List.set_cons_zero, List.set_cons_succ])
      refine Reg.skip (i := 14) rfl (by kernel_rfl) (by kernel_rfl) (by kernel_rfl) (by rfl) (by assumption) ?_
      (try simp only [Act.put, List.setIfInBounds_toArray, List.set_cons_zero, List.set_cons_succ])
      refine Reg.take (i := 15) (v := ?v150) rfl (by kernel_rfl) (by kernel_rfl) (by kernel_rfl) (by rfl) ?hv150 (by assumption) ?rest150
      case hv150 => first | (intro w hSw; (try dsimp only at hSw); go_simp; done) | (intro w hSw; (try dsimp only at hSw); go_simp; with_reducible rfl)
      (try simp only [Act.put, List.setIfInBounds_toArray, List.set_cons_zero, List.set_cons_succ])
      refine Reg.done (by kernel_rfl) ?_ _
      clear hHeld m0
      have hS3 := hS.grow (below_drewN (Below.refl _ W2) 1)
      have hM3 : Has W2.drew (w.heap.size + 1) 40 #[.int .i64 k, .int .i64 a, .bool q] := hM
      change Rs w w.heap.size (w.heap.size + 1 + 1) s W2.drew at hS3
      clear hS hM
      generalize W2.drew = W3 at *
      go_wp2_with (first
        | (refine ref_ld rfl _ rfl _ rfl hS3.X (ref_size _) ?_)
        | (refine ref_st rfl _ _ rfl _ _ rfl rfl hS3.Y (ref_size _) rfl (ref_one _) ?_))
      have hK9 := fun xs => kept_row W3 (w.heap.size + 1 + 1) xs
      refine ref_ret rfl (w.heap.size + 1 + 1) rfl (.slice none 0 0) rfl _ (hS3.Y.row _) (ref_size _) rfl ?_
      rw [HR.out]
      exact ⟨none, 0, rfl, Nat.le_refl _, by show 0 ≤ 9223372036854775807; omega, Row.Vals.none_ _, fun x hx => (by cases hx), below_kept hS3.low (hK9 _) hS3.low.size (fun x hx => by simp at hx; omega)⟩
end Go.Proofs.Ytahoiaiknchehaa.Alarm
