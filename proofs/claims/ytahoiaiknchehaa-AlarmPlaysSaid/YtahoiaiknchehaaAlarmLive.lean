/- The chapter's example of layer 23: so it is; a law on an alarm that no call made. -/
import Derived.Test.YtahoiaiknchehaaAlarmKit
import Derived.Deep.DeepMust
import Derived.Deep.DeepCutAuto
set_option linter.unusedSimpArgs false
set_option linter.unusedVariables false
namespace Go.Proofs.Ytahoiaiknchehaa.Alarm
open Go.RowKit
theorem neq_ot (W : World) (a b c d a' b' c' d' : Int) : (binOp .neq 53 (.agg #[.int .i64 a, .int .i64 b, .int .i64 c, .int .i64 d]) (.agg #[.int .i64 a', .int .i64 b', .int .i64 c', .int .i64 d'])).run Try.prog W = .ok (.bool (!decide (a = a' ∧ b = b' ∧ c = c' ∧ d = d'))) W := by
  have ht : Try.prog.underlying 53 = some (.struct (Try.prog.fieldsOf 53)) := by kernel_rfl
  have hst : Try.prog.stoodInHeld 53 = false := by kernel_rfl
  rw [run_neq_struct, run_equalIn_agg W 9999 53 _ _ ht hst]
  simp only [Program.fieldsOf, Try.underlying53]
  simp [go_sem, Op.eqFields]
  by_cases h1 : a = a' <;> by_cases h2 : b = b' <;> by_cases h3 : c = c' <;> by_cases h4 : d = d' <;> simp [h1, h2, h3, h4]
theorem guard_ot (W : World) (x y : Operand) (a b c d a' b' c' d' : Int) : (eqGuard .neq 53 x y (.agg #[.int .i64 a, .int .i64 b, .int .i64 c, .int .i64 d]) (.agg #[.int .i64 a', .int .i64 b', .int .i64 c', .int .i64 d'])).run Try.prog W = .ok () W := run_eqGuard_agg W _ _ _ _ _ _ (by kernel_rfl)
theorem same_yes (A B : Option Addr) (n c d : Nat) (ys : List Ot) (w : World) (hv : Row.Vals otS w A n ys) (hu : Row.Vals otS w B n ys) (hn : n ≤ 1000000) :
    Calls Try.prog 15 #[.slice A n c, .slice B n d] w fun e w' => e = .returned (.bool true) ∧ ∃ z, w' = w.drewN z := by
  go_enter Try.func15, Try.ntmps15
  go_wp2
  go_loopw [5] (fun i wr => (∃ k : Nat, k ≤ n ∧ i = .int .i64 (k : Nat)) ∧ ∃ z, wr = w.drewN z) (fun i _ => n - (intOf i).toNat)
  case atStart => exact ⟨⟨0, by omega, rfl⟩, 0, rfl⟩
  case round =>
    obtain ⟨⟨k, hk, rfl⟩, z, rfl⟩ := hrel
    by_cases hlt : k < n
    · obtain ⟨x, rfl, _⟩ := hv.cells (by omega)
      obtain ⟨y, rfl, _⟩ := hu.cells (by omega)
      obtain ⟨x0, x1, x2, x3⟩ := ot_cells hv k hlt
      obtain ⟨y0, y1, y2, y3⟩ := ot_cells hu k hlt
      generalize (ys.getD k noOt).1 = a at *
      generalize (ys.getD k noOt).2.1 = b at *
      generalize (ys.getD k noOt).2.2.1 = q at *
      generalize (ys.getD k noOt).2.2.2 = r at *
      have hg := fun (W : World) (x y : Operand) => guard_ot W x y a b q r a b q r
      have hc : ∀ W : World, (binOp .neq 53 (.agg #[.int .i64 a, .int .i64 b, .int .i64 q, .int .i64 r]) (.agg #[.int .i64 a, .int .i64 b, .int .i64 q, .int .i64 r])).run Try.prog W = .ok (.bool false) W := fun W => by rw [neq_ot]; simp
      clear hu hv
      go_wp2
      go_quiet (fail)
      go_wp2
      go_roundw
      case rel => exact ⟨⟨k + 1, by omega, by go_num⟩, _, by first | rfl | rw [World.drewN_drewN]⟩
      case measure => simp [intOf]; omega
    · obtain rfl : k = n := by omega
      clear hu hv
      go_wp2
      go_ret
      exact ⟨rfl, z, rfl⟩
def liS (a : Int) : One → Bool → St := fun o q => ⟨100, noOne, o, noOne, noOne, noOne, 0, q⟩
theorem li1 : condT (st0 100) (2, 100, true) = (⟨100, noOne, ⟨true, true, false, false, 100⟩, noOne, noOne, noOne, 0, false⟩, [(2, 100, 2, 0)]) := by kernel_rfl
theorem li2 : tickT ⟨100, noOne, ⟨true, true, false, false, 100⟩, noOne, noOne, noOne, 0, false⟩ 100 [] = (⟨100, noOne, ⟨true, true, false, false, 100⟩, noOne, noOne, noOne, 0, true⟩, [(7, 100, 0, 1)]) := by kernel_rfl
theorem li3 : condT ⟨100, noOne, ⟨true, true, false, false, 100⟩, noOne, noOne, noOne, 0, true⟩ (2, 200, false) = (⟨100, noOne, ⟨false, true, false, false, 100⟩, noOne, noOne, noOne, 0, true⟩, [(4, 200, 2, 0)]) := by kernel_rfl
theorem li4 : tickT ⟨100, noOne, ⟨false, true, false, false, 100⟩, noOne, noOne, noOne, 0, true⟩ 201 [(0, 1, 0)] = (⟨100, noOne, noOne, noOne, noOne, noOne, 0, false⟩, [(5, 201, 2, 0), (3, 201, 2, 0), (7, 201, 0, 0)]) := by kernel_rfl
set_option maxHeartbeats 2000000 in
theorem live_k {Alm : World → Nat → St → Prop} (K : AlmKit Alm) (w : World) : Calls Try.prog 9 #[] w fun e w' => e = .returned (.bool true) ∧ Below w.heap.size w w' := by
  have hInfo : (Try.prog.info? 53).map (fun i => (i.zero, i.size, i.bytes)) = some (some (.agg #[.int .i64 0, .int .i64 0, .int .i64 0, .int .i64 0]), 4, 32) := by kernel_rfl
  have HInfo := Lib.hid hInfo
  clear hInfo
  have hnew := fun W => K.new_yes W 100 (by omega)
  go_enter Try.func9, Try.ntmps9
  go_upto_region 4 with (go_at_call 8; ((with_reducible refine (hnew _).mono ?_); rintro e W1 ⟨b, rfl, hP, hfar, hB1⟩))
  have hM1 : Mr Alm w b (st0 100) W1 := ⟨hP, hB1, hfar⟩
  clear hP hfar hB1 hnew
  have hc1 := Mr.cond_one K hM1 40 (2, 100, true) 1
  rw [li1] at hc1
  go_upto_region 5 with (go_at_call 10; ((with_reducible refine hc1.mono ?_); rintro e W2 ⟨V2, rfl, hO2, hM2, hK2⟩; obtain ⟨A2, c2, rfl, _, _, _, _, _⟩ := Row.Vals.own hO2))
  have hR2 : Rw Alm w b W1.heap.size ⟨100, noOne, ⟨true, true, false, false, 100⟩, noOne, noOne, noOne, 0, false⟩ _ [(2, 100, 2, 0)] W2 := ⟨hM2, hO2, K.lt hM1.alm, hK2.size⟩
  clear hO2 hK2 hc1 hM1
  generalize W1.heap.size = base at *
  have hc2 := Mr.tick_none K hM2 100 0
  rw [li2] at hc2
  go_upto_region 6 with (first
    | (go_at_call 12; ((with_reducible refine hc2.mono ?_); rintro e W3 ⟨V3, rfl, hO3, hM3, hK3⟩; obtain ⟨A3, c3, rfl, _, _, hV3, _, _⟩ := Row.Vals.own hO3; have hR3 := hR2.pushed hM3 hK3; clear hO3 hK3 hM3 hc2 hR2 hM2))
    | (at_builtin; refine Row.wpList_append (S := otS) rfl (.tmp 14) (.tmp 16) _ rfl base 53 _ 32 (by omega) Try.underlying37 HInfo.out (by kernel_rfl) _ _ _ rfl hR3.own _ _ _ _ rfl hV3 (by decide) hR3.hi ?_; intro V4 W4 hO4 hg4 hat4; have hR4 := Rw.grown K hR3 hO4 hg4; obtain ⟨A4, c4, rfl, _, _, _, _, _⟩ := Row.Vals.own hO4; clear hO4 hg4 hat4 hR3 hV3))
  have hc3 := Mr.cond_one K hR4.mr 40 (2, 200, false) 1
  rw [li3] at hc3
  go_upto_region 7 with (first
    | (go_at_call 10; ((with_reducible refine hc3.mono ?_); rintro e W5 ⟨V5, rfl, hO5, hM5, hK5⟩; obtain ⟨A5, c5, rfl, _, _, hV5, _, _⟩ := Row.Vals.own hO5; have hR5 := hR4.pushed hM5 hK5; clear hO5 hK5 hM5 hc3 hR4))
    | (at_builtin; refine Row.wpList_append (S := otS) rfl (.tmp 18) (.tmp 22) _ rfl base 53 _ 32 (by omega) Try.underlying37 HInfo.out (by kernel_rfl) _ _ _ rfl hR5.own _ _ _ _ rfl hV5 (by decide) hR5.hi ?_; intro V6 W6 hO6 hg6 hat6; have hR6 := Rw.grown K hR5 hO6 hg6; obtain ⟨A6, c6, rfl, _, _, _, _, _⟩ := Row.Vals.own hO6; clear hO6 hg6 hat6 hR5 hV5))
  have hc4 := Mr.tick_one K hR6.mr 201 47 (0, 1, 0) 1
  rw [li4] at hc4
  go_upto_region 8 with (first
    | (go_at_call 12; ((with_reducible refine hc4.mono ?_); rintro e W7 ⟨V7, rfl, hO7, hM7, hK7⟩; obtain ⟨A7, c7, rfl, _, _, hV7, _, _⟩ := Row.Vals.own hO7; have hR7 := hR6.pushed hM7 hK7; clear hO7 hK7 hM7 hc4 hR6))
    | (at_builtin; refine Row.wpList_append (S := otS) rfl (.tmp 24) (.tmp 28) _ rfl base 53 _ 32 (by omega) Try.underlying37 HInfo.out (by kernel_rfl) _ _ _ rfl hR7.own _ _ _ _ rfl hV7 (by decide) hR7.hi ?_; intro V8 W8 hO8 hg8 hat8; have hR8 := Rw.grown K hR7 hO8 hg8; obtain ⟨A8, c8, rfl, _, _, hV8, _, _⟩ := Row.Vals.own hO8; clear hO8 hg8 hat8 hR7 hV7))
  have hsa := fun W B hv hu => same_yes A8 B 6 c8 6 [(2, 100, 2, 0), (7, 100, 0, 1), (4, 200, 2, 0), (5, 201, 2, 0), (3, 201, 2, 0), (7, 201, 0, 0)] W hv hu (by omega)
  have hVl : Row.Vals otS (W8.alloc (.cells (Row.flat otS [(2, 100, 2, 0), (7, 100, 0, 1), (4, 200, 2, 0), (5, 201, 2, 0), (3, 201, 2, 0), (7, 201, 0, 0)]).toArray 53)) (some ⟨W8.heap.size, 0, none⟩) 6 [(2, 100, 2, 0), (7, 100, 0, 1), (4, 200, 2, 0), (5, 201, 2, 0), (3, 201, 2, 0), (7, 201, 0, 0)] := Row.Vals.has (S := otS) (ys := [(2, 100, 2, 0), (7, 100, 0, 1), (4, 200, 2, 0), (5, 201, 2, 0), (3, 201, 2, 0), (7, 201, 0, 0)]) (tl := []) (Has.new W8 _ _)
  have hV9 := hV8.alloc (.cells (Row.flat otS [(2, 100, 2, 0), (7, 100, 0, 1), (4, 200, 2, 0), (5, 201, 2, 0), (3, 201, 2, 0), (7, 201, 0, 0)]).toArray 53)
  have hM9 := Mr.alloc K hR8.mr (.cells (Row.flat otS [(2, 100, 2, 0), (7, 100, 0, 1), (4, 200, 2, 0), (5, 201, 2, 0), (3, 201, 2, 0), (7, 201, 0, 0)]).toArray 53)
  have hs9 := hsa _ _ hV9 hVl
  clear hR8 hV8 hsa
  go_wp2_with (go_at_call 15; ((refine Calls.mono (by exact hs9) ?_); rintro e W9 ⟨rfl, z, rfl⟩))
  go_ret
  exact ⟨rfl, (Mr.drewN K hM9 z).below⟩
set_option maxHeartbeats 1000000 in
theorem nobody_k {Alm : World → Nat → St → Prop} (K : AlmKit Alm) (m : Cd) (o : Or) (k : Int) (w : World) : Calls Try.prog 7 #[.agg #[.int .i64 m.1, .int .i64 m.2.1, .bool m.2.2], .agg #[.int .i64 o.1, .int .i64 o.2.1, .int .i64 o.2.2], .int .i64 k] w fun e w' => e = .returned (.bool true) ∧ Below w.heap.size w w' := by
  have hli := fun W => live_k K W
  obtain ⟨m1, m2, m3⟩ := m
  obtain ⟨o1, o2, o3⟩ := o
  dsimp only
  have hB := (Below.refl w.heap.size w).alloc (Nat.le_refl _) (.cells #[.int .i64 m1, .int .i64 m2, .bool m3] 40)
  have hH := Has.new w 40 #[.int .i64 m1, .int .i64 m2, .bool m3]
  have hB2 := hB.alloc hB.size (.cells #[.int .i64 o1, .int .i64 o2, .int .i64 o3] 47)
  have hO := Has.new (w.alloc (.cells #[.int .i64 m1, .int .i64 m2, .bool m3] 40)) 47 #[.int .i64 o1, .int .i64 o2, .int .i64 o3]
  have hH2 := hH.alloc (.cells #[.int .i64 o1, .int .i64 o2, .int .i64 o3] 47)
  go_enter Try.func7, Try.ntmps7
  go_upto_region 2 with (fail)
  have c0 := hH2.cell 0
  have c1 := hH2.cell 1
  have c2 := hH2.cell 2
  have d0 := hO.cell 0
  have d1 := hO.cell 1
  have d2 := hO.cell 2
  rw [show (w.alloc (.cells #[.int .i64 m1, .int .i64 m2, .bool m3] 40)).heap.size = w.heap.size + 1 from by simp] at d0 d1 d2
  have hB3 := hB2.alloc hB2.size (.cells #[.int .i64 m1, .int .i64 m2, .bool m3, .int .i64 m1, .int .i64 m2, .bool m3] 40)
  have hB4 := hB3.alloc hB3.size (.cells #[.int .i64 o1, .int .i64 o2, .int .i64 o3] 47)
  clear hB hH hO hH2 hB2 hB3
  go_wp2_with (first
    | (go_at_call 10; ((with_reducible refine (K.no_conds _ _ _ _).mono ?_); rintro e W2 ⟨rfl, rfl⟩))
    | (go_at_call 12; ((with_reducible refine (K.no_tick _ _ _ _ _).mono ?_); rintro e W2 ⟨rfl, rfl⟩))
    | (go_at_call 17; ((with_reducible refine (K.no_stands _ _).mono ?_); rintro e W3 ⟨rfl, rfl⟩))
    | (go_at_call 18; ((with_reducible refine (K.no_high _ _).mono ?_); rintro e W3 ⟨rfl, rfl⟩))
    | (go_at_call 19; ((with_reducible refine (K.no_acked _ _).mono ?_); rintro e W3 ⟨rfl, rfl⟩))
    | (go_at_call 20; ((with_reducible refine (K.no_sounds _).mono ?_); rintro e W3 ⟨rfl, rfl⟩))
    | (go_at_call 14; ((with_reducible refine (K.no_clone _).mono ?_); rintro e W3 ⟨rfl, rfl⟩))
    | (go_at_call 9; ((with_reducible refine (hli _).mono ?_); rintro e W5 ⟨rfl, hB5⟩)))
  go_ret
  exact ⟨rfl, hB4.trans (hB5.mono hB4.size)⟩
end Go.Proofs.Ytahoiaiknchehaa.Alarm
