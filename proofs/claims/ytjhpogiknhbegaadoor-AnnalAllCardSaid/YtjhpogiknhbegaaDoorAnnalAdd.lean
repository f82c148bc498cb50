/- The landed annal: Add. -/
import Derived.Test.YtjhpogiknhbegaaDoorAnnalLook
import Derived.Test.YtjhpogiknhbegaaDoorRingOutPop
set_option linter.unusedSimpArgs false
set_option linter.unusedVariables false
namespace Go.Proofs.YtjhpogiknhbegaaDoor.Annal
open Go.RowKit
open Alarm (Ot otS noOt ot_cells)
open RingO (Ring Became otV)
set_option maxHeartbeats 2000000 in
theorem add_k (w : World) (b r g q f : Nat) (cs all : List Ot) (o : Ot) (hM : Mid w b r g q f cs (keptA all) (all.length - (keptA all).length) (fun k => countA all (k : Nat))) (hl : all.length + 1 ≤ 1000000) :
    Calls Tryd.prog 20 #[.pointer (some ⟨b, 0, none⟩), .agg #[.int .i64 o.1, .int .i64 o.2.1, .int .i64 o.2.2.1, .int .i64 o.2.2.2]] w fun e w' => e = .returned (.tuple #[]) ∧ (∃ f' cs', Mid w' b r g q f' cs' (keptA (all ++ [o])) ((all ++ [o]).length - (keptA (all ++ [o])).length) (fun k => countA (all ++ [o]) (k : Nat))) ∧ Kept [b, r, g] w w' := by
  obtain ⟨o0, o1, o2, o3⟩ := o
  dsimp only
  have hlt := hM.lt_
  have hX0 := Has.new w 28 #[.int .i64 o0, .int .i64 o1, .int .i64 o2, .int .i64 o3]
  have hM0 := hM.alloc (.cells #[.int .i64 o0, .int .i64 o1, .int .i64 o2, .int .i64 o3] 28)
  have hK0 := (Kept.refl [b, r, g] w).alloc (.cells #[.int .i64 o0, .int .i64 o1, .int .i64 o2, .int .i64 o3] 28)
  have hxb : b ≠ w.heap.size ∧ r ≠ w.heap.size ∧ g ≠ w.heap.size := by omega
  have hkl := kept_len all
  have hks := kept_snoc all (o0, o1, o2, o3)
  have hcn := fun k => count_snoc all (o0, o1, o2, o3) k
  obtain ⟨zs, hzs⟩ : ∃ zs, keptA (all ++ [(o0, o1, o2, o3)]) = zs := ⟨_, rfl⟩
  rw [hzs] at hks ⊢
  rw [List.length_append, List.length_singleton]
  have c0 := hM0.cells.1
  by_cases hlen : all.length < 64
  · rw [if_pos hlen] at hks
    have hrm := RingO.room_nat r g 64 q f cs (keptA all) (64 - all.length) _ hM0.ring (by omega)
    generalize hxx : w.heap.size = x at *
    generalize hW0 : w.alloc (.cells #[.int .i64 o0, .int .i64 o1, .int .i64 o2, .int .i64 o3] 28) = W0 at *
    have hr0 : ¬ (64 - all.length = 0) := by omega
    generalize 64 - all.length = rr at *
    go_enter Tryd.func20, Tryd.ntmps20
    go_wp2_with (go_at_call 28; ((with_reducible refine hrm.mono ?_); rintro e W1' ⟨rfl, kk, rfl⟩))
    have hM1 := hM0.drewN kk
    have hX1 := hX0.drewN kk
    have hK1 := hK0.drewN kk
    have hd : all.length - (keptA all).length = all.length + 1 - zs.length := by rw [hks, List.length_append, List.length_singleton]; omega
    have hx1 : (keptA all).length ≤ 63 := by omega
    clear hM0 hX0 hK0 c0 hrm hM hkl hW0
    generalize hcc : (fun k => countA all (k : Nat)) = cc at *
    generalize all.length - (keptA all).length = d1 at *
    generalize keptA all = xs1 at *
    generalize W0.drewN kk = W1 at *
    refine Reg.begin_ (S := fun W => W.cell? ⟨b, 0, none⟩ = some (.pointer (some ⟨r, 0, none⟩)) ∧ W.cell? ⟨x, 0, none⟩ = some (.int .i64 o0) ∧ W.cell? ⟨x, 1, none⟩ = some (.int .i64 o1) ∧ W.cell? ⟨x, 2, none⟩ = some (.int .i64 o2) ∧ W.cell? ⟨x, 3, none⟩ = some (.int .i64 o3)) (by kernel_rfl) (by exact ⟨hM1.cells.1, hX1.cell 0, hX1.cell 1, hX1.cell 2, hX1.cell 3⟩) (fun hHeld => ?_)
    have hM2 := hM1.drew
    have hX2 := hX1.drew
    have hK2 := hK1.drewN 1
    change Kept _ w W1.drew at hK2
    clear hM1 hX1 hK1
    generalize W1.drew = W2 at *
    refine Reg.take (i := 0) (v := ?v1) rfl (by kernel_rfl) (by kernel_rfl) (by kernel_rfl) (by rfl) ?hv1 (by assumption) ?rest1
    case hv1 => first | (intro w hSw; (try dsimp only at hSw); go_simp; done) | (intro w hSw; (try dsimp only at hSw); go_simp; with_reducible rfl)
    (try simp only [Act.put, List.setIfInBounds_toArray, List.set_cons_zero, List.set_cons_succ])
    refine Reg.take (i := 1) (v := ?v2) rfl (by kernel_rfl) (by kernel_rfl) (by kernel_rfl) (by rfl) ?hv2 (by assumption) ?rest2
    case hv2 => first | (intro w hSw; (try dsimp only at hSw); go_simp; done) | (intro w hSw; (try dsimp only at hSw); go_simp; with_reducible rfl)
    (try simp only [Act.put, List.setIfInBounds_toArray, List.set_cons_zero, List.set_cons_succ])
    refine Reg.take (i := 2) (v := ?v3) rfl (by kernel_rfl) (by kernel_rfl) (by kernel_rfl) (by rfl) ?hv3 (by assumption) ?rest3
    case hv3 => first | (intro w hSw; (try dsimp only at hSw); go_simp; done) | (intro w hSw; (try dsimp only at hSw); go_simp; with_reducible rfl)
    (try simp only [Act.put, List.setIfInBounds_toArray, List.set_cons_zero, List.set_cons_succ])
    refine Reg.take (i := 3) (v := ?v4) rfl (by kernel_rfl) (by kernel_rfl) (by kernel_rfl) (by rfl) ?hv4 (by assumption) ?rest4
    case hv4 => first | (intro w hSw; (try dsimp only at hSw); go_simp; done) | (intro w hSw; (try dsimp only at hSw); go_simp; with_reducible rfl)
    (try simp only [Act.put, List.setIfInBounds_toArray, List.set_cons_zero, List.set_cons_succ])
    refine Reg.take (i := 4) (v := ?v5) rfl (by kernel_rfl) (by kernel_rfl) (by kernel_rfl) (by rfl) ?hv5 (by assumption) ?rest5
    case hv5 => first | (intro w hSw; (try dsimp only at hSw); go_simp; done) | (intro w hSw; (try dsimp only at hSw); go_simp; with_reducible rfl)
    (try simp only [Act.put, List.setIfInBounds_toArray, List.set_cons_zero, List.set_cons_succ])
    refine Reg.call (i := 5) rfl (by kernel_rfl) (by rfl) ?_
    intro K hK
    go_simp
    have hM3 := hM2.alloc (.cells #[.int .i64 o0, .int .i64 o1, .int .i64 o2, .int .i64 o3] 28)
    have hX3 := hX2.alloc (.cells #[.int .i64 o0, .int .i64 o1, .int .i64 o2, .int .i64 o3] 28)
    have hK3 := hK2.alloc (.cells #[.int .i64 o0, .int .i64 o1, .int .i64 o2, .int .i64 o3] 28)
    have hput := RingO.put_any r g 64 q _ _ _ (some ⟨W2.heap.size, 0, none⟩) 1 1 [(o0, o1, o2, o3)] _ hM3.ring (ot_new W2 28 (o0, o1, o2, o3)) (by omega) (by omega) (fun _ y hy => by injection hy with hy; subst hy; have := hM2.lt_; simp; omega)
    rw [List.take_of_length_le (l := [(o0, o1, o2, o3)]) (by simp; omega), ← hks] at hput
    generalize ((min 1 (64 - _) : Nat) : Int) = ri at hput
    refine hK.out _ _ (by exact ⟨hM3.cells.1, hX3.cell 0, hX3.cell 1, hX3.cell 2, hX3.cell 3⟩) (fun hHeld => ?_)
    clear hK K
    (try simp only [Act.put, List.setIfInBounds_toArray, List.set_cons_zero, List.set_cons_succ])
    refine Reg.call (i := 6) rfl (by kernel_rfl) (by rfl) ?_
    intro K hK
    go_simp
    go_at_call 30
    (with_reducible refine hput.mono ?_)
    rintro e W4 ⟨rfl, hb4⟩
    obtain ⟨⟨cs4, hM4⟩, hk4⟩ := hM3.became hb4
    have hX4 := hk4.has hX3 (by simp; exact ⟨Ne.symm hxb.1, Ne.symm hxb.2.1, Ne.symm hxb.2.2⟩)
    have hK4 := hK3.trans hk4
    refine hK.out _ _ (by exact ⟨hM4.cells.1, hX4.cell 0, hX4.cell 1, hX4.cell 2, hX4.cell 3⟩) (fun hHeld => ?_)
    clear hK K
    (try simp only [Act.put, List.setIfInBounds_toArray, List.set_cons_zero, List.set_cons_succ])
    refine Reg.done (by kernel_rfl) ?_ _
    clear hHeld hM2 hX2 hK2 hM3 hX3 hK3 hput hb4 hk4
    have hcd := fun W => counted_k o0 W
    have x0 := hX4.cell 0
    by_cases hkd : 0 ≤ o0 ∧ o0 ≤ 9
    · obtain ⟨n, rfl⟩ := Int.eq_ofNat_of_zero_le hkd.1
      have hn10 : n < 10 := by omega
      have hle : cc n ≤ all.length := by rw [← hcc]; exact count_le all _
      have hn10z : (n : Int) < 10 := by omega
      rw [decide_eq_true hkd] at hcd
      have c2 := hM4.kind n hn10
      have f2 := hM4.head.frozen (2 + n)
      go_wp2_with (go_at_call 25; ((with_reducible refine (hcd _).mono ?_); rintro e w' ⟨rfl, rfl⟩))
      refine Till.begin_ (T := [11]) (S := fun W => W.cell? ⟨x, 0, none⟩ = some (.int .i64 (n : Nat)) ∧ W.cell? ⟨b, 2 + n, none⟩ = some (.int .i64 (cc n : Nat))) (by kernel_rfl) (by exact ⟨x0, c2⟩) (fun hHeld => ?_)
      refine Till.take (i := 0) (v := ?v6) rfl (by kernel_rfl) (by kernel_rfl) (by kernel_rfl) (by kernel_rfl) (by rfl) ?hv6 (by assumption) ?rest6
      case hv6 => first | (intro w hSw; (try dsimp only at hSw); go_simp; done) | (intro w hSw; (try dsimp only at hSw); go_simp; with_reducible rfl)
      (try simp only [Act.put, List.setIfInBounds_toArray, List.set_cons_zero, List.set_cons_succ])
      refine Till.take (i := 1) (v := ?v7) rfl (by kernel_rfl) (by kernel_rfl) (by kernel_rfl) (by kernel_rfl) (by rfl) ?hv7 (by assumption) ?rest7
      case hv7 => first | (intro w hSw; (try dsimp only at hSw); go_simp; done) | (intro w hSw; (try dsimp only at hSw); go_simp; with_reducible rfl)
      (try simp only [Act.put, List.setIfInBounds_toArray, List.set_cons_zero, List.set_cons_succ])
      refine Till.take (i := 2) (v := ?v8) rfl (by kernel_rfl) (by kernel_rfl) (by kernel_rfl) (by kernel_rfl) (by rfl) ?hv8 (by assumption) ?rest8
      case hv8 => first | (intro w hSw; (try dsimp only at hSw); go_simp; done) | (intro w hSw; (try dsimp only at hSw); go_simp; with_reducible rfl)
      (try simp only [Act.put, List.setIfInBounds_toArray, List.set_cons_zero, List.set_cons_succ])
      refine Till.take (i := 3) (v := ?v9) rfl (by kernel_rfl) (by kernel_rfl) (by kernel_rfl) (by kernel_rfl) (by rfl) ?hv9 (by assumption) ?rest9
      case hv9 => first | (intro w hSw; (try dsimp only at hSw); go_simp; done) | (intro w hSw; (try dsimp only at hSw); go_simp; with_reducible rfl)
      (try simp only [Act.put, List.setIfInBounds_toArray, List.set_cons_zero, List.set_cons_succ])
      refine Till.take (i := 4) (v := ?v10) rfl (by kernel_rfl) (by kernel_rfl) (by kernel_rfl) (by kernel_rfl) (by rfl) ?hv10 (by assumption) ?rest10
      case hv10 => first | (intro w hSw; (try dsimp only at hSw); go_simp; done) | (intro w hSw; (try dsimp only at hSw); go_simp; with_reducible rfl)
      (try simp only [Act.put, List.setIfInBounds_toArray, List.set_cons_zero, List.set_cons_succ])
      refine Till.take (i := 5) (v := ?v11) rfl (by kernel_rfl) (by kernel_rfl) (by kernel_rfl) (by kernel_rfl) (by rfl) ?hv11 (by assumption) ?rest11
      case hv11 => first | (intro w hSw; (try dsimp only at hSw); go_simp; done) | (intro w hSw; (try dsimp only at hSw); go_simp; with_reducible rfl)
      (try simp only [Act.put, List.setIfInBounds_toArray, List.set_cons_zero, List.set_cons_succ])
      refine Till.take (i := 6) (v := ?v12) rfl (by kernel_rfl) (by kernel_rfl) (by kernel_rfl) (by kernel_rfl) (by rfl) ?hv12 (by assumption) ?rest12
      case hv12 => first | (intro w hSw; (try dsimp only at hSw); go_simp; done) | (intro w hSw; (try dsimp only at hSw); go_simp; with_reducible rfl)
      (try simp only [Act.put, List.setIfInBounds_toArray, List.set_cons_zero, List.set_cons_succ])
      refine Till.take (i := 7) (v := ?v13) rfl (by kernel_rfl) (by kernel_rfl) (by kernel_rfl) (by kernel_rfl) (by rfl) ?hv13 (by assumption) ?rest13
      case hv13 => first | (intro w hSw; (try dsimp only at hSw); go_simp; done) | (intro w hSw; (try dsimp only at hSw); go_simp; with_reducible rfl)
      (try simp only [Act.put, List.setIfInBounds_toArray, List.set_cons_zero, List.set_cons_succ])
      refine Till.take (i := 8) (v := ?v14) rfl (by kernel_rfl) (by kernel_rfl) (by kernel_rfl) (by kernel_rfl) (by rfl) ?hv14 (by assumption) ?rest14
      case hv14 => first | (intro w hSw; (try dsimp only at hSw); go_simp; done) | (intro w hSw; (try dsimp only at hSw); go_simp; with_reducible rfl)
      (try simp only [Act.put, List.setIfInBounds_toArray, List.set_cons_zero, List.set_cons_succ])
      refine Till.take (i := 9) (v := ?v15) rfl (by kernel_rfl) (by kernel_rfl) (by kernel_rfl) (by kernel_rfl) (by rfl) ?hv15 (by assumption) ?rest15
      case hv15 => first | (intro w hSw; (try dsimp only at hSw); go_simp; done) | (intro w hSw; (try dsimp only at hSw); go_simp; with_reducible rfl)
      (try simp only [Act.put, List.setIfInBounds_toArray, List.set_cons_zero, List.set_cons_succ])
      refine Till.take (i := 10) (v := ?v16) rfl (by kernel_rfl) (by kernel_rfl) (by kernel_rfl) (by kernel_rfl) (by rfl) ?hv16 (by assumption) ?rest16
      case hv16 => first | (intro w hSw; (try dsimp only at hSw); go_simp; done) | (intro w hSw; (try dsimp only at hSw); go_simp; with_reducible rfl)
      (try simp only [Act.put, List.setIfInBounds_toArray, List.set_cons_zero, List.set_cons_succ])
      refine Till.put (i := 11) rfl (by kernel_rfl) (by rfl) (by rfl) ?_
      intro K hK
      go_simp
      refine hK.out _ _ ?_
      clear hK K
      (try simp only [Act.put, List.setIfInBounds_toArray, List.set_cons_zero, List.set_cons_succ])
      refine Till.done (by kernel_rfl) ?_ _
      have hwr : IntKind.i64.wrap ((cc n : Int) + 1) = ((cc n + 1 : Nat) : Int) := (IntWalk.i64_in _ (by omega)).trans (by omega)
      rw [hwr]
      have hM5 := ((hM4.put_ n (cc n + 1)).drewN 1).congr (c' := fun k => countA (all ++ [((n : Int), o1, o2, o3)]) (k : Nat)) (fun k hk => by
        show (if k = n then cc n + 1 else cc k) = _
        rw [hcn, ← hcc]
        by_cases e : k = n
        · rw [if_pos e, if_pos ⟨by omega, by omega, by omega⟩, e]
        · rw [if_neg e, if_neg (fun e2 => e (by omega))])
      have hK5 := (hK4.setCell (p := ⟨b, 2 + n, none⟩) (.inl (by simp)) (.int .i64 (cc n + 1 : Nat))).drewN 1
      go_end0
      exact ⟨rfl, ⟨_, cs4, hd ▸ hM5⟩, hK5⟩
    · rw [decide_eq_false hkd] at hcd
      go_wp2_with (go_at_call 25; ((with_reducible refine (hcd _).mono ?_); rintro e w' ⟨rfl, rfl⟩))
      go_end0
      have h9 := hM4.congr (c' := fun k => countA (all ++ [(o0, o1, o2, o3)]) (k : Nat)) (fun k hk => by
        show cc k = _
        rw [hcn, if_neg (fun e => hkd (by rw [e.1]; exact e.2)), ← hcc])
      exact ⟨rfl, ⟨_, cs4, hd ▸ h9⟩, hK4⟩
  · rw [if_neg hlen] at hks
    have hrm := RingO.room_nat r g 64 q f cs (keptA all) 0 _ hM0.ring (by omega)
    have hpo := fun W (hW : Mid W b r g q f cs (keptA all) (all.length - (keptA all).length) (fun k => countA all (k : Nat))) => RingO.pop_yes r g 64 q f cs (keptA all) W hW.ring (by omega)
    have hd : all.length - (keptA all).length + 1 = all.length + 1 - zs.length := by rw [hks, List.length_append, List.length_singleton, List.length_drop]; omega
    have hx1 : ((keptA all).drop 1).length ≤ 63 := by rw [List.length_drop]; omega
    have hd9 : all.length - (keptA all).length ≤ 1000000 := by omega
    clear hM hkl
    generalize hxx : w.heap.size = x at *
    generalize hW0 : w.alloc (.cells #[.int .i64 o0, .int .i64 o1, .int .i64 o2, .int .i64 o3] 28) = W0 at *
    generalize hcc : (fun k => countA all (k : Nat)) = cc at *
    generalize all.length - (keptA all).length = d0 at *
    generalize (keptA all).drop 1 = xs1 at *
    generalize otV ((keptA all).getD 0 noOt) = ov at *
    generalize keptA all = xs0 at *
    have HD := Lib.hid hd
    have HKS := Lib.hid hks
    clear hd hks
    have hd0z : (d0 : Int) ≤ 1000000 := by omega
    have hd0r : IntKind.i64.wrap ((d0 : Int) + 1) = ((d0 + 1 : Nat) : Int) := (IntWalk.i64_in _ (by omega)).trans (by omega)
    go_enter Tryd.func20, Tryd.ntmps20
    go_wp2_with (first
      | (go_at_call 28; ((with_reducible refine hrm.mono ?_); rintro e W1' ⟨rfl, kk, rfl⟩))
      | (go_at_call 29; ((with_reducible refine (hpo _ (hM0.drewN kk)).mono ?_); rintro e W1' ⟨rfl, hb1⟩; have hMp := ((hM0.drewN kk).became hb1).1; have hKp := ((hM0.drewN kk).became hb1).2; obtain ⟨cs1, hMp⟩ := hMp; have d1c := hMp.cells.2; have d0c := hMp.cells.1; have d1f := hMp.head.frozen 1; have hXp := hKp.has (hX0.drewN kk) (by simp; exact ⟨Ne.symm hxb.1, Ne.symm hxb.2.1, Ne.symm hxb.2.2⟩))))
    have hM1 := hMp.drop_ (d0 + 1)
    have hX1 := hXp.far (p := ⟨b, 1, none⟩) (Ne.symm hxb.1) (.int .i64 (d0 + 1 : Nat))
    have hK1 := ((hK0.drewN kk).trans hKp).setCell (p := ⟨b, 1, none⟩) (.inl (by simp)) (.int .i64 (d0 + 1 : Nat))
    have hd := HD.out
    have hks := HKS.out
    clear hMp hXp hKp hb1 d1c d0c d1f hW0 hM0 hpo hrm hX0 hK0 c0 hd0r hd0z HD HKS
    have he : ((d0 + 1 : Nat) : Int) = (d0 : Int) + 1 := by omega
    rw [he] at hM1 hX1 hK1
    clear he
    generalize W1'.setCell ⟨b, 1, none⟩ (.int .i64 ((d0 : Int) + 1)) = W1 at *
    generalize (f + 1) % 64 = f1 at *
    generalize d0 + 1 = d1 at *
    refine Reg.begin_ (S := fun W => W.cell? ⟨b, 0, none⟩ = some (.pointer (some ⟨r, 0, none⟩)) ∧ W.cell? ⟨x, 0, none⟩ = some (.int .i64 o0) ∧ W.cell? ⟨x, 1, none⟩ = some (.int .i64 o1) ∧ W.cell? ⟨x, 2, none⟩ = some (.int .i64 o2) ∧ W.cell? ⟨x, 3, none⟩ = some (.int .i64 o3)) (by kernel_rfl) (by exact ⟨hM1.cells.1, hX1.cell 0, hX1.cell 1, hX1.cell 2, hX1.cell 3⟩) (fun hHeld => ?_)
    have hM2 := hM1.drew
    have hX2 := hX1.drew
    have hK2 := hK1.drewN 1
    change Kept _ w W1.drew at hK2
    clear hM1 hX1 hK1
    generalize W1.drew = W2 at *
    refine Reg.take (i := 0) (v := ?v17) rfl (by kernel_rfl) (by kernel_rfl) (by kernel_rfl) (by rfl) ?hv17 (by assumption) ?rest17
    case hv17 => first | (intro w hSw; (try dsimp only at hSw); go_simp; done) | (intro w hSw; (try dsimp only at hSw); go_simp; with_reducible rfl)
    (try simp only [Act.put, List.setIfInBounds_toArray, List.set_cons_zero, List.set_cons_succ])
    refine Reg.take (i := 1) (v := ?v18) rfl (by kernel_rfl) (by kernel_rfl) (by kernel_rfl) (by rfl) ?hv18 (by assumption) ?rest18
    case hv18 => first | (intro w hSw; (try dsimp only at hSw); go_simp; done) | (intro w hSw; (try dsimp only at hSw); go_simp; with_reducible rfl)
    (try simp only [Act.put, List.setIfInBounds_toArray, List.set_cons_zero, List.set_cons_succ])
    refine Reg.take (i := 2) (v := ?v19) rfl (by kernel_rfl) (by kernel_rfl) (by kernel_rfl) (by rfl) ?hv19 (by assumption) ?rest19
    case hv19 => first | (intro w hSw; (try dsimp only at hSw); go_simp; done) | (intro w hSw; (try dsimp only at hSw); go_simp; with_reducible rfl)
    (try simp only [Act.put, List.setIfInBounds_toArray, List.set_cons_zero, List.set_cons_succ])
    refine Reg.take (i := 3) (v := ?v20) rfl (by kernel_rfl) (by kernel_rfl) (by kernel_rfl) (by rfl) ?hv20 (by assumption) ?rest20
    case hv20 => first | (intro w hSw; (try dsimp only at hSw); go_simp; done) | (intro w hSw; (try dsimp only at hSw); go_simp; with_reducible rfl)
    (try simp only [Act.put, List.setIfInBounds_toArray, List.set_cons_zero, List.set_cons_succ])
    refine Reg.take (i := 4) (v := ?v21) rfl (by kernel_rfl) (by kernel_rfl) (by kernel_rfl) (by rfl) ?hv21 (by assumption) ?rest21
    case hv21 => first | (intro w hSw; (try dsimp only at hSw); go_simp; done) | (intro w hSw; (try dsimp only at hSw); go_simp; with_reducible rfl)
    (try simp only [Act.put, List.setIfInBounds_toArray, List.set_cons_zero, List.set_cons_succ])
    refine Reg.call (i := 5) rfl (by kernel_rfl) (by rfl) ?_
    intro K hK
    go_simp
    have hM3 := hM2.alloc (.cells #[.int .i64 o0, .int .i64 o1, .int .i64 o2, .int .i64 o3] 28)
    have hX3 := hX2.alloc (.cells #[.int .i64 o0, .int .i64 o1, .int .i64 o2, .int .i64 o3] 28)
    have hK3 := hK2.alloc (.cells #[.int .i64 o0, .int .i64 o1, .int .i64 o2, .int .i64 o3] 28)
    have hput := RingO.put_any r g 64 q _ _ _ (some ⟨W2.heap.size, 0, none⟩) 1 1 [(o0, o1, o2, o3)] _ hM3.ring (ot_new W2 28 (o0, o1, o2, o3)) (by omega) (by omega) (fun _ y hy => by injection hy with hy; subst hy; have := hM2.lt_; simp; omega)
    rw [List.take_of_length_le (l := [(o0, o1, o2, o3)]) (by simp; omega), ← hks] at hput
    generalize ((min 1 (64 - _) : Nat) : Int) = ri at hput
    refine hK.out _ _ (by exact ⟨hM3.cells.1, hX3.cell 0, hX3.cell 1, hX3.cell 2, hX3.cell 3⟩) (fun hHeld => ?_)
    clear hK K
    (try simp only [Act.put, List.setIfInBounds_toArray, List.set_cons_zero, List.set_cons_succ])
    refine Reg.call (i := 6) rfl (by kernel_rfl) (by rfl) ?_
    intro K hK
    go_simp
    go_at_call 30
    (with_reducible refine hput.mono ?_)
    rintro e W4 ⟨rfl, hb4⟩
    obtain ⟨⟨cs4, hM4⟩, hk4⟩ := hM3.became hb4
    have hX4 := hk4.has hX3 (by simp; exact ⟨Ne.symm hxb.1, Ne.symm hxb.2.1, Ne.symm hxb.2.2⟩)
    have hK4 := hK3.trans hk4
    refine hK.out _ _ (by exact ⟨hM4.cells.1, hX4.cell 0, hX4.cell 1, hX4.cell 2, hX4.cell 3⟩) (fun hHeld => ?_)
    clear hK K
    (try simp only [Act.put, List.setIfInBounds_toArray, List.set_cons_zero, List.set_cons_succ])
    refine Reg.done (by kernel_rfl) ?_ _
    clear hHeld hM2 hX2 hK2 hM3 hX3 hK3 hput hb4 hk4
    have hcd := fun W => counted_k o0 W
    have x0 := hX4.cell 0
    by_cases hkd : 0 ≤ o0 ∧ o0 ≤ 9
    · obtain ⟨n, rfl⟩ := Int.eq_ofNat_of_zero_le hkd.1
      have hn10 : n < 10 := by omega
      have hle : cc n ≤ all.length := by rw [← hcc]; exact count_le all _
      have hn10z : (n : Int) < 10 := by omega
      rw [decide_eq_true hkd] at hcd
      have c2 := hM4.kind n hn10
      have f2 := hM4.head.frozen (2 + n)
      go_wp2_with (go_at_call 25; ((with_reducible refine (hcd _).mono ?_); rintro e w' ⟨rfl, rfl⟩))
      refine Till.begin_ (T := [11]) (S := fun W => W.cell? ⟨x, 0, none⟩ = some (.int .i64 (n : Nat)) ∧ W.cell? ⟨b, 2 + n, none⟩ = some (.int .i64 (cc n : Nat))) (by kernel_rfl) (by exact ⟨x0, c2⟩) (fun hHeld => ?_)
      refine Till.take (i := 0) (v := ?v22) rfl (by kernel_rfl) (by kernel_rfl) (by kernel_rfl) (by kernel_rfl) (by rfl) ?hv22 (by assumption) ?rest22
      case hv22 => first | (intro w hSw; (try dsimp only at hSw); go_simp; done) | (intro w hSw; (try dsimp only at hSw); go_simp; with_reducible rfl)
      (try simp only [Act.put, List.setIfInBounds_toArray, List.set_cons_zero, List.set_cons_succ])
      refine Till.take (i := 1) (v := ?v23) rfl (by kernel_rfl) (by kernel_rfl) (by kernel_rfl) (by kernel_rfl) (by rfl) ?hv23 (by assumption) ?rest23
      case hv23 => first | (intro w hSw; (try dsimp only at hSw); go_simp; done) | (intro w hSw; (try dsimp only at hSw); go_simp; with_reducible rfl)
      (try simp only [Act.put, List.setIfInBounds_toArray, List.set_cons_zero, List.set_cons_succ])
      refine Till.take (i := 2) (v := ?v24) rfl (by kernel_rfl) (by kernel_rfl) (by kernel_rfl) (by kernel_rfl) (by rfl) ?hv24 (by assumption) ?rest24
      case hv24 => first | (intro w hSw; (try dsimp only at hSw); go_simp; done) | (intro w hSw; (try dsimp only at hSw); go_simp; with_reducible rfl)
      (try simp only [Act.put, List.setIfInBounds_toArray, List.set_cons_zero, List.set_cons_succ])
      refine Till.take (i := 3) (v := ?v25) rfl (by kernel_rfl) (by kernel_rfl) (by kernel_rfl) (by kernel_rfl) (by rfl) ?hv25 (by assumption) ?rest25
      case hv25 => first | (intro w hSw; (try dsimp only at hSw); go_simp; done) | (intro w hSw; (try dsimp only at hSw); go_simp; with_reducible rfl)
      (try simp only [Act.put, List.setIfInBounds_toArray, List.set_cons_zero, List.set_cons_succ])
      refine Till.take (i := 4) (v := ?v26) rfl (by kernel_rfl) (by kernel_rfl) (by kernel_rfl) (by kernel_rfl) (by rfl) ?hv26 (by assumption) ?rest26
      case hv26 => first | (intro w hSw; (try dsimp only at hSw); go_simp; done) | (intro w hSw; (try dsimp only at hSw); go_simp; with_reducible rfl)
      (try simp only [Act.put, List.setIfInBounds_toArray, List.set_cons_zero, List.set_cons_succ])
      refine Till.take (i := 5) (v := ?v27) rfl (by kernel_rfl) (by kernel_rfl) (by kernel_rfl) (by kernel_rfl) (by rfl) ?hv27 (by assumption) ?rest27
      case hv27 => first | (intro w hSw; (try dsimp only at hSw); go_simp; done) | (intro w hSw; (try dsimp only at hSw); go_simp; with_reducible rfl)
      (try simp only [Act.put, List.setIfInBounds_toArray, List.set_cons_zero, List.set_cons_succ])
      refine Till.take (i := 6) (v := ?v28) rfl (by kernel_rfl) (by kernel_rfl) (by kernel_rfl) (by kernel_rfl) (by rfl) ?hv28 (by assumption) ?rest28
      case hv28 => first | (intro w hSw; (try dsimp only at hSw); go_simp; done) | (intro w hSw; (try dsimp only at hSw); go_simp; with_reducible rfl)
      (try simp only [Act.put, List.setIfInBounds_toArray, List.set_cons_zero, List.set_cons_succ])
      refine Till.take (i := 7) (v := ?v29) rfl (by kernel_rfl) (by kernel_rfl) (by kernel_rfl) (by kernel_rfl) (by rfl) ?hv29 (by assumption) ?rest29
      case hv29 => first | (intro w hSw; (try dsimp only at hSw); go_simp; done) | (intro w hSw; (try dsimp only at hSw); go_simp; with_reducible rfl)
      (try simp only [Act.put, List.setIfInBounds_toArray, List.set_cons_zero, List.set_cons_succ])
      refine Till.take (i := 8) (v := ?v30) rfl (by kernel_rfl) (by kernel_rfl) (by kernel_rfl) (by kernel_rfl) (by rfl) ?hv30 (by assumption) ?rest30
      case hv30 => first | (intro w hSw; (try dsimp only at hSw); go_simp; done) | (intro w hSw; (try dsimp only at hSw); go_simp; with_reducible rfl)
      (try simp only [Act.put, List.setIfInBounds_toArray, List.set_cons_zero, List.set_cons_succ])
      refine Till.take (i := 9) (v := ?v31) rfl (by kernel_rfl) (by kernel_rfl) (by kernel_rfl) (by kernel_rfl) (by rfl) ?hv31 (by assumption) ?rest31
      case hv31 => first | (intro w hSw; (try dsimp only at hSw); go_simp; done) | (intro w hSw; (try dsimp only at hSw); go_simp; with_reducible rfl)
      (try simp only [Act.put, List.setIfInBounds_toArray, List.set_cons_zero, List.set_cons_succ])
      refine Till.take (i := 10) (v := ?v32) rfl (by kernel_rfl) (by kernel_rfl) (by kernel_rfl) (by kernel_rfl) (by rfl) ?hv32 (by assumption) ?rest32
      case hv32 => first | (intro w hSw; (try dsimp only at hSw); go_simp; done) | (intro w hSw; (try dsimp only at hSw); go_simp; with_reducible rfl)
      (try simp only [Act.put, List.setIfInBounds_toArray, List.set_cons_zero, List.set_cons_succ])
      refine Till.put (i := 11) rfl (by kernel_rfl) (by rfl) (by rfl) ?_
      intro K hK
      go_simp
      refine hK.out _ _ ?_
      clear hK K
      (try simp only [Act.put, List.setIfInBounds_toArray, List.set_cons_zero, List.set_cons_succ])
      refine Till.done (by kernel_rfl) ?_ _
      have hwr : IntKind.i64.wrap ((cc n : Int) + 1) = ((cc n + 1 : Nat) : Int) := (IntWalk.i64_in _ (by omega)).trans (by omega)
      rw [hwr]
      have hM5 := ((hM4.put_ n (cc n + 1)).drewN 1).congr (c' := fun k => countA (all ++ [((n : Int), o1, o2, o3)]) (k : Nat)) (fun k hk => by
        show (if k = n then cc n + 1 else cc k) = _
        rw [hcn, ← hcc]
        by_cases e : k = n
        · rw [if_pos e, if_pos ⟨by omega, by omega, by omega⟩, e]
        · rw [if_neg e, if_neg (fun e2 => e (by omega))])
      have hK5 := (hK4.setCell (p := ⟨b, 2 + n, none⟩) (.inl (by simp)) (.int .i64 (cc n + 1 : Nat))).drewN 1
      go_end0
      exact ⟨rfl, ⟨_, cs4, hd ▸ hM5⟩, hK5⟩
    · rw [decide_eq_false hkd] at hcd
      go_wp2_with (go_at_call 25; ((with_reducible refine (hcd _).mono ?_); rintro e w' ⟨rfl, rfl⟩))
      go_end0
      have h9 := hM4.congr (c' := fun k => countA (all ++ [(o0, o1, o2, o3)]) (k : Nat)) (fun k hk => by
        show cc k = _
        rw [hcn, if_neg (fun e => hkd (by rw [e.1]; exact e.2)), ← hcc])
      exact ⟨rfl, ⟨_, cs4, hd ▸ h9⟩, hK4⟩
/-- Where Add's loop stands. -/
def Adding (w : World) (b r g q : Nat) (all os : List Ot) (i : Value) (wr : World) : Prop :=
  ∃ k, k ≤ os.length ∧ i = .int .i64 (k : Nat) ∧ (∃ f cs, Mid wr b r g q f cs (keptA (all ++ os.take k)) ((all ++ os.take k).length - (keptA (all ++ os.take k)).length) (fun j => countA (all ++ os.take k) (j : Nat))) ∧ Kept [b, r, g] w wr
theorem adds_k (w : World) (b : Nat) (S : List Nat) (all : List Ot) (A : Option Addr) (n c : Nat) (os : List Ot) (h : Ann w b S all) (hv : Row.Vals otS w A n os) (hnc : n ≤ c) (hc : c ≤ 9223372036854775807) (hl : all.length + n ≤ 1000000) (hfar : 0 < n → ∀ x, A = some x → x.block ∉ S) :
    Calls Tryd.prog 6 #[.pointer (some ⟨b, 0, none⟩), .slice A n c] w fun e w' => e = .returned (.tuple #[]) ∧ Ann w' b S (all ++ os) ∧ Kept S w w' := by
  obtain ⟨r, g, q, f, cs, rfl, hM, hl1⟩ := h
  have hn := hv.len_
  have hnz : (n : Int) ≤ 1000000 := by omega
  go_enter Tryd.func6, Tryd.ntmps6
  go_wp2
  go_loopw [10] (fun i wr => Adding w b r g q all os i wr) (fun i _ => n - (intOf i).toNat)
  case atStart => exact ⟨0, by omega, rfl, ⟨f, cs, by simpa using hM⟩, Kept.refl _ _⟩
  case round =>
    clear hM
    obtain ⟨k, hk, rfl, ⟨f1, cs1, hM⟩, hK⟩ := hrel
    by_cases hkn : k < n
    · obtain ⟨x, rfl, -⟩ := hv.cells (by omega)
      obtain ⟨x0, x1, x2, x3⟩ := ot_cells (hv.kept hK hfar) k (by omega)
      have hnext : all ++ os.take (k + 1) = all ++ os.take k ++ [os.getD k noOt] := by
        rw [List.append_assoc, List.take_add_one, List.getD_eq_getElem?_getD, List.getElem?_eq_getElem (by omega)]
        rfl
      have hlk : (all ++ os.take k).length ≤ all.length + k := by rw [List.length_append, List.length_take]; omega
      have had := fun W (hW : Mid W b r g q f1 cs1 _ _ _) => add_k W b r g q f1 cs1 (all ++ os.take k) (os.getD k noOt) hW (by omega)
      rw [← hnext] at had
      generalize os.getD k noOt = v at *
      obtain ⟨v0, v1, v2, v3⟩ := v
      dsimp only at x0 x1 x2 x3 had
      have hMa := hM.alloc (.cells #[.int .i64 v0, .int .i64 v1, .int .i64 v2, .int .i64 v3] 28)
      have hKa := hK.alloc (.cells #[.int .i64 v0, .int .i64 v1, .int .i64 v2, .int .i64 v3] 28)
      have hxx := Has.new wr 28 #[.int .i64 v0, .int .i64 v1, .int .i64 v2, .int .i64 v3]
      have hkz : (k : Int) < (n : Int) := by omega
      clear hM hnext
      go_wp2_with (go_at_call 20; ((with_reducible refine (had _ hMa).mono ?_); rintro e W2 ⟨rfl, hM2, hK2⟩))
      go_roundw
      case rel => exact ⟨k + 1, by omega, by go_num, hM2, hKa.trans hK2⟩
      case measure => simp [intOf]; omega
    · obtain rfl : k = n := by omega
      rw [List.take_of_length_le (by omega)] at hM
      go_wp2
      go_end0
      exact ⟨rfl, ⟨r, g, q, f1, cs1, rfl, hM, by rw [List.length_append]; omega⟩, hK⟩
end Go.Proofs.YtjhpogiknhbegaaDoor.Annal
