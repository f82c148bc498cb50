/- The reference of layer 23: order. -/
import Derived.Test.YtahoiaiknchehaaAlarmRefCond
import Derived.Test.YtahoiaiknchehaaAlarmSteps
import Derived.Deep.DeepMust
set_option linter.unusedSimpArgs false
set_option linter.unusedVariables false
namespace Go.Proofs.Ytahoiaiknchehaa.Alarm
open Go.RowKit
/-- Where a call stands: its state, its answer, a block beside them, a row of outs of its own. -/
structure Rl (w : World) (base g y : Nat) (s : St) (V : Value) (E : List Ot) (W : World) : Prop where
  rs : Rs w g y s W
  own : W.ownsRow base 53 4 V E.length (Row.flat otS E)
  lt : g < base ∧ y < base
  hi : w.heap.size ≤ base ∧ base ≤ W.heap.size
section
variable {w W W' : World} {base g y : Nat} {s s' : St} {V V' : Value} {E F : List Ot}
theorem Rl.grow (h : Rl w base g y s V E W) (hB : Below W.heap.size W W') : Rl w base g y s V E W' :=
  ⟨h.rs.grow hB, own_kept h.own (Kept.of_below (S := []) hB) (by simp), h.lt, h.hi.1, Nat.le_trans h.hi.2 hB.size⟩
/-- Its state anew. -/
theorem Rl.turn (h : Rl w base g y s V E W) (hR : Rs w g y s' W') (hK : Kept [g] W W') : Rl w base g y s' V E W' :=
  ⟨hR, own_kept h.own hK (fun k hk => by simp at hk; have := h.lt; omega), h.lt, h.hi.1, Nat.le_trans h.hi.2 hK.size⟩
theorem Rl.grown (h : Rl w base g y s V E W) (ho : W'.ownsRow base 53 4 V' (E.length + F.length) (Row.flat otS (E ++ F))) (hg : W.grownBy W' V.ownBlock) : Rl w base g y s V' (E ++ F) W' := by
  have hK := Kept.of_grown hg
  have h1 := own_in h.own
  exact ⟨⟨hK.has h.rs.X (fun hk => by have := h1 _ hk; have := h.lt; omega), hK.has h.rs.Y (fun hk => by have := h1 _ hk; have := h.lt; omega), below_kept h.rs.low hK h.rs.low.size (fun k hk => by have := h1 k hk; have := h.hi; omega), h.rs.hi, h.rs.ne_⟩, by rw [List.length_append]; exact ho, h.lt, h.hi.1, Nat.le_trans h.hi.2 hK.size⟩
theorem Rl.put1 (h : Rl w base g y s V E W) (k m : Nat) (q : Bool) (o : One) (hk : 1 ≤ k ∧ k ≤ 5) (hm : m < 5) (he : oneC o = (oneC (s.get k)).set m (.bool q)) : Rl w base g y (s.set k o) V E (W.setCell ⟨g, 1 + k * 5 + m, none⟩ (.bool q)) :=
  h.turn (h.rs.put1 k m q o hk hm he) ((Kept.refl [g] W).setCell (p := ⟨g, 1 + k * 5 + m, none⟩) (.inl (by simp)) _)
theorem Rl.put5 (h : Rl w base g y s V E W) (k : Nat) (o : One) (hk : 1 ≤ k ∧ k ≤ 5) : Rl w base g y (s.set k o) V E (((((W.setCell ⟨g, 1 + k * 5, none⟩ (.bool o.on)).setCell ⟨g, 1 + k * 5 + 1, none⟩ (.bool o.stands)).setCell ⟨g, 1 + k * 5 + 2, none⟩ (.bool o.acked)).setCell ⟨g, 1 + k * 5 + 3, none⟩ (.bool o.esc)).setCell ⟨g, 1 + k * 5 + 4, none⟩ (.int .i64 o.since)) :=
  h.turn (h.rs.put5 k o hk) ((((((Kept.refl [g] W).setCell (p := ⟨g, 1 + k * 5, none⟩) (.inl (by simp)) _).setCell (p := ⟨g, 1 + k * 5 + 1, none⟩) (.inl (by simp)) _).setCell (p := ⟨g, 1 + k * 5 + 2, none⟩) (.inl (by simp)) _).setCell (p := ⟨g, 1 + k * 5 + 3, none⟩) (.inl (by simp)) _).setCell (p := ⟨g, 1 + k * 5 + 4, none⟩) (.inl (by simp)) _)
/-- The answer. -/
theorem Rl.ans {cs : Array Value} (h : Rl w base g y s V E W) (hcs : cs = refC s) : ∃ A d, V = .slice A E.length d ∧ Has (W.setRow y cs) y 32 (refC s) ∧ E.length ≤ d ∧ d ≤ 9223372036854775807 ∧ Row.Vals otS (W.setRow y cs) A E.length E ∧ (∀ x, A = some x → w.heap.size ≤ x.block) ∧ Below w.heap.size w (W.setRow y cs) := by
  subst hcs
  obtain ⟨A, d, hV, h1, h2, h3, h4, _⟩ := Row.Vals.own h.own
  have hK := kept_row W y (refC s)
  exact ⟨A, d, hV, h.rs.Y.row _, h1, h2, h3.kept hK (fun _ x hx hk => by have := (h4 x hx).1; have := h.lt; simp at hk; omega), fun x hx => Nat.le_trans h.hi.1 (h4 x hx).1, below_kept h.rs.low hK h.rs.low.size (fun k hk => by simp at hk; have := h.rs.hi; omega)⟩
end
set_option maxRecDepth 100000 in
set_option maxHeartbeats 4000000 in
theorem reforder_any (s : St) (at_ : Int) (o : Or) (hat : 0 ≤ at_ ∧ at_ ≤ 1099511627776) (w : World) : Calls Try.prog 31 #[refV s, .int .i64 at_, .agg #[.int .i64 o.1, .int .i64 o.2.1, .int .i64 o.2.2]] w (RAns w (orderT at_ s o)) := by
  have hInfo : (Try.prog.info? 53).map (fun i => (i.zero, i.size, i.bytes)) = some (some (.agg #[.int .i64 0, .int .i64 0, .int .i64 0, .int .i64 0]), 4, 32) := by kernel_rfl
  have HInfo := Lib.hid hInfo
  clear hInfo
  obtain ⟨oa, k, n⟩ := o
  dsimp only
  have hX1 := Has.new w 32 (refC s)
  have hM1 : Has ((w.alloc (.cells (refC s) 32)).alloc (.cells #[.int .i64 oa, .int .i64 k, .int .i64 n] 47)) (w.heap.size + 1) 47 #[.int .i64 oa, .int .i64 k, .int .i64 n] := by simpa using Has.new (w.alloc (.cells (refC s) 32)) 47 #[.int .i64 oa, .int .i64 k, .int .i64 n]
  have hY : Has (((w.alloc (.cells (refC s) 32)).alloc (.cells #[.int .i64 oa, .int .i64 k, .int .i64 n] 47)).alloc (.cells zeroR 32)) (w.heap.size + 1 + 1) 32 zeroR := by simpa using Has.new ((w.alloc (.cells (refC s) 32)).alloc (.cells #[.int .i64 oa, .int .i64 k, .int .i64 n] 47)) 32 zeroR
  have hB : Below w.heap.size w (((w.alloc (.cells (refC s) 32)).alloc (.cells #[.int .i64 oa, .int .i64 k, .int .i64 n] 47)).alloc (.cells zeroR 32)) := (((Below.refl w.heap.size w).alloc (Nat.le_refl _) _).alloc (by simp) _).alloc (by simp; omega) _
  have hX := (hX1.alloc (.cells #[.int .i64 oa, .int .i64 k, .int .i64 n] 47)).alloc (.cells zeroR 32)
  have hM := hM1.alloc (.cells zeroR 32)
  obtain ⟨W2, hW2⟩ : ∃ W2, ((w.alloc (.cells (refC s) 32)).alloc (.cells #[.int .i64 oa, .int .i64 k, .int .i64 n] 47)).alloc (.cells zeroR 32) = W2 := ⟨_, rfl⟩
  rw [hW2] at hX hM hY hB
  have hS : Rs w w.heap.size (w.heap.size + 1 + 1) s W2 := ⟨hX, hY, hB, ⟨Nat.le_refl _, by omega⟩, by omega⟩
  have hR0 : Rl w W2.heap.size w.heap.size (w.heap.size + 1 + 1) s (.slice none 0 0) [] W2 := ⟨hS, Row.own_none (S := otS) _ _ _, ⟨hX.lt, hY.lt⟩, hB.size, Nat.le_refl _⟩
  have hm2 : w.heap.size + 1 < W2.heap.size := hM.lt
  unfold zeroR at hW2
  clear hX1 hM1 hX hY hB
  unfold refV
  have m1 : W2.cell? ⟨w.heap.size + 1, 1, none⟩ = some (.int .i64 k) := hM.cell 1
  have m2 : W2.cell? ⟨w.heap.size + 1, 2, none⟩ = some (.int .i64 n) := hM.cell 2
  by_cases hk1 : k = 1
  · subst hk1
    have HR := Lib.hid (order_ack at_ s (o := (oa, 1, n)) rfl)
    clear hat
    go_enter Try.func31, Try.ntmps31
    go_upto_region 1 with (fail)
    clear hW2
    go_wp2
    clear hS m1 m2
    generalize W2.heap.size = base at *
    go_loopw [8, 9] (fun V i wr => ∃ k : Nat, 1 ≤ k ∧ k ≤ 6 ∧ i = .int .i64 (k : Nat) ∧ Has wr (w.heap.size + 1) 47 #[.int .i64 oa, .int .i64 1, .int .i64 n] ∧ Rl w base w.heap.size (w.heap.size + 1 + 1) (overT (ack1 at_) s k).1 V (overT (ack1 at_) s k).2 wr) (fun _ i _ => 6 - (intOf i).toNat)
    case atStart => exact ⟨1, by omega, by omega, rfl, hM, by rw [over_zero _ _ (ack_zero at_ s)]; exact hR0⟩
    case round =>
      clear hR0 hM
      obtain ⟨j, hj1, hj6, rfl, hM, hR⟩ := hrel
      have m1 : wr.cell? ⟨w.heap.size + 1, 1, none⟩ = some (.int .i64 1) := hM.cell 1
      by_cases hj5 : j ≤ 5
      · have hj : 1 ≤ j ∧ j ≤ 5 := ⟨hj1, hj5⟩
        have hjn : j < 6 := by omega
        have hj7 : 0 ≤ (j : Int) ∧ (j : Int) < 6 := by omega
        have hj8 : (j : Int) ≤ 5 := by omega
        have HE := Lib.hid (show (overT (ack1 at_) s j).2.length ≤ 12 by
          have h1 := over_len (ack1 at_) 2 (ack1_len at_) s j
          omega)
        have HN := Lib.hid (fun s2 F2 => over_next (ack1 at_) s j (s2 := s2) (F2 := F2) rfl rfl)
        generalize (overT (ack1 at_) s j).2 = F at *
        generalize (overT (ack1 at_) s j).1 = s1 at *
        have HJ := Lib.hid hj
        clear hj1 hj6 hj5
        obtain ⟨c0, c1, c2, c3, c4⟩ := rpart hR.rs.X hjn
        obtain ⟨f0, f1, f2, f3, f4⟩ := hR.rs.partF j
        by_cases hw : waits (s1.get j) = true
        · obtain ⟨hw1, hw2⟩ := waits_iff.1 hw
          rw [hw1] at c1
          rw [hw2] at c2
          have hon : ∀ W X Y, Rl w base w.heap.size (w.heap.size + 1 + 1) (s1.set j { s1.get j with acked := true }) X Y W → W.cell? ⟨w.heap.size, 1 + j * 5, none⟩ = some (.bool (s1.get j).on) := fun W X Y hW => by
            have h9 := (rpart hW.rs.X hjn).1
            rwa [get_set _ _ _ hj] at h9
          have HON := Lib.hid hon
          have HP5 := Lib.hid (fun W X Y (hW : Rl w base w.heap.size (w.heap.size + 1 + 1) (s1.set j { s1.get j with acked := true }) X Y W) => hW.put5 j noOne hj)
          have HPT := Lib.hid (fun W X Y (hW : Rl w base w.heap.size (w.heap.size + 1 + 1) (s1.set j { s1.get j with acked := true }) X Y W) => rpart hW.rs.X hjn)
          have hR1 := hR.put1 j 2 true { s1.get j with acked := true } hj (by omega) rfl
          have hM1 := hM.far (p := ⟨w.heap.size, 1 + j * 5 + 2, none⟩) (by show w.heap.size + 1 ≠ w.heap.size; omega) (.bool true)
          by_cases ho : (s1.get j).on = true
          · have HN2 := Lib.hid (HN.out _ _ (ack1_on at_ hw ho))
            rw [ho] at HON
            clear hon hw hw1 hw2 ho hR hM HN HP5 HPT
            go_upto_region 10 with (fail)
            clear c0 c1 c2 c3 c4 f0 f1 f2 f3 f4 m1
            generalize wr.setCell ⟨w.heap.size, 1 + j * 5 + 2, none⟩ (.bool true) = W3 at *
            generalize s1.set j { s1.get j with acked := true } = s2 at *
            have hRa := hR1.grow ((Below.refl _ W3).alloc (Nat.le_refl _) (.cells #[.int .i64 5, .int .i64 at_, .int .i64 (j : Nat), .int .i64 0] 53))
            have hMa := hM1.alloc (.cells #[.int .i64 5, .int .i64 at_, .int .i64 (j : Nat), .int .i64 0] 53)
            have hVa := ot_one W3 53 (5, at_, (j : Int), 0)
            dsimp only at hVa
            clear hR1 hM1
            go_upto_region 11 with (at_builtin; refine Row.wpList_append (S := otS) rfl (.tmp 60) (.tmp 64) _ rfl base 53 _ 32 (by omega) Try.underlying37 HInfo.out (by kernel_rfl) _ _ _ rfl hRa.own _ 1 1 [(5, at_, (j : Int), 0)] rfl hVa (by have := HE.out; omega) hRa.hi.2 ?_; intro V5 W5 hO5 hg5 hat5; have hR2 := hRa.grown hO5 hg5; have hM2 := (Kept.of_grown hg5).has hMa (own_apart hRa.own hm2); clear hO5 hg5 hat5 hRa hMa hVa)
            have d0 := HON.out _ _ _ hR2
            go_wp2
            go_roundw
            case rel => exact ⟨j + 1, by have := HJ.out; omega, by have := HJ.out; omega, by go_num, hM2, (by rw [HN2.out]; exact hR2)⟩
            case measure => have := HJ.out; simp [intOf]; omega
          · rw [Bool.not_eq_true] at ho
            have HN2 := Lib.hid (HN.out _ _ (ack1_clr at_ hw ho))
            rw [ho] at HON
            rw [set_set] at HP5
            clear hon hw hw1 hw2 ho hR hM HN
            unfold noOne at HP5
            dsimp only at HP5
            go_upto_region 10 with (fail)
            clear c0 c1 c2 c3 c4 f0 f1 f2 f3 f4 m1
            generalize wr.setCell ⟨w.heap.size, 1 + j * 5 + 2, none⟩ (.bool true) = W3 at *
            generalize s1.set j { s1.get j with acked := true } = s2 at *
            have hRa := hR1.grow ((Below.refl _ W3).alloc (Nat.le_refl _) (.cells #[.int .i64 5, .int .i64 at_, .int .i64 (j : Nat), .int .i64 0] 53))
            have hMa := hM1.alloc (.cells #[.int .i64 5, .int .i64 at_, .int .i64 (j : Nat), .int .i64 0] 53)
            have hVa := ot_one W3 53 (5, at_, (j : Int), 0)
            dsimp only at hVa
            clear hR1 hM1
            go_upto_region 11 with (at_builtin; refine Row.wpList_append (S := otS) rfl (.tmp 60) (.tmp 64) _ rfl base 53 _ 32 (by omega) Try.underlying37 HInfo.out (by kernel_rfl) _ _ _ rfl hRa.own _ 1 1 [(5, at_, (j : Int), 0)] rfl hVa (by have := HE.out; omega) hRa.hi.2 ?_; intro V5 W5 hO5 hg5 hat5; have hR2 := hRa.grown hO5 hg5; have hM2 := (Kept.of_grown hg5).has hMa (own_apart hRa.own hm2); clear hO5 hg5 hat5 hRa hMa hVa)
            have d0 := HON.out _ _ _ hR2
            obtain ⟨-, d1, d2, d3, d4⟩ := HPT.out _ _ _ hR2
            obtain ⟨e0, e1, e2, e3, e4⟩ := hR2.rs.partF j
            go_upto_region 13 with (fail)
            have hR4 := HP5.out _ _ _ hR2
            have hM4 := ((((hM2.far (p := ⟨w.heap.size, 1 + j * 5, none⟩) (by show w.heap.size + 1 ≠ w.heap.size; omega) (.bool false)).far (p := ⟨w.heap.size, 1 + j * 5 + 1, none⟩) (by show w.heap.size + 1 ≠ w.heap.size; omega) (.bool false)).far (p := ⟨w.heap.size, 1 + j * 5 + 2, none⟩) (by show w.heap.size + 1 ≠ w.heap.size; omega) (.bool false)).far (p := ⟨w.heap.size, 1 + j * 5 + 3, none⟩) (by show w.heap.size + 1 ≠ w.heap.size; omega) (.bool false)).far (p := ⟨w.heap.size, 1 + j * 5 + 4, none⟩) (by show w.heap.size + 1 ≠ w.heap.size; omega) (.int .i64 0)
            generalize ((((W5.setCell ⟨w.heap.size, 1 + j * 5, none⟩ (.bool false)).setCell ⟨w.heap.size, 1 + j * 5 + 1, none⟩ (.bool false)).setCell ⟨w.heap.size, 1 + j * 5 + 2, none⟩ (.bool false)).setCell ⟨w.heap.size, 1 + j * 5 + 3, none⟩ (.bool false)).setCell ⟨w.heap.size, 1 + j * 5 + 4, none⟩ (.int .i64 0) = W6 at *
            clear hR2 hM2 d0 d1 d2 d3 d4 e0 e1 e2 e3 e4 HON HP5 HPT
            have hR5 := hR4.grow ((Below.refl _ W6).alloc (Nat.le_refl _) (.cells #[.int .i64 3, .int .i64 at_, .int .i64 (j : Nat), .int .i64 0] 53))
            have hM5 := hM4.alloc (.cells #[.int .i64 3, .int .i64 at_, .int .i64 (j : Nat), .int .i64 0] 53)
            have hV5 := ot_one W6 53 (3, at_, (j : Int), 0)
            dsimp only at hV5
            clear hR4 hM4
            go_wp2_with (at_builtin; refine Row.wpList_append (S := otS) rfl (.tmp 76) (.tmp 80) _ rfl base 53 _ 32 (by omega) Try.underlying37 HInfo.out (by kernel_rfl) _ _ _ rfl hR5.own _ 1 1 [(3, at_, (j : Int), 0)] rfl hV5 (by have := HE.out; rw [List.length_append]; simp only [List.length_cons, List.length_nil]; omega) hR5.hi.2 ?_; intro V7 W7 hO7 hg7 hat7; have hR6 := hR5.grown hO7 hg7; have hM6 := (Kept.of_grown hg7).has hM5 (own_apart hR5.own hm2); clear hO7 hg7 hat7 hR5 hM5 hV5)
            go_roundw
            case rel => exact ⟨j + 1, by have := HJ.out; omega, by have := HJ.out; omega, by go_num, hM6, (by rw [HN2.out]; rw [List.append_assoc] at hR6; exact hR6)⟩
            case measure => have := HJ.out; simp [intOf]; omega
        · have HN2 := Lib.hid (HN.out _ _ (ack1_off at_ (by simpa using hw)))
          by_cases hs : (s1.get j).stands = true
          · have ha : (s1.get j).acked = true := by
              cases h9 : (s1.get j).acked with
              | true => rfl
              | false => exact absurd (waits_iff.2 ⟨hs, h9⟩) hw
            rw [hs] at c1
            rw [ha] at c2
            clear hw hs ha HN hj
            go_wp2
            go_roundw
            case rel => exact ⟨j + 1, by have := HJ.out; omega, by have := HJ.out; omega, by go_num, hM, (by rw [HN2.out, List.append_nil]; exact hR)⟩
            case measure => have := HJ.out; simp [intOf]; omega
          · rw [Bool.not_eq_true] at hs
            rw [hs] at c1
            clear hw hs HN hj
            go_wp2
            go_roundw
            case rel => exact ⟨j + 1, by have := HJ.out; omega, by have := HJ.out; omega, by go_num, hM, (by rw [HN2.out, List.append_nil]; exact hR)⟩
            case measure => have := HJ.out; simp [intOf]; omega
      · obtain rfl : j = 6 := by omega
        clear hj1 hj6 hj5 hM m1
        obtain ⟨A9, d9, rfl, hY9, g1, g2, hV9, hf9, hB9⟩ := hR.ans (cs := refC ((overT (ack1 at_) s 6).1)) rfl
        go_wp2_with (first
          | (refine ref_ld rfl _ rfl _ rfl hR.rs.X (ref_size _) ?_)
          | (refine ref_st rfl _ _ rfl _ _ rfl rfl hR.rs.Y (ref_size _) rfl (ref_one _) ?_))
        refine ref_ret rfl (w.heap.size + 1 + 1) rfl (.slice A9 _ d9) rfl _ hY9 (ref_size _) rfl ?_
        rw [HR.out]
        exact ⟨A9, d9, rfl, g1, g2, hV9, hf9, hB9⟩
  · have hb1 : (k == 1) = false := by simpa using hk1
    by_cases hq : k = 2 ∧ 1 ≤ n ∧ n ≤ 24000
    · obtain ⟨rfl, hn1, hn2⟩ := hq
      have HR := Lib.hid (order_silence at_ s (o := (oa, 2, n)) rfl ⟨hn1, hn2⟩)
      have hwr : IntKind.i64.wrap (at_ + n) = at_ + n := by rw [IntKind.wrap_i64]; omega
      obtain ⟨-, r1, -, r3, -⟩ := hS.rest
      have hS3 := hS.putTill (at_ + n)
      have hM3 := hM.far (p := ⟨w.heap.size, 31, none⟩) (by show w.heap.size + 1 ≠ w.heap.size; omega) (.int .i64 (at_ + n))
      clear hat hR0 hm2 hk1 hb1
      go_enter Try.func31, Try.ntmps31
      go_upto_region 1 with (fail)
      clear hW2
      go_upto_region 3 with (fail)
      generalize W2.setCell ⟨w.heap.size, 31, none⟩ (.int .i64 (at_ + n)) = W3 at *
      generalize ({ s with till := at_ + n } : St) = s3 at *
      clear hS hM m1 m2 r1 r3 hn1 hn2 hwr
      refine Till.begin_ (T := [7]) (S := fun W => Has W w.heap.size 32 (refC s3) ∧ W.cell? ⟨w.heap.size + 1, 2, none⟩ = some (.int .i64 n)) (by kernel_rfl) (by exact ⟨hS3.X, hM3.cell 2⟩) (fun hHeld => ?_)
      refine Till.take (i := 0) (v := .agg (refC s3)) rfl (by kernel_rfl) (by kernel_rfl) (by kernel_rfl) (by kernel_rfl) (by rfl) (fun W hSw => by exact ref_take rfl rfl hSw.1 (ref_size _)) (by assumption) ?_
      (try simp only [Act.put, List.setIfInBounds_toArray, List.set_cons_zero, List.set_cons_succ])
      refine Till.take (i := 1) (v := ?v1) rfl (by kernel_rfl) (by kernel_rfl) (by kernel_rfl) (by kernel_rfl) (by rfl) ?hv1 (by assumption) ?rest1
      case hv1 => first | (intro w hSw; (try dsimp only at hSw); go_simp; done) | (intro w hSw; (try dsimp only at hSw); go_simp; with_reducible rfl)
      (try simp only [Act.put, List.setIfInBounds_toArray, List.set_cons_zero, List.set_cons_succ])
      refine Till.take (i := 2) (v := ?v2) rfl (by kernel_rfl) (by kernel_rfl) (by kernel_rfl) (by kernel_rfl) (by rfl) ?hv2 (by assumption) ?rest2
      case hv2 => first | (intro w hSw; (try dsimp only at hSw); go_simp; done) | (intro w hSw; (try dsimp only at hSw); go_simp; with_reducible rfl)
      (try simp only [Act.put, List.setIfInBounds_toArray, List.set_cons_zero, List.set_cons_succ])
      refine Till.take (i := 3) (v := ?v3) rfl (by kernel_rfl) (by kernel_rfl) (by kernel_rfl) (by kernel_rfl) (by rfl) ?hv3 (by assumption) ?rest3
      case hv3 => first | (intro w hSw; (try dsimp only at hSw); go_simp; done) | (intro w hSw; (try dsimp only at hSw); go_simp; with_reducible rfl)
      (try simp only [Act.put, List.setIfInBounds_toArray, List.set_cons_zero, List.set_cons_succ])
      refine Till.take (i := 4) (v := ?v4) rfl (by kernel_rfl) (by kernel_rfl) (by kernel_rfl) (by kernel_rfl) (by rfl) ?hv4 (by assumption) ?rest4
      case hv4 => first | (intro w hSw; (try dsimp only at hSw); go_simp; done) | (intro w hSw; (try dsimp only at hSw); go_simp; with_reducible rfl)
      (try simp only [Act.put, List.setIfInBounds_toArray, List.set_cons_zero, List.set_cons_succ])
      have hS7 := hS3.grow (below_drewN (Below.refl _ W3) 1)
      have hM7 : Has W3.drew (w.heap.size + 1) 47 #[.int .i64 oa, .int .i64 2, .int .i64 n] := hM3
      change Rs w w.heap.size (w.heap.size + 1 + 1) _ W3.drew at hS7
      clear hS3 hM3
      generalize W3.drew = W8 at *
      have hz8 : w.heap.size ≤ W8.heap.size := hS7.low.size
      have hy8 : w.heap.size + 1 + 1 < W8.heap.size := hS7.Y.lt
      have hK8 := fun W => kept_row W (w.heap.size + 1 + 1) (refC s3)
      clear hHeld
      refine Till.both (i := 5) (j := 6) rfl rfl (by kernel_rfl) (by rfl) (by rfl) ?_ ?_
      · intro K hK
        go_simp
        have hS8 := hS7.grow ((Below.refl _ W8).alloc (Nat.le_refl _) (.cells #[.int .i64 8, .int .i64 at_, .int .i64 0, .int .i64 n] 53))
        have hM8 := hM7.alloc (.cells #[.int .i64 8, .int .i64 at_, .int .i64 0, .int .i64 n] 53)
        have hV8 := ot_one W8 53 (8, at_, 0, n)
        dsimp only at hV8
        refine hK.out _ _ (by exact ⟨hS8.X, hM8.cell 2⟩) (fun hHeld => ?_)
        clear hK K
        (try simp only [Act.put, List.setIfInBounds_toArray, List.set_cons_zero, List.set_cons_succ])
        clear hHeld hM7 hS7
        generalize W8.alloc (.cells #[.int .i64 8, .int .i64 at_, .int .i64 0, .int .i64 n] 53) = W9 at *
        generalize W8.heap.size = z8 at *
        refine Till.call (i := 6) rfl (by kernel_rfl) (by rfl) ?_
        intro K hK
        refine wp_store_row 32 _ _ rfl (w.heap.size + 1 + 1) (refC s3) rfl rfl 32 _ hS8.Y (by rw [ref_size]; kernel_rfl) (by rw [ref_size]; rfl) (ref_one _) ?_
        have hK9 := hK8 W9
        refine hK.out _ _ (by exact ⟨hK9.has hS8.X (by simp <;> omega), (hK9.has hM8 (by simp <;> omega)).cell 2⟩) (fun hHeld => ?_)
        clear hK K
        (try simp only [Act.put, List.setIfInBounds_toArray, List.set_cons_zero, List.set_cons_succ])
        have hY9 := hS8.Y.row (refC s3)
        have hV9 := hV8.kept hK9 (fun _ x hx hk => by injection hx with hx; subst hx; simp at hk; omega)
        have hB9 := below_kept hS8.low hK9 hS8.low.size (fun x hx => by simp at hx; omega)
        clear hM8 hS8 hV8 hK9 hHeld hK8
        refine Till.put (i := 7) rfl (by kernel_rfl) (by rfl) (by rfl) ?_
        intro K hK
        go_simp
        refine hK.out _ _ ?_
        clear hK K
        (try simp only [Act.put, List.setIfInBounds_toArray, List.set_cons_zero, List.set_cons_succ])
        refine Till.done (by kernel_rfl) ?_ _
        go_wp2
        refine ref_ret rfl (w.heap.size + 1 + 1) rfl (.slice (some ⟨z8, 0, none⟩) 1 1) rfl _ hY9 (ref_size _) rfl ?_
        rw [HR.out]
        exact ⟨some ⟨z8, 0, none⟩, 1, rfl, Nat.le_refl _, by show 1 ≤ 9223372036854775807; omega, hV9, fun x hx => by injection hx with hx; subst hx; exact hz8, hB9⟩
      · intro K hK
        refine wp_store_row 32 _ _ rfl (w.heap.size + 1 + 1) (refC s3) rfl rfl 32 _ hS7.Y (by rw [ref_size]; kernel_rfl) (by rw [ref_size]; rfl) (ref_one _) ?_
        have hK9 := hK8 W8
        have hX9 := hK9.has hS7.X (by simp <;> omega)
        have hM9 := hK9.has hM7 (by simp <;> omega)
        have hYb := hS7.Y.row (refC s3)
        have hBb := below_kept hS7.low hK9 hS7.low.size (fun x hx => by simp at hx; omega)
        have hzz := hK9.size
        refine hK.out _ _ (by exact ⟨hX9, hM9.cell 2⟩) (fun hHeld => ?_)
        clear hK K
        (try simp only [Act.put, List.setIfInBounds_toArray, List.set_cons_zero, List.set_cons_succ])
        clear hS7 hM7 hK9 hK8 hHeld
        generalize W8.setRow (w.heap.size + 1 + 1) (refC s3) = Wb at *
        have hX8 := hX9.alloc (.cells #[.int .i64 8, .int .i64 at_, .int .i64 0, .int .i64 n] 53)
        have hM8 := hM9.alloc (.cells #[.int .i64 8, .int .i64 at_, .int .i64 0, .int .i64 n] 53)
        have hV9 := ot_one Wb 53 (8, at_, 0, n)
        dsimp only at hV9
        have hY9 := hYb.alloc (.cells #[.int .i64 8, .int .i64 at_, .int .i64 0, .int .i64 n] 53)
        have hB9 := hBb.alloc hBb.size (.cells #[.int .i64 8, .int .i64 at_, .int .i64 0, .int .i64 n] 53)
        replace hz8 : w.heap.size ≤ Wb.heap.size := by omega
        refine Till.call (i := 5) rfl (by kernel_rfl) (by rfl) ?_
        intro K hK
        go_simp
        refine hK.out _ _ (by exact ⟨hX8, hM8.cell 2⟩) (fun hHeld => ?_)
        clear hK K
        (try simp only [Act.put, List.setIfInBounds_toArray, List.set_cons_zero, List.set_cons_succ])
        clear hX8 hM8 hX9 hM9 hYb hBb hzz hHeld
        generalize Wb.alloc (.cells #[.int .i64 8, .int .i64 at_, .int .i64 0, .int .i64 n] 53) = W9 at *
        generalize Wb.heap.size = z8 at *
        refine Till.put (i := 7) rfl (by kernel_rfl) (by rfl) (by rfl) ?_
        intro K hK
        go_simp
        refine hK.out _ _ ?_
        clear hK K
        (try simp only [Act.put, List.setIfInBounds_toArray, List.set_cons_zero, List.set_cons_succ])
        refine Till.done (by kernel_rfl) ?_ _
        go_wp2
        refine ref_ret rfl (w.heap.size + 1 + 1) rfl (.slice (some ⟨z8, 0, none⟩) 1 1) rfl _ hY9 (ref_size _) rfl ?_
        rw [HR.out]
        exact ⟨some ⟨z8, 0, none⟩, 1, rfl, Nat.le_refl _, by show 1 ≤ 9223372036854775807; omega, hV9, fun x hx => by injection hx with hx; subst hx; exact hz8, hB9⟩
    · have hor : orderT at_ s (oa, k, n) = (s, []) := by
        by_cases h2 : k = 2
        · exact order_loud at_ s h2 (fun h => hq ⟨h2, h⟩)
        · exact order_no at_ s hk1 h2
      have HR := Lib.hid hor
      clear hor hS hat hm2
      by_cases h2 : k = 2
      · subst h2
        by_cases h1 : 1 ≤ n
        · have h3 : ¬ n ≤ 24000 := fun h => hq ⟨rfl, h1, h⟩
          clear hq hk1 hb1
          go_enter Try.func31, Try.ntmps31
          go_upto_region 1 with (fail)
          clear hW2
          go_wp2
          generalize W2.heap.size = base at *
          go_loopw [8, 9] (fun V i wr => ∃ V9 : Value, V9 = .slice none 0 0 ∧ V = V9 ∧ i = .int .i64 1 ∧ Has wr (w.heap.size + 1) 47 #[.int .i64 oa, .int .i64 2, .int .i64 n] ∧ Rl w base w.heap.size (w.heap.size + 1 + 1) s V9 [] wr) (fun _ i _ => 0)
          case atStart => exact ⟨_, rfl, rfl, rfl, hM, hR0⟩
          case round =>
            clear hR0 hM m1 m2
            obtain ⟨V9, hV9, rfl, rfl, hM, hR⟩ := hrel
            have m1 : wr.cell? ⟨w.heap.size + 1, 1, none⟩ = some (.int .i64 2) := hM.cell 1
            clear hV9
            obtain ⟨A9, d9, rfl, hY9, g1, g2, hV9, hf9, hB9⟩ := hR.ans (cs := refC (s)) rfl
            go_wp2_with (first
              | (refine ref_ld rfl _ rfl _ rfl hR.rs.X (ref_size _) ?_)
              | (refine ref_st rfl _ _ rfl _ _ rfl rfl hR.rs.Y (ref_size _) rfl (ref_one _) ?_))
            refine ref_ret rfl (w.heap.size + 1 + 1) rfl (.slice A9 _ d9) rfl _ hY9 (ref_size _) rfl ?_
            rw [HR.out]
            exact ⟨A9, d9, rfl, g1, g2, hV9, hf9, hB9⟩
        · clear hq hk1 hb1
          go_enter Try.func31, Try.ntmps31
          go_upto_region 1 with (fail)
          clear hW2
          go_wp2
          generalize W2.heap.size = base at *
          go_loopw [8, 9] (fun V i wr => ∃ V9 : Value, V9 = .slice none 0 0 ∧ V = V9 ∧ i = .int .i64 1 ∧ Has wr (w.heap.size + 1) 47 #[.int .i64 oa, .int .i64 2, .int .i64 n] ∧ Rl w base w.heap.size (w.heap.size + 1 + 1) s V9 [] wr) (fun _ i _ => 0)
          case atStart => exact ⟨_, rfl, rfl, rfl, hM, hR0⟩
          case round =>
            clear hR0 hM m1 m2
            obtain ⟨V9, hV9, rfl, rfl, hM, hR⟩ := hrel
            have m1 : wr.cell? ⟨w.heap.size + 1, 1, none⟩ = some (.int .i64 2) := hM.cell 1
            clear hV9
            obtain ⟨A9, d9, rfl, hY9, g1, g2, hV9, hf9, hB9⟩ := hR.ans (cs := refC (s)) rfl
            go_wp2_with (first
              | (refine ref_ld rfl _ rfl _ rfl hR.rs.X (ref_size _) ?_)
              | (refine ref_st rfl _ _ rfl _ _ rfl rfl hR.rs.Y (ref_size _) rfl (ref_one _) ?_))
            refine ref_ret rfl (w.heap.size + 1 + 1) rfl (.slice A9 _ d9) rfl _ hY9 (ref_size _) rfl ?_
            rw [HR.out]
            exact ⟨A9, d9, rfl, g1, g2, hV9, hf9, hB9⟩
      · have hb2 : (k == 2) = false := by simpa using h2
        clear hq
        go_enter Try.func31, Try.ntmps31
        go_upto_region 1 with (fail)
        clear hW2
        go_wp2
        generalize W2.heap.size = base at *
        go_loopw [8, 9] (fun V i wr => ∃ V9 : Value, V9 = .slice none 0 0 ∧ V = V9 ∧ i = .int .i64 1 ∧ Has wr (w.heap.size + 1) 47 #[.int .i64 oa, .int .i64 k, .int .i64 n] ∧ Rl w base w.heap.size (w.heap.size + 1 + 1) s V9 [] wr) (fun _ i _ => 0)
        case atStart => exact ⟨_, rfl, rfl, rfl, hM, hR0⟩
        case round =>
          clear hR0 hM m1 m2
          obtain ⟨V9, hV9, rfl, rfl, hM, hR⟩ := hrel
          have m1 : wr.cell? ⟨w.heap.size + 1, 1, none⟩ = some (.int .i64 k) := hM.cell 1
          clear hV9
          obtain ⟨A9, d9, rfl, hY9, g1, g2, hV9, hf9, hB9⟩ := hR.ans (cs := refC (s)) rfl
          go_wp2_with (first
            | (refine ref_ld rfl _ rfl _ rfl hR.rs.X (ref_size _) ?_)
            | (refine ref_st rfl _ _ rfl _ _ rfl rfl hR.rs.Y (ref_size _) rfl (ref_one _) ?_))
          refine ref_ret rfl (w.heap.size + 1 + 1) rfl (.slice A9 _ d9) rfl _ hY9 (ref_size _) rfl ?_
          rw [HR.out]
          exact ⟨A9, d9, rfl, g1, g2, hV9, hf9, hB9⟩
end Go.Proofs.Ytahoiaiknchehaa.Alarm
