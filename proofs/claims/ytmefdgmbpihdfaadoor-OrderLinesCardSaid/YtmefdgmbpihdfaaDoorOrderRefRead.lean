/- The reference of layer 24: Line, Read. -/
import Derived.Test.YtmefdgmbpihdfaaDoorOrderRef
import Derived.Test.YtmefdgmbpihdfaaDoorOrderRead2
import Derived.Test.YtmefdgmbpihdfaaDoorTextRefRead
import Derived.Test.YtmefdgmbpihdfaaDoorTextRefSplit
set_option linter.unusedSimpArgs false
set_option linter.unusedVariables false
namespace Go.Proofs.YtmefdgmbpihdfaaDoor.Order
open Go.RowKit RU8
open Alarm (Or orS noOr or_cells)
open Txt
set_option maxHeartbeats 2000000 in
theorem refline_any (o : Or) (hF : Fits o) (w : World) : Calls Tryd.prog 12 #[.agg #[.int .i64 o.1, .int .i64 o.2.1, .int .i64 o.2.2]] w fun e w' => e = .returned (.string (str (lineT o))) ∧ Below w.heap.size w w' := by
  have hB0 := (Below.refl w.heap.size w).alloc (Nat.le_refl _) (.cells #[.int .i64 o.1, .int .i64 o.2.1, .int .i64 o.2.2] 23)
  have hX := Has.new w 23 #[.int .i64 o.1, .int .i64 o.2.1, .int .i64 o.2.2]
  have hn1 := fun W => refnum_any o.1 hF.1 W
  have hn2 := fun W => refnum_any o.2.2 hF.2 W
  have hl1 := num_len o.1 hF.1
  have hl2 := num_len o.2.2 hF.2
  obtain ⟨a, k, n⟩ := o
  by_cases hk : k = 1
  · subst hk
    rw [line_ack (by rfl)]
    dsimp only at *
    have ha : ∀ W, (Op.stringOp .add (str (numT a)) ⟨#[32, 97, 99, 107]⟩).run Tryd.prog W = .ok (.string (str (joinT [numT a, ackT]))) W := fun W => run_add (numT a) [32, 97, 99, 107] W (by simp; omega)
    generalize joinT [numT a, ackT] = jt at *
    generalize numT a = na at *
    clear hn2 hF
    go_enter Tryd.func12, Tryd.ntmps12
    go_wp2_with (go_at_call 29; ((with_reducible refine (hn1 _).mono ?_); rintro e W1 ⟨rfl, hB1⟩; have hB2 := hB0.trans (hB1.mono hB0.size)))
    go_ret
    exact ⟨rfl, hB2⟩
  · rw [line_sil (by exact hk)]
    dsimp only at *
    have ha : ∀ W, (Op.stringOp .add (str (numT a)) ⟨#[32, 115, 105, 108, 101, 110, 99, 101, 32]⟩).run Tryd.prog W = .ok (.string (str (numT a ++ [32, 115, 105, 108, 101, 110, 99, 101, 32]))) W := fun W => run_add (numT a) [32, 115, 105, 108, 101, 110, 99, 101, 32] W (by simp; omega)
    have hj : joinT [numT a, silT, numT n] = (numT a ++ [32, 115, 105, 108, 101, 110, 99, 101, 32]) ++ numT n := by simp [joinT, silT]
    have hb : ∀ W, (Op.stringOp .add (str (numT a ++ [32, 115, 105, 108, 101, 110, 99, 101, 32])) (str (numT n))).run Tryd.prog W = .ok (.string (str (joinT [numT a, silT, numT n]))) W := fun W => by rw [hj]; exact run_add _ _ W (by simp; omega)
    generalize joinT [numT a, silT, numT n] = jt at *
    generalize numT a ++ [32, 115, 105, 108, 101, 110, 99, 101, 32] = mt at *
    generalize numT a = na at *
    generalize numT n = nn at *
    clear hF hj
    go_enter Tryd.func12, Tryd.ntmps12
    go_wp2
    refine Reg.begin_ (S := fun W => W.cell? ⟨w.heap.size, 0, none⟩ = some (.int .i64 a) ∧ W.cell? ⟨w.heap.size, 2, none⟩ = some (.int .i64 n)) (by kernel_rfl) (by exact ⟨hX.cell 0, hX.cell 2⟩) (fun hHeld => ?_)
    have hXd : Has (w.alloc (.cells #[.int .i64 a, .int .i64 k, .int .i64 n] 23)).drew w.heap.size 23 #[.int .i64 a, .int .i64 k, .int .i64 n] := hX
    have hBd : Below w.heap.size w (w.alloc (.cells #[.int .i64 a, .int .i64 k, .int .i64 n] 23)).drew := below_drewN hB0 1
    clear hX hB0
    generalize (w.alloc (.cells #[.int .i64 a, .int .i64 k, .int .i64 n] 23)).drew = Wd at *
    refine Reg.take (i := 0) (v := ?v1) rfl (by kernel_rfl) (by kernel_rfl) (by kernel_rfl) (by rfl) ?hv1 (by assumption) ?rest1
    case hv1 => first | (intro w hSw; (try dsimp only at hSw); go_simp; done) | (intro w hSw; (try dsimp only at hSw); go_simp; with_reducible rfl)
    (try simp only [Act.put, List.setIfInBounds_toArray, List.set_cons_zero, List.set_cons_succ])
    refine Reg.take (i := 1) (v := ?v2) rfl (by kernel_rfl) (by kernel_rfl) (by kernel_rfl) (by rfl) ?hv2 (by assumption) ?rest2
    case hv2 => first | (intro w hSw; (try dsimp only at hSw); go_simp; done) | (intro w hSw; (try dsimp only at hSw); go_simp; with_reducible rfl)
    (try simp only [Act.put, List.setIfInBounds_toArray, List.set_cons_zero, List.set_cons_succ])
    refine Reg.take (i := 4) (v := ?v3) rfl (by kernel_rfl) (by kernel_rfl) (by kernel_rfl) (by rfl) ?hv3 (by assumption) ?rest3
    case hv3 => first | (intro w hSw; (try dsimp only at hSw); go_simp; done) | (intro w hSw; (try dsimp only at hSw); go_simp; with_reducible rfl)
    (try simp only [Act.put, List.setIfInBounds_toArray, List.set_cons_zero, List.set_cons_succ])
    refine Reg.take (i := 5) (v := ?v4) rfl (by kernel_rfl) (by kernel_rfl) (by kernel_rfl) (by rfl) ?hv4 (by assumption) ?rest4
    case hv4 => first | (intro w hSw; (try dsimp only at hSw); go_simp; done) | (intro w hSw; (try dsimp only at hSw); go_simp; with_reducible rfl)
    (try simp only [Act.put, List.setIfInBounds_toArray, List.set_cons_zero, List.set_cons_succ])
    refine Reg.call (i := 2) rfl (by kernel_rfl) (by rfl) ?_
    intro K hK
    go_simp
    go_at_call 29
    (with_reducible refine (hn1 Wd).mono ?_)
    rintro e W1 ⟨rfl, hB1⟩
    have hX1 := hXd.below hB1 hXd.lt
    have hB2 := hBd.trans (hB1.mono hBd.size)
    refine hK.out _ _ (by exact ⟨hX1.cell 0, hX1.cell 2⟩) (fun hHeld => ?_)
    clear hK K
    (try simp only [Act.put, List.setIfInBounds_toArray, List.set_cons_zero, List.set_cons_succ])
    refine Reg.take (i := 3) (v := ?v5) rfl (by kernel_rfl) (by kernel_rfl) (by kernel_rfl) (by rfl) ?hv5 (by assumption) ?rest5
    case hv5 => first | (intro w hSw; (try dsimp only at hSw); go_simp; done) | (intro w hSw; (try dsimp only at hSw); go_simp; with_reducible rfl)
    (try simp only [Act.put, List.setIfInBounds_toArray, List.set_cons_zero, List.set_cons_succ])
    refine Reg.call (i := 6) rfl (by kernel_rfl) (by rfl) ?_
    intro K hK
    go_simp
    go_at_call 29
    (with_reducible refine (hn2 W1).mono ?_)
    rintro e W2 ⟨rfl, hB3⟩
    have hX2 := hX1.below hB3 hX1.lt
    have hB4 := hB2.trans (hB3.mono hB2.size)
    refine hK.out _ _ (by exact ⟨hX2.cell 0, hX2.cell 2⟩) (fun hHeld => ?_)
    clear hK K
    (try simp only [Act.put, List.setIfInBounds_toArray, List.set_cons_zero, List.set_cons_succ])
    refine Reg.take (i := 7) (v := ?v6) rfl (by kernel_rfl) (by kernel_rfl) (by kernel_rfl) (by rfl) ?hv6 (by assumption) ?rest6
    case hv6 => first | (intro w hSw; (try dsimp only at hSw); go_simp; done) | (intro w hSw; (try dsimp only at hSw); go_simp; with_reducible rfl)
    (try simp only [Act.put, List.setIfInBounds_toArray, List.set_cons_zero, List.set_cons_succ])
    refine Reg.take (i := 8) (v := ?v7) rfl (by kernel_rfl) (by kernel_rfl) (by kernel_rfl) (by rfl) ?hv7 (by assumption) ?rest7
    case hv7 => first | (intro w hSw; (try dsimp only at hSw); go_simp; done) | (intro w hSw; (try dsimp only at hSw); go_simp; with_reducible rfl)
    (try simp only [Act.put, List.setIfInBounds_toArray, List.set_cons_zero, List.set_cons_succ])
    refine Reg.done (by kernel_rfl) ?_ _
    go_wp2
    go_ret
    exact ⟨rfl, hB4⟩
theorem text_cell {W : World} {x : Addr} {n : Nat} {ps : List (List Nat)} (hv : RStr.Vals W (some x) n (texts ps)) (k : Nat) (hk : k < n) (hx : x.block < W.heap.size → True) : W.cell? (x.add k) = some (.string (str (ps.getD k []))) ∧ ps.getD k [] ∈ ps ∧ x.block < W.heap.size := by
  have hl : ps.length = n := by have := hv.len_; rwa [texts_length] at this
  obtain ⟨x', he, hc⟩ := hv.cells (by omega)
  injection he with he
  subst he
  have h1 := hc k hk
  rw [texts_getD ps k (by omega)] at h1
  refine ⟨h1, ?_, ?_⟩
  · rw [List.getD_eq_getElem?_getD, List.getElem?_eq_getElem (by omega)]; exact List.getElem_mem _
  · have := World.block_lt_of_cell? _ _ h1
    rwa [block_add] at this
set_option maxHeartbeats 4000000 in
theorem refread_k (l : List Nat) (hb : Bytes l) (hl : l.length ≤ 1000) (w : World) :
    Calls Tryd.prog 14 #[.string (str l)] w fun e w' => e = .returned (.tuple #[.agg #[.int .i64 (gotT l).1, .int .i64 (gotT l).2.1, .int .i64 (gotT l).2.2], .bool (decide (IsLine codeG l))]) ∧ Below w.heap.size w w' := by
  have hB0 := (Below.refl w.heap.size w).alloc (Nat.le_refl _) (.cells #[.int .i64 0, .int .i64 0, .int .i64 0] 23)
  have hX0 := Has.new w 23 #[.int .i64 0, .int .i64 0, .int .i64 0]
  have hwd := refwords_any l hb (by omega) (w.alloc (.cells #[.int .i64 0, .int .i64 0, .int .i64 0] 23))
  unfold PiecesIs at hwd
  have hwb := wordsT_bytes hb
  have hwl : ∀ p ∈ wordsT l, p.length ≤ 100000 := fun p hp => by have := piece_len (wordsT l) p hp; rw [join_words] at this; omega
  obtain ⟨o, ho⟩ : ∃ o, refG (wordsT l) = o := ⟨_, rfl⟩
  rw [← got_ref l, ← is_both l]
  obtain ⟨ps, hps⟩ : ∃ ps, wordsT l = ps := ⟨_, rfl⟩
  have hmy := fun W => refmay_any o W
  have hrd := fun (p : List Nat) (hp : p ∈ ps) W => refread_any p (hwb p (by rw [hps]; exact hp)) (hwl p (by rw [hps]; exact hp)) W
  rw [hps] at hwd
  by_cases hm : May o
  · have hln := fun W => refline_any o (may_fits hm) W
    have hsq := str_same (line_bytes o) hb
    by_cases he : lineT o = l
    · have hI : IsLine refG l := by unfold IsLine; rw [ho]; exact ⟨hm, he⟩
      rw [if_pos hI, decide_eq_true hI, ho]
      rw [decide_eq_true hm] at hmy
      rw [decide_eq_true he] at hsq
      rw [hps] at ho
      clear hI hm he hwb hwl hps
      obtain ⟨o0, o1, o2⟩ := o
      dsimp only at *
      go_enter Tryd.func14, Tryd.ntmps14
      go_upto_region 3 with (go_at_call 32; ((with_reducible refine hwd.mono ?_); rintro e W1 ⟨A1, n1, c1, rfl, -, -, hV1, hn1, hB1⟩; have hB2 := hB0.trans (hB1.mono hB0.size); have hX1 := hX0.below hB1 hX0.lt))
      have hlen : ps.length = n1 := by have := hV1.len_; rwa [texts_length] at this
      have hX2 := hX1.alloc (.cells #[.int .i64 0, .int .i64 0, .int .i64 0] 23)
      have hB3 := hB2.alloc hB2.size (.cells #[.int .i64 0, .int .i64 0, .int .i64 0] 23)
      have hZ := Has.new W1 23 #[.int .i64 0, .int .i64 0, .int .i64 0]
      have hzx : W1.heap.size ≠ w.heap.size := by have := hX1.lt; omega
      have f0 := hZ.frozen 0
      have f1 := hZ.frozen 1
      have f2 := hZ.frozen 2
      have z0 := hZ.cell 0
      have z1 := hZ.cell 1
      have z2 := hZ.cell 2
      have hzw : w.heap.size ≤ W1.heap.size := by have := hX1.lt; omega
      rcases Nat.eq_zero_or_pos n1 with h0 | h0
      · subst h0
        have hoe : (o0, o1, o2) = ((0, 0, 0) : Or) := by
          rw [← ho]
          unfold refG
          rw [hlen]
          rfl
        obtain rfl : o0 = 0 := congrArg (fun x => x.1) hoe
        obtain rfl : o1 = 0 := congrArg (fun x => x.2.1) hoe
        obtain rfl : o2 = 0 := congrArg (fun x => x.2.2) hoe
        clear hoe
        (try dsimp only at hmy)
        (try dsimp only at hln)
        have hZt := hZ
        have hXt := hX2
        have hBt := hB3
        clear ho hlen
        go_upto_region 10 with (fail)
        generalize W1.alloc (.cells #[.int .i64 0, .int .i64 0, .int .i64 0] 23) = Wt at *
        clear hZ hX2 hB3 hV1 hrd hwd hB0 hX0 hB1 hB2 hX1 f0 f1 f2 z0 z1 z2
        have u0 := hZt.cell 0
        have u1 := hZt.cell 1
        have u2 := hZt.cell 2
        go_wp2_with (first
          | (go_at_call 11; ((with_reducible refine (hmy _).mono ?_); rintro e W5 ⟨rfl, hB5⟩; have hZ5 := hZt.below hB5 hZt.lt; have hX5 := hXt.below hB5 hXt.lt; have hB6 := hBt.trans (hB5.mono hBt.size); have v0 := hZ5.cell 0; have v1 := hZ5.cell 1; have v2 := hZ5.cell 2; have e0 := hX5.cell 0; have e1 := hX5.cell 1; have e2 := hX5.cell 2; have g0 := hX5.frozen 0; have g1 := hX5.frozen 1; have g2 := hX5.frozen 2; have hW9 := hB6; have hX9 := hX5))
          | (go_at_call 12; ((with_reducible refine (hln _).mono ?_); rintro e W7 ⟨rfl, hB7⟩; clear hW9 hX9; have hZ7 := hZ5.below hB7 hZ5.lt; have hX9 := hX5.below hB7 hX5.lt; have hW9 := hB6.trans (hB7.mono hB6.size); have p0 := hZ7.cell 0; have p1 := hZ7.cell 1; have p2 := hZ7.cell 2; have s0 := hX9.cell 0; have s1 := hX9.cell 1; have s2 := hX9.cell 2; have t0 := hX9.frozen 0; have t1 := hX9.frozen 1; have t2 := hX9.frozen 2)))
        exact or_ret rfl w.heap.size rfl _ rfl _ (put3 hX9 _ _ _) rfl rfl ⟨rfl, below_put3 hW9 (Nat.le_refl _) _ _ _⟩
      · obtain ⟨x, rfl, -⟩ := hV1.cells (by omega)
        have hV2 := hV1.below ((Below.refl W1.heap.size W1).alloc (Nat.le_refl _) (.cells #[.int .i64 0, .int .i64 0, .int .i64 0] 23))
        obtain ⟨-, -, hxl⟩ := text_cell hV1 0 h0 (fun _ => trivial)
        obtain ⟨c0, m0, -⟩ := text_cell hV2 0 h0 (fun _ => trivial)
        obtain ⟨b0, -, -⟩ := text_cell hV1 0 h0 (fun _ => trivial)
        replace b0 : W1.cell? x = some (.string (str (ps.getD 0 []))) := by simpa [Addr.add] using b0
        have hr0 := fun W => hrd _ m0 W
        have hxz : x.block ≠ W1.heap.size := by omega
        have hxz2 : W1.heap.size ≠ x.block := by omega
        replace c0 : (W1.alloc (.cells #[.int .i64 0, .int .i64 0, .int .i64 0] 23)).cell? x = some (.string (str (ps.getD 0 []))) := by simpa [Addr.add] using c0
        by_cases h2 : n1 = 2
        · subst h2
          have hoe : (o0, o1, o2) = (((readT (ps.getD 0 [])).1, 1, 0) : Or) := by
            rw [← ho]
            unfold refG
            rw [hlen]
            rfl
          have q0 : (readT (ps.getD 0 [])).1 = o0 := (congrArg (fun x => x.1) hoe).symm
          obtain rfl : o1 = 1 := congrArg (fun x => x.2.1) hoe
          obtain rfl : o2 = 0 := congrArg (fun x => x.2.2) hoe
          clear hoe
          rw [q0] at hr0
          clear q0
          (try dsimp only at hmy)
          (try dsimp only at hln)
          clear ho hlen
          generalize ps.getD 0 [] = p0 at *
          generalize (readT p0).2 = s0 at *
          have hZt := Has.new W1 23 #[.int .i64 o0, .int .i64 1, .int .i64 0]
          have hXt := hX1.alloc (.cells #[.int .i64 o0, .int .i64 1, .int .i64 0] 23)
          have hBt := hB2.alloc hB2.size (.cells #[.int .i64 o0, .int .i64 1, .int .i64 0] 23)
          go_upto_region 10 with (go_at_call 33; ((with_reducible refine (hr0 _).mono ?_); rintro e W3 ⟨rfl, rfl⟩))
          clear hr0 c0 b0 hV2
          generalize W1.alloc (.cells #[.int .i64 o0, .int .i64 1, .int .i64 0] 23) = Wt at *
          clear hZ hX2 hB3 hV1 hrd hwd hB0 hX0 hB1 hB2 hX1 f0 f1 f2 z0 z1 z2
          have u0 := hZt.cell 0
          have u1 := hZt.cell 1
          have u2 := hZt.cell 2
          go_wp2_with (first
            | (go_at_call 11; ((with_reducible refine (hmy _).mono ?_); rintro e W5 ⟨rfl, hB5⟩; have hZ5 := hZt.below hB5 hZt.lt; have hX5 := hXt.below hB5 hXt.lt; have hB6 := hBt.trans (hB5.mono hBt.size); have v0 := hZ5.cell 0; have v1 := hZ5.cell 1; have v2 := hZ5.cell 2; have e0 := hX5.cell 0; have e1 := hX5.cell 1; have e2 := hX5.cell 2; have g0 := hX5.frozen 0; have g1 := hX5.frozen 1; have g2 := hX5.frozen 2; have hW9 := hB6; have hX9 := hX5))
            | (go_at_call 12; ((with_reducible refine (hln _).mono ?_); rintro e W7 ⟨rfl, hB7⟩; clear hW9 hX9; have hZ7 := hZ5.below hB7 hZ5.lt; have hX9 := hX5.below hB7 hX5.lt; have hW9 := hB6.trans (hB7.mono hB6.size); have p0 := hZ7.cell 0; have p1 := hZ7.cell 1; have p2 := hZ7.cell 2; have s0 := hX9.cell 0; have s1 := hX9.cell 1; have s2 := hX9.cell 2; have t0 := hX9.frozen 0; have t1 := hX9.frozen 1; have t2 := hX9.frozen 2)))
          exact or_ret rfl w.heap.size rfl _ rfl _ (put3 hX9 _ _ _) rfl rfl ⟨rfl, below_put3 hW9 (Nat.le_refl _) _ _ _⟩
        · by_cases h3 : n1 = 3
          · subst h3
            obtain ⟨c2, m2, -⟩ := text_cell hV2 2 (by omega) (fun _ => trivial)
            obtain ⟨b2, -, -⟩ := text_cell hV1 2 (by omega) (fun _ => trivial)
            replace b2 : W1.cell? ⟨x.block, x.off + 2, none⟩ = some (.string (str (ps.getD 2 []))) := by rw [← b2]; rfl
            have hr2 := fun W => hrd _ m2 W
            replace c2 : (W1.alloc (.cells #[.int .i64 0, .int .i64 0, .int .i64 0] 23)).cell? ⟨x.block, x.off + 2, none⟩ = some (.string (str (ps.getD 2 []))) := by rw [← c2]; rfl
            have hoe : (o0, o1, o2) = (((readT (ps.getD 0 [])).1, 2, (readT (ps.getD 2 [])).1) : Or) := by
              rw [← ho]
              unfold refG
              rw [hlen]
              rfl
            have q0 : (readT (ps.getD 0 [])).1 = o0 := (congrArg (fun x => x.1) hoe).symm
            obtain rfl : o1 = 2 := congrArg (fun x => x.2.1) hoe
            have q2 : (readT (ps.getD 2 [])).1 = o2 := (congrArg (fun x => x.2.2) hoe).symm
            clear hoe
            rw [q0] at hr0
            rw [q2] at hr2
            clear q0 q2
            (try dsimp only at hmy)
            (try dsimp only at hln)
            clear ho hlen h2
            generalize ps.getD 0 [] = p0 at *
            generalize ps.getD 2 [] = p2 at *
            generalize (readT p0).2 = s0 at *
            generalize (readT p2).2 = s2 at *
            have hZt := Has.new W1 23 #[.int .i64 o0, .int .i64 2, .int .i64 o2]
            have hXt := hX1.alloc (.cells #[.int .i64 o0, .int .i64 2, .int .i64 o2] 23)
            have hBt := hB2.alloc hB2.size (.cells #[.int .i64 o0, .int .i64 2, .int .i64 o2] 23)
            go_upto_region 10 with (first
              | (go_at_call 33; ((with_reducible refine (hr2 _).mono ?_); rintro e W3 ⟨rfl, rfl⟩))
              | (go_at_call 33; ((with_reducible refine (hr0 _).mono ?_); rintro e W3 ⟨rfl, rfl⟩)))
            clear hr0 hr2 c0 c2 b0 b2 hV2
            generalize W1.alloc (.cells #[.int .i64 o0, .int .i64 2, .int .i64 o2] 23) = Wt at *
            clear hZ hX2 hB3 hV1 hrd hwd hB0 hX0 hB1 hB2 hX1 f0 f1 f2 z0 z1 z2
            have u0 := hZt.cell 0
            have u1 := hZt.cell 1
            have u2 := hZt.cell 2
            go_wp2_with (first
              | (go_at_call 11; ((with_reducible refine (hmy _).mono ?_); rintro e W5 ⟨rfl, hB5⟩; have hZ5 := hZt.below hB5 hZt.lt; have hX5 := hXt.below hB5 hXt.lt; have hB6 := hBt.trans (hB5.mono hBt.size); have v0 := hZ5.cell 0; have v1 := hZ5.cell 1; have v2 := hZ5.cell 2; have e0 := hX5.cell 0; have e1 := hX5.cell 1; have e2 := hX5.cell 2; have g0 := hX5.frozen 0; have g1 := hX5.frozen 1; have g2 := hX5.frozen 2; have hW9 := hB6; have hX9 := hX5))
              | (go_at_call 12; ((with_reducible refine (hln _).mono ?_); rintro e W7 ⟨rfl, hB7⟩; clear hW9 hX9; have hZ7 := hZ5.below hB7 hZ5.lt; have hX9 := hX5.below hB7 hX5.lt; have hW9 := hB6.trans (hB7.mono hB6.size); have p0 := hZ7.cell 0; have p1 := hZ7.cell 1; have p2 := hZ7.cell 2; have s0 := hX9.cell 0; have s1 := hX9.cell 1; have s2 := hX9.cell 2; have t0 := hX9.frozen 0; have t1 := hX9.frozen 1; have t2 := hX9.frozen 2)))
            exact or_ret rfl w.heap.size rfl _ rfl _ (put3 hX9 _ _ _) rfl rfl ⟨rfl, below_put3 hW9 (Nat.le_refl _) _ _ _⟩
          · have hoe : (o0, o1, o2) = (((readT (ps.getD 0 [])).1, 0, 0) : Or) := by
              rw [← ho]
              unfold refG
              rw [hlen, if_pos h0, if_neg h2, if_neg h3, if_neg h3]
            have h2z : ((n1 : Int) == 2) = false := by simp; omega
            have h3z : ((n1 : Int) == 3) = false := by simp; omega
            have h4z : (0 : Int) < (n1 : Int) := by omega
            have q0 : (readT (ps.getD 0 [])).1 = o0 := (congrArg (fun x => x.1) hoe).symm
            obtain rfl : o1 = 0 := congrArg (fun x => x.2.1) hoe
            obtain rfl : o2 = 0 := congrArg (fun x => x.2.2) hoe
            clear hoe
            rw [q0] at hr0
            clear q0
            (try dsimp only at hmy)
            (try dsimp only at hln)
            clear ho hlen
            generalize ps.getD 0 [] = p0 at *
            generalize (readT p0).2 = s0 at *
            have hZt := Has.new W1 23 #[.int .i64 o0, .int .i64 0, .int .i64 0]
            have hXt := hX1.alloc (.cells #[.int .i64 o0, .int .i64 0, .int .i64 0] 23)
            have hBt := hB2.alloc hB2.size (.cells #[.int .i64 o0, .int .i64 0, .int .i64 0] 23)
            go_upto_region 10 with (go_at_call 33; ((with_reducible refine (hr0 _).mono ?_); rintro e W3 ⟨rfl, rfl⟩))
            clear hr0 c0 b0 hV2
            generalize W1.alloc (.cells #[.int .i64 o0, .int .i64 0, .int .i64 0] 23) = Wt at *
            clear hZ hX2 hB3 hV1 hrd hwd hB0 hX0 hB1 hB2 hX1 f0 f1 f2 z0 z1 z2
            have u0 := hZt.cell 0
            have u1 := hZt.cell 1
            have u2 := hZt.cell 2
            go_wp2_with (first
              | (go_at_call 11; ((with_reducible refine (hmy _).mono ?_); rintro e W5 ⟨rfl, hB5⟩; have hZ5 := hZt.below hB5 hZt.lt; have hX5 := hXt.below hB5 hXt.lt; have hB6 := hBt.trans (hB5.mono hBt.size); have v0 := hZ5.cell 0; have v1 := hZ5.cell 1; have v2 := hZ5.cell 2; have e0 := hX5.cell 0; have e1 := hX5.cell 1; have e2 := hX5.cell 2; have g0 := hX5.frozen 0; have g1 := hX5.frozen 1; have g2 := hX5.frozen 2; have hW9 := hB6; have hX9 := hX5))
              | (go_at_call 12; ((with_reducible refine (hln _).mono ?_); rintro e W7 ⟨rfl, hB7⟩; clear hW9 hX9; have hZ7 := hZ5.below hB7 hZ5.lt; have hX9 := hX5.below hB7 hX5.lt; have hW9 := hB6.trans (hB7.mono hB6.size); have p0 := hZ7.cell 0; have p1 := hZ7.cell 1; have p2 := hZ7.cell 2; have s0 := hX9.cell 0; have s1 := hX9.cell 1; have s2 := hX9.cell 2; have t0 := hX9.frozen 0; have t1 := hX9.frozen 1; have t2 := hX9.frozen 2)))
            exact or_ret rfl w.heap.size rfl _ rfl _ (put3 hX9 _ _ _) rfl rfl ⟨rfl, below_put3 hW9 (Nat.le_refl _) _ _ _⟩
    · have hI : ¬ IsLine refG l := fun h => by unfold IsLine at h; rw [ho] at h; exact he h.2
      rw [if_neg hI, decide_eq_false hI]
      rw [decide_eq_true hm] at hmy
      rw [decide_eq_false he] at hsq
      rw [hps] at ho
      clear hI hm he hwb hwl hps
      obtain ⟨o0, o1, o2⟩ := o
      dsimp only at *
      go_enter Tryd.func14, Tryd.ntmps14
      go_upto_region 3 with (go_at_call 32; ((with_reducible refine hwd.mono ?_); rintro e W1 ⟨A1, n1, c1, rfl, -, -, hV1, hn1, hB1⟩; have hB2 := hB0.trans (hB1.mono hB0.size); have hX1 := hX0.below hB1 hX0.lt))
      have hlen : ps.length = n1 := by have := hV1.len_; rwa [texts_length] at this
      have hX2 := hX1.alloc (.cells #[.int .i64 0, .int .i64 0, .int .i64 0] 23)
      have hB3 := hB2.alloc hB2.size (.cells #[.int .i64 0, .int .i64 0, .int .i64 0] 23)
      have hZ := Has.new W1 23 #[.int .i64 0, .int .i64 0, .int .i64 0]
      have hzx : W1.heap.size ≠ w.heap.size := by have := hX1.lt; omega
      have f0 := hZ.frozen 0
      have f1 := hZ.frozen 1
      have f2 := hZ.frozen 2
      have z0 := hZ.cell 0
      have z1 := hZ.cell 1
      have z2 := hZ.cell 2
      have hzw : w.heap.size ≤ W1.heap.size := by have := hX1.lt; omega
      rcases Nat.eq_zero_or_pos n1 with h0 | h0
      · subst h0
        have hoe : (o0, o1, o2) = ((0, 0, 0) : Or) := by
          rw [← ho]
          unfold refG
          rw [hlen]
          rfl
        obtain rfl : o0 = 0 := congrArg (fun x => x.1) hoe
        obtain rfl : o1 = 0 := congrArg (fun x => x.2.1) hoe
        obtain rfl : o2 = 0 := congrArg (fun x => x.2.2) hoe
        clear hoe
        (try dsimp only at hmy)
        (try dsimp only at hln)
        have hZt := hZ
        have hXt := hX2
        have hBt := hB3
        clear ho hlen
        go_upto_region 10 with (fail)
        generalize W1.alloc (.cells #[.int .i64 0, .int .i64 0, .int .i64 0] 23) = Wt at *
        clear hZ hX2 hB3 hV1 hrd hwd hB0 hX0 hB1 hB2 hX1 f0 f1 f2 z0 z1 z2
        have u0 := hZt.cell 0
        have u1 := hZt.cell 1
        have u2 := hZt.cell 2
        go_wp2_with (first
          | (go_at_call 11; ((with_reducible refine (hmy _).mono ?_); rintro e W5 ⟨rfl, hB5⟩; have hZ5 := hZt.below hB5 hZt.lt; have hX5 := hXt.below hB5 hXt.lt; have hB6 := hBt.trans (hB5.mono hBt.size); have v0 := hZ5.cell 0; have v1 := hZ5.cell 1; have v2 := hZ5.cell 2; have e0 := hX5.cell 0; have e1 := hX5.cell 1; have e2 := hX5.cell 2; have g0 := hX5.frozen 0; have g1 := hX5.frozen 1; have g2 := hX5.frozen 2; have hW9 := hB6; have hX9 := hX5))
          | (go_at_call 12; ((with_reducible refine (hln _).mono ?_); rintro e W7 ⟨rfl, hB7⟩; clear hW9 hX9; have hZ7 := hZ5.below hB7 hZ5.lt; have hX9 := hX5.below hB7 hX5.lt; have hW9 := hB6.trans (hB7.mono hB6.size); have p0 := hZ7.cell 0; have p1 := hZ7.cell 1; have p2 := hZ7.cell 2; have s0 := hX9.cell 0; have s1 := hX9.cell 1; have s2 := hX9.cell 2; have t0 := hX9.frozen 0; have t1 := hX9.frozen 1; have t2 := hX9.frozen 2)))
        exact or_ret rfl w.heap.size rfl _ rfl _ (put3 hX9 _ _ _) rfl rfl ⟨rfl, below_put3 hW9 (Nat.le_refl _) _ _ _⟩
      · obtain ⟨x, rfl, -⟩ := hV1.cells (by omega)
        have hV2 := hV1.below ((Below.refl W1.heap.size W1).alloc (Nat.le_refl _) (.cells #[.int .i64 0, .int .i64 0, .int .i64 0] 23))
        obtain ⟨-, -, hxl⟩ := text_cell hV1 0 h0 (fun _ => trivial)
        obtain ⟨c0, m0, -⟩ := text_cell hV2 0 h0 (fun _ => trivial)
        obtain ⟨b0, -, -⟩ := text_cell hV1 0 h0 (fun _ => trivial)
        replace b0 : W1.cell? x = some (.string (str (ps.getD 0 []))) := by simpa [Addr.add] using b0
        have hr0 := fun W => hrd _ m0 W
        have hxz : x.block ≠ W1.heap.size := by omega
        have hxz2 : W1.heap.size ≠ x.block := by omega
        replace c0 : (W1.alloc (.cells #[.int .i64 0, .int .i64 0, .int .i64 0] 23)).cell? x = some (.string (str (ps.getD 0 []))) := by simpa [Addr.add] using c0
        by_cases h2 : n1 = 2
        · subst h2
          have hoe : (o0, o1, o2) = (((readT (ps.getD 0 [])).1, 1, 0) : Or) := by
            rw [← ho]
            unfold refG
            rw [hlen]
            rfl
          have q0 : (readT (ps.getD 0 [])).1 = o0 := (congrArg (fun x => x.1) hoe).symm
          obtain rfl : o1 = 1 := congrArg (fun x => x.2.1) hoe
          obtain rfl : o2 = 0 := congrArg (fun x => x.2.2) hoe
          clear hoe
          rw [q0] at hr0
          clear q0
          (try dsimp only at hmy)
          (try dsimp only at hln)
          clear ho hlen
          generalize ps.getD 0 [] = p0 at *
          generalize (readT p0).2 = s0 at *
          have hZt := Has.new W1 23 #[.int .i64 o0, .int .i64 1, .int .i64 0]
          have hXt := hX1.alloc (.cells #[.int .i64 o0, .int .i64 1, .int .i64 0] 23)
          have hBt := hB2.alloc hB2.size (.cells #[.int .i64 o0, .int .i64 1, .int .i64 0] 23)
          go_upto_region 10 with (go_at_call 33; ((with_reducible refine (hr0 _).mono ?_); rintro e W3 ⟨rfl, rfl⟩))
          clear hr0 c0 b0 hV2
          generalize W1.alloc (.cells #[.int .i64 o0, .int .i64 1, .int .i64 0] 23) = Wt at *
          clear hZ hX2 hB3 hV1 hrd hwd hB0 hX0 hB1 hB2 hX1 f0 f1 f2 z0 z1 z2
          have u0 := hZt.cell 0
          have u1 := hZt.cell 1
          have u2 := hZt.cell 2
          go_wp2_with (first
            | (go_at_call 11; ((with_reducible refine (hmy _).mono ?_); rintro e W5 ⟨rfl, hB5⟩; have hZ5 := hZt.below hB5 hZt.lt; have hX5 := hXt.below hB5 hXt.lt; have hB6 := hBt.trans (hB5.mono hBt.size); have v0 := hZ5.cell 0; have v1 := hZ5.cell 1; have v2 := hZ5.cell 2; have e0 := hX5.cell 0; have e1 := hX5.cell 1; have e2 := hX5.cell 2; have g0 := hX5.frozen 0; have g1 := hX5.frozen 1; have g2 := hX5.frozen 2; have hW9 := hB6; have hX9 := hX5))
            | (go_at_call 12; ((with_reducible refine (hln _).mono ?_); rintro e W7 ⟨rfl, hB7⟩; clear hW9 hX9; have hZ7 := hZ5.below hB7 hZ5.lt; have hX9 := hX5.below hB7 hX5.lt; have hW9 := hB6.trans (hB7.mono hB6.size); have p0 := hZ7.cell 0; have p1 := hZ7.cell 1; have p2 := hZ7.cell 2; have s0 := hX9.cell 0; have s1 := hX9.cell 1; have s2 := hX9.cell 2; have t0 := hX9.frozen 0; have t1 := hX9.frozen 1; have t2 := hX9.frozen 2)))
          exact or_ret rfl w.heap.size rfl _ rfl _ (put3 hX9 _ _ _) rfl rfl ⟨rfl, below_put3 hW9 (Nat.le_refl _) _ _ _⟩
        · by_cases h3 : n1 = 3
          · subst h3
            obtain ⟨c2, m2, -⟩ := text_cell hV2 2 (by omega) (fun _ => trivial)
            obtain ⟨b2, -, -⟩ := text_cell hV1 2 (by omega) (fun _ => trivial)
            replace b2 : W1.cell? ⟨x.block, x.off + 2, none⟩ = some (.string (str (ps.getD 2 []))) := by rw [← b2]; rfl
            have hr2 := fun W => hrd _ m2 W
            replace c2 : (W1.alloc (.cells #[.int .i64 0, .int .i64 0, .int .i64 0] 23)).cell? ⟨x.block, x.off + 2, none⟩ = some (.string (str (ps.getD 2 []))) := by rw [← c2]; rfl
            have hoe : (o0, o1, o2) = (((readT (ps.getD 0 [])).1, 2, (readT (ps.getD 2 [])).1) : Or) := by
              rw [← ho]
              unfold refG
              rw [hlen]
              rfl
            have q0 : (readT (ps.getD 0 [])).1 = o0 := (congrArg (fun x => x.1) hoe).symm
            obtain rfl : o1 = 2 := congrArg (fun x => x.2.1) hoe
            have q2 : (readT (ps.getD 2 [])).1 = o2 := (congrArg (fun x => x.2.2) hoe).symm
            clear hoe
            rw [q0] at hr0
            rw [q2] at hr2
            clear q0 q2
            (try dsimp only at hmy)
            (try dsimp only at hln)
            clear ho hlen h2
            generalize ps.getD 0 [] = p0 at *
            generalize ps.getD 2 [] = p2 at *
            generalize (readT p0).2 = s0 at *
            generalize (readT p2).2 = s2 at *
            have hZt := Has.new W1 23 #[.int .i64 o0, .int .i64 2, .int .i64 o2]
            have hXt := hX1.alloc (.cells #[.int .i64 o0, .int .i64 2, .int .i64 o2] 23)
            have hBt := hB2.alloc hB2.size (.cells #[.int .i64 o0, .int .i64 2, .int .i64 o2] 23)
            go_upto_region 10 with (first
              | (go_at_call 33; ((with_reducible refine (hr2 _).mono ?_); rintro e W3 ⟨rfl, rfl⟩))
              | (go_at_call 33; ((with_reducible refine (hr0 _).mono ?_); rintro e W3 ⟨rfl, rfl⟩)))
            clear hr0 hr2 c0 c2 b0 b2 hV2
            generalize W1.alloc (.cells #[.int .i64 o0, .int .i64 2, .int .i64 o2] 23) = Wt at *
            clear hZ hX2 hB3 hV1 hrd hwd hB0 hX0 hB1 hB2 hX1 f0 f1 f2 z0 z1 z2
            have u0 := hZt.cell 0
            have u1 := hZt.cell 1
            have u2 := hZt.cell 2
            go_wp2_with (first
              | (go_at_call 11; ((with_reducible refine (hmy _).mono ?_); rintro e W5 ⟨rfl, hB5⟩; have hZ5 := hZt.below hB5 hZt.lt; have hX5 := hXt.below hB5 hXt.lt; have hB6 := hBt.trans (hB5.mono hBt.size); have v0 := hZ5.cell 0; have v1 := hZ5.cell 1; have v2 := hZ5.cell 2; have e0 := hX5.cell 0; have e1 := hX5.cell 1; have e2 := hX5.cell 2; have g0 := hX5.frozen 0; have g1 := hX5.frozen 1; have g2 := hX5.frozen 2; have hW9 := hB6; have hX9 := hX5))
              | (go_at_call 12; ((with_reducible refine (hln _).mono ?_); rintro e W7 ⟨rfl, hB7⟩; clear hW9 hX9; have hZ7 := hZ5.below hB7 hZ5.lt; have hX9 := hX5.below hB7 hX5.lt; have hW9 := hB6.trans (hB7.mono hB6.size); have p0 := hZ7.cell 0; have p1 := hZ7.cell 1; have p2 := hZ7.cell 2; have s0 := hX9.cell 0; have s1 := hX9.cell 1; have s2 := hX9.cell 2; have t0 := hX9.frozen 0; have t1 := hX9.frozen 1; have t2 := hX9.frozen 2)))
            exact or_ret rfl w.heap.size rfl _ rfl _ (put3 hX9 _ _ _) rfl rfl ⟨rfl, below_put3 hW9 (Nat.le_refl _) _ _ _⟩
          · have hoe : (o0, o1, o2) = (((readT (ps.getD 0 [])).1, 0, 0) : Or) := by
              rw [← ho]
              unfold refG
              rw [hlen, if_pos h0, if_neg h2, if_neg h3, if_neg h3]
            have h2z : ((n1 : Int) == 2) = false := by simp; omega
            have h3z : ((n1 : Int) == 3) = false := by simp; omega
            have h4z : (0 : Int) < (n1 : Int) := by omega
            have q0 : (readT (ps.getD 0 [])).1 = o0 := (congrArg (fun x => x.1) hoe).symm
            obtain rfl : o1 = 0 := congrArg (fun x => x.2.1) hoe
            obtain rfl : o2 = 0 := congrArg (fun x => x.2.2) hoe
            clear hoe
            rw [q0] at hr0
            clear q0
            (try dsimp only at hmy)
            (try dsimp only at hln)
            clear ho hlen
            generalize ps.getD 0 [] = p0 at *
            generalize (readT p0).2 = s0 at *
            have hZt := Has.new W1 23 #[.int .i64 o0, .int .i64 0, .int .i64 0]
            have hXt := hX1.alloc (.cells #[.int .i64 o0, .int .i64 0, .int .i64 0] 23)
            have hBt := hB2.alloc hB2.size (.cells #[.int .i64 o0, .int .i64 0, .int .i64 0] 23)
            go_upto_region 10 with (go_at_call 33; ((with_reducible refine (hr0 _).mono ?_); rintro e W3 ⟨rfl, rfl⟩))
            clear hr0 c0 b0 hV2
            generalize W1.alloc (.cells #[.int .i64 o0, .int .i64 0, .int .i64 0] 23) = Wt at *
            clear hZ hX2 hB3 hV1 hrd hwd hB0 hX0 hB1 hB2 hX1 f0 f1 f2 z0 z1 z2
            have u0 := hZt.cell 0
            have u1 := hZt.cell 1
            have u2 := hZt.cell 2
            go_wp2_with (first
              | (go_at_call 11; ((with_reducible refine (hmy _).mono ?_); rintro e W5 ⟨rfl, hB5⟩; have hZ5 := hZt.below hB5 hZt.lt; have hX5 := hXt.below hB5 hXt.lt; have hB6 := hBt.trans (hB5.mono hBt.size); have v0 := hZ5.cell 0; have v1 := hZ5.cell 1; have v2 := hZ5.cell 2; have e0 := hX5.cell 0; have e1 := hX5.cell 1; have e2 := hX5.cell 2; have g0 := hX5.frozen 0; have g1 := hX5.frozen 1; have g2 := hX5.frozen 2; have hW9 := hB6; have hX9 := hX5))
              | (go_at_call 12; ((with_reducible refine (hln _).mono ?_); rintro e W7 ⟨rfl, hB7⟩; clear hW9 hX9; have hZ7 := hZ5.below hB7 hZ5.lt; have hX9 := hX5.below hB7 hX5.lt; have hW9 := hB6.trans (hB7.mono hB6.size); have p0 := hZ7.cell 0; have p1 := hZ7.cell 1; have p2 := hZ7.cell 2; have s0 := hX9.cell 0; have s1 := hX9.cell 1; have s2 := hX9.cell 2; have t0 := hX9.frozen 0; have t1 := hX9.frozen 1; have t2 := hX9.frozen 2)))
            exact or_ret rfl w.heap.size rfl _ rfl _ (put3 hX9 _ _ _) rfl rfl ⟨rfl, below_put3 hW9 (Nat.le_refl _) _ _ _⟩
  · have hI : ¬ IsLine refG l := fun h => by unfold IsLine at h; rw [ho] at h; exact hm h.1
    rw [if_neg hI, decide_eq_false hI]
    rw [decide_eq_false hm] at hmy
    rw [hps] at ho
    have hln : True := trivial
    clear hI hm hwb hwl hps
    obtain ⟨o0, o1, o2⟩ := o
    dsimp only at *
    go_enter Tryd.func14, Tryd.ntmps14
    go_upto_region 3 with (go_at_call 32; ((with_reducible refine hwd.mono ?_); rintro e W1 ⟨A1, n1, c1, rfl, -, -, hV1, hn1, hB1⟩; have hB2 := hB0.trans (hB1.mono hB0.size); have hX1 := hX0.below hB1 hX0.lt))
    have hlen : ps.length = n1 := by have := hV1.len_; rwa [texts_length] at this
    have hX2 := hX1.alloc (.cells #[.int .i64 0, .int .i64 0, .int .i64 0] 23)
    have hB3 := hB2.alloc hB2.size (.cells #[.int .i64 0, .int .i64 0, .int .i64 0] 23)
    have hZ := Has.new W1 23 #[.int .i64 0, .int .i64 0, .int .i64 0]
    have hzx : W1.heap.size ≠ w.heap.size := by have := hX1.lt; omega
    have f0 := hZ.frozen 0
    have f1 := hZ.frozen 1
    have f2 := hZ.frozen 2
    have z0 := hZ.cell 0
    have z1 := hZ.cell 1
    have z2 := hZ.cell 2
    have hzw : w.heap.size ≤ W1.heap.size := by have := hX1.lt; omega
    rcases Nat.eq_zero_or_pos n1 with h0 | h0
    · subst h0
      have hoe : (o0, o1, o2) = ((0, 0, 0) : Or) := by
        rw [← ho]
        unfold refG
        rw [hlen]
        rfl
      obtain rfl : o0 = 0 := congrArg (fun x => x.1) hoe
      obtain rfl : o1 = 0 := congrArg (fun x => x.2.1) hoe
      obtain rfl : o2 = 0 := congrArg (fun x => x.2.2) hoe
      clear hoe
      (try dsimp only at hmy)
      (try dsimp only at hln)
      have hZt := hZ
      have hXt := hX2
      have hBt := hB3
      clear ho hlen
      go_upto_region 10 with (fail)
      generalize W1.alloc (.cells #[.int .i64 0, .int .i64 0, .int .i64 0] 23) = Wt at *
      clear hZ hX2 hB3 hV1 hrd hwd hB0 hX0 hB1 hB2 hX1 f0 f1 f2 z0 z1 z2
      have u0 := hZt.cell 0
      have u1 := hZt.cell 1
      have u2 := hZt.cell 2
      go_wp2_with (first
        | (go_at_call 11; ((with_reducible refine (hmy _).mono ?_); rintro e W5 ⟨rfl, hB5⟩; have hZ5 := hZt.below hB5 hZt.lt; have hX5 := hXt.below hB5 hXt.lt; have hB6 := hBt.trans (hB5.mono hBt.size); have v0 := hZ5.cell 0; have v1 := hZ5.cell 1; have v2 := hZ5.cell 2; have e0 := hX5.cell 0; have e1 := hX5.cell 1; have e2 := hX5.cell 2; have g0 := hX5.frozen 0; have g1 := hX5.frozen 1; have g2 := hX5.frozen 2; have hW9 := hB6; have hX9 := hX5))
        | (go_at_call 12; ((with_reducible refine (hln _).mono ?_); rintro e W7 ⟨rfl, hB7⟩; clear hW9 hX9; have hZ7 := hZ5.below hB7 hZ5.lt; have hX9 := hX5.below hB7 hX5.lt; have hW9 := hB6.trans (hB7.mono hB6.size); have p0 := hZ7.cell 0; have p1 := hZ7.cell 1; have p2 := hZ7.cell 2; have s0 := hX9.cell 0; have s1 := hX9.cell 1; have s2 := hX9.cell 2; have t0 := hX9.frozen 0; have t1 := hX9.frozen 1; have t2 := hX9.frozen 2)))
      exact or_ret rfl w.heap.size rfl _ rfl _ (put3 hX9 _ _ _) rfl rfl ⟨rfl, below_put3 hW9 (Nat.le_refl _) _ _ _⟩
    · obtain ⟨x, rfl, -⟩ := hV1.cells (by omega)
      have hV2 := hV1.below ((Below.refl W1.heap.size W1).alloc (Nat.le_refl _) (.cells #[.int .i64 0, .int .i64 0, .int .i64 0] 23))
      obtain ⟨-, -, hxl⟩ := text_cell hV1 0 h0 (fun _ => trivial)
      obtain ⟨c0, m0, -⟩ := text_cell hV2 0 h0 (fun _ => trivial)
      obtain ⟨b0, -, -⟩ := text_cell hV1 0 h0 (fun _ => trivial)
      replace b0 : W1.cell? x = some (.string (str (ps.getD 0 []))) := by simpa [Addr.add] using b0
      have hr0 := fun W => hrd _ m0 W
      have hxz : x.block ≠ W1.heap.size := by omega
      have hxz2 : W1.heap.size ≠ x.block := by omega
      replace c0 : (W1.alloc (.cells #[.int .i64 0, .int .i64 0, .int .i64 0] 23)).cell? x = some (.string (str (ps.getD 0 []))) := by simpa [Addr.add] using c0
      by_cases h2 : n1 = 2
      · subst h2
        have hoe : (o0, o1, o2) = (((readT (ps.getD 0 [])).1, 1, 0) : Or) := by
          rw [← ho]
          unfold refG
          rw [hlen]
          rfl
        have q0 : (readT (ps.getD 0 [])).1 = o0 := (congrArg (fun x => x.1) hoe).symm
        obtain rfl : o1 = 1 := congrArg (fun x => x.2.1) hoe
        obtain rfl : o2 = 0 := congrArg (fun x => x.2.2) hoe
        clear hoe
        rw [q0] at hr0
        clear q0
        (try dsimp only at hmy)
        (try dsimp only at hln)
        clear ho hlen
        generalize ps.getD 0 [] = p0 at *
        generalize (readT p0).2 = s0 at *
        have hZt := Has.new W1 23 #[.int .i64 o0, .int .i64 1, .int .i64 0]
        have hXt := hX1.alloc (.cells #[.int .i64 o0, .int .i64 1, .int .i64 0] 23)
        have hBt := hB2.alloc hB2.size (.cells #[.int .i64 o0, .int .i64 1, .int .i64 0] 23)
        go_upto_region 10 with (go_at_call 33; ((with_reducible refine (hr0 _).mono ?_); rintro e W3 ⟨rfl, rfl⟩))
        clear hr0 c0 b0 hV2
        generalize W1.alloc (.cells #[.int .i64 o0, .int .i64 1, .int .i64 0] 23) = Wt at *
        clear hZ hX2 hB3 hV1 hrd hwd hB0 hX0 hB1 hB2 hX1 f0 f1 f2 z0 z1 z2
        have u0 := hZt.cell 0
        have u1 := hZt.cell 1
        have u2 := hZt.cell 2
        go_wp2_with (first
          | (go_at_call 11; ((with_reducible refine (hmy _).mono ?_); rintro e W5 ⟨rfl, hB5⟩; have hZ5 := hZt.below hB5 hZt.lt; have hX5 := hXt.below hB5 hXt.lt; have hB6 := hBt.trans (hB5.mono hBt.size); have v0 := hZ5.cell 0; have v1 := hZ5.cell 1; have v2 := hZ5.cell 2; have e0 := hX5.cell 0; have e1 := hX5.cell 1; have e2 := hX5.cell 2; have g0 := hX5.frozen 0; have g1 := hX5.frozen 1; have g2 := hX5.frozen 2; have hW9 := hB6; have hX9 := hX5))
          | (go_at_call 12; ((with_reducible refine (hln _).mono ?_); rintro e W7 ⟨rfl, hB7⟩; clear hW9 hX9; have hZ7 := hZ5.below hB7 hZ5.lt; have hX9 := hX5.below hB7 hX5.lt; have hW9 := hB6.trans (hB7.mono hB6.size); have p0 := hZ7.cell 0; have p1 := hZ7.cell 1; have p2 := hZ7.cell 2; have s0 := hX9.cell 0; have s1 := hX9.cell 1; have s2 := hX9.cell 2; have t0 := hX9.frozen 0; have t1 := hX9.frozen 1; have t2 := hX9.frozen 2)))
        exact or_ret rfl w.heap.size rfl _ rfl _ (put3 hX9 _ _ _) rfl rfl ⟨rfl, below_put3 hW9 (Nat.le_refl _) _ _ _⟩
      · by_cases h3 : n1 = 3
        · subst h3
          obtain ⟨c2, m2, -⟩ := text_cell hV2 2 (by omega) (fun _ => trivial)
          obtain ⟨b2, -, -⟩ := text_cell hV1 2 (by omega) (fun _ => trivial)
          replace b2 : W1.cell? ⟨x.block, x.off + 2, none⟩ = some (.string (str (ps.getD 2 []))) := by rw [← b2]; rfl
          have hr2 := fun W => hrd _ m2 W
          replace c2 : (W1.alloc (.cells #[.int .i64 0, .int .i64 0, .int .i64 0] 23)).cell? ⟨x.block, x.off + 2, none⟩ = some (.string (str (ps.getD 2 []))) := by rw [← c2]; rfl
          have hoe : (o0, o1, o2) = (((readT (ps.getD 0 [])).1, 2, (readT (ps.getD 2 [])).1) : Or) := by
            rw [← ho]
            unfold refG
            rw [hlen]
            rfl
          have q0 : (readT (ps.getD 0 [])).1 = o0 := (congrArg (fun x => x.1) hoe).symm
          obtain rfl : o1 = 2 := congrArg (fun x => x.2.1) hoe
          have q2 : (readT (ps.getD 2 [])).1 = o2 := (congrArg (fun x => x.2.2) hoe).symm
          clear hoe
          rw [q0] at hr0
          rw [q2] at hr2
          clear q0 q2
          (try dsimp only at hmy)
          (try dsimp only at hln)
          clear ho hlen h2
          generalize ps.getD 0 [] = p0 at *
          generalize ps.getD 2 [] = p2 at *
          generalize (readT p0).2 = s0 at *
          generalize (readT p2).2 = s2 at *
          have hZt := Has.new W1 23 #[.int .i64 o0, .int .i64 2, .int .i64 o2]
          have hXt := hX1.alloc (.cells #[.int .i64 o0, .int .i64 2, .int .i64 o2] 23)
          have hBt := hB2.alloc hB2.size (.cells #[.int .i64 o0, .int .i64 2, .int .i64 o2] 23)
          go_upto_region 10 with (first
            | (go_at_call 33; ((with_reducible refine (hr2 _).mono ?_); rintro e W3 ⟨rfl, rfl⟩))
            | (go_at_call 33; ((with_reducible refine (hr0 _).mono ?_); rintro e W3 ⟨rfl, rfl⟩)))
          clear hr0 hr2 c0 c2 b0 b2 hV2
          generalize W1.alloc (.cells #[.int .i64 o0, .int .i64 2, .int .i64 o2] 23) = Wt at *
          clear hZ hX2 hB3 hV1 hrd hwd hB0 hX0 hB1 hB2 hX1 f0 f1 f2 z0 z1 z2
          have u0 := hZt.cell 0
          have u1 := hZt.cell 1
          have u2 := hZt.cell 2
          go_wp2_with (first
            | (go_at_call 11; ((with_reducible refine (hmy _).mono ?_); rintro e W5 ⟨rfl, hB5⟩; have hZ5 := hZt.below hB5 hZt.lt; have hX5 := hXt.below hB5 hXt.lt; have hB6 := hBt.trans (hB5.mono hBt.size); have v0 := hZ5.cell 0; have v1 := hZ5.cell 1; have v2 := hZ5.cell 2; have e0 := hX5.cell 0; have e1 := hX5.cell 1; have e2 := hX5.cell 2; have g0 := hX5.frozen 0; have g1 := hX5.frozen 1; have g2 := hX5.frozen 2; have hW9 := hB6; have hX9 := hX5))
            | (go_at_call 12; ((with_reducible refine (hln _).mono ?_); rintro e W7 ⟨rfl, hB7⟩; clear hW9 hX9; have hZ7 := hZ5.below hB7 hZ5.lt; have hX9 := hX5.below hB7 hX5.lt; have hW9 := hB6.trans (hB7.mono hB6.size); have p0 := hZ7.cell 0; have p1 := hZ7.cell 1; have p2 := hZ7.cell 2; have s0 := hX9.cell 0; have s1 := hX9.cell 1; have s2 := hX9.cell 2; have t0 := hX9.frozen 0; have t1 := hX9.frozen 1; have t2 := hX9.frozen 2)))
          exact or_ret rfl w.heap.size rfl _ rfl _ (put3 hX9 _ _ _) rfl rfl ⟨rfl, below_put3 hW9 (Nat.le_refl _) _ _ _⟩
        · have hoe : (o0, o1, o2) = (((readT (ps.getD 0 [])).1, 0, 0) : Or) := by
            rw [← ho]
            unfold refG
            rw [hlen, if_pos h0, if_neg h2, if_neg h3, if_neg h3]
          have h2z : ((n1 : Int) == 2) = false := by simp; omega
          have h3z : ((n1 : Int) == 3) = false := by simp; omega
          have h4z : (0 : Int) < (n1 : Int) := by omega
          have q0 : (readT (ps.getD 0 [])).1 = o0 := (congrArg (fun x => x.1) hoe).symm
          obtain rfl : o1 = 0 := congrArg (fun x => x.2.1) hoe
          obtain rfl : o2 = 0 := congrArg (fun x => x.2.2) hoe
          clear hoe
          rw [q0] at hr0
          clear q0
          (try dsimp only at hmy)
          (try dsimp only at hln)
          clear ho hlen
          generalize ps.getD 0 [] = p0 at *
          generalize (readT p0).2 = s0 at *
          have hZt := Has.new W1 23 #[.int .i64 o0, .int .i64 0, .int .i64 0]
          have hXt := hX1.alloc (.cells #[.int .i64 o0, .int .i64 0, .int .i64 0] 23)
          have hBt := hB2.alloc hB2.size (.cells #[.int .i64 o0, .int .i64 0, .int .i64 0] 23)
          go_upto_region 10 with (go_at_call 33; ((with_reducible refine (hr0 _).mono ?_); rintro e W3 ⟨rfl, rfl⟩))
          clear hr0 c0 b0 hV2
          generalize W1.alloc (.cells #[.int .i64 o0, .int .i64 0, .int .i64 0] 23) = Wt at *
          clear hZ hX2 hB3 hV1 hrd hwd hB0 hX0 hB1 hB2 hX1 f0 f1 f2 z0 z1 z2
          have u0 := hZt.cell 0
          have u1 := hZt.cell 1
          have u2 := hZt.cell 2
          go_wp2_with (first
            | (go_at_call 11; ((with_reducible refine (hmy _).mono ?_); rintro e W5 ⟨rfl, hB5⟩; have hZ5 := hZt.below hB5 hZt.lt; have hX5 := hXt.below hB5 hXt.lt; have hB6 := hBt.trans (hB5.mono hBt.size); have v0 := hZ5.cell 0; have v1 := hZ5.cell 1; have v2 := hZ5.cell 2; have e0 := hX5.cell 0; have e1 := hX5.cell 1; have e2 := hX5.cell 2; have g0 := hX5.frozen 0; have g1 := hX5.frozen 1; have g2 := hX5.frozen 2; have hW9 := hB6; have hX9 := hX5))
            | (go_at_call 12; ((with_reducible refine (hln _).mono ?_); rintro e W7 ⟨rfl, hB7⟩; clear hW9 hX9; have hZ7 := hZ5.below hB7 hZ5.lt; have hX9 := hX5.below hB7 hX5.lt; have hW9 := hB6.trans (hB7.mono hB6.size); have p0 := hZ7.cell 0; have p1 := hZ7.cell 1; have p2 := hZ7.cell 2; have s0 := hX9.cell 0; have s1 := hX9.cell 1; have s2 := hX9.cell 2; have t0 := hX9.frozen 0; have t1 := hX9.frozen 1; have t2 := hX9.frozen 2)))
          exact or_ret rfl w.heap.size rfl _ rfl _ (put3 hX9 _ _ _) rfl rfl ⟨rfl, below_put3 hW9 (Nat.le_refl _) _ _ _⟩
end Go.Proofs.YtmefdgmbpihdfaaDoor.Order
