/- What the proofs stand on, part 4. -/
import Derived.Test.YtejlhdmfcmhlaaaPack3
import Derived.Test.YtejlhdmfcmhlaaaPack1
import Derived.Test.YtejlhdmfcmhlaaaPack2
section
/- What the reference of layer 15 answers. -/
set_option linter.unusedSimpArgs false
set_option linter.unusedVariables false
namespace Go.Proofs.Ytejlhdmfcmhlaaa.Chain
open Go.RowKit RI64
open Notch (notchT Known)
open Low (lowT)
open High (highT)
open Slope (slopeT squareT)
open Win (winT)
theorem refnear_any (v : Int) (w : World) : Calls Try.prog 15 #[.int .i32 v] w fun e w' => e = .returned (.int .i64 (near16 v)) ∧ w = w' := by
  have hb := near16_bd v
  rw [near16_ifs] at hb ⊢
  go_enter Try.func15, Try.ntmps15
  go_wp2
  all_goals
    go_ret
    exact ⟨rfl, rfl⟩
theorem refmay_yes {m : Nat} (hm : Known m) (w : World) : Calls Try.prog 9 #[.int .i64 (m : Nat)] w fun e w' => e = .returned (.bool true) ∧ w = w' := by
  rcases hm with rfl | rfl | rfl
  all_goals
    go_enter Try.func9, Try.ntmps9
    go_wp2
    go_ret
    exact ⟨rfl, rfl⟩
theorem refmay_no (m : Int) (w : World) (h : m ≠ 0 ∧ m ≠ 50 ∧ m ≠ 60) : Calls Try.prog 9 #[.int .i64 m] w fun e w' => e = .returned (.bool false) ∧ w = w' := by
  have h1 : (m == 0) = false := by simp [h]
  have h2 : (m == 50) = false := by simp [h]
  have h3 : (m == 60) = false := by simp [h]
  go_enter Try.func9, Try.ntmps9
  go_wp2
  go_ret
  exact ⟨rfl, rfl⟩
theorem map_step {α β : Type} (f : α → β) (ys : List α) (d : α) (j : Nat) (hj : j < ys.length) : (ys.take (j + 1)).map f = (ys.take j).map f ++ [f (ys.getD j d)] := by
  rw [List.take_succ_eq_append_getElem hj, List.map_append, List.getD_eq_getElem?_getD, List.getElem?_eq_getElem hj]
  rfl
set_option maxRecDepth 100000 in
set_option maxHeartbeats 2000000 in
theorem refall_any (m : Nat) (A : Option Addr) (n c : Nat) (ys : List Int) (w : World) (hv : RI32.Vals w A n ys) (hn : n ≤ 100000) (hc : n ≤ c) (hc2 : c ≤ 9223372036854775807) :
    Calls Try.prog 13 #[.int .i64 (m : Nat), .slice A n c] w fun e w' => ∃ B d, e = .returned (.slice B n d) ∧ Row.Vals waveS w' B n (wavesT m [] ys) ∧ Below w.heap.size w w' := by
  have hlen := hv.len_
  have hInfo : (Try.prog.info? 2).map (fun i => (i.zero, i.size, i.bytes)) = some (some (.int .i64 0), 1, 8) := by kernel_rfl
  have HInfo := Lib.hid hInfo
  clear hInfo
  have hne := fun v W => refnear_any v W
  go_enter Try.func13, Try.ntmps13
  go_wp2
  go_loopw [5, 6] (fun v i wr => ∃ j : Nat, j ≤ n ∧ i = .int .i64 (j : Nat) ∧ wr.ownsRow w.heap.size 2 1 v j (vals (List.map (fun v => near16 v - near16 (ys.getD 0 0)) (ys.take j))) ∧ Below w.heap.size w wr) (fun _ i _ => n - (intOf i).toNat)
  case atStart => exact ⟨0, by omega, rfl, own_none _ _ _, Below.refl _ _⟩
  case round =>
    obtain ⟨j, hj, rfl, hO, hB⟩ := hrel
    by_cases hjn : j < n
    · obtain ⟨x, rfl, hcx⟩ := hv.cells (by omega)
      have hc0w := hcx 0 (by omega)
      have hcjw := hcx j hjn
      have hb0 := near16_bd (ys.getD 0 0)
      have hbj := near16_bd (ys.getD j 0)
      have HST := Lib.hid (map_step (fun v => near16 v - near16 (ys.getD 0 0)) ys 0 j (by omega))
      obtain ⟨v0, hv0⟩ : ∃ v, ys.getD 0 0 = v := ⟨_, rfl⟩
      obtain ⟨vj, hvj⟩ : ∃ v, ys.getD j 0 = v := ⟨_, rfl⟩
      rw [hv0] at hc0w hb0
      rw [hvj] at hcjw hbj
      have hwd : IntKind.i64.wrap (near16 vj - near16 v0) = near16 vj - near16 v0 := by rw [IntKind.wrap_i64]; omega
      rw [show x.add 0 = x by simp [Addr.add]] at hc0w
      have hl0 := World.block_lt_of_cell? _ _ hc0w
      have hlj := World.block_lt_of_cell? _ _ hcjw
      have hc0 := (hB.cell hl0).trans hc0w
      have hcj := (hB.cell hlj).trans hcjw
      have hjz : (0 : Int) ≤ (j : Int) ∧ (j : Int) < (n : Int) := by omega
      have h0z : (0 : Int) < (n : Int) := by omega
      have h0n : 0 < n := by omega
      rw [hv0] at HST hO
      rw [hvj] at HST
      have HV0 := Lib.hid hv0
      clear hcx hv0 hvj hlen hv
      go_wp2
      refine Reg.begin_ (S := fun W => W.cell? x = some (.int .i32 v0) ∧ W.cell? (x.add j) = some (.int .i32 vj)) (by kernel_rfl) (by exact ⟨hc0, hcj⟩) (fun hHeld => ?_)
      have hOd : World.ownsRow wr.drew w.heap.size 2 1 u5 j (vals (List.map (fun v => near16 v - near16 v0) (ys.take j))) := own_drewN hO 1
      have hBd : Below w.heap.size w wr.drew := below_drewN hB 1
      replace hc0 : wr.drew.cell? x = some (.int .i32 v0) := hc0
      replace hcj : wr.drew.cell? (x.add j) = some (.int .i32 vj) := hcj
      clear hO hB
      generalize wr.drew = wd at *
      refine Reg.take (i := 0) (v := ?v1) rfl (by kernel_rfl) (by kernel_rfl) (by kernel_rfl) (by rfl) ?hv1 (by assumption) ?rest1
      case hv1 => first | (intro w hSw; (try dsimp only at hSw); go_simp; done) | (intro w hSw; (try dsimp only at hSw); go_simp; with_reducible rfl)
      (try simp only [Act.put, List.setIfInBounds_toArray, List.set_cons_zero, List.set_cons_succ])
      refine Reg.take (i := 1) (v := ?v2) rfl (by kernel_rfl) (by kernel_rfl) (by kernel_rfl) (by rfl) ?hv2 (by assumption) ?rest2
      case hv2 => first | (intro w hSw; (try dsimp only at hSw); go_simp; done) | (intro w hSw; (try dsimp only at hSw); go_simp; with_reducible rfl)
      (try simp only [Act.put, List.setIfInBounds_toArray, List.set_cons_zero, List.set_cons_succ])
      refine Reg.take (i := 2) (v := ?v3) rfl (by kernel_rfl) (by kernel_rfl) (by kernel_rfl) (by rfl) ?hv3 (by assumption) ?rest3
      case hv3 => first | (intro w hSw; (try dsimp only at hSw); go_simp; done) | (intro w hSw; (try dsimp only at hSw); go_simp; with_reducible rfl)
      (try simp only [Act.put, List.setIfInBounds_toArray, List.set_cons_zero, List.set_cons_succ])
      refine Reg.take (i := 3) (v := ?v4) rfl (by kernel_rfl) (by kernel_rfl) (by kernel_rfl) (by rfl) ?hv4 (by assumption) ?rest4
      case hv4 => first | (intro w hSw; (try dsimp only at hSw); go_simp; done) | (intro w hSw; (try dsimp only at hSw); go_simp; with_reducible rfl)
      (try simp only [Act.put, List.setIfInBounds_toArray, List.set_cons_zero, List.set_cons_succ])
      refine Reg.take (i := 4) (v := ?v5) rfl (by kernel_rfl) (by kernel_rfl) (by kernel_rfl) (by rfl) ?hv5 (by assumption) ?rest5
      case hv5 => first | (intro w hSw; (try dsimp only at hSw); go_simp; done) | (intro w hSw; (try dsimp only at hSw); go_simp; with_reducible rfl)
      (try simp only [Act.put, List.setIfInBounds_toArray, List.set_cons_zero, List.set_cons_succ])
      refine Reg.take (i := 6) (v := ?v6) rfl (by kernel_rfl) (by kernel_rfl) (by kernel_rfl) (by rfl) ?hv6 (by assumption) ?rest6
      case hv6 => first | (intro w hSw; (try dsimp only at hSw); go_simp; done) | (intro w hSw; (try dsimp only at hSw); go_simp; with_reducible rfl)
      (try simp only [Act.put, List.setIfInBounds_toArray, List.set_cons_zero, List.set_cons_succ])
      refine Reg.take (i := 7) (v := ?v7) rfl (by kernel_rfl) (by kernel_rfl) (by kernel_rfl) (by rfl) ?hv7 (by assumption) ?rest7
      case hv7 => first | (intro w hSw; (try dsimp only at hSw); go_simp; done) | (intro w hSw; (try dsimp only at hSw); go_simp; with_reducible rfl)
      (try simp only [Act.put, List.setIfInBounds_toArray, List.set_cons_zero, List.set_cons_succ])
      refine Reg.take (i := 8) (v := ?v8) rfl (by kernel_rfl) (by kernel_rfl) (by kernel_rfl) (by rfl) ?hv8 (by assumption) ?rest8
      case hv8 => first | (intro w hSw; (try dsimp only at hSw); go_simp; done) | (intro w hSw; (try dsimp only at hSw); go_simp; with_reducible rfl)
      (try simp only [Act.put, List.setIfInBounds_toArray, List.set_cons_zero, List.set_cons_succ])
      refine Reg.call (i := 5) rfl (by kernel_rfl) (by rfl) ?_
      intro K hK
      go_simp
      go_at_call 15
      (with_reducible refine (hne _ _).mono ?_)
      rintro e W1 ⟨rfl, rfl⟩
      refine hK.out _ _ (by exact ⟨hc0, hcj⟩) (fun hHeld2 => ?_)
      clear hK K
      (try simp only [Act.put, List.setIfInBounds_toArray, List.set_cons_zero, List.set_cons_succ])
      refine Reg.call (i := 9) rfl (by kernel_rfl) (by rfl) ?_
      intro K hK
      go_simp
      go_at_call 15
      (with_reducible refine (hne _ _).mono ?_)
      rintro e W1 ⟨rfl, rfl⟩
      refine hK.out _ _ (by exact ⟨hc0, hcj⟩) (fun hHeld2 => ?_)
      clear hK K
      (try simp only [Act.put, List.setIfInBounds_toArray, List.set_cons_zero, List.set_cons_succ])
      refine Reg.take (i := 10) (v := ?v9) rfl (by kernel_rfl) (by kernel_rfl) (by kernel_rfl) (by rfl) ?hv9 (by assumption) ?rest9
      case hv9 => first | (intro w hSw; (try dsimp only at hSw); go_simp; done) | (intro w hSw; (try dsimp only at hSw); go_simp; with_reducible rfl)
      (try simp only [Act.put, List.setIfInBounds_toArray, List.set_cons_zero, List.set_cons_succ])
      have hVa : Vals (wd.alloc (.cells #[.int .i64 (near16 vj - near16 v0)] 2)) (some ⟨wd.heap.size, 0, none⟩) 1 [near16 vj - near16 v0] := Vals.has (ys := [near16 vj - near16 v0]) (tl := []) (Has.new wd _ _)
      have hOa := own_kept hOd ((Kept.refl [] wd).alloc (.cells #[.int .i64 (near16 vj - near16 v0)] 2)) (by simp)
      have hBa := hBd.alloc hBd.size (.cells #[.int .i64 (near16 vj - near16 v0)] 2)
      refine Reg.call (i := 11) rfl (by kernel_rfl) (by rfl) ?_
      intro K hK
      go_simp
      refine hK.out _ _ (by exact ⟨(hBa.cell hl0).trans hc0w, (hBa.cell hlj).trans hcjw⟩) (fun hHeld3 => ?_)
      clear hK K
      (try simp only [Act.put, List.setIfInBounds_toArray, List.set_cons_zero, List.set_cons_succ])
      refine Reg.call (i := 12) rfl (by kernel_rfl) (by rfl) ?_
      intro K hK
      refine wp_append_one (.tmp 20) (.tmp 31) _ rfl w.heap.size 2 8 (by omega) Try.underlying63 HInfo.out u5 j (List.map (fun v => near16 v - near16 v0) (ys.take j)) rfl (by exact hOa) (some ⟨wd.heap.size, 0, none⟩) 1 1 [near16 vj - near16 v0] rfl (by exact hVa) (by omega) (by exact hBa.size) ?_
      intro v9 W3 hO3 hg3 hat3
      have hB3 := below_kept hBa (Kept.of_grown hg3) hBa.size (own_in hOa)
      rw [← HST.out] at hO3
      refine hK.out _ _ (by exact ⟨(hB3.cell hl0).trans hc0w, (hB3.cell hlj).trans hcjw⟩) (fun hHeld4 => ?_)
      clear hK K
      (try simp only [Act.put, List.setIfInBounds_toArray, List.set_cons_zero, List.set_cons_succ])
      refine Reg.take (i := 13) (v := ?v10) rfl (by kernel_rfl) (by kernel_rfl) (by kernel_rfl) (by rfl) ?hv10 (by assumption) ?rest10
      case hv10 => first | (intro w hSw; (try dsimp only at hSw); go_simp; done) | (intro w hSw; (try dsimp only at hSw); go_simp; with_reducible rfl)
      (try simp only [Act.put, List.setIfInBounds_toArray, List.set_cons_zero, List.set_cons_succ])
      refine Reg.done (by kernel_rfl) ?_ _
      go_wp2
      go_roundw
      case rel => exact ⟨j + 1, by omega, by go_num, by rw [HV0.out]; exact hO3, hB3⟩
      case measure => simp [intOf]; omega
    · obtain rfl : n = j := by omega
      rw [List.take_of_length_le (by omega)] at hO
      obtain ⟨A1, c1, rfl, e1, e2, hV1, hfar1, _⟩ := Vals.own hO
      have hq1 := Notch.refall_any m A1 n c1 _ wr hV1 hn e1 e2
      rw [n_ref] at hq1
      have HLEN := Lib.hid hlen
      clear hO hfar1 hlen hV1 hv hne hj hjn
      go_wp2_with (first
        | (go_at_call 26; ((with_reducible refine hq1.mono ?_); rintro e W1 ⟨B1, d1, rfl, e3, e4, hV2, hf2, hB2⟩; have hC1 := hB.trans (hB2.mono hB.size); have hq2 := Low.refall_any B1 n d1 _ W1 hV2 hn e3 e4; rw [l_ref] at hq2; clear hq1))
        | (go_at_call 25; ((with_reducible refine hq2.mono ?_); rintro e W2 ⟨B2, d2, rfl, e5, e6, hV3, hf3, hB3⟩; have hC2 := hC1.trans (hB3.mono hC1.size); have hq3 := High.refall_any B2 n d2 _ W2 hV3 hn e5 e6; rw [h_ref] at hq3; clear hq2 hV2))
        | (go_at_call 24; ((with_reducible refine hq3.mono ?_); rintro e W3 ⟨B3, d3, rfl, e7, e8, hV4, hf4, hB4⟩; have hC3 := hC2.trans (hB4.mono hC2.size); have hq4 := Slope.refall_any B3 n d3 _ W3 hV4 hn e7 e8; rw [d_ref] at hq4; clear hq3 hV3))
        | (go_at_call 27; ((with_reducible refine hq4.mono ?_); rintro e W4 ⟨B4, d4, rfl, e9, e10, hVd, hf5, hB5⟩; have hC4 := hC3.trans (hB5.mono hC3.size); have hVh := hV4.below hB5; clear hq4 hV4)))
      clear hB hB2 hB3 hB4 hB5 hC1 hC2 hC3 hf2 hf3 hf4 hf5 e1 e2 e3 e4 e5 e6
      go_loopw [9, 10] (fun v i wr => ∃ j : Nat, j ≤ n ∧ i = .int .i64 (j : Nat) ∧ wr.ownsRow W4.heap.size 2 1 v j (vals (List.map squareT ((dT m ys.reverse).reverse.take j))) ∧ Below W4.heap.size W4 wr) (fun _ i _ => n - (intOf i).toNat)
      case atStart => exact ⟨0, by omega, rfl, own_none _ _ _, Below.refl _ _⟩
      case round =>
        obtain ⟨j, hj, rfl, hO, hB⟩ := hrel
        by_cases hjn : j < n
        · obtain ⟨x, rfl, hcx⟩ := (hVd.below hB).cells (by omega)
          have hcj := hcx j hjn
          have hfd := d_fits m ys.reverse j
          have HST := Lib.hid (map_step squareT (dT m ys.reverse).reverse 0 j (by have := hVd.len_; omega))
          generalize (dT m ys.reverse).reverse.getD j 0 = dj at *
          have hsq := fun W => Slope.refsquare_any dj W (by unfold fits64; omega)
          generalize squareT dj = sj at *
          clear hcx hVd hVh
          go_wp2_with (first
            | (go_at_call 28; ((with_reducible refine (hsq _).mono ?_); rintro e W5 ⟨rfl, rfl⟩; have hP := one_ready 2 sj hO hB))
            | (at_builtin; refine wpList_append_vals rfl (.tmp 46) (.tmp 52) _ rfl W4.heap.size 2 8 (by omega) Try.underlying63 HInfo.out u9 j (List.map squareT ((dT m ys.reverse).reverse.take j)) rfl (by exact hP.1) _ 1 1 [sj] rfl (by exact hP.2.2) (by omega) (by exact hP.2.1.size) ?_; intro v3 W6 hO3 hg3 hat3; have hB3 := below_kept hP.2.1 (Kept.of_grown hg3) hP.2.1.size (own_in hP.1); rw [← HST.out] at hO3))
          go_roundw
          case rel => exact ⟨j + 1, by omega, by go_num, hO3, hB3⟩
          case measure => simp [intOf]; omega
        · obtain rfl : n = j := by omega
          rw [List.take_of_length_le (by have := hVd.len_; omega), e_ref] at hO
          obtain ⟨A5, c5, rfl, e1, e2, hVe, hfar5, _⟩ := Vals.own hO
          have hq5 := Win.refall_any A5 n c5 _ _ hVe hn e1 e2
          replace hVd := hVd.below hB
          replace hVh := hVh.below hB
          have hC5 := hC4.trans (hB.mono hC4.size)
          clear hO hfar5 hj hjn hB
          go_wp2_with (go_at_call 29; ((with_reducible refine hq5.mono ?_); rintro e W7 ⟨B7, d7, rfl, e3, e4, hVw, hf7, hB7⟩; have hC7 := hC5.trans (hB7.mono hC5.size); replace hVd := hVd.below hB7; replace hVh := hVh.below hB7; replace hVe := hVe.below hB7))
          clear hq5 hB7 hC5 hC4 hf7
          have hInfW : (Try.prog.info? 39).map (fun i => (i.zero, i.size, i.bytes)) = some (some (.agg #[.int .i64 0, .int .i64 0, .int .i64 0, .int .i64 0]), 4, 32) := by kernel_rfl
          have HInfW := Lib.hid hInfW
          clear hInfW
          go_loopw [12, 13] (fun v i wr => ∃ j : Nat, j ≤ n ∧ i = .int .i64 (j : Nat) ∧ wr.ownsRow W7.heap.size 39 4 v j (Row.flat waveS (wavesT m [] (ys.take j))) ∧ Below W7.heap.size W7 wr) (fun _ i _ => n - (intOf i).toNat)
          case atStart => exact ⟨0, by omega, rfl, Row.own_none _ _ _, Below.refl _ _⟩
          case round =>
            obtain ⟨j, hj, rfl, hO, hB⟩ := hrel
            by_cases hjn : j < n
            · obtain ⟨x, rfl, hch⟩ := hVh.cells (by omega)
              obtain ⟨y, rfl, hcd⟩ := hVd.cells (by omega)
              obtain ⟨z, rfl, hce⟩ := hVe.cells (by omega)
              obtain ⟨q, rfl, hcw⟩ := hVw.cells (by omega)
              have k1 := hch j hjn
              have k2 := hcd j hjn
              have k3 := hce j hjn
              have k4 := hcw j hjn
              have hwa := wave_at m ys j (by have := HLEN.out; omega)
              have hst := waves_step m [] ys j (by have := HLEN.out; omega)
              rw [List.append_nil, ← hwa] at hst
              generalize (hT m ys.reverse).reverse.getD j 0 = x1 at *
              generalize (dT m ys.reverse).reverse.getD j 0 = x2 at *
              generalize (eT m ys.reverse).reverse.getD j 0 = x3 at *
              generalize (outsT winT [] (eT m ys.reverse).reverse).getD j 0 = x4 at *
              have HST := Lib.hid hst
              have l1 := World.block_lt_of_cell? _ _ k1
              have l2 := World.block_lt_of_cell? _ _ k2
              have l3 := World.block_lt_of_cell? _ _ k3
              have l4 := World.block_lt_of_cell? _ _ k4
              have hjz : (0 : Int) ≤ (j : Int) ∧ (j : Int) < (n : Int) := by omega
              clear hst hwa hch hcd hce hcw hVh hVd hVe hVw
              go_wp2
              have hOd : World.ownsRow wr.drew W7.heap.size 39 4 u12 j (Row.flat waveS (wavesT m [] (ys.take j))) := own_kept hO ((Kept.refl [] _).drewN 1) (by simp)
              have hBd : Below W7.heap.size W7 wr.drew := below_drewN hB 1
              clear hO hB
              refine Reg.begin_ (S := fun W => W.cell? (x.add j) = some (.int .i64 x1) ∧ W.cell? (y.add j) = some (.int .i64 x2) ∧ W.cell? (z.add j) = some (.int .i64 x3) ∧ W.cell? (q.add j) = some (.int .i64 x4)) (by kernel_rfl) (by exact ⟨(hBd.cell l1).trans k1, (hBd.cell l2).trans k2, (hBd.cell l3).trans k3, (hBd.cell l4).trans k4⟩) (fun hHeld => ?_)
              generalize wr.drew = wd at *
              refine Reg.take (i := 0) (v := ?v11) rfl (by kernel_rfl) (by kernel_rfl) (by kernel_rfl) (by rfl) ?hv11 (by assumption) ?rest11
              case hv11 => first | (intro w hSw; (try dsimp only at hSw); go_simp; done) | (intro w hSw; (try dsimp only at hSw); go_simp; with_reducible rfl)
              (try simp only [Act.put, List.setIfInBounds_toArray, List.set_cons_zero, List.set_cons_succ])
              refine Reg.take (i := 1) (v := ?v12) rfl (by kernel_rfl) (by kernel_rfl) (by kernel_rfl) (by rfl) ?hv12 (by assumption) ?rest12
              case hv12 => first | (intro w hSw; (try dsimp only at hSw); go_simp; done) | (intro w hSw; (try dsimp only at hSw); go_simp; with_reducible rfl)
              (try simp only [Act.put, List.setIfInBounds_toArray, List.set_cons_zero, List.set_cons_succ])
              refine Reg.take (i := 2) (v := ?v13) rfl (by kernel_rfl) (by kernel_rfl) (by kernel_rfl) (by rfl) ?hv13 (by assumption) ?rest13
              case hv13 => first | (intro w hSw; (try dsimp only at hSw); go_simp; done) | (intro w hSw; (try dsimp only at hSw); go_simp; with_reducible rfl)
              (try simp only [Act.put, List.setIfInBounds_toArray, List.set_cons_zero, List.set_cons_succ])
              refine Reg.take (i := 3) (v := ?v14) rfl (by kernel_rfl) (by kernel_rfl) (by kernel_rfl) (by rfl) ?hv14 (by assumption) ?rest14
              case hv14 => first | (intro w hSw; (try dsimp only at hSw); go_simp; done) | (intro w hSw; (try dsimp only at hSw); go_simp; with_reducible rfl)
              (try simp only [Act.put, List.setIfInBounds_toArray, List.set_cons_zero, List.set_cons_succ])
              refine Reg.take (i := 4) (v := ?v15) rfl (by kernel_rfl) (by kernel_rfl) (by kernel_rfl) (by rfl) ?hv15 (by assumption) ?rest15
              case hv15 => first | (intro w hSw; (try dsimp only at hSw); go_simp; done) | (intro w hSw; (try dsimp only at hSw); go_simp; with_reducible rfl)
              (try simp only [Act.put, List.setIfInBounds_toArray, List.set_cons_zero, List.set_cons_succ])
              refine Reg.take (i := 5) (v := ?v16) rfl (by kernel_rfl) (by kernel_rfl) (by kernel_rfl) (by rfl) ?hv16 (by assumption) ?rest16
              case hv16 => first | (intro w hSw; (try dsimp only at hSw); go_simp; done) | (intro w hSw; (try dsimp only at hSw); go_simp; with_reducible rfl)
              (try simp only [Act.put, List.setIfInBounds_toArray, List.set_cons_zero, List.set_cons_succ])
              refine Reg.take (i := 6) (v := ?v17) rfl (by kernel_rfl) (by kernel_rfl) (by kernel_rfl) (by rfl) ?hv17 (by assumption) ?rest17
              case hv17 => first | (intro w hSw; (try dsimp only at hSw); go_simp; done) | (intro w hSw; (try dsimp only at hSw); go_simp; with_reducible rfl)
              (try simp only [Act.put, List.setIfInBounds_toArray, List.set_cons_zero, List.set_cons_succ])
              refine Reg.take (i := 7) (v := ?v18) rfl (by kernel_rfl) (by kernel_rfl) (by kernel_rfl) (by rfl) ?hv18 (by assumption) ?rest18
              case hv18 => first | (intro w hSw; (try dsimp only at hSw); go_simp; done) | (intro w hSw; (try dsimp only at hSw); go_simp; with_reducible rfl)
              (try simp only [Act.put, List.setIfInBounds_toArray, List.set_cons_zero, List.set_cons_succ])
              refine Reg.take (i := 8) (v := ?v19) rfl (by kernel_rfl) (by kernel_rfl) (by kernel_rfl) (by rfl) ?hv19 (by assumption) ?rest19
              case hv19 => first | (intro w hSw; (try dsimp only at hSw); go_simp; done) | (intro w hSw; (try dsimp only at hSw); go_simp; with_reducible rfl)
              (try simp only [Act.put, List.setIfInBounds_toArray, List.set_cons_zero, List.set_cons_succ])
              refine Reg.take (i := 9) (v := ?v20) rfl (by kernel_rfl) (by kernel_rfl) (by kernel_rfl) (by rfl) ?hv20 (by assumption) ?rest20
              case hv20 => first | (intro w hSw; (try dsimp only at hSw); go_simp; done) | (intro w hSw; (try dsimp only at hSw); go_simp; with_reducible rfl)
              (try simp only [Act.put, List.setIfInBounds_toArray, List.set_cons_zero, List.set_cons_succ])
              refine Reg.take (i := 10) (v := ?v21) rfl (by kernel_rfl) (by kernel_rfl) (by kernel_rfl) (by rfl) ?hv21 (by assumption) ?rest21
              case hv21 => first | (intro w hSw; (try dsimp only at hSw); go_simp; done) | (intro w hSw; (try dsimp only at hSw); go_simp; with_reducible rfl)
              (try simp only [Act.put, List.setIfInBounds_toArray, List.set_cons_zero, List.set_cons_succ])
              refine Reg.take (i := 11) (v := ?v22) rfl (by kernel_rfl) (by kernel_rfl) (by kernel_rfl) (by rfl) ?hv22 (by assumption) ?rest22
              case hv22 => first | (intro w hSw; (try dsimp only at hSw); go_simp; done) | (intro w hSw; (try dsimp only at hSw); go_simp; with_reducible rfl)
              (try simp only [Act.put, List.setIfInBounds_toArray, List.set_cons_zero, List.set_cons_succ])
              refine Reg.take (i := 12) (v := ?v23) rfl (by kernel_rfl) (by kernel_rfl) (by kernel_rfl) (by rfl) ?hv23 (by assumption) ?rest23
              case hv23 => first | (intro w hSw; (try dsimp only at hSw); go_simp; done) | (intro w hSw; (try dsimp only at hSw); go_simp; with_reducible rfl)
              (try simp only [Act.put, List.setIfInBounds_toArray, List.set_cons_zero, List.set_cons_succ])
              refine Reg.take (i := 13) (v := ?v24) rfl (by kernel_rfl) (by kernel_rfl) (by kernel_rfl) (by rfl) ?hv24 (by assumption) ?rest24
              case hv24 => first | (intro w hSw; (try dsimp only at hSw); go_simp; done) | (intro w hSw; (try dsimp only at hSw); go_simp; with_reducible rfl)
              (try simp only [Act.put, List.setIfInBounds_toArray, List.set_cons_zero, List.set_cons_succ])
              refine Reg.take (i := 14) (v := ?v25) rfl (by kernel_rfl) (by kernel_rfl) (by kernel_rfl) (by rfl) ?hv25 (by assumption) ?rest25
              case hv25 => first | (intro w hSw; (try dsimp only at hSw); go_simp; done) | (intro w hSw; (try dsimp only at hSw); go_simp; with_reducible rfl)
              (try simp only [Act.put, List.setIfInBounds_toArray, List.set_cons_zero, List.set_cons_succ])
              refine Reg.take (i := 15) (v := ?v26) rfl (by kernel_rfl) (by kernel_rfl) (by kernel_rfl) (by rfl) ?hv26 (by assumption) ?rest26
              case hv26 => first | (intro w hSw; (try dsimp only at hSw); go_simp; done) | (intro w hSw; (try dsimp only at hSw); go_simp; with_reducible rfl)
              (try simp only [Act.put, List.setIfInBounds_toArray, List.set_cons_zero, List.set_cons_succ])
              refine Reg.take (i := 16) (v := ?v27) rfl (by kernel_rfl) (by kernel_rfl) (by kernel_rfl) (by rfl) ?hv27 (by assumption) ?rest27
              case hv27 => first | (intro w hSw; (try dsimp only at hSw); go_simp; done) | (intro w hSw; (try dsimp only at hSw); go_simp; with_reducible rfl)
              (try simp only [Act.put, List.setIfInBounds_toArray, List.set_cons_zero, List.set_cons_succ])
              refine Reg.take (i := 17) (v := ?v28) rfl (by kernel_rfl) (by kernel_rfl) (by kernel_rfl) (by rfl) ?hv28 (by assumption) ?rest28
              case hv28 => first | (intro w hSw; (try dsimp only at hSw); go_simp; done) | (intro w hSw; (try dsimp only at hSw); go_simp; with_reducible rfl)
              (try simp only [Act.put, List.setIfInBounds_toArray, List.set_cons_zero, List.set_cons_succ])
              clear hHeld
              have hVa : Row.Vals waveS (wd.alloc (.cells #[.int .i64 x1, .int .i64 x2, .int .i64 x3, .int .i64 x4] 39)) (some ⟨wd.heap.size, 0, none⟩) 1 [(x1, x2, x3, x4)] := Row.Vals.has (ys := [(x1, x2, x3, x4)]) (tl := []) (Has.new wd _ _)
              have hOa := own_kept hOd ((Kept.refl [] wd).alloc (.cells #[.int .i64 x1, .int .i64 x2, .int .i64 x3, .int .i64 x4] 39)) (by simp)
              have hBa := hBd.alloc hBd.size (.cells #[.int .i64 x1, .int .i64 x2, .int .i64 x3, .int .i64 x4] 39)
              refine Reg.call (i := 18) rfl (by kernel_rfl) (by rfl) ?_
              intro K hK
              go_simp
              refine hK.out _ _ (by exact ⟨(hBa.cell l1).trans k1, (hBa.cell l2).trans k2, (hBa.cell l3).trans k3, (hBa.cell l4).trans k4⟩) (fun hHeld => ?_)
              clear hK K
              (try simp only [Act.put, List.setIfInBounds_toArray, List.set_cons_zero, List.set_cons_succ])
              refine Reg.call (i := 19) rfl (by kernel_rfl) (by rfl) ?_
              intro K hK
              refine Row.wp_append (S := waveS) (.tmp 62) (.tmp 80) _ rfl W7.heap.size 39 _ 32 (by omega) Try.underlying30 HInfW.out (by kernel_rfl) u12 j (wavesT m [] (ys.take j)) rfl (by exact hOa) (some ⟨wd.heap.size, 0, none⟩) 1 1 [(x1, x2, x3, x4)] rfl (by exact hVa) (by omega) (by exact hBa.size) ?_
              intro v9 W8 hO3 hg3 hat3
              have hB3 := below_kept hBa (Kept.of_grown hg3) hBa.size (own_in hOa)
              rw [← HST.out] at hO3
              refine hK.out _ _ (by exact ⟨(hB3.cell l1).trans k1, (hB3.cell l2).trans k2, (hB3.cell l3).trans k3, (hB3.cell l4).trans k4⟩) (fun hHeld => ?_)
              clear hK K
              (try simp only [Act.put, List.setIfInBounds_toArray, List.set_cons_zero, List.set_cons_succ])
              refine Reg.take (i := 20) (v := ?v29) rfl (by kernel_rfl) (by kernel_rfl) (by kernel_rfl) (by rfl) ?hv29 (by assumption) ?rest29
              case hv29 => first | (intro w hSw; (try dsimp only at hSw); go_simp; done) | (intro w hSw; (try dsimp only at hSw); go_simp; with_reducible rfl)
              (try simp only [Act.put, List.setIfInBounds_toArray, List.set_cons_zero, List.set_cons_succ])
              refine Reg.done (by kernel_rfl) ?_ _
              go_wp2
              go_roundw
              case rel => exact ⟨j + 1, by omega, by go_num, hO3, hB3⟩
              case measure => simp [intOf]; omega
            · obtain rfl : n = j := by omega
              rw [List.take_of_length_le (by have := HLEN.out; omega)] at hO
              obtain ⟨A9, c9, rfl, _, _, hV9, _, _⟩ := Row.Vals.own hO
              have hC9 := hC7.trans (hB.mono hC7.size)
              clear hO hVh hVd hVe hVw
              go_wp2
              go_ret
              exact ⟨A9, c9, rfl, hV9, hC9⟩
end Go.Proofs.Ytejlhdmfcmhlaaa.Chain
end
section
/- What the laws of layer 15 have in hand: samples and waves that came in, a chain that was left alone. -/
set_option linter.unusedVariables false
namespace Go.Proofs.Ytejlhdmfcmhlaaa.Chain
open Go.RowKit
theorem fil_below {m : Nat} {w w' : World} {b : Nat} {S : List Nat} {h : List Int} (hF : Fil m w b S h) (hB : Below w.heap.size w w') : Fil m w' b S h := fil_kept hF (Kept.of_below (S := []) hB) (fun _ _ h => by cases h)
theorem fil_drewN {m : Nat} {w : World} {b : Nat} {S : List Nat} {h : List Int} (hF : Fil m w b S h) (n : Nat) : Fil m (w.drewN n) b S h := fil_kept hF ((Kept.refl [] w).drewN n) (fun _ _ h => by cases h)
theorem row_fits {w : World} {a : Option Addr} {len cap : Nat} {zs : List Int} (h : IsRow .i32 w a len cap zs) (m : Nat) : ∀ v ∈ zs.take m, -2147483648 ≤ v ∧ v ≤ 2147483647 := fun v hv => by
  rcases h with ⟨_, _, _, rfl⟩ | ⟨x, _, _, _, _, _, h5⟩
  · simp at hv
  · exact bounds_i32 (h5 v (List.mem_of_mem_take hv))
theorem row_fits16 {w : World} {a : Option Addr} {len cap : Nat} {zs : List Int} (h : IsRow .i16 w a len cap zs) (m : Nat) : ∀ v ∈ zs.take m, -32768 ≤ v ∧ v ≤ 32767 := fun v hv => by
  rcases h with ⟨_, _, _, rfl⟩ | ⟨x, _, _, _, _, _, h5⟩
  · simp at hv
  · exact bounds_i16 (h5 v (List.mem_of_mem_take hv))
/-- What a slice from p on reads as. -/
theorem vals_dropIf {w : World} {a : Option Addr} {len cap : Nat} {ys : List Int} (h : RI32.Vals w a len ys) (p : Nat) (hp : p ≤ len) (hc : len ≤ cap) : RI32.Vals w (if cap = p then a else a.map (fun x => x.add p)) (len - p) (ys.drop p) := by
  rcases Decidable.em (cap = p) with h1 | h1
  · rw [if_pos h1]
    exact ⟨by rw [List.length_drop, h.len_], fun h0 => absurd h0 (by omega)⟩
  · rw [if_neg h1]
    exact h.drop p hp
/-- A wave that came in: any. -/
def AnyWave : Wave → Prop := fun _ => True
theorem wave_dec : ∀ vs : List Value, Row.Oks [.int .i64, .int .i64, .int .i64, .int .i64] vs → ∃ z : Wave, waveS.enc z = vs ∧ AnyWave z := fun vs h => by
  obtain ⟨h1, h2⟩ := h
  obtain ⟨v0, e0, n0, rfl, _⟩ := h2 0 _ rfl
  obtain ⟨v1, e1, n1, rfl, _⟩ := h2 1 _ rfl
  obtain ⟨v2, e2, n2, rfl, _⟩ := h2 2 _ rfl
  obtain ⟨v3, e3, n3, rfl, _⟩ := h2 3 _ rfl
  match vs, h1 with
  | [a, b, c, d], _ =>
    simp at e0 e1 e2 e3
    subst e0 e1 e2 e3
    exact ⟨(n0, n1, n2, n3), rfl, trivial⟩
end Go.Proofs.Ytejlhdmfcmhlaaa.Chain
end
