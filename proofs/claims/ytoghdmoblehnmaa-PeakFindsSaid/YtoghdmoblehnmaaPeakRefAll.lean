/- What the reference of layer 16 answers: all peaks, and whether it is rising at the end. -/
import Derived.Test.YtoghdmoblehnmaaPeakRef
set_option linter.unusedSimpArgs false
set_option linter.unusedVariables false
namespace Go.Proofs.Ytoghdmoblehnmaa.Peak
open Go.RowKit
theorem sums_len (L : List (Int × Int)) : (sumsT L).length = L.length := by unfold sumsT; rw [List.length_map]
theorem sums_step (ws ds : List Int) (j : Nat) (h1 : j < ws.length) (h2 : j < ds.length) : (sumsT (ws.zip ds)).take (j + 1) = (sumsT (ws.zip ds)).take j ++ [sumW (ws.getD j 0)] := by
  have hl : j < (ws.zip ds).length := by rw [List.length_zip]; omega
  rw [List.take_succ_eq_append_getElem (by rw [sums_len]; exact hl)]
  congr 2
  unfold sumsT
  rw [List.getElem_map, List.getElem_zip, List.getD_eq_getElem?_getD, List.getElem?_eq_getElem h1]
  rfl
theorem zip_fst (ws ds : List Int) (j : Nat) (h : j < (ws.zip ds).length) : ((ws.zip ds)[j]).2 = ds.getD j 0 := by
  rw [List.getElem_zip, List.getD_eq_getElem?_getD, List.getElem?_eq_getElem (by rw [List.length_zip] at h; omega)]
  rfl
/-- What All answers: the peaks, in memory of their own, and whether it is rising. -/
def AllIs (L : List (Int × Int)) (w : World) (e : Ending) (w' : World) : Prop :=
  ∃ B d, e = .returned (.tuple #[.slice B (runT (.falls none) 0 L).1.length d, .bool (up (runT (.falls none) 0 L).2)]) ∧ (runT (.falls none) 0 L).1.length ≤ d ∧ d ≤ 9223372036854775807 ∧
    Row.Vals peakS w' B (runT (.falls none) 0 L).1.length (runT (.falls none) 0 L).1 ∧ (∀ x, B = some x → w.heap.size ≤ x.block) ∧ Below w.heap.size w w'
theorem rise_no {L : List (Int × Int)} {a : Nat} {r : Int} (h : RiseIs L a r) (hr : r < 0) : ∃ o, runT (.falls none) (a : Int) (L.drop a) = ([], .falls o) := by
  rcases h with ⟨_, h⟩ | ⟨i, rfl, _⟩
  · exact h
  · omega
theorem rise_yes {L : List (Int × Int)} {a : Nat} {r : Int} (h : RiseIs L a r) (hr : ¬ r < 0) : ∃ i : Nat, r = (i : Int) ∧ a ≤ i ∧ ∃ h : i < L.length, runT (.falls none) (a : Int) (L.drop a) = runT (.rises (sumW L[i].1) (i : Int) (distD L[i].2)) ((i : Int) + 1) (L.drop (i + 1)) := by
  rcases h with ⟨rfl, h⟩ | h
  · omega
  · exact h
theorem fall_no {L : List (Int × Int)} {a : Nat} {ha : a < L.length} {r q : Int} (h : FallIs L a ha r q) (hr : r < 0) : ∃ t b p, runT (.rises (sumW L[a].1) (a : Int) (distD L[a].2)) ((a : Int) + 1) (L.drop (a + 1)) = ([], .rises t b p) := by
  rcases h with ⟨_, h⟩ | ⟨i, k, rfl, _⟩
  · exact h
  · omega
theorem fall_yes {L : List (Int × Int)} {a : Nat} {ha : a < L.length} {r q : Int} (h : FallIs L a ha r q) (hr : ¬ r < 0) : ∃ i k : Nat, r = (i : Int) ∧ q = (k : Int) ∧ a < i ∧ k < i ∧ i < L.length ∧ a ≤ k ∧ ∃ h : k < L.length,
    runT (.rises (sumW L[a].1) (a : Int) (distD L[a].2)) ((a : Int) + 1) (L.drop (a + 1)) = (((k : Int), (i : Int), sumW L[k].1, steepsT (seg L a (i + 1))) :: (runT (.falls none) (i : Int) (L.drop i)).1, (runT (.falls none) (i : Int) (L.drop i)).2) := by
  rcases h with ⟨rfl, h⟩ | h
  · omega
  · exact h
theorem steep_near (d : Int) : Slope.steepT [nearTo 107136 d] = distD d := by
  have h := distD_bd d
  unfold distD at h ⊢
  unfold Slope.steepT Slope.steepT
  split <;> omega
theorem own_stays {w w' : World} {base : Nat} {e : TypeId} {size n : Nat} {v : Value} {xs : List Value} (h : w.ownsRow base e size v n xs) (hB : Below w.heap.size w w') : w'.ownsRow base e size v n xs := own_off h (Kept.of_below (S := []) hB) (fun _ _ => by simp)
set_option maxRecDepth 100000 in
set_option maxHeartbeats 2000000 in
theorem refall_any (A : Option Addr) (n c : Nat) (ws : List Int) (B : Option Addr) (m d : Nat) (ds : List Int) (w : World) (hv : RI64.Vals w A n ws) (hu : RI64.Vals w B m ds) (hn : n ≤ 100000) (hm : m ≤ 100000) :
    Calls Try.prog 12 #[.slice A n c, .slice B m d] w (AllIs (ws.zip ds) w) := by
  have hlw := hv.len_
  have hld := hu.len_
  have HInfo := Lib.hid (show (Try.prog.info? 2).map (fun i => (i.zero, i.size, i.bytes)) = some (some (.int .i64 0), 1, 8) by kernel_rfl)
  have HInfP := Lib.hid (show (Try.prog.info? 30).map (fun i => (i.zero, i.size, i.bytes)) = some (some (.agg #[.int .i64 0, .int .i64 0, .int .i64 0, .int .i64 0]), 4, 32) by kernel_rfl)
  obtain ⟨k, hk⟩ : ∃ k, min n m = k := ⟨_, rfl⟩
  have hk1 : k ≤ n := by omega
  have hk2 : k ≤ m := by omega
  have hk3 : k = n ∨ k = m := by omega
  have hLk : (ws.zip ds).length = k := by rw [List.length_zip]; omega
  have HLK := Lib.hid hLk
  have HLW := Lib.hid hlw
  have HLD := Lib.hid hld
  have HK3 := Lib.hid hk3
  unfold AllIs
  clear hlw hld hk hLk hk3
  go_enter Try.func12, Try.ntmps12
  go_wp2
  go_loopw [6, 7] (fun v i wr => ∃ j : Nat, j ≤ k ∧ i = .int .i64 (j : Nat) ∧ wr.ownsRow w.heap.size 2 1 v j (RI64.vals ((sumsT (ws.zip ds)).take j)) ∧ Below w.heap.size w wr) (fun _ i _ => k - (intOf i).toNat)
  case atStart => exact ⟨0, by omega, rfl, RI64.own_none _ _ _, Below.refl _ _⟩
  case round =>
    obtain ⟨j, hj, rfl, hO, hB⟩ := hrel
    by_cases hjk : j < k
    · obtain ⟨x, rfl, hcx⟩ := (hv.below hB).cells (by omega)
      have hcell := hcx j (by omega)
      have hst := sums_step ws ds j (by have := HLW.out; omega) (by have := HLD.out; omega)
      rw [show sumW (ws.getD j 0) = if 62914560 < (if ws.getD j 0 < 0 then 0 else ws.getD j 0) then 62914560 else (if ws.getD j 0 < 0 then 0 else ws.getD j 0) from sumW_ifs _] at hst
      generalize ws.getD j 0 = v at *
      have h1 : j < n := by omega
      have h2 : j < m := by omega
      have h1z : (j : Int) < (n : Int) := by omega
      have h2z : (j : Int) < (m : Int) := by omega
      clear hv hu hcx
      by_cases hv1 : v < 0
      · rw [if_pos hv1, if_neg (by omega)] at hst
        have HST := Lib.hid hst
        clear hst
        have hVa : RI64.Vals (wr.alloc (.cells #[.int .i64 0] 2)) (some ⟨wr.heap.size, 0, none⟩) 1 [0] := RI64.Vals.has (ys := [0]) (tl := []) (Has.new wr _ _)
        have hOa := own_kept hO ((Kept.refl [] wr).alloc (.cells #[.int .i64 0] 2)) (by simp)
        have hBa := hB.alloc hB.size (.cells #[.int .i64 0] 2)
        clear hO hB
        go_wp2_with (at_builtin; refine RI64.wpList_append_vals rfl (.tmp 27) (.tmp 34) _ rfl w.heap.size 2 8 (by omega) Try.underlying25 HInfo.out u6 j ((sumsT (ws.zip ds)).take j) rfl (by exact hOa) _ 1 1 [0] rfl (by exact hVa) (by omega) (by exact hBa.size) ?_; intro v3 W6 hO3 hg3 hat3; have hB3 := below_kept hBa (Kept.of_grown hg3) hBa.size (own_in hOa); rw [← HST.out] at hO3)
        go_roundw
        case rel => exact ⟨j + 1, by omega, by go_num, hO3, hB3⟩
        case measure => simp [intOf]; omega
      · rw [if_neg hv1] at hst
        by_cases hv2 : 62914560 < v
        · rw [if_pos hv2] at hst
          have HST := Lib.hid hst
          clear hst
          have hVa : RI64.Vals (wr.alloc (.cells #[.int .i64 62914560] 2)) (some ⟨wr.heap.size, 0, none⟩) 1 [62914560] := RI64.Vals.has (ys := [62914560]) (tl := []) (Has.new wr _ _)
          have hOa := own_kept hO ((Kept.refl [] wr).alloc (.cells #[.int .i64 62914560] 2)) (by simp)
          have hBa := hB.alloc hB.size (.cells #[.int .i64 62914560] 2)
          clear hO hB
          go_wp2_with (at_builtin; refine RI64.wpList_append_vals rfl (.tmp 27) (.tmp 34) _ rfl w.heap.size 2 8 (by omega) Try.underlying25 HInfo.out u6 j ((sumsT (ws.zip ds)).take j) rfl (by exact hOa) _ 1 1 [62914560] rfl (by exact hVa) (by omega) (by exact hBa.size) ?_; intro v3 W6 hO3 hg3 hat3; have hB3 := below_kept hBa (Kept.of_grown hg3) hBa.size (own_in hOa); rw [← HST.out] at hO3)
          go_roundw
          case rel => exact ⟨j + 1, by omega, by go_num, hO3, hB3⟩
          case measure => simp [intOf]; omega
        · rw [if_neg hv2] at hst
          have HST := Lib.hid hst
          clear hst
          have hVa : RI64.Vals (wr.alloc (.cells #[.int .i64 v] 2)) (some ⟨wr.heap.size, 0, none⟩) 1 [v] := RI64.Vals.has (ys := [v]) (tl := []) (Has.new wr _ _)
          have hOa := own_kept hO ((Kept.refl [] wr).alloc (.cells #[.int .i64 v] 2)) (by simp)
          have hBa := hB.alloc hB.size (.cells #[.int .i64 v] 2)
          clear hO hB
          go_wp2_with (at_builtin; refine RI64.wpList_append_vals rfl (.tmp 27) (.tmp 34) _ rfl w.heap.size 2 8 (by omega) Try.underlying25 HInfo.out u6 j ((sumsT (ws.zip ds)).take j) rfl (by exact hOa) _ 1 1 [v] rfl (by exact hVa) (by omega) (by exact hBa.size) ?_; intro v3 W6 hO3 hg3 hat3; have hB3 := below_kept hBa (Kept.of_grown hg3) hBa.size (own_in hOa); rw [← HST.out] at hO3)
          go_roundw
          case rel => exact ⟨j + 1, by omega, by go_num, hO3, hB3⟩
          case measure => simp [intOf]; omega
    · obtain rfl : j = k := by omega
      rw [List.take_of_length_le (by rw [sums_len, HLK.out]; omega)] at hO
      obtain ⟨A1, c1, rfl, e1, e2, hV1, hfar1, _⟩ := RI64.Vals.own hO
      have hend : (j < n ∧ ¬ j < m ∧ (j : Int) < (n : Int) ∧ ¬ (j : Int) < (m : Int)) ∨ (¬ j < n ∧ ¬ (j : Int) < (n : Int)) := by rcases HK3.out with h | h <;> omega
      have hzr := hB.size
      have hfar2 : ∀ x, A1 = some x → w.heap.size ≤ x.block := fun x hx => (hfar1 x hx).1
      clear hO hfar1 hjk hj
      obtain ⟨W2, rfl⟩ : ∃ W2, W2 = wr := ⟨wr, rfl⟩
      rcases hend with ⟨hj1, hj2, hj3, hj4⟩ | ⟨hj1, hj3⟩
      all_goals
        go_wp2
        go_loopw [8, 9] (fun o f wq => ∃ (F : Nat) (ps : List Pk), F ≤ j ∧ f = .int .i64 (F : Nat) ∧ wq.ownsRow W2.heap.size 30 4 o ps.length (Row.flat peakS ps) ∧ ps.length ≤ F ∧
          runT (.falls none) 0 (ws.zip ds) = (ps ++ (runT (.falls none) (F : Int) ((ws.zip ds).drop F)).1, (runT (.falls none) (F : Int) ((ws.zip ds).drop F)).2) ∧ Below W2.heap.size W2 wq) (fun _ f _ => j - (intOf f).toNat)
        case atStart => exact ⟨0, [], by omega, rfl, Row.own_none _ _ _, by simp, by simp, Below.refl _ _⟩
        case round =>
          obtain ⟨F, ps, hF, rfl, hO, hpl, hall, hC⟩ := hrel
          have hri := rises_any A1 j c1 (ws.zip ds) F wr (hV1.below hC) (by omega) hF
          have HALL := Lib.hid hall
          clear hall
          go_wp2_with (first
            | (go_at_call 22; ((with_reducible refine hri.mono ?_); rintro e w1 ⟨⟨r, rfl, hr⟩, rfl⟩))
            | (go_at_call 23; (obtain ⟨i, rfl, hai, hil, hrun⟩ := rise_yes hr (by omega); have hfa := falls_any A1 j c1 (ws.zip ds) i hil wr (hV1.below hC) (by omega); (with_reducible refine hfa.mono ?_); rintro e w2 ⟨⟨r2, q, rfl, hf⟩, z, rfl⟩)))
          · obtain ⟨o, ho⟩ := rise_no hr (by omega)
            have h9 := HALL.out
            rw [ho, List.append_nil] at h9
            rw [h9]
            obtain ⟨A9, c9, rfl, e8, e9, hV9, hfar9, _⟩ := Row.Vals.own hO
            go_ret2
            exact ⟨A9, c9, rfl, e8, e9, hV9, (fun x hx => Nat.le_trans hzr (hfar9 x hx).1), hB.trans (hC.mono hzr)⟩
          · obtain ⟨t, b, p, ho⟩ := fall_no hf (by omega)
            have h9 := HALL.out
            rw [hrun, ho, List.append_nil] at h9
            rw [h9]
            obtain ⟨A9, c9, rfl, e8, e9, hV9, hfar9, _⟩ := Row.Vals.own hO
            go_ret2
            exact ⟨A9, c9, rfl, e8, e9, hV9.drewN _, (fun x hx => Nat.le_trans hzr (hfar9 x hx).1), below_drewN (hB.trans (hC.mono hzr)) _⟩
          · obtain ⟨i2, k2, rfl, rfl, g1, g2, g3, g4, g5, hfall⟩ := fall_yes hf (by omega)
            have hst0 := steeps_none (ws.zip ds) i
            have hCd : Below W2.heap.size W2 (wr.drewN z) := below_drewN hC z
            have hOd := own_kept hO ((Kept.refl [] wr).drewN z) (by simp)
            have hCw := hB.trans (hCd.mono hzr)
            clear hC hO hri hf hr
            generalize wr.drewN z = W3 at *
            go_loopw [13, 14] (fun s q wq => ∃ Q : Nat, i ≤ Q ∧ Q ≤ i2 + 1 ∧ q = .int .i64 (Q : Nat) ∧ s = .int .i64 (steepsT (seg (ws.zip ds) i Q)) ∧ Below W3.heap.size W3 wq) (fun _ q _ => i2 + 1 - (intOf q).toNat)
            case atStart => exact ⟨i, Nat.le_refl _, by omega, rfl, by rw [hst0], Below.refl _ _⟩
            case round =>
              obtain ⟨Q, hQ1, hQ2, rfl, rfl, hB3⟩ := hrel
              by_cases hq : Q ≤ i2
              · have hQL : Q < (ws.zip ds).length := by omega
                have hQm : Q < m := by have := HLK.out; omega
                obtain ⟨y, rfl, hcy⟩ := (hu.below (hCw.trans (hB3.mono hCw.size))).cells (by omega)
                have hcell := hcy Q hQm
                have hst := steeps_step (ws.zip ds) i Q hQ1 hQL
                rw [zip_fst] at hst
                generalize ds.getD Q 0 = dq at *
                have hnr := fun W => refnear_to 107136 dq W (by omega) (by omega)
                have hnb := nearTo_bd 107136 dq (by omega)
                have hVs : RI64.Vals (wr.alloc (.cells #[.int .i64 (nearTo 107136 dq)] 2)) (some ⟨wr.heap.size, 0, none⟩) 1 [nearTo 107136 dq] := RI64.Vals.has (ys := [nearTo 107136 dq]) (tl := []) (Has.new wr _ _)
                have hsp := Slope.refsteepest_any _ 1 1 [nearTo 107136 dq] _ hVs (by omega) (by intro u hu; unfold fits64; simp at hu; omega)
                rw [steep_near] at hsp
                have hBn := hB3.alloc hB3.size (.cells #[.int .i64 (nearTo 107136 dq)] 2)
                have hQi : (Q : Int) ≤ (i2 : Int) := by omega
                have hQz : (Q : Int) < (m : Int) := by omega
                generalize steepsT (seg (ws.zip ds) i Q) = s0 at *
                generalize nearTo 107136 dq = dn at *
                generalize distD dq = D at *
                unfold more at hst
                have HST := Lib.hid hst
                clear hst hcy hVs hnb hu hv hV1 hfall hrun hOd hCd hCw hB3 hB
                by_cases hmx : s0 < D
                · have HST2 := Lib.hid (HST.out.trans (if_pos hmx))
                  go_wp2_with (first
                    | (go_at_call 25; ((with_reducible refine (hnr _).mono ?_); rintro e w5 ⟨rfl, rfl⟩))
                    | (go_at_call 24; ((refine Calls.mono (by exact hsp) ?_); rintro e w6 ⟨rfl, rfl⟩)))
                  go_roundw
                  case rel => exact ⟨Q + 1, by omega, by omega, by go_num, by rw [HST2.out], hBn⟩
                  case measure => simp [intOf]; omega
                · have HST2 := Lib.hid (HST.out.trans (if_neg hmx))
                  go_wp2_with (first
                    | (go_at_call 25; ((with_reducible refine (hnr _).mono ?_); rintro e w5 ⟨rfl, rfl⟩))
                    | (go_at_call 24; ((refine Calls.mono (by exact hsp) ?_); rintro e w6 ⟨rfl, rfl⟩)))
                  go_roundw
                  case rel => exact ⟨Q + 1, by omega, by omega, by go_num, by rw [HST2.out], hBn⟩
                  case measure => simp [intOf]; omega
              · obtain rfl : Q = i2 + 1 := by omega
                have hC3 : Below W2.heap.size W2 wr := hCd.trans (hB3.mono hCd.size)
                have hO3 := own_stays hOd hB3
                have hkj : k2 < j := by have := HLK.out; omega
                obtain ⟨x1, rfl, hcx⟩ := (hV1.below hC3).cells (by omega)
                have hck := hcx k2 hkj
                rw [sums_at (ws.zip ds) k2 g5] at hck
                have hnew : runT (.falls none) 0 (ws.zip ds) = ((ps ++ [((k2 : Int), (i2 : Int), sumW (ws.zip ds)[k2].1, steepsT (seg (ws.zip ds) i (i2 + 1)))]) ++ (runT (.falls none) (i2 : Int) ((ws.zip ds).drop i2)).1, (runT (.falls none) (i2 : Int) ((ws.zip ds).drop i2)).2) := by
                  have h9 := HALL.out
                  rw [hrun, hfall] at h9
                  rw [h9, List.append_assoc]
                  rfl
                have hi2j : i2 < j := by have := HLK.out; omega
                have hkz : (k2 : Int) < (j : Int) := by omega
                generalize sumW (ws.zip ds)[k2].1 = T at *
                generalize steepsT (seg (ws.zip ds) i (i2 + 1)) = P at *
                have HNEW := Lib.hid hnew
                have hVa : Row.Vals peakS (wr.alloc (.cells #[.int .i64 (k2 : Int), .int .i64 (i2 : Int), .int .i64 T, .int .i64 P] 30)) (some ⟨wr.heap.size, 0, none⟩) 1 [((k2 : Int), (i2 : Int), T, P)] := Row.Vals.has (ys := [((k2 : Int), (i2 : Int), T, P)]) (tl := []) (Has.new wr _ _)
                have hOa := own_kept hO3 ((Kept.refl [] _).alloc (.cells #[.int .i64 (k2 : Int), .int .i64 (i2 : Int), .int .i64 T, .int .i64 P] 30)) (by simp)
                have hCa := hC3.alloc hC3.size (.cells #[.int .i64 (k2 : Int), .int .i64 (i2 : Int), .int .i64 T, .int .i64 P] 30)
                clear hnew hcx hu hv hV1 hfall hrun hOd hCd hCw hB3 hB hO3 hC3
                go_wp2_with (at_builtin; refine Row.wpList_append (S := peakS) rfl (.tmp 66) (.tmp 75) _ rfl W2.heap.size 30 _ 32 (by omega) Try.underlying26 HInfP.out (by kernel_rfl) u8 ps.length ps rfl (by exact hOa) _ 1 1 [((k2 : Int), (i2 : Int), T, P)] rfl (by exact hVa) (by omega) (by exact hCa.size) ?_; intro v6 W6 hO6 hg6 hat6; have hC6 := below_kept hCa (Kept.of_grown hg6) hCa.size (own_in hOa))
                go_roundw
                case rel => exact ⟨i2, ps ++ [((k2 : Int), (i2 : Int), T, P)], by omega, rfl, by rw [List.length_append]; exact hO6, by rw [List.length_append]; simp; omega, HNEW.out, hC6⟩
                case measure => simp [intOf]; omega
end Go.Proofs.Ytoghdmoblehnmaa.Peak
