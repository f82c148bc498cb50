/- The landed finder's All: the peaks of two lists' steps. -/
import Derived.Test.YtoghdmoblehnmaaPeakSame
import Derived.Test.YtoghdmoblehnmaaRegionMore
set_option linter.unusedSimpArgs false
set_option linter.unusedVariables false
namespace Go.Proofs.Ytoghdmoblehnmaa.Peak
open Go.RowKit
theorem run_len : ∀ (l : List (Int × Int)) (s : St) (n : Int), (runT s n l).1.length ≤ l.length
  | [], s, n => Nat.le_refl _
  | x :: l, s, n => by
    have h1 := run_len l (stepT s n x.1 x.2).2 (n + 1)
    have h2 : (stepT s n x.1 x.2).1.toList.length ≤ 1 := by cases (stepT s n x.1 x.2).1 <;> simp
    simp only [runT, List.length_append, List.length_cons]
    omega
theorem zip_at (ws ds : List Int) (j : Nat) (h1 : j < ws.length) (h2 : j < ds.length) : (ws.zip ds)[j]? = some (ws.getD j 0, ds.getD j 0) := by
  rw [List.getElem?_eq_getElem (by rw [List.length_zip]; omega), List.getElem_zip, List.getD_eq_getElem?_getD, List.getD_eq_getElem?_getD, List.getElem?_eq_getElem h1, List.getElem?_eq_getElem h2]
  rfl
theorem run_at (ws ds : List Int) (j : Nat) (h1 : j < ws.length) (h2 : j < ds.length) : runT (.falls none) 0 ((ws.zip ds).take (j + 1)) =
    ((runT (.falls none) 0 ((ws.zip ds).take j)).1 ++ (stepT (runT (.falls none) 0 ((ws.zip ds).take j)).2 (j : Int) (ws.getD j 0) (ds.getD j 0)).1.toList, (stepT (runT (.falls none) 0 ((ws.zip ds).take j)).2 (j : Int) (ws.getD j 0) (ds.getD j 0)).2) := by
  rw [run_step _ _ _ _ (by rw [List.length_zip]; omega) _ _ (zip_at ws ds j h1 h2), Int.zero_add]
/-- What All answers: the peaks, in memory of their own. -/
def PeaksIs (ps : List Pk) (w : World) (e : Ending) (w' : World) : Prop :=
  ∃ B d, e = .returned (.slice B ps.length d) ∧ ps.length ≤ d ∧ d ≤ 9223372036854775807 ∧ Row.Vals peakS w' B ps.length ps ∧ (∀ x, B = some x → w.heap.size ≤ x.block) ∧ Below w.heap.size w w'
/-- A row of the call's own, when only other blocks turn. -/
theorem own_off {w w' : World} {S : List Nat} {base : Nat} {e : TypeId} {size n : Nat} {v : Value} {xs : List Value} (h : w.ownsRow base e size v n xs) (ht : Kept S w w') (hs : ∀ k, v.ownBlock = some k → k ∉ S) : w'.ownsRow base e size v n xs := by
  obtain ⟨h1, h2⟩ := h
  refine ⟨h1, ?_⟩
  rcases h2 with h2 | ⟨k, cap, cur, rfl, hk, hh, h3⟩
  · exact .inl h2
  · exact .inr ⟨k, cap, cur, rfl, hk, (ht.block k (Has.lt (w := w) hh) (hs k rfl)).trans hh, h3⟩
set_option maxRecDepth 100000 in
set_option maxHeartbeats 2000000 in
theorem all_any (A : Option Addr) (n c : Nat) (ws : List Int) (B : Option Addr) (m d : Nat) (ds : List Int) (w : World) (hv : RI64.Vals w A n ws) (hu : RI64.Vals w B m ds) (hn : n ≤ 100000) (hm : m ≤ 100000) :
    Calls Try.prog 15 #[.slice A n c, .slice B m d] w (PeaksIs (runT (.falls none) 0 (ws.zip ds)).1 w) := by
  have hlw := hv.len_
  have hld := hu.len_
  have HInfo := Lib.hid (show (Try.prog.info? 30).map (fun i => (i.zero, i.size, i.bytes)) = some (some (.agg #[.int .i64 0, .int .i64 0, .int .i64 0, .int .i64 0]), 4, 32) by kernel_rfl)
  have hnew := new_any w
  obtain ⟨k, hk⟩ : ∃ k, min n m = k := ⟨_, rfl⟩
  have hmin : (if m < n then (m : Int) else (n : Int)) = (k : Int) := by split <;> omega
  have hk1 : k ≤ n := by omega
  have hk2 : k ≤ m := by omega
  have HK := Lib.hid (show (ws.zip ds).take k = ws.zip ds from List.take_of_length_le (by rw [List.length_zip]; omega))
  have HLW := Lib.hid hlw
  have HLD := Lib.hid hld
  unfold PeaksIs
  clear hlw hld hk
  go_enter Try.func15, Try.ntmps15
  go_wp2_with (go_at_call 8; ((with_reducible refine hnew.mono ?_); rintro e W0 ⟨b, rfl, hF0, hb, hB0⟩))
  have hblt := hF0.lt
  have hz0 := hB0.size
  clear hmin hnew
  go_loopw [5, 16] (fun v i wr => ∃ j : Nat, j ≤ k ∧ i = .int .i64 (j : Nat) ∧ wr.ownsRow W0.heap.size 30 4 v (runT (.falls none) 0 ((ws.zip ds).take j)).1.length (Row.flat peakS (runT (.falls none) 0 ((ws.zip ds).take j)).1) ∧ Fil wr b (runT (.falls none) 0 ((ws.zip ds).take j)).2 (j : Int) ∧ Kept [b] W0 wr) (fun _ i _ => k - (intOf i).toNat)
  case atStart => exact ⟨0, by omega, rfl, Row.own_none _ _ _, hF0, Kept.refl _ _⟩
  case round =>
    clear hF0
    obtain ⟨j, hj, rfl, hO, hF, hK⟩ := hrel
    have hC := below_kept hB0 hK hz0 (by simpa using hb)
    by_cases hjk : j < k
    · obtain ⟨x, rfl, hcx⟩ := hv.cells (by omega)
      obtain ⟨y, rfl, hcy⟩ := hu.cells (by omega)
      have hcwx := hcx j (by omega)
      have hcwy := hcy j (by omega)
      have hl1 := World.block_lt_of_cell? _ _ hcwx
      have hl2 := World.block_lt_of_cell? _ _ hcwy
      have hrx := (hC.cell hl1).trans hcwx
      have hry := (hC.cell hl2).trans hcwy
      have hat := run_at ws ds j (by have := HLW.out; omega) (by have := HLD.out; omega)
      have hle := run_len ((ws.zip ds).take j) (.falls none) 0
      have hle2 : ((ws.zip ds).take j).length ≤ j := by rw [List.length_take]; omega
      have hpu := fun W hF => push_any b (runT (.falls none) 0 ((ws.zip ds).take j)).2 (j : Int) (ws.getD j 0) (ds.getD j 0) W hF (by omega)
      generalize ws.getD j 0 = wj at *
      generalize ds.getD j 0 = dj at *
      generalize hT : runT (.falls none) 0 ((ws.zip ds).take j) = T at *
      obtain ⟨ps, s⟩ := T
      clear hT
      dsimp only at hO hF hat hle hpu
      obtain ⟨o, s', hst⟩ : ∃ o s', stepT s (j : Int) wj dj = (o, s') := ⟨_, _, rfl⟩
      rw [hst] at hat hpu
      dsimp only at hat hpu
      have HAT := Lib.hid hat
      have hjz : (0 : Int) ≤ (j : Int) ∧ (j : Int) < (n : Int) ∧ (j : Int) < (m : Int) := by omega
      clear hat hst hcx hcy hv hu
      obtain ⟨⟨qa, qn, qt, qp⟩, hq⟩ : ∃ q, nums o = q := ⟨_, rfl⟩
      rw [show pkV o = .agg #[.int .i64 qa, .int .i64 qn, .int .i64 qt, .int .i64 qp] by unfold pkV; rw [hq]] at hpu
      go_wp2
      refine Reg.begin_ (S := fun W => W.cell? (x.add j) = some (.int .i64 wj) ∧ W.cell? (y.add j) = some (.int .i64 dj)) (by kernel_rfl) (by exact ⟨hrx, hry⟩) (fun hHeld => ?_)
      refine Reg.take (i := 0) (v := ?v1) rfl (by kernel_rfl) (by kernel_rfl) (by kernel_rfl) (by rfl) ?hv1 (by assumption) ?rest1
      case hv1 => first | (intro w hSw; (try dsimp only at hSw); go_simp; done) | (intro w hSw; (try dsimp only at hSw); go_simp; with_reducible rfl)
      (try simp only [Act.put, List.setIfInBounds_toArray, List.set_cons_zero, List.set_cons_succ])
      refine Reg.take (i := 1) (v := ?v2) rfl (by kernel_rfl) (by kernel_rfl) (by kernel_rfl) (by rfl) ?hv2 (by assumption) ?rest2
      case hv2 => first | (intro w hSw; (try dsimp only at hSw); go_simp; done) | (intro w hSw; (try dsimp only at hSw); go_simp; with_reducible rfl)
      (try simp only [Act.put, List.setIfInBounds_toArray, List.set_cons_zero, List.set_cons_succ])
      refine Reg.take (i := 2) (v := ?v3) rfl (by kernel_rfl) (by kernel_rfl) (by kernel_rfl) (by rfl) ?hv3 (by assumption) ?rest3
      case hv3 => first | (intro w hSw; (try dsimp only at hSw); go_simp; done) | (intro w hSw; (try dsimp only at hSw); go_simp; with_reducible rfl)
      (try simp only [Act.put, List.setIfInBounds_toArray, List.set_cons_zero, List.set_cons_succ])
      refine Reg.take (i := 3) (v := ?v4) rfl (by kernel_rfl) (by kernel_rfl) (by kernel_rfl) (by rfl) ?hv4 (by assumption) ?rest4
      case hv4 => first | (intro w hSw; (try dsimp only at hSw); go_simp; done) | (intro w hSw; (try dsimp only at hSw); go_simp; with_reducible rfl)
      (try simp only [Act.put, List.setIfInBounds_toArray, List.set_cons_zero, List.set_cons_succ])
      refine Reg.take (i := 4) (v := ?v5) rfl (by kernel_rfl) (by kernel_rfl) (by kernel_rfl) (by rfl) ?hv5 (by assumption) ?rest5
      case hv5 => first | (intro w hSw; (try dsimp only at hSw); go_simp; done) | (intro w hSw; (try dsimp only at hSw); go_simp; with_reducible rfl)
      (try simp only [Act.put, List.setIfInBounds_toArray, List.set_cons_zero, List.set_cons_succ])
      refine Reg.take (i := 5) (v := ?v6) rfl (by kernel_rfl) (by kernel_rfl) (by kernel_rfl) (by rfl) ?hv6 (by assumption) ?rest6
      case hv6 => first | (intro w hSw; (try dsimp only at hSw); go_simp; done) | (intro w hSw; (try dsimp only at hSw); go_simp; with_reducible rfl)
      (try simp only [Act.put, List.setIfInBounds_toArray, List.set_cons_zero, List.set_cons_succ])
      refine Reg.take (i := 6) (v := ?v7) rfl (by kernel_rfl) (by kernel_rfl) (by kernel_rfl) (by rfl) ?hv7 (by assumption) ?rest7
      case hv7 => first | (intro w hSw; (try dsimp only at hSw); go_simp; done) | (intro w hSw; (try dsimp only at hSw); go_simp; with_reducible rfl)
      (try simp only [Act.put, List.setIfInBounds_toArray, List.set_cons_zero, List.set_cons_succ])
      refine Reg.take (i := 7) (v := ?v8) rfl (by kernel_rfl) (by kernel_rfl) (by kernel_rfl) (by rfl) ?hv8 (by assumption) ?rest8
      case hv8 => first | (intro w hSw; (try dsimp only at hSw); go_simp; done) | (intro w hSw; (try dsimp only at hSw); go_simp; with_reducible rfl)
      (try simp only [Act.put, List.setIfInBounds_toArray, List.set_cons_zero, List.set_cons_succ])
      refine Reg.take (i := 8) (v := ?v9) rfl (by kernel_rfl) (by kernel_rfl) (by kernel_rfl) (by rfl) ?hv9 (by assumption) ?rest9
      case hv9 => first | (intro w hSw; (try dsimp only at hSw); go_simp; done) | (intro w hSw; (try dsimp only at hSw); go_simp; with_reducible rfl)
      (try simp only [Act.put, List.setIfInBounds_toArray, List.set_cons_zero, List.set_cons_succ])
      have hOd : World.ownsRow wr.drew W0.heap.size 30 4 u5 ps.length (Row.flat peakS ps) := own_kept hO ((Kept.refl [] _).drewN 1) (by simp)
      have hKd : Kept [b] W0 wr.drew := hK.drewN 1
      have hFd : Fil wr.drew b s (j : Int) := hF.drewN 1
      have hzd : W0.heap.size ≤ wr.drew.heap.size := hKd.size
      clear hO hK hF hrx hry
      generalize wr.drew = wd at *
      have hnx : x.block ≠ b := by rw [block_add] at hl1; omega
      have hny : y.block ≠ b := by rw [block_add] at hl2; omega
      have hcells : ∀ W, Kept [b] W0 W → W.cell? (x.add j) = some (.int .i64 wj) ∧ W.cell? (y.add j) = some (.int .i64 dj) := fun W h => by
        have hC := below_kept hB0 h hz0 (by simpa using hb)
        exact ⟨(hC.cell hl1).trans hcwx, (hC.cell hl2).trans hcwy⟩
      have HC := Lib.hid hcells
      clear hcells hcwx hcwy hl1 hl2 hnx hny hC
      refine Reg.both (i := 9) (j := 13) rfl rfl (by kernel_rfl) (by rfl) (by rfl) ?_ ?_
      · intro K hK
        go_simp
        go_at_call 10
        (with_reducible refine (hpu wd (by assumption)).mono ?_)
        rintro e W1 ⟨rfl, hF1, hK1⟩
        have hO1 := own_kept hOd hK1 (by simpa using hblt)
        have hKa := hKd.trans hK1
        refine hK.out _ _ (by exact HC.out _ hKa) (fun hHeld => ?_)
        clear hK K
        (try simp only [Act.put, List.setIfInBounds_toArray, List.set_cons_zero, List.set_cons_succ])
        refine Reg.take (i := 10) (v := ?v10) rfl (by kernel_rfl) (by kernel_rfl) (by kernel_rfl) (by rfl) ?hv10 (by assumption) ?rest10
        case hv10 => first | (intro w hSw; (try dsimp only at hSw); go_simp; done) | (intro w hSw; (try dsimp only at hSw); go_simp; with_reducible rfl)
        (try simp only [Act.put, List.setIfInBounds_toArray, List.set_cons_zero, List.set_cons_succ])
        refine Reg.take (i := 11) (v := ?v11) rfl (by kernel_rfl) (by kernel_rfl) (by kernel_rfl) (by rfl) ?hv11 (by assumption) ?rest11
        case hv11 => first | (intro w hSw; (try dsimp only at hSw); go_simp; done) | (intro w hSw; (try dsimp only at hSw); go_simp; with_reducible rfl)
        (try simp only [Act.put, List.setIfInBounds_toArray, List.set_cons_zero, List.set_cons_succ])
        refine Reg.take (i := 12) (v := ?v12) rfl (by kernel_rfl) (by kernel_rfl) (by kernel_rfl) (by rfl) ?hv12 (by assumption) ?rest12
        case hv12 => first | (intro w hSw; (try dsimp only at hSw); go_simp; done) | (intro w hSw; (try dsimp only at hSw); go_simp; with_reducible rfl)
        (try simp only [Act.put, List.setIfInBounds_toArray, List.set_cons_zero, List.set_cons_succ])
        refine Reg.call (i := 13) rfl (by kernel_rfl) (by rfl) ?_
        intro K hK
        have hH2 := Has.new W1 30 #[.int .i64 0, .int .i64 0, .int .i64 0, .int .i64 0]
        have hO2 := own_kept hO1 ((Kept.refl [] _).alloc (.cells #[.int .i64 0, .int .i64 0, .int .i64 0, .int .i64 0] 30)) (by simp)
        have hF2 := hF1.alloc (.cells #[.int .i64 0, .int .i64 0, .int .i64 0, .int .i64 0] 30)
        have hK2 := hKa.alloc (.cells #[.int .i64 0, .int .i64 0, .int .i64 0, .int .i64 0] 30)
        have hg : W0.heap.size ≤ W1.heap.size := hKa.size
        have hgb : b ≠ W1.heap.size := by have := hF1.lt; omega
        have hog : ∀ k, u5.ownBlock = some k → k ≠ W1.heap.size := fun k hk => by have := (own_block hO1 k hk).2; omega
        go_simp
        refine hK.out _ _ (by exact HC.out _ hK2) (fun hHeld => ?_)
        clear hK K
        (try simp only [Act.put, List.setIfInBounds_toArray, List.set_cons_zero, List.set_cons_succ])
        generalize (W1.alloc (.cells #[.int .i64 0, .int .i64 0, .int .i64 0, .int .i64 0] 30)) = W2 at *
        clear hO1 hF1 hK1 hKa hOd hFd hKd hzd
        generalize W1.heap.size = g at *
        refine Reg.call (i := 14) rfl (by kernel_rfl) (by rfl) ?_
        intro K hK
        have q0 := hH2.cell 0
        have q1 := hH2.cell 1
        have q2 := hH2.cell 2
        have q3 := hH2.cell 3
        have g0 := hH2.frozen 0
        have g1 := hH2.frozen 1
        have g2 := hH2.frozen 2
        have g3 := hH2.frozen 3
        have hH3 := Has.put4 hH2 (.int .i64 qa) (.int .i64 qn) (.int .i64 qt) (.int .i64 qp)
        have hKg := Kept.put4 (Kept.refl [g] W2) (c := g) (.inl (by simp)) (.int .i64 qa) (.int .i64 qn) (.int .i64 qt) (.int .i64 qp)
        have hO3 := own_off hO2 hKg (fun k hk => by have := hog k hk; simpa using this)
        have hF3 := hF2.kept hKg (by simpa using hgb)
        have hK3 := Kept.put4 hK2 (c := g) (.inr hg) (.int .i64 qa) (.int .i64 qn) (.int .i64 qt) (.int .i64 qp)
        go_simp
        refine hK.out _ _ (by exact HC.out _ hK3) (fun hHeld => ?_)
        clear hK K
        (try simp only [Act.put, List.setIfInBounds_toArray, List.set_cons_zero, List.set_cons_succ])
        generalize ((((W2.setCell ⟨g, 0, none⟩ (.int .i64 qa)).setCell ⟨g, 1, none⟩ (.int .i64 qn)).setCell ⟨g, 2, none⟩ (.int .i64 qt)).setCell ⟨g, 3, none⟩ (.int .i64 qp)) = W3 at *
        clear q0 q1 q2 q3 g0 g1 g2 g3 hKg hH2 hO2 hF2 hK2
        refine Reg.take (i := 15) (v := ?v13) rfl (by kernel_rfl) (by kernel_rfl) (by kernel_rfl) (by rfl) ?hv13 (by assumption) ?rest13
        case hv13 => first | (intro w hSw; (try dsimp only at hSw); go_simp; done) | (intro w hSw; (try dsimp only at hSw); go_simp; with_reducible rfl)
        (try simp only [Act.put, List.setIfInBounds_toArray, List.set_cons_zero, List.set_cons_succ])
        refine Reg.done (by kernel_rfl) ?_ _
        clear hHeld HC
        cases o with
        | none =>
          have hO9 : W3.ownsRow W0.heap.size 30 4 u5 (runT (.falls none) 0 ((ws.zip ds).take (j + 1))).1.length (Row.flat peakS (runT (.falls none) 0 ((ws.zip ds).take (j + 1))).1) := by rw [HAT.out]; simpa using hO3
          have hF9 : Fil W3 b (runT (.falls none) 0 ((ws.zip ds).take (j + 1))).2 ((j : Int) + 1) := by rw [HAT.out]; exact hF3
          clear hO3 hF3
          go_wp2
          go_roundw
          case rel => exact ⟨j + 1, by omega, by go_num, hO9, hF9, hK3⟩
          case measure => simp [intOf]; omega
        | some q =>
          obtain rfl : q = (qa, qn, qt, qp) := hq
          have p0 := hH3.cell 0
          have p1 := hH3.cell 1
          have p2 := hH3.cell 2
          have p3 := hH3.cell 3
          have hVa : Row.Vals peakS (W3.alloc (.cells #[.int .i64 qa, .int .i64 qn, .int .i64 qt, .int .i64 qp] 30)) (some ⟨W3.heap.size, 0, none⟩) 1 [(qa, qn, qt, qp)] := Row.Vals.has (ys := [(qa, qn, qt, qp)]) (tl := []) (Has.new W3 _ _)
          have hOa := own_kept hO3 ((Kept.refl [] _).alloc (.cells #[.int .i64 qa, .int .i64 qn, .int .i64 qt, .int .i64 qp] 30)) (by simp)
          have hFa := hF3.alloc (.cells #[.int .i64 qa, .int .i64 qn, .int .i64 qt, .int .i64 qp] 30)
          have hKa := hK3.alloc (.cells #[.int .i64 qa, .int .i64 qn, .int .i64 qt, .int .i64 qp] 30)
          clear hO3 hF3 hK3 hpu
          go_wp2_with (at_builtin; refine Row.wpList_append (S := peakS) rfl (.tmp 33) (.tmp 35) _ rfl W0.heap.size 30 _ 32 (by omega) Try.underlying26 HInfo.out (by kernel_rfl) u5 ps.length ps rfl (by exact hOa) _ 1 1 [(qa, qn, qt, qp)] rfl (by exact hVa) (by omega) (by exact hKa.size) ?_; intro v6 W6 hO6 hg6 hat6; have hF6 := hFa.kept (Kept.of_grown hg6) (own_apart hOa hblt); have hK6 := hKa.grown hg6 (fun k hk => .inr (own_block hOa k hk).1))
          have hO9 : W6.ownsRow W0.heap.size 30 4 v6 (runT (.falls none) 0 ((ws.zip ds).take (j + 1))).1.length (Row.flat peakS (runT (.falls none) 0 ((ws.zip ds).take (j + 1))).1) := by rw [HAT.out, List.length_append]; exact hO6
          have hF9 : Fil W6 b (runT (.falls none) 0 ((ws.zip ds).take (j + 1))).2 ((j : Int) + 1) := by rw [HAT.out]; exact hF6
          clear hO6 hF6
          go_roundw
          case rel => exact ⟨j + 1, by omega, by go_num, hO9, hF9, hK6⟩
          case measure => simp [intOf]; omega
      · intro K hK
        have hH1 := Has.new wd 30 #[.int .i64 0, .int .i64 0, .int .i64 0, .int .i64 0]
        have hO1 := own_kept hOd ((Kept.refl [] _).alloc (.cells #[.int .i64 0, .int .i64 0, .int .i64 0, .int .i64 0] 30)) (by simp)
        have hF1 := hFd.alloc (.cells #[.int .i64 0, .int .i64 0, .int .i64 0, .int .i64 0] 30)
        have hK1 := hKd.alloc (.cells #[.int .i64 0, .int .i64 0, .int .i64 0, .int .i64 0] 30)
        have hg : W0.heap.size ≤ wd.heap.size := hzd
        have hgb : b ≠ wd.heap.size := by omega
        have hog : ∀ k, u5.ownBlock = some k → k ≠ wd.heap.size := fun k hk => by have := (own_block hOd k hk).2; omega
        go_simp
        refine hK.out _ _ (by exact HC.out _ hK1) (fun hHeld => ?_)
        clear hK K
        (try simp only [Act.put, List.setIfInBounds_toArray, List.set_cons_zero, List.set_cons_succ])
        generalize (wd.alloc (.cells #[.int .i64 0, .int .i64 0, .int .i64 0, .int .i64 0] 30)) = W1 at *
        clear hOd hFd hKd hzd
        generalize wd.heap.size = g at *
        refine Reg.call (i := 9) rfl (by kernel_rfl) (by rfl) ?_
        intro K hK
        go_simp
        go_at_call 10
        (with_reducible refine (hpu W1 (by assumption)).mono ?_)
        rintro e W2 ⟨rfl, hF2, hK12⟩
        have hO2 := own_kept hO1 hK12 (by simpa using hblt)
        have hK2 := hK1.trans hK12
        have hH2 := hK12.has hH1 (by simpa using fun h => hgb h.symm)
        refine hK.out _ _ (by exact HC.out _ hK2) (fun hHeld => ?_)
        clear hK K hO1 hK1 hK12 hH1 hF1
        (try simp only [Act.put, List.setIfInBounds_toArray, List.set_cons_zero, List.set_cons_succ])
        refine Reg.take (i := 10) (v := ?v14) rfl (by kernel_rfl) (by kernel_rfl) (by kernel_rfl) (by rfl) ?hv14 (by assumption) ?rest14
        case hv14 => first | (intro w hSw; (try dsimp only at hSw); go_simp; done) | (intro w hSw; (try dsimp only at hSw); go_simp; with_reducible rfl)
        (try simp only [Act.put, List.setIfInBounds_toArray, List.set_cons_zero, List.set_cons_succ])
        refine Reg.take (i := 11) (v := ?v15) rfl (by kernel_rfl) (by kernel_rfl) (by kernel_rfl) (by rfl) ?hv15 (by assumption) ?rest15
        case hv15 => first | (intro w hSw; (try dsimp only at hSw); go_simp; done) | (intro w hSw; (try dsimp only at hSw); go_simp; with_reducible rfl)
        (try simp only [Act.put, List.setIfInBounds_toArray, List.set_cons_zero, List.set_cons_succ])
        refine Reg.take (i := 12) (v := ?v16) rfl (by kernel_rfl) (by kernel_rfl) (by kernel_rfl) (by rfl) ?hv16 (by assumption) ?rest16
        case hv16 => first | (intro w hSw; (try dsimp only at hSw); go_simp; done) | (intro w hSw; (try dsimp only at hSw); go_simp; with_reducible rfl)
        (try simp only [Act.put, List.setIfInBounds_toArray, List.set_cons_zero, List.set_cons_succ])
        refine Reg.call (i := 14) rfl (by kernel_rfl) (by rfl) ?_
        intro K hK
        have q0 := hH2.cell 0
        have q1 := hH2.cell 1
        have q2 := hH2.cell 2
        have q3 := hH2.cell 3
        have g0 := hH2.frozen 0
        have g1 := hH2.frozen 1
        have g2 := hH2.frozen 2
        have g3 := hH2.frozen 3
        have hH3 := Has.put4 hH2 (.int .i64 qa) (.int .i64 qn) (.int .i64 qt) (.int .i64 qp)
        have hKg := Kept.put4 (Kept.refl [g] W2) (c := g) (.inl (by simp)) (.int .i64 qa) (.int .i64 qn) (.int .i64 qt) (.int .i64 qp)
        have hO3 := own_off hO2 hKg (fun k hk => by have := hog k hk; simpa using this)
        have hF3 := hF2.kept hKg (by simpa using hgb)
        have hK3 := Kept.put4 hK2 (c := g) (.inr hg) (.int .i64 qa) (.int .i64 qn) (.int .i64 qt) (.int .i64 qp)
        go_simp
        refine hK.out _ _ (by exact HC.out _ hK3) (fun hHeld => ?_)
        clear hK K
        (try simp only [Act.put, List.setIfInBounds_toArray, List.set_cons_zero, List.set_cons_succ])
        generalize ((((W2.setCell ⟨g, 0, none⟩ (.int .i64 qa)).setCell ⟨g, 1, none⟩ (.int .i64 qn)).setCell ⟨g, 2, none⟩ (.int .i64 qt)).setCell ⟨g, 3, none⟩ (.int .i64 qp)) = W3 at *
        clear q0 q1 q2 q3 g0 g1 g2 g3 hKg hH2 hO2 hF2 hK2
        refine Reg.take (i := 15) (v := ?v17) rfl (by kernel_rfl) (by kernel_rfl) (by kernel_rfl) (by rfl) ?hv17 (by assumption) ?rest17
        case hv17 => first | (intro w hSw; (try dsimp only at hSw); go_simp; done) | (intro w hSw; (try dsimp only at hSw); go_simp; with_reducible rfl)
        (try simp only [Act.put, List.setIfInBounds_toArray, List.set_cons_zero, List.set_cons_succ])
        refine Reg.done (by kernel_rfl) ?_ _
        clear hHeld HC
        cases o with
        | none =>
          have hO9 : W3.ownsRow W0.heap.size 30 4 u5 (runT (.falls none) 0 ((ws.zip ds).take (j + 1))).1.length (Row.flat peakS (runT (.falls none) 0 ((ws.zip ds).take (j + 1))).1) := by rw [HAT.out]; simpa using hO3
          have hF9 : Fil W3 b (runT (.falls none) 0 ((ws.zip ds).take (j + 1))).2 ((j : Int) + 1) := by rw [HAT.out]; exact hF3
          clear hO3 hF3
          go_wp2
          go_roundw
          case rel => exact ⟨j + 1, by omega, by go_num, hO9, hF9, hK3⟩
          case measure => simp [intOf]; omega
        | some q =>
          obtain rfl : q = (qa, qn, qt, qp) := hq
          have p0 := hH3.cell 0
          have p1 := hH3.cell 1
          have p2 := hH3.cell 2
          have p3 := hH3.cell 3
          have hVa : Row.Vals peakS (W3.alloc (.cells #[.int .i64 qa, .int .i64 qn, .int .i64 qt, .int .i64 qp] 30)) (some ⟨W3.heap.size, 0, none⟩) 1 [(qa, qn, qt, qp)] := Row.Vals.has (ys := [(qa, qn, qt, qp)]) (tl := []) (Has.new W3 _ _)
          have hOa := own_kept hO3 ((Kept.refl [] _).alloc (.cells #[.int .i64 qa, .int .i64 qn, .int .i64 qt, .int .i64 qp] 30)) (by simp)
          have hFa := hF3.alloc (.cells #[.int .i64 qa, .int .i64 qn, .int .i64 qt, .int .i64 qp] 30)
          have hKa := hK3.alloc (.cells #[.int .i64 qa, .int .i64 qn, .int .i64 qt, .int .i64 qp] 30)
          clear hO3 hF3 hK3 hpu
          go_wp2_with (at_builtin; refine Row.wpList_append (S := peakS) rfl (.tmp 33) (.tmp 35) _ rfl W0.heap.size 30 _ 32 (by omega) Try.underlying26 HInfo.out (by kernel_rfl) u5 ps.length ps rfl (by exact hOa) _ 1 1 [(qa, qn, qt, qp)] rfl (by exact hVa) (by omega) (by exact hKa.size) ?_; intro v6 W6 hO6 hg6 hat6; have hF6 := hFa.kept (Kept.of_grown hg6) (own_apart hOa hblt); have hK6 := hKa.grown hg6 (fun k hk => .inr (own_block hOa k hk).1))
          have hO9 : W6.ownsRow W0.heap.size 30 4 v6 (runT (.falls none) 0 ((ws.zip ds).take (j + 1))).1.length (Row.flat peakS (runT (.falls none) 0 ((ws.zip ds).take (j + 1))).1) := by rw [HAT.out, List.length_append]; exact hO6
          have hF9 : Fil W6 b (runT (.falls none) 0 ((ws.zip ds).take (j + 1))).2 ((j : Int) + 1) := by rw [HAT.out]; exact hF6
          clear hO6 hF6
          go_roundw
          case rel => exact ⟨j + 1, by omega, by go_num, hO9, hF9, hK6⟩
          case measure => simp [intOf]; omega
    · obtain rfl : j = k := by omega
      rw [HK.out] at hO
      obtain ⟨A1, c1, rfl, e1, e2, hV1, hfar1, _⟩ := Row.Vals.own hO
      clear hv hu
      go_wp2
      go_ret
      exact ⟨A1, c1, rfl, e1, e2, hV1, (fun x hx => Nat.le_trans hz0 (hfar1 x hx).1), hC⟩
end Go.Proofs.Ytoghdmoblehnmaa.Peak
