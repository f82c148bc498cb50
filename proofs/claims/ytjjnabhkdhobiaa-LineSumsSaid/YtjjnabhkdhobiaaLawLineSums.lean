/- Whatever number, values, cut and steps come in, LineSums answers true, and writes nothing that was there. -/
import Derived.Test.YtjjnabhkdhobiaaRows
import Derived.ShutString
import Derived.ChangeOld
import Derived.Below
import Derived.Test.YtjjnabhkdhobiaaLawKit
import Derived.Test.YtjjnabhkdhobiaaLineLive
import Derived.Test.YtjjnabhkdhobiaaLineRef
import Derived.Test.YtjjnabhkdhobiaaOwn
set_option linter.unusedSimpArgs false
set_option linter.unusedVariables false
namespace Go.Proofs.Ytjjnabhkdhobiaa.lineSums
open Go.ChangeShapes Go.WideShapes Go.ChangeAt Go.RowKit
open Go.ChangeMaps (open_string shut_string)
open RI64
/-- The law's loop: the window has what the row of all has. -/
def Going (w : World) (y x b g n most B m : Nat) (v11 i : Value) (wr : World) : Prop :=
  ∃ j, j ≤ m ∧ i = .int .i64 (j : Nat) ∧ ∃ h np, Window wr y x b g n most h ∧ wr.ownsRow B 2 1 v11 np (vals h.reverse) ∧ np ≤ j ∧ B ≤ wr.heap.size ∧ Below w.heap.size w wr
theorem win_take (most N1 M : Nat) (h : List Int) (hl : h.length = N1) (hM : min (most + 1) N1 = M) : (h.take M).sum = winSum most h := by
  unfold winSum
  rcases Nat.le_total (most + 1) N1 with h1 | h1
  · rw [show M = most + 1 by omega]
  · rw [List.take_of_length_le (by omega), List.take_of_length_le (by omega)]
set_option maxRecDepth 100000 in
set_option maxHeartbeats 4000000 in
theorem walk (a0 : Int) (a1 : Option Addr) (len1 cap1 : Nat) (z1 : List Int) (a2 a3 : Int) (w : World) (w0 : (Lit.int .i64 a0).wf = true) (w1 : IsRow .i64 w a1 len1 cap1 z1) (w2 : (Lit.int .u8 a2).wf = true) (w3 : (Lit.int .i64 a3).wf = true) :
    Calls Try.prog 4 #[.int .i64 a0, .slice a1 len1 cap1, .int .u8 a2, .int .i64 a3] w fun e w' => e = .returned (.bool true) ∧ Below w.heap.size w w' := by
  have b0 := bounds_i64 w0
  have b2 := bounds_u8 w2
  have b3 := bounds_i64 w3
  clear w0 w2 w3
  by_cases hbad : a0 < 1 ∨ 1024 < a0
  · have hno := window_of_no a0 w hbad
    rcases hbad with hbad | hbad
    · go_enter Try.func4, Try.ntmps4
      go_wp2_with (first
        | (go_at_call 15; ((with_reducible refine hno.mono ?_); rintro e W1 ⟨rfl, rfl⟩))
        | (go_at_call 8; ((with_reducible refine (live_ok _).mono ?_); rintro e W9 ⟨rfl, hN⟩)))
      go_ret
      exact ⟨rfl, hN⟩
    · have h0 : ¬ a0 < 1 := by omega
      go_enter Try.func4, Try.ntmps4
      go_wp2_with (first
        | (go_at_call 15; ((with_reducible refine hno.mono ?_); rintro e W1 ⟨rfl, rfl⟩))
        | (go_at_call 8; ((with_reducible refine (live_ok _).mono ?_); rintro e W9 ⟨rfl, hN⟩)))
      go_ret
      exact ⟨rfl, hN⟩
  obtain ⟨N, rfl⟩ : ∃ N : Nat, a0 = (N : Int) := ⟨a0.toNat, by omega⟩
  obtain ⟨most, hN⟩ : ∃ most, N = most + 1 := ⟨N - 1, by omega⟩
  obtain ⟨c, rfl⟩ : ∃ c : Nat, a2 = (c : Int) := ⟨a2.toNat, by omega⟩
  have hmost : most < 1024 := by omega
  have hg0 : ¬ (N : Int) < 1 := by omega
  have hg1 : ¬ (1024 : Int) < (N : Int) := by omega
  have hN1s : (N : Int) - 1 = (most : Int) := by omega
  have hNc : (N : Int) = (most : Int) + 1 := by omega
  clear hbad
  obtain ⟨m, hm⟩ : ∃ m, min len1 150 = m := ⟨_, rfl⟩
  have hm1 : m ≤ len1 := by omega
  have hm2 : m ≤ 150 := by omega
  have hminA : (if (150 : Int) < (len1 : Int) then (150 : Int) else (len1 : Int)) = (m : Int) := by split <;> omega
  clear hm
  obtain ⟨hV, hc1, hc2, hlt1⟩ := row_vals w1 m (by omega)
  clear w1
  generalize z1.take m = ys at *
  have hl1 : len1 ≤ cap1 ∧ cap1 ≤ 9223372036854775807 := ⟨hc1, hc2⟩
  have hmc : m ≤ cap1 := by omega
  have hnew := window_of_yes most w hmost
  rw [← hNc] at hnew
  obtain ⟨y, x, b, g, B, hy, hx, hb, hg, hB0, hbg⟩ : ∃ y x b g B, w.heap.size ≤ y ∧ w.heap.size ≤ x ∧ w.heap.size ≤ b ∧ w.heap.size ≤ g ∧ (y < B ∧ x < B ∧ b < B ∧ g < B) ∧ (y = w.heap.size + 3 ∧ x = w.heap.size + 2 ∧ b = w.heap.size + 1 ∧ g = w.heap.size ∧ B = w.heap.size + 4) := ⟨_, _, _, _, _, by omega, by omega, by omega, by omega, by omega, rfl, rfl, rfl, rfl, rfl⟩
  have hnew2 : Calls Try.prog 15 #[.int .i64 (N : Int)] w fun e w' => e = .returned (.tuple #[.pointer (some ⟨y, 0, none⟩), .int .i64 0]) ∧ (∃ n, Window w' y x b g n most []) ∧ Below w.heap.size w w' ∧ B ≤ w'.heap.size := by
    rw [hbg.1, hbg.2.1, hbg.2.2.1, hbg.2.2.2.1, hbg.2.2.2.2]
    exact hnew.mono fun e w' ⟨h1, h2, h3, h4⟩ => ⟨h1, h2, h3, by omega⟩
  clear hnew hbg
  have hInfo : (Try.prog.info? 2).map (fun i => (i.zero, i.size, i.bytes)) = some (some (.int .i64 0), 1, 8) := by kernel_rfl
  have HInfo := Lib.hid hInfo
  have HN := Lib.hid hN
  clear hInfo hN hNc
  have hwB : w.heap.size ≤ B := by omega
  have hbgB : ∀ k ∈ [y, b, g], k < B := by intro k hk; simp at hk; omega
  have hbgw : ∀ k ∈ [y, b, g], w.heap.size ≤ k := by intro k hk; simp at hk; omega
  go_enter Try.func4, Try.ntmps4
  go_wp2_with (go_at_call 15; ((with_reducible refine hnew2.mono ?_); rintro e W1 ⟨rfl, ⟨n, hW1⟩, hB1, hz1⟩))
  clear hminA hnew2
  go_loopw [11, 41] (fun v11 i wr => Going w y x b g n most B m v11 i wr) (fun _ i _ => m - (intOf i).toNat)
  case atStart => exact ⟨0, by omega, rfl, [], 0, hW1, own_none _ _ _, by omega, hz1, hB1⟩
  case round =>
    clear hW1 hB1 hz1
    obtain ⟨j, hj, rfl, h, np, hW, h11, hnp, hBz, hB⟩ := hrel
    have hlen := own_len h11
    rw [List.length_reverse] at hlen
    by_cases hlt : j < m
    · obtain ⟨x1, rfl, hcx⟩ := (hV.below hB).cells (by omega)
      have hcell := hcx j hlt
      generalize ys.getD j 0 = v at *
      clear hcx
      by_cases hjc : j = c
      · subst hjc
        have hre := fun W hW => window_reset y x b g n most h W hW
        obtain ⟨N1, hN1⟩ : ∃ N1, 0 + 1 = N1 := ⟨_, rfl⟩
        obtain ⟨M, hM⟩ : ∃ M, min N N1 = M := ⟨_, rfl⟩
        have hminB : (if (N1 : Int) < (N : Int) then (N1 : Int) else (N : Int)) = (M : Int) := by split <;> omega
        have hminC : (if N1 < N then (N1 : Int) else (N : Int)) = (M : Int) := by split <;> omega
        have htk := win_take most N1 M (v :: ([] : List Int)) (by simp; omega) (by rw [← HN.out]; exact hM)
        have hN1b : N1 ≤ 151 := by omega
        have hMb : M ≤ 151 := by omega
        have hpu := fun W hW => window_push y x b g n most ([] : List Int) v W hW
        generalize hh : v :: ([] : List Int) = h2 at *
        have HREV := Lib.hid (show ([] : List Int).reverse ++ [v] = h2.reverse by rw [← hh, List.reverse_cons])
        clear hh hM
        have hVn : ∀ W : World, Vals (W.alloc (.cells #[.int .i64 v] 2)) (some ⟨W.heap.size, 0, none⟩) 1 [v] := fun W => Vals.has (ys := [v]) (tl := []) (Has.new W _ _)
        have hsu := fun W hW => window_sum y x b g n most h2 W hW
        have hbk := fun W hW => window_back y x b g n most h2 a3 W hW (by omega)
        have hrs := fun A9 c9 W (hW : Vals W A9 N1 h2.reverse) => refsum_any A9 N1 c9 M h2 W hW (by omega) (by omega)
        have hwi := fun A9 c9 W (hW : Vals W A9 N1 h2.reverse) => refwithin_any A9 N1 c9 most h2 a3 W hW (by omega)
        rw [htk] at hrs
        generalize wrap64 (winSum most h2) = S2 at *
        generalize agoTo most h2 a3 = r1 at *
        clear htk
        have HN1 := Lib.hid hN1
        have hnp2 : 0 + 1 ≤ 1048576 := by omega
        clear hN1
        go_wp2_with (first
          | (go_at_call 16; ((with_reducible refine (hre _ (by exact hW)).mono ?_); rintro e W2 ⟨rfl, hW2, hK2⟩; have hWa := hW2.alloc (.cells #[.int .i64 v] 2); have hK2a := hK2.alloc (.cells #[.int .i64 v] 2); have hBa := below_kept hB hK2a hB.size hbgw; have hBza := Nat.le_trans hBz hK2a.size))
          | (at_builtin; refine wpList_append_vals rfl (.tmp 52) (.tmp 54) _ rfl B 2 8 (by omega) Try.underlying28 HInfo.out (.slice none 0 0) 0 ([] : List Int).reverse rfl (by exact own_none _ _ _) _ 1 1 [v] rfl (by exact hVn _) hnp2 (by exact hBza) ?_; intro v1 w1 hO1 hg1 hat1; have hK3 := Kept.of_grown hg1; have hW3 := hWa.kept hK3 (own_apart (own_none W2 B 2) hB0.1) (own_apart (own_none W2 B 2) hB0.2.1) (own_apart (own_none W2 B 2) hB0.2.2.1) (own_apart (own_none W2 B 2) hB0.2.2.2); have hB3 := below_kept hBa hK3 hBa.size (fun k hk => Nat.le_trans hwB (own_in (own_none W2 B 2) k hk)); have hBz3 := Nat.le_trans hBza hK3.size; rw [HREV.out, HN1.out] at hO1)
          | (go_at_call 17; ((with_reducible refine (hpu _ (by exact hW3)).mono ?_); rintro e W4 ⟨rfl, hW4, hK4⟩; have hO4 := own_kept hO1 hK4 hbgB; have hB4 := below_kept hB3 hK4 hB3.size hbgw; have hBz4 := Nat.le_trans hBz3 hK4.size; obtain ⟨A9, c9, rfl, e1, e2, hV9, e3⟩ := Vals.own hO4))
          | (go_at_call 18; ((with_reducible refine (hrs _ _ _ (by exact hV9)).mono ?_); rintro e W5 ⟨rfl, d2, rfl⟩))
          | (go_at_call 19; ((with_reducible refine (hsu _ (by exact hW4.same rfl)).mono ?_); rintro e W6 ⟨rfl, rfl⟩))
          | (go_at_call 20; ((with_reducible refine (hbk _ (by exact hW4.same rfl)).mono ?_); rintro e W7 ⟨rfl, d4, rfl⟩))
          | (go_at_call 11; ((with_reducible refine (hwi _ _ _ (by exact hV9.same rfl)).mono ?_); rintro e W8 ⟨rfl, d5, rfl⟩)))
        go_roundw
        case rel => exact ⟨j + 1, by omega, by go_num, h2, N1, hW4.same rfl, hO4, by have := HN1.out; omega, hBz4, below_drewN hB4 _⟩
        case measure => simp [intOf]; omega
      · have hjc2 : ¬ (j : Int) = (c : Int) := by omega
        have hKa := (Kept.refl ([] : List Nat) wr).alloc (.cells #[.int .i64 v] 2)
        have h11a := own_kept h11 hKa (by simp)
        have hWa := hW.alloc (.cells #[.int .i64 v] 2)
        have hBa := below_kept hB hKa hB.size (by simp)
        have hBza := Nat.le_trans hBz hKa.size
        obtain ⟨N1, hN1⟩ : ∃ N1, np + 1 = N1 := ⟨_, rfl⟩
        obtain ⟨M, hM⟩ : ∃ M, min N N1 = M := ⟨_, rfl⟩
        have hminB : (if (N1 : Int) < (N : Int) then (N1 : Int) else (N : Int)) = (M : Int) := by split <;> omega
        have hminC : (if N1 < N then (N1 : Int) else (N : Int)) = (M : Int) := by split <;> omega
        have htk := win_take most N1 M (v :: h) (by simp [hlen]; omega) (by rw [← HN.out]; exact hM)
        have hN1b : N1 ≤ 151 := by omega
        have hMb : M ≤ 151 := by omega
        have hpu := fun W hW => window_push y x b g n most h v W hW
        generalize hh : v :: h = h2 at *
        have HREV := Lib.hid (show h.reverse ++ [v] = h2.reverse by rw [← hh, List.reverse_cons])
        clear hh hM
        have hVn : ∀ W : World, Vals (W.alloc (.cells #[.int .i64 v] 2)) (some ⟨W.heap.size, 0, none⟩) 1 [v] := fun W => Vals.has (ys := [v]) (tl := []) (Has.new W _ _)
        have hsu := fun W hW => window_sum y x b g n most h2 W hW
        have hbk := fun W hW => window_back y x b g n most h2 a3 W hW (by omega)
        have hrs := fun A9 c9 W (hW : Vals W A9 N1 h2.reverse) => refsum_any A9 N1 c9 M h2 W hW (by omega) (by omega)
        have hwi := fun A9 c9 W (hW : Vals W A9 N1 h2.reverse) => refwithin_any A9 N1 c9 most h2 a3 W hW (by omega)
        rw [htk] at hrs
        generalize wrap64 (winSum most h2) = S2 at *
        generalize agoTo most h2 a3 = r1 at *
        clear htk
        have HN1 := Lib.hid hN1
        have hnp2 : np + 1 ≤ 1048576 := by omega
        clear hN1
        go_wp2_with (first
          | (at_builtin; refine wpList_append_vals rfl (.tmp 52) (.tmp 54) _ rfl B 2 8 (by omega) Try.underlying28 HInfo.out u11 np h.reverse rfl (by exact h11a) _ 1 1 [v] rfl (by exact hVn _) hnp2 (by exact hBza) ?_; intro v1 w1 hO1 hg1 hat1; have hK3 := Kept.of_grown hg1; have hW3 := hWa.kept hK3 (own_apart (h11a) hB0.1) (own_apart (h11a) hB0.2.1) (own_apart (h11a) hB0.2.2.1) (own_apart (h11a) hB0.2.2.2); have hB3 := below_kept hBa hK3 hBa.size (fun k hk => Nat.le_trans hwB (own_in (h11a) k hk)); have hBz3 := Nat.le_trans hBza hK3.size; rw [HREV.out, HN1.out] at hO1)
          | (go_at_call 17; ((with_reducible refine (hpu _ (by exact hW3)).mono ?_); rintro e W4 ⟨rfl, hW4, hK4⟩; have hO4 := own_kept hO1 hK4 hbgB; have hB4 := below_kept hB3 hK4 hB3.size hbgw; have hBz4 := Nat.le_trans hBz3 hK4.size; obtain ⟨A9, c9, rfl, e1, e2, hV9, e3⟩ := Vals.own hO4))
          | (go_at_call 18; ((with_reducible refine (hrs _ _ _ (by exact hV9)).mono ?_); rintro e W5 ⟨rfl, d2, rfl⟩))
          | (go_at_call 19; ((with_reducible refine (hsu _ (by exact hW4.same rfl)).mono ?_); rintro e W6 ⟨rfl, rfl⟩))
          | (go_at_call 20; ((with_reducible refine (hbk _ (by exact hW4.same rfl)).mono ?_); rintro e W7 ⟨rfl, d4, rfl⟩))
          | (go_at_call 11; ((with_reducible refine (hwi _ _ _ (by exact hV9.same rfl)).mono ?_); rintro e W8 ⟨rfl, d5, rfl⟩)))
        go_roundw
        case rel => exact ⟨j + 1, by omega, by go_num, h2, N1, hW4.same rfl, hO4, by have := HN1.out; omega, hBz4, below_drewN hB4 _⟩
        case measure => simp [intOf]; omega
    · obtain rfl : j = m := by omega
      go_wp2_with (go_at_call 8; ((with_reducible refine (live_ok _).mono ?_); rintro e W9 ⟨rfl, hN⟩))
      go_ret
      exact ⟨rfl, hB.trans (hN.mono hB.size)⟩

theorem own : ownKnob Try.prog.godebug = none := by kernel_rfl
theorem laidOut : laidOutB Try.prog = true := by kernel_rfl

/-! ### The row's step -/
set_option maxRecDepth 100000 in
theorem lifted (os : Os) (started : os.Started) (H : Type) (enc : TypeId × Value → H) :
    ReturnsInHanded {} Try.checked os 4 .any (Rows.lineSumsSpec.pre6 enc Try.prog Try.f4 Rows.lineSumsRow.domain false) (Rows.lineSumsSpec.post enc Try.prog Try.f4 false true false false) := by
  refine returnsInHanded_of_change (C := Try.checked) own started (by kernel_rfl) Try.func4
    (ChangeSpec.witness6 (enc := enc) (C := Try.checked) false ⟨#[], #[.int .i64 0, .slice none 0 0, .int .u8 0, .int .i64 0], []⟩ 8 (by kernel_rfl) (by kernel_rfl) (by kernel_rfl) (by kernel_rfl)) ?_
  intro W base args ds gs before hval0 hW hcnd _
  have hval : ∀ (j : Nat) t v, Try.f4.params[j]? = some t → args[j]? = some v → Value.okWide Try.prog W .any base t v := hval0
  have hW' := hW
  obtain ⟨p, q, hA0, hV, rfl, hfz, hnd⟩ := hW
  have hA : DataW.TrodAll enc Try.prog W 0 (fun _ => true) true Try.f4.params.toList args.toList ds p := hA0
  rw [Try.params4] at hA hval
  obtain ⟨v0, vs0, d0, ds0, p0, q0, hargs, rfl, rfl, h0, r0⟩ := trodAll_cons hA
  obtain ⟨v1, vs1, d1, ds1, p1, q1, rfl, rfl, rfl, h1, r1⟩ := trodAll_cons r0
  obtain ⟨v2, vs2, d2, ds2, p2, q2, rfl, rfl, rfl, h2, r2⟩ := trodAll_cons r1
  obtain ⟨v3, vs3, d3, ds3, p3, q3, rfl, rfl, rfl, h3, r3⟩ := trodAll_cons r2
  obtain ⟨rfl, rfl, rfl⟩ := trodAll_nil r3
  obtain rfl : args = #[v0, v1, v2, v3] := by cases args; simp_all
  obtain ⟨rfl, rfl⟩ := trodVars_none hV
  obtain ⟨a0, rfl, rfl, rfl, w0⟩ := open_int Try.underlying3 (hval 0 3 v0 rfl rfl) h0
  obtain ⟨a1, len1, cap1, rfl⟩ := okWide_slice Try.underlying28 (hval 1 28 v1 rfl rfl)
  have k1 := h1
  have lt1 : ∀ x ∈ p1, x.block < W.heap.size := by obtain ⟨m, hm⟩ := k1; exact DataW.trod_lt m _ _ _ hm
  obtain ⟨z1, w1⟩ : ∃ zs, IsRow .i64 W a1 len1 cap1 zs := by
    obtain ⟨fuel, hf⟩ := h1
    rcases open_ints Try.underlying28 Try.underlying2 (by kernel_rfl) hf with ⟨hcs, _⟩ | ⟨x, l, c, zs, hcs, hx, hl, hm, hz, _, hcell, hwz⟩
    · simp [Value.cells] at hcs
      obtain ⟨rfl, rfl, rfl⟩ := hcs
      exact ⟨[], .inl ⟨rfl, rfl, rfl, rfl⟩⟩
    · simp [Value.cells] at hcs
      obtain ⟨rfl, rfl, rfl⟩ := hcs
      exact ⟨zs, isRow_some hl hm (by simpa using hz) hcell hwz⟩
  obtain ⟨a2, rfl, rfl, rfl, w2⟩ := open_int Try.underlying5 (hval 2 5 v2 rfl rfl) h2
  obtain ⟨a3, rfl, rfl, rfl, w3⟩ := open_int Try.underlying3 (hval 3 3 v3 rfl rfl) h3
  clear hA0 hval0
  refine (walk a0 a1 len1 cap1 z1 a2 a3 W w0 w1 w2 w3).mono fun e W' ⟨he, bel⟩ => ?_
  subst he
  exact ⟨_, rfl, _, _, _, [], _, [], hW', trodAll_mk1 (shut_bool Try.underlying4 _), (trodAll_cons_mk (shut_int Try.underlying3 w0) (trodAll_cons_mk (Below.trod laidOut (by kernel_rfl) (of_decide_eq_true (by kernel_rfl)) k1 bel lt1) (trodAll_cons_mk (shut_int Try.underlying5 w2) (trodAll_cons_mk (shut_int Try.underlying3 w3) trodAll_mk0)))), rfl, bel.frame _, fun h => by cases h⟩

theorem over : Rows.lineSumsRow.holds Try.pinned (OpenSpec.ofChange Rows.lineSumsSpec) :=
  OpenClaim.holds_of_wide 4 Try.f4 rfl rfl rfl rfl rfl rfl rfl ⟨rfl, rfl, rfl, rfl, rfl⟩ rfl rfl rfl rfl rfl (by kernel_rfl) Try.func4 (by kernel_rfl)
    (of_decide_eq_true (by kernel_rfl)) (by unfold Func.isWrapper; first | (rw [if_pos (by decide +kernel)]; kernel_rfl) | (rw [if_neg (by decide +kernel)]; exact ⟨rfl, rfl⟩))
    (fun os started H enc _ => lifted os started H enc)

theorem proved : Rows.LineSumsSaid := over
#print axioms proved
end Go.Proofs.Ytjjnabhkdhobiaa.lineSums
