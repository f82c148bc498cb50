/- Whatever number, lists, steps and cut come in, LineBacks answers true, and writes nothing that was there. -/
import Derived.Test.YtjjnabhkdhobiaaRows
import Derived.ShutString
import Derived.ChangeOld
import Derived.Below
import Derived.Test.YtjjnabhkdhobiaaLawKit
import Derived.Test.YtjjnabhkdhobiaaLineLive
import Derived.Test.YtjjnabhkdhobiaaLineRef
import Derived.Test.YtjjnabhkdhobiaaOwn
import Derived.Deep.Matrix
set_option linter.unusedSimpArgs false
set_option linter.unusedVariables false
namespace Go.Proofs.Ytjjnabhkdhobiaa.lineBacks
open Go.Deep
open Go.ChangeShapes Go.WideShapes Go.ChangeAt Go.RowKit
open Go.ChangeMaps (open_string shut_string)
open RI64
/-- The law's loop: the line has what the row of all has. -/
def Going (w : World) (x b g n most B m : Nat) (v11 i : Value) (wr : World) : Prop :=
  ∃ j, j ≤ m ∧ i = .int .i64 (j : Nat) ∧ ∃ h np, Line wr x b g n most h ∧ wr.ownsRow B 2 1 v11 np (vals h.reverse) ∧ np ≤ 40 * j ∧ B ≤ wr.heap.size ∧ Below w.heap.size w wr
theorem to_most (most : Nat) (h : List Int) : agoTo most h most = ago h most := by unfold agoTo; rw [if_neg (by omega)]
theorem to_zero (most : Nat) (h : List Int) : agoTo most h 0 = ago h 0 := by unfold agoTo; rw [if_neg (by omega)]
theorem to_far (most : Nat) (h : List Int) : agoTo most h ((most : Int) + 1) = 0 := by unfold agoTo; rw [if_pos (by omega)]
theorem to_neg (most : Nat) (h : List Int) : agoTo most h (-1) = 0 := by unfold agoTo; rw [if_neg (by omega), ago_neg _ _ (by omega)]
set_option maxRecDepth 100000 in
set_option maxHeartbeats 4000000 in
theorem walk (a0 : Int) (a1 : Option Addr) (len1 cap1 : Nat) (a2 a3 : Int) (w : World) (w0 : (Lit.int .i64 a0).wf = true) (w1 : IsRows .i64 w a1 len1 cap1) (w2 : (Lit.int .i64 a2).wf = true) (w3 : (Lit.int .u8 a3).wf = true) :
    Calls Try.prog 3 #[.int .i64 a0, .slice a1 len1 cap1, .int .i64 a2, .int .u8 a3] w fun e w' => e = .returned (.bool true) ∧ Below w.heap.size w w' := by
  have b0 := bounds_i64 w0
  have b2 := bounds_i64 w2
  have b3 := bounds_u8 w3
  clear w0 w2 w3
  by_cases hbad : a0 < 0 ∨ 1024 < a0
  · have hno := line_new_no a0 w hbad
    rcases hbad with hbad | hbad
    · go_enter Try.func3, Try.ntmps3
      go_wp2_with (first
        | (go_at_call 7; ((with_reducible refine hno.mono ?_); rintro e W1 ⟨rfl, rfl⟩))
        | (go_at_call 8; ((with_reducible refine (live_ok _).mono ?_); rintro e W9 ⟨rfl, hN⟩)))
      go_ret
      exact ⟨rfl, hN⟩
    · have h0 : ¬ a0 < 0 := by omega
      go_enter Try.func3, Try.ntmps3
      go_wp2_with (first
        | (go_at_call 7; ((with_reducible refine hno.mono ?_); rintro e W1 ⟨rfl, rfl⟩))
        | (go_at_call 8; ((with_reducible refine (live_ok _).mono ?_); rintro e W9 ⟨rfl, hN⟩)))
      go_ret
      exact ⟨rfl, hN⟩
  obtain ⟨most, rfl⟩ : ∃ most : Nat, a0 = (most : Int) := ⟨a0.toNat, by omega⟩
  have hmost : most ≤ 1024 := by omega
  have hg0 : ¬ (most : Int) < 0 := by omega
  have hg1 : ¬ (1024 : Int) < (most : Int) := by omega
  clear hbad
  have hl1 : len1 ≤ cap1 ∧ cap1 ≤ 9223372036854775807 := by
    rcases w1 with ⟨_, rfl, rfl⟩ | ⟨x, _, h1, h2, _⟩
    · omega
    · unfold maxLen at h2; omega
  obtain ⟨m, hm⟩ : ∃ m, min len1 12 = m := ⟨_, rfl⟩
  have hm1 : m ≤ len1 := by omega
  have hm2 : m ≤ 12 := by omega
  have hminA : (if (12 : Int) < (len1 : Int) then (12 : Int) else (len1 : Int)) = (m : Int) := by split <;> omega
  clear hm
  have hnew := line_new_yes most w hmost
  obtain ⟨x, b, g, B, hx, hb, hg, hB0, hbg⟩ : ∃ x b g B, w.heap.size ≤ x ∧ w.heap.size ≤ b ∧ w.heap.size ≤ g ∧ (x < B ∧ b < B ∧ g < B) ∧ (x = w.heap.size + 2 ∧ b = w.heap.size + 1 ∧ g = w.heap.size ∧ B = w.heap.size + 3) := ⟨_, _, _, _, by omega, by omega, by omega, by omega, rfl, rfl, rfl, rfl⟩
  have hnew2 : Calls Try.prog 7 #[.int .i64 (most : Int)] w fun e w' => e = .returned (.tuple #[.pointer (some ⟨x, 0, none⟩), .int .i64 0]) ∧ (∃ n, Line w' x b g n most []) ∧ Below w.heap.size w w' ∧ B ≤ w'.heap.size := by
    rw [hbg.1, hbg.2.1, hbg.2.2.1, hbg.2.2.2]
    exact hnew.mono fun e w' ⟨h1, h2, h3, h4⟩ => ⟨h1, h2, h3, by omega⟩
  clear hnew hbg
  have hInfo : (Try.prog.info? 2).map (fun i => (i.zero, i.size, i.bytes)) = some (some (.int .i64 0), 1, 8) := by kernel_rfl
  have HInfo := Lib.hid hInfo
  clear hInfo
  have hwB : w.heap.size ≤ B := by omega
  have hbgB : ∀ k ∈ [b, g], k < B := by intro k hk; simp at hk; omega
  have hbgw : ∀ k ∈ [b, g], w.heap.size ≤ k := by intro k hk; simp at hk; omega
  go_enter Try.func3, Try.ntmps3
  go_wp2_with (go_at_call 7; ((with_reducible refine hnew2.mono ?_); rintro e W1 ⟨rfl, ⟨n, hL1⟩, hB1, hz1⟩))
  clear hminA hnew2
  go_loopw [11, 40] (fun v11 i wr => Going w x b g n most B m v11 i wr) (fun _ i _ => m - (intOf i).toNat)
  case atStart => exact ⟨0, by omega, rfl, [], 0, hL1, own_none _ _ _, by omega, hz1, hB1⟩
  case round =>
    clear hL1 hB1 hz1
    obtain ⟨j, hj, rfl, h, np, hL, h11, hnp, hBz, hB⟩ := hrel
    by_cases hlt : j < m
    · rcases w1 with ⟨_, h0, _⟩ | ⟨x1, rfl, _, _, hrow⟩
      · omega
      obtain ⟨A, L, C, Z, hcell0, hrowj⟩ := hrow j (by omega)
      have hcell := (hB.cell (World.block_lt_of_cell? _ _ hcell0)).trans hcell0
      clear hrow hcell0
      obtain ⟨p, hp⟩ : ∃ p, min L 40 = p := ⟨_, rfl⟩
      have hpL : p ≤ L := by omega
      have hp40 : p ≤ 40 := by omega
      have hminL : (if (40 : Int) < (L : Int) then (40 : Int) else (L : Int)) = (p : Int) := by split <;> omega
      obtain ⟨hV, hc1, hc2, hltb⟩ := row_vals hrowj p hpL
      clear hrowj hp
      generalize Z.take p = ys at *
      have hVr := hV.below hB
      have hpC : p ≤ C := by omega
      have hfar : 0 < p → ∀ x, A = some x → x.block ≠ b ∧ x.block ≠ g := fun h0 x hx => by have := hltb x h0 hx; omega
      have hfar2 : 0 < p → ∀ y, A = some y → y.block ∉ [b, g] := fun h0 y hy => by have := hfar h0 y hy; simpa using this
      have hpu := line_push x b g n most h A p C ys wr hL hVr hpC hc2 hfar
      have hrev : h.reverse ++ ys = (ys.reverse ++ h).reverse := by rw [List.reverse_append, List.reverse_reverse]
      have HREV := Lib.hid hrev
      clear hrev
      generalize hh : ys.reverse ++ h = h2 at *
      clear hh
      have hbk := fun (k : Int) (hk : k ≤ 9223372036854775807) W hW => line_back x b g n most h2 k W hW hk
      have hbk1 := hbk a2 (by omega)
      have hbk2 := hbk 0 (by omega)
      have hbk3 := hbk most (by omega)
      rw [to_zero] at hbk2
      rw [to_most] at hbk3
      clear hbk
      have hwi := fun A9 c9 W (hW : Vals W A9 (np + p) h2.reverse) => refwithin_any A9 (np + p) c9 most h2 a2 W hW (by omega)
      have hrb0 := fun A9 c9 W (hW : Vals W A9 (np + p) h2.reverse) => refback_any A9 (np + p) c9 h2 0 W hW (by omega)
      have hrbm := fun A9 c9 W (hW : Vals W A9 (np + p) h2.reverse) => refback_any A9 (np + p) c9 h2 most W hW (by omega)
      generalize agoTo most h2 a2 = r1 at *
      generalize ago h2 0 = r2 at *
      generalize ago h2 (most : Int) = r3 at *
      have hnp2 : np + p ≤ 1048576 := by omega
      have hres := fun W hL => line_reset x b g n most h2 W hL
      by_cases ho : a3 % 2 = 1
      · by_cases h3 : 3 < p
        · go_wp2_with (first
            | (go_at_call 9; ((with_reducible refine hpu.mono ?_); rintro e W2 ⟨rfl, hL2, hK2⟩; have hB2 := below_kept hB hK2 hB.size hbgw; have h11a := own_kept h11 hK2 hbgB; have hVp := hVr.kept hK2 hfar2; have hBz2 := Nat.le_trans hBz hK2.size))
            | (at_builtin; refine wpList_append_vals rfl (.tmp 52) (.tmp 53) _ rfl B 2 8 (by omega) Try.underlying28 HInfo.out u11 np h.reverse rfl (by exact h11a) A p C ys rfl (by exact hVp) hnp2 (by exact hBz2) ?_; intro v1 w1 hO1 hg1 hat1; have hK3 := Kept.of_grown hg1; have hL3 := hL2.kept hK3 (own_apart h11a hB0.1) (own_apart h11a hB0.2.1) (own_apart h11a hB0.2.2); have hB3 := below_kept hB2 hK3 hB2.size (fun k hk => Nat.le_trans hwB (own_in h11a k hk)); have hBz3 := Nat.le_trans hBz2 hK3.size; rw [HREV.out] at hO1; obtain ⟨A9, c9, rfl, e1, e2, hV9, e3⟩ := Vals.own hO1)
            | (go_at_call 10; ((with_reducible refine (hbk1 _ (by exact hL3)).mono ?_); rintro e W4 ⟨rfl, d1, rfl⟩))
            | (go_at_call 11; ((with_reducible refine (hwi _ _ _ (by exact hV9.same rfl)).mono ?_); rintro e W5 ⟨rfl, d2, rfl⟩))
            | (go_at_call 10; ((with_reducible refine (hbk2 _ (by exact hL3.same rfl)).mono ?_); rintro e W6 ⟨rfl, d3, rfl⟩))
            | (go_at_call 12; ((with_reducible refine (hrb0 _ _ _ (by exact hV9.same rfl)).mono ?_); rintro e W7 ⟨rfl, d4, rfl⟩))
            | (go_at_call 10; ((with_reducible refine (hbk3 _ (by exact hL3.same rfl)).mono ?_); rintro e W8 ⟨rfl, d5, rfl⟩))
            | (go_at_call 12; ((with_reducible refine (hrbm _ _ _ (by exact hV9.same rfl)).mono ?_); rintro e W9 ⟨rfl, d6, rfl⟩))
            | (go_at_call 13; ((with_reducible refine (hres _ (by exact hL3.same rfl)).mono ?_); rintro e W10 ⟨rfl, hL4, hK4⟩; have hB4 := below_kept (below_drewN hB3 _) hK4 hB3.size hbgw)))
          go_roundw
          case rel => exact ⟨j + 1, by omega, by go_num, [], 0, hL4, own_none _ _ _, by omega, Nat.le_trans hBz3 hK4.size, hB4⟩
          case measure => simp [intOf]; omega
        · go_wp2_with (first
            | (go_at_call 9; ((with_reducible refine hpu.mono ?_); rintro e W2 ⟨rfl, hL2, hK2⟩; have hB2 := below_kept hB hK2 hB.size hbgw; have h11a := own_kept h11 hK2 hbgB; have hVp := hVr.kept hK2 hfar2; have hBz2 := Nat.le_trans hBz hK2.size))
            | (at_builtin; refine wpList_append_vals rfl (.tmp 52) (.tmp 53) _ rfl B 2 8 (by omega) Try.underlying28 HInfo.out u11 np h.reverse rfl (by exact h11a) A p C ys rfl (by exact hVp) hnp2 (by exact hBz2) ?_; intro v1 w1 hO1 hg1 hat1; have hK3 := Kept.of_grown hg1; have hL3 := hL2.kept hK3 (own_apart h11a hB0.1) (own_apart h11a hB0.2.1) (own_apart h11a hB0.2.2); have hB3 := below_kept hB2 hK3 hB2.size (fun k hk => Nat.le_trans hwB (own_in h11a k hk)); have hBz3 := Nat.le_trans hBz2 hK3.size; rw [HREV.out] at hO1; obtain ⟨A9, c9, rfl, e1, e2, hV9, e3⟩ := Vals.own hO1)
            | (go_at_call 10; ((with_reducible refine (hbk1 _ (by exact hL3)).mono ?_); rintro e W4 ⟨rfl, d1, rfl⟩))
            | (go_at_call 11; ((with_reducible refine (hwi _ _ _ (by exact hV9.same rfl)).mono ?_); rintro e W5 ⟨rfl, d2, rfl⟩))
            | (go_at_call 10; ((with_reducible refine (hbk2 _ (by exact hL3.same rfl)).mono ?_); rintro e W6 ⟨rfl, d3, rfl⟩))
            | (go_at_call 12; ((with_reducible refine (hrb0 _ _ _ (by exact hV9.same rfl)).mono ?_); rintro e W7 ⟨rfl, d4, rfl⟩))
            | (go_at_call 10; ((with_reducible refine (hbk3 _ (by exact hL3.same rfl)).mono ?_); rintro e W8 ⟨rfl, d5, rfl⟩))
            | (go_at_call 12; ((with_reducible refine (hrbm _ _ _ (by exact hV9.same rfl)).mono ?_); rintro e W9 ⟨rfl, d6, rfl⟩))
            | (go_at_call 13; ((with_reducible refine (hres _ (by exact hL3.same rfl)).mono ?_); rintro e W10 ⟨rfl, hL4, hK4⟩; have hB4 := below_kept (below_drewN hB3 _) hK4 hB3.size hbgw)))
          go_roundw
          case rel => exact ⟨j + 1, by omega, by go_num, h2, np + p, hL3.same rfl, hO1, by omega, hBz3, below_drewN hB3 _⟩
          case measure => simp [intOf]; omega
      · go_wp2_with (first
            | (go_at_call 9; ((with_reducible refine hpu.mono ?_); rintro e W2 ⟨rfl, hL2, hK2⟩; have hB2 := below_kept hB hK2 hB.size hbgw; have h11a := own_kept h11 hK2 hbgB; have hVp := hVr.kept hK2 hfar2; have hBz2 := Nat.le_trans hBz hK2.size))
            | (at_builtin; refine wpList_append_vals rfl (.tmp 52) (.tmp 53) _ rfl B 2 8 (by omega) Try.underlying28 HInfo.out u11 np h.reverse rfl (by exact h11a) A p C ys rfl (by exact hVp) hnp2 (by exact hBz2) ?_; intro v1 w1 hO1 hg1 hat1; have hK3 := Kept.of_grown hg1; have hL3 := hL2.kept hK3 (own_apart h11a hB0.1) (own_apart h11a hB0.2.1) (own_apart h11a hB0.2.2); have hB3 := below_kept hB2 hK3 hB2.size (fun k hk => Nat.le_trans hwB (own_in h11a k hk)); have hBz3 := Nat.le_trans hBz2 hK3.size; rw [HREV.out] at hO1; obtain ⟨A9, c9, rfl, e1, e2, hV9, e3⟩ := Vals.own hO1)
            | (go_at_call 10; ((with_reducible refine (hbk1 _ (by exact hL3)).mono ?_); rintro e W4 ⟨rfl, d1, rfl⟩))
            | (go_at_call 11; ((with_reducible refine (hwi _ _ _ (by exact hV9.same rfl)).mono ?_); rintro e W5 ⟨rfl, d2, rfl⟩))
            | (go_at_call 10; ((with_reducible refine (hbk2 _ (by exact hL3.same rfl)).mono ?_); rintro e W6 ⟨rfl, d3, rfl⟩))
            | (go_at_call 12; ((with_reducible refine (hrb0 _ _ _ (by exact hV9.same rfl)).mono ?_); rintro e W7 ⟨rfl, d4, rfl⟩))
            | (go_at_call 10; ((with_reducible refine (hbk3 _ (by exact hL3.same rfl)).mono ?_); rintro e W8 ⟨rfl, d5, rfl⟩))
            | (go_at_call 12; ((with_reducible refine (hrbm _ _ _ (by exact hV9.same rfl)).mono ?_); rintro e W9 ⟨rfl, d6, rfl⟩))
            | (go_at_call 13; ((with_reducible refine (hres _ (by exact hL3.same rfl)).mono ?_); rintro e W10 ⟨rfl, hL4, hK4⟩; have hB4 := below_kept (below_drewN hB3 _) hK4 hB3.size hbgw)))
        go_roundw
        case rel => exact ⟨j + 1, by omega, by go_num, h2, np + p, hL3.same rfl, hO1, by omega, hBz3, below_drewN hB3 _⟩
        case measure => simp [intOf]; omega
    · obtain rfl : j = m := by omega
      have hbk := fun (k : Int) (hk : k ≤ 9223372036854775807) W hW => line_back x b g n most h k W hW hk
      have hbk1 := hbk ((most : Int) + 1) (by omega)
      have hbk2 := hbk (-1) (by omega)
      rw [to_far] at hbk1
      rw [to_neg] at hbk2
      have hmo := line_most x b g n most h wr hL
      clear hbk
      go_wp2_with (first
        | (go_at_call 14; ((with_reducible refine hmo.mono ?_); rintro e W4 ⟨rfl, rfl⟩))
        | (go_at_call 10; ((with_reducible refine (hbk1 _ (by exact hL.same rfl)).mono ?_); rintro e W5 ⟨rfl, d1, rfl⟩))
        | (go_at_call 10; ((with_reducible refine (hbk2 _ (by exact hL.same rfl)).mono ?_); rintro e W6 ⟨rfl, d2, rfl⟩))
        | (go_at_call 8; ((with_reducible refine (live_ok _).mono ?_); rintro e W9 ⟨rfl, hN⟩)))
      go_ret
      exact ⟨rfl, (below_drewN hB _).trans (hN.mono hB.size)⟩

theorem own : ownKnob Try.prog.godebug = none := by kernel_rfl
theorem laidOut : laidOutB Try.prog = true := by kernel_rfl

/-! ### The row's step -/
set_option maxRecDepth 100000 in
theorem lifted (os : Os) (started : os.Started) (H : Type) (enc : TypeId × Value → H) :
    ReturnsInHanded {} Try.checked os 3 .any (Rows.lineBacksSpec.pre6 enc Try.prog Try.f3 Rows.lineBacksRow.domain false) (Rows.lineBacksSpec.post enc Try.prog Try.f3 false true false false) := by
  refine returnsInHanded_of_change (C := Try.checked) own started (by kernel_rfl) Try.func3
    (ChangeSpec.witness6 (enc := enc) (C := Try.checked) false ⟨#[], #[.int .i64 0, .slice none 0 0, .int .i64 0, .int .u8 0], []⟩ 8 (by kernel_rfl) (by kernel_rfl) (by kernel_rfl) (by kernel_rfl)) ?_
  intro W base args ds gs before hval0 hW hcnd _
  have hval : ∀ (j : Nat) t v, Try.f3.params[j]? = some t → args[j]? = some v → Value.okWide Try.prog W .any base t v := hval0
  have hW' := hW
  obtain ⟨p, q, hA0, hV, rfl, hfz, hnd⟩ := hW
  have hA : DataW.TrodAll enc Try.prog W 0 (fun _ => true) true Try.f3.params.toList args.toList ds p := hA0
  rw [Try.params3] at hA hval
  obtain ⟨v0, vs0, d0, ds0, p0, q0, hargs, rfl, rfl, h0, r0⟩ := trodAll_cons hA
  obtain ⟨v1, vs1, d1, ds1, p1, q1, rfl, rfl, rfl, h1, r1⟩ := trodAll_cons r0
  obtain ⟨v2, vs2, d2, ds2, p2, q2, rfl, rfl, rfl, h2, r2⟩ := trodAll_cons r1
  obtain ⟨v3, vs3, d3, ds3, p3, q3, rfl, rfl, rfl, h3, r3⟩ := trodAll_cons r2
  obtain ⟨rfl, rfl, rfl⟩ := trodAll_nil r3
  obtain rfl : args = #[v0, v1, v2, v3] := by cases args; simp_all
  obtain ⟨rfl, rfl⟩ := trodVars_none hV
  obtain ⟨a0, rfl, rfl, rfl, w0⟩ := open_int Try.underlying3 (hval 0 3 v0 rfl rfl) h0
  obtain ⟨a1, len1, cap1, rfl⟩ := okWide_slice Try.underlying22 (hval 1 22 v1 rfl rfl)
  have k1 := h1
  have lt1 : ∀ x ∈ p1, x.block < W.heap.size := by obtain ⟨m, hm⟩ := k1; exact DataW.trod_lt m _ _ _ hm
  have w1 : IsRows .i64 W a1 len1 cap1 := by
    obtain ⟨fuel, hf⟩ := h1
    rcases open_int_rows Try.underlying22 Try.underlying28 Try.underlying2 (by kernel_rfl) (by kernel_rfl) hf with ⟨hcs, _⟩ | ⟨x, l, c, A, L, C, Z, hcs, hx, hl, hm, _, hr⟩
    · simp [Value.cells] at hcs
      obtain ⟨rfl, rfl, rfl⟩ := hcs
      exact .inl ⟨rfl, rfl, rfl⟩
    · simp [Value.cells] at hcs
      obtain ⟨rfl, rfl, rfl⟩ := hcs
      exact isRows_some hl hm hr
  obtain ⟨a2, rfl, rfl, rfl, w2⟩ := open_int Try.underlying3 (hval 2 3 v2 rfl rfl) h2
  obtain ⟨a3, rfl, rfl, rfl, w3⟩ := open_int Try.underlying5 (hval 3 5 v3 rfl rfl) h3
  clear hA0 hval0
  refine (walk a0 a1 len1 cap1 a2 a3 W w0 w1 w2 w3).mono fun e W' ⟨he, bel⟩ => ?_
  subst he
  exact ⟨_, rfl, _, _, _, [], _, [], hW', trodAll_mk1 (shut_bool Try.underlying4 _), (trodAll_cons_mk (shut_int Try.underlying3 w0) (trodAll_cons_mk (Below.trod laidOut (by kernel_rfl) (of_decide_eq_true (by kernel_rfl)) k1 bel lt1) (trodAll_cons_mk (shut_int Try.underlying3 w2) (trodAll_cons_mk (shut_int Try.underlying5 w3) trodAll_mk0)))), rfl, bel.frame _, fun h => by cases h⟩

theorem over : Rows.lineBacksRow.holds Try.pinned (OpenSpec.ofChange Rows.lineBacksSpec) :=
  OpenClaim.holds_of_wide 3 Try.f3 rfl rfl rfl rfl rfl rfl rfl ⟨rfl, rfl, rfl, rfl, rfl⟩ rfl rfl rfl rfl rfl (by kernel_rfl) Try.func3 (by kernel_rfl)
    (of_decide_eq_true (by kernel_rfl)) (by unfold Func.isWrapper; first | (rw [if_pos (by decide +kernel)]; kernel_rfl) | (rw [if_neg (by decide +kernel)]; exact ⟨rfl, rfl⟩))
    (fun os started H enc _ => lifted os started H enc)

theorem proved : Rows.LineBacksSaid := over
#print axioms proved
end Go.Proofs.Ytjjnabhkdhobiaa.lineBacks
