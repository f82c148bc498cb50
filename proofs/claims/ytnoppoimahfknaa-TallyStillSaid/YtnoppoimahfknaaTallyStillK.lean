/- TallyStill: the walk. -/
import Derived.Test.YtnoppoimahfknaaTallyLive
import Derived.Test.YtnoppoimahfknaaTallyRef
import Derived.Test.YtnoppoimahfknaaRowFirst
set_option linter.unusedSimpArgs false
set_option linter.unusedVariables false
namespace Go.Proofs.Ytnoppoimahfknaa.Tally
open Go.RowKit RI64
theorem may_asys (N : Int) (h : 200 ≤ N ∧ N ≤ 6000) : mayT ⟨50, N, 100, 5, 240, 3, 200, 12, 2000⟩ = true := by
  rw [may_dec]
  apply decide_eq_true
  dsimp only
  omega
/-- The tally stands so, and the limits lie in block u. -/
structure Wh (w : World) (b u : Nat) (l : Lim) (t : Int) (W : World) : Prop where
  mt : Mt w b l ⟨true, t, []⟩ W
  lim : Has W u 52 (limC l)
  ne_ : u ≠ b
theorem Wh.grow {w W W' : World} {b u : Nat} {l : Lim} {t : Int} (h : Wh w b u l t W) (hB : Below W.heap.size W W') : Wh w b u l t W' := ⟨h.mt.grow hB, h.lim.below hB h.lim.lt, h.ne_⟩
theorem Wh.turn {w W W' : World} {b u : Nat} {l : Lim} {t t' : Int} (h : Wh w b u l t W) (hT : Tal W' b l ⟨true, t', []⟩) (hK : Kept [b] W W') : Wh w b u l t' W' := ⟨h.mt.turn hT hK, hK.has h.lim (by simpa using h.ne_), h.ne_⟩
theorem still_at (b : Nat) (N t a : Int) (r : Bool) (W : World) (h : Tal W b ⟨50, N, 100, 5, 240, 3, 200, 12, 2000⟩ ⟨true, t, []⟩) (ha : 0 ≤ a ∧ a ≤ 1099511627776) (hr : r = decide (N ≤ a - t)) :
    Calls Try.prog 38 #[.pointer (some ⟨b, 0, none⟩), .int .i64 a] W fun e w' => e = .returned (.bool r) ∧ Below W.heap.size W w' := by
  have h1 := still_k b _ _ a W h
  unfold stillT at h1
  rw [nearA_id a ha, Bool.true_and, ← hr] at h1
  exact h1
theorem beat_at (b : Nat) (l : Lim) (t a : Int) (W : World) (h : Tal W b l ⟨true, t, []⟩) (ha : 0 ≤ a ∧ a ≤ 1099511627776) :
    Calls Try.prog 30 #[.pointer (some ⟨b, 0, none⟩), .int .i64 a, .slice none 0 0] W fun e w' => e = .returned (.tuple #[]) ∧ Tal w' b l ⟨true, a, []⟩ ∧ Kept [b] W w' := by
  have h1 := beat_k b l _ a none 0 0 [] W h (Vals.none_ _) (by omega) (by dsimp only [List.length_nil]; omega) (fun x h => absurd h (by omega))
  unfold beatT at h1
  rw [nearA_id a ha] at h1
  exact h1
set_option maxRecDepth 100000 in
set_option maxHeartbeats 4000000 in
theorem stills_k (a0 a1 : Int) (a2 : Option Addr) (len2 cap2 : Nat) (z2 : List Int) (w : World) (w0 : (Lit.int .u16 a0).wf = true) (w1 : (Lit.int .u32 a1).wf = true) (w2 : IsRow .u16 w a2 len2 cap2 z2) :
    Calls Try.prog 10 #[.int .u16 a0, .int .u32 a1, .slice a2 len2 cap2] w fun e w' => e = .returned (.bool true) ∧ Below w.heap.size w w' := by
  have b0 := bounds_u16 w0
  have b1 := bounds_u32 w1
  clear w0 w1
  obtain ⟨p, hp⟩ : ∃ p, min len2 40 = p := ⟨_, rfl⟩
  have hp1 : p ≤ len2 := by omega
  have hp2 : p ≤ 40 := by omega
  have hminA : (if (40 : Int) < (len2 : Int) then (40 : Int) else (len2 : Int)) = (p : Int) := by split <;> omega
  obtain ⟨hc1, hc2, _, hcells⟩ := row_first bounds_u16 w2 p hp1
  clear w2 hp
  have hp3 : p ≤ cap2 := by omega
  generalize z2.take p = zs at *
  have hus := fun W => usual_k W
  have hli := fun W => live_k W
  obtain ⟨N, hN⟩ : ∃ N, 200 + a0 % 5801 = N := ⟨_, rfl⟩
  have hNb : 200 ≤ N ∧ N ≤ 6000 := by omega
  have hrm : a0.tmod 5801 = a0 % 5801 := Int.tmod_eq_emod_of_nonneg (by omega)
  have hnew := fun W => new_yes _ W (may_asys N hNb)
  have hbe := fun b W h => begin_k b ⟨50, N, 100, 5, 240, 3, 200, 12, 2000⟩ st0 a1 W h
  unfold beginT at hbe
  rw [nearA_id a1 (by omega)] at hbe
  unfold limV usualT at hus
  unfold limV at hnew
  dsimp only at hus hnew
  have hmay := may_asys N hNb
  have Hq : ∀ W', 0 < p → Below w.heap.size w W' → ∀ j, j < p → ∃ x, a2 = some x ∧ W'.cell? (x.add j) = some (.int .u16 (zs.getD j 0)) ∧ 0 ≤ zs.getD j 0 ∧ zs.getD j 0 ≤ 65535 := fun W' h0 hB j hj => by
    obtain ⟨x, hx, hc⟩ := hcells h0
    obtain ⟨h1, h2, h3⟩ := hc j hj
    exact ⟨x, hx, (World.cell?_of_block (w := w) (hB.block _ (World.block_lt_of_cell? _ _ h1))).trans h1, h2, h3⟩
  have HQ := Lib.hid Hq
  clear hcells Hq
  go_enter Try.func10, Try.ntmps10
  go_wp2_with (first
    | (go_at_call 26; ((with_reducible refine (hus _).mono ?_); rintro e W1 ⟨rfl, hB1⟩; have hX1 := Has.new W1 52 #[.int .i64 50, .int .i64 N, .int .i64 100, .int .i64 5, .int .i64 240, .int .i64 3, .int .i64 200, .int .i64 12, .int .i64 2000]; have hB2 := hB1.alloc hB1.size (.cells #[.int .i64 50, .int .i64 N, .int .i64 100, .int .i64 5, .int .i64 240, .int .i64 3, .int .i64 200, .int .i64 12, .int .i64 2000] 52)))
    | (go_at_call 24; ((with_reducible refine (hnew _).mono ?_); rintro e W2 ⟨b, rfl, hT, hf, hB3⟩; have hX2 := hX1.below hB3 hX1.lt; have hub : W1.heap.size < b := Nat.lt_of_lt_of_le hX1.lt hf; have hM2 : Mt w b ⟨50, N, 100, 5, 240, 3, 200, 12, 2000⟩ st0 W2 := ⟨hT, hB2.trans (hB3.mono hB2.size), Nat.le_trans hB2.size hf⟩; clear hX1 hB1 hB2 hB3 hf hT))
    | (go_at_call 28; ((with_reducible refine (hbe _ _ hM2.tal).mono ?_); rintro e W3 ⟨rfl, hT, hK⟩; have hM3 : Wh w b W1.heap.size ⟨50, N, 100, 5, 240, 3, 200, 12, 2000⟩ a1 W3 := ⟨hM2.turn hT hK, hK.has hX2 (by simp; omega), by omega⟩; clear hT hK)))
  clear hM2 hX2 hub hus hnew hbe hminA hmay hrm hN
  generalize W1.heap.size = u at *
  go_loopw [10, 38] (fun v i wr => ∃ (j : Nat) (t : Int), j ≤ p ∧ i = .int .i64 (j : Nat) ∧ v = .int .i64 t ∧ 0 ≤ t ∧ t ≤ 4294967295 + j * 6000 ∧ Wh w b u ⟨50, N, 100, 5, 240, 3, 200, 12, 2000⟩ t wr) (fun _ i _ => p - (intOf i).toNat)
  case atStart => exact ⟨0, a1, by omega, rfl, rfl, by omega, by omega, hM3⟩
  case round =>
    clear hM3
    obtain ⟨j, t, hj, rfl, rfl, ht1, ht2, hM⟩ := hrel
    by_cases hjp : j < p
    · obtain ⟨x, rfl, hcell, g1, g2⟩ := HQ.out wr (by omega) hM.mt.below j hjp
      generalize zs.getD j 0 = g at *
      obtain ⟨q, hq⟩ : ∃ q, g.tmod N = q := ⟨_, rfl⟩
      have hqb : 0 ≤ q ∧ q < N := by
        rw [← hq, Int.tmod_eq_emod_of_nonneg g1]
        exact ⟨Int.emod_nonneg _ (by omega), Int.emod_lt_of_pos _ (by omega)⟩
      have hN0 : (N == 0) = false := beq_eq_false_iff_ne.2 (by omega)
      have hcu : wr.cell? ⟨u, 1, none⟩ = some (.int .i64 N) := hM.lim.cell 1
      have hst := still_at b N t (t + 1 + q - 1) false wr hM.mt.tal (by omega) (by symm; apply decide_eq_false; omega)
      have hbt := fun W h => beat_at b ⟨50, N, 100, 5, 240, 3, 200, 12, 2000⟩ t (t + 1 + q) W h (by omega)
      have e1 : IntKind.i64.wrap (t + 1) = t + 1 := by rw [IntKind.wrap_i64]; omega
      have e2 : IntKind.i64.wrap (t + 1 + q) = t + 1 + q := by rw [IntKind.wrap_i64]; omega
      have e3 : IntKind.i64.wrap (t + 1 + q - 1) = t + 1 + q - 1 := by rw [IntKind.wrap_i64]; omega
      go_wp2_with (first
        | (go_at_call 38; ((with_reducible refine hst.mono ?_); rintro e W4 ⟨rfl, hB4⟩; have hM4 := hM.grow hB4))
        | (go_at_call 30; ((with_reducible refine (hbt _ hM4.mt.tal).mono ?_); rintro e W5 ⟨rfl, hT5, hK5⟩; have hM5 := hM4.turn hT5 hK5)))
      go_roundw
      case rel => exact ⟨j + 1, t + 1 + q, by omega, by go_num, rfl, by omega, by omega, hM5⟩
      case measure => simp [intOf]; omega
    · obtain rfl : j = p := by omega
      have hcu : wr.cell? ⟨u, 1, none⟩ = some (.int .i64 N) := hM.lim.cell 1
      have hs1 := fun W h => still_at b N t (t + N - 1) false W h (by omega) (by symm; apply decide_eq_false; omega)
      have hs2 := fun W h => still_at b N t (t + N) true W h (by omega) (by symm; apply decide_eq_true; omega)
      have hs3 := fun W h => still_at b N t (t + N + 1) true W h (by omega) (by symm; apply decide_eq_true; omega)
      have e1 : IntKind.i64.wrap (t + N) = t + N := by rw [IntKind.wrap_i64]; omega
      have e2 : IntKind.i64.wrap (t + N - 1) = t + N - 1 := by rw [IntKind.wrap_i64]; omega
      have e3 : IntKind.i64.wrap (t + N + 1) = t + N + 1 := by rw [IntKind.wrap_i64]; omega
      go_wp2_with (first
        | (go_at_call 38; ((with_reducible refine (hs1 _ hM.mt.tal).mono ?_); rintro e W4 ⟨rfl, hB4⟩; have hM4 := hM.grow hB4; have hcu4 : W4.cell? ⟨u, 1, none⟩ = some (.int .i64 N) := hM4.lim.cell 1))
        | (go_at_call 38; ((with_reducible refine (hs2 _ hM4.mt.tal).mono ?_); rintro e W5 ⟨rfl, hB5⟩; have hM5 := hM4.grow hB5; have hcu5 : W5.cell? ⟨u, 1, none⟩ = some (.int .i64 N) := hM5.lim.cell 1))
        | (go_at_call 38; ((with_reducible refine (hs3 _ hM5.mt.tal).mono ?_); rintro e W6 ⟨rfl, hB6⟩; have hM6 := hM5.grow hB6))
        | (go_at_call 27; ((with_reducible refine (hli _).mono ?_); rintro e W7 ⟨rfl, hB7⟩; have hM7 := hM6.grow hB7)))
      go_ret
      exact ⟨rfl, hM7.mt.below⟩
end Go.Proofs.Ytnoppoimahfknaa.Tally
