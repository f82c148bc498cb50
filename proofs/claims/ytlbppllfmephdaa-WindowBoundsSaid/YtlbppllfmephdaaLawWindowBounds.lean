/- Whatever values come in, WindowBounds answers true, and writes nothing that was there. -/
import Derived.Test.YtlbppllfmephdaaRows
import Derived.ShutString
import Derived.ChangeOld
import Derived.Below
import Derived.Test.YtlbppllfmephdaaLawKit
import Derived.Test.YtlbppllfmephdaaWinLive
set_option linter.unusedSimpArgs false
set_option linter.unusedVariables false
namespace Go.Proofs.Ytlbppllfmephdaa.windowBounds
open Go.ChangeShapes Go.WideShapes Go.ChangeAt Go.RowKit
open Go.ChangeMaps (open_string shut_string)
open RI64 Win
set_option maxRecDepth 100000 in
set_option maxHeartbeats 2000000 in
theorem walk (a0 : Option Addr) (len0 cap0 : Nat) (z0 : List Int) (w : World) (w0 : IsRow .i64 w a0 len0 cap0 z0) :
    Calls Try.prog 4 #[.slice a0 len0 cap0] w fun e w' => e = .returned (.bool true) ∧ Below w.heap.size w w' := by
  obtain ⟨p, hp⟩ : ∃ p, min len0 300 = p := ⟨_, rfl⟩
  have hp1 : p ≤ len0 := by omega
  have hp2 : p ≤ 300 := by omega
  have hminA : (if (300 : Int) < (len0 : Int) then (300 : Int) else (len0 : Int)) = (p : Int) := by split <;> omega
  obtain ⟨hV, hc1, hc2, hltb⟩ := row_vals w0 p hp1
  clear w0 hp
  generalize z0.take p = ys at *
  have hp3 : p ≤ cap0 := by omega
  have hnew := fun W => new_any W
  unfold NewIs at hnew
  go_enter Try.func4, Try.ntmps4
  go_wp2_with (first
    | (go_at_call 6; ((with_reducible refine (hnew w).mono ?_); rintro e W1 ⟨bx, Sx, rfl, hFx, hSx, hC1⟩))
    | (go_at_call 6; ((with_reducible refine (hnew W1).mono ?_); rintro e W2 ⟨bY, SY, rfl, hFy, hSy, hB2⟩; have hFx2 := kit.below hFx hB2; have hC2 := hC1.trans (hB2.mono hC1.size); have hltx := kit.lt hFx; have hbl := kit.block_any bx Sx [] a0 p cap0 ys W2 hFx2 (hV.below hC2) (by omega) hp3 hc2 (fun h0 x hx hm => by have h1 := hltb x h0 hx; have h2 := hSx _ hm; omega)))
    | (go_at_call 9; ((with_reducible refine hbl.mono ?_); rintro e W3 ⟨BX, dx, rfl, hd1, hd2, hVX, hfX, _, hK3⟩; have hC3 := below_kept hC2 hK3 hC2.size hSx; have hFy3 := kit.kept hFy hK3 (fun k hk hm => by have h1 := hSy k hk; have h2 := hltx _ hm; omega); have hlty := kit.lt hFy; have hlen := hV.len_; rw [hlen] at hVX hd1)))
  have HLEN := Lib.hid hlen
  clear hminA hnew hbl hFx2 hFx hFy hlen
  go_loopw [27] (fun i wr => ∃ j : Nat, j ≤ p ∧ i = .int .i64 (j : Nat) ∧ kit.Fil wr bY SY ((ys.take j).reverse ++ []) ∧ Kept SY W3 wr) (fun i _ => p - (intOf i).toNat)
  case atStart => exact ⟨0, by omega, rfl, hFy3, Kept.refl SY W3⟩
  case round =>
    clear hFy3
    obtain ⟨j, hj, rfl, hF, hK⟩ := hrel
    have hC := below_kept hC3 hK hC3.size (fun k hk => Nat.le_trans hC1.size (hSy k hk))
    by_cases hjp : j < p
    · obtain ⟨x1, rfl, hcx⟩ := (hV.below hC).cells (by omega)
      have hcell := hcx j hjp
      obtain ⟨xB, rfl, hcB⟩ := (hVX.kept hK (fun _ x hx hm => by have h1 := hfX x hx; have h2 := hlty _ hm; omega)).cells (by omega)
      have hcB4 : ∀ W4, Kept SY wr W4 → ∀ i, i < p → W4.cell? (xB.add i) = some (.int .i64 ((outsT winT [] ys).getD i 0)) := fun W4 hk i hi => (hk.cell (World.block_lt_of_cell? _ _ (hcB i hi)) (by rw [block_add]; intro hm; have h1 := hfX xB rfl; have h2 := hlty _ hm; omega)).trans (hcB i hi)
      have hcx4 : ∀ W4, Kept SY wr W4 → ∀ i, i < p → W4.cell? (x1.add i) = some (.int .i64 (ys.getD i 0)) := fun W4 hk i hi => (hk.cell (World.block_lt_of_cell? _ _ (hcx i hi)) (by rw [block_add]; intro hm; have h1 := hltb x1 (by omega) rfl; have h2 := hSy _ hm; have h3 := hC1.size; omega)).trans (hcx i hi)
      have hpu := kit.push_any bY SY ((ys.take j).reverse ++ []) (ys.getD j 0) wr hF
      have hri := win_rises (ys.getD j 0) ((ys.take j).reverse ++ [])
      have hat := fun i (hi : i < p) => outs_at winT [] ys i (by have := HLEN.out; omega)
      rw [came_step [] ys j (by have := HLEN.out; omega)] at hpu hri
      have hbd := win_bd ((ys.take (j + 1)).reverse ++ [])
      have hatj := hat j hjp
      have hlv0 : j < 30 → ((ys.take j).reverse ++ []).getD 29 0 = 0 := fun hj30 => by
        rw [List.append_nil, List.getD_eq_getElem?_getD, List.getElem?_eq_none (by rw [List.length_reverse, List.length_take]; omega)]
        rfl
      have hlv1 : 30 ≤ j → ((ys.take j).reverse ++ []).getD 29 0 = ys.getD (j - 30) 0 := fun hj30 => by
        have hl := HLEN.out
        have hlt : (ys.take j).reverse.length = j := by rw [List.length_reverse, List.length_take]; omega
        have h1 := rev_at (ys.take j).reverse 29 (by omega)
        rw [hlt, List.reverse_reverse, show j - 1 - 29 = j - 30 by omega] at h1
        rw [List.append_nil, ← h1, List.getD_eq_getElem?_getD, List.getD_eq_getElem?_getD, List.getElem?_take_of_lt (by omega)]
      generalize winT ((ys.take (j + 1)).reverse ++ []) = r at *
      have hb1 : ¬ 62914560 < r := by omega
      have hb2 : ¬ r < 0 := by omega
      clear hcB hbd hltb
      have HB4 := Lib.hid hcB4
      have HX4 := Lib.hid hcx4
      clear hcB4 hcx4 hcx
      have hCj : ∀ W4, Kept SY wr W4 → W4.cell? (xB.add j) = some (.int .i64 r) := fun W4 hk => by rw [← hatj]; exact HB4.out W4 hk j hjp
      have HCJ := Lib.hid hCj
      clear hCj hatj
      rcases Nat.eq_zero_or_pos j with hj0 | hj0
      · have hjz1 : ¬ (30 : Int) ≤ (j : Int) := by omega
        have hjz2 : ¬ (0 : Int) < (j : Int) := by omega
        have hjz3 : ¬ 0 < j := by omega
        clear hj0 hlv0 hlv1 hri hat
        generalize ys.getD j 0 = v at *
        go_wp2_with (go_at_call 12; ((with_reducible refine hpu.mono ?_); rintro e W4 ⟨rfl, hF4, hK4⟩; have hK5 := hK.trans hK4; have hcellC := HCJ.out W4 hK4))
        go_roundw
        case rel => exact ⟨j + 1, by omega, by go_num, hF4, hK5⟩
        case measure => simp [intOf]; omega
      · have hjz2 : (0 : Int) < (j : Int) := by omega
        obtain ⟨d, hd⟩ : ∃ d, j - 1 = d := ⟨_, rfl⟩
        have hdz : (j : Int) - 1 = (d : Int) := by omega
        have hdp : d < p := by omega
        have hatd := hat d hdp
        rw [show d + 1 = j by omega] at hatd
        have hCd : ∀ W4, Kept SY wr W4 → W4.cell? (xB.add d) = some (.int .i64 (winT ((ys.take j).reverse ++ []))) := fun W4 hk => by rw [← hatd]; exact HB4.out W4 hk d hdp
        have HCD := Lib.hid hCd
        clear hCd hatd hd hat
        rcases Nat.lt_or_ge j 30 with hj30 | hj30
        · have hjz1 : ¬ (30 : Int) ≤ (j : Int) := by omega
          rw [hlv0 hj30] at hri
          have hri2 := hri (.inr (Int.le_refl 0))
          have hri3 : ¬ r < winT ((ys.take j).reverse ++ []) := by omega
          clear hri hri2 hlv0 hlv1 hj30
          generalize winT ((ys.take j).reverse ++ []) = r0 at *
          generalize ys.getD j 0 = v at *
          rcases Int.lt_or_le v 0 with hv0 | hv0
          all_goals
            go_wp2_with (go_at_call 12; ((with_reducible refine hpu.mono ?_); rintro e W4 ⟨rfl, hF4, hK4⟩; have hK5 := hK.trans hK4; have hcellC := HCJ.out W4 hK4; have hcellD := HCD.out W4 hK4))
            go_roundw
            case rel => exact ⟨j + 1, by omega, by go_num, hF4, hK5⟩
            case measure => simp [intOf]; omega
        · have hjz1 : (30 : Int) ≤ (j : Int) := by omega
          rw [hlv1 hj30] at hri
          obtain ⟨e, he⟩ : ∃ e, j - 30 = e := ⟨_, rfl⟩
          have hez : (j : Int) - 30 = (e : Int) := by omega
          have hep : e < p := by omega
          rw [he] at hri
          have hCe : ∀ W4, Kept SY wr W4 → W4.cell? (x1.add e) = some (.int .i64 (ys.getD e 0)) := fun W4 hk => HX4.out W4 hk e hep
          have HCE := Lib.hid hCe
          clear hCe hlv0 hlv1 hj30 he
          generalize winT ((ys.take j).reverse ++ []) = r0 at *
          generalize ys.getD j 0 = v at *
          generalize ys.getD e 0 = lv at *
          have hways : (v < 0 ∧ lv ≤ 0 ∧ ¬ r < r0) ∨ (v < 0 ∧ ¬ lv ≤ 0) ∨ (¬ v < 0 ∧ lv ≤ v ∧ ¬ r < r0) ∨ (¬ v < 0 ∧ ¬ lv ≤ v) := by
            rcases Int.lt_or_le v 0 with hv0 | hv0
            · by_cases h1 : lv ≤ 0
              · have := hri (.inr h1); omega
              · omega
            · by_cases h1 : lv ≤ v
              · have := hri (.inl h1); omega
              · omega
          clear hri
          rcases hways with ⟨g1, g2, g3⟩ | ⟨g1, g2⟩ | ⟨g1, g2, g3⟩ | ⟨g1, g2⟩
          all_goals
            go_wp2_with (go_at_call 12; ((with_reducible refine hpu.mono ?_); rintro e W4 ⟨rfl, hF4, hK4⟩; have hK5 := hK.trans hK4; have hcellC := HCJ.out W4 hK4; have hcellD := HCD.out W4 hK4; have hcellE := HCE.out W4 hK4))
            go_roundw
            case rel => exact ⟨j + 1, by omega, by go_num, hF4, hK5⟩
            case measure => simp [intOf]; omega
    · obtain rfl : j = p := by omega
      go_wp2_with (go_at_call 13; ((with_reducible refine (live_k _).mono ?_); rintro e W9 ⟨rfl, hN⟩))
      go_ret
      exact ⟨rfl, hC.trans (hN.mono hC.size)⟩

theorem own : ownKnob Try.prog.godebug = none := by kernel_rfl
theorem laidOut : laidOutB Try.prog = true := by kernel_rfl

/-! ### The row's step -/
set_option maxRecDepth 100000 in
theorem lifted (os : Os) (started : os.Started) (H : Type) (enc : TypeId × Value → H) :
    ReturnsInHanded {} Try.checked os 4 .any (Rows.windowBoundsSpec.pre6 enc Try.prog Try.f4 Rows.windowBoundsRow.domain false) (Rows.windowBoundsSpec.post enc Try.prog Try.f4 false true false false) := by
  refine returnsInHanded_of_change (C := Try.checked) own started (by kernel_rfl) Try.func4
    (ChangeSpec.witness6 (enc := enc) (C := Try.checked) false ⟨#[], #[.slice none 0 0], []⟩ 8 (by kernel_rfl) (by kernel_rfl) (by kernel_rfl) (by kernel_rfl)) ?_
  intro W base args ds gs before hval0 hW hcnd _
  have hval : ∀ (j : Nat) t v, Try.f4.params[j]? = some t → args[j]? = some v → Value.okWide Try.prog W .any base t v := hval0
  have hW' := hW
  obtain ⟨p, q, hA0, hV, rfl, hfz, hnd⟩ := hW
  have hA : DataW.TrodAll enc Try.prog W 0 (fun _ => true) true Try.f4.params.toList args.toList ds p := hA0
  rw [Try.params4] at hA hval
  obtain ⟨v0, vs0, d0, ds0, p0, q0, hargs, rfl, rfl, h0, r0⟩ := trodAll_cons hA
  obtain ⟨rfl, rfl, rfl⟩ := trodAll_nil r0
  obtain rfl : args = #[v0] := by cases args; simp_all
  obtain ⟨rfl, rfl⟩ := trodVars_none hV
  obtain ⟨a0, len0, cap0, rfl⟩ := okWide_slice Try.underlying22 (hval 0 22 v0 rfl rfl)
  have k0 := h0
  have lt0 : ∀ x ∈ p0, x.block < W.heap.size := by obtain ⟨m, hm⟩ := k0; exact DataW.trod_lt m _ _ _ hm
  obtain ⟨z0, w0⟩ : ∃ zs, IsRow .i64 W a0 len0 cap0 zs := by
    obtain ⟨fuel, hf⟩ := h0
    rcases open_ints Try.underlying22 Try.underlying2 (by kernel_rfl) hf with ⟨hcs, _⟩ | ⟨x, l, c, zs, hcs, hx, hl, hm, hz, _, hcell, hwz⟩
    · simp [Value.cells] at hcs
      obtain ⟨rfl, rfl, rfl⟩ := hcs
      exact ⟨[], .inl ⟨rfl, rfl, rfl, rfl⟩⟩
    · simp [Value.cells] at hcs
      obtain ⟨rfl, rfl, rfl⟩ := hcs
      exact ⟨zs, isRow_some hl hm (by simpa using hz) hcell hwz⟩
  clear hA0 hval0
  refine (walk a0 len0 cap0 z0 W w0).mono fun e W' ⟨he, bel⟩ => ?_
  subst he
  exact ⟨_, rfl, _, _, _, [], _, [], hW', trodAll_mk1 (shut_bool Try.underlying4 _), (trodAll_cons_mk (Below.trod laidOut (by kernel_rfl) (of_decide_eq_true (by kernel_rfl)) k0 bel lt0) trodAll_mk0), rfl, bel.frame _, fun h => by cases h⟩

theorem over : Rows.windowBoundsRow.holds Try.pinned (OpenSpec.ofChange Rows.windowBoundsSpec) :=
  OpenClaim.holds_of_wide 4 Try.f4 rfl rfl rfl rfl rfl rfl rfl ⟨rfl, rfl, rfl, rfl, rfl⟩ rfl rfl rfl rfl rfl (by kernel_rfl) Try.func4 (by kernel_rfl)
    (of_decide_eq_true (by kernel_rfl)) (by unfold Func.isWrapper; first | (rw [if_pos (by decide +kernel)]; kernel_rfl) | (rw [if_neg (by decide +kernel)]; exact ⟨rfl, rfl⟩))
    (fun os started H enc _ => lifted os started H enc)

theorem proved : Rows.WindowBoundsSaid := over
#print axioms proved
end Go.Proofs.Ytlbppllfmephdaa.windowBounds
