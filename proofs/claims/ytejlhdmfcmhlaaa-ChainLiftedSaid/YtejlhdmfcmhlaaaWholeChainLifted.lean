/- Whatever mains, samples and lift come in, ChainLifted answers true, and writes nothing that was there. -/
import Derived.Test.YtejlhdmfcmhlaaaRows
import Derived.ShutString
import Derived.ChangeOld
import Derived.Below
import Derived.Test.YtejlhdmfcmhlaaaPack1
import Derived.Test.YtejlhdmfcmhlaaaPack3
import Derived.Test.YtejlhdmfcmhlaaaPack4
set_option linter.unusedSimpArgs false
set_option linter.unusedVariables false
namespace Go.Proofs.Ytejlhdmfcmhlaaa.chainLifted
open Go.ChangeShapes Go.WideShapes Go.ChangeAt Go.RowKit
open Go.ChangeMaps (open_string shut_string)
open Chain
open Notch (Known)
set_option maxRecDepth 100000 in
set_option maxHeartbeats 2000000 in
theorem walk (a0 : Int) (a1 : Option Addr) (len1 cap1 : Nat) (z1 : List Int) (a2 : Int) (w : World) (w0 : (Lit.int .u8 a0).wf = true) (w1 : IsRow .i16 w a1 len1 cap1 z1) (w2 : (Lit.int .i32 a2).wf = true) :
    Calls Try.prog 6 #[.int .u8 a0, .slice a1 len1 cap1, .int .i32 a2] w fun e w' => e = .returned (.bool true) ∧ Below w.heap.size w w' := by
  have b0 : 0 ≤ a0 ∧ a0 ≤ 255 := bounds_u8 w0
  have b2 : -2147483648 ≤ a2 ∧ a2 ≤ 2147483647 := bounds_i32 w2
  clear w0 w2
  obtain ⟨p, hp⟩ : ∃ p, min len1 200 = p := ⟨_, rfl⟩
  have hp1 : p ≤ len1 := by omega
  have hp2 : p ≤ 200 := by omega
  have hminA : (if (200 : Int) < (len1 : Int) then (200 : Int) else (len1 : Int)) = (p : Int) := by split <;> omega
  have hfits := row_fits16 w1 p
  obtain ⟨hV, hc1, hc2, hltb⟩ := RI16.row_vals w1 p hp1
  clear w1 hp
  generalize z1.take p = ys at *
  have hp3 : p ≤ cap1 := by omega
  obtain ⟨i, hi3, hi⟩ : ∃ i : Nat, i < 3 ∧ a0 % 3 = (i : Int) := ⟨(a0 % 3).toNat, by omega, by omega⟩
  obtain ⟨m, hm, hcell⟩ : ∃ m : Nat, Known m ∧ ([.int .i64 0, .int .i64 50, .int .i64 60] : List Value)[i]'(by simpa using hi3) = .int .i64 (m : Nat) := by
    rcases (by omega : i = 0 ∨ i = 1 ∨ i = 2) with rfl | rfl | rfl
    · exact ⟨0, .inl rfl, rfl⟩
    · exact ⟨50, .inr (.inl rfl), rfl⟩
    · exact ⟨60, .inr (.inr rfl), rfl⟩
  have hi3z : (i : Int) < 3 := by omega
  have hnew := fun W => new_any hm W
  unfold NewIs at hnew
  have hA0 := (Below.refl w.heap.size w).alloc (Nat.le_refl _) (.cells #[.int .i64 0, .int .i64 50, .int .i64 60] 3)
  have hz1 := hA0.size
  by_cases hbig : 65536 < a2 ∨ a2 < -65536
  · rcases hbig with hbig | hbig
    case' inr => have hb1 : ¬ 65536 < a2 := by omega
    all_goals
      go_enter Try.func6, Try.ntmps6
      go_wp2_with (first
        | (go_at_call 8; ((with_reducible refine (hnew _).mono ?_); rintro e W1 ⟨bx, Sx, rfl, hFx, hSx, hB1⟩; have hC1 := hA0.trans (hB1.mono (by simp))))
        | (go_at_call 8; ((with_reducible refine (hnew _).mono ?_); rintro e W2 ⟨bY, SY, rfl, hFy, hSy, hB2⟩; have hC2 := hC1.trans (hB2.mono hC1.size)))
        | (go_at_call 10; ((with_reducible refine (live_k _).mono ?_); rintro e W9 ⟨rfl, hN⟩)))
      go_ret
      exact ⟨rfl, hC2.trans (hN.mono hC2.size)⟩
  · have hb1 : ¬ 65536 < a2 := by omega
    have hb2 : ¬ a2 < -65536 := by omega
    have hlen := hV.len_
    have HLEN := Lib.hid hlen
    clear hbig hlen
    go_enter Try.func6, Try.ntmps6
    go_wp2_with (first
      | (go_at_call 8; ((with_reducible refine (hnew _).mono ?_); rintro e W1 ⟨bx, Sx, rfl, hFx, hSx, hB1⟩; have hC1 := hA0.trans (hB1.mono (by simp))))
      | (go_at_call 8; ((with_reducible refine (hnew _).mono ?_); rintro e W2 ⟨bY, SY, rfl, hFy, hSy, hB2⟩; have hC2 := hC1.trans (hB2.mono hC1.size); have hFx2 := fil_below hFx hB2; have hltx := fil_lt hFx)))
    have hFx0 := hFx2
    have hSx2 : ∀ k ∈ Sx, w.heap.size ≤ k := fun k hk => Nat.le_trans hz1 (hSx k hk)
    have hSy2 : ∀ k ∈ SY, w.heap.size ≤ k := fun k hk => Nat.le_trans hC1.size (hSy k hk)
    have hxy : ∀ k ∈ Sx, k ∉ SY := fun k hk hm => by have h1 := hltx k hk; have h2 := hSy _ hm; omega
    clear hnew hFx hFx2 hB1 hB2 hC1 hltx hSx hSy hi hi3 hi3z hcell hA0 hz1 hminA
    go_loopw [59] (fun i wr => ∃ j : Nat, j ≤ p ∧ i = .int .i64 (j : Nat) ∧ Fil m wr bx Sx (ys.take j).reverse ∧ Fil m wr bY SY ((ys.take j).reverse.map (· + a2)) ∧ (∀ u ∈ (ys.take j).reverse, -32768 ≤ u + a2 ∧ u + a2 ≤ 32767) ∧ Below w.heap.size w wr) (fun i _ => p - (intOf i).toNat)
    case atStart => exact ⟨0, by omega, rfl, hFx0, hFy, by simp, hC2⟩
    case round =>
      clear hFx0 hFy hC2
      obtain ⟨j, hj, rfl, hFx, hFy, hfit, hC⟩ := hrel
      by_cases hjp : j < p
      · obtain ⟨x1, rfl, hcx⟩ := (hV.below hC).cells (by omega)
        have hcell := hcx j hjp
        have hvj : -32768 ≤ ys.getD j 0 ∧ ys.getD j 0 ≤ 32767 := by
          rw [List.getD_eq_getElem?_getD, List.getElem?_eq_getElem (by have := HLEN.out; omega)]
          exact hfits _ (List.getElem_mem _)
        have hst : (ys.take (j + 1)).reverse = ys.getD j 0 :: (ys.take j).reverse := by
          rw [List.take_succ_eq_append_getElem (by have := HLEN.out; omega), List.reverse_append, List.getD_eq_getElem?_getD, List.getElem?_eq_getElem (by have := HLEN.out; omega)]
          rfl
        have hmem : ∀ u ∈ (ys.take j).reverse, -32768 ≤ u ∧ u ≤ 32767 := fun u hu => hfits u (List.mem_of_mem_take (List.mem_reverse.1 hu))
        obtain ⟨v, hv⟩ : ∃ v, ys.getD j 0 = v := ⟨_, rfl⟩
        rw [hv] at hcell hvj hst
        clear hv hcx
        have hwv : IntKind.i32.wrap v = v := by rw [IntKind.wrap_i32]; omega
        have hwn : IntKind.i32.wrap (v + a2) = v + a2 := by rw [IntKind.wrap_i32]; omega
        have hjz : (j : Int) < (p : Int) := by omega
        have hout : ∀ W9, Below wr.heap.size wr W9 → Below w.heap.size w W9 := fun W9 hN => hC.trans (hN.mono hC.size)
        by_cases hlow : v + a2 < -32768
        · go_wp2_with (go_at_call 10; ((with_reducible refine (live_k _).mono ?_); rintro e W9 ⟨rfl, hN⟩))
          go_ret
          exact ⟨rfl, hout _ hN⟩
        · by_cases hhigh : 32767 < v + a2
          · go_wp2_with (go_at_call 10; ((with_reducible refine (live_k _).mono ?_); rintro e W9 ⟨rfl, hN⟩))
            go_ret
            exact ⟨rfl, hout _ hN⟩
          · have hpx := push_any bx Sx (ys.take j).reverse v wr hFx (by omega)
            have hpy := fun W hF => push_any (m := m) bY SY ((ys.take j).reverse.map (· + a2)) (v + a2) W hF (by omega)
            have hfit2 : ∀ u ∈ v :: (ys.take j).reverse, -32768 ≤ u + a2 ∧ u + a2 ≤ 32767 := fun u hu => by
              rcases List.mem_cons.1 hu with rfl | hu
              · omega
              · exact hfit u hu
            have hwave : waveT m ((v + a2) :: (ys.take j).reverse.map (· + a2)) = waveT m (v :: (ys.take j).reverse) := wave_lifted m _ _ (in_lifted (v :: (ys.take j).reverse) a2 fun u hu => ⟨by
              rcases List.mem_cons.1 hu with rfl | hu
              · exact hvj
              · exact hmem u hu, hfit2 u hu⟩)
            rw [hwave] at hpy
            rw [show (v + a2) :: (ys.take j).reverse.map (· + a2) = (v :: (ys.take j).reverse).map (· + a2) from rfl] at hpy
            rw [← hst] at hpx hpy hfit2
            clear hwave hmem hfit hst
            obtain ⟨vh, vs, vq, vw, hwv⟩ : ∃ vh vs vq vw, waveT m (ys.take (j + 1)).reverse = (vh, vs, vq, vw) := ⟨_, _, _, _, rfl⟩
            rw [hwv, show waveV (vh, vs, vq, vw) = .agg #[.int .i64 vh, .int .i64 vs, .int .i64 vq, .int .i64 vw] from rfl] at hpx hpy
            clear hwv
            have hg := fun (W : World) (x y : Operand) => guard_neq W x y vh vs vq vw vh vs vq vw
            have hc : ∀ W : World, (binOp .neq 39 (.agg #[.int .i64 vh, .int .i64 vs, .int .i64 vq, .int .i64 vw]) (.agg #[.int .i64 vh, .int .i64 vs, .int .i64 vq, .int .i64 vw])).run Try.prog W = .ok (.bool false) W := fun W => by rw [neq_wave]; simp
            have hfy2 : ∀ W7, Kept Sx wr W7 → Fil m W7 bY SY ((ys.take j).reverse.map (· + a2)) := fun W7 hK => fil_kept hFy hK (fun k hk hm => hxy k hm hk)
            have HFY := Lib.hid hfy2
            have HFIT := Lib.hid hfit2
            clear hfy2 hfit2 hFx hFy hfits hV hltb
            go_wp2_with (first
              | (go_at_call 17; ((with_reducible refine hpx.mono ?_); rintro e W7 ⟨rfl, hF7, hK7⟩; have hFy7 := HFY.out W7 hK7; have hC7 := below_kept hC hK7 hC.size hSx2))
              | (go_at_call 17; ((with_reducible refine (hpy _ hFy7).mono ?_); rintro e W8 ⟨rfl, hF8, hK8⟩; have hFx8 := fil_kept hF7 hK8 hxy; have hC8 := below_kept hC7 hK8 hC7.size hSy2)))
            go_roundw
            case rel => exact ⟨j + 1, by omega, by go_num, hFx8, hF8, HFIT.out, hC8⟩
            case measure => simp [intOf]; omega
      · obtain rfl : j = p := by omega
        go_wp2_with (go_at_call 10; ((with_reducible refine (live_k _).mono ?_); rintro e W9 ⟨rfl, hN⟩))
        go_ret
        exact ⟨rfl, hC.trans (hN.mono hC.size)⟩

theorem own : ownKnob Try.prog.godebug = none := by kernel_rfl
theorem laidOut : laidOutB Try.prog = true := by kernel_rfl

/-! ### The row's step -/
set_option maxRecDepth 100000 in
theorem lifted (os : Os) (started : os.Started) (H : Type) (enc : TypeId × Value → H) :
    ReturnsInHanded {} Try.checked os 6 .any (Rows.chainLiftedSpec.pre6 enc Try.prog Try.f6 Rows.chainLiftedRow.domain false) (Rows.chainLiftedSpec.post enc Try.prog Try.f6 false true false false) := by
  refine returnsInHanded_of_change (C := Try.checked) own started (by kernel_rfl) Try.func6
    (ChangeSpec.witness6 (enc := enc) (C := Try.checked) false ⟨#[], #[.int .u8 0, .slice none 0 0, .int .i32 0], []⟩ 8 (by kernel_rfl) (by kernel_rfl) (by kernel_rfl) (by kernel_rfl)) ?_
  intro W base args ds gs before hval0 hW hcnd _
  have hval : ∀ (j : Nat) t v, Try.f6.params[j]? = some t → args[j]? = some v → Value.okWide Try.prog W .any base t v := hval0
  have hW' := hW
  obtain ⟨p, q, hA0, hV, rfl, hfz, hnd⟩ := hW
  have hA : DataW.TrodAll enc Try.prog W 0 (fun _ => true) true Try.f6.params.toList args.toList ds p := hA0
  rw [Try.params6] at hA hval
  obtain ⟨v0, vs0, d0, ds0, p0, q0, hargs, rfl, rfl, h0, r0⟩ := trodAll_cons hA
  obtain ⟨v1, vs1, d1, ds1, p1, q1, rfl, rfl, rfl, h1, r1⟩ := trodAll_cons r0
  obtain ⟨v2, vs2, d2, ds2, p2, q2, rfl, rfl, rfl, h2, r2⟩ := trodAll_cons r1
  obtain ⟨rfl, rfl, rfl⟩ := trodAll_nil r2
  obtain rfl : args = #[v0, v1, v2] := by cases args; simp_all
  obtain ⟨rfl, rfl⟩ := trodVars_none hV
  obtain ⟨a0, rfl, rfl, rfl, w0⟩ := open_int Try.underlying5 (hval 0 5 v0 rfl rfl) h0
  obtain ⟨a1, len1, cap1, rfl⟩ := okWide_slice Try.underlying44 (hval 1 44 v1 rfl rfl)
  have k1 := h1
  have lt1 : ∀ x ∈ p1, x.block < W.heap.size := by obtain ⟨m, hm⟩ := k1; exact DataW.trod_lt m _ _ _ hm
  obtain ⟨z1, w1⟩ : ∃ zs, IsRow .i16 W a1 len1 cap1 zs := by
    obtain ⟨fuel, hf⟩ := h1
    rcases open_ints Try.underlying44 Try.underlying45 (by kernel_rfl) hf with ⟨hcs, _⟩ | ⟨x, l, c, zs, hcs, hx, hl, hm, hz, _, hcell, hwz⟩
    · simp [Value.cells] at hcs
      obtain ⟨rfl, rfl, rfl⟩ := hcs
      exact ⟨[], .inl ⟨rfl, rfl, rfl, rfl⟩⟩
    · simp [Value.cells] at hcs
      obtain ⟨rfl, rfl, rfl⟩ := hcs
      exact ⟨zs, isRow_some hl hm (by simpa using hz) hcell hwz⟩
  obtain ⟨a2, rfl, rfl, rfl, w2⟩ := open_int Try.underlying21 (hval 2 21 v2 rfl rfl) h2
  clear hA0 hval0
  refine (walk a0 a1 len1 cap1 z1 a2 W w0 w1 w2).mono fun e W' ⟨he, bel⟩ => ?_
  subst he
  exact ⟨_, rfl, _, _, _, [], _, [], hW', trodAll_mk1 (shut_bool Try.underlying4 _), (trodAll_cons_mk (shut_int Try.underlying5 w0) (trodAll_cons_mk (Below.trod laidOut (by kernel_rfl) (of_decide_eq_true (by kernel_rfl)) k1 bel lt1) (trodAll_cons_mk (shut_int Try.underlying21 w2) trodAll_mk0))), rfl, bel.frame _, fun h => by cases h⟩

theorem over : Rows.chainLiftedRow.holds Try.pinned (OpenSpec.ofChange Rows.chainLiftedSpec) :=
  OpenClaim.holds_of_wide 6 Try.f6 rfl rfl rfl rfl rfl rfl rfl ⟨rfl, rfl, rfl, rfl, rfl⟩ rfl rfl rfl rfl rfl (by kernel_rfl) Try.func6 (by kernel_rfl)
    (of_decide_eq_true (by kernel_rfl)) (by unfold Func.isWrapper; first | (rw [if_pos (by decide +kernel)]; kernel_rfl) | (rw [if_neg (by decide +kernel)]; exact ⟨rfl, rfl⟩))
    (fun os started H enc _ => lifted os started H enc)

theorem proved : Rows.ChainLiftedSaid := over
#print axioms proved
end Go.Proofs.Ytejlhdmfcmhlaaa.chainLifted
