/- Whatever mains, samples ahead and sample come in, ChainEven answers true, and writes nothing that was there. -/
import Derived.Test.YtejlhdmfcmhlaaaRows
import Derived.ShutString
import Derived.ChangeOld
import Derived.Below
import Derived.Test.YtejlhdmfcmhlaaaPack1
import Derived.Test.YtejlhdmfcmhlaaaPack3
import Derived.Test.YtejlhdmfcmhlaaaPack4
set_option linter.unusedSimpArgs false
set_option linter.unusedVariables false
namespace Go.Proofs.Ytejlhdmfcmhlaaa.chainEven
open Go.ChangeShapes Go.WideShapes Go.ChangeAt Go.RowKit
open Go.ChangeMaps (open_string shut_string)
open Chain
open Notch (Known)
set_option maxRecDepth 100000 in
set_option maxHeartbeats 2000000 in
theorem walk (a0 : Int) (a1 : Option Addr) (len1 cap1 : Nat) (z1 : List Int) (a2 : Int) (w : World) (w0 : (Lit.int .u8 a0).wf = true) (w1 : IsRow .i32 w a1 len1 cap1 z1) (w2 : (Lit.int .i32 a2).wf = true) :
    Calls Try.prog 5 #[.int .u8 a0, .slice a1 len1 cap1, .int .i32 a2] w fun e w' => e = .returned (.bool true) ∧ Below w.heap.size w w' := by
  have b0 : 0 ≤ a0 ∧ a0 ≤ 255 := bounds_u8 w0
  have b2 : -2147483648 ≤ a2 ∧ a2 ≤ 2147483647 := bounds_i32 w2
  clear w0 w2
  obtain ⟨p, hp⟩ : ∃ p, min len1 150 = p := ⟨_, rfl⟩
  have hp1 : p ≤ len1 := by omega
  have hp2 : p ≤ 150 := by omega
  have hminA : (if (150 : Int) < (len1 : Int) then (150 : Int) else (len1 : Int)) = (p : Int) := by split <;> omega
  have hfits := row_fits w1 p
  obtain ⟨hV, hc1, hc2, hltb⟩ := RI32.row_vals w1 p hp1
  clear w1 hp
  generalize z1.take p = ys at *
  have hp3 : p ≤ cap1 := by omega
  obtain ⟨i, hi3, hi⟩ : ∃ i : Nat, i < 3 ∧ a0 % 3 = (i : Int) := ⟨(a0 % 3).toNat, by omega, by omega⟩
  obtain ⟨m, hm, hcell⟩ : ∃ m : Nat, Known m ∧ ([.int .i64 0, .int .i64 50, .int .i64 60] : List Value)[i]'(by simpa using hi3) = .int .i64 (m : Nat) := by
    rcases (by omega : i = 0 ∨ i = 1 ∨ i = 2) with rfl | rfl | rfl
    · exact ⟨0, .inl rfl, rfl⟩
    · exact ⟨50, .inr (.inl rfl), rfl⟩
    · exact ⟨60, .inr (.inr rfl), rfl⟩
  have hi3z : (i : Int) < 3 := by omega
  have hnew := fun W => new_any hm W
  unfold NewIs at hnew
  have hA0 := (Below.refl w.heap.size w).alloc (Nat.le_refl _) (.cells #[.int .i64 0, .int .i64 50, .int .i64 60] 3)
  have hz1 := hA0.size
  have hz := fun W => zero_any 0 0 0 0 W
  have HE := Lib.hid (fun (n : Nat) => wave_even m n a2)
  have HAG := Lib.hid (fun (n : Nat) (h : List Int) => wave_again m n a2 h)
  have hpu1 := fun bx Sx W hF => push_any (m := m) bx Sx [] a2 W hF b2
  rw [show [a2] = List.replicate 1 a2 from rfl, HE.out 1, show waveV noWave = .agg #[.int .i64 0, .int .i64 0, .int .i64 0, .int .i64 0] from rfl] at hpu1
  go_enter Try.func5, Try.ntmps5
  go_wp2_with (first
    | (go_at_call 8; ((with_reducible refine (hnew _).mono ?_); rintro e W1 ⟨bx, Sx, rfl, hFx, hSx, hB1⟩; have hC1 := hA0.trans (hB1.mono (by simp))))
    | (go_at_call 17; ((with_reducible refine (hpu1 bx Sx _ hFx).mono ?_); rintro e W2 ⟨rfl, hF2, hK2⟩; have hC2 := below_kept hC1 hK2 hC1.size (fun k hk => Nat.le_trans hz1 (hSx k hk))))
    | (go_at_call 18; ((with_reducible refine (hz _).mono ?_); rintro e W3 ⟨rfl, hB3⟩; have hF3 := fil_below hF2 hB3; have hC3 := hC2.trans (hB3.mono hC2.size))))
  clear hnew hpu1 hFx hF2 hK2 hB3 hC2 hC1 hB1
  have hSw : ∀ k ∈ Sx, w.heap.size ≤ k := fun k hk => Nat.le_trans hz1 (hSx k hk)
  clear hSx hA0 hz1
  go_loopw [29] (fun i wr => ∃ k : Nat, k ≤ 50 ∧ i = .int .i64 (k : Nat) ∧ Fil m wr bx Sx (List.replicate (k + 1) a2) ∧ Below w.heap.size w wr) (fun i _ => 50 - (intOf i).toNat)
  case atStart => exact ⟨0, by omega, rfl, hF3, hC3⟩
  case round =>
    clear hF3 hC3
    obtain ⟨k, hk, rfl, hF, hC⟩ := hrel
    by_cases hkn : k < 50
    · have hpu := push_any bx Sx (List.replicate (k + 1) a2) a2 wr hF b2
      rw [rep_step, HE.out, show waveV noWave = .agg #[.int .i64 0, .int .i64 0, .int .i64 0, .int .i64 0] from rfl] at hpu
      have hkz : (k : Int) < 50 := by omega
      clear hF
      go_wp2_with (first
        | (go_at_call 17; ((with_reducible refine hpu.mono ?_); rintro e W4 ⟨rfl, hF4, hK4⟩; have hC4 := below_kept hC hK4 hC.size hSw))
        | (go_at_call 18; ((with_reducible refine (hz _).mono ?_); rintro e W5 ⟨rfl, hB5⟩; have hF5 := fil_below hF4 hB5; have hC5 := hC4.trans (hB5.mono hC4.size))))
      go_roundw
      case rel => exact ⟨k + 1, by omega, by go_num, hF5, hC5⟩
      case measure => simp [intOf]; omega
    · obtain rfl : k = 50 := by omega
      have hbl := block_any bx Sx _ a1 p cap1 ys wr hF (hV.below hC) hfits (by omega) hp3 hc2 (fun h0 x hx hm => by have h1 := hltb x h0 hx; have h2 := hSw _ hm; omega)
      unfold WavesIs at hbl
      rw [show ys.reverse ++ List.replicate (50 + 1) a2 = (ys.reverse ++ List.replicate 50 a2) ++ [a2] by rw [List.append_assoc, ← List.replicate_succ']] at hbl
      generalize ys.reverse ++ List.replicate 50 a2 = h0 at *
      go_wp2_with (go_at_call 12; ((with_reducible refine hbl.mono ?_); rintro e W6 ⟨B6, d6, rfl, _, _, _, _, hF6, hK6⟩; have hC6 := below_kept hC hK6 hC.size hSw))
      clear hbl hF hminA hK6 hC
      go_loopw [44] (fun i wr => ∃ k : Nat, k ≤ 98 ∧ i = .int .i64 (k : Nat) ∧ Fil m wr bx Sx (List.replicate k a2 ++ (h0 ++ [a2])) ∧ Below w.heap.size w wr) (fun i _ => 98 - (intOf i).toNat)
      case atStart => exact ⟨0, by omega, rfl, hF6, hC6⟩
      case round =>
        clear hF6 hC6
        obtain ⟨k, hk, rfl, hF, hC⟩ := hrel
        by_cases hkn : k < 98
        · have hpu := push_any bx Sx _ a2 wr hF b2
          rw [show a2 :: (List.replicate k a2 ++ (h0 ++ [a2])) = List.replicate (k + 1) a2 ++ (h0 ++ [a2]) from rfl] at hpu
          have hag := HAG.out (k + 1) h0
          have hkz : (k : Int) < 98 := by omega
          clear hF
          by_cases hlate : 78 ≤ (k : Int)
          · rw [hag (by omega), show waveV noWave = .agg #[.int .i64 0, .int .i64 0, .int .i64 0, .int .i64 0] from rfl] at hpu
            clear hag
            go_wp2_with (first
              | (go_at_call 17; ((with_reducible refine hpu.mono ?_); rintro e W7 ⟨rfl, hF7, hK7⟩; have hC7 := below_kept hC hK7 hC.size hSw))
              | (go_at_call 18; ((with_reducible refine (hz _).mono ?_); rintro e W8 ⟨rfl, hB8⟩)))
            have hC8 := hC7.alloc hC7.size (.cells #[.int .i64 0, .int .i64 0, .int .i64 0, .int .i64 0] 39)
            have hF8 := fil_below (fil_kept hF7 ((Kept.refl [] W7).alloc _) (fun _ _ h => by cases h)) hB8
            go_roundw
            case rel => exact ⟨k + 1, by omega, by go_num, hF8, hC8.trans (hB8.mono hC8.size)⟩
            case measure => simp [intOf]; omega
          · clear hag
            obtain ⟨vh, vs, vq, vw, hwv⟩ : ∃ vh vs vq vw, waveT m (List.replicate (k + 1) a2 ++ (h0 ++ [a2])) = (vh, vs, vq, vw) := ⟨_, _, _, _, rfl⟩
            rw [hwv, show waveV (vh, vs, vq, vw) = .agg #[.int .i64 vh, .int .i64 vs, .int .i64 vq, .int .i64 vw] from rfl] at hpu
            clear hwv
            go_wp2_with (go_at_call 17; ((with_reducible refine hpu.mono ?_); rintro e W7 ⟨rfl, hF7, hK7⟩; have hC7 := below_kept hC hK7 hC.size hSw))
            go_roundw
            case rel => exact ⟨k + 1, by omega, by go_num, fil_kept hF7 ((Kept.refl [] W7).alloc _) (fun _ _ h => by cases h), hC7.alloc hC7.size _⟩
            case measure => simp [intOf]; omega
        · obtain rfl : k = 98 := by omega
          go_wp2_with (go_at_call 10; ((with_reducible refine (live_k _).mono ?_); rintro e W9 ⟨rfl, hN⟩))
          go_ret
          exact ⟨rfl, hC.trans (hN.mono hC.size)⟩

theorem own : ownKnob Try.prog.godebug = none := by kernel_rfl
theorem laidOut : laidOutB Try.prog = true := by kernel_rfl

/-! ### The row's step -/
set_option maxRecDepth 100000 in
theorem lifted (os : Os) (started : os.Started) (H : Type) (enc : TypeId × Value → H) :
    ReturnsInHanded {} Try.checked os 5 .any (Rows.chainEvenSpec.pre6 enc Try.prog Try.f5 Rows.chainEvenRow.domain false) (Rows.chainEvenSpec.post enc Try.prog Try.f5 false true false false) := by
  refine returnsInHanded_of_change (C := Try.checked) own started (by kernel_rfl) Try.func5
    (ChangeSpec.witness6 (enc := enc) (C := Try.checked) false ⟨#[], #[.int .u8 0, .slice none 0 0, .int .i32 0], []⟩ 8 (by kernel_rfl) (by kernel_rfl) (by kernel_rfl) (by kernel_rfl)) ?_
  intro W base args ds gs before hval0 hW hcnd _
  have hval : ∀ (j : Nat) t v, Try.f5.params[j]? = some t → args[j]? = some v → Value.okWide Try.prog W .any base t v := hval0
  have hW' := hW
  obtain ⟨p, q, hA0, hV, rfl, hfz, hnd⟩ := hW
  have hA : DataW.TrodAll enc Try.prog W 0 (fun _ => true) true Try.f5.params.toList args.toList ds p := hA0
  rw [Try.params5] at hA hval
  obtain ⟨v0, vs0, d0, ds0, p0, q0, hargs, rfl, rfl, h0, r0⟩ := trodAll_cons hA
  obtain ⟨v1, vs1, d1, ds1, p1, q1, rfl, rfl, rfl, h1, r1⟩ := trodAll_cons r0
  obtain ⟨v2, vs2, d2, ds2, p2, q2, rfl, rfl, rfl, h2, r2⟩ := trodAll_cons r1
  obtain ⟨rfl, rfl, rfl⟩ := trodAll_nil r2
  obtain rfl : args = #[v0, v1, v2] := by cases args; simp_all
  obtain ⟨rfl, rfl⟩ := trodVars_none hV
  obtain ⟨a0, rfl, rfl, rfl, w0⟩ := open_int Try.underlying5 (hval 0 5 v0 rfl rfl) h0
  obtain ⟨a1, len1, cap1, rfl⟩ := okWide_slice Try.underlying22 (hval 1 22 v1 rfl rfl)
  have k1 := h1
  have lt1 : ∀ x ∈ p1, x.block < W.heap.size := by obtain ⟨m, hm⟩ := k1; exact DataW.trod_lt m _ _ _ hm
  obtain ⟨z1, w1⟩ : ∃ zs, IsRow .i32 W a1 len1 cap1 zs := by
    obtain ⟨fuel, hf⟩ := h1
    rcases open_ints Try.underlying22 Try.underlying21 (by kernel_rfl) hf with ⟨hcs, _⟩ | ⟨x, l, c, zs, hcs, hx, hl, hm, hz, _, hcell, hwz⟩
    · simp [Value.cells] at hcs
      obtain ⟨rfl, rfl, rfl⟩ := hcs
      exact ⟨[], .inl ⟨rfl, rfl, rfl, rfl⟩⟩
    · simp [Value.cells] at hcs
      obtain ⟨rfl, rfl, rfl⟩ := hcs
      exact ⟨zs, isRow_some hl hm (by simpa using hz) hcell hwz⟩
  obtain ⟨a2, rfl, rfl, rfl, w2⟩ := open_int Try.underlying21 (hval 2 21 v2 rfl rfl) h2
  clear hA0 hval0
  refine (walk a0 a1 len1 cap1 z1 a2 W w0 w1 w2).mono fun e W' ⟨he, bel⟩ => ?_
  subst he
  exact ⟨_, rfl, _, _, _, [], _, [], hW', trodAll_mk1 (shut_bool Try.underlying4 _), (trodAll_cons_mk (shut_int Try.underlying5 w0) (trodAll_cons_mk (Below.trod laidOut (by kernel_rfl) (of_decide_eq_true (by kernel_rfl)) k1 bel lt1) (trodAll_cons_mk (shut_int Try.underlying21 w2) trodAll_mk0))), rfl, bel.frame _, fun h => by cases h⟩

theorem over : Rows.chainEvenRow.holds Try.pinned (OpenSpec.ofChange Rows.chainEvenSpec) :=
  OpenClaim.holds_of_wide 5 Try.f5 rfl rfl rfl rfl rfl rfl rfl ⟨rfl, rfl, rfl, rfl, rfl⟩ rfl rfl rfl rfl rfl (by kernel_rfl) Try.func5 (by kernel_rfl)
    (of_decide_eq_true (by kernel_rfl)) (by unfold Func.isWrapper; first | (rw [if_pos (by decide +kernel)]; kernel_rfl) | (rw [if_neg (by decide +kernel)]; exact ⟨rfl, rfl⟩))
    (fun os started H enc _ => lifted os started H enc)

theorem proved : Rows.ChainEvenSaid := over
#print axioms proved
end Go.Proofs.Ytejlhdmfcmhlaaa.chainEven
