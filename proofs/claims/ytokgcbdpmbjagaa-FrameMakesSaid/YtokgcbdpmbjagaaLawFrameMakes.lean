/- Whatever number, samples and number come in, FrameMakes answers true, and writes nothing that was there. -/
import Derived.Test.YtokgcbdpmbjagaaRows
import Derived.ShutString
import Derived.ChangeOld
import Derived.Below
import Derived.Test.YtokgcbdpmbjagaaLawKit
import Derived.Test.YtokgcbdpmbjagaaFrameLive
set_option linter.unusedSimpArgs false
set_option linter.unusedVariables false
namespace Go.Proofs.Ytokgcbdpmbjagaa.frameMakes
open Go.ChangeShapes Go.WideShapes Go.ChangeAt Go.RowKit
open Go.ChangeMaps (open_string shut_string)
open Frm Crc RU8
set_option maxHeartbeats 2000000 in
theorem walk (a0 : Int) (a1 : Option Addr) (len1 cap1 : Nat) (z1 : List Samp) (a2 : Int) (w : World) (w0 : (Lit.int .u8 a0).wf = true) (w1 : IsSamps w a1 len1 cap1 z1) (w2 : (Lit.int .i64 a2).wf = true) :
    Calls Try.prog 3 #[.int .u8 a0, .slice a1 len1 cap1, .int .i64 a2] w fun e w' => e = .returned (.bool true) ∧ Below w.heap.size w w' := by
  have b0 := bounds_u8 w0
  have b2 := bounds_i64 w2
  obtain ⟨ys, hv, hs, hl, hm⟩ := row_samps w1
  clear w0 w1 w2
  obtain ⟨q, rfl⟩ : ∃ q : Nat, a0 = (q : Int) := ⟨a0.toNat, by omega⟩
  rcases Nat.lt_or_ge 100 len1 with hbig | hs0
  · have hlive := live_ok w
    clear hv hs
    go_enter Try.func3, Try.ntmps3
    go_wp2_with (go_at_call 7; ((with_reducible refine hlive.mono ?_); rintro e w' ⟨rfl, hB⟩))
    go_ret
    exact ⟨rfl, hB⟩
  have hm1 := make_any q (by omega) a1 len1 cap1 ys w hv hs (by omega)
  have hm2 : ∀ W, Row.Vals sampS W a1 len1 ys → Calls Try.prog 9 #[.int .u8 q, .slice a1 len1 cap1] W (MakeIs W q ys) := fun W h => refmake_any q (by omega) a1 len1 cap1 ys W h hs (by omega)
  have hsz := fun W => size_any a2 b2 W
  have hsl := fun W => size_any (len1 : Int) (by omega) W
  have hnx := fun W => Frm.next_any q (by omega) W
  have hwn : IntKind.u8.wrap ((q : Int) + 1) = (((q + 1) % 256 : Nat) : Int) := by rw [IntKind.wrap_u8]; omega
  obtain ⟨r, hr⟩ : ∃ r, (q + 1) % 256 = r := ⟨_, rfl⟩
  rw [hr] at hwn hnx
  have hlen := hv.len_
  obtain ⟨S, hS⟩ : ∃ S, sizeZ a2 = S := ⟨_, rfl⟩
  obtain ⟨T, hT⟩ : ∃ T, sizeZ (len1 : Int) = T := ⟨_, rfl⟩
  rw [hS] at hsz
  rw [hT] at hsl
  unfold MakeIs at hm1 hm2
  obtain ⟨B, hB⟩ : ∃ B, makeB q ys = B := ⟨_, rfl⟩
  obtain ⟨E, hE⟩ : ∃ E, makeE ys = E := ⟨_, rfl⟩
  obtain ⟨N, hN⟩ : ∃ N, B.length = N := ⟨_, rfl⟩
  have hcase : (E = 1 ∧ N = 0) ∨ (E = 0 ∧ (N : Int) = T) := by
    unfold makeB at hB
    unfold makeE at hE
    cases hmt : mayT ys with
    | false => rw [hmt] at hB hE; left; exact ⟨hE.symm, by rw [← hN, ← hB]; rfl⟩
    | true =>
      rw [hmt] at hB hE
      right
      unfold mayT at hmt
      have h3 := of_decide_eq_true hmt
      refine ⟨hE.symm, ?_⟩
      rw [← hN, ← hB, if_pos rfl, frameT_length, ← hT]
      unfold sizeZ
      rw [if_neg (by omega), hlen]
      omega
  have hSc : (a2 < 1 ∧ S = 0) ∨ (1 ≤ a2 ∧ 32 < a2 ∧ S = 0) ∨ (1 ≤ a2 ∧ a2 ≤ 32 ∧ S = 6 + 3 * a2) := by
    rw [← hS]
    unfold sizeZ
    split <;> omega
  rw [hB, hE, hN] at hm1 hm2
  have HN := Lib.hid hN
  clear hB hE hN hS hT hr hs
  rcases hcase with ⟨rfl, rfl⟩ | ⟨rfl, hNT⟩
  · rcases hSc with ⟨h1, rfl⟩ | ⟨h0, h1, rfl⟩ | ⟨h0, h1, rfl⟩
    · skip
      go_enter Try.func3, Try.ntmps3
      go_wp2_with (first
        | (go_at_call 8; ((with_reducible refine hm1.mono ?_); rintro e W1 ⟨v1, A1, c1, rfl, rfl, e1, e2, hO1, hB1⟩; obtain ⟨A11, c11, e11, _, _, hV1, _⟩ := Vals.own hO1; injection e11 with e111 e112 e113; subst e111))
        | (go_at_call 9; ((with_reducible refine (hm2 _ (hv.below hB1)).mono ?_); rintro e W2 ⟨v2, A2, c2, rfl, rfl, e3, e4, hO2, hB2⟩; obtain ⟨A21, c21, e21, _, _, hV2, _⟩ := Vals.own hO2; injection e21 with e211 e212 e213; subst e211; have hBB := hB1.trans (hB2.mono hB1.size); have hcv1 := conv_vals 24 5 9 Try.underlying24 Try.underlying5 Try.underlying9 (hV1.below hB2) c11; have hcv2 := conv_vals 24 5 9 Try.underlying24 Try.underlying5 Try.underlying9 hV2 c21))
        | (go_at_call 10; ((with_reducible refine (hsz _).mono ?_); rintro e W3 ⟨rfl, rfl⟩))
        | (go_at_call 10; ((with_reducible refine (hsl _).mono ?_); rintro e W3 ⟨rfl, rfl⟩))
        | (go_at_call 11; ((with_reducible refine (hnx _).mono ?_); rintro e W4 ⟨rfl, rfl⟩))
        | (go_at_call 7; ((with_reducible refine (live_ok _).mono ?_); rintro e W5 ⟨rfl, hB5⟩)))
      go_ret
      exact ⟨rfl, hBB.trans (hB5.mono hBB.size)⟩
    · skip
      go_enter Try.func3, Try.ntmps3
      go_wp2_with (first
        | (go_at_call 8; ((with_reducible refine hm1.mono ?_); rintro e W1 ⟨v1, A1, c1, rfl, rfl, e1, e2, hO1, hB1⟩; obtain ⟨A11, c11, e11, _, _, hV1, _⟩ := Vals.own hO1; injection e11 with e111 e112 e113; subst e111))
        | (go_at_call 9; ((with_reducible refine (hm2 _ (hv.below hB1)).mono ?_); rintro e W2 ⟨v2, A2, c2, rfl, rfl, e3, e4, hO2, hB2⟩; obtain ⟨A21, c21, e21, _, _, hV2, _⟩ := Vals.own hO2; injection e21 with e211 e212 e213; subst e211; have hBB := hB1.trans (hB2.mono hB1.size); have hcv1 := conv_vals 24 5 9 Try.underlying24 Try.underlying5 Try.underlying9 (hV1.below hB2) c11; have hcv2 := conv_vals 24 5 9 Try.underlying24 Try.underlying5 Try.underlying9 hV2 c21))
        | (go_at_call 10; ((with_reducible refine (hsz _).mono ?_); rintro e W3 ⟨rfl, rfl⟩))
        | (go_at_call 10; ((with_reducible refine (hsl _).mono ?_); rintro e W3 ⟨rfl, rfl⟩))
        | (go_at_call 11; ((with_reducible refine (hnx _).mono ?_); rintro e W4 ⟨rfl, rfl⟩))
        | (go_at_call 7; ((with_reducible refine (live_ok _).mono ?_); rintro e W5 ⟨rfl, hB5⟩)))
      go_ret
      exact ⟨rfl, hBB.trans (hB5.mono hBB.size)⟩
    · skip
      go_enter Try.func3, Try.ntmps3
      go_wp2_with (first
        | (go_at_call 8; ((with_reducible refine hm1.mono ?_); rintro e W1 ⟨v1, A1, c1, rfl, rfl, e1, e2, hO1, hB1⟩; obtain ⟨A11, c11, e11, _, _, hV1, _⟩ := Vals.own hO1; injection e11 with e111 e112 e113; subst e111))
        | (go_at_call 9; ((with_reducible refine (hm2 _ (hv.below hB1)).mono ?_); rintro e W2 ⟨v2, A2, c2, rfl, rfl, e3, e4, hO2, hB2⟩; obtain ⟨A21, c21, e21, _, _, hV2, _⟩ := Vals.own hO2; injection e21 with e211 e212 e213; subst e211; have hBB := hB1.trans (hB2.mono hB1.size); have hcv1 := conv_vals 24 5 9 Try.underlying24 Try.underlying5 Try.underlying9 (hV1.below hB2) c11; have hcv2 := conv_vals 24 5 9 Try.underlying24 Try.underlying5 Try.underlying9 hV2 c21))
        | (go_at_call 10; ((with_reducible refine (hsz _).mono ?_); rintro e W3 ⟨rfl, rfl⟩))
        | (go_at_call 10; ((with_reducible refine (hsl _).mono ?_); rintro e W3 ⟨rfl, rfl⟩))
        | (go_at_call 11; ((with_reducible refine (hnx _).mono ?_); rintro e W4 ⟨rfl, rfl⟩))
        | (go_at_call 7; ((with_reducible refine (live_ok _).mono ?_); rintro e W5 ⟨rfl, hB5⟩)))
      go_ret
      exact ⟨rfl, hBB.trans (hB5.mono hBB.size)⟩
  · rcases hSc with ⟨h1, rfl⟩ | ⟨h0, h1, rfl⟩ | ⟨h0, h1, rfl⟩
    · skip
      go_enter Try.func3, Try.ntmps3
      go_wp2_with (first
        | (go_at_call 8; ((with_reducible refine hm1.mono ?_); rintro e W1 ⟨v1, A1, c1, rfl, rfl, e1, e2, hO1, hB1⟩; obtain ⟨A11, c11, e11, _, _, hV1, _⟩ := Vals.own hO1; injection e11 with e111 e112 e113; subst e111))
        | (go_at_call 9; ((with_reducible refine (hm2 _ (hv.below hB1)).mono ?_); rintro e W2 ⟨v2, A2, c2, rfl, rfl, e3, e4, hO2, hB2⟩; obtain ⟨A21, c21, e21, _, _, hV2, _⟩ := Vals.own hO2; injection e21 with e211 e212 e213; subst e211; have hBB := hB1.trans (hB2.mono hB1.size); have hcv1 := conv_vals 24 5 9 Try.underlying24 Try.underlying5 Try.underlying9 (hV1.below hB2) c11; have hcv2 := conv_vals 24 5 9 Try.underlying24 Try.underlying5 Try.underlying9 hV2 c21))
        | (go_at_call 10; ((with_reducible refine (hsz _).mono ?_); rintro e W3 ⟨rfl, rfl⟩))
        | (go_at_call 10; ((with_reducible refine (hsl _).mono ?_); rintro e W3 ⟨rfl, rfl⟩))
        | (go_at_call 11; ((with_reducible refine (hnx _).mono ?_); rintro e W4 ⟨rfl, rfl⟩))
        | (go_at_call 7; ((with_reducible refine (live_ok _).mono ?_); rintro e W5 ⟨rfl, hB5⟩)))
      go_ret
      exact ⟨rfl, hBB.trans (hB5.mono hBB.size)⟩
    · skip
      go_enter Try.func3, Try.ntmps3
      go_wp2_with (first
        | (go_at_call 8; ((with_reducible refine hm1.mono ?_); rintro e W1 ⟨v1, A1, c1, rfl, rfl, e1, e2, hO1, hB1⟩; obtain ⟨A11, c11, e11, _, _, hV1, _⟩ := Vals.own hO1; injection e11 with e111 e112 e113; subst e111))
        | (go_at_call 9; ((with_reducible refine (hm2 _ (hv.below hB1)).mono ?_); rintro e W2 ⟨v2, A2, c2, rfl, rfl, e3, e4, hO2, hB2⟩; obtain ⟨A21, c21, e21, _, _, hV2, _⟩ := Vals.own hO2; injection e21 with e211 e212 e213; subst e211; have hBB := hB1.trans (hB2.mono hB1.size); have hcv1 := conv_vals 24 5 9 Try.underlying24 Try.underlying5 Try.underlying9 (hV1.below hB2) c11; have hcv2 := conv_vals 24 5 9 Try.underlying24 Try.underlying5 Try.underlying9 hV2 c21))
        | (go_at_call 10; ((with_reducible refine (hsz _).mono ?_); rintro e W3 ⟨rfl, rfl⟩))
        | (go_at_call 10; ((with_reducible refine (hsl _).mono ?_); rintro e W3 ⟨rfl, rfl⟩))
        | (go_at_call 11; ((with_reducible refine (hnx _).mono ?_); rintro e W4 ⟨rfl, rfl⟩))
        | (go_at_call 7; ((with_reducible refine (live_ok _).mono ?_); rintro e W5 ⟨rfl, hB5⟩)))
      go_ret
      exact ⟨rfl, hBB.trans (hB5.mono hBB.size)⟩
    · skip
      go_enter Try.func3, Try.ntmps3
      go_wp2_with (first
        | (go_at_call 8; ((with_reducible refine hm1.mono ?_); rintro e W1 ⟨v1, A1, c1, rfl, rfl, e1, e2, hO1, hB1⟩; obtain ⟨A11, c11, e11, _, _, hV1, _⟩ := Vals.own hO1; injection e11 with e111 e112 e113; subst e111))
        | (go_at_call 9; ((with_reducible refine (hm2 _ (hv.below hB1)).mono ?_); rintro e W2 ⟨v2, A2, c2, rfl, rfl, e3, e4, hO2, hB2⟩; obtain ⟨A21, c21, e21, _, _, hV2, _⟩ := Vals.own hO2; injection e21 with e211 e212 e213; subst e211; have hBB := hB1.trans (hB2.mono hB1.size); have hcv1 := conv_vals 24 5 9 Try.underlying24 Try.underlying5 Try.underlying9 (hV1.below hB2) c11; have hcv2 := conv_vals 24 5 9 Try.underlying24 Try.underlying5 Try.underlying9 hV2 c21))
        | (go_at_call 10; ((with_reducible refine (hsz _).mono ?_); rintro e W3 ⟨rfl, rfl⟩))
        | (go_at_call 10; ((with_reducible refine (hsl _).mono ?_); rintro e W3 ⟨rfl, rfl⟩))
        | (go_at_call 11; ((with_reducible refine (hnx _).mono ?_); rintro e W4 ⟨rfl, rfl⟩))
        | (go_at_call 7; ((with_reducible refine (live_ok _).mono ?_); rintro e W5 ⟨rfl, hB5⟩)))
      go_ret
      exact ⟨rfl, hBB.trans (hB5.mono hBB.size)⟩

theorem own : ownKnob Try.prog.godebug = none := by kernel_rfl
theorem laidOut : laidOutB Try.prog = true := by kernel_rfl

/-! ### The row's step -/
set_option maxRecDepth 100000 in
theorem lifted (os : Os) (started : os.Started) (H : Type) (enc : TypeId × Value → H) :
    ReturnsInHanded {} Try.checked os 3 .any (Rows.frameMakesSpec.pre6 enc Try.prog Try.f3 Rows.frameMakesRow.domain false) (Rows.frameMakesSpec.post enc Try.prog Try.f3 false true false false) := by
  refine returnsInHanded_of_change (C := Try.checked) own started (by kernel_rfl) Try.func3
    (ChangeSpec.witness6 (enc := enc) (C := Try.checked) false ⟨#[], #[.int .u8 0, .slice none 0 0, .int .i64 0], []⟩ 8 (by kernel_rfl) (by kernel_rfl) (by kernel_rfl) (by kernel_rfl)) ?_
  intro W base args ds gs before hval0 hW hcnd _
  have hval : ∀ (j : Nat) t v, Try.f3.params[j]? = some t → args[j]? = some v → Value.okWide Try.prog W .any base t v := hval0
  have hW' := hW
  obtain ⟨p, q, hA0, hV, rfl, hfz, hnd⟩ := hW
  have hA : DataW.TrodAll enc Try.prog W 0 (fun _ => true) true Try.f3.params.toList args.toList ds p := hA0
  rw [Try.params3] at hA hval
  obtain ⟨v0, vs0, d0, ds0, p0, q0, hargs, rfl, rfl, h0, r0⟩ := trodAll_cons hA
  obtain ⟨v1, vs1, d1, ds1, p1, q1, rfl, rfl, rfl, h1, r1⟩ := trodAll_cons r0
  obtain ⟨v2, vs2, d2, ds2, p2, q2, rfl, rfl, rfl, h2, r2⟩ := trodAll_cons r1
  obtain ⟨rfl, rfl, rfl⟩ := trodAll_nil r2
  obtain rfl : args = #[v0, v1, v2] := by cases args; simp_all
  obtain ⟨rfl, rfl⟩ := trodVars_none hV
  obtain ⟨a0, rfl, rfl, rfl, w0⟩ := open_int Try.underlying5 (hval 0 5 v0 rfl rfl) h0
  obtain ⟨a1, len1, cap1, rfl⟩ := okWide_slice Try.underlying22 (hval 1 22 v1 rfl rfl)
  have k1 := h1
  have lt1 : ∀ x ∈ p1, x.block < W.heap.size := by obtain ⟨m, hm⟩ := k1; exact DataW.trod_lt m _ _ _ hm
  obtain ⟨z1, w1⟩ : ∃ zs, IsSamps W a1 len1 cap1 zs := by
    obtain ⟨fuel, hf⟩ := h1
    exact samps_of (by simpa [Value.cells] using hf)
  obtain ⟨a2, rfl, rfl, rfl, w2⟩ := open_int Try.underlying3 (hval 2 3 v2 rfl rfl) h2
  clear hA0 hval0
  refine (walk a0 a1 len1 cap1 z1 a2 W w0 w1 w2).mono fun e W' ⟨he, bel⟩ => ?_
  subst he
  exact ⟨_, rfl, _, _, _, [], _, [], hW', trodAll_mk1 (shut_bool Try.underlying4 _), (trodAll_cons_mk (shut_int Try.underlying5 w0) (trodAll_cons_mk (Below.trod laidOut (by kernel_rfl) (of_decide_eq_true (by kernel_rfl)) k1 bel lt1) (trodAll_cons_mk (shut_int Try.underlying3 w2) trodAll_mk0))), rfl, bel.frame _, fun h => by cases h⟩

theorem over : Rows.frameMakesRow.holds Try.pinned (OpenSpec.ofChange Rows.frameMakesSpec) :=
  OpenClaim.holds_of_wide 3 Try.f3 rfl rfl rfl rfl rfl rfl rfl ⟨rfl, rfl, rfl, rfl, rfl⟩ rfl rfl rfl rfl rfl (by kernel_rfl) Try.func3 (by kernel_rfl)
    (of_decide_eq_true (by kernel_rfl)) (by unfold Func.isWrapper; first | (rw [if_pos (by decide +kernel)]; kernel_rfl) | (rw [if_neg (by decide +kernel)]; exact ⟨rfl, rfl⟩))
    (fun os started H enc _ => lifted os started H enc)

theorem proved : Rows.FrameMakesSaid := over
#print axioms proved
end Go.Proofs.Ytokgcbdpmbjagaa.frameMakes
