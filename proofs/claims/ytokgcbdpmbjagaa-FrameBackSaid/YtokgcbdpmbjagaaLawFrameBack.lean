/- Whatever number, samples and bytes come in, FrameBack answers true, and writes nothing that was there. -/
import Derived.Test.YtokgcbdpmbjagaaRows
import Derived.ShutString
import Derived.ChangeOld
import Derived.Below
import Derived.Test.YtokgcbdpmbjagaaLawKit
import Derived.Test.YtokgcbdpmbjagaaFrameLive
import Derived.Test.YtokgcbdpmbjagaaFrameSame
import Derived.Test.YtokgcbdpmbjagaaFrameBackMath
import Derived.Deep.Cut
set_option linter.unusedSimpArgs false
set_option linter.unusedVariables false
namespace Go.Proofs.Ytokgcbdpmbjagaa.frameBack
open Go.ChangeShapes Go.WideShapes Go.ChangeAt Go.RowKit
open Go.ChangeMaps (open_string shut_string)
open Frm Crc RU8
theorem small_fits {l : List Samp} (h : mayT l = true) : Small l := by
  unfold mayT at h
  intro s hs
  have := (of_decide_eq_true h).2.2 s hs
  unfold Fits at this
  omega
set_option maxRecDepth 100000 in
set_option maxHeartbeats 2000000 in
theorem walk (a0 : Int) (a1 : Option Addr) (len1 cap1 : Nat) (z1 : List Samp) (a2 : Option Addr) (len2 cap2 : Nat) (z2 : List Int) (w : World) (w0 : (Lit.int .u8 a0).wf = true) (w1 : IsSamps w a1 len1 cap1 z1) (w2 : IsRow .u8 w a2 len2 cap2 z2) :
    Calls Try.prog 5 #[.int .u8 a0, .slice a1 len1 cap1, .slice a2 len2 cap2] w fun e w' => e = .returned (.bool true) ∧ Below w.heap.size w w' := by
  have b0 := bounds_u8 w0
  obtain ⟨ys, hv, hs, hl, hm⟩ := row_samps w1
  obtain ⟨r, hr, hb, hl2, hm2, _⟩ := row_vals w2
  clear w0 w1 w2
  obtain ⟨q, rfl⟩ : ∃ q : Nat, a0 = (q : Int) := ⟨a0.toNat, by omega⟩
  by_cases hbig : 100 < len1 ∨ 500 < len2
  · have hlive := live_ok w
    clear hv hs hr hb
    rcases (by omega : 100 < len1 ∨ (¬ 100 < len1 ∧ 500 < len2)) with h1 | h1
    all_goals
      go_enter Try.func5, Try.ntmps5
      go_wp2_with (go_at_call 7; ((with_reducible refine hlive.mono ?_); rintro e w' ⟨rfl, hB⟩))
      go_ret
      exact ⟨rfl, hB⟩
  have hk1 : len1 ≤ 100 ∧ len2 ≤ 500 := by omega
  have hlook := look_any a2 len2 cap2 r w hr hb (by omega) hl2 hm2
  have hm3 : ∀ W, Row.Vals sampS W a1 len1 ys → Calls Try.prog 8 #[.int .u8 q, .slice a1 len1 cap1] W (MakeIs W q ys) := fun W h => make_any q (by omega) a1 len1 cap1 ys W h hs (by omega)
  have hInfo : (Try.prog.info? 5).map (fun i => (i.zero, i.size, i.bytes)) = some (some (.int .u8 0), 1, 1) := by kernel_rfl
  have HInfo := Lib.hid hInfo
  clear hInfo
  unfold LookIs at hlook
  unfold MakeIs at hm3
  clear hbig
  by_cases hE : lookE r = 0
  · obtain ⟨hmay, hfr, hNl, hQ⟩ := look_made hb hE
    have hm4 : ∀ W A n c, Row.Vals sampS W A n (lookL r) → Calls Try.prog 8 #[.int .u8 (lookSeq r), .slice A n c] W fun e w' => ∃ A c, e = .returned (.tuple #[.slice A (lookN r) c, .int .i64 0]) ∧ Vals w' A (lookN r) (r.take (lookN r)) ∧ lookN r ≤ c ∧ Below W.heap.size W w' := fun W A n c h => by
      have hle : n ≤ 32 := by
        have h9 := hmay
        unfold mayT at h9
        have := (of_decide_eq_true h9).2.1
        have := h.len_
        omega
      refine (make_any (lookSeq r) hQ A n c (lookL r) W h (small_fits hmay) (by omega)).mono ?_
      rintro e w' ⟨v, A9, c9, rfl, rfl, e1, e2, hO, hB⟩
      have x1 : makeB (lookSeq r) (lookL r) = r.take (lookN r) := by unfold makeB; rw [hmay, if_pos rfl, hfr]
      have x2 : makeE (lookL r) = 0 := by unfold makeE; rw [hmay]; rfl
      have x3 : (r.take (lookN r)).length = lookN r := by rw [List.length_take]; omega
      rw [x1, x3] at hO e1 ⊢
      rw [x2]
      obtain ⟨A8, c8, e8, _, _, hV, _⟩ := Vals.own hO
      injection e8 with e81 e82 e83
      subst e81
      exact ⟨A9, c9, rfl, hV, e1, hB⟩
    rw [hE] at hlook
    have hlen2 := hr.len_
    generalize lookN r = N at *
    generalize lookSeq r = Q at *
    have hN1 : N ≤ len2 ∧ N ≤ cap2 := by omega
    have hcv : ∀ {W : World} {B : Option Addr} {k : Nat} {zs : List Nat}, Vals W B k zs → ∀ d, (convert 24 9 (.slice B k d)).run Try.prog W = .ok (.string (strOf zs)) W := fun h d => conv_vals _ 5 _ Try.underlying24 Try.underlying5 Try.underlying9 h d
    have HCV := @Lib.hid _ (@hcv)
    clear hE hmay hfr hNl hcv
    go_enter Try.func5, Try.ntmps5
    go_wp2_with (first
      | (go_at_call 12; ((with_reducible refine hlook.mono ?_); rintro e W1 ⟨A1, n1, c1, rfl, h1, h2, hV1, h3, _, hB1⟩; have hBa := hB1.alloc hB1.size (.cells #[.int .u8 Q, .slice A1 n1 c1] 34); have hF := Has.new W1 34 #[.int .u8 Q, .slice A1 n1 c1]; obtain ⟨f0, f1, ff0, ff1⟩ := hF.two))
      | (go_at_call 8; ((with_reducible refine (hm4 _ _ _ _ (hV1.alloc _)).mono ?_); rintro e W2 ⟨A2, c2, rfl, hV2, h4, hB2⟩; have hBb := hBa.trans (hB2.mono hBa.size); have hF2 := hF.below hB2 (by simp); obtain ⟨k0, k1, kf0, kf1⟩ := hF2.two)))
    have hV2d : Vals W2.drew A2 N (r.take N) := hV2.same rfl
    have hVrd : Vals W2.drew a2 N (r.take N) := ((hr.below hBb).take N hN1.1).same rfl
    have hd1 : decide ((len2 : Int) < (N : Int)) = false := decide_eq_false (by omega)
    have hd3 : decide (len2 < N) = false := decide_eq_false (by omega)
    have hd4 : ¬ (len2 : Int) < (N : Int) := by omega
    have hd5 : ¬ len2 < N := by omega
    have hd6 : N ≤ len2 := by omega
    have hd7 : (N : Int) ≤ (len2 : Int) := by omega
    have hd2 : (0 : Int) ≤ (N : Int) ∧ (N : Int) ≤ (cap2 : Int) := by omega
    refine Reg.begin_ (S := fun W => (convert 24 9 (.slice A2 N c2)).run Try.prog W = .ok (.string (strOf (r.take N))) W ∧ (convert 24 9 (.slice a2 N cap2)).run Try.prog W = .ok (.string (strOf (r.take N))) W) (by kernel_rfl) ⟨HCV.out hV2d c2, HCV.out hVrd cap2⟩ (fun hHeld => ?_)
    refine Reg.take (i := 0) (v := ?v1) rfl (by kernel_rfl) (by kernel_rfl) (by kernel_rfl) (by rfl) ?hv1 (by assumption) ?rest1
    case hv1 => first | (intro w hSw; (try dsimp only at hSw); go_simp; done) | (intro w hSw; (try dsimp only at hSw); go_simp; with_reducible rfl)
    (try simp only [Act.put, List.setIfInBounds_toArray, List.set_cons_zero, List.set_cons_succ])
    refine Reg.take (i := 1) (v := ?v2) rfl (by kernel_rfl) (by kernel_rfl) (by kernel_rfl) (by rfl) ?hv2 (by assumption) ?rest2
    case hv2 => first | (intro w hSw; (try dsimp only at hSw); go_simp; done) | (intro w hSw; (try dsimp only at hSw); go_simp; with_reducible rfl)
    (try simp only [Act.put, List.setIfInBounds_toArray, List.set_cons_zero, List.set_cons_succ])
    refine Reg.take (i := 2) (v := ?v3) rfl (by kernel_rfl) (by kernel_rfl) (by kernel_rfl) (by rfl) ?hv3 (by assumption) ?rest3
    case hv3 => first | (intro w hSw; (try dsimp only at hSw); go_simp; done) | (intro w hSw; (try dsimp only at hSw); go_simp; with_reducible rfl)
    (try simp only [Act.put, List.setIfInBounds_toArray, List.set_cons_zero, List.set_cons_succ])
    refine Reg.take (i := 3) (v := ?v4) rfl (by kernel_rfl) (by kernel_rfl) (by kernel_rfl) (by rfl) ?hv4 (by assumption) ?rest4
    case hv4 => first | (intro w hSw; (try dsimp only at hSw); go_simp; done) | (intro w hSw; (try dsimp only at hSw); go_simp; with_reducible rfl)
    (try simp only [Act.put, List.setIfInBounds_toArray, List.set_cons_zero, List.set_cons_succ])
    refine Reg.take (i := 4) (v := ?v5) rfl (by kernel_rfl) (by kernel_rfl) (by kernel_rfl) (by rfl) ?hv5 (by assumption) ?rest5
    case hv5 => first | (intro w hSw; (try dsimp only at hSw); go_simp; done) | (intro w hSw; (try dsimp only at hSw); go_simp; with_reducible rfl)
    (try simp only [Act.put, List.setIfInBounds_toArray, List.set_cons_zero, List.set_cons_succ])
    refine Reg.take (i := 5) (v := ?v6) rfl (by kernel_rfl) (by kernel_rfl) (by kernel_rfl) (by rfl) ?hv6 (by assumption) ?rest6
    case hv6 => first | (intro w hSw; (try dsimp only at hSw); go_simp; done) | (intro w hSw; (try dsimp only at hSw); go_simp; with_reducible rfl)
    (try simp only [Act.put, List.setIfInBounds_toArray, List.set_cons_zero, List.set_cons_succ])
    refine Reg.take (i := 6) (v := ?v7) rfl (by kernel_rfl) (by kernel_rfl) (by kernel_rfl) (by rfl) ?hv7 (by assumption) ?rest7
    case hv7 => first | (intro w hSw; (try dsimp only at hSw); go_simp; done) | (intro w hSw; (try dsimp only at hSw); go_simp; with_reducible rfl)
    (try simp only [Act.put, List.setIfInBounds_toArray, List.set_cons_zero, List.set_cons_succ])
    refine Reg.take (i := 7) (v := ?v8) rfl (by kernel_rfl) (by kernel_rfl) (by kernel_rfl) (by rfl) ?hv8 (by assumption) ?rest8
    case hv8 => first | (intro w hSw; (try dsimp only at hSw); go_simp; done) | (intro w hSw; (try dsimp only at hSw); go_simp; with_reducible rfl)
    (try simp only [Act.put, List.setIfInBounds_toArray, List.set_cons_zero, List.set_cons_succ])
    refine Reg.take (i := 8) (v := ?v9) rfl (by kernel_rfl) (by kernel_rfl) (by kernel_rfl) (by rfl) ?hv9 (by assumption) ?rest9
    case hv9 => first | (intro w hSw; (try dsimp only at hSw); go_simp; done) | (intro w hSw; (try dsimp only at hSw); go_simp; with_reducible rfl)
    (try simp only [Act.put, List.setIfInBounds_toArray, List.set_cons_zero, List.set_cons_succ])
    refine Reg.take (i := 9) (v := ?v10) rfl (by kernel_rfl) (by kernel_rfl) (by kernel_rfl) (by rfl) ?hv10 (by assumption) ?rest10
    case hv10 => first | (intro w hSw; (try dsimp only at hSw); go_simp; done) | (intro w hSw; (try dsimp only at hSw); go_simp; with_reducible rfl)
    (try simp only [Act.put, List.setIfInBounds_toArray, List.set_cons_zero, List.set_cons_succ])
    refine Reg.take (i := 10) (v := ?v11) rfl (by kernel_rfl) (by kernel_rfl) (by kernel_rfl) (by rfl) ?hv11 (by assumption) ?rest11
    case hv11 => first | (intro w hSw; (try dsimp only at hSw); go_simp; done) | (intro w hSw; (try dsimp only at hSw); go_simp; with_reducible rfl)
    (try simp only [Act.put, List.setIfInBounds_toArray, List.set_cons_zero, List.set_cons_succ])
    refine Reg.take (i := 11) (v := ?v12) rfl (by kernel_rfl) (by kernel_rfl) (by kernel_rfl) (by rfl) ?hv12 (by assumption) ?rest12
    case hv12 => first | (intro w hSw; (try dsimp only at hSw); go_simp; done) | (intro w hSw; (try dsimp only at hSw); go_simp; with_reducible rfl)
    (try simp only [Act.put, List.setIfInBounds_toArray, List.set_cons_zero, List.set_cons_succ])
    refine Reg.take (i := 12) (v := ?v13) rfl (by kernel_rfl) (by kernel_rfl) (by kernel_rfl) (by rfl) ?hv13 (by assumption) ?rest13
    case hv13 => first | (intro w hSw; (try dsimp only at hSw); go_simp; done) | (intro w hSw; (try dsimp only at hSw); go_simp; with_reducible rfl)
    (try simp only [Act.put, List.setIfInBounds_toArray, List.set_cons_zero, List.set_cons_succ])
    refine Reg.take (i := 13) (v := ?v14) rfl (by kernel_rfl) (by kernel_rfl) (by kernel_rfl) (by rfl) ?hv14 (by assumption) ?rest14
    case hv14 => first | (intro w hSw; (try dsimp only at hSw); go_simp; done) | (intro w hSw; (try dsimp only at hSw); go_simp; with_reducible rfl)
    (try simp only [Act.put, List.setIfInBounds_toArray, List.set_cons_zero, List.set_cons_succ])
    refine Reg.take (i := 14) (v := ?v15) rfl (by kernel_rfl) (by kernel_rfl) (by kernel_rfl) (by rfl) ?hv15 (by assumption) ?rest15
    case hv15 => first | (intro w hSw; (try dsimp only at hSw); go_simp; done) | (intro w hSw; (try dsimp only at hSw); go_simp; with_reducible rfl)
    (try simp only [Act.put, List.setIfInBounds_toArray, List.set_cons_zero, List.set_cons_succ])
    refine Reg.take (i := 15) (v := ?v16) rfl (by kernel_rfl) (by kernel_rfl) (by kernel_rfl) (by rfl) ?hv16 (by assumption) ?rest16
    case hv16 => first | (intro w hSw; (try dsimp only at hSw); go_simp; done) | (intro w hSw; (try dsimp only at hSw); go_simp; with_reducible rfl)
    (try simp only [Act.put, List.setIfInBounds_toArray, List.set_cons_zero, List.set_cons_succ])
    refine Reg.take (i := 16) (v := ?v17) rfl (by kernel_rfl) (by kernel_rfl) (by kernel_rfl) (by rfl) ?hv17 (by assumption) ?rest17
    case hv17 => first | (intro w hSw; (try dsimp only at hSw); go_simp; done) | (intro w hSw; (try dsimp only at hSw); go_simp; with_reducible rfl)
    (try simp only [Act.put, List.setIfInBounds_toArray, List.set_cons_zero, List.set_cons_succ])
    refine Reg.take (i := 17) (v := ?v18) rfl (by kernel_rfl) (by kernel_rfl) (by kernel_rfl) (by rfl) ?hv18 (by assumption) ?rest18
    case hv18 => first | (intro w hSw; (try dsimp only at hSw); go_simp; done) | (intro w hSw; (try dsimp only at hSw); go_simp; with_reducible rfl)
    (try simp only [Act.put, List.setIfInBounds_toArray, List.set_cons_zero, List.set_cons_succ])
    refine Reg.take (i := 18) (v := ?v19) rfl (by kernel_rfl) (by kernel_rfl) (by kernel_rfl) (by rfl) ?hv19 (by assumption) ?rest19
    case hv19 => first | (intro w hSw; (try dsimp only at hSw); go_simp; done) | (intro w hSw; (try dsimp only at hSw); go_simp; with_reducible rfl)
    (try simp only [Act.put, List.setIfInBounds_toArray, List.set_cons_zero, List.set_cons_succ])
    refine Reg.take (i := 19) (v := ?v20) rfl (by kernel_rfl) (by kernel_rfl) (by kernel_rfl) (by rfl) ?hv20 (by assumption) ?rest20
    case hv20 => first | (intro w hSw; (try dsimp only at hSw); go_simp; done) | (intro w hSw; (try dsimp only at hSw); go_simp; with_reducible rfl)
    (try simp only [Act.put, List.setIfInBounds_toArray, List.set_cons_zero, List.set_cons_succ])
    refine Reg.take (i := 20) (v := ?v21) rfl (by kernel_rfl) (by kernel_rfl) (by kernel_rfl) (by rfl) ?hv21 (by assumption) ?rest21
    case hv21 => first | (intro w hSw; (try dsimp only at hSw); go_simp; done) | (intro w hSw; (try dsimp only at hSw); go_simp; with_reducible rfl)
    (try simp only [Act.put, List.setIfInBounds_toArray, List.set_cons_zero, List.set_cons_succ])
    refine Reg.take (i := 21) (v := ?v22) rfl (by kernel_rfl) (by kernel_rfl) (by kernel_rfl) (by rfl) ?hv22 (by assumption) ?rest22
    case hv22 => first | (intro w hSw; (try dsimp only at hSw); go_simp; done) | (intro w hSw; (try dsimp only at hSw); go_simp; with_reducible rfl)
    (try simp only [Act.put, List.setIfInBounds_toArray, List.set_cons_zero, List.set_cons_succ])
    refine Reg.take (i := 22) (v := ?v23) rfl (by kernel_rfl) (by kernel_rfl) (by kernel_rfl) (by rfl) ?hv23 (by assumption) ?rest23
    case hv23 => first | (intro w hSw; (try dsimp only at hSw); go_simp; done) | (intro w hSw; (try dsimp only at hSw); go_simp; with_reducible rfl)
    (try simp only [Act.put, List.setIfInBounds_toArray, List.set_cons_zero, List.set_cons_succ])
    refine Reg.done (by kernel_rfl) ?_ _
    have hBc : Below w.heap.size w W2.drew := below_drewN hBb 1
    have hFc : Has W2.drew W1.heap.size 34 #[.int .u8 Q, .slice A1 n1 c1] := hF2
    have hFw := hB1.size
    clear hHeld hF hF2 k0 k1 kf0 kf1 f0 f1 ff0 ff1 hV1 hBb hBa hB1 hB2 hV2 hV2d hVrd hd1 hd2 hd3 hd4 hd5 hd6 hd7 hm4
    generalize W2.drew = Wc at *
    generalize W1.heap.size = Fb at *
    cases hmt : mayT ys with
    | false =>
      have hm5 : ∀ W, Row.Vals sampS W a1 len1 ys → Calls Try.prog 8 #[.int .u8 q, .slice a1 len1 cap1] W fun e w' => ∃ A c, e = .returned (.tuple #[.slice A 0 c, .int .i64 1]) ∧ Below W.heap.size W w' := fun W h => by
        refine (hm3 W h).mono ?_
        rintro e w' ⟨v, A9, c9, rfl, rfl, e1, e2, hO, hB⟩
        have x1 : makeB q ys = [] := by unfold makeB; rw [hmt]; rfl
        have x2 : makeE ys = 1 := by unfold makeE; rw [hmt]; rfl
        rw [x1, x2]
        exact ⟨A9, c9, rfl, hB⟩
      clear hm3
      go_wp2_with (first
        | (go_at_call 8; ((with_reducible refine (hm5 _ (hv.below hBc)).mono ?_); rintro e W3 ⟨A3, c3, rfl, hB3⟩; have hBd := hBc.trans (hB3.mono hBc.size)))
        | (go_at_call 7; ((with_reducible refine (live_ok _).mono ?_); rintro e W5 ⟨rfl, hB5⟩)))
      go_ret
      exact ⟨rfl, hBd.trans (hB5.mono hBd.size)⟩
    | true =>
      have hlen := hv.len_
      obtain ⟨F, hF9⟩ : ∃ F, frameT q ys = F := ⟨_, rfl⟩
      obtain ⟨Z, hZ⟩ : ∃ Z, F.length = Z := ⟨_, rfl⟩
      have hZ2 : Z = 6 + 3 * ys.length := by rw [← hZ, ← hF9, frameT_length]
      have hm5 : ∀ W, Row.Vals sampS W a1 len1 ys → Calls Try.prog 8 #[.int .u8 q, .slice a1 len1 cap1] W fun e w' => ∃ A c, e = .returned (.tuple #[.slice A Z c, .int .i64 0]) ∧ Z ≤ c ∧ c ≤ 9223372036854775807 ∧ Vals w' A Z F ∧ Below W.heap.size W w' := fun W h => by
        refine (hm3 W h).mono ?_
        rintro e w' ⟨v, A9, c9, rfl, rfl, e1, e2, hO, hB⟩
        have x1 : makeB q ys = F := by unfold makeB; rw [hmt, if_pos rfl, hF9]
        have x2 : makeE ys = 0 := by unfold makeE; rw [hmt]; rfl
        rw [x1, hZ] at hO e1 ⊢
        rw [x2]
        obtain ⟨A8, c8, e8, _, _, hV, _⟩ := Vals.own hO
        injection e8 with e81 e82 e83
        subst e81
        exact ⟨A9, c9, rfl, e1, e2, hV, hB⟩
      have hFb8 : Bytes F := by
        rw [← hF9]
        have h9 := hmt
        unfold mayT at h9
        exact Bytes.append (xs := [165, 90]) (by intro y hy; simp at hy; omega) (seal_bytes (bodyT_bytes (by omega) (by have := (of_decide_eq_true h9).2.1; omega)))
      have hcut : ∀ W A k c, k < Z → Vals W A k (F.take k) → k ≤ c → c ≤ 9223372036854775807 → Calls Try.prog 12 #[.slice A k c] W fun e w' => (∃ A m c, e = .returned (.tuple #[.agg #[.int .u8 0, .slice A m c], .int .i64 0, .int .i64 6])) ∧ Below W.heap.size W w' := fun W A k c hk h h1 h2 => by
        refine (look_any A k c (F.take k) W h (hFb8.take k) (by omega) h1 h2).mono ?_
        rintro e w' ⟨A9, m9, c9, rfl, _, _, _, _, _, hB⟩
        have x1 := look_cut hmt k (seq := q) (by omega)
        rw [hF9] at x1
        obtain ⟨x2, _, x3⟩ := look_bad (by rw [x1]; decide)
        rw [x2, x3, x1]
        exact ⟨⟨A9, m9, c9, rfl⟩, hB⟩
      have hfull : ∀ W A n c, Vals W A n (F ++ r) → n ≤ c → c ≤ 9223372036854775807 → n ≤ 100000 → Calls Try.prog 12 #[.slice A n c] W fun e w' => ∃ A c, e = .returned (.tuple #[.agg #[.int .u8 q, .slice A len1 c], .int .i64 Z, .int .i64 0]) ∧ Row.Vals sampS w' A len1 ys ∧ (∀ x, A = some x → W.heap.size ≤ x.block) ∧ Below W.heap.size W w' := fun W A n c h h1 h2 h3 => by
        refine (look_any A n c (F ++ r) W h (hFb8.append hb) h3 h1 h2).mono ?_
        rintro e w' ⟨A9, m9, c9, rfl, _, _, hV, _, hfar, hB⟩
        have x1 := look_frame hmt r (seq := q)
        rw [hF9] at x1
        rw [x1.2.2.1] at hV
        obtain rfl : m9 = len1 := by have := hV.len_; omega
        rw [x1.1, x1.2.1, x1.2.2.2, ← hZ2]
        exact ⟨A9, c9, rfl, hV, hfar, hB⟩
      have hZ100 : Z ≤ 102 := by
        have h9 := hmt
        unfold mayT at h9
        have := (of_decide_eq_true h9).2.1
        omega
      clear hm3 hmt hF9 hZ2
      go_wp2_with (first
        | (go_at_call 8; ((with_reducible refine (hm5 _ (hv.below hBc)).mono ?_); rintro e W3 ⟨A3, c3, rfl, e1, e2, hV3, hB3⟩; have hBd := hBc.trans (hB3.mono hBc.size))))
      go_loopw [82] (fun i wr => ∃ k : Nat, k ≤ Z ∧ i = .int .i64 (k : Nat) ∧ Below W3.heap.size W3 wr) (fun i _ => Z - (intOf i).toNat)
      case atStart => exact ⟨0, by omega, rfl, Below.refl _ _⟩
      case round =>
        obtain ⟨k, hk, rfl, hB⟩ := hrel
        by_cases hkZ : k < Z
        · have hck := hcut wr A3 k c3 hkZ ((hV3.take k (by omega)).below hB) (by omega) e2
          have hk0 : (0 : Int) ≤ (k : Int) ∧ (k : Int) ≤ (c3 : Int) := by omega
          clear hcut hfull hm5
          go_wp2_with (go_at_call 12; ((with_reducible refine hck.mono ?_); rintro e W4 ⟨⟨A4, m4, c4, rfl⟩, hB4⟩; have hBe := hB.trans (hB4.mono hB.size)))
          go_roundw
          case rel => exact ⟨k + 1, by omega, by go_num, hBe.alloc hBe.size _⟩
          case measure => simp [intOf]; omega
        · have hkZ2 : k = Z := by omega
          subst hkZ2
          have hO0 := own_empty wr 5
          have hBa := (Below.refl wr.heap.size wr).alloc (Nat.le_refl _) (.cells #[] 5)
          have hBwr := hBd.trans (hB.mono hBd.size)
          have hVw : Vals (wr.alloc (.cells #[] 5)) A3 k F := (hV3.below hB).alloc _
          have hF3 := hFc.below hB3 hFc.lt
          have hF4 := hF3.below hB hF3.lt
          have hlv := hr.len_
          clear hcut hm5 hkZ hF3 hFc
          go_wp2_with (first
            | (at_builtin; refine wpList_append_vals rfl (.tmp 101) (.tmp 102) _ rfl wr.heap.size 5 1 (by omega) Try.underlying24 HInfo.out (.slice (some ⟨wr.heap.size, 0, none⟩) 0 0) 0 ([] : List Nat) rfl (by exact hO0) A3 k c3 F rfl (by exact hVw) (by omega) (by simp) ?_; intro v1 W6 hO6 hg6 hat6; have hK6 := Kept.of_grown hg6; have hB6 := below_kept hBa hK6 hBa.size (own_in hO0); have hBw6 := hBwr.trans (hB6.mono hBwr.size); rw [List.nil_append, Nat.zero_add] at hO6)
            | (at_builtin; refine wpList_append_vals rfl (.tmp 103) (.tmp 104) _ rfl wr.heap.size 5 1 (by omega) Try.underlying24 HInfo.out v1 k F rfl (by exact hO6) a2 len2 cap2 r rfl (by exact (hr.below hBw6)) (by omega) (by exact hB6.size) ?_; intro v2 W7 hO7 hg7 hat7; have hK7 := Kept.of_grown hg7; have hB7 := below_kept hB6 hK7 hB6.size (own_in hO6); have hBw7 := hBwr.trans (hB7.mono hBwr.size); obtain ⟨A9, c9, rfl, g1, g2, hV9, _⟩ := Vals.own hO7; have hF7 := hF4.below hB7 hF4.lt)
            | (go_at_call 12; ((with_reducible refine (hfull _ A9 (k + len2) c9 hV9 g1 g2 (by omega)).mono ?_); rintro e W8 ⟨A10, c10, rfl, hV10, hfar, hB10⟩; have hF8 := hF7.below hB10 hF7.lt; obtain ⟨m0, m1, mf0, mf1⟩ := hF8.two; obtain ⟨p0, p1, _, _⟩ := (hF8.put2 (.int .u8 q) (.slice A10 len1 c10)).two; have hBw9 := below_put2 (hBw7.trans (hB10.mono hBw7.size)) hFw (.int .u8 q) (.slice A10 len1 c10); have hKp := ((Kept.refl [Fb] W8).setCell (p := ⟨Fb, 0, none⟩) (.inl (by simp)) (.int .u8 q)).setCell (p := ⟨Fb, 1, none⟩) (.inl (by simp)) (.slice A10 len1 c10); have hVp := hV10.kept hKp (fun _ x hx => by have h8 := hfar x hx; have h9 := hF7.lt; simp; omega); have hsame := same_any q q A10 len1 c10 ys a1 len1 cap1 ys _ hVp (hv.below hBw9) (by omega) (by omega); rw [decide_eq_true ⟨rfl, rfl⟩] at hsame))
            | (go_at_call 14; ((with_reducible refine hsame.mono ?_); rintro e W11 ⟨rfl, hB11⟩; have hBwz := hBw9.trans (hB11.mono hBw9.size)))
            | (go_at_call 7; ((with_reducible refine (live_ok _).mono ?_); rintro e W5 ⟨rfl, hB5⟩)))
          go_ret
          exact ⟨rfl, hBwz.trans (hB5.mono hBwz.size)⟩
  · obtain ⟨x1, x2, x3⟩ := look_bad hE
    have hEr := lookE_range r
    have hw : IntKind.i64.wrap (lookE r) = lookE r := by exact IntWalk.i64_in _ (by omega)
    rw [x1, x2, x3] at hlook
    generalize lookE r = E at *
    go_enter Try.func5, Try.ntmps5
    go_upto_region 8 with (first
      | (go_at_call 12; ((with_reducible refine hlook.mono ?_); rintro e W1 ⟨A1, n1, c1, rfl, h1, h2, hV1, h3, _, hB1⟩; have hBc := hB1.alloc hB1.size (.cells #[.int .u8 0, .slice A1 n1 c1] 34); have hFc := Has.new W1 34 #[.int .u8 0, .slice A1 n1 c1]; have hFw := hB1.size)))
    generalize W1.alloc (.cells #[.int .u8 0, .slice A1 n1 c1] 34) = Wc at *
    generalize W1.heap.size = Fb at *
    cases hmt : mayT ys with
    | false =>
      have hm5 : ∀ W, Row.Vals sampS W a1 len1 ys → Calls Try.prog 8 #[.int .u8 q, .slice a1 len1 cap1] W fun e w' => ∃ A c, e = .returned (.tuple #[.slice A 0 c, .int .i64 1]) ∧ Below W.heap.size W w' := fun W h => by
        refine (hm3 W h).mono ?_
        rintro e w' ⟨v, A9, c9, rfl, rfl, e1, e2, hO, hB⟩
        have x1 : makeB q ys = [] := by unfold makeB; rw [hmt]; rfl
        have x2 : makeE ys = 1 := by unfold makeE; rw [hmt]; rfl
        rw [x1, x2]
        exact ⟨A9, c9, rfl, hB⟩
      clear hm3
      go_wp2_with (first
        | (go_at_call 8; ((with_reducible refine (hm5 _ (hv.below hBc)).mono ?_); rintro e W3 ⟨A3, c3, rfl, hB3⟩; have hBd := hBc.trans (hB3.mono hBc.size)))
        | (go_at_call 7; ((with_reducible refine (live_ok _).mono ?_); rintro e W5 ⟨rfl, hB5⟩)))
      go_ret
      exact ⟨rfl, hBd.trans (hB5.mono hBd.size)⟩
    | true =>
      have hlen := hv.len_
      obtain ⟨F, hF9⟩ : ∃ F, frameT q ys = F := ⟨_, rfl⟩
      obtain ⟨Z, hZ⟩ : ∃ Z, F.length = Z := ⟨_, rfl⟩
      have hZ2 : Z = 6 + 3 * ys.length := by rw [← hZ, ← hF9, frameT_length]
      have hm5 : ∀ W, Row.Vals sampS W a1 len1 ys → Calls Try.prog 8 #[.int .u8 q, .slice a1 len1 cap1] W fun e w' => ∃ A c, e = .returned (.tuple #[.slice A Z c, .int .i64 0]) ∧ Z ≤ c ∧ c ≤ 9223372036854775807 ∧ Vals w' A Z F ∧ Below W.heap.size W w' := fun W h => by
        refine (hm3 W h).mono ?_
        rintro e w' ⟨v, A9, c9, rfl, rfl, e1, e2, hO, hB⟩
        have x1 : makeB q ys = F := by unfold makeB; rw [hmt, if_pos rfl, hF9]
        have x2 : makeE ys = 0 := by unfold makeE; rw [hmt]; rfl
        rw [x1, hZ] at hO e1 ⊢
        rw [x2]
        obtain ⟨A8, c8, e8, _, _, hV, _⟩ := Vals.own hO
        injection e8 with e81 e82 e83
        subst e81
        exact ⟨A9, c9, rfl, e1, e2, hV, hB⟩
      have hFb8 : Bytes F := by
        rw [← hF9]
        have h9 := hmt
        unfold mayT at h9
        exact Bytes.append (xs := [165, 90]) (by intro y hy; simp at hy; omega) (seal_bytes (bodyT_bytes (by omega) (by have := (of_decide_eq_true h9).2.1; omega)))
      have hcut : ∀ W A k c, k < Z → Vals W A k (F.take k) → k ≤ c → c ≤ 9223372036854775807 → Calls Try.prog 12 #[.slice A k c] W fun e w' => (∃ A m c, e = .returned (.tuple #[.agg #[.int .u8 0, .slice A m c], .int .i64 0, .int .i64 6])) ∧ Below W.heap.size W w' := fun W A k c hk h h1 h2 => by
        refine (look_any A k c (F.take k) W h (hFb8.take k) (by omega) h1 h2).mono ?_
        rintro e w' ⟨A9, m9, c9, rfl, _, _, _, _, _, hB⟩
        have x1 := look_cut hmt k (seq := q) (by omega)
        rw [hF9] at x1
        obtain ⟨x2, _, x3⟩ := look_bad (by rw [x1]; decide)
        rw [x2, x3, x1]
        exact ⟨⟨A9, m9, c9, rfl⟩, hB⟩
      have hfull : ∀ W A n c, Vals W A n (F ++ r) → n ≤ c → c ≤ 9223372036854775807 → n ≤ 100000 → Calls Try.prog 12 #[.slice A n c] W fun e w' => ∃ A c, e = .returned (.tuple #[.agg #[.int .u8 q, .slice A len1 c], .int .i64 Z, .int .i64 0]) ∧ Row.Vals sampS w' A len1 ys ∧ (∀ x, A = some x → W.heap.size ≤ x.block) ∧ Below W.heap.size W w' := fun W A n c h h1 h2 h3 => by
        refine (look_any A n c (F ++ r) W h (hFb8.append hb) h3 h1 h2).mono ?_
        rintro e w' ⟨A9, m9, c9, rfl, _, _, hV, _, hfar, hB⟩
        have x1 := look_frame hmt r (seq := q)
        rw [hF9] at x1
        rw [x1.2.2.1] at hV
        obtain rfl : m9 = len1 := by have := hV.len_; omega
        rw [x1.1, x1.2.1, x1.2.2.2, ← hZ2]
        exact ⟨A9, c9, rfl, hV, hfar, hB⟩
      have hZ100 : Z ≤ 102 := by
        have h9 := hmt
        unfold mayT at h9
        have := (of_decide_eq_true h9).2.1
        omega
      clear hm3 hmt hF9 hZ2
      go_wp2_with (first
        | (go_at_call 8; ((with_reducible refine (hm5 _ (hv.below hBc)).mono ?_); rintro e W3 ⟨A3, c3, rfl, e1, e2, hV3, hB3⟩; have hBd := hBc.trans (hB3.mono hBc.size))))
      go_loopw [82] (fun i wr => ∃ k : Nat, k ≤ Z ∧ i = .int .i64 (k : Nat) ∧ Below W3.heap.size W3 wr) (fun i _ => Z - (intOf i).toNat)
      case atStart => exact ⟨0, by omega, rfl, Below.refl _ _⟩
      case round =>
        obtain ⟨k, hk, rfl, hB⟩ := hrel
        by_cases hkZ : k < Z
        · have hck := hcut wr A3 k c3 hkZ ((hV3.take k (by omega)).below hB) (by omega) e2
          have hk0 : (0 : Int) ≤ (k : Int) ∧ (k : Int) ≤ (c3 : Int) := by omega
          clear hcut hfull hm5
          go_wp2_with (go_at_call 12; ((with_reducible refine hck.mono ?_); rintro e W4 ⟨⟨A4, m4, c4, rfl⟩, hB4⟩; have hBe := hB.trans (hB4.mono hB.size)))
          go_roundw
          case rel => exact ⟨k + 1, by omega, by go_num, hBe.alloc hBe.size _⟩
          case measure => simp [intOf]; omega
        · have hkZ2 : k = Z := by omega
          subst hkZ2
          have hO0 := own_empty wr 5
          have hBa := (Below.refl wr.heap.size wr).alloc (Nat.le_refl _) (.cells #[] 5)
          have hBwr := hBd.trans (hB.mono hBd.size)
          have hVw : Vals (wr.alloc (.cells #[] 5)) A3 k F := (hV3.below hB).alloc _
          have hF3 := hFc.below hB3 hFc.lt
          have hF4 := hF3.below hB hF3.lt
          have hlv := hr.len_
          clear hcut hm5 hkZ hF3 hFc
          go_wp2_with (first
            | (at_builtin; refine wpList_append_vals rfl (.tmp 101) (.tmp 102) _ rfl wr.heap.size 5 1 (by omega) Try.underlying24 HInfo.out (.slice (some ⟨wr.heap.size, 0, none⟩) 0 0) 0 ([] : List Nat) rfl (by exact hO0) A3 k c3 F rfl (by exact hVw) (by omega) (by simp) ?_; intro v1 W6 hO6 hg6 hat6; have hK6 := Kept.of_grown hg6; have hB6 := below_kept hBa hK6 hBa.size (own_in hO0); have hBw6 := hBwr.trans (hB6.mono hBwr.size); rw [List.nil_append, Nat.zero_add] at hO6)
            | (at_builtin; refine wpList_append_vals rfl (.tmp 103) (.tmp 104) _ rfl wr.heap.size 5 1 (by omega) Try.underlying24 HInfo.out v1 k F rfl (by exact hO6) a2 len2 cap2 r rfl (by exact (hr.below hBw6)) (by omega) (by exact hB6.size) ?_; intro v2 W7 hO7 hg7 hat7; have hK7 := Kept.of_grown hg7; have hB7 := below_kept hB6 hK7 hB6.size (own_in hO6); have hBw7 := hBwr.trans (hB7.mono hBwr.size); obtain ⟨A9, c9, rfl, g1, g2, hV9, _⟩ := Vals.own hO7; have hF7 := hF4.below hB7 hF4.lt)
            | (go_at_call 12; ((with_reducible refine (hfull _ A9 (k + len2) c9 hV9 g1 g2 (by omega)).mono ?_); rintro e W8 ⟨A10, c10, rfl, hV10, hfar, hB10⟩; have hF8 := hF7.below hB10 hF7.lt; obtain ⟨m0, m1, mf0, mf1⟩ := hF8.two; obtain ⟨p0, p1, _, _⟩ := (hF8.put2 (.int .u8 q) (.slice A10 len1 c10)).two; have hBw9 := below_put2 (hBw7.trans (hB10.mono hBw7.size)) hFw (.int .u8 q) (.slice A10 len1 c10); have hKp := ((Kept.refl [Fb] W8).setCell (p := ⟨Fb, 0, none⟩) (.inl (by simp)) (.int .u8 q)).setCell (p := ⟨Fb, 1, none⟩) (.inl (by simp)) (.slice A10 len1 c10); have hVp := hV10.kept hKp (fun _ x hx => by have h8 := hfar x hx; have h9 := hF7.lt; simp; omega); have hsame := same_any q q A10 len1 c10 ys a1 len1 cap1 ys _ hVp (hv.below hBw9) (by omega) (by omega); rw [decide_eq_true ⟨rfl, rfl⟩] at hsame))
            | (go_at_call 14; ((with_reducible refine hsame.mono ?_); rintro e W11 ⟨rfl, hB11⟩; have hBwz := hBw9.trans (hB11.mono hBw9.size)))
            | (go_at_call 7; ((with_reducible refine (live_ok _).mono ?_); rintro e W5 ⟨rfl, hB5⟩)))
          go_ret
          exact ⟨rfl, hBwz.trans (hB5.mono hBwz.size)⟩

theorem own : ownKnob Try.prog.godebug = none := by kernel_rfl
theorem laidOut : laidOutB Try.prog = true := by kernel_rfl

/-! ### The row's step -/
set_option maxRecDepth 100000 in
theorem lifted (os : Os) (started : os.Started) (H : Type) (enc : TypeId × Value → H) :
    ReturnsInHanded {} Try.checked os 5 .any (Rows.frameBackSpec.pre6 enc Try.prog Try.f5 Rows.frameBackRow.domain false) (Rows.frameBackSpec.post enc Try.prog Try.f5 false true false false) := by
  refine returnsInHanded_of_change (C := Try.checked) own started (by kernel_rfl) Try.func5
    (ChangeSpec.witness6 (enc := enc) (C := Try.checked) false ⟨#[], #[.int .u8 0, .slice none 0 0, .slice none 0 0], []⟩ 8 (by kernel_rfl) (by kernel_rfl) (by kernel_rfl) (by kernel_rfl)) ?_
  intro W base args ds gs before hval0 hW hcnd _
  have hval : ∀ (j : Nat) t v, Try.f5.params[j]? = some t → args[j]? = some v → Value.okWide Try.prog W .any base t v := hval0
  have hW' := hW
  obtain ⟨p, q, hA0, hV, rfl, hfz, hnd⟩ := hW
  have hA : DataW.TrodAll enc Try.prog W 0 (fun _ => true) true Try.f5.params.toList args.toList ds p := hA0
  rw [Try.params5] at hA hval
  obtain ⟨v0, vs0, d0, ds0, p0, q0, hargs, rfl, rfl, h0, r0⟩ := trodAll_cons hA
  obtain ⟨v1, vs1, d1, ds1, p1, q1, rfl, rfl, rfl, h1, r1⟩ := trodAll_cons r0
  obtain ⟨v2, vs2, d2, ds2, p2, q2, rfl, rfl, rfl, h2, r2⟩ := trodAll_cons r1
  obtain ⟨rfl, rfl, rfl⟩ := trodAll_nil r2
  obtain rfl : args = #[v0, v1, v2] := by cases args; simp_all
  obtain ⟨rfl, rfl⟩ := trodVars_none hV
  obtain ⟨a0, rfl, rfl, rfl, w0⟩ := open_int Try.underlying5 (hval 0 5 v0 rfl rfl) h0
  obtain ⟨a1, len1, cap1, rfl⟩ := okWide_slice Try.underlying22 (hval 1 22 v1 rfl rfl)
  have k1 := h1
  have lt1 : ∀ x ∈ p1, x.block < W.heap.size := by obtain ⟨m, hm⟩ := k1; exact DataW.trod_lt m _ _ _ hm
  obtain ⟨z1, w1⟩ : ∃ zs, IsSamps W a1 len1 cap1 zs := by
    obtain ⟨fuel, hf⟩ := h1
    exact samps_of (by simpa [Value.cells] using hf)
  obtain ⟨a2, len2, cap2, rfl⟩ := okWide_slice Try.underlying24 (hval 2 24 v2 rfl rfl)
  have k2 := h2
  have lt2 : ∀ x ∈ p2, x.block < W.heap.size := by obtain ⟨m, hm⟩ := k2; exact DataW.trod_lt m _ _ _ hm
  obtain ⟨z2, w2⟩ : ∃ zs, IsRow .u8 W a2 len2 cap2 zs := by
    obtain ⟨fuel, hf⟩ := h2
    rcases open_ints Try.underlying24 Try.underlying5 (by kernel_rfl) hf with ⟨hcs, _⟩ | ⟨x, l, c, zs, hcs, hx, hl, hm, hz, _, hcell, hwz⟩
    · simp [Value.cells] at hcs
      obtain ⟨rfl, rfl, rfl⟩ := hcs
      exact ⟨[], .inl ⟨rfl, rfl, rfl, rfl⟩⟩
    · simp [Value.cells] at hcs
      obtain ⟨rfl, rfl, rfl⟩ := hcs
      exact ⟨zs, isRow_some hl hm (by simpa using hz) hcell hwz⟩
  clear hA0 hval0
  refine (walk a0 a1 len1 cap1 z1 a2 len2 cap2 z2 W w0 w1 w2).mono fun e W' ⟨he, bel⟩ => ?_
  subst he
  exact ⟨_, rfl, _, _, _, [], _, [], hW', trodAll_mk1 (shut_bool Try.underlying4 _), (trodAll_cons_mk (shut_int Try.underlying5 w0) (trodAll_cons_mk (Below.trod laidOut (by kernel_rfl) (of_decide_eq_true (by kernel_rfl)) k1 bel lt1) (trodAll_cons_mk (Below.trod laidOut (by kernel_rfl) (of_decide_eq_true (by kernel_rfl)) k2 bel lt2) trodAll_mk0))), rfl, bel.frame _, fun h => by cases h⟩

theorem over : Rows.frameBackRow.holds Try.pinned (OpenSpec.ofChange Rows.frameBackSpec) :=
  OpenClaim.holds_of_wide 5 Try.f5 rfl rfl rfl rfl rfl rfl rfl ⟨rfl, rfl, rfl, rfl, rfl⟩ rfl rfl rfl rfl rfl (by kernel_rfl) Try.func5 (by kernel_rfl)
    (of_decide_eq_true (by kernel_rfl)) (by unfold Func.isWrapper; first | (rw [if_pos (by decide +kernel)]; kernel_rfl) | (rw [if_neg (by decide +kernel)]; exact ⟨rfl, rfl⟩))
    (fun os started H enc _ => lifted os started H enc)

theorem proved : Rows.FrameBackSaid := over
#print axioms proved
end Go.Proofs.Ytokgcbdpmbjagaa.frameBack
