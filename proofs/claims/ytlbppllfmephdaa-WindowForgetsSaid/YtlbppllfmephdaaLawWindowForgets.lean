/- Whatever values come in, ahead and behind, WindowForgets answers true, and writes nothing that was there. -/
import Derived.Test.YtlbppllfmephdaaRows
import Derived.ShutString
import Derived.ChangeOld
import Derived.Below
import Derived.Test.YtlbppllfmephdaaLawKit
import Derived.Test.YtlbppllfmephdaaWinLive
set_option linter.unusedSimpArgs false
set_option linter.unusedVariables false
namespace Go.Proofs.Ytlbppllfmephdaa.windowForgets
open Go.ChangeShapes Go.WideShapes Go.ChangeAt Go.RowKit
open Go.ChangeMaps (open_string shut_string)
open RI64 Win
theorem outs_drop (F : List Int → Int) (h ys : List Int) (k : Nat) : (outsT F h ys).drop k = outsT F ((ys.take k).reverse ++ h) (ys.drop k) := by
  induction k generalizing h ys with
  | zero => simp
  | succ k ih =>
    cases ys with
    | nil => simp [outsT]
    | cons y ys => simp [outsT, ih]
theorem outs_alike (ys : List Int) : ∀ (l h k : List Int), 29 ≤ l.length → outsT winT (l ++ h) ys = outsT winT (l ++ k) ys := by
  induction ys with
  | nil => intro l h k hl; rfl
  | cons y ys ih =>
    intro l h k hl
    have h1 := win_forgets (y :: l) h k (by simp; omega)
    have h2 := ih (y :: l) h k (by simp; omega)
    simp only [List.cons_append] at h1 h2
    simp only [outsT, h1, h2]
theorem outs_forget (h k ys : List Int) (hy : 29 ≤ ys.length) : (outsT winT h ys).drop 29 = (outsT winT k ys).drop 29 := by
  rw [outs_drop, outs_drop]
  exact outs_alike _ _ _ _ (by rw [List.length_reverse, List.length_take]; omega)
set_option maxRecDepth 100000 in
set_option maxHeartbeats 2000000 in
theorem walk (a0 : Option Addr) (len0 cap0 : Nat) (z0 : List Int) (a1 : Option Addr) (len1 cap1 : Nat) (z1 : List Int) (a2 : Option Addr) (len2 cap2 : Nat) (z2 : List Int) (w : World) (w0 : IsRow .i64 w a0 len0 cap0 z0) (w1 : IsRow .i64 w a1 len1 cap1 z1) (w2 : IsRow .i64 w a2 len2 cap2 z2) :
    Calls Try.prog 5 #[.slice a0 len0 cap0, .slice a1 len1 cap1, .slice a2 len2 cap2] w fun e w' => e = .returned (.bool true) ∧ Below w.heap.size w w' := by
  obtain ⟨p0, hp⟩ : ∃ p, min len0 120 = p := ⟨_, rfl⟩
  have hp01 : p0 ≤ len0 := by omega
  have hp02 : p0 ≤ 120 := by omega
  have hminA : (if (120 : Int) < (len0 : Int) then (120 : Int) else (len0 : Int)) = (p0 : Int) := by split <;> omega
  clear hp
  obtain ⟨p1, hp⟩ : ∃ p, min len1 120 = p := ⟨_, rfl⟩
  have hp11 : p1 ≤ len1 := by omega
  have hp12 : p1 ≤ 120 := by omega
  have hminB : (if (120 : Int) < (len1 : Int) then (120 : Int) else (len1 : Int)) = (p1 : Int) := by split <;> omega
  clear hp
  obtain ⟨p2, hp⟩ : ∃ p, min len2 120 = p := ⟨_, rfl⟩
  have hp21 : p2 ≤ len2 := by omega
  have hp22 : p2 ≤ 120 := by omega
  have hminC : (if (120 : Int) < (len2 : Int) then (120 : Int) else (len2 : Int)) = (p2 : Int) := by split <;> omega
  obtain ⟨hV0, hc01, hc02, hltb0⟩ := row_vals w0 p0 hp01
  obtain ⟨hV1, hc11, hc12, hltb1⟩ := row_vals w1 p1 hp11
  obtain ⟨hV2, hc21, hc22, hltb2⟩ := row_vals w2 p2 hp21
  clear w0 w1 w2
  generalize z0.take p0 = y0 at *
  generalize z1.take p1 = y1 at *
  generalize z2.take p2 = y2 at *
  have hp03 : p0 ≤ cap0 := by omega
  have hp13 : p1 ≤ cap1 := by omega
  have hp23 : p2 ≤ cap2 := by omega
  by_cases hfew : len2 < 29
  · have hfewz : (len2 : Int) < 29 := by omega
    clear hp
    go_enter Try.func5, Try.ntmps5
    go_wp2_with (go_at_call 13; ((with_reducible refine (live_k _).mono ?_); rintro e W9 ⟨rfl, hN⟩))
    go_ret
    exact ⟨rfl, hN⟩
  have hfewz : ¬ (len2 : Int) < 29 := by omega
  have hp24 : 29 ≤ p2 := by omega
  clear hp
  have hnew := fun W => new_any W
  unfold NewIs at hnew
  have hl2 := hV2.len_
  go_enter Try.func5, Try.ntmps5
  go_wp2_with (first
    | (go_at_call 6; ((with_reducible refine (hnew w).mono ?_); rintro e W1 ⟨bx, Sx, rfl, hFx, hSx, hC1⟩; have hltx := kit.lt hFx))
    | (go_at_call 6; ((with_reducible refine (hnew W1).mono ?_); rintro e W2 ⟨bY, SY, rfl, hFy, hSy, hB2⟩; have hFx2 := kit.below hFx hB2; have hC2 := hC1.trans (hB2.mono hC1.size); have hlty := kit.lt hFy; have hz1 := hC1.size; have hdis : ∀ k ∈ Sx, k ∉ SY := (fun k hk hm => by have h1 := hSy k hm; have h2 := hltx k hk; omega); have hSyw : ∀ k ∈ SY, w.heap.size ≤ k := (fun k hk => Nat.le_trans hz1 (hSy k hk)); have hbl := kit.block_any bx Sx [] a0 p0 cap0 y0 W2 hFx2 (hV0.below hC2) (by omega) hp03 hc02 (fun h0 x hx hm => by have h1 := hltb0 x h0 hx; have h2 := hSx _ hm; omega)))
    | (go_at_call 9; ((with_reducible refine hbl.mono ?_); rintro e W3 ⟨B3, d3, rfl, _, _, _, _, hFx3, hK3⟩; have hC3 := below_kept hC2 hK3 hC2.size hSx; have hFy3 := kit.kept hFy hK3 (fun k hk hm => hdis k hm hk); have hbl4 := kit.block_any bY SY [] a1 p1 cap1 y1 W3 hFy3 (hV1.below hC3) (by omega) hp13 hc12 (fun h0 x hx hm => by have h1 := hltb1 x h0 hx; have h2 := hSyw _ hm; omega)))
    | (go_at_call 9; ((with_reducible refine hbl4.mono ?_); rintro e W4 ⟨B4, d4, rfl, _, _, _, _, hFy4, hK4⟩; have hC4 := below_kept hC3 hK4 hC3.size hSyw; have hFx4 := kit.kept hFx3 hK4 hdis; have hbl5 := kit.block_any bx Sx _ a2 p2 cap2 y2 W4 hFx4 (hV2.below hC4) (by omega) hp23 hc22 (fun h0 x hx hm => by have h1 := hltb2 x h0 hx; have h2 := hSx _ hm; omega)))
    | (go_at_call 9; ((with_reducible refine hbl5.mono ?_); rintro e W5 ⟨B5, d5, rfl, hd51, hd52, hV5, hf5, hFx5, hK5⟩; have hC5 := below_kept hC4 hK5 hC4.size hSx; have hFy5 := kit.kept hFy4 hK5 (fun k hk hm => hdis k hm hk); have hbl6 := kit.block_any bY SY _ a2 p2 cap2 y2 W5 hFy5 (hV2.below hC5) (by omega) hp23 hc22 (fun h0 x hx hm => by have h1 := hltb2 x h0 hx; have h2 := hSyw _ hm; omega)))
    | (go_at_call 9; ((with_reducible refine hbl6.mono ?_); rintro e W6 ⟨B6, d6, rfl, hd61, hd62, hV6, hf6, hFy6, hK6⟩; have hC6 := below_kept hC5 hK6 hC5.size hSyw; have hlt5 := kit.lt hFy5)))
  rw [hl2] at hV5 hV6 hd51 hd61
  have hs34 := hK3.size
  have hs45 := hK4.size
  have hVa := vals_dropIf (hV5.kept hK6 (fun _ x hx hm => by have h1 := hf5 x hx; have h2 := hlty _ hm; omega)) 29 hp24 hd51
  have hVb := vals_dropIf hV6 29 hp24 hd61
  rw [← outs_forget (y0.reverse ++ []) (y1.reverse ++ []) y2 (by omega)] at hVb
  replace hVa : Vals W6 (if d5 = 29 then B5 else B5.map (fun x => ⟨x.block, x.off + 29, none⟩)) (p2 - 29) ((outsT winT (y0.reverse ++ []) y2).drop 29) := hVa
  replace hVb : Vals W6 (if d6 = 29 then B6 else B6.map (fun x => ⟨x.block, x.off + 29, none⟩)) (p2 - 29) ((outsT winT (y0.reverse ++ []) y2).drop 29) := hVb
  have hp25 : (29 : Int) ≤ (p2 : Int) := by omega
  clear hbl hbl4 hbl5 hbl6 hnew hV5 hV6 hminA hminB hminC hV0 hV1 hV2
  refine Reg.begin_ (S := fun _ => True) (by kernel_rfl) trivial (fun hHeld => ?_)
  refine Reg.take (i := 0) (v := ?v1) rfl (by kernel_rfl) (by kernel_rfl) (by kernel_rfl) (by rfl) ?hv1 (by assumption) ?rest1
  case hv1 => first | (intro w hSw; (try dsimp only at hSw); go_simp; done) | (intro w hSw; (try dsimp only at hSw); go_simp; with_reducible rfl)
  (try simp only [Act.put, List.setIfInBounds_toArray, List.set_cons_zero, List.set_cons_succ])
  refine Reg.take (i := 1) (v := ?v2) rfl (by kernel_rfl) (by kernel_rfl) (by kernel_rfl) (by rfl) ?hv2 (by assumption) ?rest2
  case hv2 => first | (intro w hSw; (try dsimp only at hSw); go_simp; done) | (intro w hSw; (try dsimp only at hSw); go_simp; with_reducible rfl)
  (try simp only [Act.put, List.setIfInBounds_toArray, List.set_cons_zero, List.set_cons_succ])
  refine Reg.take (i := 2) (v := ?v3) rfl (by kernel_rfl) (by kernel_rfl) (by kernel_rfl) (by rfl) ?hv3 (by assumption) ?rest3
  case hv3 => first | (intro w hSw; (try dsimp only at hSw); go_simp; done) | (intro w hSw; (try dsimp only at hSw); go_simp; with_reducible rfl)
  (try simp only [Act.put, List.setIfInBounds_toArray, List.set_cons_zero, List.set_cons_succ])
  refine Reg.take (i := 3) (v := ?v4) rfl (by kernel_rfl) (by kernel_rfl) (by kernel_rfl) (by rfl) ?hv4 (by assumption) ?rest4
  case hv4 => first | (intro w hSw; (try dsimp only at hSw); go_simp; done) | (intro w hSw; (try dsimp only at hSw); go_simp; with_reducible rfl)
  (try simp only [Act.put, List.setIfInBounds_toArray, List.set_cons_zero, List.set_cons_succ])
  refine Reg.take (i := 4) (v := ?v5) rfl (by kernel_rfl) (by kernel_rfl) (by kernel_rfl) (by rfl) ?hv5 (by assumption) ?rest5
  case hv5 => first | (intro w hSw; (try dsimp only at hSw); go_simp; done) | (intro w hSw; (try dsimp only at hSw); go_simp; with_reducible rfl)
  (try simp only [Act.put, List.setIfInBounds_toArray, List.set_cons_zero, List.set_cons_succ])
  refine Reg.take (i := 5) (v := ?v6) rfl (by kernel_rfl) (by kernel_rfl) (by kernel_rfl) (by rfl) ?hv6 (by assumption) ?rest6
  case hv6 => first | (intro w hSw; (try dsimp only at hSw); go_simp; done) | (intro w hSw; (try dsimp only at hSw); go_simp; with_reducible rfl)
  (try simp only [Act.put, List.setIfInBounds_toArray, List.set_cons_zero, List.set_cons_succ])
  refine Reg.take (i := 6) (v := ?v7) rfl (by kernel_rfl) (by kernel_rfl) (by kernel_rfl) (by rfl) ?hv7 (by assumption) ?rest7
  case hv7 => first | (intro w hSw; (try dsimp only at hSw); go_simp; done) | (intro w hSw; (try dsimp only at hSw); go_simp; with_reducible rfl)
  (try simp only [Act.put, List.setIfInBounds_toArray, List.set_cons_zero, List.set_cons_succ])
  refine Reg.take (i := 7) (v := ?v8) rfl (by kernel_rfl) (by kernel_rfl) (by kernel_rfl) (by rfl) ?hv8 (by assumption) ?rest8
  case hv8 => first | (intro w hSw; (try dsimp only at hSw); go_simp; done) | (intro w hSw; (try dsimp only at hSw); go_simp; with_reducible rfl)
  (try simp only [Act.put, List.setIfInBounds_toArray, List.set_cons_zero, List.set_cons_succ])
  refine Reg.take (i := 8) (v := ?v9) rfl (by kernel_rfl) (by kernel_rfl) (by kernel_rfl) (by rfl) ?hv9 (by assumption) ?rest9
  case hv9 => first | (intro w hSw; (try dsimp only at hSw); go_simp; done) | (intro w hSw; (try dsimp only at hSw); go_simp; with_reducible rfl)
  (try simp only [Act.put, List.setIfInBounds_toArray, List.set_cons_zero, List.set_cons_succ])
  refine Reg.take (i := 9) (v := ?v10) rfl (by kernel_rfl) (by kernel_rfl) (by kernel_rfl) (by rfl) ?hv10 (by assumption) ?rest10
  case hv10 => first | (intro w hSw; (try dsimp only at hSw); go_simp; done) | (intro w hSw; (try dsimp only at hSw); go_simp; with_reducible rfl)
  (try simp only [Act.put, List.setIfInBounds_toArray, List.set_cons_zero, List.set_cons_succ])
  refine Reg.take (i := 10) (v := ?v11) rfl (by kernel_rfl) (by kernel_rfl) (by kernel_rfl) (by rfl) ?hv11 (by assumption) ?rest11
  case hv11 => first | (intro w hSw; (try dsimp only at hSw); go_simp; done) | (intro w hSw; (try dsimp only at hSw); go_simp; with_reducible rfl)
  (try simp only [Act.put, List.setIfInBounds_toArray, List.set_cons_zero, List.set_cons_succ])
  refine Reg.take (i := 11) (v := ?v12) rfl (by kernel_rfl) (by kernel_rfl) (by kernel_rfl) (by rfl) ?hv12 (by assumption) ?rest12
  case hv12 => first | (intro w hSw; (try dsimp only at hSw); go_simp; done) | (intro w hSw; (try dsimp only at hSw); go_simp; with_reducible rfl)
  (try simp only [Act.put, List.setIfInBounds_toArray, List.set_cons_zero, List.set_cons_succ])
  refine Reg.take (i := 12) (v := ?v13) rfl (by kernel_rfl) (by kernel_rfl) (by kernel_rfl) (by rfl) ?hv13 (by assumption) ?rest13
  case hv13 => first | (intro w hSw; (try dsimp only at hSw); go_simp; done) | (intro w hSw; (try dsimp only at hSw); go_simp; with_reducible rfl)
  (try simp only [Act.put, List.setIfInBounds_toArray, List.set_cons_zero, List.set_cons_succ])
  refine Reg.take (i := 13) (v := ?v14) rfl (by kernel_rfl) (by kernel_rfl) (by kernel_rfl) (by rfl) ?hv14 (by assumption) ?rest14
  case hv14 => first | (intro w hSw; (try dsimp only at hSw); go_simp; done) | (intro w hSw; (try dsimp only at hSw); go_simp; with_reducible rfl)
  (try simp only [Act.put, List.setIfInBounds_toArray, List.set_cons_zero, List.set_cons_succ])
  refine Reg.take (i := 14) (v := ?v15) rfl (by kernel_rfl) (by kernel_rfl) (by kernel_rfl) (by rfl) ?hv15 (by assumption) ?rest15
  case hv15 => first | (intro w hSw; (try dsimp only at hSw); go_simp; done) | (intro w hSw; (try dsimp only at hSw); go_simp; with_reducible rfl)
  (try simp only [Act.put, List.setIfInBounds_toArray, List.set_cons_zero, List.set_cons_succ])
  refine Reg.take (i := 15) (v := ?v16) rfl (by kernel_rfl) (by kernel_rfl) (by kernel_rfl) (by rfl) ?hv16 (by assumption) ?rest16
  case hv16 => first | (intro w hSw; (try dsimp only at hSw); go_simp; done) | (intro w hSw; (try dsimp only at hSw); go_simp; with_reducible rfl)
  (try simp only [Act.put, List.setIfInBounds_toArray, List.set_cons_zero, List.set_cons_succ])
  refine Reg.take (i := 16) (v := ?v17) rfl (by kernel_rfl) (by kernel_rfl) (by kernel_rfl) (by rfl) ?hv17 (by assumption) ?rest17
  case hv17 => first | (intro w hSw; (try dsimp only at hSw); go_simp; done) | (intro w hSw; (try dsimp only at hSw); go_simp; with_reducible rfl)
  (try simp only [Act.put, List.setIfInBounds_toArray, List.set_cons_zero, List.set_cons_succ])
  refine Reg.call (i := 17) rfl (by kernel_rfl) (by rfl) ?_
  intro K1 hK1
  go_simp
  go_at_call 8
  (with_reducible refine (same_yes _ _ (p2 - 29) (d5 - 29) (d6 - 29) _ W6.drew (hVa.same rfl) (hVb.same rfl) (by omega)).mono ?_)
  rintro e W7 ⟨rfl, z7, rfl⟩
  have hC7 : Below w.heap.size w (W6.drewN (1 + z7)) := below_drewN hC6 (1 + z7)
  refine hK1.out _ _ trivial (fun hHeld => ?_)
  clear hK1 K1
  (try simp only [Act.put, List.setIfInBounds_toArray, List.set_cons_zero, List.set_cons_succ])
  refine Reg.take (i := 18) (v := ?v18) rfl (by kernel_rfl) (by kernel_rfl) (by kernel_rfl) (by rfl) ?hv18 (by assumption) ?rest18
  case hv18 => first | (intro w hSw; (try dsimp only at hSw); go_simp; done) | (intro w hSw; (try dsimp only at hSw); go_simp; with_reducible rfl)
  (try simp only [Act.put, List.setIfInBounds_toArray, List.set_cons_zero, List.set_cons_succ])
  refine Reg.take (i := 19) (v := ?v19) rfl (by kernel_rfl) (by kernel_rfl) (by kernel_rfl) (by rfl) ?hv19 (by assumption) ?rest19
  case hv19 => first | (intro w hSw; (try dsimp only at hSw); go_simp; done) | (intro w hSw; (try dsimp only at hSw); go_simp; with_reducible rfl)
  (try simp only [Act.put, List.setIfInBounds_toArray, List.set_cons_zero, List.set_cons_succ])
  refine Reg.call (i := 20) rfl (by kernel_rfl) (by rfl) ?_
  intro K1 hK1
  go_simp
  go_at_call 13
  (with_reducible refine (live_k _).mono ?_)
  rintro e W8 ⟨rfl, hB8⟩
  have hC8 := hC7.trans (hB8.mono hC7.size)
  refine hK1.out _ _ trivial (fun hHeld => ?_)
  clear hK1 K1
  (try simp only [Act.put, List.setIfInBounds_toArray, List.set_cons_zero, List.set_cons_succ])
  refine Reg.take (i := 21) (v := ?v20) rfl (by kernel_rfl) (by kernel_rfl) (by kernel_rfl) (by rfl) ?hv20 (by assumption) ?rest20
  case hv20 => first | (intro w hSw; (try dsimp only at hSw); go_simp; done) | (intro w hSw; (try dsimp only at hSw); go_simp; with_reducible rfl)
  (try simp only [Act.put, List.setIfInBounds_toArray, List.set_cons_zero, List.set_cons_succ])
  refine Reg.take (i := 22) (v := ?v21) rfl (by kernel_rfl) (by kernel_rfl) (by kernel_rfl) (by rfl) ?hv21 (by assumption) ?rest21
  case hv21 => first | (intro w hSw; (try dsimp only at hSw); go_simp; done) | (intro w hSw; (try dsimp only at hSw); go_simp; with_reducible rfl)
  (try simp only [Act.put, List.setIfInBounds_toArray, List.set_cons_zero, List.set_cons_succ])
  refine Reg.done (by kernel_rfl) ?_ _
  go_wp2
  all_goals
    go_ret
    exact ⟨rfl, hC8⟩

theorem own : ownKnob Try.prog.godebug = none := by kernel_rfl
theorem laidOut : laidOutB Try.prog = true := by kernel_rfl

/-! ### The row's step -/
set_option maxRecDepth 100000 in
theorem lifted (os : Os) (started : os.Started) (H : Type) (enc : TypeId × Value → H) :
    ReturnsInHanded {} Try.checked os 5 .any (Rows.windowForgetsSpec.pre6 enc Try.prog Try.f5 Rows.windowForgetsRow.domain false) (Rows.windowForgetsSpec.post enc Try.prog Try.f5 false true false false) := by
  refine returnsInHanded_of_change (C := Try.checked) own started (by kernel_rfl) Try.func5
    (ChangeSpec.witness6 (enc := enc) (C := Try.checked) false ⟨#[], #[.slice none 0 0, .slice none 0 0, .slice none 0 0], []⟩ 8 (by kernel_rfl) (by kernel_rfl) (by kernel_rfl) (by kernel_rfl)) ?_
  intro W base args ds gs before hval0 hW hcnd _
  have hval : ∀ (j : Nat) t v, Try.f5.params[j]? = some t → args[j]? = some v → Value.okWide Try.prog W .any base t v := hval0
  have hW' := hW
  obtain ⟨p, q, hA0, hV, rfl, hfz, hnd⟩ := hW
  have hA : DataW.TrodAll enc Try.prog W 0 (fun _ => true) true Try.f5.params.toList args.toList ds p := hA0
  rw [Try.params5] at hA hval
  obtain ⟨v0, vs0, d0, ds0, p0, q0, hargs, rfl, rfl, h0, r0⟩ := trodAll_cons hA
  obtain ⟨v1, vs1, d1, ds1, p1, q1, rfl, rfl, rfl, h1, r1⟩ := trodAll_cons r0
  obtain ⟨v2, vs2, d2, ds2, p2, q2, rfl, rfl, rfl, h2, r2⟩ := trodAll_cons r1
  obtain ⟨rfl, rfl, rfl⟩ := trodAll_nil r2
  obtain rfl : args = #[v0, v1, v2] := by cases args; simp_all
  obtain ⟨rfl, rfl⟩ := trodVars_none hV
  obtain ⟨a0, len0, cap0, rfl⟩ := okWide_slice Try.underlying22 (hval 0 22 v0 rfl rfl)
  have k0 := h0
  have lt0 : ∀ x ∈ p0, x.block < W.heap.size := by obtain ⟨m, hm⟩ := k0; exact DataW.trod_lt m _ _ _ hm
  obtain ⟨z0, w0⟩ : ∃ zs, IsRow .i64 W a0 len0 cap0 zs := by
    obtain ⟨fuel, hf⟩ := h0
    rcases open_ints Try.underlying22 Try.underlying2 (by kernel_rfl) hf with ⟨hcs, _⟩ | ⟨x, l, c, zs, hcs, hx, hl, hm, hz, _, hcell, hwz⟩
    · simp [Value.cells] at hcs
      obtain ⟨rfl, rfl, rfl⟩ := hcs
      exact ⟨[], .inl ⟨rfl, rfl, rfl, rfl⟩⟩
    · simp [Value.cells] at hcs
      obtain ⟨rfl, rfl, rfl⟩ := hcs
      exact ⟨zs, isRow_some hl hm (by simpa using hz) hcell hwz⟩
  obtain ⟨a1, len1, cap1, rfl⟩ := okWide_slice Try.underlying22 (hval 1 22 v1 rfl rfl)
  have k1 := h1
  have lt1 : ∀ x ∈ p1, x.block < W.heap.size := by obtain ⟨m, hm⟩ := k1; exact DataW.trod_lt m _ _ _ hm
  obtain ⟨z1, w1⟩ : ∃ zs, IsRow .i64 W a1 len1 cap1 zs := by
    obtain ⟨fuel, hf⟩ := h1
    rcases open_ints Try.underlying22 Try.underlying2 (by kernel_rfl) hf with ⟨hcs, _⟩ | ⟨x, l, c, zs, hcs, hx, hl, hm, hz, _, hcell, hwz⟩
    · simp [Value.cells] at hcs
      obtain ⟨rfl, rfl, rfl⟩ := hcs
      exact ⟨[], .inl ⟨rfl, rfl, rfl, rfl⟩⟩
    · simp [Value.cells] at hcs
      obtain ⟨rfl, rfl, rfl⟩ := hcs
      exact ⟨zs, isRow_some hl hm (by simpa using hz) hcell hwz⟩
  obtain ⟨a2, len2, cap2, rfl⟩ := okWide_slice Try.underlying22 (hval 2 22 v2 rfl rfl)
  have k2 := h2
  have lt2 : ∀ x ∈ p2, x.block < W.heap.size := by obtain ⟨m, hm⟩ := k2; exact DataW.trod_lt m _ _ _ hm
  obtain ⟨z2, w2⟩ : ∃ zs, IsRow .i64 W a2 len2 cap2 zs := by
    obtain ⟨fuel, hf⟩ := h2
    rcases open_ints Try.underlying22 Try.underlying2 (by kernel_rfl) hf with ⟨hcs, _⟩ | ⟨x, l, c, zs, hcs, hx, hl, hm, hz, _, hcell, hwz⟩
    · simp [Value.cells] at hcs
      obtain ⟨rfl, rfl, rfl⟩ := hcs
      exact ⟨[], .inl ⟨rfl, rfl, rfl, rfl⟩⟩
    · simp [Value.cells] at hcs
      obtain ⟨rfl, rfl, rfl⟩ := hcs
      exact ⟨zs, isRow_some hl hm (by simpa using hz) hcell hwz⟩
  clear hA0 hval0
  refine (walk a0 len0 cap0 z0 a1 len1 cap1 z1 a2 len2 cap2 z2 W w0 w1 w2).mono fun e W' ⟨he, bel⟩ => ?_
  subst he
  exact ⟨_, rfl, _, _, _, [], _, [], hW', trodAll_mk1 (shut_bool Try.underlying4 _), (trodAll_cons_mk (Below.trod laidOut (by kernel_rfl) (of_decide_eq_true (by kernel_rfl)) k0 bel lt0) (trodAll_cons_mk (Below.trod laidOut (by kernel_rfl) (of_decide_eq_true (by kernel_rfl)) k1 bel lt1) (trodAll_cons_mk (Below.trod laidOut (by kernel_rfl) (of_decide_eq_true (by kernel_rfl)) k2 bel lt2) trodAll_mk0))), rfl, bel.frame _, fun h => by cases h⟩

theorem over : Rows.windowForgetsRow.holds Try.pinned (OpenSpec.ofChange Rows.windowForgetsSpec) :=
  OpenClaim.holds_of_wide 5 Try.f5 rfl rfl rfl rfl rfl rfl rfl ⟨rfl, rfl, rfl, rfl, rfl⟩ rfl rfl rfl rfl rfl (by kernel_rfl) Try.func5 (by kernel_rfl)
    (of_decide_eq_true (by kernel_rfl)) (by unfold Func.isWrapper; first | (rw [if_pos (by decide +kernel)]; kernel_rfl) | (rw [if_neg (by decide +kernel)]; exact ⟨rfl, rfl⟩))
    (fun os started H enc _ => lifted os started H enc)

theorem proved : Rows.WindowForgetsSaid := over
#print axioms proved
end Go.Proofs.Ytlbppllfmephdaa.windowForgets
