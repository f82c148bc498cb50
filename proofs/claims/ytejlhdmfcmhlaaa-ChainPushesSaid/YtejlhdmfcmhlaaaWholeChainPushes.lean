/- Whatever mains, samples and cut come in, ChainPushes answers true, and writes nothing that was there. -/
import Derived.Test.YtejlhdmfcmhlaaaRows
import Derived.ShutString
import Derived.ChangeOld
import Derived.Below
import Derived.Test.YtejlhdmfcmhlaaaPack1
import Derived.Test.YtejlhdmfcmhlaaaPack3
import Derived.Test.YtejlhdmfcmhlaaaPack4
set_option linter.unusedSimpArgs false
set_option linter.unusedVariables false
namespace Go.Proofs.Ytejlhdmfcmhlaaa.chainPushes
open Go.ChangeShapes Go.WideShapes Go.ChangeAt Go.RowKit
open Go.ChangeMaps (open_string shut_string)
open Chain
open Notch (Known)
set_option maxRecDepth 100000 in
set_option maxHeartbeats 2000000 in
theorem walk (a0 : Int) (a1 : Option Addr) (len1 cap1 : Nat) (z1 : List Int) (a2 : Int) (w : World) (w0 : (Lit.int .i64 a0).wf = true) (w1 : IsRow .i32 w a1 len1 cap1 z1) (w2 : (Lit.int .u8 a2).wf = true) :
    Calls Try.prog 3 #[.int .i64 a0, .slice a1 len1 cap1, .int .u8 a2] w fun e w' => e = .returned (.bool true) ∧ Below w.heap.size w w' := by
  have b0 := bounds_i64 w0
  have b2 : 0 ≤ a2 ∧ a2 ≤ 255 := bounds_u8 w2
  clear w0 w2
  by_cases hbad : a0 ≠ 0 ∧ a0 ≠ 50 ∧ a0 ≠ 60
  · have hno := fun W => new_no a0 W hbad
    have hmn := fun W => refmay_no a0 W hbad
    go_enter Try.func3, Try.ntmps3
    go_wp2_with (first
      | (go_at_call 8; ((with_reducible refine (hno _).mono ?_); rintro e W1 ⟨rfl, rfl⟩))
      | (go_at_call 9; ((with_reducible refine (hmn _).mono ?_); rintro e W1b ⟨rfl, rfl⟩))
      | (go_at_call 10; ((with_reducible refine (live_k _).mono ?_); rintro e W9 ⟨rfl, hN⟩)))
    go_ret
    exact ⟨rfl, hN⟩
  obtain ⟨p, hp⟩ : ∃ p, min len1 110 = p := ⟨_, rfl⟩
  have hp1 : p ≤ len1 := by omega
  have hp2 : p ≤ 110 := by omega
  have hminA : (if (110 : Int) < (len1 : Int) then (110 : Int) else (len1 : Int)) = (p : Int) := by split <;> omega
  have hfits := row_fits w1 p
  obtain ⟨hV, hc1, hc2, hltb⟩ := RI32.row_vals w1 p hp1
  clear w1 hp
  generalize z1.take p = ys at *
  obtain ⟨c, rfl⟩ : ∃ c : Nat, a2 = (c : Int) := ⟨a2.toNat, by omega⟩
  obtain ⟨q, hq⟩ : ∃ q, min c p = q := ⟨_, rfl⟩
  have hqp : q ≤ p := by omega
  have hminB : (if (p : Int) < (c : Int) then (p : Int) else (c : Int)) = (q : Int) := by split <;> omega
  have hminC : (if p < c then (p : Int) else (c : Int)) = (q : Int) := by split <;> omega
  clear hq
  have hp3 : p ≤ cap1 := by omega
  have hq3 : q ≤ cap1 := by omega
  have hqz : (q : Int) ≤ (p : Int) ∧ (q : Int) ≤ (cap1 : Int) ∧ (0 : Int) ≤ (q : Int) := by omega
  have hlen := hV.len_
  have hV1 := hV.take q hqp
  have hV2 := Chain.vals_dropIf hV q hqp hp3
  have hl1 : (ys.take q).length = q := by rw [List.length_take]; omega
  have hl2 : (ys.drop q).length = p - q := by rw [List.length_drop]; omega
  have hfits1 : ∀ v ∈ ys.take q, -2147483648 ≤ v ∧ v ≤ 2147483647 := fun v hv => hfits v (List.mem_of_mem_take hv)
  have hfits2 : ∀ v ∈ ys.drop q, -2147483648 ≤ v ∧ v ≤ 2147483647 := fun v hv => hfits v (List.mem_of_mem_drop hv)
  have hltb2 : ∀ x, 0 < p - q → (if cap1 = q then a1 else a1.map (fun x => x.add q)) = some x → x.block < w.heap.size := fun x h0 hx => by
    rw [if_neg (by omega)] at hx
    obtain ⟨z, hz, rfl⟩ := Option.map_eq_some_iff.1 hx
    rw [block_add]
    exact hltb z (by omega) hz
  obtain ⟨m, hm, rfl⟩ : ∃ m : Nat, Known m ∧ a0 = (m : Int) := ⟨a0.toNat, by unfold Known; omega, by omega⟩
  have hnew := fun W => new_any hm W
  unfold NewIs at hnew
  have hbs := fun W b S hF => base_any (m := m) b S ((ys.take q).reverse ++ []) W hF
  rcases Nat.eq_zero_or_pos q with hq0 | hq0
  · have hbase : ∀ W b S, Fil m W b S ((ys.take q).reverse ++ []) → Calls Try.prog 14 #[.pointer (some ⟨b, 0, none⟩)] W fun e w' => e = .returned (.tuple #[.int .i32 0, .bool false]) ∧ ∃ z, w' = W.drewN z := by
      subst hq0
      exact hbs
    have hq0z : ¬ (0 : Int) < (q : Int) := by omega
    replace hV2 : RI32.Vals w a1 p (ys.drop q) := by subst hq0; simpa using hV
    replace hl2 : (ys.drop q).length = p := by omega
    replace hltb2 : ∀ x, 0 < p → a1 = some x → x.block < w.heap.size := hltb
    generalize ys.take q = ys1 at *
    generalize ys.drop q = ys2 at *
    clear hbs hbad hlen hq0
    go_enter Try.func3, Try.ntmps3
    go_wp2_with (first
      | (go_at_call 8; ((with_reducible refine (hnew _).mono ?_); rintro e W1 ⟨bx, Sx, rfl, hF1, hS, hB1⟩))
      | (go_at_call 9; ((with_reducible refine (refmay_yes hm _).mono ?_); rintro e W1b ⟨rfl, rfl⟩)))
    have hF1d : Fil m W1.drew bx Sx [] := fil_drewN hF1 1
    have hB1d : Below w.heap.size w W1.drew := below_drewN hB1 1
    have hbl := block_any bx Sx [] a1 q cap1 ys1 _ hF1d (hV1.below hB1d) hfits1 (by omega) hq3 hc2 (fun h0 x hx hmm => by have h1 := hltb x (by omega) hx; have h2 := hS _ hmm; omega)
    unfold WavesIs at hbl
    rw [hl1] at hbl
    refine Reg.begin_ (S := fun _ => True) (by kernel_rfl) trivial (fun hHeld => ?_)
    refine Reg.take (i := 0) (v := ?v1) rfl (by kernel_rfl) (by kernel_rfl) (by kernel_rfl) (by rfl) ?hv1 (by assumption) ?rest1
    case hv1 => first | (intro w hSw; (try dsimp only at hSw); go_simp; done) | (intro w hSw; (try dsimp only at hSw); go_simp; with_reducible rfl)
    (try simp only [Act.put, List.setIfInBounds_toArray, List.set_cons_zero, List.set_cons_succ])
    refine Reg.take (i := 1) (v := ?v2) rfl (by kernel_rfl) (by kernel_rfl) (by kernel_rfl) (by rfl) ?hv2 (by assumption) ?rest2
    case hv2 => first | (intro w hSw; (try dsimp only at hSw); go_simp; done) | (intro w hSw; (try dsimp only at hSw); go_simp; with_reducible rfl)
    (try simp only [Act.put, List.setIfInBounds_toArray, List.set_cons_zero, List.set_cons_succ])
    refine Reg.take (i := 2) (v := ?v3) rfl (by kernel_rfl) (by kernel_rfl) (by kernel_rfl) (by rfl) ?hv3 (by assumption) ?rest3
    case hv3 => first | (intro w hSw; (try dsimp only at hSw); go_simp; done) | (intro w hSw; (try dsimp only at hSw); go_simp; with_reducible rfl)
    (try simp only [Act.put, List.setIfInBounds_toArray, List.set_cons_zero, List.set_cons_succ])
    refine Reg.take (i := 3) (v := ?v4) rfl (by kernel_rfl) (by kernel_rfl) (by kernel_rfl) (by rfl) ?hv4 (by assumption) ?rest4
    case hv4 => first | (intro w hSw; (try dsimp only at hSw); go_simp; done) | (intro w hSw; (try dsimp only at hSw); go_simp; with_reducible rfl)
    (try simp only [Act.put, List.setIfInBounds_toArray, List.set_cons_zero, List.set_cons_succ])
    refine Reg.take (i := 5) (v := ?v5) rfl (by kernel_rfl) (by kernel_rfl) (by kernel_rfl) (by rfl) ?hv5 (by assumption) ?rest5
    case hv5 => first | (intro w hSw; (try dsimp only at hSw); go_simp; done) | (intro w hSw; (try dsimp only at hSw); go_simp; with_reducible rfl)
    (try simp only [Act.put, List.setIfInBounds_toArray, List.set_cons_zero, List.set_cons_succ])
    refine Reg.take (i := 6) (v := ?v6) rfl (by kernel_rfl) (by kernel_rfl) (by kernel_rfl) (by rfl) ?hv6 (by assumption) ?rest6
    case hv6 => first | (intro w hSw; (try dsimp only at hSw); go_simp; done) | (intro w hSw; (try dsimp only at hSw); go_simp; with_reducible rfl)
    (try simp only [Act.put, List.setIfInBounds_toArray, List.set_cons_zero, List.set_cons_succ])
    refine Reg.take (i := 7) (v := ?v7) rfl (by kernel_rfl) (by kernel_rfl) (by kernel_rfl) (by rfl) ?hv7 (by assumption) ?rest7
    case hv7 => first | (intro w hSw; (try dsimp only at hSw); go_simp; done) | (intro w hSw; (try dsimp only at hSw); go_simp; with_reducible rfl)
    (try simp only [Act.put, List.setIfInBounds_toArray, List.set_cons_zero, List.set_cons_succ])
    refine Reg.take (i := 8) (v := ?v8) rfl (by kernel_rfl) (by kernel_rfl) (by kernel_rfl) (by rfl) ?hv8 (by assumption) ?rest8
    case hv8 => first | (intro w hSw; (try dsimp only at hSw); go_simp; done) | (intro w hSw; (try dsimp only at hSw); go_simp; with_reducible rfl)
    (try simp only [Act.put, List.setIfInBounds_toArray, List.set_cons_zero, List.set_cons_succ])
    refine Reg.call (i := 4) rfl (by kernel_rfl) (by rfl) ?_
    intro K1 hK1
    go_simp
    go_at_call 12
    (with_reducible refine hbl.mono ?_)
    rintro e W2 ⟨B2, d2, rfl, _, hd2, hV2b, hf2, hF2, hK2⟩
    have hC2 := below_kept hB1d hK2 hB1d.size hS
    refine hK1.out _ _ trivial (fun hHeld => ?_)
    clear hK1 K1
    (try simp only [Act.put, List.setIfInBounds_toArray, List.set_cons_zero, List.set_cons_succ])
    refine Reg.call (i := 9) rfl (by kernel_rfl) (by rfl) ?_
    intro K1 hK1
    go_simp
    go_at_call 13
    (with_reducible refine (refall_any m a1 q cap1 ys1 W2 (hV1.below hC2) (by omega) hq3 hc2).mono ?_)
    rintro e W3 ⟨B3, d3, rfl, hV3, hB3⟩
    have hC3 := hC2.trans (hB3.mono hC2.size)
    have hF3 := fil_below hF2 hB3
    refine hK1.out _ _ trivial (fun hHeld => ?_)
    clear hK1 K1
    (try simp only [Act.put, List.setIfInBounds_toArray, List.set_cons_zero, List.set_cons_succ])
    refine Reg.call (i := 10) rfl (by kernel_rfl) (by rfl) ?_
    intro K1 hK1
    go_simp
    go_at_call 11
    (with_reducible refine (same_yes B2 B3 q d2 d3 _ W3 (hV2b.below hB3) hV3 (by omega)).mono ?_)
    rintro e W4 ⟨rfl, z4, rfl⟩
    have hC4 := below_drewN hC3 z4
    have hF4 := fil_drewN hF3 z4
    refine hK1.out _ _ trivial (fun hHeld => ?_)
    clear hK1 K1
    (try simp only [Act.put, List.setIfInBounds_toArray, List.set_cons_zero, List.set_cons_succ])
    refine Reg.take (i := 11) (v := ?v9) rfl (by kernel_rfl) (by kernel_rfl) (by kernel_rfl) (by rfl) ?hv9 (by assumption) ?rest9
    case hv9 => first | (intro w hSw; (try dsimp only at hSw); go_simp; done) | (intro w hSw; (try dsimp only at hSw); go_simp; with_reducible rfl)
    (try simp only [Act.put, List.setIfInBounds_toArray, List.set_cons_zero, List.set_cons_succ])
    refine Reg.done (by kernel_rfl) ?_ _
    have hba := hbase _ bx Sx hF4
    clear hbl hF1d hF1 hF2 hF3 hV2b hV3 hB3 hK2 hf2 hC2 hC3 hB1 hB1d
    go_wp2_with (first
      | (go_at_call 14; ((with_reducible refine hba.mono ?_); rintro e W5 ⟨rfl, z5, rfl⟩; have hC5 := below_drewN hC4 z5; have hF5 := fil_drewN hF4 z5; rw [World.drewN_drewN] at hC5 hF5))
      | (go_at_call 16; ((with_reducible refine (reset_any _ _ _ _ (by exact hF5)).mono ?_); rintro e W6 ⟨rfl, hF6, hK6⟩; have hC6 := below_kept hC5 hK6 hC5.size hS)))
    have hF6d : Fil m W6.drew bx Sx [] := fil_drewN hF6 1
    have hC6d : Below w.heap.size w W6.drew := below_drewN hC6 1
    have hbl7 := block_any bx Sx [] _ p cap1 ys2 _ hF6d (hV2.below hC6d) hfits2 (by omega) (by omega) (by omega) (fun h0 x hx hmm => by have h1 := hltb2 x h0 hx; have h2 := hS _ hmm; omega)
    unfold WavesIs at hbl7
    rw [hl2] at hbl7
    refine Reg.begin_ (S := fun _ => True) (by kernel_rfl) trivial (fun hHeld => ?_)
    refine Reg.take (i := 0) (v := ?v10) rfl (by kernel_rfl) (by kernel_rfl) (by kernel_rfl) (by rfl) ?hv10 (by assumption) ?rest10
    case hv10 => first | (intro w hSw; (try dsimp only at hSw); go_simp; done) | (intro w hSw; (try dsimp only at hSw); go_simp; with_reducible rfl)
    (try simp only [Act.put, List.setIfInBounds_toArray, List.set_cons_zero, List.set_cons_succ])
    refine Reg.take (i := 1) (v := ?v11) rfl (by kernel_rfl) (by kernel_rfl) (by kernel_rfl) (by rfl) ?hv11 (by assumption) ?rest11
    case hv11 => first | (intro w hSw; (try dsimp only at hSw); go_simp; done) | (intro w hSw; (try dsimp only at hSw); go_simp; with_reducible rfl)
    (try simp only [Act.put, List.setIfInBounds_toArray, List.set_cons_zero, List.set_cons_succ])
    refine Reg.take (i := 2) (v := ?v12) rfl (by kernel_rfl) (by kernel_rfl) (by kernel_rfl) (by rfl) ?hv12 (by assumption) ?rest12
    case hv12 => first | (intro w hSw; (try dsimp only at hSw); go_simp; done) | (intro w hSw; (try dsimp only at hSw); go_simp; with_reducible rfl)
    (try simp only [Act.put, List.setIfInBounds_toArray, List.set_cons_zero, List.set_cons_succ])
    refine Reg.take (i := 3) (v := ?v13) rfl (by kernel_rfl) (by kernel_rfl) (by kernel_rfl) (by rfl) ?hv13 (by assumption) ?rest13
    case hv13 => first | (intro w hSw; (try dsimp only at hSw); go_simp; done) | (intro w hSw; (try dsimp only at hSw); go_simp; with_reducible rfl)
    (try simp only [Act.put, List.setIfInBounds_toArray, List.set_cons_zero, List.set_cons_succ])
    refine Reg.take (i := 5) (v := ?v14) rfl (by kernel_rfl) (by kernel_rfl) (by kernel_rfl) (by rfl) ?hv14 (by assumption) ?rest14
    case hv14 => first | (intro w hSw; (try dsimp only at hSw); go_simp; done) | (intro w hSw; (try dsimp only at hSw); go_simp; with_reducible rfl)
    (try simp only [Act.put, List.setIfInBounds_toArray, List.set_cons_zero, List.set_cons_succ])
    refine Reg.take (i := 6) (v := ?v15) rfl (by kernel_rfl) (by kernel_rfl) (by kernel_rfl) (by rfl) ?hv15 (by assumption) ?rest15
    case hv15 => first | (intro w hSw; (try dsimp only at hSw); go_simp; done) | (intro w hSw; (try dsimp only at hSw); go_simp; with_reducible rfl)
    (try simp only [Act.put, List.setIfInBounds_toArray, List.set_cons_zero, List.set_cons_succ])
    refine Reg.take (i := 7) (v := ?v16) rfl (by kernel_rfl) (by kernel_rfl) (by kernel_rfl) (by rfl) ?hv16 (by assumption) ?rest16
    case hv16 => first | (intro w hSw; (try dsimp only at hSw); go_simp; done) | (intro w hSw; (try dsimp only at hSw); go_simp; with_reducible rfl)
    (try simp only [Act.put, List.setIfInBounds_toArray, List.set_cons_zero, List.set_cons_succ])
    refine Reg.take (i := 8) (v := ?v17) rfl (by kernel_rfl) (by kernel_rfl) (by kernel_rfl) (by rfl) ?hv17 (by assumption) ?rest17
    case hv17 => first | (intro w hSw; (try dsimp only at hSw); go_simp; done) | (intro w hSw; (try dsimp only at hSw); go_simp; with_reducible rfl)
    (try simp only [Act.put, List.setIfInBounds_toArray, List.set_cons_zero, List.set_cons_succ])
    refine Reg.call (i := 4) rfl (by kernel_rfl) (by rfl) ?_
    intro K1 hK1
    go_simp
    go_at_call 12
    (with_reducible refine hbl7.mono ?_)
    rintro e W8 ⟨B8, d8, rfl, _, hd8, hV8, hf8, hF8, hK8⟩
    have hC8 := below_kept hC6d hK8 hC6d.size hS
    refine hK1.out _ _ trivial (fun hHeld => ?_)
    clear hK1 K1
    (try simp only [Act.put, List.setIfInBounds_toArray, List.set_cons_zero, List.set_cons_succ])
    refine Reg.call (i := 9) rfl (by kernel_rfl) (by rfl) ?_
    intro K1 hK1
    go_simp
    go_at_call 13
    (with_reducible refine (refall_any m _ p cap1 ys2 W8 (hV2.below hC8) (by omega) (by omega) (by omega)).mono ?_)
    rintro e W9 ⟨B9, d9, rfl, hV9, hB9⟩
    have hC9 := hC8.trans (hB9.mono hC8.size)
    refine hK1.out _ _ trivial (fun hHeld => ?_)
    clear hK1 K1
    (try simp only [Act.put, List.setIfInBounds_toArray, List.set_cons_zero, List.set_cons_succ])
    refine Reg.call (i := 10) rfl (by kernel_rfl) (by rfl) ?_
    intro K1 hK1
    go_simp
    go_at_call 11
    (with_reducible refine (same_yes B8 B9 p d8 d9 _ W9 (hV8.below hB9) hV9 (by omega)).mono ?_)
    rintro e W10 ⟨rfl, z10, rfl⟩
    have hC10 := below_drewN hC9 z10
    refine hK1.out _ _ trivial (fun hHeld => ?_)
    clear hK1 K1
    (try simp only [Act.put, List.setIfInBounds_toArray, List.set_cons_zero, List.set_cons_succ])
    refine Reg.take (i := 11) (v := ?v18) rfl (by kernel_rfl) (by kernel_rfl) (by kernel_rfl) (by rfl) ?hv18 (by assumption) ?rest18
    case hv18 => first | (intro w hSw; (try dsimp only at hSw); go_simp; done) | (intro w hSw; (try dsimp only at hSw); go_simp; with_reducible rfl)
    (try simp only [Act.put, List.setIfInBounds_toArray, List.set_cons_zero, List.set_cons_succ])
    refine Reg.call (i := 12) rfl (by kernel_rfl) (by rfl) ?_
    intro K1 hK1
    go_simp
    go_at_call 10
    (with_reducible refine (live_k _).mono ?_)
    rintro e W14 ⟨rfl, hB14⟩
    have hC14 := hC10.trans (hB14.mono hC10.size)
    refine hK1.out _ _ trivial (fun hHeld => ?_)
    clear hK1 K1
    (try simp only [Act.put, List.setIfInBounds_toArray, List.set_cons_zero, List.set_cons_succ])
    refine Reg.take (i := 13) (v := ?v19) rfl (by kernel_rfl) (by kernel_rfl) (by kernel_rfl) (by rfl) ?hv19 (by assumption) ?rest19
    case hv19 => first | (intro w hSw; (try dsimp only at hSw); go_simp; done) | (intro w hSw; (try dsimp only at hSw); go_simp; with_reducible rfl)
    (try simp only [Act.put, List.setIfInBounds_toArray, List.set_cons_zero, List.set_cons_succ])
    refine Reg.take (i := 14) (v := ?v20) rfl (by kernel_rfl) (by kernel_rfl) (by kernel_rfl) (by rfl) ?hv20 (by assumption) ?rest20
    case hv20 => first | (intro w hSw; (try dsimp only at hSw); go_simp; done) | (intro w hSw; (try dsimp only at hSw); go_simp; with_reducible rfl)
    (try simp only [Act.put, List.setIfInBounds_toArray, List.set_cons_zero, List.set_cons_succ])
    refine Reg.done (by kernel_rfl) ?_ _
    go_wp2
    all_goals
      go_ret
      exact ⟨rfl, hC14⟩
  · have hv0 : ys.getD 0 0 = ys.getD 0 0 := rfl
    have hb1 : baseT ((ys.take q).reverse ++ []) = near16 (ys.getD 0 0) := by
      unfold baseT
      rw [List.append_nil, List.getLast?_reverse, List.head?_take, if_neg (by omega)]
      cases ys with
      | nil => rfl
      | cons u l => rfl
    have hb2 : (!((ys.take q).reverse ++ []).isEmpty) = true := by
      rw [List.append_nil]
      cases hc : (ys.take q).reverse with
      | nil =>
        have := congrArg List.length hc
        rw [List.length_reverse, hl1] at this
        simp at this
        omega
      | cons u l => rfl
    rw [hb1, hb2] at hbs
    have hbase := hbs
    obtain ⟨x1, rfl, hcx⟩ := hV.cells (by omega)
    simp only [Option.map_some] at hV2 hltb2
    have hcx0 := hcx 0 (by omega)
    rw [show x1.add 0 = x1 by simp [Addr.add]] at hcx0
    have hnr := fun W => refnear_any (ys.getD 0 0) W
    have hnb := near16_bd (ys.getD 0 0)
    generalize near16 (ys.getD 0 0) = nv at *
    generalize ys.getD 0 0 = v0 at *
    generalize ys.take q = ys1 at *
    generalize ys.drop q = ys2 at *
    have hq0z : (0 : Int) < (q : Int) := by omega
    have hp0z : (0 : Int) < (p : Int) := by omega
    have hp0 : 0 < p := by omega
    have hwnv : IntKind.i64.wrap nv = nv := by rw [IntKind.wrap_i64]; omega
    clear hbs hb1 hb2 hcx hv0 hbad hlen
    go_enter Try.func3, Try.ntmps3
    go_wp2_with (first
      | (go_at_call 8; ((with_reducible refine (hnew _).mono ?_); rintro e W1 ⟨bx, Sx, rfl, hF1, hS, hB1⟩))
      | (go_at_call 9; ((with_reducible refine (refmay_yes hm _).mono ?_); rintro e W1b ⟨rfl, rfl⟩)))
    have hF1d : Fil m W1.drew bx Sx [] := fil_drewN hF1 1
    have hB1d : Below w.heap.size w W1.drew := below_drewN hB1 1
    have hbl := block_any bx Sx [] (some x1) q cap1 ys1 _ hF1d (hV1.below hB1d) hfits1 (by omega) hq3 hc2 (fun h0 x hx hmm => by have h1 := hltb x (by omega) hx; have h2 := hS _ hmm; omega)
    unfold WavesIs at hbl
    rw [hl1] at hbl
    refine Reg.begin_ (S := fun _ => True) (by kernel_rfl) trivial (fun hHeld => ?_)
    refine Reg.take (i := 0) (v := ?v21) rfl (by kernel_rfl) (by kernel_rfl) (by kernel_rfl) (by rfl) ?hv21 (by assumption) ?rest21
    case hv21 => first | (intro w hSw; (try dsimp only at hSw); go_simp; done) | (intro w hSw; (try dsimp only at hSw); go_simp; with_reducible rfl)
    (try simp only [Act.put, List.setIfInBounds_toArray, List.set_cons_zero, List.set_cons_succ])
    refine Reg.take (i := 1) (v := ?v22) rfl (by kernel_rfl) (by kernel_rfl) (by kernel_rfl) (by rfl) ?hv22 (by assumption) ?rest22
    case hv22 => first | (intro w hSw; (try dsimp only at hSw); go_simp; done) | (intro w hSw; (try dsimp only at hSw); go_simp; with_reducible rfl)
    (try simp only [Act.put, List.setIfInBounds_toArray, List.set_cons_zero, List.set_cons_succ])
    refine Reg.take (i := 2) (v := ?v23) rfl (by kernel_rfl) (by kernel_rfl) (by kernel_rfl) (by rfl) ?hv23 (by assumption) ?rest23
    case hv23 => first | (intro w hSw; (try dsimp only at hSw); go_simp; done) | (intro w hSw; (try dsimp only at hSw); go_simp; with_reducible rfl)
    (try simp only [Act.put, List.setIfInBounds_toArray, List.set_cons_zero, List.set_cons_succ])
    refine Reg.take (i := 3) (v := ?v24) rfl (by kernel_rfl) (by kernel_rfl) (by kernel_rfl) (by rfl) ?hv24 (by assumption) ?rest24
    case hv24 => first | (intro w hSw; (try dsimp only at hSw); go_simp; done) | (intro w hSw; (try dsimp only at hSw); go_simp; with_reducible rfl)
    (try simp only [Act.put, List.setIfInBounds_toArray, List.set_cons_zero, List.set_cons_succ])
    refine Reg.take (i := 5) (v := ?v25) rfl (by kernel_rfl) (by kernel_rfl) (by kernel_rfl) (by rfl) ?hv25 (by assumption) ?rest25
    case hv25 => first | (intro w hSw; (try dsimp only at hSw); go_simp; done) | (intro w hSw; (try dsimp only at hSw); go_simp; with_reducible rfl)
    (try simp only [Act.put, List.setIfInBounds_toArray, List.set_cons_zero, List.set_cons_succ])
    refine Reg.take (i := 6) (v := ?v26) rfl (by kernel_rfl) (by kernel_rfl) (by kernel_rfl) (by rfl) ?hv26 (by assumption) ?rest26
    case hv26 => first | (intro w hSw; (try dsimp only at hSw); go_simp; done) | (intro w hSw; (try dsimp only at hSw); go_simp; with_reducible rfl)
    (try simp only [Act.put, List.setIfInBounds_toArray, List.set_cons_zero, List.set_cons_succ])
    refine Reg.take (i := 7) (v := ?v27) rfl (by kernel_rfl) (by kernel_rfl) (by kernel_rfl) (by rfl) ?hv27 (by assumption) ?rest27
    case hv27 => first | (intro w hSw; (try dsimp only at hSw); go_simp; done) | (intro w hSw; (try dsimp only at hSw); go_simp; with_reducible rfl)
    (try simp only [Act.put, List.setIfInBounds_toArray, List.set_cons_zero, List.set_cons_succ])
    refine Reg.take (i := 8) (v := ?v28) rfl (by kernel_rfl) (by kernel_rfl) (by kernel_rfl) (by rfl) ?hv28 (by assumption) ?rest28
    case hv28 => first | (intro w hSw; (try dsimp only at hSw); go_simp; done) | (intro w hSw; (try dsimp only at hSw); go_simp; with_reducible rfl)
    (try simp only [Act.put, List.setIfInBounds_toArray, List.set_cons_zero, List.set_cons_succ])
    refine Reg.call (i := 4) rfl (by kernel_rfl) (by rfl) ?_
    intro K1 hK1
    go_simp
    go_at_call 12
    (with_reducible refine hbl.mono ?_)
    rintro e W2 ⟨B2, d2, rfl, _, hd2, hV2b, hf2, hF2, hK2⟩
    have hC2 := below_kept hB1d hK2 hB1d.size hS
    refine hK1.out _ _ trivial (fun hHeld => ?_)
    clear hK1 K1
    (try simp only [Act.put, List.setIfInBounds_toArray, List.set_cons_zero, List.set_cons_succ])
    refine Reg.call (i := 9) rfl (by kernel_rfl) (by rfl) ?_
    intro K1 hK1
    go_simp
    go_at_call 13
    (with_reducible refine (refall_any m (some x1) q cap1 ys1 W2 (hV1.below hC2) (by omega) hq3 hc2).mono ?_)
    rintro e W3 ⟨B3, d3, rfl, hV3, hB3⟩
    have hC3 := hC2.trans (hB3.mono hC2.size)
    have hF3 := fil_below hF2 hB3
    refine hK1.out _ _ trivial (fun hHeld => ?_)
    clear hK1 K1
    (try simp only [Act.put, List.setIfInBounds_toArray, List.set_cons_zero, List.set_cons_succ])
    refine Reg.call (i := 10) rfl (by kernel_rfl) (by rfl) ?_
    intro K1 hK1
    go_simp
    go_at_call 11
    (with_reducible refine (same_yes B2 B3 q d2 d3 _ W3 (hV2b.below hB3) hV3 (by omega)).mono ?_)
    rintro e W4 ⟨rfl, z4, rfl⟩
    have hC4 := below_drewN hC3 z4
    have hF4 := fil_drewN hF3 z4
    refine hK1.out _ _ trivial (fun hHeld => ?_)
    clear hK1 K1
    (try simp only [Act.put, List.setIfInBounds_toArray, List.set_cons_zero, List.set_cons_succ])
    refine Reg.take (i := 11) (v := ?v29) rfl (by kernel_rfl) (by kernel_rfl) (by kernel_rfl) (by rfl) ?hv29 (by assumption) ?rest29
    case hv29 => first | (intro w hSw; (try dsimp only at hSw); go_simp; done) | (intro w hSw; (try dsimp only at hSw); go_simp; with_reducible rfl)
    (try simp only [Act.put, List.setIfInBounds_toArray, List.set_cons_zero, List.set_cons_succ])
    refine Reg.done (by kernel_rfl) ?_ _
    have hba := hbase _ bx Sx hF4
    clear hbl hF1d hF1 hF2 hF3 hV2b hV3 hB3 hK2 hf2 hC2 hC3 hB1 hB1d
    have hcell0 := (hC4.cell (World.block_lt_of_cell? _ _ hcx0)).trans hcx0
    go_wp2_with (first
      | (go_at_call 14; ((with_reducible refine hba.mono ?_); rintro e W5 ⟨rfl, z5, rfl⟩; have hC5 := below_drewN hC4 z5; have hF5 := fil_drewN hF4 z5; rw [World.drewN_drewN] at hC5 hF5; have hcell5 := (hC5.cell (World.block_lt_of_cell? _ _ hcx0)).trans hcx0))
      | (go_at_call 15; ((with_reducible refine (hnr _).mono ?_); rintro e W5b ⟨rfl, rfl⟩))
      | (go_at_call 16; ((with_reducible refine (reset_any _ _ _ _ (by exact hF5)).mono ?_); rintro e W6 ⟨rfl, hF6, hK6⟩; have hC6 := below_kept hC5 hK6 hC5.size hS)))
    have hF6d : Fil m W6.drew bx Sx [] := fil_drewN hF6 1
    have hC6d : Below w.heap.size w W6.drew := below_drewN hC6 1
    have hbl7 := block_any bx Sx [] _ (p - q) (cap1 - q) ys2 _ hF6d (hV2.below hC6d) hfits2 (by omega) (by omega) (by omega) (fun h0 x hx hmm => by have h1 := hltb2 x h0 hx; have h2 := hS _ hmm; omega)
    unfold WavesIs at hbl7
    rw [hl2] at hbl7
    refine Reg.begin_ (S := fun _ => True) (by kernel_rfl) trivial (fun hHeld => ?_)
    refine Reg.take (i := 0) (v := ?v30) rfl (by kernel_rfl) (by kernel_rfl) (by kernel_rfl) (by rfl) ?hv30 (by assumption) ?rest30
    case hv30 => first | (intro w hSw; (try dsimp only at hSw); go_simp; done) | (intro w hSw; (try dsimp only at hSw); go_simp; with_reducible rfl)
    (try simp only [Act.put, List.setIfInBounds_toArray, List.set_cons_zero, List.set_cons_succ])
    refine Reg.take (i := 1) (v := ?v31) rfl (by kernel_rfl) (by kernel_rfl) (by kernel_rfl) (by rfl) ?hv31 (by assumption) ?rest31
    case hv31 => first | (intro w hSw; (try dsimp only at hSw); go_simp; done) | (intro w hSw; (try dsimp only at hSw); go_simp; with_reducible rfl)
    (try simp only [Act.put, List.setIfInBounds_toArray, List.set_cons_zero, List.set_cons_succ])
    refine Reg.take (i := 2) (v := ?v32) rfl (by kernel_rfl) (by kernel_rfl) (by kernel_rfl) (by rfl) ?hv32 (by assumption) ?rest32
    case hv32 => first | (intro w hSw; (try dsimp only at hSw); go_simp; done) | (intro w hSw; (try dsimp only at hSw); go_simp; with_reducible rfl)
    (try simp only [Act.put, List.setIfInBounds_toArray, List.set_cons_zero, List.set_cons_succ])
    refine Reg.take (i := 3) (v := ?v33) rfl (by kernel_rfl) (by kernel_rfl) (by kernel_rfl) (by rfl) ?hv33 (by assumption) ?rest33
    case hv33 => first | (intro w hSw; (try dsimp only at hSw); go_simp; done) | (intro w hSw; (try dsimp only at hSw); go_simp; with_reducible rfl)
    (try simp only [Act.put, List.setIfInBounds_toArray, List.set_cons_zero, List.set_cons_succ])
    refine Reg.take (i := 5) (v := ?v34) rfl (by kernel_rfl) (by kernel_rfl) (by kernel_rfl) (by rfl) ?hv34 (by assumption) ?rest34
    case hv34 => first | (intro w hSw; (try dsimp only at hSw); go_simp; done) | (intro w hSw; (try dsimp only at hSw); go_simp; with_reducible rfl)
    (try simp only [Act.put, List.setIfInBounds_toArray, List.set_cons_zero, List.set_cons_succ])
    refine Reg.take (i := 6) (v := ?v35) rfl (by kernel_rfl) (by kernel_rfl) (by kernel_rfl) (by rfl) ?hv35 (by assumption) ?rest35
    case hv35 => first | (intro w hSw; (try dsimp only at hSw); go_simp; done) | (intro w hSw; (try dsimp only at hSw); go_simp; with_reducible rfl)
    (try simp only [Act.put, List.setIfInBounds_toArray, List.set_cons_zero, List.set_cons_succ])
    refine Reg.take (i := 7) (v := ?v36) rfl (by kernel_rfl) (by kernel_rfl) (by kernel_rfl) (by rfl) ?hv36 (by assumption) ?rest36
    case hv36 => first | (intro w hSw; (try dsimp only at hSw); go_simp; done) | (intro w hSw; (try dsimp only at hSw); go_simp; with_reducible rfl)
    (try simp only [Act.put, List.setIfInBounds_toArray, List.set_cons_zero, List.set_cons_succ])
    refine Reg.take (i := 8) (v := ?v37) rfl (by kernel_rfl) (by kernel_rfl) (by kernel_rfl) (by rfl) ?hv37 (by assumption) ?rest37
    case hv37 => first | (intro w hSw; (try dsimp only at hSw); go_simp; done) | (intro w hSw; (try dsimp only at hSw); go_simp; with_reducible rfl)
    (try simp only [Act.put, List.setIfInBounds_toArray, List.set_cons_zero, List.set_cons_succ])
    refine Reg.call (i := 4) rfl (by kernel_rfl) (by rfl) ?_
    intro K1 hK1
    go_simp
    go_at_call 12
    (with_reducible refine hbl7.mono ?_)
    rintro e W8 ⟨B8, d8, rfl, _, hd8, hV8, hf8, hF8, hK8⟩
    have hC8 := below_kept hC6d hK8 hC6d.size hS
    refine hK1.out _ _ trivial (fun hHeld => ?_)
    clear hK1 K1
    (try simp only [Act.put, List.setIfInBounds_toArray, List.set_cons_zero, List.set_cons_succ])
    refine Reg.call (i := 9) rfl (by kernel_rfl) (by rfl) ?_
    intro K1 hK1
    go_simp
    go_at_call 13
    (with_reducible refine (refall_any m _ (p - q) (cap1 - q) ys2 W8 (hV2.below hC8) (by omega) (by omega) (by omega)).mono ?_)
    rintro e W9 ⟨B9, d9, rfl, hV9, hB9⟩
    have hC9 := hC8.trans (hB9.mono hC8.size)
    refine hK1.out _ _ trivial (fun hHeld => ?_)
    clear hK1 K1
    (try simp only [Act.put, List.setIfInBounds_toArray, List.set_cons_zero, List.set_cons_succ])
    refine Reg.call (i := 10) rfl (by kernel_rfl) (by rfl) ?_
    intro K1 hK1
    go_simp
    go_at_call 11
    (with_reducible refine (same_yes B8 B9 (p - q) d8 d9 _ W9 (hV8.below hB9) hV9 (by omega)).mono ?_)
    rintro e W10 ⟨rfl, z10, rfl⟩
    have hC10 := below_drewN hC9 z10
    refine hK1.out _ _ trivial (fun hHeld => ?_)
    clear hK1 K1
    (try simp only [Act.put, List.setIfInBounds_toArray, List.set_cons_zero, List.set_cons_succ])
    refine Reg.take (i := 11) (v := ?v38) rfl (by kernel_rfl) (by kernel_rfl) (by kernel_rfl) (by rfl) ?hv38 (by assumption) ?rest38
    case hv38 => first | (intro w hSw; (try dsimp only at hSw); go_simp; done) | (intro w hSw; (try dsimp only at hSw); go_simp; with_reducible rfl)
    (try simp only [Act.put, List.setIfInBounds_toArray, List.set_cons_zero, List.set_cons_succ])
    refine Reg.call (i := 12) rfl (by kernel_rfl) (by rfl) ?_
    intro K1 hK1
    go_simp
    go_at_call 10
    (with_reducible refine (live_k _).mono ?_)
    rintro e W14 ⟨rfl, hB14⟩
    have hC14 := hC10.trans (hB14.mono hC10.size)
    refine hK1.out _ _ trivial (fun hHeld => ?_)
    clear hK1 K1
    (try simp only [Act.put, List.setIfInBounds_toArray, List.set_cons_zero, List.set_cons_succ])
    refine Reg.take (i := 13) (v := ?v39) rfl (by kernel_rfl) (by kernel_rfl) (by kernel_rfl) (by rfl) ?hv39 (by assumption) ?rest39
    case hv39 => first | (intro w hSw; (try dsimp only at hSw); go_simp; done) | (intro w hSw; (try dsimp only at hSw); go_simp; with_reducible rfl)
    (try simp only [Act.put, List.setIfInBounds_toArray, List.set_cons_zero, List.set_cons_succ])
    refine Reg.take (i := 14) (v := ?v40) rfl (by kernel_rfl) (by kernel_rfl) (by kernel_rfl) (by rfl) ?hv40 (by assumption) ?rest40
    case hv40 => first | (intro w hSw; (try dsimp only at hSw); go_simp; done) | (intro w hSw; (try dsimp only at hSw); go_simp; with_reducible rfl)
    (try simp only [Act.put, List.setIfInBounds_toArray, List.set_cons_zero, List.set_cons_succ])
    refine Reg.done (by kernel_rfl) ?_ _
    go_wp2
    all_goals
      go_ret
      exact ⟨rfl, hC14⟩

theorem own : ownKnob Try.prog.godebug = none := by kernel_rfl
theorem laidOut : laidOutB Try.prog = true := by kernel_rfl

/-! ### The row's step -/
set_option maxRecDepth 100000 in
theorem lifted (os : Os) (started : os.Started) (H : Type) (enc : TypeId × Value → H) :
    ReturnsInHanded {} Try.checked os 3 .any (Rows.chainPushesSpec.pre6 enc Try.prog Try.f3 Rows.chainPushesRow.domain false) (Rows.chainPushesSpec.post enc Try.prog Try.f3 false true false false) := by
  refine returnsInHanded_of_change (C := Try.checked) own started (by kernel_rfl) Try.func3
    (ChangeSpec.witness6 (enc := enc) (C := Try.checked) false ⟨#[], #[.int .i64 0, .slice none 0 0, .int .u8 0], []⟩ 8 (by kernel_rfl) (by kernel_rfl) (by kernel_rfl) (by kernel_rfl)) ?_
  intro W base args ds gs before hval0 hW hcnd _
  have hval : ∀ (j : Nat) t v, Try.f3.params[j]? = some t → args[j]? = some v → Value.okWide Try.prog W .any base t v := hval0
  have hW' := hW
  obtain ⟨p, q, hA0, hV, rfl, hfz, hnd⟩ := hW
  have hA : DataW.TrodAll enc Try.prog W 0 (fun _ => true) true Try.f3.params.toList args.toList ds p := hA0
  rw [Try.params3] at hA hval
  obtain ⟨v0, vs0, d0, ds0, p0, q0, hargs, rfl, rfl, h0, r0⟩ := trodAll_cons hA
  obtain ⟨v1, vs1, d1, ds1, p1, q1, rfl, rfl, rfl, h1, r1⟩ := trodAll_cons r0
  obtain ⟨v2, vs2, d2, ds2, p2, q2, rfl, rfl, rfl, h2, r2⟩ := trodAll_cons r1
  obtain ⟨rfl, rfl, rfl⟩ := trodAll_nil r2
  obtain rfl : args = #[v0, v1, v2] := by cases args; simp_all
  obtain ⟨rfl, rfl⟩ := trodVars_none hV
  obtain ⟨a0, rfl, rfl, rfl, w0⟩ := open_int Try.underlying3 (hval 0 3 v0 rfl rfl) h0
  obtain ⟨a1, len1, cap1, rfl⟩ := okWide_slice Try.underlying22 (hval 1 22 v1 rfl rfl)
  have k1 := h1
  have lt1 : ∀ x ∈ p1, x.block < W.heap.size := by obtain ⟨m, hm⟩ := k1; exact DataW.trod_lt m _ _ _ hm
  obtain ⟨z1, w1⟩ : ∃ zs, IsRow .i32 W a1 len1 cap1 zs := by
    obtain ⟨fuel, hf⟩ := h1
    rcases open_ints Try.underlying22 Try.underlying21 (by kernel_rfl) hf with ⟨hcs, _⟩ | ⟨x, l, c, zs, hcs, hx, hl, hm, hz, _, hcell, hwz⟩
    · simp [Value.cells] at hcs
      obtain ⟨rfl, rfl, rfl⟩ := hcs
      exact ⟨[], .inl ⟨rfl, rfl, rfl, rfl⟩⟩
    · simp [Value.cells] at hcs
      obtain ⟨rfl, rfl, rfl⟩ := hcs
      exact ⟨zs, isRow_some hl hm (by simpa using hz) hcell hwz⟩
  obtain ⟨a2, rfl, rfl, rfl, w2⟩ := open_int Try.underlying5 (hval 2 5 v2 rfl rfl) h2
  clear hA0 hval0
  refine (walk a0 a1 len1 cap1 z1 a2 W w0 w1 w2).mono fun e W' ⟨he, bel⟩ => ?_
  subst he
  exact ⟨_, rfl, _, _, _, [], _, [], hW', trodAll_mk1 (shut_bool Try.underlying4 _), (trodAll_cons_mk (shut_int Try.underlying3 w0) (trodAll_cons_mk (Below.trod laidOut (by kernel_rfl) (of_decide_eq_true (by kernel_rfl)) k1 bel lt1) (trodAll_cons_mk (shut_int Try.underlying5 w2) trodAll_mk0))), rfl, bel.frame _, fun h => by cases h⟩

theorem over : Rows.chainPushesRow.holds Try.pinned (OpenSpec.ofChange Rows.chainPushesSpec) :=
  OpenClaim.holds_of_wide 3 Try.f3 rfl rfl rfl rfl rfl rfl rfl ⟨rfl, rfl, rfl, rfl, rfl⟩ rfl rfl rfl rfl rfl (by kernel_rfl) Try.func3 (by kernel_rfl)
    (of_decide_eq_true (by kernel_rfl)) (by unfold Func.isWrapper; first | (rw [if_pos (by decide +kernel)]; kernel_rfl) | (rw [if_neg (by decide +kernel)]; exact ⟨rfl, rfl⟩))
    (fun os started H enc _ => lifted os started H enc)

theorem proved : Rows.ChainPushesSaid := over
#print axioms proved
end Go.Proofs.Ytejlhdmfcmhlaaa.chainPushes
