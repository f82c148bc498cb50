/- LeadRuns, over whatever code answers as the kit says. -/
import Derived.Test.YtlopkmbindfkjaaLeadLive
set_option linter.unusedSimpArgs false
set_option linter.unusedVariables false
namespace Go.Proofs.Ytlopkmbindfkjaa.Lead
open Go.RowKit
/-- What stands of a run ahead of samples that say the same. -/
def St.was (st : St) (off : Bool) : Nat := if st.n ≠ 0 ∧ st.off = off then st.n else 0
theorem after_samples (st : St) (k : Nat) (t : Int) (off : Bool) :
    afterL st (samplesT (k + 1) t off) = ⟨if st.on = true ∧ off = true ∧ 20 ≤ st.was off + (k + 1) then false else if st.on = false ∧ off = false ∧ 100 ≤ st.was off + (k + 1) then true else st.on, off, st.was off + (k + 1)⟩ := by
  induction k with
  | zero =>
    show St.next st (2, t + (0 : Nat), 3, off) = _
    unfold St.next
    rw [if_neg (by show ¬ (2 : Int) = 1; decide), if_pos rfl]
    have hr : st.run off = st.was off + 1 := by unfold St.run St.was; split <;> rfl
    unfold St.on'
    rw [hr]
  | succ k ih =>
    rw [samplesT_succ (k + 1) t off, after_append, ih]
    show St.next _ (2, t + ((k + 1 : Nat) : Int), 3, off) = _
    unfold St.next
    rw [if_neg (by show ¬ (2 : Int) = 1; decide), if_pos rfl]
    have hr : ∀ o : Bool, St.run ⟨o, off, st.was off + (k + 1)⟩ off = st.was off + (k + 2) := fun o => by unfold St.run; rw [if_pos ⟨by show _ + _ ≠ 0; omega, rfl⟩]; rfl
    unfold St.on'
    rw [hr]
    generalize st.was off = q
    obtain ⟨on, so, n⟩ := st
    dsimp only
    cases on <;> cases off <;> simp
    all_goals (rw [Bool.eq_iff_iff]; simp; omega)
theorem after_none (st : St) (t : Int) (off : Bool) : afterL st (samplesT 0 t off) = st := rfl
theorem on_first (a : Nat) (t : Int) : afterL start (samplesT a t false) = ⟨true, false, a⟩ := by
  cases a with
  | zero => rfl
  | succ a => rw [after_samples]; simp [start, St.was]
theorem on_second (a b : Nat) (t u : Int) : (afterL start (samplesT a t false ++ samplesT b u true)).on = decide (b < 20) := by
  rw [after_append, on_first]
  cases b with
  | zero => rfl
  | succ b =>
    rw [after_samples]
    simp [St.was]
    rw [Bool.eq_iff_iff]; simp
theorem on_third (a b c : Nat) (t u v : Int) : (afterL start (samplesT a t false ++ samplesT b u true ++ samplesT c v false)).on = (decide (b < 20) || decide (100 ≤ c)) := by
  rw [after_append]
  have h2 := on_second a b t u
  cases c with
  | zero => rw [after_none, h2]; simp
  | succ c =>
    rw [after_samples, h2]
    by_cases hb : b < 20
    · simp [hb]
    · have hw : (afterL start (samplesT a t false ++ samplesT b u true)).was false = 0 := by
        rw [after_append, on_first]
        obtain ⟨b, rfl⟩ : ∃ b', b = b' + 1 := ⟨b - 1, by omega⟩
        rw [after_samples]
        simp [St.was]
      rw [hw]
      simp [hb]
def gapEv : Ev := (1, 0, 0, false)
theorem gap_state (xs : List Ev) (t : Int) (h : (afterL start xs).on = true ∧ (afterL start xs).n = 0) : (afterL start (xs ++ samplesT 19 t true ++ [gapEv])).on = true ∧ (afterL start (xs ++ samplesT 19 t true ++ [gapEv])).n = 0 := by
  rw [after_append, after_append]
  obtain ⟨h1, h2⟩ := h
  generalize afterL start xs = st at *
  rw [show (19 : Nat) = 18 + 1 from rfl, after_samples]
  refine ⟨?_, rfl⟩
  show (if _ then _ else _) = true
  have hw : st.was true = 0 := by unfold St.was; rw [if_neg (fun h => h.1 h2)]
  rw [hw, h1]
  simp
def SampIs (W : World) (n : Nat) (L : List Ev) (e : Ending) (w' : World) : Prop :=
  ∃ A c, e = .returned (.slice A n c) ∧ n ≤ c ∧ c ≤ 9223372036854775807 ∧ Row.Vals evS w' A n L ∧ (∀ x, A = some x → W.heap.size ≤ x.block) ∧ Below W.heap.size W w'
theorem K_apart {W1 : World} {S : List Nat} {A : Option Addr} (hl : ∀ k ∈ S, k < W1.heap.size) (hf : ∀ x, A = some x → W1.heap.size ≤ x.block) : ∀ x, A = some x → x.block ∉ S := fun x hx hm => by
  have h1 := hf x hx
  have h2 := hl _ hm
  omega
set_option maxRecDepth 100000 in
set_option maxHeartbeats 2000000 in
theorem runs_k (K : LeadKit) (p q c : Nat) (w : World) (hp : p < 256) (hq : q < 256) (hcc : c < 256) :
    Calls Try.prog 4 #[.int .u8 (p : Nat), .int .u8 (q : Nat), .int .u8 (c : Nat)] w fun e w' => e = .returned (.bool true) ∧ Below w.heap.size w w' := by
  have hnew := K.new_any
  have hpush := K.push_any
  unfold PushIs at hpush
  have hon : ∀ (b : Nat) (S : List Nat) (all : List Ev) (o : Bool) (W : World), K.Led W b S all → all.length ≤ 4000 → onT all = o → Calls Try.prog 11 #[.pointer (some ⟨b, 0, none⟩)] W fun e w' => e = .returned (.bool o) ∧ Below W.heap.size W w' := fun b S all o W h1 h2 h3 => h3 ▸ K.on_any b S all W h1 h2
  have hs1 : ∀ W, Calls Try.prog 13 #[.int .i64 ((p : Int) % 60), .int .i64 0, .bool false] W (SampIs W (p % 60) (samplesT (p % 60) 0 false)) := fun W => by
    have h := samples_any (p % 60) 0 false W (by omega) (by omega)
    rwa [show ((p % 60 : Nat) : Int) = (p : Int) % 60 by omega] at h
  have hs2 : ∀ W, Calls Try.prog 13 #[.int .i64 ((q : Int) % 60), .int .i64 ((p : Int) % 60), .bool true] W (SampIs W (q % 60) (samplesT (q % 60) ((p : Int) % 60) true)) := fun W => by
    have h := samples_any (q % 60) (p % 60) true W (by omega) (by omega)
    rwa [show ((p % 60 : Nat) : Int) = (p : Int) % 60 by omega, show ((q % 60 : Nat) : Int) = (q : Int) % 60 by omega] at h
  have hs3 : ∀ W, Calls Try.prog 13 #[.int .i64 (c : Int), .int .i64 ((p : Int) % 60 + (q : Int) % 60), .bool false] W (SampIs W c (samplesT c ((p : Int) % 60 + (q : Int) % 60) false)) := fun W => by
    have h := samples_any c (p % 60 + q % 60) false W (by omega) (by omega)
    rwa [show ((p % 60 + q % 60 : Nat) : Int) = (p : Int) % 60 + (q : Int) % 60 by omega] at h
  have hs4 : ∀ W, Calls Try.prog 13 #[.int .i64 19, .int .i64 0, .bool true] W (SampIs W 19 (samplesT 19 0 true)) := fun W => samples_any 19 0 true W (by omega) (by omega)
  have on1 : onT ([] ++ samplesT (p % 60) 0 false) = true := by show (afterL start (samplesT (p % 60) 0 false)).on = true; rw [on_first]
  have on2 : onT ([] ++ samplesT (p % 60) 0 false ++ samplesT (q % 60) ((p : Int) % 60) true) = decide (q % 60 < 20) := on_second _ _ _ _
  have on3 : onT ([] ++ samplesT (p % 60) 0 false ++ samplesT (q % 60) ((p : Int) % 60) true ++ samplesT c ((p : Int) % 60 + (q : Int) % 60) false) = (decide (q % 60 < 20) || decide (100 ≤ c)) := on_third _ _ _ _ _ _
  have hl1 := samplesT_length (p % 60) 0 false
  have hl2 := samplesT_length (q % 60) ((p : Int) % 60) true
  have hl3 := samplesT_length c ((p : Int) % 60 + (q : Int) % 60) false
  have hwr : IntKind.i64.wrap ((p : Int) % 60 + (q : Int) % 60) = (p : Int) % 60 + (q : Int) % 60 := IntWalk.i64_in _ (by omega)
  unfold SampIs at hs1 hs2 hs3 hs4
  generalize samplesT (p % 60) 0 false = L1 at *
  generalize samplesT (q % 60) ((p : Int) % 60) true = L2 at *
  generalize samplesT c ((p : Int) % 60 + (q : Int) % 60) false = L3 at *
  have hall1 : ([] ++ L1).length ≤ 4000 := by simp; omega
  have hall2 : ([] ++ L1 ++ L2).length ≤ 4000 := by simp; omega
  have hall3 : ([] ++ L1 ++ L2 ++ L3).length ≤ 4000 := by simp; omega
  by_cases h20 : q % 60 < 20
  · rw [decide_eq_true h20] at on2 on3
    have hz : (q : Int) % 60 < 20 := by omega
    go_enter Try.func4, Try.ntmps4
    go_wp2_with (first
      | (go_at_call 7; ((with_reducible refine (hnew _).mono ?_); rintro e W1 ⟨b, S, rfl, hD1, hS, hB1⟩))
      | (go_at_call 13; ((with_reducible refine (hs1 _).mono ?_); rintro e W2 ⟨A2, c2, rfl, g2a, g2b, hV2, hf2, hB2⟩; have hD2 := K.below hD1 hB2; have hC2 := hB1.trans (hB2.mono hB1.size); have hap2 := K_apart (K.lt hD1) hf2))
      | (go_at_call 10; ((with_reducible refine (hpush _ _ _ _ _ _ _ _ hD2 (by simp) hV2 (by omega) g2a g2b (fun _ => hap2)).mono ?_); rintro e W3 ⟨B3, m3, d3, S3, rfl, _, _, _, _, hD3, hS3, hK3⟩; have hC3 := below_kept hC2 hK3 hC2.size hS; have hSw3 : ∀ k ∈ S3, w.heap.size ≤ k := (fun k hk => (hS3 k hk).elim (hS k) (fun h => Nat.le_trans hC2.size h))))
      | (go_at_call 11; ((with_reducible refine (hon _ _ _ _ _ hD3 (by assumption) on1).mono ?_); rintro e W4 ⟨rfl, hB4⟩; have hD4 := K.below hD3 hB4; have hC4 := hC3.trans (hB4.mono hC3.size)))
      | (go_at_call 13; ((with_reducible refine (hs2 _).mono ?_); rintro e W5 ⟨A5, c5, rfl, g5a, g5b, hV5, hf5, hB5⟩; have hD5 := K.below hD4 hB5; have hC5 := hC4.trans (hB5.mono hC4.size); have hap5 := K_apart (K.lt hD4) hf5))
      | (go_at_call 10; ((with_reducible refine (hpush _ _ _ _ _ _ _ _ hD5 (by assumption) hV5 (by omega) g5a g5b (fun _ => hap5)).mono ?_); rintro e W6 ⟨B6, m6, d6, S6, rfl, _, _, _, _, hD6, hS6, hK6⟩; have hC6 := below_kept hC5 hK6 hC5.size hSw3; have hSw6 : ∀ k ∈ S6, w.heap.size ≤ k := (fun k hk => (hS6 k hk).elim (hSw3 k) (fun h => Nat.le_trans hC5.size h))))
      | (go_at_call 11; ((with_reducible refine (hon _ _ _ _ _ hD6 (by assumption) on2).mono ?_); rintro e W7 ⟨rfl, hB7⟩; have hD7 := K.below hD6 hB7; have hC7 := hC6.trans (hB7.mono hC6.size)))
      | (go_at_call 11; ((with_reducible refine (hon _ _ _ _ _ hD7 (by assumption) on2).mono ?_); rintro e W8 ⟨rfl, hB8⟩; have hD8 := K.below hD7 hB8; have hC8 := hC7.trans (hB8.mono hC7.size)))
      | (go_at_call 13; ((with_reducible refine (hs3 _).mono ?_); rintro e W9 ⟨A9, c9, rfl, g9a, g9b, hV9, hf9, hB9⟩; have hD9 := K.below hD8 hB9; have hC9 := hC8.trans (hB9.mono hC8.size); have hap9 := K_apart (K.lt hD8) hf9))
      | (go_at_call 10; ((with_reducible refine (hpush _ _ _ _ _ _ _ _ hD9 (by assumption) hV9 (by omega) g9a g9b (fun _ => hap9)).mono ?_); rintro e W10 ⟨B10, m10, d10, S10, rfl, _, _, _, _, hD10, hS10, hK10⟩; have hC10 := below_kept hC9 hK10 hC9.size hSw6; have hSw10 : ∀ k ∈ S10, w.heap.size ≤ k := (fun k hk => (hS10 k hk).elim (hSw6 k) (fun h => Nat.le_trans hC9.size h))))
      | (go_at_call 11; ((with_reducible refine (hon _ _ _ _ _ hD10 (by assumption) on3).mono ?_); rintro e W11 ⟨rfl, hB11⟩; have hD11 := K.below hD10 hB11; have hC11 := hC10.trans (hB11.mono hC10.size)))
    )
    have hC12 := hC11.trans (hB1.mono hC11.size)
    have hS12 : ∀ k ∈ S, w.heap.size ≤ k := fun k hk => Nat.le_trans hC11.size (hS k hk)
    go_loopw [57] (fun i wr => ∃ (j : Nat) (S : List Nat) (all : List Ev), j ≤ 5 ∧ i = .int .i64 (j : Nat) ∧ K.Led wr b S all ∧ (∀ k ∈ S, w.heap.size ≤ k) ∧ all.length = 20 * j ∧ ((afterL start all).on = true ∧ (afterL start all).n = 0) ∧ Below w.heap.size w wr) (fun i _ => 5 - (intOf i).toNat)
    case atStart => exact ⟨0, S, [], by omega, rfl, hD1, hS12, rfl, ⟨rfl, rfl⟩, hC12⟩
    case round =>
      clear hD1 hS12 hC12 hB1 hS hD2 hD3 hD4 hD5 hD6 hD7 hD8 hD9 hD10 hD11 hC2 hC3 hC4 hC5 hC6 hC7 hC8 hC9 hC10 hC11 hV2 hV5 hV9
      obtain ⟨j, S, all, hj, rfl, hD1, hS, hal, hst, hC1⟩ := hrel
      by_cases hj5 : j < 5
      · have hst2 := gap_state all 0 hst
        have hal1 : all.length ≤ 4000 := by omega
        have hl4 := samplesT_length 19 0 true
        generalize samplesT 19 0 true = L4 at *
        have hal2 : (all ++ L4).length ≤ 4000 := by rw [List.length_append]; omega
        have hal3 : (all ++ L4 ++ [gapEv]).length = 20 * (j + 1) := by rw [List.length_append, List.length_append, hal, hl4]; show 20 * j + 19 + 1 = _; omega
        go_wp2_with (first
          | (go_at_call 13; ((with_reducible refine (hs4 _).mono ?_); rintro e W20 ⟨A20, c20, rfl, g20a, g20b, hV20, hf20, hB20⟩; have hD20 := K.below hD1 hB20; have hC20 := hC1.trans (hB20.mono hC1.size); have hap20 := K_apart (K.lt hD1) hf20))
          | (go_at_call 10; ((with_reducible refine (hpush _ _ _ _ _ _ _ _ hD20 (by assumption) hV20 (by omega) g20a g20b (fun _ => hap20)).mono ?_); rintro e W21 ⟨B21, m21, d21, S21, rfl, _, _, _, _, hD21, hS21, hK21⟩; have hC21 := below_kept hC20 hK21 hC20.size hS; have hSw21 : ∀ k ∈ S21, w.heap.size ≤ k := (fun k hk => (hS21 k hk).elim (hS k) (fun h => Nat.le_trans hC20.size h)); have hal := ((Below.refl W21.heap.size W21).alloc (Nat.le_refl _) (.cells #[.int .i64 1, .int .i64 0, .int .i32 0, .bool false] 37)); have hDa := K.below hD21 hal; have hCa := hC21.alloc hC21.size (.cells #[.int .i64 1, .int .i64 0, .int .i32 0, .bool false] 37); have hVa := ev_new W21 37 1 0 0 false; have hlt := K.lt hD21))
          | (go_at_call 10; ((with_reducible refine (hpush _ _ _ _ _ _ _ _ hDa (by assumption) hVa (by omega) (by omega) (by omega) (fun _ y hy hm => by injection hy with hy; subst hy; exact absurd (hlt _ hm) (Nat.lt_irrefl _))).mono ?_); rintro e W22 ⟨B22, m22, d22, S22, rfl, _, _, _, _, hD22, hS22, hK22⟩; have hC22 := below_kept hCa hK22 hCa.size hSw21; have hSw22 : ∀ k ∈ S22, w.heap.size ≤ k := (fun k hk => (hS22 k hk).elim (hSw21 k) (fun h => Nat.le_trans hCa.size h))))
        )
        go_roundw
        case rel => exact ⟨j + 1, S22, _, by omega, by go_num, hD22, hSw22, hal3, hst2, hC22⟩
        case measure => simp [intOf]; omega
      · have hal1 : all.length ≤ 4000 := by omega
        have hlive := live_k K
        have hon1 : onT all = true := hst.1
        go_wp2_with (first
          | (go_at_call 11; ((with_reducible refine (hon _ _ _ _ _ hD1 hal1 hon1).mono ?_); rintro e W31 ⟨rfl, hB31⟩; have hC31 := hC1.trans (hB31.mono hC1.size)))
          | (go_at_call 15; ((with_reducible refine (hlive _).mono ?_); rintro e W32 ⟨rfl, hB32⟩; have hC32 := hC31.trans (hB32.mono hC31.size)))
        )
        go_ret
        exact ⟨rfl, hC32⟩
  · rw [decide_eq_false h20] at on2 on3
    have hz : ¬ (q : Int) % 60 < 20 := by omega
    by_cases h100 : 100 ≤ c
    · rw [decide_eq_true h100] at on3
      have hy : (100 : Int) ≤ (c : Int) := by omega
      go_enter Try.func4, Try.ntmps4
      go_wp2_with (first
        | (go_at_call 7; ((with_reducible refine (hnew _).mono ?_); rintro e W1 ⟨b, S, rfl, hD1, hS, hB1⟩))
        | (go_at_call 13; ((with_reducible refine (hs1 _).mono ?_); rintro e W2 ⟨A2, c2, rfl, g2a, g2b, hV2, hf2, hB2⟩; have hD2 := K.below hD1 hB2; have hC2 := hB1.trans (hB2.mono hB1.size); have hap2 := K_apart (K.lt hD1) hf2))
        | (go_at_call 10; ((with_reducible refine (hpush _ _ _ _ _ _ _ _ hD2 (by simp) hV2 (by omega) g2a g2b (fun _ => hap2)).mono ?_); rintro e W3 ⟨B3, m3, d3, S3, rfl, _, _, _, _, hD3, hS3, hK3⟩; have hC3 := below_kept hC2 hK3 hC2.size hS; have hSw3 : ∀ k ∈ S3, w.heap.size ≤ k := (fun k hk => (hS3 k hk).elim (hS k) (fun h => Nat.le_trans hC2.size h))))
        | (go_at_call 11; ((with_reducible refine (hon _ _ _ _ _ hD3 (by assumption) on1).mono ?_); rintro e W4 ⟨rfl, hB4⟩; have hD4 := K.below hD3 hB4; have hC4 := hC3.trans (hB4.mono hC3.size)))
        | (go_at_call 13; ((with_reducible refine (hs2 _).mono ?_); rintro e W5 ⟨A5, c5, rfl, g5a, g5b, hV5, hf5, hB5⟩; have hD5 := K.below hD4 hB5; have hC5 := hC4.trans (hB5.mono hC4.size); have hap5 := K_apart (K.lt hD4) hf5))
        | (go_at_call 10; ((with_reducible refine (hpush _ _ _ _ _ _ _ _ hD5 (by assumption) hV5 (by omega) g5a g5b (fun _ => hap5)).mono ?_); rintro e W6 ⟨B6, m6, d6, S6, rfl, _, _, _, _, hD6, hS6, hK6⟩; have hC6 := below_kept hC5 hK6 hC5.size hSw3; have hSw6 : ∀ k ∈ S6, w.heap.size ≤ k := (fun k hk => (hS6 k hk).elim (hSw3 k) (fun h => Nat.le_trans hC5.size h))))
        | (go_at_call 11; ((with_reducible refine (hon _ _ _ _ _ hD6 (by assumption) on2).mono ?_); rintro e W7 ⟨rfl, hB7⟩; have hD7 := K.below hD6 hB7; have hC7 := hC6.trans (hB7.mono hC6.size)))
        | (go_at_call 11; ((with_reducible refine (hon _ _ _ _ _ hD7 (by assumption) on2).mono ?_); rintro e W8 ⟨rfl, hB8⟩; have hD8 := K.below hD7 hB8; have hC8 := hC7.trans (hB8.mono hC7.size)))
        | (go_at_call 13; ((with_reducible refine (hs3 _).mono ?_); rintro e W9 ⟨A9, c9, rfl, g9a, g9b, hV9, hf9, hB9⟩; have hD9 := K.below hD8 hB9; have hC9 := hC8.trans (hB9.mono hC8.size); have hap9 := K_apart (K.lt hD8) hf9))
        | (go_at_call 10; ((with_reducible refine (hpush _ _ _ _ _ _ _ _ hD9 (by assumption) hV9 (by omega) g9a g9b (fun _ => hap9)).mono ?_); rintro e W10 ⟨B10, m10, d10, S10, rfl, _, _, _, _, hD10, hS10, hK10⟩; have hC10 := below_kept hC9 hK10 hC9.size hSw6; have hSw10 : ∀ k ∈ S10, w.heap.size ≤ k := (fun k hk => (hS10 k hk).elim (hSw6 k) (fun h => Nat.le_trans hC9.size h))))
        | (go_at_call 11; ((with_reducible refine (hon _ _ _ _ _ hD10 (by assumption) on3).mono ?_); rintro e W11 ⟨rfl, hB11⟩; have hD11 := K.below hD10 hB11; have hC11 := hC10.trans (hB11.mono hC10.size)))
      )
      have hC12 := hC11.trans (hB1.mono hC11.size)
      have hS12 : ∀ k ∈ S, w.heap.size ≤ k := fun k hk => Nat.le_trans hC11.size (hS k hk)
      go_loopw [57] (fun i wr => ∃ (j : Nat) (S : List Nat) (all : List Ev), j ≤ 5 ∧ i = .int .i64 (j : Nat) ∧ K.Led wr b S all ∧ (∀ k ∈ S, w.heap.size ≤ k) ∧ all.length = 20 * j ∧ ((afterL start all).on = true ∧ (afterL start all).n = 0) ∧ Below w.heap.size w wr) (fun i _ => 5 - (intOf i).toNat)
      case atStart => exact ⟨0, S, [], by omega, rfl, hD1, hS12, rfl, ⟨rfl, rfl⟩, hC12⟩
      case round =>
        clear hD1 hS12 hC12 hB1 hS hD2 hD3 hD4 hD5 hD6 hD7 hD8 hD9 hD10 hD11 hC2 hC3 hC4 hC5 hC6 hC7 hC8 hC9 hC10 hC11 hV2 hV5 hV9
        obtain ⟨j, S, all, hj, rfl, hD1, hS, hal, hst, hC1⟩ := hrel
        by_cases hj5 : j < 5
        · have hst2 := gap_state all 0 hst
          have hal1 : all.length ≤ 4000 := by omega
          have hl4 := samplesT_length 19 0 true
          generalize samplesT 19 0 true = L4 at *
          have hal2 : (all ++ L4).length ≤ 4000 := by rw [List.length_append]; omega
          have hal3 : (all ++ L4 ++ [gapEv]).length = 20 * (j + 1) := by rw [List.length_append, List.length_append, hal, hl4]; show 20 * j + 19 + 1 = _; omega
          go_wp2_with (first
            | (go_at_call 13; ((with_reducible refine (hs4 _).mono ?_); rintro e W20 ⟨A20, c20, rfl, g20a, g20b, hV20, hf20, hB20⟩; have hD20 := K.below hD1 hB20; have hC20 := hC1.trans (hB20.mono hC1.size); have hap20 := K_apart (K.lt hD1) hf20))
            | (go_at_call 10; ((with_reducible refine (hpush _ _ _ _ _ _ _ _ hD20 (by assumption) hV20 (by omega) g20a g20b (fun _ => hap20)).mono ?_); rintro e W21 ⟨B21, m21, d21, S21, rfl, _, _, _, _, hD21, hS21, hK21⟩; have hC21 := below_kept hC20 hK21 hC20.size hS; have hSw21 : ∀ k ∈ S21, w.heap.size ≤ k := (fun k hk => (hS21 k hk).elim (hS k) (fun h => Nat.le_trans hC20.size h)); have hal := ((Below.refl W21.heap.size W21).alloc (Nat.le_refl _) (.cells #[.int .i64 1, .int .i64 0, .int .i32 0, .bool false] 37)); have hDa := K.below hD21 hal; have hCa := hC21.alloc hC21.size (.cells #[.int .i64 1, .int .i64 0, .int .i32 0, .bool false] 37); have hVa := ev_new W21 37 1 0 0 false; have hlt := K.lt hD21))
            | (go_at_call 10; ((with_reducible refine (hpush _ _ _ _ _ _ _ _ hDa (by assumption) hVa (by omega) (by omega) (by omega) (fun _ y hy hm => by injection hy with hy; subst hy; exact absurd (hlt _ hm) (Nat.lt_irrefl _))).mono ?_); rintro e W22 ⟨B22, m22, d22, S22, rfl, _, _, _, _, hD22, hS22, hK22⟩; have hC22 := below_kept hCa hK22 hCa.size hSw21; have hSw22 : ∀ k ∈ S22, w.heap.size ≤ k := (fun k hk => (hS22 k hk).elim (hSw21 k) (fun h => Nat.le_trans hCa.size h))))
          )
          go_roundw
          case rel => exact ⟨j + 1, S22, _, by omega, by go_num, hD22, hSw22, hal3, hst2, hC22⟩
          case measure => simp [intOf]; omega
        · have hal1 : all.length ≤ 4000 := by omega
          have hlive := live_k K
          have hon1 : onT all = true := hst.1
          go_wp2_with (first
            | (go_at_call 11; ((with_reducible refine (hon _ _ _ _ _ hD1 hal1 hon1).mono ?_); rintro e W31 ⟨rfl, hB31⟩; have hC31 := hC1.trans (hB31.mono hC1.size)))
            | (go_at_call 15; ((with_reducible refine (hlive _).mono ?_); rintro e W32 ⟨rfl, hB32⟩; have hC32 := hC31.trans (hB32.mono hC31.size)))
          )
          go_ret
          exact ⟨rfl, hC32⟩
    · rw [decide_eq_false h100] at on3
      have hy : ¬ (100 : Int) ≤ (c : Int) := by omega
      go_enter Try.func4, Try.ntmps4
      go_wp2_with (first
        | (go_at_call 7; ((with_reducible refine (hnew _).mono ?_); rintro e W1 ⟨b, S, rfl, hD1, hS, hB1⟩))
        | (go_at_call 13; ((with_reducible refine (hs1 _).mono ?_); rintro e W2 ⟨A2, c2, rfl, g2a, g2b, hV2, hf2, hB2⟩; have hD2 := K.below hD1 hB2; have hC2 := hB1.trans (hB2.mono hB1.size); have hap2 := K_apart (K.lt hD1) hf2))
        | (go_at_call 10; ((with_reducible refine (hpush _ _ _ _ _ _ _ _ hD2 (by simp) hV2 (by omega) g2a g2b (fun _ => hap2)).mono ?_); rintro e W3 ⟨B3, m3, d3, S3, rfl, _, _, _, _, hD3, hS3, hK3⟩; have hC3 := below_kept hC2 hK3 hC2.size hS; have hSw3 : ∀ k ∈ S3, w.heap.size ≤ k := (fun k hk => (hS3 k hk).elim (hS k) (fun h => Nat.le_trans hC2.size h))))
        | (go_at_call 11; ((with_reducible refine (hon _ _ _ _ _ hD3 (by assumption) on1).mono ?_); rintro e W4 ⟨rfl, hB4⟩; have hD4 := K.below hD3 hB4; have hC4 := hC3.trans (hB4.mono hC3.size)))
        | (go_at_call 13; ((with_reducible refine (hs2 _).mono ?_); rintro e W5 ⟨A5, c5, rfl, g5a, g5b, hV5, hf5, hB5⟩; have hD5 := K.below hD4 hB5; have hC5 := hC4.trans (hB5.mono hC4.size); have hap5 := K_apart (K.lt hD4) hf5))
        | (go_at_call 10; ((with_reducible refine (hpush _ _ _ _ _ _ _ _ hD5 (by assumption) hV5 (by omega) g5a g5b (fun _ => hap5)).mono ?_); rintro e W6 ⟨B6, m6, d6, S6, rfl, _, _, _, _, hD6, hS6, hK6⟩; have hC6 := below_kept hC5 hK6 hC5.size hSw3; have hSw6 : ∀ k ∈ S6, w.heap.size ≤ k := (fun k hk => (hS6 k hk).elim (hSw3 k) (fun h => Nat.le_trans hC5.size h))))
        | (go_at_call 11; ((with_reducible refine (hon _ _ _ _ _ hD6 (by assumption) on2).mono ?_); rintro e W7 ⟨rfl, hB7⟩; have hD7 := K.below hD6 hB7; have hC7 := hC6.trans (hB7.mono hC6.size)))
        | (go_at_call 11; ((with_reducible refine (hon _ _ _ _ _ hD7 (by assumption) on2).mono ?_); rintro e W8 ⟨rfl, hB8⟩; have hD8 := K.below hD7 hB8; have hC8 := hC7.trans (hB8.mono hC7.size)))
        | (go_at_call 13; ((with_reducible refine (hs3 _).mono ?_); rintro e W9 ⟨A9, c9, rfl, g9a, g9b, hV9, hf9, hB9⟩; have hD9 := K.below hD8 hB9; have hC9 := hC8.trans (hB9.mono hC8.size); have hap9 := K_apart (K.lt hD8) hf9))
        | (go_at_call 10; ((with_reducible refine (hpush _ _ _ _ _ _ _ _ hD9 (by assumption) hV9 (by omega) g9a g9b (fun _ => hap9)).mono ?_); rintro e W10 ⟨B10, m10, d10, S10, rfl, _, _, _, _, hD10, hS10, hK10⟩; have hC10 := below_kept hC9 hK10 hC9.size hSw6; have hSw10 : ∀ k ∈ S10, w.heap.size ≤ k := (fun k hk => (hS10 k hk).elim (hSw6 k) (fun h => Nat.le_trans hC9.size h))))
        | (go_at_call 11; ((with_reducible refine (hon _ _ _ _ _ hD10 (by assumption) on3).mono ?_); rintro e W11 ⟨rfl, hB11⟩; have hD11 := K.below hD10 hB11; have hC11 := hC10.trans (hB11.mono hC10.size)))
      )
      have hC12 := hC11.trans (hB1.mono hC11.size)
      have hS12 : ∀ k ∈ S, w.heap.size ≤ k := fun k hk => Nat.le_trans hC11.size (hS k hk)
      go_loopw [57] (fun i wr => ∃ (j : Nat) (S : List Nat) (all : List Ev), j ≤ 5 ∧ i = .int .i64 (j : Nat) ∧ K.Led wr b S all ∧ (∀ k ∈ S, w.heap.size ≤ k) ∧ all.length = 20 * j ∧ ((afterL start all).on = true ∧ (afterL start all).n = 0) ∧ Below w.heap.size w wr) (fun i _ => 5 - (intOf i).toNat)
      case atStart => exact ⟨0, S, [], by omega, rfl, hD1, hS12, rfl, ⟨rfl, rfl⟩, hC12⟩
      case round =>
        clear hD1 hS12 hC12 hB1 hS hD2 hD3 hD4 hD5 hD6 hD7 hD8 hD9 hD10 hD11 hC2 hC3 hC4 hC5 hC6 hC7 hC8 hC9 hC10 hC11 hV2 hV5 hV9
        obtain ⟨j, S, all, hj, rfl, hD1, hS, hal, hst, hC1⟩ := hrel
        by_cases hj5 : j < 5
        · have hst2 := gap_state all 0 hst
          have hal1 : all.length ≤ 4000 := by omega
          have hl4 := samplesT_length 19 0 true
          generalize samplesT 19 0 true = L4 at *
          have hal2 : (all ++ L4).length ≤ 4000 := by rw [List.length_append]; omega
          have hal3 : (all ++ L4 ++ [gapEv]).length = 20 * (j + 1) := by rw [List.length_append, List.length_append, hal, hl4]; show 20 * j + 19 + 1 = _; omega
          go_wp2_with (first
            | (go_at_call 13; ((with_reducible refine (hs4 _).mono ?_); rintro e W20 ⟨A20, c20, rfl, g20a, g20b, hV20, hf20, hB20⟩; have hD20 := K.below hD1 hB20; have hC20 := hC1.trans (hB20.mono hC1.size); have hap20 := K_apart (K.lt hD1) hf20))
            | (go_at_call 10; ((with_reducible refine (hpush _ _ _ _ _ _ _ _ hD20 (by assumption) hV20 (by omega) g20a g20b (fun _ => hap20)).mono ?_); rintro e W21 ⟨B21, m21, d21, S21, rfl, _, _, _, _, hD21, hS21, hK21⟩; have hC21 := below_kept hC20 hK21 hC20.size hS; have hSw21 : ∀ k ∈ S21, w.heap.size ≤ k := (fun k hk => (hS21 k hk).elim (hS k) (fun h => Nat.le_trans hC20.size h)); have hal := ((Below.refl W21.heap.size W21).alloc (Nat.le_refl _) (.cells #[.int .i64 1, .int .i64 0, .int .i32 0, .bool false] 37)); have hDa := K.below hD21 hal; have hCa := hC21.alloc hC21.size (.cells #[.int .i64 1, .int .i64 0, .int .i32 0, .bool false] 37); have hVa := ev_new W21 37 1 0 0 false; have hlt := K.lt hD21))
            | (go_at_call 10; ((with_reducible refine (hpush _ _ _ _ _ _ _ _ hDa (by assumption) hVa (by omega) (by omega) (by omega) (fun _ y hy hm => by injection hy with hy; subst hy; exact absurd (hlt _ hm) (Nat.lt_irrefl _))).mono ?_); rintro e W22 ⟨B22, m22, d22, S22, rfl, _, _, _, _, hD22, hS22, hK22⟩; have hC22 := below_kept hCa hK22 hCa.size hSw21; have hSw22 : ∀ k ∈ S22, w.heap.size ≤ k := (fun k hk => (hS22 k hk).elim (hSw21 k) (fun h => Nat.le_trans hCa.size h))))
          )
          go_roundw
          case rel => exact ⟨j + 1, S22, _, by omega, by go_num, hD22, hSw22, hal3, hst2, hC22⟩
          case measure => simp [intOf]; omega
        · have hal1 : all.length ≤ 4000 := by omega
          have hlive := live_k K
          have hon1 : onT all = true := hst.1
          go_wp2_with (first
            | (go_at_call 11; ((with_reducible refine (hon _ _ _ _ _ hD1 hal1 hon1).mono ?_); rintro e W31 ⟨rfl, hB31⟩; have hC31 := hC1.trans (hB31.mono hC1.size)))
            | (go_at_call 15; ((with_reducible refine (hlive _).mono ?_); rintro e W32 ⟨rfl, hB32⟩; have hC32 := hC31.trans (hB32.mono hC31.size)))
          )
          go_ret
          exact ⟨rfl, hC32⟩
end Go.Proofs.Ytlopkmbindfkjaa.Lead
