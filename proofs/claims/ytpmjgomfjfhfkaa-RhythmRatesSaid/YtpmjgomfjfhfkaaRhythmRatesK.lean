/- RhythmRates, over whatever a rhythm's calls answer. -/
import Derived.Test.YtpmjgomfjfhfkaaRhythmLive
import Derived.Test.YtpmjgomfjfhfkaaRowFirst
import Derived.Test.YtpmjgomfjfhfkaaRegion
import Derived.OpenShut
set_option linter.unusedSimpArgs false
set_option linter.unusedVariables false
namespace Go.Proofs.Ytpmjgomfjfhfkaa.Rhythm
open Go.RowKit
open Tally (Lim May mayT limV)
def lR (t b : Int) : Lim := ⟨0, 200, 100, t, 240, b, 50, 3, 100⟩
def cR (t b : Int) : Array Value := #[.int .i64 0, .int .i64 200, .int .i64 100, .int .i64 t, .int .i64 240, .int .i64 b, .int .i64 50, .int .i64 3, .int .i64 100]
theorem lR_may (t b : Int) (ht : 1 ≤ t ∧ t ≤ 4) (hb : 1 ≤ b ∧ b ≤ 4) : mayT (lR t b) = true := by
  rcases (show t = 1 ∨ t = 2 ∨ t = 3 ∨ t = 4 by omega) with rfl | rfl | rfl | rfl <;> rcases (show b = 1 ∨ b = 2 ∨ b = 3 ∨ b = 4 by omega) with rfl | rfl | rfl | rfl <;> decide +kernel
theorem rate_gap (l : Lim) (s : St) (a : Int) : (stepT l s (gapM a)).dark = s.dark ∧ (stepT l s (gapM a)).t.rs = [] ∧ (stepT l s (gapM a)).on.o4 = Tally.tachT l [] ∧ (stepT l s (gapM a)).on.o5 = Tally.bradT l [] := ⟨rfl, rfl, rfl, rfl⟩
theorem rate_beat (l : Lim) (s : St) (a rr : Int) (hd : s.dark = false) (hr : 1 ≤ rr) : (stepT l s (beatM a rr)).dark = false ∧ (stepT l s (beatM a rr)).t.rs = rr :: s.t.rs ∧ (stepT l s (beatM a rr)).on.o4 = Tally.tachT l (rr :: s.t.rs) ∧ (stepT l s (beatM a rr)).on.o5 = Tally.bradT l (rr :: s.t.rs) := by
  have hc : counts s (beatM a rr) = true := by simp [counts, beatM, hd]
  have ht : takeT s (beatM a rr) = ⟨false, ⟨true, Tally.nearA a, rr :: s.t.rs⟩, s.h, s.on⟩ := by
    simp only [takeT, beatM, hd, Tally.beatT, Tally.cnt_one, if_neg (show ¬ rr < 1 by omega)]
    rfl
  unfold stepT onT nowT
  rw [if_pos hc, ht]
  exact ⟨rfl, rfl, rfl, rfl⟩
/-- Where the loop stands. -/
structure Rt (Rhy : World → Nat → List Nat → Lim → St → Prop) (w : World) (b : Nat) (S : List Nat) (t u : Int) (g : Nat) (s : St) (k : Nat) (W : World) : Prop where
  mr : Mr Rhy w b S (lR t u) s W
  box : Has W g 23 (cR t u)
  far : g ∉ S
  dark : s.dark = false
  len : s.t.rs.length ≤ k
theorem Rt.grow {Rhy : World → Nat → List Nat → Lim → St → Prop} (K : RhyKit Rhy) {w W W' : World} {b g k : Nat} {S : List Nat} {t u : Int} {s : St} (h : Rt Rhy w b S t u g s k W) (hB : Below W.heap.size W W') : Rt Rhy w b S t u g s k W' :=
  ⟨Mr.grow K h.mr hB, h.box.below hB h.box.lt, h.far, h.dark, h.len⟩
/-- What the code counts. -/
def fastC (rr : Int) (f : Int) : Int := if rr ≤ 100 then f + 1 else 0
def slowC (rr : Int) (s : Int) : Int := if 240 ≤ rr then s + 1 else 0
theorem fast_cons (t u rr : Int) (rs : List Int) : (Tally.fastT (lR t u) (rr :: rs) : Int) = fastC rr (Tally.fastT (lR t u) rs : Int) := by
  unfold Tally.fastT fastC
  rw [Tally.inRow_cons]
  unfold Tally.isFast
  show ((if decide (rr ≤ (100 : Int)) = true then _ else (0 : Nat) : Nat) : Int) = _
  by_cases h : rr ≤ 100
  · rw [if_pos (decide_eq_true h), if_pos h]; push_cast; rfl
  · rw [if_neg (by simpa using h), if_neg h]; rfl
theorem slow_cons (t u rr : Int) (rs : List Int) : (Tally.slowT (lR t u) (rr :: rs) : Int) = slowC rr (Tally.slowT (lR t u) rs : Int) := by
  unfold Tally.slowT slowC
  rw [Tally.inRow_cons]
  unfold Tally.isSlow
  show ((if decide ((240 : Int) ≤ rr) = true then _ else (0 : Nat) : Nat) : Int) = _
  by_cases h : 240 ≤ rr
  · rw [if_pos (decide_eq_true h), if_pos h]; push_cast; rfl
  · rw [if_neg (by simpa using h), if_neg h]; rfl
set_option maxHeartbeats 2000000 in
theorem rates_k {Rhy : World → Nat → List Nat → Lim → St → Prop} (K : RhyKit Rhy) (a0 a1 : Int) (a2 : Option Addr) (len2 cap2 : Nat) (z2 : List Int) (w : World) (w0 : 0 ≤ a0 ∧ a0 ≤ 255) (w1 : 0 ≤ a1 ∧ a1 ≤ 255) (w2 : IsRow .u16 w a2 len2 cap2 z2) :
    Calls Try.prog 6 #[.int .u8 a0, .int .u8 a1, .slice a2 len2 cap2] w fun e w' => e = .returned (.bool true) ∧ Below w.heap.size w w' := by
  obtain ⟨p, hp⟩ : ∃ p, min len2 40 = p := ⟨_, rfl⟩
  have hp1 : p ≤ len2 := by omega
  have hp2 : p ≤ 40 := by omega
  have hminA : (if (40 : Int) < (len2 : Int) then (40 : Int) else (len2 : Int)) = (p : Int) := by split <;> omega
  obtain ⟨hc1, hc2, hzl, hcl⟩ := row_first (lo := 0) (hi := 65535) (fun h => bounds_u16 h) w2 p hp1
  have hp3 : p ≤ cap2 := by omega
  have hus := usual_k w
  rw [show limV lU = .agg #[.int .i64 0, .int .i64 200, .int .i64 100, .int .i64 2, .int .i64 240, .int .i64 2, .int .i64 50, .int .i64 3, .int .i64 100] from rfl] at hus
  have hli := fun W => live_k K W
  have hnew := fun W => K.new_yes W (lR (1 + a0 % 4) (1 + a1 % 4)) (lR_may _ _ (by omega) (by omega))
  rw [show limV (lR (1 + a0 % 4) (1 + a1 % 4)) = .agg #[.int .i64 0, .int .i64 200, .int .i64 100, .int .i64 (1 + a0 % 4), .int .i64 240, .int .i64 (1 + a1 % 4), .int .i64 50, .int .i64 3, .int .i64 100] from rfl] at hnew
  have htb : 1 ≤ 1 + a0 % 4 ∧ 1 + a0 % 4 ≤ 4 := by omega
  have hub : 1 ≤ 1 + a1 % 4 ∧ 1 + a1 % 4 ≤ 4 := by omega
  clear w2
  go_enter Try.func6, Try.ntmps6
  go_wp2_with (first
    | (go_at_call 18; ((with_reducible refine hus.mono ?_); rintro e W1 ⟨rfl, hB1⟩))
    | (go_at_call 8; ((with_reducible refine (hnew _).mono ?_); rintro e W2 ⟨b, S, rfl, hP, hfar, hB2⟩)))
  have hB3 := hB1.alloc hB1.size (.cells (cR (1 + a0 % 4) (1 + a1 % 4)) 23)
  have hX1 := Has.new W1 23 (cR (1 + a0 % 4) (1 + a1 % 4))
  unfold cR at hB3 hX1
  have hR0 : Rt Rhy w b S (1 + a0 % 4) (1 + a1 % 4) W1.heap.size noSt 0 W2 :=
    ⟨⟨hP, hB3.trans (hB2.mono hB3.size), fun k hk => Nat.le_trans hB3.size (hfar k hk)⟩, hX1.below hB2 hX1.lt, fun hk => by have := hfar _ hk; simp at this; omega, rfl, Nat.le_refl _⟩
  clear hnew hus hP hfar hB2 hB3 hX1
  generalize W1.heap.size = g at *
  generalize 1 + a0 % 4 = t at *
  generalize 1 + a1 % 4 = u at *
  go_loopw [10, 11, 12, 40] (fun f s a i wr => ∃ (k : Nat) (F G A : Int) (st : St), k ≤ p ∧ i = .int .i64 (k : Nat) ∧ f = .int .i64 F ∧ s = .int .i64 G ∧ a = .int .i64 A ∧ F = (Tally.fastT (lR t u) st.t.rs : Int) ∧ G = (Tally.slowT (lR t u) st.t.rs : Int) ∧ Rt Rhy w b S t u g st k wr ∧ (0 ≤ A ∧ A ≤ 400 * (k : Int))) (fun _ _ _ i _ => p - (intOf i).toNat)
  case atStart => exact ⟨0, 0, 0, 0, noSt, by omega, rfl, rfl, rfl, rfl, rfl, rfl, hR0, by omega⟩
  case round =>
    clear hR0
    obtain ⟨k, F, G, A, st, hk, rfl, rfl, rfl, rfl, hF, hG, hR, hA1, hA2⟩ := hrel
    by_cases hkp : k < p
    · obtain ⟨x, rfl, hcx⟩ := hcl (by omega)
      obtain ⟨hcw, hd0, hd1⟩ := hcx k hkp
      have hcell := (hR.mr.below.cell (World.block_lt_of_cell? _ _ hcw)).trans hcw
      clear hcx hcl hcw
      generalize (z2.take p).getD k 0 = d at *
      have hkz : (k : Int) < (p : Int) := by omega
      have hFb : 0 ≤ F ∧ F ≤ 40 := by
        have h1 := Tally.inRow_le (Tally.isFast (lR t u)) st.t.rs
        have h2 := hR.len
        unfold Tally.fastT at hF
        omega
      have hGb : 0 ≤ G ∧ G ≤ 40 := by
        have h1 := Tally.inRow_le (Tally.isSlow (lR t u)) st.t.rs
        have h2 := hR.len
        unfold Tally.slowT at hG
        omega
      have hrl : st.t.rs.length ≤ 1000000 := by have := hR.len; omega
      have hrb : 0 ≤ d % 400 ∧ d % 400 < 400 := by omega
      by_cases h0 : d % 400 = 0
      · have n0 : (d % 400 == 0) = true := by simp [h0]
        have hpu := Mr.push_one K hR.mr 45 (gapM (A + d % 400)) 1 hrl
        obtain ⟨e1, e2, e3, e4⟩ := rate_gap (lR t u) st (A + d % 400)
        have hgo : ∀ W, Mr Rhy w b S (lR t u) (stepT (lR t u) st (gapM (A + d % 400))) W → Kept S wr W → Rt Rhy w b S t u g (stepT (lR t u) st (gapM (A + d % 400))) (k + 1) W :=
          fun W hM hK => ⟨hM, hK.has hR.box hR.far, hR.far, e1.trans hR.dark, by rw [e2]; simp⟩
        have HF := Lib.hid (show (0 : Int) = (Tally.fastT (lR t u) (stepT (lR t u) st (gapM (A + d % 400))).t.rs : Int) ∧ (0 : Int) = (Tally.slowT (lR t u) (stepT (lR t u) st (gapM (A + d % 400))).t.rs : Int) from by rw [e2]; exact ⟨rfl, rfl⟩)
        have HE := Lib.hid (show (stepT (lR t u) st (gapM (A + d % 400))).on.o4 = decide (t ≤ (0 : Int)) ∧ (stepT (lR t u) st (gapM (A + d % 400))).on.o5 = decide (u ≤ (0 : Int)) from ⟨e3, e4⟩)
        clear e1 e2 e3 e4 hF hG hR h0
        generalize stepT (lR t u) st (gapM (A + d % 400)) = st2 at *
        unfold mkC gapM at hpu
        dsimp only at hpu
        generalize saysT (lR t u) st _ = cs at *
        go_wp2_with (go_at_call 15; ((with_reducible refine hpu.mono ?_); rintro e W3 ⟨B3, d3, rfl, g1, g2, hV3, hf3, hM3, hK3⟩; have hR2 := hgo W3 hM3 hK3; clear hgo hpu hV3 hf3 hK3 hM3))
        obtain ⟨q4, q5⟩ : st2.on.get 4 = decide (t ≤ (0 : Int)) ∧ st2.on.get 5 = decide (u ≤ (0 : Int)) := ⟨by show st2.on.o4 = _; exact HE.out.1, by show st2.on.o5 = _; exact HE.out.2⟩
        have hR3 : Rt Rhy w b S t u g st2 (k + 1) W3.drew := hR2.grow K (below_drewN (Below.refl _ W3) 1)
        have hq4 : (!(decide (t ≤ (0 : Int)) == decide (t ≤ (0 : Int)))) = false := by simp
        have hq5 : (!(decide (u ≤ (0 : Int)) == decide (u ≤ (0 : Int)))) = false := by simp
        clear hR2
        refine Reg.begin_ (S := fun W => W.cell? ⟨g, 3, none⟩ = some (.int .i64 t) ∧ W.cell? ⟨g, 5, none⟩ = some (.int .i64 u)) (by kernel_rfl) (by exact ⟨hR3.box.cell 3, hR3.box.cell 5⟩) (fun hHeld => ?_)
        generalize W3.drew = W4 at *
        refine Reg.take (i := 0) (v := ?v1) rfl (by kernel_rfl) (by kernel_rfl) (by kernel_rfl) (by rfl) ?hv1 (by assumption) ?rest1
        case hv1 => first | (intro w hSw; (try dsimp only at hSw); go_simp; done) | (intro w hSw; (try dsimp only at hSw); go_simp; with_reducible rfl)
        (try simp only [Act.put, List.setIfInBounds_toArray, List.set_cons_zero, List.set_cons_succ])
        refine Reg.take (i := 2) (v := ?v2) rfl (by kernel_rfl) (by kernel_rfl) (by kernel_rfl) (by rfl) ?hv2 (by assumption) ?rest2
        case hv2 => first | (intro w hSw; (try dsimp only at hSw); go_simp; done) | (intro w hSw; (try dsimp only at hSw); go_simp; with_reducible rfl)
        (try simp only [Act.put, List.setIfInBounds_toArray, List.set_cons_zero, List.set_cons_succ])
        refine Reg.take (i := 3) (v := ?v3) rfl (by kernel_rfl) (by kernel_rfl) (by kernel_rfl) (by rfl) ?hv3 (by assumption) ?rest3
        case hv3 => first | (intro w hSw; (try dsimp only at hSw); go_simp; done) | (intro w hSw; (try dsimp only at hSw); go_simp; with_reducible rfl)
        (try simp only [Act.put, List.setIfInBounds_toArray, List.set_cons_zero, List.set_cons_succ])
        refine Reg.take (i := 4) (v := ?v4) rfl (by kernel_rfl) (by kernel_rfl) (by kernel_rfl) (by rfl) ?hv4 (by assumption) ?rest4
        case hv4 => first | (intro w hSw; (try dsimp only at hSw); go_simp; done) | (intro w hSw; (try dsimp only at hSw); go_simp; with_reducible rfl)
        (try simp only [Act.put, List.setIfInBounds_toArray, List.set_cons_zero, List.set_cons_succ])
        refine Reg.take (i := 5) (v := ?v5) rfl (by kernel_rfl) (by kernel_rfl) (by kernel_rfl) (by rfl) ?hv5 (by assumption) ?rest5
        case hv5 => first | (intro w hSw; (try dsimp only at hSw); go_simp; done) | (intro w hSw; (try dsimp only at hSw); go_simp; with_reducible rfl)
        (try simp only [Act.put, List.setIfInBounds_toArray, List.set_cons_zero, List.set_cons_succ])
        refine Reg.call (i := 1) rfl (by kernel_rfl) (by rfl) ?_
        intro K1 hK1
        go_simp
        go_at_call 17
        (refine Calls.mono (by exact K.on_any W4 b S _ _ 4 hR3.mr.rhy) ?_)
        rintro e W5 ⟨rfl, hB5⟩
        have hR5 := hR3.grow K hB5
        rw [q4]
        clear hHeld hR3
        refine hK1.out _ _ (by exact ⟨hR5.box.cell 3,hR5.box.cell 5⟩) (fun hHeld => ?_)
        clear hK1 K1
        (try simp only [Act.put, List.setIfInBounds_toArray, List.set_cons_zero, List.set_cons_succ])
        refine Reg.take (i := 6) (v := ?v6) rfl (by kernel_rfl) (by kernel_rfl) (by kernel_rfl) (by rfl) ?hv6 (by assumption) ?rest6
        case hv6 => first | (intro w hSw; (try dsimp only at hSw); go_simp; done) | (intro w hSw; (try dsimp only at hSw); go_simp; with_reducible rfl)
        (try simp only [Act.put, List.setIfInBounds_toArray, List.set_cons_zero, List.set_cons_succ])
        refine Reg.take (i := 7) (v := ?v7) rfl (by kernel_rfl) (by kernel_rfl) (by kernel_rfl) (by rfl) ?hv7 (by assumption) ?rest7
        case hv7 => first | (intro w hSw; (try dsimp only at hSw); go_simp; done) | (intro w hSw; (try dsimp only at hSw); go_simp; with_reducible rfl)
        (try simp only [Act.put, List.setIfInBounds_toArray, List.set_cons_zero, List.set_cons_succ])
        refine Reg.take (i := 8) (v := ?v8) rfl (by kernel_rfl) (by kernel_rfl) (by kernel_rfl) (by rfl) ?hv8 (by assumption) ?rest8
        case hv8 => first | (intro w hSw; (try dsimp only at hSw); go_simp; done) | (intro w hSw; (try dsimp only at hSw); go_simp; with_reducible rfl)
        (try simp only [Act.put, List.setIfInBounds_toArray, List.set_cons_zero, List.set_cons_succ])
        refine Reg.take (i := 10) (v := ?v9) rfl (by kernel_rfl) (by kernel_rfl) (by kernel_rfl) (by rfl) ?hv9 (by assumption) ?rest9
        case hv9 => first | (intro w hSw; (try dsimp only at hSw); go_simp; done) | (intro w hSw; (try dsimp only at hSw); go_simp; with_reducible rfl)
        (try simp only [Act.put, List.setIfInBounds_toArray, List.set_cons_zero, List.set_cons_succ])
        refine Reg.take (i := 11) (v := ?v10) rfl (by kernel_rfl) (by kernel_rfl) (by kernel_rfl) (by rfl) ?hv10 (by assumption) ?rest10
        case hv10 => first | (intro w hSw; (try dsimp only at hSw); go_simp; done) | (intro w hSw; (try dsimp only at hSw); go_simp; with_reducible rfl)
        (try simp only [Act.put, List.setIfInBounds_toArray, List.set_cons_zero, List.set_cons_succ])
        refine Reg.take (i := 12) (v := ?v11) rfl (by kernel_rfl) (by kernel_rfl) (by kernel_rfl) (by rfl) ?hv11 (by assumption) ?rest11
        case hv11 => first | (intro w hSw; (try dsimp only at hSw); go_simp; done) | (intro w hSw; (try dsimp only at hSw); go_simp; with_reducible rfl)
        (try simp only [Act.put, List.setIfInBounds_toArray, List.set_cons_zero, List.set_cons_succ])
        refine Reg.take (i := 13) (v := ?v12) rfl (by kernel_rfl) (by kernel_rfl) (by kernel_rfl) (by rfl) ?hv12 (by assumption) ?rest12
        case hv12 => first | (intro w hSw; (try dsimp only at hSw); go_simp; done) | (intro w hSw; (try dsimp only at hSw); go_simp; with_reducible rfl)
        (try simp only [Act.put, List.setIfInBounds_toArray, List.set_cons_zero, List.set_cons_succ])
        refine Reg.call (i := 9) rfl (by kernel_rfl) (by rfl) ?_
        intro K1 hK1
        go_simp
        go_at_call 17
        (refine Calls.mono (by exact K.on_any W5 b S _ _ 5 hR5.mr.rhy) ?_)
        rintro e W6 ⟨rfl, hB6⟩
        have hR6 := hR5.grow K hB6
        rw [q5]
        clear hHeld hR5
        refine hK1.out _ _ (by exact ⟨hR6.box.cell 3,hR6.box.cell 5⟩) (fun hHeld => ?_)
        clear hK1 K1
        (try simp only [Act.put, List.setIfInBounds_toArray, List.set_cons_zero, List.set_cons_succ])
        refine Reg.take (i := 14) (v := ?v13) rfl (by kernel_rfl) (by kernel_rfl) (by kernel_rfl) (by rfl) ?hv13 (by assumption) ?rest13
        case hv13 => first | (intro w hSw; (try dsimp only at hSw); go_simp; done) | (intro w hSw; (try dsimp only at hSw); go_simp; with_reducible rfl)
        (try simp only [Act.put, List.setIfInBounds_toArray, List.set_cons_zero, List.set_cons_succ])
        refine Reg.take (i := 15) (v := ?v14) rfl (by kernel_rfl) (by kernel_rfl) (by kernel_rfl) (by rfl) ?hv14 (by assumption) ?rest14
        case hv14 => first | (intro w hSw; (try dsimp only at hSw); go_simp; done) | (intro w hSw; (try dsimp only at hSw); go_simp; with_reducible rfl)
        (try simp only [Act.put, List.setIfInBounds_toArray, List.set_cons_zero, List.set_cons_succ])
        refine Reg.done (by kernel_rfl) ?_ _
        go_wp2
        go_roundw
        case rel => exact ⟨k + 1, _, _, _, _, by omega, by go_num, rfl, rfl, rfl, HF.out.1, HF.out.2, hR6, by omega⟩
        case measure => simp [intOf]; omega
      · have n0 : (d % 400 == 0) = false := by simp [h0]
        have hpu := Mr.push_one K hR.mr 45 (beatM (A + d % 400) (d % 400)) 1 hrl
        obtain ⟨e1, e2, e3, e4⟩ := rate_beat (lR t u) st (A + d % 400) (d % 400) hR.dark (by omega)
        have hgo : ∀ W, Mr Rhy w b S (lR t u) (stepT (lR t u) st (beatM (A + d % 400) (d % 400))) W → Kept S wr W → Rt Rhy w b S t u g (stepT (lR t u) st (beatM (A + d % 400) (d % 400))) (k + 1) W :=
          fun W hM hK => ⟨hM, hK.has hR.box hR.far, hR.far, e1, by rw [e2]; simp; exact hR.len⟩
        have HF := Lib.hid (show fastC (d % 400) F = (Tally.fastT (lR t u) (stepT (lR t u) st (beatM (A + d % 400) (d % 400))).t.rs : Int) ∧ slowC (d % 400) G = (Tally.slowT (lR t u) (stepT (lR t u) st (beatM (A + d % 400) (d % 400))).t.rs : Int) from by rw [e2, fast_cons, slow_cons, ← hF, ← hG]; exact ⟨rfl, rfl⟩)
        have HE := Lib.hid (show (stepT (lR t u) st (beatM (A + d % 400) (d % 400))).on.o4 = decide (t ≤ fastC (d % 400) F) ∧ (stepT (lR t u) st (beatM (A + d % 400) (d % 400))).on.o5 = decide (u ≤ slowC (d % 400) G) from by
          rw [e3, e4]
          unfold Tally.tachT Tally.bradT
          rw [fast_cons, slow_cons, ← hF, ← hG]
          exact ⟨rfl, rfl⟩)
        clear e1 e2 e3 e4 hF hG hR
        generalize stepT (lR t u) st (beatM (A + d % 400) (d % 400)) = st2 at *
        unfold mkC beatM at hpu
        dsimp only at hpu
        generalize saysT (lR t u) st _ = cs at *
        by_cases h1 : d % 400 ≤ 100
        · have n1 : ¬ 100 < d % 400 := by omega
          have n2 : d % 400 < 240 := by omega
          rw [show fastC (d % 400) F = F + 1 from if_pos h1, show slowC (d % 400) G = 0 from if_neg (by omega)] at HF HE
          go_wp2_with (go_at_call 15; ((with_reducible refine hpu.mono ?_); rintro e W3 ⟨B3, d3, rfl, g1, g2, hV3, hf3, hM3, hK3⟩; have hR2 := hgo W3 hM3 hK3; clear hgo hpu hV3 hf3 hK3 hM3; have c2 : W3.cell? ⟨g, 2, none⟩ = some (.int .i64 100) := hR2.box.cell 2; have c4 : W3.cell? ⟨g, 4, none⟩ = some (.int .i64 240) := hR2.box.cell 4))
          obtain ⟨q4, q5⟩ : st2.on.get 4 = decide (t ≤ (F + 1)) ∧ st2.on.get 5 = decide (u ≤ (0 : Int)) := ⟨by show st2.on.o4 = _; exact HE.out.1, by show st2.on.o5 = _; exact HE.out.2⟩
          have hR3 : Rt Rhy w b S t u g st2 (k + 1) W3.drew := hR2.grow K (below_drewN (Below.refl _ W3) 1)
          have hq4 : (!(decide (t ≤ (F + 1)) == decide (t ≤ (F + 1)))) = false := by simp
          have hq5 : (!(decide (u ≤ (0 : Int)) == decide (u ≤ (0 : Int)))) = false := by simp
          clear hR2
          refine Reg.begin_ (S := fun W => W.cell? ⟨g, 3, none⟩ = some (.int .i64 t) ∧ W.cell? ⟨g, 5, none⟩ = some (.int .i64 u)) (by kernel_rfl) (by exact ⟨hR3.box.cell 3, hR3.box.cell 5⟩) (fun hHeld => ?_)
          generalize W3.drew = W4 at *
          refine Reg.take (i := 0) (v := ?v15) rfl (by kernel_rfl) (by kernel_rfl) (by kernel_rfl) (by rfl) ?hv15 (by assumption) ?rest15
          case hv15 => first | (intro w hSw; (try dsimp only at hSw); go_simp; done) | (intro w hSw; (try dsimp only at hSw); go_simp; with_reducible rfl)
          (try simp only [Act.put, List.setIfInBounds_toArray, List.set_cons_zero, List.set_cons_succ])
          refine Reg.take (i := 2) (v := ?v16) rfl (by kernel_rfl) (by kernel_rfl) (by kernel_rfl) (by rfl) ?hv16 (by assumption) ?rest16
          case hv16 => first | (intro w hSw; (try dsimp only at hSw); go_simp; done) | (intro w hSw; (try dsimp only at hSw); go_simp; with_reducible rfl)
          (try simp only [Act.put, List.setIfInBounds_toArray, List.set_cons_zero, List.set_cons_succ])
          refine Reg.take (i := 3) (v := ?v17) rfl (by kernel_rfl) (by kernel_rfl) (by kernel_rfl) (by rfl) ?hv17 (by assumption) ?rest17
          case hv17 => first | (intro w hSw; (try dsimp only at hSw); go_simp; done) | (intro w hSw; (try dsimp only at hSw); go_simp; with_reducible rfl)
          (try simp only [Act.put, List.setIfInBounds_toArray, List.set_cons_zero, List.set_cons_succ])
          refine Reg.take (i := 4) (v := ?v18) rfl (by kernel_rfl) (by kernel_rfl) (by kernel_rfl) (by rfl) ?hv18 (by assumption) ?rest18
          case hv18 => first | (intro w hSw; (try dsimp only at hSw); go_simp; done) | (intro w hSw; (try dsimp only at hSw); go_simp; with_reducible rfl)
          (try simp only [Act.put, List.setIfInBounds_toArray, List.set_cons_zero, List.set_cons_succ])
          refine Reg.take (i := 5) (v := ?v19) rfl (by kernel_rfl) (by kernel_rfl) (by kernel_rfl) (by rfl) ?hv19 (by assumption) ?rest19
          case hv19 => first | (intro w hSw; (try dsimp only at hSw); go_simp; done) | (intro w hSw; (try dsimp only at hSw); go_simp; with_reducible rfl)
          (try simp only [Act.put, List.setIfInBounds_toArray, List.set_cons_zero, List.set_cons_succ])
          refine Reg.call (i := 1) rfl (by kernel_rfl) (by rfl) ?_
          intro K1 hK1
          go_simp
          go_at_call 17
          (refine Calls.mono (by exact K.on_any W4 b S _ _ 4 hR3.mr.rhy) ?_)
          rintro e W5 ⟨rfl, hB5⟩
          have hR5 := hR3.grow K hB5
          rw [q4]
          clear hHeld hR3
          refine hK1.out _ _ (by exact ⟨hR5.box.cell 3,hR5.box.cell 5⟩) (fun hHeld => ?_)
          clear hK1 K1
          (try simp only [Act.put, List.setIfInBounds_toArray, List.set_cons_zero, List.set_cons_succ])
          refine Reg.take (i := 6) (v := ?v20) rfl (by kernel_rfl) (by kernel_rfl) (by kernel_rfl) (by rfl) ?hv20 (by assumption) ?rest20
          case hv20 => first | (intro w hSw; (try dsimp only at hSw); go_simp; done) | (intro w hSw; (try dsimp only at hSw); go_simp; with_reducible rfl)
          (try simp only [Act.put, List.setIfInBounds_toArray, List.set_cons_zero, List.set_cons_succ])
          refine Reg.take (i := 7) (v := ?v21) rfl (by kernel_rfl) (by kernel_rfl) (by kernel_rfl) (by rfl) ?hv21 (by assumption) ?rest21
          case hv21 => first | (intro w hSw; (try dsimp only at hSw); go_simp; done) | (intro w hSw; (try dsimp only at hSw); go_simp; with_reducible rfl)
          (try simp only [Act.put, List.setIfInBounds_toArray, List.set_cons_zero, List.set_cons_succ])
          refine Reg.take (i := 8) (v := ?v22) rfl (by kernel_rfl) (by kernel_rfl) (by kernel_rfl) (by rfl) ?hv22 (by assumption) ?rest22
          case hv22 => first | (intro w hSw; (try dsimp only at hSw); go_simp; done) | (intro w hSw; (try dsimp only at hSw); go_simp; with_reducible rfl)
          (try simp only [Act.put, List.setIfInBounds_toArray, List.set_cons_zero, List.set_cons_succ])
          refine Reg.take (i := 10) (v := ?v23) rfl (by kernel_rfl) (by kernel_rfl) (by kernel_rfl) (by rfl) ?hv23 (by assumption) ?rest23
          case hv23 => first | (intro w hSw; (try dsimp only at hSw); go_simp; done) | (intro w hSw; (try dsimp only at hSw); go_simp; with_reducible rfl)
          (try simp only [Act.put, List.setIfInBounds_toArray, List.set_cons_zero, List.set_cons_succ])
          refine Reg.take (i := 11) (v := ?v24) rfl (by kernel_rfl) (by kernel_rfl) (by kernel_rfl) (by rfl) ?hv24 (by assumption) ?rest24
          case hv24 => first | (intro w hSw; (try dsimp only at hSw); go_simp; done) | (intro w hSw; (try dsimp only at hSw); go_simp; with_reducible rfl)
          (try simp only [Act.put, List.setIfInBounds_toArray, List.set_cons_zero, List.set_cons_succ])
          refine Reg.take (i := 12) (v := ?v25) rfl (by kernel_rfl) (by kernel_rfl) (by kernel_rfl) (by rfl) ?hv25 (by assumption) ?rest25
          case hv25 => first | (intro w hSw; (try dsimp only at hSw); go_simp; done) | (intro w hSw; (try dsimp only at hSw); go_simp; with_reducible rfl)
          (try simp only [Act.put, List.setIfInBounds_toArray, List.set_cons_zero, List.set_cons_succ])
          refine Reg.take (i := 13) (v := ?v26) rfl (by kernel_rfl) (by kernel_rfl) (by kernel_rfl) (by rfl) ?hv26 (by assumption) ?rest26
          case hv26 => first | (intro w hSw; (try dsimp only at hSw); go_simp; done) | (intro w hSw; (try dsimp only at hSw); go_simp; with_reducible rfl)
          (try simp only [Act.put, List.setIfInBounds_toArray, List.set_cons_zero, List.set_cons_succ])
          refine Reg.call (i := 9) rfl (by kernel_rfl) (by rfl) ?_
          intro K1 hK1
          go_simp
          go_at_call 17
          (refine Calls.mono (by exact K.on_any W5 b S _ _ 5 hR5.mr.rhy) ?_)
          rintro e W6 ⟨rfl, hB6⟩
          have hR6 := hR5.grow K hB6
          rw [q5]
          clear hHeld hR5
          refine hK1.out _ _ (by exact ⟨hR6.box.cell 3,hR6.box.cell 5⟩) (fun hHeld => ?_)
          clear hK1 K1
          (try simp only [Act.put, List.setIfInBounds_toArray, List.set_cons_zero, List.set_cons_succ])
          refine Reg.take (i := 14) (v := ?v27) rfl (by kernel_rfl) (by kernel_rfl) (by kernel_rfl) (by rfl) ?hv27 (by assumption) ?rest27
          case hv27 => first | (intro w hSw; (try dsimp only at hSw); go_simp; done) | (intro w hSw; (try dsimp only at hSw); go_simp; with_reducible rfl)
          (try simp only [Act.put, List.setIfInBounds_toArray, List.set_cons_zero, List.set_cons_succ])
          refine Reg.take (i := 15) (v := ?v28) rfl (by kernel_rfl) (by kernel_rfl) (by kernel_rfl) (by rfl) ?hv28 (by assumption) ?rest28
          case hv28 => first | (intro w hSw; (try dsimp only at hSw); go_simp; done) | (intro w hSw; (try dsimp only at hSw); go_simp; with_reducible rfl)
          (try simp only [Act.put, List.setIfInBounds_toArray, List.set_cons_zero, List.set_cons_succ])
          refine Reg.done (by kernel_rfl) ?_ _
          go_wp2
          go_roundw
          case rel => exact ⟨k + 1, _, _, _, _, by omega, by go_num, rfl, rfl, rfl, HF.out.1, HF.out.2, hR6, by omega⟩
          case measure => simp [intOf]; omega
        · have n1 : 100 < d % 400 := by omega
          by_cases h2 : d % 400 < 240
          · rw [show fastC (d % 400) F = 0 from if_neg h1, show slowC (d % 400) G = 0 from if_neg (by omega)] at HF HE
            go_wp2_with (go_at_call 15; ((with_reducible refine hpu.mono ?_); rintro e W3 ⟨B3, d3, rfl, g1, g2, hV3, hf3, hM3, hK3⟩; have hR2 := hgo W3 hM3 hK3; clear hgo hpu hV3 hf3 hK3 hM3; have c2 : W3.cell? ⟨g, 2, none⟩ = some (.int .i64 100) := hR2.box.cell 2; have c4 : W3.cell? ⟨g, 4, none⟩ = some (.int .i64 240) := hR2.box.cell 4))
            obtain ⟨q4, q5⟩ : st2.on.get 4 = decide (t ≤ (0 : Int)) ∧ st2.on.get 5 = decide (u ≤ (0 : Int)) := ⟨by show st2.on.o4 = _; exact HE.out.1, by show st2.on.o5 = _; exact HE.out.2⟩
            have hR3 : Rt Rhy w b S t u g st2 (k + 1) W3.drew := hR2.grow K (below_drewN (Below.refl _ W3) 1)
            have hq4 : (!(decide (t ≤ (0 : Int)) == decide (t ≤ (0 : Int)))) = false := by simp
            have hq5 : (!(decide (u ≤ (0 : Int)) == decide (u ≤ (0 : Int)))) = false := by simp
            clear hR2
            refine Reg.begin_ (S := fun W => W.cell? ⟨g, 3, none⟩ = some (.int .i64 t) ∧ W.cell? ⟨g, 5, none⟩ = some (.int .i64 u)) (by kernel_rfl) (by exact ⟨hR3.box.cell 3, hR3.box.cell 5⟩) (fun hHeld => ?_)
            generalize W3.drew = W4 at *
            refine Reg.take (i := 0) (v := ?v29) rfl (by kernel_rfl) (by kernel_rfl) (by kernel_rfl) (by rfl) ?hv29 (by assumption) ?rest29
            case hv29 => first | (intro w hSw; (try dsimp only at hSw); go_simp; done) | (intro w hSw; (try dsimp only at hSw); go_simp; with_reducible rfl)
            (try simp only [Act.put, List.setIfInBounds_toArray, List.set_cons_zero, List.set_cons_succ])
            refine Reg.take (i := 2) (v := ?v30) rfl (by kernel_rfl) (by kernel_rfl) (by kernel_rfl) (by rfl) ?hv30 (by assumption) ?rest30
            case hv30 => first | (intro w hSw; (try dsimp only at hSw); go_simp; done) | (intro w hSw; (try dsimp only at hSw); go_simp; with_reducible rfl)
            (try simp only [Act.put, List.setIfInBounds_toArray, List.set_cons_zero, List.set_cons_succ])
            refine Reg.take (i := 3) (v := ?v31) rfl (by kernel_rfl) (by kernel_rfl) (by kernel_rfl) (by rfl) ?hv31 (by assumption) ?rest31
            case hv31 => first | (intro w hSw; (try dsimp only at hSw); go_simp; done) | (intro w hSw; (try dsimp only at hSw); go_simp; with_reducible rfl)
            (try simp only [Act.put, List.setIfInBounds_toArray, List.set_cons_zero, List.set_cons_succ])
            refine Reg.take (i := 4) (v := ?v32) rfl (by kernel_rfl) (by kernel_rfl) (by kernel_rfl) (by rfl) ?hv32 (by assumption) ?rest32
            case hv32 => first | (intro w hSw; (try dsimp only at hSw); go_simp; done) | (intro w hSw; (try dsimp only at hSw); go_simp; with_reducible rfl)
            (try simp only [Act.put, List.setIfInBounds_toArray, List.set_cons_zero, List.set_cons_succ])
            refine Reg.take (i := 5) (v := ?v33) rfl (by kernel_rfl) (by kernel_rfl) (by kernel_rfl) (by rfl) ?hv33 (by assumption) ?rest33
            case hv33 => first | (intro w hSw; (try dsimp only at hSw); go_simp; done) | (intro w hSw; (try dsimp only at hSw); go_simp; with_reducible rfl)
            (try simp only [Act.put, List.setIfInBounds_toArray, List.set_cons_zero, List.set_cons_succ])
            refine Reg.call (i := 1) rfl (by kernel_rfl) (by rfl) ?_
            intro K1 hK1
            go_simp
            go_at_call 17
            (refine Calls.mono (by exact K.on_any W4 b S _ _ 4 hR3.mr.rhy) ?_)
            rintro e W5 ⟨rfl, hB5⟩
            have hR5 := hR3.grow K hB5
            rw [q4]
            clear hHeld hR3
            refine hK1.out _ _ (by exact ⟨hR5.box.cell 3,hR5.box.cell 5⟩) (fun hHeld => ?_)
            clear hK1 K1
            (try simp only [Act.put, List.setIfInBounds_toArray, List.set_cons_zero, List.set_cons_succ])
            refine Reg.take (i := 6) (v := ?v34) rfl (by kernel_rfl) (by kernel_rfl) (by kernel_rfl) (by rfl) ?hv34 (by assumption) ?rest34
            case hv34 => first | (intro w hSw; (try dsimp only at hSw); go_simp; done) | (intro w hSw; (try dsimp only at hSw); go_simp; with_reducible rfl)
            (try simp only [Act.put, List.setIfInBounds_toArray, List.set_cons_zero, List.set_cons_succ])
            refine Reg.take (i := 7) (v := ?v35) rfl (by kernel_rfl) (by kernel_rfl) (by kernel_rfl) (by rfl) ?hv35 (by assumption) ?rest35
            case hv35 => first | (intro w hSw; (try dsimp only at hSw); go_simp; done) | (intro w hSw; (try dsimp only at hSw); go_simp; with_reducible rfl)
            (try simp only [Act.put, List.setIfInBounds_toArray, List.set_cons_zero, List.set_cons_succ])
            refine Reg.take (i := 8) (v := ?v36) rfl (by kernel_rfl) (by kernel_rfl) (by kernel_rfl) (by rfl) ?hv36 (by assumption) ?rest36
            case hv36 => first | (intro w hSw; (try dsimp only at hSw); go_simp; done) | (intro w hSw; (try dsimp only at hSw); go_simp; with_reducible rfl)
            (try simp only [Act.put, List.setIfInBounds_toArray, List.set_cons_zero, List.set_cons_succ])
            refine Reg.take (i := 10) (v := ?v37) rfl (by kernel_rfl) (by kernel_rfl) (by kernel_rfl) (by rfl) ?hv37 (by assumption) ?rest37
            case hv37 => first | (intro w hSw; (try dsimp only at hSw); go_simp; done) | (intro w hSw; (try dsimp only at hSw); go_simp; with_reducible rfl)
            (try simp only [Act.put, List.setIfInBounds_toArray, List.set_cons_zero, List.set_cons_succ])
            refine Reg.take (i := 11) (v := ?v38) rfl (by kernel_rfl) (by kernel_rfl) (by kernel_rfl) (by rfl) ?hv38 (by assumption) ?rest38
            case hv38 => first | (intro w hSw; (try dsimp only at hSw); go_simp; done) | (intro w hSw; (try dsimp only at hSw); go_simp; with_reducible rfl)
            (try simp only [Act.put, List.setIfInBounds_toArray, List.set_cons_zero, List.set_cons_succ])
            refine Reg.take (i := 12) (v := ?v39) rfl (by kernel_rfl) (by kernel_rfl) (by kernel_rfl) (by rfl) ?hv39 (by assumption) ?rest39
            case hv39 => first | (intro w hSw; (try dsimp only at hSw); go_simp; done) | (intro w hSw; (try dsimp only at hSw); go_simp; with_reducible rfl)
            (try simp only [Act.put, List.setIfInBounds_toArray, List.set_cons_zero, List.set_cons_succ])
            refine Reg.take (i := 13) (v := ?v40) rfl (by kernel_rfl) (by kernel_rfl) (by kernel_rfl) (by rfl) ?hv40 (by assumption) ?rest40
            case hv40 => first | (intro w hSw; (try dsimp only at hSw); go_simp; done) | (intro w hSw; (try dsimp only at hSw); go_simp; with_reducible rfl)
            (try simp only [Act.put, List.setIfInBounds_toArray, List.set_cons_zero, List.set_cons_succ])
            refine Reg.call (i := 9) rfl (by kernel_rfl) (by rfl) ?_
            intro K1 hK1
            go_simp
            go_at_call 17
            (refine Calls.mono (by exact K.on_any W5 b S _ _ 5 hR5.mr.rhy) ?_)
            rintro e W6 ⟨rfl, hB6⟩
            have hR6 := hR5.grow K hB6
            rw [q5]
            clear hHeld hR5
            refine hK1.out _ _ (by exact ⟨hR6.box.cell 3,hR6.box.cell 5⟩) (fun hHeld => ?_)
            clear hK1 K1
            (try simp only [Act.put, List.setIfInBounds_toArray, List.set_cons_zero, List.set_cons_succ])
            refine Reg.take (i := 14) (v := ?v41) rfl (by kernel_rfl) (by kernel_rfl) (by kernel_rfl) (by rfl) ?hv41 (by assumption) ?rest41
            case hv41 => first | (intro w hSw; (try dsimp only at hSw); go_simp; done) | (intro w hSw; (try dsimp only at hSw); go_simp; with_reducible rfl)
            (try simp only [Act.put, List.setIfInBounds_toArray, List.set_cons_zero, List.set_cons_succ])
            refine Reg.take (i := 15) (v := ?v42) rfl (by kernel_rfl) (by kernel_rfl) (by kernel_rfl) (by rfl) ?hv42 (by assumption) ?rest42
            case hv42 => first | (intro w hSw; (try dsimp only at hSw); go_simp; done) | (intro w hSw; (try dsimp only at hSw); go_simp; with_reducible rfl)
            (try simp only [Act.put, List.setIfInBounds_toArray, List.set_cons_zero, List.set_cons_succ])
            refine Reg.done (by kernel_rfl) ?_ _
            go_wp2
            go_roundw
            case rel => exact ⟨k + 1, _, _, _, _, by omega, by go_num, rfl, rfl, rfl, HF.out.1, HF.out.2, hR6, by omega⟩
            case measure => simp [intOf]; omega
          · rw [show fastC (d % 400) F = 0 from if_neg h1, show slowC (d % 400) G = G + 1 from if_pos (by omega)] at HF HE
            go_wp2_with (go_at_call 15; ((with_reducible refine hpu.mono ?_); rintro e W3 ⟨B3, d3, rfl, g1, g2, hV3, hf3, hM3, hK3⟩; have hR2 := hgo W3 hM3 hK3; clear hgo hpu hV3 hf3 hK3 hM3; have c2 : W3.cell? ⟨g, 2, none⟩ = some (.int .i64 100) := hR2.box.cell 2; have c4 : W3.cell? ⟨g, 4, none⟩ = some (.int .i64 240) := hR2.box.cell 4))
            obtain ⟨q4, q5⟩ : st2.on.get 4 = decide (t ≤ (0 : Int)) ∧ st2.on.get 5 = decide (u ≤ (G + 1)) := ⟨by show st2.on.o4 = _; exact HE.out.1, by show st2.on.o5 = _; exact HE.out.2⟩
            have hR3 : Rt Rhy w b S t u g st2 (k + 1) W3.drew := hR2.grow K (below_drewN (Below.refl _ W3) 1)
            have hq4 : (!(decide (t ≤ (0 : Int)) == decide (t ≤ (0 : Int)))) = false := by simp
            have hq5 : (!(decide (u ≤ (G + 1)) == decide (u ≤ (G + 1)))) = false := by simp
            clear hR2
            refine Reg.begin_ (S := fun W => W.cell? ⟨g, 3, none⟩ = some (.int .i64 t) ∧ W.cell? ⟨g, 5, none⟩ = some (.int .i64 u)) (by kernel_rfl) (by exact ⟨hR3.box.cell 3, hR3.box.cell 5⟩) (fun hHeld => ?_)
            generalize W3.drew = W4 at *
            refine Reg.take (i := 0) (v := ?v43) rfl (by kernel_rfl) (by kernel_rfl) (by kernel_rfl) (by rfl) ?hv43 (by assumption) ?rest43
            case hv43 => first | (intro w hSw; (try dsimp only at hSw); go_simp; done) | (intro w hSw; (try dsimp only at hSw); go_simp; with_reducible rfl)
            (try simp only [Act.put, List.setIfInBounds_toArray, List.set_cons_zero, List.set_cons_succ])
            refine Reg.take (i := 2) (v := ?v44) rfl (by kernel_rfl) (by kernel_rfl) (by kernel_rfl) (by rfl) ?hv44 (by assumption) ?rest44
            case hv44 => first | (intro w hSw; (try dsimp only at hSw); go_simp; done) | (intro w hSw; (try dsimp only at hSw); go_simp; with_reducible rfl)
            (try simp only [Act.put, List.setIfInBounds_toArray, List.set_cons_zero, List.set_cons_succ])
            refine Reg.take (i := 3) (v := ?v45) rfl (by kernel_rfl) (by kernel_rfl) (by kernel_rfl) (by rfl) ?hv45 (by assumption) ?rest45
            case hv45 => first | (intro w hSw; (try dsimp only at hSw); go_simp; done) | (intro w hSw; (try dsimp only at hSw); go_simp; with_reducible rfl)
            (try simp only [Act.put, List.setIfInBounds_toArray, List.set_cons_zero, List.set_cons_succ])
            refine Reg.take (i := 4) (v := ?v46) rfl (by kernel_rfl) (by kernel_rfl) (by kernel_rfl) (by rfl) ?hv46 (by assumption) ?rest46
            case hv46 => first | (intro w hSw; (try dsimp only at hSw); go_simp; done) | (intro w hSw; (try dsimp only at hSw); go_simp; with_reducible rfl)
            (try simp only [Act.put, List.setIfInBounds_toArray, List.set_cons_zero, List.set_cons_succ])
            refine Reg.take (i := 5) (v := ?v47) rfl (by kernel_rfl) (by kernel_rfl) (by kernel_rfl) (by rfl) ?hv47 (by assumption) ?rest47
            case hv47 => first | (intro w hSw; (try dsimp only at hSw); go_simp; done) | (intro w hSw; (try dsimp only at hSw); go_simp; with_reducible rfl)
            (try simp only [Act.put, List.setIfInBounds_toArray, List.set_cons_zero, List.set_cons_succ])
            refine Reg.call (i := 1) rfl (by kernel_rfl) (by rfl) ?_
            intro K1 hK1
            go_simp
            go_at_call 17
            (refine Calls.mono (by exact K.on_any W4 b S _ _ 4 hR3.mr.rhy) ?_)
            rintro e W5 ⟨rfl, hB5⟩
            have hR5 := hR3.grow K hB5
            rw [q4]
            clear hHeld hR3
            refine hK1.out _ _ (by exact ⟨hR5.box.cell 3,hR5.box.cell 5⟩) (fun hHeld => ?_)
            clear hK1 K1
            (try simp only [Act.put, List.setIfInBounds_toArray, List.set_cons_zero, List.set_cons_succ])
            refine Reg.take (i := 6) (v := ?v48) rfl (by kernel_rfl) (by kernel_rfl) (by kernel_rfl) (by rfl) ?hv48 (by assumption) ?rest48
            case hv48 => first | (intro w hSw; (try dsimp only at hSw); go_simp; done) | (intro w hSw; (try dsimp only at hSw); go_simp; with_reducible rfl)
            (try simp only [Act.put, List.setIfInBounds_toArray, List.set_cons_zero, List.set_cons_succ])
            refine Reg.take (i := 7) (v := ?v49) rfl (by kernel_rfl) (by kernel_rfl) (by kernel_rfl) (by rfl) ?hv49 (by assumption) ?rest49
            case hv49 => first | (intro w hSw; (try dsimp only at hSw); go_simp; done) | (intro w hSw; (try dsimp only at hSw); go_simp; with_reducible rfl)
            (try simp only [Act.put, List.setIfInBounds_toArray, List.set_cons_zero, List.set_cons_succ])
            refine Reg.take (i := 8) (v := ?v50) rfl (by kernel_rfl) (by kernel_rfl) (by kernel_rfl) (by rfl) ?hv50 (by assumption) ?rest50
            case hv50 => first | (intro w hSw; (try dsimp only at hSw); go_simp; done) | (intro w hSw; (try dsimp only at hSw); go_simp; with_reducible rfl)
            (try simp only [Act.put, List.setIfInBounds_toArray, List.set_cons_zero, List.set_cons_succ])
            refine Reg.take (i := 10) (v := ?v51) rfl (by kernel_rfl) (by kernel_rfl) (by kernel_rfl) (by rfl) ?hv51 (by assumption) ?rest51
            case hv51 => first | (intro w hSw; (try dsimp only at hSw); go_simp; done) | (intro w hSw; (try dsimp only at hSw); go_simp; with_reducible rfl)
            (try simp only [Act.put, List.setIfInBounds_toArray, List.set_cons_zero, List.set_cons_succ])
            refine Reg.take (i := 11) (v := ?v52) rfl (by kernel_rfl) (by kernel_rfl) (by kernel_rfl) (by rfl) ?hv52 (by assumption) ?rest52
            case hv52 => first | (intro w hSw; (try dsimp only at hSw); go_simp; done) | (intro w hSw; (try dsimp only at hSw); go_simp; with_reducible rfl)
            (try simp only [Act.put, List.setIfInBounds_toArray, List.set_cons_zero, List.set_cons_succ])
            refine Reg.take (i := 12) (v := ?v53) rfl (by kernel_rfl) (by kernel_rfl) (by kernel_rfl) (by rfl) ?hv53 (by assumption) ?rest53
            case hv53 => first | (intro w hSw; (try dsimp only at hSw); go_simp; done) | (intro w hSw; (try dsimp only at hSw); go_simp; with_reducible rfl)
            (try simp only [Act.put, List.setIfInBounds_toArray, List.set_cons_zero, List.set_cons_succ])
            refine Reg.take (i := 13) (v := ?v54) rfl (by kernel_rfl) (by kernel_rfl) (by kernel_rfl) (by rfl) ?hv54 (by assumption) ?rest54
            case hv54 => first | (intro w hSw; (try dsimp only at hSw); go_simp; done) | (intro w hSw; (try dsimp only at hSw); go_simp; with_reducible rfl)
            (try simp only [Act.put, List.setIfInBounds_toArray, List.set_cons_zero, List.set_cons_succ])
            refine Reg.call (i := 9) rfl (by kernel_rfl) (by rfl) ?_
            intro K1 hK1
            go_simp
            go_at_call 17
            (refine Calls.mono (by exact K.on_any W5 b S _ _ 5 hR5.mr.rhy) ?_)
            rintro e W6 ⟨rfl, hB6⟩
            have hR6 := hR5.grow K hB6
            rw [q5]
            clear hHeld hR5
            refine hK1.out _ _ (by exact ⟨hR6.box.cell 3,hR6.box.cell 5⟩) (fun hHeld => ?_)
            clear hK1 K1
            (try simp only [Act.put, List.setIfInBounds_toArray, List.set_cons_zero, List.set_cons_succ])
            refine Reg.take (i := 14) (v := ?v55) rfl (by kernel_rfl) (by kernel_rfl) (by kernel_rfl) (by rfl) ?hv55 (by assumption) ?rest55
            case hv55 => first | (intro w hSw; (try dsimp only at hSw); go_simp; done) | (intro w hSw; (try dsimp only at hSw); go_simp; with_reducible rfl)
            (try simp only [Act.put, List.setIfInBounds_toArray, List.set_cons_zero, List.set_cons_succ])
            refine Reg.take (i := 15) (v := ?v56) rfl (by kernel_rfl) (by kernel_rfl) (by kernel_rfl) (by rfl) ?hv56 (by assumption) ?rest56
            case hv56 => first | (intro w hSw; (try dsimp only at hSw); go_simp; done) | (intro w hSw; (try dsimp only at hSw); go_simp; with_reducible rfl)
            (try simp only [Act.put, List.setIfInBounds_toArray, List.set_cons_zero, List.set_cons_succ])
            refine Reg.done (by kernel_rfl) ?_ _
            go_wp2
            go_roundw
            case rel => exact ⟨k + 1, _, _, _, _, by omega, by go_num, rfl, rfl, rfl, HF.out.1, HF.out.2, hR6, by omega⟩
            case measure => simp [intOf]; omega
    · obtain rfl : k = p := by omega
      clear hcl
      go_wp2_with (go_at_call 11; ((with_reducible refine (hli _).mono ?_); rintro e W5 ⟨rfl, hB5⟩; have hR5 := hR.grow K hB5))
      go_ret
      exact ⟨rfl, hR5.mr.below⟩
end Go.Proofs.Ytpmjgomfjfhfkaa.Rhythm
