/- FibBounds, over whatever a counter's calls answer. -/
import Derived.Test.YtjppdmmegdefhaaFibLive
import Derived.Test.YtjppdmmegdefhaaRowFirst
import Derived.Test.YtjppdmmegdefhaaRegion
import Derived.Test.YtjppdmmegdefhaaOwnMore
import Derived.OpenShut
import Derived.Lib.Hide
import Derived.Deep.DeepMust
set_option linter.unusedSimpArgs false
set_option linter.unusedVariables false
namespace Go.Proofs.Ytjppdmmegdefhaa.Fib
open Go.RowKit RI64
/-- Who lies apart from whom. -/
structure Four0 (w : World) (base : Nat) (S1 S2 S3 S4 : List Nat) : Prop where
  f1 : ∀ k ∈ S1, w.heap.size ≤ k ∧ k < base
  f2 : ∀ k ∈ S2, w.heap.size ≤ k ∧ k < base
  f3 : ∀ k ∈ S3, w.heap.size ≤ k ∧ k < base
  f4 : ∀ k ∈ S4, w.heap.size ≤ k ∧ k < base
  d12 : ∀ k, k ∈ S1 → k ∈ S2 → False
  d13 : ∀ k, k ∈ S1 → k ∈ S3 → False
  d14 : ∀ k, k ∈ S1 → k ∈ S4 → False
  d23 : ∀ k, k ∈ S2 → k ∈ S3 → False
  d24 : ∀ k, k ∈ S2 → k ∈ S4 → False
  d34 : ∀ k, k ∈ S3 → k ∈ S4 → False
  wb : w.heap.size ≤ base
/-- Four counters of height 100, and a row of the call's own. -/
structure Four (Cnt : World → Nat → List Nat → Int → List Int → Prop) (w : World) (base b1 b2 b3 b4 : Nat) (S1 S2 S3 S4 : List Nat) (v : Value) (L h1 h2 h3 h4 : List Int) (W : World) : Prop where
  one : Cnt W b1 S1 100 h1
  two : Cnt W b2 S2 100 h2
  three : Cnt W b3 S3 100 h3
  four : Cnt W b4 S4 100 h4
  row : W.ownsRow base 2 1 v L.length (vals L)
  below : Below w.heap.size w W
  base_ : base ≤ W.heap.size
section
variable {Cnt : World → Nat → List Nat → Int → List Int → Prop} (K : FibKit Cnt) {w W W' : World} {base b1 b2 b3 b4 : Nat} {S1 S2 S3 S4 : List Nat} {v : Value} {L h1 h2 h3 h4 h9 : List Int}
include K
theorem Four.grow (h : Four Cnt w base b1 b2 b3 b4 S1 S2 S3 S4 v L h1 h2 h3 h4 W) (hB : Below W.heap.size W W') : Four Cnt w base b1 b2 b3 b4 S1 S2 S3 S4 v L h1 h2 h3 h4 W' :=
  ⟨K.below h.one hB, K.below h.two hB, K.below h.three hB, K.below h.four hB, own_kept h.row (Kept.of_below (S := []) hB) (by simp), h.below.trans (hB.mono h.below.size), Nat.le_trans h.base_ hB.size⟩
theorem Four.appended {u : Value} {M : List Int} (h : Four Cnt w base b1 b2 b3 b4 S1 S2 S3 S4 v L h1 h2 h3 h4 W) (F : Four0 w base S1 S2 S3 S4) (hO : W'.ownsRow base 2 1 u M.length (vals M)) (hg : W.grownBy W' v.ownBlock) : Four Cnt w base b1 b2 b3 b4 S1 S2 S3 S4 u M h1 h2 h3 h4 W' :=
  ⟨K.kept h.one (Kept.of_grown hg) (fun k hk h9 => Nat.lt_irrefl _ (Nat.lt_of_lt_of_le (F.f1 k hk).2 (own_in h.row k h9))), K.kept h.two (Kept.of_grown hg) (fun k hk h9 => Nat.lt_irrefl _ (Nat.lt_of_lt_of_le (F.f2 k hk).2 (own_in h.row k h9))),
   K.kept h.three (Kept.of_grown hg) (fun k hk h9 => Nat.lt_irrefl _ (Nat.lt_of_lt_of_le (F.f3 k hk).2 (own_in h.row k h9))), K.kept h.four (Kept.of_grown hg) (fun k hk h9 => Nat.lt_irrefl _ (Nat.lt_of_lt_of_le (F.f4 k hk).2 (own_in h.row k h9))), hO,
   below_kept h.below (Kept.of_grown hg) h.below.size (fun k hk => Nat.le_trans F.wb (own_in h.row k hk)), Nat.le_trans h.base_ (Kept.of_grown hg).size⟩
theorem Four.push1 (h : Four Cnt w base b1 b2 b3 b4 S1 S2 S3 S4 v L h1 h2 h3 h4 W) (F : Four0 w base S1 S2 S3 S4) (hP : Cnt W' b1 S1 100 h9) (hK : Kept S1 W W') : Four Cnt w base b1 b2 b3 b4 S1 S2 S3 S4 v L h9 h2 h3 h4 W' :=
  ⟨hP, K.kept h.two hK (fun k h1 h2 => F.d12 k h2 h1), K.kept h.three hK (fun k h1 h2 => F.d13 k h2 h1), K.kept h.four hK (fun k h1 h2 => F.d14 k h2 h1), own_kept h.row hK (fun k hk => (F.f1 k hk).2), below_kept h.below hK h.below.size (fun k hk => (F.f1 k hk).1), Nat.le_trans h.base_ hK.size⟩
theorem Four.push2 (h : Four Cnt w base b1 b2 b3 b4 S1 S2 S3 S4 v L h1 h2 h3 h4 W) (F : Four0 w base S1 S2 S3 S4) (hP : Cnt W' b2 S2 100 h9) (hK : Kept S2 W W') : Four Cnt w base b1 b2 b3 b4 S1 S2 S3 S4 v L h1 h9 h3 h4 W' :=
  ⟨K.kept h.one hK (fun k h1 h2 => F.d12 k h1 h2), hP, K.kept h.three hK (fun k h1 h2 => F.d23 k h2 h1), K.kept h.four hK (fun k h1 h2 => F.d24 k h2 h1), own_kept h.row hK (fun k hk => (F.f2 k hk).2), below_kept h.below hK h.below.size (fun k hk => (F.f2 k hk).1), Nat.le_trans h.base_ hK.size⟩
theorem Four.push3 (h : Four Cnt w base b1 b2 b3 b4 S1 S2 S3 S4 v L h1 h2 h3 h4 W) (F : Four0 w base S1 S2 S3 S4) (hP : Cnt W' b3 S3 100 h9) (hK : Kept S3 W W') : Four Cnt w base b1 b2 b3 b4 S1 S2 S3 S4 v L h1 h2 h9 h4 W' :=
  ⟨K.kept h.one hK (fun k h1 h2 => F.d13 k h1 h2), K.kept h.two hK (fun k h1 h2 => F.d23 k h1 h2), hP, K.kept h.four hK (fun k h1 h2 => F.d34 k h2 h1), own_kept h.row hK (fun k hk => (F.f3 k hk).2), below_kept h.below hK h.below.size (fun k hk => (F.f3 k hk).1), Nat.le_trans h.base_ hK.size⟩
theorem Four.push4 (h : Four Cnt w base b1 b2 b3 b4 S1 S2 S3 S4 v L h1 h2 h3 h4 W) (F : Four0 w base S1 S2 S3 S4) (hP : Cnt W' b4 S4 100 h9) (hK : Kept S4 W W') : Four Cnt w base b1 b2 b3 b4 S1 S2 S3 S4 v L h1 h2 h3 h9 W' :=
  ⟨K.kept h.one hK (fun k h1 h2 => F.d14 k h1 h2), K.kept h.two hK (fun k h1 h2 => F.d24 k h1 h2), K.kept h.three hK (fun k h1 h2 => F.d34 k h1 h2), hP, own_kept h.row hK (fun k hk => (F.f4 k hk).2), below_kept h.below hK h.below.size (fun k hk => (F.f4 k hk).1), Nat.le_trans h.base_ hK.size⟩
end
set_option maxRecDepth 100000 in
set_option maxHeartbeats 4000000 in
theorem bounds_k {Cnt : World → Nat → List Nat → Int → List Int → Prop} (K : FibKit Cnt) (a0 : Option Addr) (len0 cap0 : Nat) (z0 : List Int) (w : World) (w0 : IsRow .i16 w a0 len0 cap0 z0) :
    Calls Try.prog 4 #[.slice a0 len0 cap0] w fun e w' => e = .returned (.bool true) ∧ Below w.heap.size w w' := by
  obtain ⟨p, hp⟩ : ∃ p, min len0 700 = p := ⟨_, rfl⟩
  have hp1 : p ≤ len0 := by omega
  have hminA : (if (700 : Int) < (len0 : Int) then (700 : Int) else (len0 : Int)) = (p : Int) := by split <;> omega
  clear hp
  obtain ⟨hc01, hc02, _, hcells⟩ := row_first bounds_i16 w0 p hp1
  have hp3 : p ≤ cap0 := by omega
  generalize z0.take p = x0 at *
  clear w0
  have hli := fun W => live_k K W
  have hnew := fun W => K.new_yes W 100 (by omega)
  have HInfo := Lib.hid (show (Try.prog.info? 2).map (fun i => (i.zero, i.size, i.bytes)) = some (some (.int .i64 0), 1, 8) by kernel_rfl)
  go_enter Try.func4, Try.ntmps4
  go_wp2_with (first
    | (go_at_call 7; ((with_reducible refine (hnew w).mono ?_); rintro e W1 ⟨b1, S1, rfl, hP1, hf1, hB1⟩))
    | (go_at_call 7; ((with_reducible refine (hnew W1).mono ?_); rintro e W2 ⟨b2, S2, rfl, hP2, hf2, hB2⟩))
    | (go_at_call 7; ((with_reducible refine (hnew W2).mono ?_); rintro e W3 ⟨b3, S3, rfl, hP3, hf3, hB3⟩))
    | (go_at_call 7; ((with_reducible refine (hnew W3).mono ?_); rintro e W4 ⟨b4, S4, rfl, hP4, hf4, hB4⟩)))
  have hs1 := hB1.size
  have hs2 := hB2.size
  have hs3 := hB3.size
  have hs4 := hB4.size
  have ht1 := (K.lt hP1).2
  have ht2 := (K.lt hP2).2
  have ht3 := (K.lt hP3).2
  have ht4 := (K.lt hP4).2
  have F : Four0 w W4.heap.size S1 S2 S3 S4 := ⟨fun k hk => by have := hf1 k hk; have := ht1 k hk; omega, fun k hk => by have := hf2 k hk; have := ht2 k hk; omega, fun k hk => by have := hf3 k hk; have := ht3 k hk; omega, fun k hk => by have := hf4 k hk; have := ht4 k hk; omega,
    fun k h1 h2 => by have := ht1 k h1; have := hf2 k h2; omega, fun k h1 h2 => by have := ht1 k h1; have := hf3 k h2; omega, fun k h1 h2 => by have := ht1 k h1; have := hf4 k h2; omega,
    fun k h1 h2 => by have := ht2 k h1; have := hf3 k h2; omega, fun k h1 h2 => by have := ht2 k h1; have := hf4 k h2; omega, fun k h1 h2 => by have := ht3 k h1; have := hf4 k h2; omega, by omega⟩
  have hB34 : Below W3.heap.size W3 W4 := hB4
  have hat0 : Four Cnt w W4.heap.size b1 b2 b3 b4 S1 S2 S3 S4 (.slice none 0 0) [] [] [] [] [] W4 :=
    ⟨K.below (K.below (K.below hP1 hB2) hB3) hB4, K.below (K.below hP2 hB3) hB4, K.below hP3 hB4, hP4, own_none _ _ _, ((hB1.trans (hB2.mono hs1)).trans (hB3.mono (by omega))).trans (hB4.mono (by omega)), Nat.le_refl _⟩
  have HF := Lib.hid F
  clear F hnew hP1 hP2 hP3 hP4 hB1 hB2 hB3 hB4 hB34 hs1 hs2 hs3 hs4 ht1 ht2 ht3 ht4 hf1 hf2 hf3 hf4 hminA
  go_loopw [11, 50] (fun v i wr => ∃ (j : Nat) (L hl hh : List Int), j ≤ 900 ∧ i = .int .i64 (j : Nat) ∧ L.length = j ∧ (∀ u ∈ hl, u < 100) ∧ (∀ u ∈ hh, 100 ≤ u) ∧ Four Cnt w W4.heap.size b1 b2 b3 b4 S1 S2 S3 S4 v L L.reverse [] hl hh wr) (fun _ i _ => 900 - (intOf i).toNat)
  case atStart => exact ⟨0, [], [], [], by omega, rfl, rfl, (fun u hu => by cases hu), (fun u hu => by cases hu), hat0⟩
  case round =>
    clear hat0
    obtain ⟨j, L, hl, hh, hj, rfl, hLj, hlo, hhi, hat⟩ := hrel
    by_cases hjn : j < 900
    · have hjz : (j : Int) < 900 := by omega
      by_cases h0 : p = 0
      · have h0z : ((p : Int) == 0) = true := by simp [h0]
        clear hcells h0
        have hrow := hat.row
        rw [hLj] at hrow
        obtain ⟨A1, c1, rfl, e1, e2, hV1, hfar1, _⟩ := Vals.own hrow
        have had := K.push_any wr b2 S2 100 [] A1 j c1 L hat.two hV1 (by omega) (fun z _ hz hk => Nat.lt_irrefl _ (Nat.lt_of_lt_of_le (HF.out.f2 _ hk).2 (hfar1 z hz).1))
        rw [List.append_nil] at had
        have hcn := fun W hP => K.count_any W b1 S1 100 L.reverse hP
        generalize countT 100 L.reverse = s at *
        clear hrow hV1 hfar1 hLj hlo hhi
        go_wp2_with (first
          | (go_at_call 11; ((with_reducible refine had.mono ?_); rintro e X1 ⟨rfl, hP1, hK1⟩; have hat1 := hat.push2 K HF.out hP1 hK1))
          | (go_at_call 10; ((with_reducible refine (hcn _ hat1.one).mono ?_); rintro e X2 ⟨rfl, hB⟩; have hat2 := hat1.grow K hB; clear hB))
          | (go_at_call 8; ((with_reducible refine (hli _).mono ?_); rintro e X3 ⟨rfl, hB⟩; have hat3 := hat2.grow K hB; clear hB)))
        go_ret
        exact ⟨rfl, hat3.below⟩
      · have h0z : ((p : Int) == 0) = false := by simp [h0]
        have h0p : 0 < p := by omega
        obtain ⟨x, rfl, hcx⟩ := hcells h0p
        obtain ⟨r, hr⟩ : ∃ r, j % p = r := ⟨_, rfl⟩
        have hr2 : r < p := by rw [← hr]; exact Nat.mod_lt _ h0p
        have hrz : (j : Int).tmod (p : Int) = (r : Int) := by rw [← hr, Int.tmod_eq_emod_of_nonneg (by omega)]; omega
        obtain ⟨hcell0, hv1, hv2⟩ := hcx r hr2
        have hcell := (hat.below.cell (World.block_lt_of_cell? _ _ hcell0)).trans hcell0
        generalize x0.getD r 0 = v at *
        have hrn : (r : Int) < (p : Int) := by omega
        have hat1 := hat.grow K ((Below.refl _ wr).alloc (Nat.le_refl _) (.cells #[.int .i64 v] 2))
        have hV1 : Vals (wr.alloc (.cells #[.int .i64 v] 2)) (some ⟨wr.heap.size, 0, none⟩) 1 [v] := Vals.has (ys := [v]) (tl := []) (Has.new wr _ _)
        have hrev : v :: L.reverse = (L ++ [v]).reverse := by simp
        have hl1 : (L ++ [v]).length = j + 1 := by rw [List.length_append, hLj]; rfl
        have hcb := count_bd 100 (v :: L.reverse)
        obtain ⟨mn, hmn⟩ : ∃ m, (if (99 : Int) < v then 99 else v) = m := ⟨_, rfl⟩
        have hmn2 : mn < 100 := by rw [← hmn]; split <;> omega
        have hmn3 : -32768 ≤ mn := by rw [← hmn]; split <;> omega
        obtain ⟨mx, hmx⟩ : ∃ m, (if v < (100 : Int) then 100 else v) = m := ⟨_, rfl⟩
        have hmx2 : 100 ≤ mx := by rw [← hmx]; split <;> omega
        have hmx3 : mx ≤ 32767 := by rw [← hmx]; split <;> omega
        have hlo2 : ∀ u ∈ mn :: hl, u < 100 := fun u hu => by rcases List.mem_cons.1 hu with rfl | hu; exact hmn2; exact hlo u hu
        have hhi2 : ∀ u ∈ mx :: hh, 100 ≤ u := fun u hu => by rcases List.mem_cons.1 hu with rfl | hu; exact hmx2; exact hhi u hu
        have hz3 := count_below 100 _ hlo2
        have hz4 := count_above 100 _ hhi2
        generalize hcv : countT 100 (v :: L.reverse) = cv at *
        have HCV := Lib.hid hcv
        have hLn : L.length ≤ 900 := by omega
        have HREV := Lib.hid hrev
        have HLO := Lib.hid hlo2
        have HHI := Lib.hid hhi2
        have HZ3 := Lib.hid hz3
        have HZ4 := Lib.hid hz4
        have HL1 := Lib.hid hl1
        clear hcx hcells hcell0 hr hlo hhi hlo2 hhi2 hz3 hz4 hrev hLj hl1 hcv
        go_wp2_with (first
          | (at_builtin; go_must (refine wpList_append_vals rfl (.tmp 64) (.tmp 66) _ rfl W4.heap.size 2 8 (by omega) Try.underlying28 HInfo.out u11 L.length L rfl (by exact hat1.row) _ 1 1 [v] rfl (by exact hV1) (by omega) (by exact hat1.base_) ?_); go_must (intro v3 X3 hO3 hg3 hat3); go_must (rw [show L.length + 1 = (L ++ [v]).length by simp] at hO3); go_must (have hat4 := hat1.appended K HF.out hO3 hg3); go_must (have hpu := K.push_one X3 2 v hat4.one (K.lt hat4.one).2 1); go_must (rw [HCV.out, HREV.out] at hpu))
          | (go_at_call 11; ((with_reducible refine hpu.mono ?_); rintro e X5 ⟨rfl, hP5, hK5⟩; have hat5 := hat4.push1 K HF.out hP5 hK5; have hpv := K.push_one X5 2 mn hat5.three (K.lt hat5.three).2 1; rw [HZ3.out] at hpv))
          | (go_at_call 11; ((with_reducible refine hpv.mono ?_); rintro e X6 ⟨rfl, hP6, hK6⟩; have hat6 := hat5.push3 K HF.out hP6 hK6; have hpw := K.push_one X6 2 mx hat6.four (K.lt hat6.four).2 1; rw [HZ4.out] at hpw))
          | (go_at_call 11; ((with_reducible refine hpw.mono ?_); rintro e X7 ⟨rfl, hP7, hK7⟩; have hat7 := hat6.push4 K HF.out hP7 hK7)))
        go_roundw
        case rel => exact ⟨j + 1, L ++ [v], mn :: hl, mx :: hh, by omega, by go_num, HL1.out, HLO.out, HHI.out, hat7⟩
        case measure => simp [intOf]; omega
    · have hjz : ¬ (j : Int) < 900 := by omega
      clear hcells
      have hrow := hat.row
      rw [hLj] at hrow
      obtain ⟨A1, c1, rfl, e1, e2, hV1, hfar1, _⟩ := Vals.own hrow
      have had := K.push_any wr b2 S2 100 [] A1 j c1 L hat.two hV1 (by omega) (fun z _ hz hk => Nat.lt_irrefl _ (Nat.lt_of_lt_of_le (HF.out.f2 _ hk).2 (hfar1 z hz).1))
      rw [List.append_nil] at had
      have hcn := fun W hP => K.count_any W b1 S1 100 L.reverse hP
      generalize countT 100 L.reverse = s at *
      clear hrow hV1 hfar1 hLj hlo hhi
      go_wp2_with (first
        | (go_at_call 11; ((with_reducible refine had.mono ?_); rintro e X1 ⟨rfl, hP1, hK1⟩; have hat1 := hat.push2 K HF.out hP1 hK1))
        | (go_at_call 10; ((with_reducible refine (hcn _ hat1.one).mono ?_); rintro e X2 ⟨rfl, hB⟩; have hat2 := hat1.grow K hB; clear hB))
        | (go_at_call 8; ((with_reducible refine (hli _).mono ?_); rintro e X3 ⟨rfl, hB⟩; have hat3 := hat2.grow K hB; clear hB)))
      go_ret
      exact ⟨rfl, hat3.below⟩
end Go.Proofs.Ytjppdmmegdefhaa.Fib
