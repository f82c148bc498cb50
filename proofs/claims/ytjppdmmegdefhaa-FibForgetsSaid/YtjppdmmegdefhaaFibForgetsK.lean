/- FibForgets, over whatever a counter's calls answer. -/
import Derived.Test.YtjppdmmegdefhaaFibLive
import Derived.Test.YtjppdmmegdefhaaRowFirst
import Derived.Test.YtjppdmmegdefhaaRegion
import Derived.OpenShut
import Derived.Lib.Hide
import Derived.Deep.DeepMust
set_option linter.unusedSimpArgs false
set_option linter.unusedVariables false
namespace Go.Proofs.Ytjppdmmegdefhaa.Fib
open Go.RowKit RI64
/-- Two counters. -/
structure Two (Cnt : World → Nat → List Nat → Int → List Int → Prop) (w : World) (b1 b2 : Nat) (S1 S2 : List Nat) (H : Int) (h1 h2 : List Int) (W : World) : Prop where
  one : Cnt W b1 S1 H h1
  two : Cnt W b2 S2 H h2
  below : Below w.heap.size w W
section
variable {Cnt : World → Nat → List Nat → Int → List Int → Prop} (K : FibKit Cnt) {w W W' : World} {b1 b2 : Nat} {S1 S2 : List Nat} {H : Int} {h1 h2 h3 : List Int}
include K
theorem Two.grow (h : Two Cnt w b1 b2 S1 S2 H h1 h2 W) (hB : Below W.heap.size W W') : Two Cnt w b1 b2 S1 S2 H h1 h2 W' := ⟨K.below h.one hB, K.below h.two hB, h.below.trans (hB.mono h.below.size)⟩
theorem Two.push1 (h : Two Cnt w b1 b2 S1 S2 H h1 h2 W) (hP : Cnt W' b1 S1 H h3) (hK : Kept S1 W W') (hf : ∀ k ∈ S1, w.heap.size ≤ k) (hd : ∀ k ∈ S2, k ∉ S1) : Two Cnt w b1 b2 S1 S2 H h3 h2 W' :=
  ⟨hP, K.kept h.two hK hd, below_kept h.below hK h.below.size hf⟩
theorem Two.push2 (h : Two Cnt w b1 b2 S1 S2 H h1 h2 W) (hP : Cnt W' b2 S2 H h3) (hK : Kept S2 W W') (hf : ∀ k ∈ S2, w.heap.size ≤ k) (hd : ∀ k ∈ S1, k ∉ S2) : Two Cnt w b1 b2 S1 S2 H h1 h3 W' :=
  ⟨K.kept h.one hK hd, hP, below_kept h.below hK h.below.size hf⟩
end
set_option maxRecDepth 100000 in
set_option maxHeartbeats 4000000 in
theorem forgets_k {Cnt : World → Nat → List Nat → Int → List Int → Prop} (K : FibKit Cnt) (a0 : Option Addr) (len0 cap0 : Nat) (z0 : List Int) (a1 : Option Addr) (len1 cap1 : Nat) (z1 : List Int) (a2 : Option Addr) (len2 cap2 : Nat) (z2 : List Int) (w : World)
    (w0 : IsRow .i16 w a0 len0 cap0 z0) (w1 : IsRow .i16 w a1 len1 cap1 z1) (w2 : IsRow .i16 w a2 len2 cap2 z2) :
    Calls Try.prog 5 #[.slice a0 len0 cap0, .slice a1 len1 cap1, .slice a2 len2 cap2] w fun e w' => e = .returned (.bool true) ∧ Below w.heap.size w w' := by
  obtain ⟨p, hp⟩ : ∃ p, min len0 300 = p := ⟨_, rfl⟩
  have hp1 : p ≤ len0 := by omega
  have hminA : (if (300 : Int) < (len0 : Int) then (300 : Int) else (len0 : Int)) = (p : Int) := by split <;> omega
  clear hp
  obtain ⟨q, hq⟩ : ∃ q, min len1 300 = q := ⟨_, rfl⟩
  have hq1 : q ≤ len1 := by omega
  have hminB : (if (300 : Int) < (len1 : Int) then (300 : Int) else (len1 : Int)) = (q : Int) := by split <;> omega
  clear hq
  obtain ⟨hc01, hc02, _, hcells0⟩ := row_first bounds_i16 w0 p hp1
  obtain ⟨hc11, hc12, _, hcells1⟩ := row_first bounds_i16 w1 q hq1
  obtain ⟨hc21, hc22, _, hcells2⟩ := row_first bounds_i16 w2 len2 (Nat.le_refl _)
  have hp3 : p ≤ cap0 := by omega
  have hq3 : q ≤ cap1 := by omega
  generalize z0.take p = x0 at *
  generalize z1.take q = x1 at *
  generalize z2.take len2 = x2 at *
  clear w0 w1 w2
  have hli := fun W => live_k K W
  have hnew := fun W => K.new_yes W 50 (by omega)
  by_cases h0 : len2 = 0
  · have h0z : ((len2 : Int) == 0) = true := by simp [h0]
    clear hcells0 hcells1 hcells2 h0
    go_enter Try.func5, Try.ntmps5
    go_wp2_with (first
      | (go_at_call 7; ((with_reducible refine (hnew w).mono ?_); rintro e W1 ⟨b1, S1, rfl, hP1, hf1, hB1⟩))
      | (go_at_call 7; ((with_reducible refine (hnew W1).mono ?_); rintro e W2 ⟨b2, S2, rfl, hP2, hf2, hB2⟩; have hB3 := hB1.trans (hB2.mono hB1.size)))
      | (go_at_call 8; ((with_reducible refine (hli _).mono ?_); rintro e W9 ⟨rfl, hN⟩; have hB9 := hB3.trans (hN.mono hB3.size))))
    go_ret
    exact ⟨rfl, hB9⟩
  have h0z : ((len2 : Int) == 0) = false := by simp [h0]
  have h0p : 0 < len2 := by omega
  go_enter Try.func5, Try.ntmps5
  go_wp2_with (first
    | (go_at_call 7; ((with_reducible refine (hnew w).mono ?_); rintro e W1 ⟨b1, S1, rfl, hP1, hf1, hB1⟩))
    | (go_at_call 7; ((with_reducible refine (hnew W1).mono ?_); rintro e W2 ⟨b2, S2, rfl, hP2, hf2, hB2⟩)))
  have hlt1 : ∀ k ∈ S1, k < W1.heap.size := (K.lt hP1).2
  have hd12 : ∀ k ∈ S1, k ∉ S2 := fun k hk h9 => Nat.lt_irrefl _ (Nat.lt_of_lt_of_le (hlt1 k hk) (hf2 k h9))
  have hd21 : ∀ k ∈ S2, k ∉ S1 := fun k hk h9 => hd12 k h9 hk
  have hw1 := hB1.size
  have hf2' : ∀ k ∈ S2, w.heap.size ≤ k := fun k hk => Nat.le_trans hw1 (hf2 k hk)
  have hat0 : Two Cnt w b1 b2 S1 S2 50 [] [] W2 := ⟨K.below hP1 hB2, hP2, hB1.trans (hB2.mono hw1)⟩
  clear hnew hP1 hP2 hB1 hB2 hlt1 hw1 hf2 hminA h0
  go_loopw [53] (fun i wr => ∃ (j : Nat) (h1 : List Int), j ≤ p ∧ i = .int .i64 (j : Nat) ∧ Two Cnt w b1 b2 S1 S2 50 h1 [] wr) (fun i _ => p - (intOf i).toNat)
  case atStart => exact ⟨0, [], by omega, rfl, hat0⟩
  case round =>
    clear hat0
    obtain ⟨j, h1, hj, rfl, hat⟩ := hrel
    by_cases hjp : j < p
    · obtain ⟨x, rfl, hcx⟩ := hcells0 (by omega)
      obtain ⟨hcell0, hv1, hv2⟩ := hcx j hjp
      have hcell := (hat.below.cell (World.block_lt_of_cell? _ _ hcell0)).trans hcell0
      generalize x0.getD j 0 = v at *
      have hjz : (j : Int) < (p : Int) := by omega
      have hpu := K.push_one wr 2 v hat.one (K.lt hat.one).2 1
      clear hcx hcells0 hcells1 hcells2 hcell0
      go_wp2_with (go_at_call 11; ((with_reducible refine hpu.mono ?_); rintro e X6 ⟨rfl, hP6, hK6⟩; have hat6 := hat.push1 K hP6 hK6 hf1 hd21))
      go_roundw
      case rel => exact ⟨j + 1, v :: h1, by omega, by go_num, hat6⟩
      case measure => simp [intOf]; omega
    · obtain rfl : j = p := by omega
      clear hcells0
      go_wp2
      clear hminB
      go_loopw [69] (fun i wr => ∃ (j : Nat) (h2 : List Int), j ≤ q ∧ i = .int .i64 (j : Nat) ∧ Two Cnt w b1 b2 S1 S2 50 h1 h2 wr) (fun i _ => q - (intOf i).toNat)
      case atStart => exact ⟨0, [], by omega, rfl, hat⟩
      case round =>
        clear hat
        obtain ⟨k, h2, hk, rfl, hat⟩ := hrel
        by_cases hkq : k < q
        · obtain ⟨x, rfl, hcx⟩ := hcells1 (by omega)
          obtain ⟨hcell0, hv1, hv2⟩ := hcx k hkq
          have hcell := (hat.below.cell (World.block_lt_of_cell? _ _ hcell0)).trans hcell0
          generalize x1.getD k 0 = v at *
          have hjz : (k : Int) < (q : Int) := by omega
          have hpu := K.push_one wr 2 v hat.two (K.lt hat.two).2 1
          clear hcx hcells1 hcells2 hcell0
          go_wp2_with (go_at_call 11; ((with_reducible refine hpu.mono ?_); rintro e X6 ⟨rfl, hP6, hK6⟩; have hat6 := hat.push2 K hP6 hK6 hf2' hd12))
          go_roundw
          case rel => exact ⟨k + 1, v :: h2, by omega, by go_num, hat6⟩
          case measure => simp [intOf]; omega
        · obtain rfl : k = q := by omega
          clear hcells1
          go_wp2
          go_loopw [79] (fun i wr => ∃ (m : Nat) (L : List Int), m ≤ 460 ∧ i = .int .i64 (m : Nat) ∧ L.length = m ∧ Two Cnt w b1 b2 S1 S2 50 (L ++ h1) (L ++ h2) wr) (fun i _ => 460 - (intOf i).toNat)
          case atStart => exact ⟨0, [], by omega, rfl, rfl, hat⟩
          case round =>
            clear hat
            obtain ⟨m, L, hm, rfl, hL, hat⟩ := hrel
            by_cases hmn : m < 460
            · obtain ⟨x, rfl, hcx⟩ := hcells2 (by omega)
              obtain ⟨r, hr⟩ : ∃ r, m % len2 = r := ⟨_, rfl⟩
              have hr2 : r < len2 := by rw [← hr]; exact Nat.mod_lt _ h0p
              have hrz : (m : Int).tmod (len2 : Int) = (r : Int) := by rw [← hr, Int.tmod_eq_emod_of_nonneg (by omega)]; omega
              obtain ⟨hcell0, hv1, hv2⟩ := hcx r hr2
              have hcell := (hat.below.cell (World.block_lt_of_cell? _ _ hcell0)).trans hcell0
              generalize x2.getD r 0 = v at *
              have hmz : (m : Int) < 460 := by omega
              have hrn : (r : Int) < (len2 : Int) := by omega
              have heq : 400 ≤ m → countT 50 (v :: (L ++ h1)) = countT 50 (v :: (L ++ h2)) := fun h => count_forgets 50 (v :: L) h1 h2 (by rw [List.length_cons]; omega)
              have hL2 : (v :: L).length = m + 1 := by rw [List.length_cons, hL]
              clear hcx hcells2 hcell0 hr
              have hpu := K.push_one wr 2 v hat.one (K.lt hat.one).2 1
              by_cases hlate : 400 ≤ m
              · have he := heq hlate
                have hlz : (400 : Int) ≤ (m : Int) := by omega
                clear heq hlate
                go_wp2_with (first
                  | (go_at_call 11; ((with_reducible refine hpu.mono ?_); rintro e X6 ⟨rfl, hP6, hK6⟩; have hat6 := hat.push1 K hP6 hK6 hf1 hd21; have hpv := K.push_one X6 2 v hat6.two (K.lt hat6.two).2 1))
                  | (go_at_call 11; ((with_reducible refine hpv.mono ?_); rintro e X7 ⟨rfl, hP7, hK7⟩; have hat7 := hat6.push2 K hP7 hK7 hf2' hd12)))
                go_roundw
                case rel => exact ⟨m + 1, v :: L, by omega, by go_num, hL2, hat7⟩
                case measure => simp [intOf]; omega
              · have hlz : ¬ (400 : Int) ≤ (m : Int) := by omega
                clear heq hlate
                go_wp2_with (first
                  | (go_at_call 11; ((with_reducible refine hpu.mono ?_); rintro e X6 ⟨rfl, hP6, hK6⟩; have hat6 := hat.push1 K hP6 hK6 hf1 hd21; have hpv := K.push_one X6 2 v hat6.two (K.lt hat6.two).2 1))
                  | (go_at_call 11; ((with_reducible refine hpv.mono ?_); rintro e X7 ⟨rfl, hP7, hK7⟩; have hat7 := hat6.push2 K hP7 hK7 hf2' hd12)))
                go_roundw
                case rel => exact ⟨m + 1, v :: L, by omega, by go_num, hL2, hat7⟩
                case measure => simp [intOf]; omega
            · obtain rfl : m = 460 := by omega
              have hB := hat.below
              clear hat hcells2
              go_wp2_with (go_at_call 8; ((with_reducible refine (hli _).mono ?_); rintro e W9 ⟨rfl, hN⟩))
              go_ret
              exact ⟨rfl, hB.trans (hN.mono hB.size)⟩
end Go.Proofs.Ytjppdmmegdefhaa.Fib
