/- FibCounts, over whatever a counter's calls answer. -/
import Derived.Test.YtjppdmmegdefhaaFibLive
import Derived.Test.YtjppdmmegdefhaaFibRef
import Derived.Test.YtjppdmmegdefhaaFlat
import Derived.Test.YtjppdmmegdefhaaRegion
import Derived.Test.YtjppdmmegdefhaaOwnMore
import Derived.Test.YtjppdmmegdefhaaEventIn
import Derived.OpenShut
import Derived.Lib.Hide
import Derived.Deep.DeepMust
set_option linter.unusedSimpArgs false
set_option linter.unusedVariables false
namespace Go.Proofs.Ytjppdmmegdefhaa.Fib
open Go.RowKit RI64
/-- A run: its value, and how often. -/
abbrev Rn := Int × Int
def noRn : Rn := (0, 0)
def rnS : Row.Shape Rn := ⟨2, fun v => [.int .i64 v.1, .int .u8 v.2], fun _ => rfl, by decide, fun p u hu => by
  simp at hu
  rcases hu with rfl | rfl <;> rfl⟩
def RnOk (r : Rn) : Prop := 0 ≤ r.2 ∧ r.2 ≤ 255
theorem rn_dec (vs : List Value) (h : Row.Oks [.int .i64, .int .u8] vs) : ∃ z : Rn, rnS.enc z = vs ∧ RnOk z := by
  obtain ⟨v1, r1, rfl, ⟨k, rfl, hk⟩, h1⟩ := Row.oks_cons h
  obtain ⟨v2, r2, rfl, ⟨a, rfl, ha⟩, h2⟩ := Row.oks_cons h1
  obtain rfl := Row.oks_nil h2
  exact ⟨(k, a), rfl, bounds_u8 ha⟩
theorem part_at {α : Type} {S : Row.Shape α} {w : World} {x : Addr} {len : Nat} {ys : List α} (h : Row.Vals S w (some x) len ys) (i m : Nat) (hi : i < ys.length) (u : Value) (hu : (S.enc ys[i])[m]? = some u) (h0 : m ≠ 0) :
    w.cell? ⟨(x.add (i * S.k)).block, (x.add (i * S.k)).off + m, none⟩ = some u := by
  have h1 := h.at_ i m hi u hu
  rwa [show x.add (i * S.k + m) = ⟨(x.add (i * S.k)).block, (x.add (i * S.k)).off + m, none⟩ by
    unfold Addr.add
    by_cases h2 : i * S.k = 0 <;> simp [h2, h0, Nat.add_assoc]] at h1
theorem rn_cells {w : World} {x : Addr} {len : Nat} {ys : List Rn} (h : Row.Vals rnS w (some x) len ys) (i : Nat) (hi : i < len) :
    w.cell? (x.add (i * 2)) = some (.int .i64 (ys.getD i noRn).1) ∧ w.cell? ⟨(x.add (i * 2)).block, (x.add (i * 2)).off + 1, none⟩ = some (.int .u8 (ys.getD i noRn).2) := by
  have hl := h.len_
  have e : ys.getD i noRn = ys[i]'(by omega) := by rw [List.getD_eq_getElem?_getD, List.getElem?_eq_getElem (by omega)]; rfl
  rw [e]
  exact ⟨by simpa [rnS] using h.at_ i 0 (by omega) _ rfl, part_at h i 1 (by omega) _ rfl (by omega)⟩
/-- Where the loop stands: these values came since it was made, or reset. -/
structure At (Cnt : World → Nat → List Nat → Int → List Int → Prop) (w : World) (base b : Nat) (S : List Nat) (H : Int) (v : Value) (L : List Int) (W : World) : Prop where
  cnt : Cnt W b S H L.reverse
  row : W.ownsRow base 2 1 v L.length (vals L)
  below : Below w.heap.size w W
  base_ : base ≤ W.heap.size
section
variable {Cnt : World → Nat → List Nat → Int → List Int → Prop} (K : FibKit Cnt) {w W W' : World} {base b : Nat} {S : List Nat} {H : Int} {v : Value} {L : List Int}
include K
theorem At.grow (h : At Cnt w base b S H v L W) (hB : Below W.heap.size W W') : At Cnt w base b S H v L W' :=
  ⟨K.below h.cnt hB, own_kept h.row (Kept.of_below (S := []) hB) (by simp), h.below.trans (hB.mono h.below.size), Nat.le_trans h.base_ hB.size⟩
end
/-- Within the inner loop: the row has grown, the counter has not had the last value yet, or has; the run lies at g. -/
structure In (Cnt : World → Nat → List Nat → Int → List Int → Prop) (w : World) (base b : Nat) (S : List Nat) (H : Int) (v : Value) (L h : List Int) (g : Nat) (r1 r2 : Int) (W : World) : Prop where
  cnt : Cnt W b S H h
  row : W.ownsRow base 2 1 v L.length (vals L)
  below : Below w.heap.size w W
  base_ : base ≤ W.heap.size
  run : Has W g 30 #[.int .i64 r1, .int .u8 r2]
  far : v.ownBlock ≠ some g
  gb : base ≤ g
section
variable {Cnt : World → Nat → List Nat → Int → List Int → Prop} (K : FibKit Cnt) {w W W' : World} {base b g : Nat} {S : List Nat} {H r1 r2 : Int} {v : Value} {L h h9 : List Int}
include K
theorem In.grow (s : In Cnt w base b S H v L h g r1 r2 W) (hB : Below W.heap.size W W') : In Cnt w base b S H v L h g r1 r2 W' :=
  ⟨K.below s.cnt hB, own_kept s.row (Kept.of_below (S := []) hB) (by simp), s.below.trans (hB.mono s.below.size), Nat.le_trans s.base_ hB.size, (Kept.of_below (S := []) hB).has s.run (by simp), s.far, s.gb⟩
theorem In.appended {u : Value} {M : List Int} (s : In Cnt w base b S H v L h g r1 r2 W) (hS : ∀ k ∈ S, k < base) (hw : w.heap.size ≤ base) (hO : W'.ownsRow base 2 1 u M.length (vals M)) (hg : W.grownBy W' v.ownBlock) (hat : u.ownBlock = v.ownBlock ∨ u.ownBlock = some W.heap.size) :
    In Cnt w base b S H u M h g r1 r2 W' :=
  ⟨K.kept s.cnt (Kept.of_grown hg) (fun k hk h9 => Nat.lt_irrefl _ (Nat.lt_of_lt_of_le (hS k hk) (own_in s.row k h9))), hO, below_kept s.below (Kept.of_grown hg) s.below.size (fun k hk => Nat.le_trans hw (own_in s.row k hk)), Nat.le_trans s.base_ (Kept.of_grown hg).size,
   (Kept.of_grown hg).has s.run (fun h8 => s.far (by cases hv : v.ownBlock with | none => rw [hv] at h8; simp at h8 | some k => rw [hv] at h8; simp at h8; rw [h8])), fun h8 => by
    rcases hat with h7 | h7
    · exact s.far (h7 ▸ h8)
    · rw [h7] at h8
      injection h8 with h8
      have := s.run.lt
      omega, s.gb⟩
end
theorem In.pushed {Cnt : World → Nat → List Nat → Int → List Int → Prop} {w W W' : World} {base b g : Nat} {S : List Nat} {H r1 r2 : Int} {v : Value} {L h h9 : List Int} (s : In Cnt w base b S H v L h g r1 r2 W) (hS : ∀ k ∈ S, w.heap.size ≤ k ∧ k < base) (hP : Cnt W' b S H h9) (hK : Kept S W W') : In Cnt w base b S H v L h9 g r1 r2 W' :=
  ⟨hP, own_kept s.row hK (fun k hk => (hS k hk).2), below_kept s.below hK s.below.size (fun k hk => (hS k hk).1), Nat.le_trans s.base_ hK.size, hK.has s.run (fun h8 => by have := (hS g h8).2; have := s.gb; omega), s.far, s.gb⟩
theorem In.emptied {Cnt : World → Nat → List Nat → Int → List Int → Prop} {w W : World} {base b g : Nat} {S : List Nat} {H r1 r2 : Int} {v : Value} {L : List Int} (s : In Cnt w base b S H v L [] g r1 r2 W) : In Cnt w base b S H (.slice none 0 0) [] [] g r1 r2 W :=
  ⟨s.cnt, own_none _ _ _, s.below, s.base_, s.run, by simp [Value.ownBlock], s.gb⟩
theorem At.into {Cnt : World → Nat → List Nat → Int → List Int → Prop} (K : FibKit Cnt) {w W : World} {base b : Nat} {S : List Nat} {H : Int} {v : Value} {L : List Int} (h : At Cnt w base b S H v L W) (r1 r2 : Int) :
    In Cnt w base b S H v L L.reverse W.heap.size r1 r2 (W.alloc (.cells #[.int .i64 r1, .int .u8 r2] 30)) :=
  have h2 := h.grow K ((Below.refl _ W).alloc (Nat.le_refl _) (.cells #[.int .i64 r1, .int .u8 r2] 30))
  ⟨h2.cnt, h2.row, h2.below, h2.base_, Has.new W _ _, fun h9 => Nat.lt_irrefl _ (own_block h.row _ h9).2, h.base_⟩
set_option maxRecDepth 100000 in
set_option maxHeartbeats 4000000 in
theorem counts_k {Cnt : World → Nat → List Nat → Int → List Int → Prop} (K : FibKit Cnt) (a0 : Int) (a1 : Option Addr) (len1 cap1 : Nat) (z1 : List Rn) (a2 : Int) (w : World) (w1 : Row.IsFlat rnS RnOk w a1 len1 cap1 z1) (b2 : 0 ≤ a2 ∧ a2 ≤ 255) :
    Calls Try.prog 3 #[.int .i64 a0, .slice a1 len1 cap1, .int .u8 a2] w fun e w' => e = .returned (.bool true) ∧ Below w.heap.size w w' := by
  have hli := fun W => live_k K W
  by_cases hno : a0 < 1 ∨ 142847 < a0
  · have hnew := K.new_no w a0 hno
    rcases hno with h | h
    · go_enter Try.func3, Try.ntmps3
      go_wp2_with (first
        | (go_at_call 7; ((with_reducible refine hnew.mono ?_); rintro e W1 ⟨rfl, hB1⟩))
        | (go_at_call 8; ((with_reducible refine (hli _).mono ?_); rintro e W9 ⟨rfl, hN⟩; have hB9 := hB1.trans (hN.mono hB1.size))))
      go_ret
      exact ⟨rfl, hB9⟩
    · have h1 : ¬ a0 < 1 := by omega
      go_enter Try.func3, Try.ntmps3
      go_wp2_with (first
        | (go_at_call 7; ((with_reducible refine hnew.mono ?_); rintro e W1 ⟨rfl, hB1⟩))
        | (go_at_call 8; ((with_reducible refine (hli _).mono ?_); rintro e W9 ⟨rfl, hN⟩; have hB9 := hB1.trans (hN.mono hB1.size))))
      go_ret
      exact ⟨rfl, hB9⟩
  have ha1 : ¬ a0 < 1 := by omega
  have ha2 : ¬ 142847 < a0 := by omega
  have hnew := K.new_yes w a0 (by omega)
  clear hno
  obtain ⟨c, rfl⟩ : ∃ c : Nat, a2 = (c : Int) := ⟨a2.toNat, by omega⟩
  obtain ⟨p, hp⟩ : ∃ p, min len1 30 = p := ⟨_, rfl⟩
  have hp1 : p ≤ len1 := by omega
  have hp2 : p ≤ 30 := by omega
  have hminA : (if (30 : Int) < (len1 : Int) then (30 : Int) else (len1 : Int)) = (p : Int) := by split <;> omega
  have hV0 := w1.row
  have hok := w1.each
  have hc1 := w1.le
  have hc2 := w1.max
  have hp3 : p ≤ cap1 := by omega
  have HInfo := Lib.hid (show (Try.prog.info? 2).map (fun i => (i.zero, i.size, i.bytes)) = some (some (.int .i64 0), 1, 8) by kernel_rfl)
  clear hp w1
  go_enter Try.func3, Try.ntmps3
  go_wp2_with (go_at_call 7; ((with_reducible refine hnew.mono ?_); rintro e W1 ⟨b, S, rfl, hP, hfar, hB1⟩))
  have hSb : ∀ k ∈ S, k < W1.heap.size := (K.lt hP).2
  have hw1 : w.heap.size ≤ W1.heap.size := hB1.size
  have HS := Lib.hid (show (∀ k ∈ S, w.heap.size ≤ k ∧ k < W1.heap.size) ∧ (∀ k ∈ S, k < W1.heap.size) from ⟨fun k hk => ⟨hfar k hk, hSb k hk⟩, hSb⟩)
  have HW := Lib.hid hw1
  have hat0 : At Cnt w W1.heap.size b S a0 (.slice none 0 0) [] W1 := ⟨hP, own_none _ _ _, hB1, Nat.le_refl _⟩
  clear hminA hnew hP hB1 hfar hSb hw1
  go_loopw [9, 39] (fun v i wr => ∃ (j : Nat) (L : List Int), j ≤ p ∧ i = .int .i64 (j : Nat) ∧ L.length ≤ 60 * j ∧ At Cnt w W1.heap.size b S a0 v L wr) (fun _ i _ => p - (intOf i).toNat)
  case atStart => exact ⟨0, [], by omega, rfl, by simp, hat0⟩
  case round =>
    clear hat0
    obtain ⟨j, L, hj, rfl, hLj, hat⟩ := hrel
    by_cases hjp : j < p
    · have hjz : (j : Int) < (p : Int) := by omega
      have hV := hV0.below hat.below
      have hlz := hV0.len_
      obtain ⟨x, rfl, hcx⟩ := hV.cells (by omega)
      obtain ⟨y0, y1⟩ := rn_cells hV j (by omega)
      have hbo : RnOk (z1.getD j noRn) := hok _ (by rw [List.getD_eq_getElem?_getD, List.getElem?_eq_getElem (by omega)]; simp)
      obtain ⟨⟨r1, r2⟩, hq⟩ : ∃ b, z1.getD j noRn = b := ⟨_, rfl⟩
      rw [hq] at hbo y0 y1
      unfold RnOk at hbo
      dsimp only at hbo y0 y1
      obtain ⟨m2, hm2⟩ : ∃ m2 : Nat, (m2 : Int) = 1 + r2 % 60 := ⟨(1 + r2 % 60).toNat, by omega⟩
      have hm3 : m2 ≤ 60 := by omega
      have hr3 : 0 ≤ r2 % 60 ∧ r2 % 60 ≤ 59 := by omega
      have hin := hat.into K r1 r2
      have c0 := hin.run.cell 0
      have c1 := hin.run.cell 1
      clear hq hok hV0 hlz
      by_cases hcut : (j : Int) = (c : Int)
      · have hcb : ((j : Int) == (c : Int)) = true := by simp [hcut]
        have hre := K.reset_any _ b S a0 _ hin.cnt
        clear hcut
        go_wp2_with (first
          | (go_at_call 9; ((with_reducible refine hre.mono ?_); rintro e X1 ⟨rfl, hP1, hK1⟩; have hin1 := (hin.pushed HS.out.1 hP1 hK1).emptied; have hm1 := K.count_any X1 b S a0 _ hP1; rw [count_none] at hm1))
          | (go_at_call 10; ((with_reducible refine hm1.mono ?_); rintro e X2 ⟨rfl, hB⟩; have hin2 := hin1.grow K hB; clear hB; have d1 := hin2.run.cell 1)))
        clear hat hV hcx c0 c1 y0 y1 hre hm1 hin hin1 hP1 hK1 d1
        replace hin := hin2
        clear hin2
        generalize wr.heap.size = g at *
        go_loopw [9, 12, 57] (fun v n i wr => ∃ (k : Nat) (L : List Int) (s : Int), k ≤ m2 ∧ i = .int .u8 (k : Nat) ∧ n = .int .i64 s ∧ (0 < k → s = countT a0 L.reverse) ∧ L.length ≤ 60 * j + k ∧ In Cnt w W1.heap.size b S a0 v L L.reverse g r1 r2 wr) (fun _ _ i _ => m2 - (intOf i).toNat)
        case atStart => exact ⟨0, _, 0, by omega, rfl, rfl, (fun h9 => absurd h9 (by omega)), (by first | omega | (rw [List.length_nil]; omega)), hin⟩
        case round =>
          clear hin
          obtain ⟨k, M, s, hk, rfl, rfl, hs, hMj, hin⟩ := hrel
          by_cases hkm : k < m2
          · have hkz : (k : Int) < 1 + r2 % 60 := by omega
            have c0 := hin.run.cell 0
            have hin1 := hin.grow K ((Below.refl _ wr).alloc (Nat.le_refl _) (.cells #[.int .i64 r1] 2))
            have hV1 : Vals (wr.alloc (.cells #[.int .i64 r1] 2)) (some ⟨wr.heap.size, 0, none⟩) 1 [r1] := Vals.has (ys := [r1]) (tl := []) (Has.new wr _ _)
            have hrev : r1 :: M.reverse = (M ++ [r1]).reverse := by simp
            have hM1 : (M ++ [r1]).length ≤ 60 * j + (k + 1) := by rw [List.length_append]; simp; omega
            have hMn : M.length ≤ 5000 := by omega
            obtain ⟨cv, hcv⟩ : ∃ cv, countT a0 (M ++ [r1]).reverse = cv := ⟨_, rfl⟩
            have HCV := Lib.hid hcv
            have HREV := Lib.hid hrev
            have HM1 := Lib.hid hM1
            clear hs hcv hrev hM1 hMj
            go_wp2_with (first
              | (at_builtin; go_must (refine wpList_append_vals rfl (.tmp 59) (.tmp 62) _ rfl W1.heap.size 2 8 (by omega) Try.underlying28 HInfo.out u9 M.length M rfl (by exact hin1.row) _ 1 1 [r1] rfl (by exact hV1) (by omega) (by exact hin1.base_) ?_); intro v3 X3 hO3 hg3 hat3; go_must (rw [show M.length + 1 = (M ++ [r1]).length by simp] at hO3); go_must (have hin2 := hin1.appended K HS.out.2 HW.out hO3 hg3 hat3); have c1 := hin2.run.cell 0; go_must (have hpu := K.push_one X3 2 r1 hin2.cnt (K.lt hin2.cnt).2 1); go_must (rw [HREV.out, HCV.out] at hpu))
              | (go_at_call 11; ((with_reducible refine hpu.mono ?_); rintro e X5 ⟨rfl, hP5, hK5⟩; have hin5 := hin2.pushed HS.out.1 hP5 hK5)))
            go_roundw
            case rel => exact ⟨k + 1, M ++ [r1], cv, by omega, by go_num, rfl, (fun _ => HCV.out.symm), HM1.out, hin5⟩
            case measure => simp [intOf]; omega
          · obtain rfl : k = m2 := by omega
            have hkz : ¬ (k : Int) < 1 + r2 % 60 := by omega
            obtain rfl := hs (by omega)
            have hrow := hin.row
            obtain ⟨A1, c1, rfl, e1, e2, hV1, hfar1, _⟩ := Vals.own hrow
            have hrf := refcount_any a0 A1 M.length c1 M wr hV1 (by omega)
            have hcn := K.count_any wr b S a0 _ hin.cnt
            have hhe := fun W hP => K.height_any W b S a0 M.reverse hP
            have HMJ := Lib.hid hMj
            clear hrow hV1 hfar1 hMj
            generalize countT a0 M.reverse = s at *
            go_wp2_with (first
              | (go_at_call 12; ((with_reducible refine hrf.mono ?_); rintro e X1 ⟨rfl, rfl⟩))
              | (go_at_call 10; ((with_reducible refine hcn.mono ?_); rintro e X2 ⟨rfl, hB⟩; have hin2 := hin.grow K hB; clear hB))
              | (go_at_call 13; ((with_reducible refine (hhe _ hin2.cnt).mono ?_); rintro e X3 ⟨rfl, hB⟩; have hin3 := hin2.grow K hB; clear hB)))
            go_roundw
            case rel => exact ⟨j + 1, M, by omega, by go_num, by have := HMJ.out; omega, hin3.cnt, hin3.row, hin3.below, hin3.base_⟩
            case measure => simp [intOf]; omega
      · have hcb : ((j : Int) == (c : Int)) = false := by simp [hcut]
        clear hcut
        go_wp2
        clear hat hV hcx c0 c1 y0 y1
        generalize wr.heap.size = g at *
        go_loopw [9, 12, 57] (fun v n i wr => ∃ (k : Nat) (L : List Int) (s : Int), k ≤ m2 ∧ i = .int .u8 (k : Nat) ∧ n = .int .i64 s ∧ (0 < k → s = countT a0 L.reverse) ∧ L.length ≤ 60 * j + k ∧ In Cnt w W1.heap.size b S a0 v L L.reverse g r1 r2 wr) (fun _ _ i _ => m2 - (intOf i).toNat)
        case atStart => exact ⟨0, _, 0, by omega, rfl, rfl, (fun h9 => absurd h9 (by omega)), (by first | omega | (rw [List.length_nil]; omega)), hin⟩
        case round =>
          clear hin
          obtain ⟨k, M, s, hk, rfl, rfl, hs, hMj, hin⟩ := hrel
          by_cases hkm : k < m2
          · have hkz : (k : Int) < 1 + r2 % 60 := by omega
            have c0 := hin.run.cell 0
            have hin1 := hin.grow K ((Below.refl _ wr).alloc (Nat.le_refl _) (.cells #[.int .i64 r1] 2))
            have hV1 : Vals (wr.alloc (.cells #[.int .i64 r1] 2)) (some ⟨wr.heap.size, 0, none⟩) 1 [r1] := Vals.has (ys := [r1]) (tl := []) (Has.new wr _ _)
            have hrev : r1 :: M.reverse = (M ++ [r1]).reverse := by simp
            have hM1 : (M ++ [r1]).length ≤ 60 * j + (k + 1) := by rw [List.length_append]; simp; omega
            have hMn : M.length ≤ 5000 := by omega
            obtain ⟨cv, hcv⟩ : ∃ cv, countT a0 (M ++ [r1]).reverse = cv := ⟨_, rfl⟩
            have HCV := Lib.hid hcv
            have HREV := Lib.hid hrev
            have HM1 := Lib.hid hM1
            clear hs hcv hrev hM1 hMj
            go_wp2_with (first
              | (at_builtin; go_must (refine wpList_append_vals rfl (.tmp 59) (.tmp 62) _ rfl W1.heap.size 2 8 (by omega) Try.underlying28 HInfo.out u9 M.length M rfl (by exact hin1.row) _ 1 1 [r1] rfl (by exact hV1) (by omega) (by exact hin1.base_) ?_); intro v3 X3 hO3 hg3 hat3; go_must (rw [show M.length + 1 = (M ++ [r1]).length by simp] at hO3); go_must (have hin2 := hin1.appended K HS.out.2 HW.out hO3 hg3 hat3); have c1 := hin2.run.cell 0; go_must (have hpu := K.push_one X3 2 r1 hin2.cnt (K.lt hin2.cnt).2 1); go_must (rw [HREV.out, HCV.out] at hpu))
              | (go_at_call 11; ((with_reducible refine hpu.mono ?_); rintro e X5 ⟨rfl, hP5, hK5⟩; have hin5 := hin2.pushed HS.out.1 hP5 hK5)))
            go_roundw
            case rel => exact ⟨k + 1, M ++ [r1], cv, by omega, by go_num, rfl, (fun _ => HCV.out.symm), HM1.out, hin5⟩
            case measure => simp [intOf]; omega
          · obtain rfl : k = m2 := by omega
            have hkz : ¬ (k : Int) < 1 + r2 % 60 := by omega
            obtain rfl := hs (by omega)
            have hrow := hin.row
            obtain ⟨A1, c1, rfl, e1, e2, hV1, hfar1, _⟩ := Vals.own hrow
            have hrf := refcount_any a0 A1 M.length c1 M wr hV1 (by omega)
            have hcn := K.count_any wr b S a0 _ hin.cnt
            have hhe := fun W hP => K.height_any W b S a0 M.reverse hP
            have HMJ := Lib.hid hMj
            clear hrow hV1 hfar1 hMj
            generalize countT a0 M.reverse = s at *
            go_wp2_with (first
              | (go_at_call 12; ((with_reducible refine hrf.mono ?_); rintro e X1 ⟨rfl, rfl⟩))
              | (go_at_call 10; ((with_reducible refine hcn.mono ?_); rintro e X2 ⟨rfl, hB⟩; have hin2 := hin.grow K hB; clear hB))
              | (go_at_call 13; ((with_reducible refine (hhe _ hin2.cnt).mono ?_); rintro e X3 ⟨rfl, hB⟩; have hin3 := hin2.grow K hB; clear hB)))
            go_roundw
            case rel => exact ⟨j + 1, M, by omega, by go_num, by have := HMJ.out; omega, hin3.cnt, hin3.row, hin3.below, hin3.base_⟩
            case measure => simp [intOf]; omega
    · have hjz : ¬ (j : Int) < (p : Int) := by omega
      have hB := hat.below
      clear hat hV0 hok
      go_wp2_with (go_at_call 8; ((with_reducible refine (hli _).mono ?_); rintro e W9 ⟨rfl, hN⟩))
      go_ret
      exact ⟨rfl, hB.trans (hN.mono hB.size)⟩
end Go.Proofs.Ytjppdmmegdefhaa.Fib
