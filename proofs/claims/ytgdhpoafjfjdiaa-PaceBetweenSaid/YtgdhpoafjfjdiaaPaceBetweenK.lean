/- PaceBetween, over whatever a pace's calls answer. -/
import Derived.Test.YtgdhpoafjfjdiaaPaceLive
import Derived.Test.YtgdhpoafjfjdiaaPaceRef
import Derived.Test.YtgdhpoafjfjdiaaRowFirst
import Derived.Deep.DeepMust
set_option linter.unusedSimpArgs false
set_option linter.unusedVariables false
namespace Go.Proofs.Ytgdhpoafjfjdiaa.Pace
open Go.RowKit RI64
/-- Two paces, and a row of the call's own. -/
structure Both (Pac : World → Nat → List Nat → List Int → Prop) (w : World) (base b1 b2 : Nat) (S1 S2 : List Nat) (v : Value) (L h1 h2 : List Int) (W : World) : Prop where
  one : Pac W b1 S1 h1
  two : Pac W b2 S2 h2
  row : W.ownsRow base 2 1 v L.length (vals L)
  below : Below w.heap.size w W
  base_ : base ≤ W.heap.size
section
variable {Pac : World → Nat → List Nat → List Int → Prop} (K : PaceKit Pac) {w W W' : World} {base b1 b2 : Nat} {S1 S2 : List Nat} {v : Value} {L h1 h2 : List Int}
include K
theorem Both.grow (h : Both Pac w base b1 b2 S1 S2 v L h1 h2 W) (hB : Below W.heap.size W W') : Both Pac w base b1 b2 S1 S2 v L h1 h2 W' :=
  ⟨K.below h.one hB, K.below h.two hB, own_kept h.row (Kept.of_below (S := []) hB) (by simp), h.below.trans (hB.mono h.below.size), Nat.le_trans h.base_ hB.size⟩
theorem Both.appended {u : Value} {M : List Int} (h : Both Pac w base b1 b2 S1 S2 v L h1 h2 W) (hO : W'.ownsRow base 2 1 u M.length (vals M)) (hg : W.grownBy W' v.ownBlock) (hw : w.heap.size ≤ base) (hs1 : ∀ k ∈ S1, k < base) (hs2 : ∀ k ∈ S2, k < base) : Both Pac w base b1 b2 S1 S2 u M h1 h2 W' :=
  ⟨K.kept h.one (Kept.of_grown hg) (fun k hk h9 => Nat.lt_irrefl _ (Nat.lt_of_lt_of_le (hs1 k hk) (own_in h.row k h9))), K.kept h.two (Kept.of_grown hg) (fun k hk h9 => Nat.lt_irrefl _ (Nat.lt_of_lt_of_le (hs2 k hk) (own_in h.row k h9))), hO,
   below_kept h.below (Kept.of_grown hg) h.below.size (fun k hk => Nat.le_trans hw (own_in h.row k hk)), Nat.le_trans h.base_ (Kept.of_grown hg).size⟩
theorem Both.added1 {h3 : List Int} (h : Both Pac w base b1 b2 S1 S2 v L h1 h2 W) (hP : Pac W' b1 S1 h3) (hK : Kept S1 W W') (hf : ∀ k ∈ S1, w.heap.size ≤ k) (hs1 : ∀ k ∈ S1, k < base) (hd : ∀ k ∈ S2, k ∉ S1) : Both Pac w base b1 b2 S1 S2 v L h3 h2 W' :=
  ⟨hP, K.kept h.two hK hd, own_kept h.row hK hs1, below_kept h.below hK h.below.size hf, Nat.le_trans h.base_ hK.size⟩
theorem Both.added2 {h3 : List Int} (h : Both Pac w base b1 b2 S1 S2 v L h1 h2 W) (hP : Pac W' b2 S2 h3) (hK : Kept S2 W W') (hf : ∀ k ∈ S2, w.heap.size ≤ k) (hs2 : ∀ k ∈ S2, k < base) (hd : ∀ k ∈ S1, k ∉ S2) : Both Pac w base b1 b2 S1 S2 v L h1 h3 W' :=
  ⟨K.kept h.one hK hd, hP, own_kept h.row hK hs2, below_kept h.below hK h.below.size hf, Nat.le_trans h.base_ hK.size⟩
end
/-- The last ones, as they count, of such as count themselves. -/
theorem last_in (L : List Int) (hL : ∀ v ∈ L, 1 ≤ v ∧ v ≤ 5000) : ∀ v ∈ ((L.reverse).map distR).take 8, v ∈ L.drop (L.length - 8) := fun v hv => by
  rw [List.map_reverse, List.take_reverse, List.mem_reverse, List.length_map, ← List.map_drop] at hv
  obtain ⟨u, hu, rfl⟩ := List.mem_map.1 hv
  have := hL u (List.mem_of_mem_drop hu)
  rwa [distR_in u (by omega)]
/-- What a slice from p on reads as. -/
theorem vals_dropIf {w : World} {a : Option Addr} {len cap : Nat} {ys : List Int} (h : Vals w a len ys) (p : Nat) (hp : p ≤ len) (hc : len ≤ cap) : Vals w (if cap = p then a else a.map (fun x => x.add p)) (len - p) (ys.drop p) := by
  rcases Decidable.em (cap = p) with h1 | h1
  · rw [if_pos h1]
    exact ⟨by rw [List.length_drop, h.len_], fun h0 => absurd h0 (by omega)⟩
  · rw [if_neg h1]
    exact h.drop p hp
theorem own_vals {W : World} {base : Nat} {A : Option Addr} {n c : Nat} {L : List Int} (h : W.ownsRow base 2 1 (.slice A n c) L.length (vals L)) (hn : L.length = n) : Vals W A n L := by
  rw [hn] at h
  obtain ⟨A1, c1, he, _, _, hV, _, _⟩ := Vals.own h
  injection he with h1 h2 h3
  subst h1
  exact hV
set_option maxRecDepth 100000 in
set_option maxHeartbeats 4000000 in
theorem between_k {Pac : World → Nat → List Nat → List Int → Prop} (K : PaceKit Pac) (a0 : Option Addr) (len0 cap0 : Nat) (z0 : List Int) (a1 : Int) (w : World) (w0 : IsRow .u16 w a0 len0 cap0 z0) (b1 : 0 ≤ a1 ∧ a1 ≤ 65535) :
    Calls Try.prog 5 #[.slice a0 len0 cap0, .int .u16 a1] w fun e w' => e = .returned (.bool true) ∧ Below w.heap.size w w' := by
  obtain ⟨p, hp⟩ : ∃ p, min len0 50 = p := ⟨_, rfl⟩
  have hp1 : p ≤ len0 := by omega
  have hp2 : p ≤ 50 := by omega
  have hminA : (if (50 : Int) < (len0 : Int) then (50 : Int) else (len0 : Int)) = (p : Int) := by split <;> omega
  obtain ⟨hc1, hc2, _, hcells⟩ := row_first bounds_u16 w0 p hp1
  clear w0 hp
  have hp3 : p ≤ cap0 := by omega
  generalize z0.take p = zs at *
  have hli := fun W => live_k K W
  have hnew := fun W => K.new_any W
  have HInfo := Lib.hid (show (Try.prog.info? 2).map (fun i => (i.zero, i.size, i.bytes)) = some (some (.int .i64 0), 1, 8) by kernel_rfl)
  go_enter Try.func5, Try.ntmps5
  go_wp2_with (first
    | (go_at_call 7; ((with_reducible refine (hnew w).mono ?_); rintro e W1 ⟨b1', S1, rfl, hP1, hf1, hB1⟩))
    | (go_at_call 7; ((with_reducible refine (hnew W1).mono ?_); rintro e W2 ⟨b2', S2, rfl, hP2, hf2, hB2⟩)))
  have hlt1 : ∀ k ∈ S1, k < W1.heap.size := (K.lt hP1).2
  have hd12 : ∀ k ∈ S1, k ∉ S2 := fun k hk h9 => Nat.lt_irrefl _ (Nat.lt_of_lt_of_le (hlt1 k hk) (hf2 k h9))
  have hd21 : ∀ k ∈ S2, k ∉ S1 := fun k hk h9 => hd12 k h9 hk
  have hs1 : ∀ k ∈ S1, k < W2.heap.size := fun k hk => Nat.lt_of_lt_of_le (hlt1 k hk) hB2.size
  have hs2 : ∀ k ∈ S2, k < W2.heap.size := (K.lt hP2).2
  have hw1 := hB1.size
  have hw2 : w.heap.size ≤ W2.heap.size := Nat.le_trans hw1 hB2.size
  have hf2' : ∀ k ∈ S2, w.heap.size ≤ k := fun k hk => Nat.le_trans hw1 (hf2 k hk)
  have hat0 : Both Pac w W2.heap.size b1' b2' S1 S2 (.slice none 0 0) [] [] [] W2 := ⟨K.below hP1 hB2, hP2, own_none _ _ _, hB1.trans (hB2.mono hw1), Nat.le_refl _⟩
  clear hnew hP1 hP2 hB1 hB2 hlt1 hw1 hf2 hminA
  go_loopw [7, 22] (fun v i wr => ∃ (j : Nat) (L : List Int), j ≤ p ∧ i = .int .i64 (j : Nat) ∧ L.length = j ∧ (∀ u ∈ L, 1 ≤ u ∧ u ≤ 5000) ∧ Both Pac w W2.heap.size b1' b2' S1 S2 v L L.reverse [] wr) (fun _ i _ => p - (intOf i).toNat)
  case atStart => exact ⟨0, [], by omega, rfl, rfl, (fun u hu => by cases hu), hat0⟩
  case round =>
    clear hat0
    obtain ⟨j, L, hj, rfl, hLj, hL, hat⟩ := hrel
    by_cases hjp : j < p
    · obtain ⟨x, rfl, hcx⟩ := hcells (by omega)
      obtain ⟨hcell0, hv1, hv2⟩ := hcx j hjp
      have hcell := (hat.below.cell (World.block_lt_of_cell? _ _ hcell0)).trans hcell0
      generalize zs.getD j 0 = v at *
      have hjz : (j : Int) < (p : Int) := by omega
      have hr : 1 ≤ 1 + v % 5000 ∧ 1 + v % 5000 ≤ 5000 := by omega
      have hat1 := hat.grow K ((Below.refl _ wr).alloc (Nat.le_refl _) (.cells #[.int .i64 (1 + v % 5000)] 2))
      have hV1 : Vals (wr.alloc (.cells #[.int .i64 (1 + v % 5000)] 2)) (some ⟨wr.heap.size, 0, none⟩) 1 [1 + v % 5000] := Vals.has (ys := [1 + v % 5000]) (tl := []) (Has.new wr _ _)
      have hget : (L ++ [1 + v % 5000]).getD j 0 = 1 + v % 5000 := by rw [List.getD_eq_getElem?_getD, List.getElem?_append_right (by omega), hLj, Nat.sub_self]; rfl
      have hrev : [1 + v % 5000].reverse ++ L.reverse = (L ++ [1 + v % 5000]).reverse := by simp
      have hjj : (j : Int) < (j : Int) + 1 := by omega
      have hjn : j < j + 1 := by omega
      have hl1 : (L ++ [1 + v % 5000]).length = j + 1 := by rw [List.length_append, hLj]; rfl
      clear hcx hcells hcell0
      go_wp2_with (first
        | (at_builtin; refine wpList_append_vals rfl (.tmp 26) (.tmp 31) _ rfl W2.heap.size 2 8 (by omega) Try.underlying22 HInfo.out u7 L.length L rfl (by exact hat1.row) _ 1 1 [1 + v % 5000] rfl (by exact hV1) (by omega) (by exact hat1.base_) ?_; intro v3 X3 hO3 hg3 hat3; rw [show L.length + 1 = (L ++ [1 + v % 5000]).length by simp] at hO3; have hat4 := hat1.appended K hO3 hg3 hw2 hs1 hs2; rw [show (L ++ [1 + v % 5000]).length = L.length + 1 by simp] at hO3; obtain ⟨A3, c3, rfl, hc31, hc32, hV3, hfar3, _⟩ := Vals.own hO3; obtain ⟨y, rfl, hcy⟩ := hV3.cells (by omega); have hcj := hcy j (by omega); rw [hget] at hcj; have hat5 := hat4.grow K ((Below.refl _ X3).alloc (Nat.le_refl _) (.cells #[.int .i64 (1 + v % 5000)] 2)); have hV5 : Vals (X3.alloc (.cells #[.int .i64 (1 + v % 5000)] 2)) (some ⟨X3.heap.size, 0, none⟩) 1 [1 + v % 5000] := Vals.has (ys := [1 + v % 5000]) (tl := []) (Has.new X3 _ _); have hadd := K.add_any _ b1' S1 L.reverse _ 1 1 _ hat5.one hV5 (by omega) (fun z _ hz => by injection hz with hz; subst hz; intro hk; exact Nat.lt_irrefl _ (Nat.lt_of_lt_of_le (hs1 _ hk) hat4.base_)); rw [hrev] at hadd; clear hcy hV3 hfar3 hO3 hg3 hat3)
        | (go_at_call 12; ((with_reducible refine hadd.mono ?_); rintro e X6 ⟨rfl, hP6, hK6⟩; have hat6 := hat5.added1 K hP6 hK6 hf1 hs1 hd21)))
      go_roundw
      case rel => exact ⟨j + 1, L ++ [1 + v % 5000], by omega, by go_num, hl1, (fun u hu => by rcases List.mem_append.1 hu with hu | hu; exact hL u hu; obtain rfl := List.mem_singleton.1 hu; exact hr), by rw [hLj] at hat6; exact hat6⟩
      case measure => simp [intOf]; omega
    · obtain rfl : j = p := by omega
      have hrow := hat.row
      rw [hLj] at hrow
      obtain ⟨A1, c1, rfl, e1, e2, hV1, hfar1, _⟩ := Vals.own hrow
      clear hcells
      have hadd := K.add_any wr b2' S2 [] A1 j c1 L hat.two hV1 (by omega) (fun z _ hz hk => Nat.lt_irrefl _ (Nat.lt_of_lt_of_le (hs2 _ hk) (hfar1 z hz).1))
      rw [List.append_nil] at hadd
      obtain ⟨q, hq⟩ : ∃ q, j - 8 = q := ⟨_, rfl⟩
      have hql : q ≤ j := by omega
      have hmax : (if (0 : Int) < (j : Int) - 8 then (j : Int) - 8 else 0) = (q : Int) := by split <;> omega
      have hmax2 : (if (8 : Int) < (j : Int) then (j : Int) - 8 else 0) = (q : Int) := by split <;> omega
      have hmax3 : (if 8 < j then (j : Int) - 8 else 0) = (q : Int) := by split <;> omega
      have HLJ := Lib.hid hLj
      have HQ := Lib.hid hq
      clear hLj hq hrow
      have hVd := fun W (h : Vals W A1 j L) => vals_dropIf h q hql e1
      obtain ⟨A2, hA2⟩ : ∃ A2, (if c1 = q then A1 else A1.map (fun x => x.add q)) = A2 := ⟨_, rfl⟩
      rw [hA2] at hVd
      have hV0 := hV1
      clear hV1 hfar1
      go_wp2_with (first
        | (go_at_call 12; ((with_reducible refine hadd.mono ?_); rintro e X1 ⟨rfl, hP1, hK1⟩; have hat1 := hat.added2 K hP1 hK1 hf2' hs2 hd12; have hm1 := K.mean_any X1 b1' S1 _ hat1.one))
        | (go_at_call 9; ((with_reducible refine hm1.mono ?_); rintro e X2 ⟨rfl, hB⟩; have hat2 := hat1.grow K hB; clear hB; have hm2 := K.mean_any X2 b2' S2 _ hat2.two))
        | (go_at_call 9; ((with_reducible refine hm2.mono ?_); rintro e X3 ⟨rfl, hB⟩; have hat3 := hat2.grow K hB; clear hB; have hm3 := K.many_any X3 b1' S1 _ hat3.one))
        | (go_at_call 10; ((with_reducible refine hm3.mono ?_); rintro e X4 ⟨rfl, hB⟩; have hat4 := hat3.grow K hB; clear hB; have hm4 := K.many_any X4 b2' S2 _ hat4.two))
        | (go_at_call 10; ((with_reducible refine hm4.mono ?_); rintro e X5 ⟨rfl, hB⟩; have hat5 := hat4.grow K hB; clear hB)))
      have hV5 := hVd X5 (own_vals hat5.row HLJ.out)
      clear hadd hV0 hVd hmax hmax2 hmax3 hat hat1 hat2 hat3 hat4 hm1 hm2 hm3 hm4 hP1 hK1
      have hdl := hV5.len_
      have hdr : ∀ u ∈ L.drop q, 1 ≤ u ∧ u ≤ 5000 := fun u hu => hL u (List.mem_of_mem_drop hu)
      have hli2 : ∀ v ∈ ((L.reverse).map distR).take 8, v ∈ L.drop q := by
        have h9 := last_in L hL
        rw [HLJ.out, HQ.out] at h9
        exact h9
      generalize L.drop q = T at *
      obtain ⟨m, hm⟩ : ∃ m, j - q = m := ⟨_, rfl⟩
      have hmz : (j : Int) - (q : Int) = (m : Int) := by omega
      rw [hm] at *
      go_loop [10, 11, 65] (fun lo hi i => ∃ (k : Nat) (a b : Int), k ≤ m ∧ i = .int .i64 (k : Nat) ∧ lo = .int .i64 a ∧ hi = .int .i64 b ∧ (0 ≤ b ∧ b ≤ 5000) ∧ (1 ≤ a ∧ a ≤ 5001) ∧ ∀ u ∈ T.take k, a ≤ u ∧ u ≤ b) (fun _ _ i => m - (intOf i).toNat)
      case atStart => exact ⟨0, 5001, 0, by omega, rfl, rfl, rfl, by omega, by omega, (fun u hu => by simp at hu)⟩
      case round =>
        obtain ⟨k, a, b, hk, rfl, rfl, rfl, hb, ha, hall⟩ := hrel
        by_cases hkm : k < m
        · obtain ⟨y, rfl, hcy⟩ := hV5.cells (by omega)
          have hcell := hcy k (by omega)
          have hkz : (k : Int) < (m : Int) := by omega
          have hnew : ∀ u ∈ T.take (k + 1), u ∈ T.take k ∨ u = T.getD k 0 := fun u hu => by
            rw [List.take_succ_eq_append_getElem (by omega)] at hu
            rcases List.mem_append.1 hu with hu | hu
            · exact .inl hu
            · right
              rw [List.getD_eq_getElem?_getD, List.getElem?_eq_getElem (by omega)]
              simpa using hu
          have hv := hdr (T.getD k 0) (by rw [List.getD_eq_getElem?_getD, List.getElem?_eq_getElem (by omega)]; simp)
          generalize T.getD k 0 = v at *
          have hnext : ∀ a' b', a' ≤ a → a' ≤ v → b ≤ b' → v ≤ b' → ∀ u ∈ T.take (k + 1), a' ≤ u ∧ u ≤ b' := fun a' b' h1 h2 h3 h4 u hu => by
            rcases hnew u hu with hu | rfl
            · have := hall u hu; omega
            · omega
          clear hcy hV5 hnew hall
          by_cases c1' : v < a <;> by_cases c2' : b < v
          all_goals
            go_wp2
            go_round
            case rel => exact ⟨k + 1, _, _, by omega, by go_num, rfl, rfl, by omega, by omega, hnext _ _ (by omega) (by omega) (by omega) (by omega)⟩
            case measure => simp [intOf]; omega
        · obtain rfl : k = m := by omega
          rw [List.take_of_length_le (by omega)] at hall
          clear hV5
          have hM : 0 < j → (a ≤ meanT L.reverse ∧ meanT L.reverse ≤ b) ∧ 1 ≤ meanT L.reverse := fun h0 => by
            have hl0 : 0 < L.reverse.length := by rw [List.length_reverse, HLJ.out]; exact h0
            exact ⟨mean_between _ a b hl0 (fun v hv => hall v (hli2 v hv)), (mean_between _ 1 5000 hl0 (fun v hv => hdr v (hli2 v hv))).1⟩
          have hl4 := fun W hP => K.late_any W b1' S1 L.reverse 0 hP
          rw [late_not _ 0 (by omega)] at hl4
          have hme := fun W hP => K.mean_any W b1' S1 L.reverse hP
          have hl1 := fun W hP => K.late_any W b1' S1 L.reverse a1 hP
          have hl2 := fun W hP => K.late_any W b1' S1 L.reverse (a1 + 1) hP
          have hl3 := fun W hP => K.late_any W b1' S1 L.reverse (5 * b) hP
          have hlater := late_later L.reverse a1
          have hmost : 0 < j → lateT L.reverse (5 * b) = true := fun h0 => late_most _ b (by rw [List.length_reverse, HLJ.out]; exact h0) (hM h0).1.2 (hM h0).2
          generalize lateT L.reverse (5 * b) = B3 at *
          generalize lateT L.reverse (a1 + 1) = B2 at *
          generalize lateT L.reverse a1 = B1 at *
          generalize meanT L.reverse = M at *
          clear hall hli2 hdr
          by_cases h0 : j = 0
          · have hj1 : ¬ 0 < j := by omega
            have hj2 : ((j : Int) == 0) = true := by simp [h0]
            clear hM hmost h0
            cases B1 with
            | false =>
              go_wp2_with (first
                | (go_at_call 9; ((with_reducible refine (hme _ hat5.one).mono ?_); rintro e Y ⟨rfl, hB⟩; replace hat5 := hat5.grow K hB; clear hB))
                | (go_at_call 11; ((with_reducible refine (hl1 _ hat5.one).mono ?_); rintro e Y ⟨rfl, hB⟩; replace hat5 := hat5.grow K hB; clear hB))
                | (go_at_call 11; ((with_reducible refine (hl2 _ hat5.one).mono ?_); rintro e Y ⟨rfl, hB⟩; replace hat5 := hat5.grow K hB; clear hB))
                | (go_at_call 11; ((with_reducible refine (hl3 _ hat5.one).mono ?_); rintro e Y ⟨rfl, hB⟩; replace hat5 := hat5.grow K hB; clear hB))
                | (go_at_call 11; ((with_reducible refine (hl4 _ hat5.one).mono ?_); rintro e Y ⟨rfl, hB⟩; replace hat5 := hat5.grow K hB; clear hB))
                | (go_at_call 15; ((with_reducible refine (hli _).mono ?_); rintro e Y ⟨rfl, hB⟩; replace hat5 := hat5.grow K hB; clear hB)))
              go_ret
              exact ⟨rfl, hat5.below⟩
            | true =>
              obtain rfl := hlater rfl
              go_wp2_with (first
                | (go_at_call 9; ((with_reducible refine (hme _ hat5.one).mono ?_); rintro e Y ⟨rfl, hB⟩; replace hat5 := hat5.grow K hB; clear hB))
                | (go_at_call 11; ((with_reducible refine (hl1 _ hat5.one).mono ?_); rintro e Y ⟨rfl, hB⟩; replace hat5 := hat5.grow K hB; clear hB))
                | (go_at_call 11; ((with_reducible refine (hl2 _ hat5.one).mono ?_); rintro e Y ⟨rfl, hB⟩; replace hat5 := hat5.grow K hB; clear hB))
                | (go_at_call 11; ((with_reducible refine (hl3 _ hat5.one).mono ?_); rintro e Y ⟨rfl, hB⟩; replace hat5 := hat5.grow K hB; clear hB))
                | (go_at_call 11; ((with_reducible refine (hl4 _ hat5.one).mono ?_); rintro e Y ⟨rfl, hB⟩; replace hat5 := hat5.grow K hB; clear hB))
                | (go_at_call 15; ((with_reducible refine (hli _).mono ?_); rintro e Y ⟨rfl, hB⟩; replace hat5 := hat5.grow K hB; clear hB)))
              go_ret
              exact ⟨rfl, hat5.below⟩
          · have hj1 : 0 < j := by omega
            have hj2 : ((j : Int) == 0) = false := by simp [h0]
            have hj3 : (0 : Int) < (j : Int) := by omega
            obtain ⟨⟨hM1, hM2⟩, hM3⟩ := hM hj1
            obtain rfl := hmost hj1
            clear hM hmost h0
            cases B1 with
            | false =>
              go_wp2_with (first
                | (go_at_call 9; ((with_reducible refine (hme _ hat5.one).mono ?_); rintro e Y ⟨rfl, hB⟩; replace hat5 := hat5.grow K hB; clear hB))
                | (go_at_call 11; ((with_reducible refine (hl1 _ hat5.one).mono ?_); rintro e Y ⟨rfl, hB⟩; replace hat5 := hat5.grow K hB; clear hB))
                | (go_at_call 11; ((with_reducible refine (hl2 _ hat5.one).mono ?_); rintro e Y ⟨rfl, hB⟩; replace hat5 := hat5.grow K hB; clear hB))
                | (go_at_call 11; ((with_reducible refine (hl3 _ hat5.one).mono ?_); rintro e Y ⟨rfl, hB⟩; replace hat5 := hat5.grow K hB; clear hB))
                | (go_at_call 11; ((with_reducible refine (hl4 _ hat5.one).mono ?_); rintro e Y ⟨rfl, hB⟩; replace hat5 := hat5.grow K hB; clear hB))
                | (go_at_call 15; ((with_reducible refine (hli _).mono ?_); rintro e Y ⟨rfl, hB⟩; replace hat5 := hat5.grow K hB; clear hB)))
              go_ret
              exact ⟨rfl, hat5.below⟩
            | true =>
              obtain rfl := hlater rfl
              go_wp2_with (first
                | (go_at_call 9; ((with_reducible refine (hme _ hat5.one).mono ?_); rintro e Y ⟨rfl, hB⟩; replace hat5 := hat5.grow K hB; clear hB))
                | (go_at_call 11; ((with_reducible refine (hl1 _ hat5.one).mono ?_); rintro e Y ⟨rfl, hB⟩; replace hat5 := hat5.grow K hB; clear hB))
                | (go_at_call 11; ((with_reducible refine (hl2 _ hat5.one).mono ?_); rintro e Y ⟨rfl, hB⟩; replace hat5 := hat5.grow K hB; clear hB))
                | (go_at_call 11; ((with_reducible refine (hl3 _ hat5.one).mono ?_); rintro e Y ⟨rfl, hB⟩; replace hat5 := hat5.grow K hB; clear hB))
                | (go_at_call 11; ((with_reducible refine (hl4 _ hat5.one).mono ?_); rintro e Y ⟨rfl, hB⟩; replace hat5 := hat5.grow K hB; clear hB))
                | (go_at_call 15; ((with_reducible refine (hli _).mono ?_); rintro e Y ⟨rfl, hB⟩; replace hat5 := hat5.grow K hB; clear hB)))
              go_ret
              exact ⟨rfl, hat5.below⟩
end Go.Proofs.Ytgdhpoafjfjdiaa.Pace
