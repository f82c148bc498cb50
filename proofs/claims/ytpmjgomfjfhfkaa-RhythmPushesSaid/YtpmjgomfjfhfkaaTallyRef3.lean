/- The reference's Beat of layer 20. -/
import Derived.Test.YtpmjgomfjfhfkaaTallyRef2
set_option linter.unusedSimpArgs false
set_option linter.unusedVariables false
namespace Go.Proofs.Ytpmjgomfjfhfkaa.Tally
open Go.RowKit RI64
/-- The distances that the document's state has, the first one first, behind the first so many of a beat's. -/
def cameT (rs ys : List Int) (j : Nat) : List Int := rs.reverse ++ (ys.take j).filter (fun v => decide (1 ≤ v))
theorem came_zero (rs ys : List Int) : cameT rs ys 0 = rs.reverse := by unfold cameT; simp
theorem came_all (rs ys : List Int) (j : Nat) (h : ys.length ≤ j) : cameT rs ys j = (cntT ys rs).reverse := by unfold cameT cntT; rw [List.take_of_length_le h, List.reverse_append, List.reverse_reverse]
theorem came_step (rs ys : List Int) (j : Nat) (h : j < ys.length) : cameT rs ys (j + 1) = if 1 ≤ ys.getD j 0 then cameT rs ys j ++ [ys.getD j 0] else cameT rs ys j := by
  unfold cameT
  rw [List.take_succ_eq_append_getElem h, List.filter_append, List.getD_eq_getElem?_getD, List.getElem?_eq_getElem h, Option.getD_some]
  split
  · rename_i h1
    rw [List.filter_cons_of_pos (by simpa using h1), List.filter_nil, List.append_assoc]
  · rename_i h1
    rw [List.filter_cons_of_neg (by simpa using h1), List.filter_nil, List.append_nil]
theorem came_len (rs ys : List Int) (j : Nat) : (cameT rs ys j).length ≤ rs.length + j := by
  unfold cameT
  rw [List.length_append, List.length_reverse]
  have := List.length_filter_le (fun v => decide (1 ≤ v)) (ys.take j)
  rw [List.length_take] at this
  omega
/-- Where the reference's Beat stands behind so many distances. -/
def Refb (w : World) (r y : Nat) (n : Int) (rs ys : List Int) (m : Nat) (i : Value) (wr : World) : Prop :=
  ∃ (j : Nat) (v : Value), j ≤ m ∧ i = .int .i64 (j : Nat) ∧ Has wr y 38 #[.bool true, .int .i64 n, v] ∧ wr.ownsRow (y + 1) 2 1 v (cameT rs ys j).length (vals (cameT rs ys j)) ∧
    Has wr r 38 #[.bool false, .int .i64 0, .slice none 0 0] ∧ Below w.heap.size w wr
theorem nil_own : (Value.slice none 0 0).ownBlock = none := rfl
set_option maxRecDepth 100000 in
set_option maxHeartbeats 2000000 in
theorem refbeat_any (s : St) (A : Option Addr) (c : Nat) (a : Int) (B : Option Addr) (m d : Nat) (ys : List Int) (w : World) (hv : Vals w A s.rs.length s.rs.reverse) (hu : Vals w B m ys) (hn : s.rs.length ≤ 500000) (hm : m ≤ 1000) :
    Calls Try.prog 22 #[stV s A c, .int .i64 a, .slice B m d] w fun e w' => ∃ A' c', e = .returned (stV (beatT s a ys) A' c') ∧ Vals w' A' (beatT s a ys).rs.length (beatT s a ys).rs.reverse ∧ (∀ x, A' = some x → w.heap.size ≤ x.block ∧ x.block < w'.heap.size) ∧ Below w.heap.size w w' := by
  have hInfo : (Try.prog.info? 2).map (fun i => (i.zero, i.size, i.bytes)) = some (some (.int .i64 0), 1, 8) := by kernel_rfl
  have hnr := fun W => refnear_any a W
  have hy := hu.len_
  have hst := came_step s.rs ys
  have hcl := came_len s.rs ys
  have hc0 := came_zero s.rs ys
  have hca := came_all s.rs ys m (by omega)
  unfold beatT stV
  dsimp only
  generalize nearA a = n at *
  generalize cntT ys s.rs = zs at *
  have HI := Lib.hid hInfo
  have HST := Lib.hid hst
  have HCL := Lib.hid hcl
  have HC0 := Lib.hid hc0
  have HCA := Lib.hid hca
  have HV := Lib.hid hv
  have HU := Lib.hid hu
  have HY := Lib.hid hy
  clear hInfo hst hcl hc0 hca hv hu hy
  have hB0 := (((Below.refl w.heap.size w).alloc (Nat.le_refl _) (.cells #[.bool s.begun, .int .i64 s.last, .slice A s.rs.length c] 38)).alloc (by simp) (.cells #[.bool false, .int .i64 0, .slice none 0 0] 38)).alloc (by simp; omega) (.cells #[.bool true, .int .i64 n, .slice none 0 0] 38)
  have hR0 := (Has.new (w.alloc (.cells #[.bool s.begun, .int .i64 s.last, .slice A s.rs.length c] 38)) 38 #[.bool false, .int .i64 0, .slice none 0 0]).alloc (.cells #[.bool true, .int .i64 n, .slice none 0 0] 38)
  have hY0 := Has.new ((w.alloc (.cells #[.bool s.begun, .int .i64 s.last, .slice A s.rs.length c] 38)).alloc (.cells #[.bool false, .int .i64 0, .slice none 0 0] 38)) 38 #[.bool true, .int .i64 n, .slice none 0 0]
  have hz1 : (w.alloc (.cells #[.bool s.begun, .int .i64 s.last, .slice A s.rs.length c] 38)).heap.size = w.heap.size + 1 := by simp
  have hz2 : ((w.alloc (.cells #[.bool s.begun, .int .i64 s.last, .slice A s.rs.length c] 38)).alloc (.cells #[.bool false, .int .i64 0, .slice none 0 0] 38)).heap.size = w.heap.size + 1 + 1 := by simp
  have hz3 : (((w.alloc (.cells #[.bool s.begun, .int .i64 s.last, .slice A s.rs.length c] 38)).alloc (.cells #[.bool false, .int .i64 0, .slice none 0 0] 38)).alloc (.cells #[.bool true, .int .i64 n, .slice none 0 0] 38)).heap.size = w.heap.size + 1 + 1 + 1 := by simp
  rw [hz1] at hR0
  rw [hz2] at hY0
  have HR0 := Lib.hid hR0
  have HY0 := Lib.hid hY0
  have HZ3 := Lib.hid hz3
  clear hR0 hY0 hz1 hz2 hz3
  go_enter Try.func22, Try.ntmps22
  go_wp2_with (first
    | (go_at_call 28; ((with_reducible refine (hnr _).mono ?_); rintro e w1 ⟨rfl, rfl⟩))
    | (at_builtin; refine wpList_append_vals rfl (.tmp 13) (.tmp 15) _ rfl (w.heap.size + 1 + 1 + 1) 2 8 (by omega) Try.underlying36 HI.out (.slice none 0 0) 0 ([] : List Int) rfl (own_none _ _ _) A s.rs.length c s.rs.reverse rfl (HV.out.below hB0) (by omega) (by rw [HZ3.out]; exact Nat.le_refl _) ?_; intro v1 W1 hO1 hg1 hat1; have hY1 := (Kept.of_grown hg1).has HY0.out (by rw [nil_own]; simp); have hR1 := (Kept.of_grown hg1).has HR0.out (by rw [nil_own]; simp); have hB1 := below_kept hB0 (Kept.of_grown hg1) hB0.size (by rw [nil_own]; simp); have c0 := hY1.cell 0; have c1 := hY1.cell 1; have c2 := hY1.cell 2; have f2 := hY1.frozen 2; have HY1 := Lib.hid hY1; rw [Nat.zero_add, List.nil_append] at hO1; obtain ⟨A9, d9, rfl, _, _, _, _, _⟩ := Vals.own hO1; clear hY1 hg1 hat1))
  have hY2 := HY1.out.set_ 2 (.slice A9 s.rs.length d9)
  have hR2 := hR1.far (p := ⟨w.heap.size + 1 + 1, 2, none⟩) (by simp) (.slice A9 s.rs.length d9)
  have hB2 := hB1.setCell (p := ⟨w.heap.size + 1 + 1, 2, none⟩) (by show w.heap.size ≤ w.heap.size + 1 + 1; omega) (.slice A9 s.rs.length d9)
  have hO2 := own_kept hO1 ((Kept.refl [w.heap.size + 1 + 1] W1).setCell (p := ⟨w.heap.size + 1 + 1, 2, none⟩) (.inl (by simp)) (.slice A9 s.rs.length d9)) (fun k hk => by simp at hk; omega)
  simp only [List.setIfInBounds_toArray, List.set_cons_zero, List.set_cons_succ] at hY2
  clear hO1 hR1 hB1 hB0 c0 c1 c2 f2
  have hstart : Refb w (w.heap.size + 1) (w.heap.size + 1 + 1) n s.rs ys m (.int .i64 0) (W1.setCell ⟨w.heap.size + 1 + 1, 2, none⟩ (.slice A9 s.rs.length d9)) := ⟨0, _, by omega, rfl, hY2, by rw [HC0.out, List.length_reverse]; exact hO2, hR2, hB2⟩
  clear hY2 hR2 hB2 hO2 HY1 HY0 HR0 HZ3
  go_loopw [8] (fun i wr => Refb w (w.heap.size + 1) (w.heap.size + 1 + 1) n s.rs ys m i wr) (fun i _ => m - (intOf i).toNat)
  case atStart => exact hstart
  case round =>
    clear hstart
    obtain ⟨j, v, hj, rfl, hY, hO, hR, hB⟩ := hrel
    by_cases hjm : j < m
    · obtain ⟨x', rfl, hcx⟩ := (HU.out.below hB).cells (by omega)
      have hcell := hcx j hjm
      obtain ⟨x8, hx8, hcw8⟩ := HU.out.cells (by omega)
      injection hx8 with hx8
      subst hx8
      have hcw := hcw8 j hjm
      have hst := HST.out j (by rw [HY.out]; exact hjm)
      have hcl := HCL.out j
      generalize ys.getD j 0 = e at *
      clear hcx hcw8
      by_cases he : 1 ≤ e
      · rw [if_pos he] at hst
        have HS := Lib.hid hst
        clear hst
        generalize cameT s.rs ys j = zj at *
        have hcE : ∀ W, Below w.heap.size w W → W.cell? (x'.add j) = some (.int .i64 e) := fun W hW => by
          have h1 := World.block_lt_of_cell? _ _ hcw
          exact (World.cell?_of_block (w := w) (hW.block _ h1)).trans hcw
        have HCE := Lib.hid hcE
        clear hcE hcw
        go_wp2
        refine Till.begin_ (T := [9]) (S := fun W => W.cell? ⟨w.heap.size + 1 + 1, 2, none⟩ = some v ∧ W.cell? (x'.add j) = some (.int .i64 e)) (by kernel_rfl) (by exact ⟨hY.cell 2, hcell⟩) (fun hHeld => ?_)
        have hYd := hY.drew
        have hRd := hR.drew
        have hBd := below_drewN hB 1
        have hOd := own_kept hO ((Kept.refl [] wr).drewN 1) (by simp)
        change Below w.heap.size w wr.drew at hBd
        change wr.drew.ownsRow _ _ _ _ _ _ at hOd
        clear hY hR hB hO hcell
        generalize wr.drew = W2 at *
        refine Till.take (i := 0) (v := ?v1) rfl (by kernel_rfl) (by kernel_rfl) (by kernel_rfl) (by kernel_rfl) (by rfl) ?hv1 (by assumption) ?rest1
        case hv1 => first | (intro w hSw; (try dsimp only at hSw); go_simp; done) | (intro w hSw; (try dsimp only at hSw); go_simp; with_reducible rfl)
        (try simp only [Act.put, List.setIfInBounds_toArray, List.set_cons_zero, List.set_cons_succ])
        refine Till.take (i := 1) (v := ?v2) rfl (by kernel_rfl) (by kernel_rfl) (by kernel_rfl) (by kernel_rfl) (by rfl) ?hv2 (by assumption) ?rest2
        case hv2 => first | (intro w hSw; (try dsimp only at hSw); go_simp; done) | (intro w hSw; (try dsimp only at hSw); go_simp; with_reducible rfl)
        (try simp only [Act.put, List.setIfInBounds_toArray, List.set_cons_zero, List.set_cons_succ])
        refine Till.take (i := 2) (v := ?v3) rfl (by kernel_rfl) (by kernel_rfl) (by kernel_rfl) (by kernel_rfl) (by rfl) ?hv3 (by assumption) ?rest3
        case hv3 => first | (intro w hSw; (try dsimp only at hSw); go_simp; done) | (intro w hSw; (try dsimp only at hSw); go_simp; with_reducible rfl)
        (try simp only [Act.put, List.setIfInBounds_toArray, List.set_cons_zero, List.set_cons_succ])
        refine Till.take (i := 3) (v := ?v4) rfl (by kernel_rfl) (by kernel_rfl) (by kernel_rfl) (by kernel_rfl) (by rfl) ?hv4 (by assumption) ?rest4
        case hv4 => first | (intro w hSw; (try dsimp only at hSw); go_simp; done) | (intro w hSw; (try dsimp only at hSw); go_simp; with_reducible rfl)
        (try simp only [Act.put, List.setIfInBounds_toArray, List.set_cons_zero, List.set_cons_succ])
        refine Till.take (i := 4) (v := ?v5) rfl (by kernel_rfl) (by kernel_rfl) (by kernel_rfl) (by kernel_rfl) (by rfl) ?hv5 (by assumption) ?rest5
        case hv5 => first | (intro w hSw; (try dsimp only at hSw); go_simp; done) | (intro w hSw; (try dsimp only at hSw); go_simp; with_reducible rfl)
        (try simp only [Act.put, List.setIfInBounds_toArray, List.set_cons_zero, List.set_cons_succ])
        refine Till.take (i := 5) (v := ?v6) rfl (by kernel_rfl) (by kernel_rfl) (by kernel_rfl) (by kernel_rfl) (by rfl) ?hv6 (by assumption) ?rest6
        case hv6 => first | (intro w hSw; (try dsimp only at hSw); go_simp; done) | (intro w hSw; (try dsimp only at hSw); go_simp; with_reducible rfl)
        (try simp only [Act.put, List.setIfInBounds_toArray, List.set_cons_zero, List.set_cons_succ])
        have hB3 := hBd.alloc hBd.size (.cells #[.int .i64 e] 2)
        have hY3 := hYd.alloc (.cells #[.int .i64 e] 2)
        have hR3 := hRd.alloc (.cells #[.int .i64 e] 2)
        have hO3 := own_kept hOd ((Kept.refl [] W2).alloc (.cells #[.int .i64 e] 2)) (by simp)
        have hV3 : Vals (W2.alloc (.cells #[.int .i64 e] 2)) (some ⟨W2.heap.size, 0, none⟩) 1 [e] := Vals.has (ys := [e]) (tl := []) (Has.new W2 _ _)
        have hz3 : w.heap.size + 1 + 1 + 1 ≤ (W2.alloc (.cells #[.int .i64 e] 2)).heap.size := by have := hY3.lt; omega
        refine Till.call (i := 6) rfl (by kernel_rfl) (by rfl) ?_
        intro K hK
        go_simp
        refine hK.out _ _ (by exact ⟨hY3.cell 2, HCE.out _ hB3⟩) (fun hHeld => ?_)
        clear hK K
        (try simp only [Act.put, List.setIfInBounds_toArray, List.set_cons_zero, List.set_cons_succ])
        generalize W2.heap.size = z2 at *
        generalize W2.alloc (.cells #[.int .i64 e] 2) = W3 at *
        clear hYd hRd hBd hOd
        refine Till.call (i := 7) rfl (by kernel_rfl) (by rfl) ?_
        intro K hK
        refine wp_append_one (.tmp 30) (.tmp 35) _ rfl (w.heap.size + 1 + 1 + 1) 2 8 (by omega) Try.underlying36 HI.out v zj.length zj rfl hO3 (some ⟨z2, 0, none⟩) 1 1 [e] rfl hV3 (by omega) hz3 ?_
        intro v9 W4 hO9 hg9 hat9
        have hx1 : w.heap.size + 1 + 1 ∉ v.ownBlock.toList := own_apart hO3 (by omega)
        have hx2 : w.heap.size + 1 ∉ v.ownBlock.toList := own_apart hO3 (by omega)
        have hY4 := (Kept.of_grown hg9).has hY3 hx1
        have hR4 := (Kept.of_grown hg9).has hR3 hx2
        have hB4 := below_kept hB3 (Kept.of_grown hg9) hB3.size (fun k hk => by have := own_in hO3 k hk; omega)
        refine hK.out _ _ (by exact ⟨hY4.cell 2, HCE.out _ hB4⟩) (fun hHeld => ?_)
        clear hK K
        (try simp only [Act.put, List.setIfInBounds_toArray, List.set_cons_zero, List.set_cons_succ])
        refine Till.take (i := 8) (v := ?v7) rfl (by kernel_rfl) (by kernel_rfl) (by kernel_rfl) (by kernel_rfl) (by rfl) ?hv7 (by assumption) ?rest7
        case hv7 => first | (intro w hSw; (try dsimp only at hSw); go_simp; done) | (intro w hSw; (try dsimp only at hSw); go_simp; with_reducible rfl)
        (try simp only [Act.put, List.setIfInBounds_toArray, List.set_cons_zero, List.set_cons_succ])
        obtain ⟨A5, d5, rfl, _, _, _, _, _⟩ := Vals.own hO9
        have t2 : W4.cell? ⟨w.heap.size + 1 + 1, 2, none⟩ = some v := hY4.cell 2
        have g2 := hY4.frozen 2
        have hY5 := hY4.set_ 2 (.slice A5 (zj.length + 1) d5)
        have hR5 := hR4.far (p := ⟨w.heap.size + 1 + 1, 2, none⟩) (by simp) (.slice A5 (zj.length + 1) d5)
        have hB5 := hB4.setCell (p := ⟨w.heap.size + 1 + 1, 2, none⟩) (by show w.heap.size ≤ w.heap.size + 1 + 1; omega) (.slice A5 (zj.length + 1) d5)
        have hO5 := own_kept hO9 ((Kept.refl [w.heap.size + 1 + 1] W4).setCell (p := ⟨w.heap.size + 1 + 1, 2, none⟩) (.inl (by simp)) (.slice A5 (zj.length + 1) d5)) (fun k hk => by simp at hk; omega)
        have HY5 := Lib.hid hY5
        have HO5 := Lib.hid hO5
        clear hHeld hY4 hR4 hB4 hO9 hg9 hat9 hV3 hO3 hY3 hR3 hB3 hx1 hx2 hY5 hO5
        refine Till.put (i := 9) rfl (by kernel_rfl) (by rfl) (by rfl) ?_
        intro K hK
        go_simp
        refine hK.out _ _ ?_
        clear hK K
        (try simp only [Act.put, List.setIfInBounds_toArray, List.set_cons_zero, List.set_cons_succ])
        refine Till.done (by kernel_rfl) ?_ _
        clear t2 g2
        go_wp2
        go_roundw
        case rel =>
          have hY5 := HY5.out
          have hO5 := HO5.out
          simp only [List.setIfInBounds_toArray, List.set_cons_zero, List.set_cons_succ] at hY5
          exact ⟨j + 1, _, by omega, by go_num, hY5, by rw [HS.out, List.length_append]; exact hO5, hR5, hB5⟩
        case measure => simp [intOf]; omega
      · rw [if_neg he] at hst
        have HS := Lib.hid hst
        clear hst hcl
        go_wp2
        go_roundw
        case rel => exact ⟨j + 1, v, by omega, by go_num, hY, by rw [HS.out]; exact hO, hR, hB⟩
        case measure => simp [intOf]; omega
    · obtain rfl : j = m := by omega
      rw [HCA.out] at hO
      obtain ⟨A1, c1, rfl, e1, e2, hV1, hfar1, _⟩ := Vals.own hO
      have y0 := hY.cell 0
      have y1 := hY.cell 1
      have y2 := hY.cell 2
      have r0 := hR.cell 0
      have r1 := hR.cell 1
      have r2 := hR.cell 2
      have g0 := hR.frozen 0
      have g1 := hR.frozen 1
      have g2 := hR.frozen 2
      have HR := Lib.hid hR
      have HV1 := Lib.hid hV1
      clear hY hO hR hV1
      go_wp2
      have HH := ((HR.out.set_ 0 (.bool true)).set_ 1 (.int .i64 n)).set_ 2 (.slice A1 zs.reverse.length c1)
      simp only [List.setIfInBounds_toArray, List.set_cons_zero, List.set_cons_succ] at HH
      have hV1 := HV1.out
      rw [List.length_reverse] at HH hV1
      have hK9 := (((Kept.refl [w.heap.size + 1] wr).setCell (p := ⟨w.heap.size + 1, 0, none⟩) (.inl (by simp)) (.bool true)).setCell (p := ⟨w.heap.size + 1, 1, none⟩) (.inl (by simp)) (.int .i64 n)).setCell (p := ⟨w.heap.size + 1, 2, none⟩) (.inl (by simp)) (.slice A1 zs.length c1)
      have hB9 := below_kept hB hK9 hB.size (fun k hk => by simp at hk; omega)
      have hV9 := hV1.kept hK9 (fun _ x hx => by have := hfar1 x hx; simp; omega)
      have hs9 := hK9.size
      have p0 := HH.cell 0
      have p1 := HH.cell 1
      have p2 := HH.cell 2
      refine bodyPost_ret (v := .agg #[.bool true, .int .i64 n, .slice A1 zs.length c1]) (by simp [results, Try.results22, go_sem, p0, p1, p2]) rfl ⟨A1, c1, rfl, hV9, fun x hx => ?_, hB9⟩
      have := hfar1 x hx
      omega
end Go.Proofs.Ytpmjgomfjfhfkaa.Tally
