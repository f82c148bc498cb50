/- The reference of layer 9: the items of events. -/
import Derived.Test.YtlopkmbindfkjaaLeadRef
set_option linter.unusedSimpArgs false
set_option linter.unusedVariables false
namespace Go.Proofs.Ytlopkmbindfkjaa.Lead
open Go.RowKit
theorem take_get (l : List Ev) (k : Nat) (h : k < l.length) : l.take (k + 1) = l.take k ++ [l.getD k noEv] := by
  rw [List.take_add_one, List.getElem?_eq_getElem h, List.getD_eq_getElem?_getD, List.getElem?_eq_getElem h]; rfl
theorem items_take (l : List Ev) (k : Nat) (h : k < l.length) : itemsL start (l.take (k + 1)) = itemsL start (l.take k) ++ (afterL start (l.take k)).items (l.getD k noEv) ∧ afterL start (l.take (k + 1)) = (afterL start (l.take k)).next (l.getD k noEv) := by
  rw [take_get l k h, items_append, after_append]
  exact ⟨by simp [itemsL], rfl⟩
theorem run_two (l : List Ev) (k : Nat) (h : k < l.length) (h2 : (l.getD k noEv).1 = 2) : runH (l.getD k noEv).2.2.2 (l.take (k + 1)).reverse = (afterL start (l.take k)).run (l.getD k noEv).2.2.2 := by
  rw [run_state, (items_take l k h).2]
  unfold St.next
  have h1 : ¬ (l.getD k noEv).1 = 1 := by omega
  rw [if_neg h1, if_pos h2]
  show (if (afterL start (l.take k)).run _ ≠ 0 ∧ _ then _ else 0) = _
  rw [if_pos ⟨by unfold St.run; split <;> omega, rfl⟩]
/-- What an Items answers. -/
def ItemsIs (w : World) (xs : List Ev) (e : Ending) (w' : World) : Prop :=
  ∃ A n c, e = .returned (.tuple #[.slice A n c, .bool (onT xs)]) ∧ n ≤ c ∧ c ≤ 9223372036854775807 ∧ Row.Vals itS w' A n (itemsT xs) ∧ (∀ x, A = some x → w.heap.size ≤ x.block) ∧ Below w.heap.size w w'
theorem it_new (W : World) (t : TypeId) (k a v : Int) : Row.Vals itS (W.alloc (.cells #[.int .i64 k, .int .i64 a, .int .i32 v] t)) (some ⟨W.heap.size, 0, none⟩) 1 [(k, a, v)] :=
  Row.Vals.has (S := itS) (ys := [(k, a, v)]) (tl := []) (Has.new _ _ _)
theorem app_ready {w W : World} {v : Value} {E : List It} (t : TypeId) (k a x : Int) (hO : W.ownsRow w.heap.size t 3 v E.length (Row.flat itS E)) (hB : Below w.heap.size w W) :
    (W.alloc (.cells #[.int .i64 k, .int .i64 a, .int .i32 x] t)).ownsRow w.heap.size t 3 v E.length (Row.flat itS E) ∧ Below w.heap.size w (W.alloc (.cells #[.int .i64 k, .int .i64 a, .int .i32 x] t)) ∧
    Row.Vals itS (W.alloc (.cells #[.int .i64 k, .int .i64 a, .int .i32 x] t)) (some ⟨W.heap.size, 0, none⟩) 1 [(k, a, x)] :=
  ⟨own_kept hO ((Kept.refl [] _).alloc _) (by simp), hB.alloc hB.size _, it_new W t k a x⟩
set_option maxRecDepth 100000 in
set_option maxHeartbeats 2000000 in
theorem refitems_any (A : Option Addr) (n c : Nat) (xs : List Ev) (w : World) (hv : Row.Vals evS w A n xs) (hn : n ≤ 100000) :
    Calls Try.prog 8 #[.slice A n c] w (ItemsIs w xs) := by
  have hlen := hv.len_
  have hInfo : (Try.prog.info? 40).map (fun i => (i.zero, i.size, i.bytes)) = some (some (.agg #[.int .i64 0, .int .i64 0, .int .i32 0]), 3, 24) := by kernel_rfl
  have HInfo := Lib.hid hInfo
  clear hInfo
  unfold ItemsIs
  go_enter Try.func8, Try.ntmps8
  go_wp2
  go_loopw [4, 5, 6] (fun v o i wr => ∃ j : Nat, j ≤ n ∧ i = .int .i64 (j : Nat) ∧ o = .bool (afterL start (xs.take j)).on ∧ wr.ownsRow w.heap.size 40 3 v (itemsL start (xs.take j)).length (Row.flat itS (itemsL start (xs.take j))) ∧ Below w.heap.size w wr) (fun _ _ i _ => n - (intOf i).toNat)
  case atStart => exact ⟨0, by omega, rfl, rfl, Row.own_none (S := itS) _ _ _, Below.refl _ _⟩
  case round =>
    obtain ⟨j, hj, rfl, rfl, hO, hB⟩ := hrel
    by_cases hjn : j < n
    · obtain ⟨x, rfl, _⟩ := hv.cells (by omega)
      have hVr := hv.below hB
      have hcs := fun (W : World) (hB : Below w.heap.size w W) => ev_cells (hv.below hB) j hjn
      obtain ⟨hit, haf⟩ := items_take xs j (by omega)
      have hrun := refrun_any (some x) n c xs j wr hVr (by omega) hjn
      have hr2 := run_two xs j (by omega)
      have hE1 : (itemsL start (xs.take j)).length + 2 ≤ 1048576 := by
        have hEl := itemsL_few start (xs.take j)
        rw [List.length_take] at hEl
        omega
      generalize hI2 : itemsL start (xs.take (j + 1)) = I2 at *
      generalize hS2 : afterL start (xs.take (j + 1)) = st2 at *
      generalize hEE : itemsL start (xs.take j) = E at *
      generalize afterL start (xs.take j) = st at *
      generalize xs.getD j noEv = ev at *
      generalize runH ev.2.2.2 (xs.take (j + 1)).reverse = R at *
      obtain ⟨kd, at_, v, off⟩ := ev
      dsimp only at hcs hr2 hrun
      have HC := Lib.hid hcs
      clear hcs
      obtain ⟨e0, e1, e2, e3⟩ := HC.out wr hB
      obtain ⟨on, so, sn⟩ := st
      by_cases h1 : kd = 1
      · subst h1
        have hI : I2 = E ++ [(1, at_, 0)] := by rw [hit]; simp [St.items]
        have hN : st2.on = on := by rw [haf]; simp [St.next]
        have HI := Lib.hid hI
        have HN := Lib.hid hN
        have hP := app_ready 40 1 at_ 0 hO hB
        clear hit haf hv hVr hr2 hrun hI hN
        go_wp2_with (first
          | (at_builtin; refine Row.wpList_append (S := itS) rfl (.tmp 26) (.tmp 29) _ rfl w.heap.size 40 _ 24 (by omega) Try.underlying26 HInfo.out (by kernel_rfl) u4 E.length E rfl hP.1 _ 1 1 _ rfl hP.2.2 (by omega) hP.2.1.size ?_; intro v3 W3 hO3 hg3 hat3; have hB3 := below_kept hP.2.1 (Kept.of_grown hg3) hP.2.1.size (own_in hP.1); obtain ⟨f0, f1, f2, f3⟩ := HC.out _ hB3)
        )
        go_roundw
        case rel => exact ⟨j + 1, by omega, by go_num, by rw [hS2, HN.out], by rw [hI2, HI.out, List.length_append]; exact hO3, hB3⟩
        case measure => simp [intOf]; omega
      · by_cases h2 : kd = 2
        · subst h2
          have hRR := hr2 rfl
          clear hr2
          subst hRR
          have hit2 : I2 = E ++ ((if St.on' ⟨on, so, sn⟩ off ≠ on then [((if on then 2 else 3 : Int), at_, (0 : Int))] else []) ++ [if St.on' ⟨on, so, sn⟩ off then ((4 : Int), at_, v) else (5, at_, 0)]) := by rw [hit]; unfold St.items; simp
          have haf2 : st2.on = St.on' ⟨on, so, sn⟩ off := by rw [haf]; unfold St.next; simp
          unfold St.on' at hit2 haf2
          dsimp only at hit2 haf2
          clear hit haf hv hVr
          generalize St.run ⟨on, so, sn⟩ off = R at *
          cases on
          · cases off
            · by_cases hc : 100 ≤ R
              · have hz : (100 : Int) ≤ (R : Int) := by omega
                have hI : I2 = (E ++ [(3, at_, 0)]) ++ [(4, at_, v)] := by rw [hit2]; simp [hc]
                have hN : st2.on = true := by rw [haf2]; simp [hc]
                have HI := Lib.hid hI
                have HN := Lib.hid hN
                have hE2 : (E ++ [((3 : Int), at_, (0 : Int))]).length + 1 ≤ 1048576 := by rw [List.length_append]; simpa using hE1
                have hp := fun (W : World) (h1 : W.ownsRow w.heap.size 40 3 u4 E.length (Row.flat itS E)) (h2 : Below w.heap.size w W) => app_ready 40 3 at_ 0 h1 h2
                have hq := fun (W : World) (v2 : Value) (h1 : W.ownsRow w.heap.size 40 3 v2 (E.length + 1) (Row.flat itS (E ++ [(3, at_, 0)]))) (h2 : Below w.heap.size w W) => app_ready (E := E ++ [(3, at_, 0)]) 40 4 at_ v (by rw [List.length_append]; exact h1) h2
                clear hit2 haf2 hI hN hc
                go_wp2_with (first
                  | (go_at_call 16; ((with_reducible refine hrun.mono ?_); rintro e W1 ⟨rfl, z1, rfl⟩; have hB1 := below_drewN hB z1; have hO1 := own_kept hO ((Kept.refl [] _).drewN z1) (by simp); have hP := hp _ hO1 hB1; obtain ⟨g0, g1, g2, g3⟩ := HC.out _ hB1))
                  | (at_builtin; refine Row.wpList_append (S := itS) rfl (.tmp 73) (.tmp 76) _ rfl w.heap.size 40 _ 24 (by omega) Try.underlying26 HInfo.out (by kernel_rfl) u4 E.length E rfl hP.1 _ 1 1 _ rfl hP.2.2 (by omega) hP.2.1.size ?_; intro v2 W2 hO2 hg2 hat2; have hB2 := below_kept hP.2.1 (Kept.of_grown hg2) hP.2.1.size (own_in hP.1); have hQ := hq W2 v2 hO2 hB2; obtain ⟨d0, d1, d2, d3⟩ := HC.out _ hB2)
                  | (at_builtin; refine Row.wpList_append (S := itS) rfl (.tmp 79) (.tmp 88) _ rfl w.heap.size 40 _ 24 (by omega) Try.underlying26 HInfo.out (by kernel_rfl) v2 _ _ rfl hQ.1 _ 1 1 _ rfl hQ.2.2 (by exact hE2) hQ.2.1.size ?_; intro v3 W3 hO3 hg3 hat3; have hB3 := below_kept hQ.2.1 (Kept.of_grown hg3) hQ.2.1.size (own_in hQ.1))
                )
                go_roundw
                case rel => exact ⟨j + 1, by omega, by go_num, by rw [hS2, HN.out], by rw [hI2, HI.out, List.length_append]; exact hO3, hB3⟩
                case measure => simp [intOf]; omega
              · have hz : ¬ (100 : Int) ≤ (R : Int) := by omega
                have hI : I2 = E ++ [(5, at_, 0)] := by rw [hit2]; simp [hc]
                have hN : st2.on = false := by rw [haf2]; simp [hc]
                have HI := Lib.hid hI
                have HN := Lib.hid hN
                have hp := fun (W : World) (h1 : W.ownsRow w.heap.size 40 3 u4 E.length (Row.flat itS E)) (h2 : Below w.heap.size w W) => app_ready 40 5 at_ 0 h1 h2
                clear hit2 haf2 hI hN hc
                go_wp2_with (first
                  | (go_at_call 16; ((with_reducible refine hrun.mono ?_); rintro e W1 ⟨rfl, z1, rfl⟩; have hB1 := below_drewN hB z1; have hO1 := own_kept hO ((Kept.refl [] _).drewN z1) (by simp); have hP := hp _ hO1 hB1; obtain ⟨g0, g1, g2, g3⟩ := HC.out _ hB1))
                  | (at_builtin; refine Row.wpList_append (S := itS) rfl (.tmp 90) (.tmp 93) _ rfl w.heap.size 40 _ 24 (by omega) Try.underlying26 HInfo.out (by kernel_rfl) u4 E.length E rfl hP.1 _ 1 1 _ rfl hP.2.2 (by omega) hP.2.1.size ?_; intro v3 W3 hO3 hg3 hat3; have hB3 := below_kept hP.2.1 (Kept.of_grown hg3) hP.2.1.size (own_in hP.1); obtain ⟨f0, f1, f2, f3⟩ := HC.out _ hB3)
                )
                go_roundw
                case rel => exact ⟨j + 1, by omega, by go_num, by rw [hS2, HN.out], by rw [hI2, HI.out, List.length_append]; exact hO3, hB3⟩
                case measure => simp [intOf]; omega
            · have hc := True.intro
              have hI : I2 = E ++ [(5, at_, 0)] := by rw [hit2]; simp [hc]
              have hN : st2.on = false := by rw [haf2]; simp [hc]
              have HI := Lib.hid hI
              have HN := Lib.hid hN
              have hp := fun (W : World) (h1 : W.ownsRow w.heap.size 40 3 u4 E.length (Row.flat itS E)) (h2 : Below w.heap.size w W) => app_ready 40 5 at_ 0 h1 h2
              clear hit2 haf2 hI hN hc
              go_wp2_with (first
                | (go_at_call 16; ((with_reducible refine hrun.mono ?_); rintro e W1 ⟨rfl, z1, rfl⟩; have hB1 := below_drewN hB z1; have hO1 := own_kept hO ((Kept.refl [] _).drewN z1) (by simp); have hP := hp _ hO1 hB1; obtain ⟨g0, g1, g2, g3⟩ := HC.out _ hB1))
                | (at_builtin; refine Row.wpList_append (S := itS) rfl (.tmp 90) (.tmp 93) _ rfl w.heap.size 40 _ 24 (by omega) Try.underlying26 HInfo.out (by kernel_rfl) u4 E.length E rfl hP.1 _ 1 1 _ rfl hP.2.2 (by omega) hP.2.1.size ?_; intro v3 W3 hO3 hg3 hat3; have hB3 := below_kept hP.2.1 (Kept.of_grown hg3) hP.2.1.size (own_in hP.1); obtain ⟨f0, f1, f2, f3⟩ := HC.out _ hB3)
              )
              go_roundw
              case rel => exact ⟨j + 1, by omega, by go_num, by rw [hS2, HN.out], by rw [hI2, HI.out, List.length_append]; exact hO3, hB3⟩
              case measure => simp [intOf]; omega
          · cases off
            · have hc := True.intro
              have hI : I2 = E ++ [(4, at_, v)] := by rw [hit2]; simp [hc]
              have hN : st2.on = true := by rw [haf2]; simp [hc]
              have HI := Lib.hid hI
              have HN := Lib.hid hN
              have hp := fun (W : World) (h1 : W.ownsRow w.heap.size 40 3 u4 E.length (Row.flat itS E)) (h2 : Below w.heap.size w W) => app_ready 40 4 at_ v h1 h2
              clear hit2 haf2 hI hN hc
              go_wp2_with (first
                | (go_at_call 16; ((with_reducible refine hrun.mono ?_); rintro e W1 ⟨rfl, z1, rfl⟩; have hB1 := below_drewN hB z1; have hO1 := own_kept hO ((Kept.refl [] _).drewN z1) (by simp); have hP := hp _ hO1 hB1; obtain ⟨g0, g1, g2, g3⟩ := HC.out _ hB1))
                | (at_builtin; refine Row.wpList_append (S := itS) rfl (.tmp 79) (.tmp 88) _ rfl w.heap.size 40 _ 24 (by omega) Try.underlying26 HInfo.out (by kernel_rfl) u4 E.length E rfl hP.1 _ 1 1 _ rfl hP.2.2 (by omega) hP.2.1.size ?_; intro v3 W3 hO3 hg3 hat3; have hB3 := below_kept hP.2.1 (Kept.of_grown hg3) hP.2.1.size (own_in hP.1); obtain ⟨f0, f1, f2, f3⟩ := HC.out _ hB3)
              )
              go_roundw
              case rel => exact ⟨j + 1, by omega, by go_num, by rw [hS2, HN.out], by rw [hI2, HI.out, List.length_append]; exact hO3, hB3⟩
              case measure => simp [intOf]; omega
            · by_cases hc : 20 ≤ R
              · have hz : (20 : Int) ≤ (R : Int) := by omega
                have hI : I2 = (E ++ [(2, at_, 0)]) ++ [(5, at_, 0)] := by rw [hit2]; simp [hc]
                have hN : st2.on = false := by rw [haf2]; simp [hc]
                have HI := Lib.hid hI
                have HN := Lib.hid hN
                have hE2 : (E ++ [((2 : Int), at_, (0 : Int))]).length + 1 ≤ 1048576 := by rw [List.length_append]; simpa using hE1
                have hp := fun (W : World) (h1 : W.ownsRow w.heap.size 40 3 u4 E.length (Row.flat itS E)) (h2 : Below w.heap.size w W) => app_ready 40 2 at_ 0 h1 h2
                have hq := fun (W : World) (v2 : Value) (h1 : W.ownsRow w.heap.size 40 3 v2 (E.length + 1) (Row.flat itS (E ++ [(2, at_, 0)]))) (h2 : Below w.heap.size w W) => app_ready (E := E ++ [(2, at_, 0)]) 40 5 at_ 0 (by rw [List.length_append]; exact h1) h2
                clear hit2 haf2 hI hN hc
                go_wp2_with (first
                  | (go_at_call 16; ((with_reducible refine hrun.mono ?_); rintro e W1 ⟨rfl, z1, rfl⟩; have hB1 := below_drewN hB z1; have hO1 := own_kept hO ((Kept.refl [] _).drewN z1) (by simp); have hP := hp _ hO1 hB1; obtain ⟨g0, g1, g2, g3⟩ := HC.out _ hB1))
                  | (at_builtin; refine Row.wpList_append (S := itS) rfl (.tmp 53) (.tmp 56) _ rfl w.heap.size 40 _ 24 (by omega) Try.underlying26 HInfo.out (by kernel_rfl) u4 E.length E rfl hP.1 _ 1 1 _ rfl hP.2.2 (by omega) hP.2.1.size ?_; intro v2 W2 hO2 hg2 hat2; have hB2 := below_kept hP.2.1 (Kept.of_grown hg2) hP.2.1.size (own_in hP.1); have hQ := hq W2 v2 hO2 hB2; obtain ⟨d0, d1, d2, d3⟩ := HC.out _ hB2)
                  | (at_builtin; refine Row.wpList_append (S := itS) rfl (.tmp 90) (.tmp 93) _ rfl w.heap.size 40 _ 24 (by omega) Try.underlying26 HInfo.out (by kernel_rfl) v2 _ _ rfl hQ.1 _ 1 1 _ rfl hQ.2.2 (by exact hE2) hQ.2.1.size ?_; intro v3 W3 hO3 hg3 hat3; have hB3 := below_kept hQ.2.1 (Kept.of_grown hg3) hQ.2.1.size (own_in hQ.1))
                )
                go_roundw
                case rel => exact ⟨j + 1, by omega, by go_num, by rw [hS2, HN.out], by rw [hI2, HI.out, List.length_append]; exact hO3, hB3⟩
                case measure => simp [intOf]; omega
              · have hz : ¬ (20 : Int) ≤ (R : Int) := by omega
                have hI : I2 = E ++ [(4, at_, v)] := by rw [hit2]; simp [hc]
                have hN : st2.on = true := by rw [haf2]; simp [hc]
                have HI := Lib.hid hI
                have HN := Lib.hid hN
                have hp := fun (W : World) (h1 : W.ownsRow w.heap.size 40 3 u4 E.length (Row.flat itS E)) (h2 : Below w.heap.size w W) => app_ready 40 4 at_ v h1 h2
                clear hit2 haf2 hI hN hc
                go_wp2_with (first
                  | (go_at_call 16; ((with_reducible refine hrun.mono ?_); rintro e W1 ⟨rfl, z1, rfl⟩; have hB1 := below_drewN hB z1; have hO1 := own_kept hO ((Kept.refl [] _).drewN z1) (by simp); have hP := hp _ hO1 hB1; obtain ⟨g0, g1, g2, g3⟩ := HC.out _ hB1))
                  | (at_builtin; refine Row.wpList_append (S := itS) rfl (.tmp 79) (.tmp 88) _ rfl w.heap.size 40 _ 24 (by omega) Try.underlying26 HInfo.out (by kernel_rfl) u4 E.length E rfl hP.1 _ 1 1 _ rfl hP.2.2 (by omega) hP.2.1.size ?_; intro v3 W3 hO3 hg3 hat3; have hB3 := below_kept hP.2.1 (Kept.of_grown hg3) hP.2.1.size (own_in hP.1); obtain ⟨f0, f1, f2, f3⟩ := HC.out _ hB3)
                )
                go_roundw
                case rel => exact ⟨j + 1, by omega, by go_num, by rw [hS2, HN.out], by rw [hI2, HI.out, List.length_append]; exact hO3, hB3⟩
                case measure => simp [intOf]; omega
        · have hI : I2 = E := by rw [hit]; simp [St.items, h1, h2]
          have hN : st2.on = on := by rw [haf]; simp [St.next, h1, h2]
          have HI := Lib.hid hI
          have HN := Lib.hid hN
          have hk1 : (kd == 1) = false := by simp [h1]
          have hk2 : (kd != 2) = true := by simp [h2]
          clear hit haf hv hVr hr2 hrun hI hN
          go_wp2
          go_roundw
          case rel => exact ⟨j + 1, by omega, by go_num, by rw [hS2, HN.out], by rw [hI2, HI.out]; exact hO, hB⟩
          case measure => simp [intOf]; omega
    · obtain rfl : j = n := by omega
      rw [List.take_of_length_le (by omega)] at hO
      obtain ⟨A1, c1, rfl, e1, e2, hV1, hfar1, _⟩ := Row.Vals.own hO
      have hon : (afterL start (xs.take j)).on = onT xs := by rw [List.take_of_length_le (by omega)]; rfl
      rw [hon]
      go_wp2
      go_ret2
      exact ⟨A1, _, c1, rfl, e1, e2, hV1, (fun x hx => (hfar1 x hx).1), hB⟩
end Go.Proofs.Ytlopkmbindfkjaa.Lead
