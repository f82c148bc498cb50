/- What the reference of layer 11 answers. -/
import Derived.Test.YtnecdglokkljfaaLowMath
import Derived.Test.YtnecdglokkljfaaFilterRef
import Derived.Test.YtnecdglokkljfaaFixqDiv
import Derived.Test.YtnecdglokkljfaaOwn
set_option linter.unusedSimpArgs false
set_option linter.unusedVariables false
namespace Go.Proofs.Ytnecdglokkljfaa.Low
open Go.RowKit RI64
set_option maxHeartbeats 1000000 in
theorem refweighed_any (A : Option Addr) (n c : Nat) (h : List Int) (w : World) (hv : Vals w A n h.reverse) (hn : n ≤ 1000000) :
    Calls Try.prog 17 #[.slice A n c] w fun e w' => e = .returned (.int .i64 (sumT h)) ∧ Below w.heap.size w w' := by
  have hbd := fun j hj => partial_bd h j hj
  have hst := fun j (hj : j < 11) => weighed_step 65535 h wsT j hj
  have hfull : weighed 65535 h 0 (wsT.take 11) = sumT h := rfl
  have hz : weighed 65535 h 0 (wsT.take 0) = 0 := rfl
  have hws : ∀ W : World, Vals (W.alloc (.cells #[.int .i64 1, .int .i64 2, .int .i64 3, .int .i64 4, .int .i64 5, .int .i64 6, .int .i64 5, .int .i64 4, .int .i64 3, .int .i64 2, .int .i64 1] 2)) (some ⟨W.heap.size, 0, none⟩) 11 wsT := fun W => Vals.has (ys := wsT) (tl := []) (Has.new W _ _)
  have hW0 := hws w
  have hB0 := (Below.refl w.heap.size w).alloc (Nat.le_refl _) (.cells #[.int .i64 1, .int .i64 2, .int .i64 3, .int .i64 4, .int .i64 5, .int .i64 6, .int .i64 5, .int .i64 4, .int .i64 3, .int .i64 2, .int .i64 1] 2)
  have hv0 := hv.below hB0
  generalize hw1 : w.alloc (.cells #[.int .i64 1, .int .i64 2, .int .i64 3, .int .i64 4, .int .i64 5, .int .i64 6, .int .i64 5, .int .i64 4, .int .i64 3, .int .i64 2, .int .i64 1] 2) = w1 at *
  have hback : ∀ (k : Nat) W, W.heap = w1.heap → Calls Try.prog 27 #[.slice A n c, .int .i64 (k : Nat)] W fun e w' => e = .returned (.int .i64 (h.getD k 0)) ∧ ∃ z, w' = W.drewN z := fun k W hW => by
    have hb := refback_any A n c h k W (hv0.same hW) (by omega)
    rwa [ago_nat] at hb
  have hne : ∀ k W, Calls Try.prog 26 #[.int .i64 (h.getD k 0), .int .i64 65535] W fun e w' => e = .returned (.int .i64 (cameT 65535 h k)) ∧ w' = W := fun k W => (refnear_to 65535 (h.getD k 0) W (by omega) (by omega)).mono fun e w' h => ⟨h.1, h.2.symm⟩
  have hcell : ∀ j, j < 11 → w1.cell? ⟨w.heap.size, j, none⟩ = some (.int .i64 (wsT.getD j 0)) := fun j hj => by
    have hH := Has.new w 2 (vals wsT).toArray
    rw [show w.alloc (.cells (vals wsT).toArray 2) = w1 from hw1] at hH
    rw [hH.cell j]
    have hl : j < wsT.length := hj
    simp [vals, List.getD_eq_getElem?_getD, List.getElem?_eq_getElem hl]
  have HBD := Lib.hid hbd
  have HST := Lib.hid hst
  clear hbd hst hws hW0 hv hv0
  generalize hwss : wsT = ws at *
  have HF := Lib.hid hfull
  clear hfull hwss
  go_enter Try.func17, Try.ntmps17
  go_wp2
  go_loopw [3, 5] (fun s i wr => ∃ j : Nat, j ≤ 11 ∧ i = .int .i64 (j : Nat) ∧ s = .int .i64 (weighed 65535 h 0 (ws.take j)) ∧ ∃ d, wr = w1.drewN d) (fun _ i _ => 11 - (intOf i).toNat)
  case atStart => exact ⟨0, by omega, rfl, by rw [hz], 0, rfl⟩
  case round =>
    obtain ⟨j, hj, rfl, rfl, d, hwd⟩ := hrel
    by_cases hjn : j < 11
    · obtain ⟨hb1, hb2⟩ := HBD.out j hjn
      have HS := Lib.hid (HST.out j hjn)
      have hbj := fun z => hback j (wr.drewN z) (by rw [hwd]; rfl)
      have hnj := hne j
      have d1 : wr.cell? ⟨w.heap.size, j, none⟩ = some (.int .i64 (ws.getD j 0)) := by rw [hwd]; exact hcell j hjn
      have HWD := Lib.hid hwd
      clear hwd hback hne hcell
      generalize ws.getD j 0 = a at *
      generalize cameT 65535 h j = cv at *
      generalize h.getD j 0 = v at *
      generalize weighed 65535 h 0 (ws.take j) = s at *
      have hb3 : -9000000000 ≤ s + a * cv ∧ s + a * cv ≤ 9000000000 := by omega
      go_wp2
      go_quiet ((first
        | (go_at_call 27; exact Calls.quiet_of (hbj _))
        | (go_at_call 26; exact Calls.quiet_of_same (hnj _))))
      go_wp2
      go_roundw
      case rel => exact ⟨j + 1, by omega, by go_num, by rw [HS.out], d + nq, by rw [HWD.out, World.drewN_drewN]⟩
      case measure => simp [intOf]; omega
    · obtain rfl : j = 11 := by omega
      rw [HF.out]
      clear hback hne hcell
      go_wp2
      go_ret
      exact ⟨rfl, below_drewN hB0 d⟩
set_option maxHeartbeats 1000000 in
theorem refall_any (A : Option Addr) (n c : Nat) (ys : List Int) (w : World) (hv : Vals w A n ys) (hn : n ≤ 100000) (hc : n ≤ c) (hc2 : c ≤ 9223372036854775807) :
    Calls Try.prog 10 #[.slice A n c] w fun e w' => ∃ B d, e = .returned (.slice B n d) ∧ n ≤ d ∧ d ≤ 9223372036854775807 ∧ Vals w' B n (outsT lowT [] ys) ∧ (∀ x, B = some x → w.heap.size ≤ x.block) ∧ Below w.heap.size w w' := by
  have hlen := hv.len_
  have hInfo : (Try.prog.info? 2).map (fun i => (i.zero, i.size, i.bytes)) = some (some (.int .i64 0), 1, 8) := by kernel_rfl
  have HInfo := Lib.hid hInfo
  clear hInfo
  go_enter Try.func10, Try.ntmps10
  go_wp2
  go_loopw [3, 4] (fun v i wr => ∃ j : Nat, j ≤ n ∧ i = .int .i64 (j : Nat) ∧ wr.ownsRow w.heap.size 2 1 v j (vals (outsT lowT [] (ys.take j))) ∧ Below w.heap.size w wr) (fun _ i _ => n - (intOf i).toNat)
  case atStart => exact ⟨0, by omega, rfl, own_none _ _ _, Below.refl _ _⟩
  case round =>
    obtain ⟨j, hj, rfl, hO, hB⟩ := hrel
    by_cases hjn : j < n
    · obtain ⟨x, rfl, _⟩ := hv.cells (by omega)
      have hv1 := (hv.take (j + 1) (by omega)).below hB
      rw [show ys.take (j + 1) = (ys.take (j + 1)).reverse.reverse by rw [List.reverse_reverse]] at hv1
      have hwe := refweighed_any (some x) (j + 1) c (ys.take (j + 1)).reverse wr hv1 (by omega)
      have hsb := sum_bd (ys.take (j + 1)).reverse
      have hdv := fun W => refdiv_yes (sumT (ys.take (j + 1)).reverse) 32 W (by unfold fits64; omega) (by omega) (by omega)
      rw [Int.fdiv_eq_ediv_of_nonneg _ (by omega : (0 : Int) ≤ 32), show sumT (ys.take (j + 1)).reverse / 32 = lowT (ys.take (j + 1)).reverse from rfl] at hdv
      have hst := outs_step lowT [] ys j (by omega)
      rw [came_step [] ys j (by omega), List.append_nil] at hst
      generalize lowT (ys.take (j + 1)).reverse = r at *
      generalize sumT (ys.take (j + 1)).reverse = s at *
      have HS := Lib.hid hst
      clear hst hv hv1 hlen
      go_wp2_with (first
        | (go_at_call 17; ((with_reducible refine hwe.mono ?_); rintro e w1 ⟨rfl, hB1⟩; have hB2 := hB.trans (hB1.mono hB.size); have hO1 := own_kept hO (Kept.of_below (S := []) hB1) (by simp)))
        | (go_at_call 16; ((with_reducible refine (hdv _).mono ?_); rintro e w2 ⟨rfl, rfl⟩; have hP := one_ready 2 r hO1 hB2))
        | (at_builtin; refine wpList_append_vals rfl (.tmp 22) (.tmp 24) _ rfl w.heap.size 2 8 (by omega) Try.underlying22 HInfo.out u3 j (outsT lowT [] (ys.take j)) rfl (by exact hP.1) _ 1 1 [r] rfl (by exact hP.2.2) (by omega) (by exact hP.2.1.size) ?_; intro v3 W3 hO3 hg3 hat3; have hB3 := below_kept hP.2.1 (Kept.of_grown hg3) hP.2.1.size (own_in hP.1); rw [← HS.out] at hO3))
      go_roundw
      case rel => exact ⟨j + 1, by omega, by go_num, hO3, hB3⟩
      case measure => simp [intOf]; omega
    · obtain rfl : j = n := by omega
      rw [List.take_of_length_le (by omega)] at hO
      obtain ⟨A1, c1, rfl, e1, e2, hV1, hfar1, _⟩ := Vals.own hO
      go_wp2
      go_ret
      exact ⟨A1, c1, rfl, e1, e2, hV1, (fun x hx => (hfar1 x hx).1), hB⟩
end Go.Proofs.Ytnecdglokkljfaa.Low
