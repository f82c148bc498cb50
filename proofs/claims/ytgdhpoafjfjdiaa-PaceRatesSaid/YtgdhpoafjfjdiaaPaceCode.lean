/- The landed pace: what its memory holds, and what its calls answer and do. -/
import Derived.Test.YtgdhpoafjfjdiaaPaceKit
import Derived.Test.YtgdhpoafjfjdiaaWindow
import Derived.Test.YtgdhpoafjfjdiaaOwn
import Derived.Test.YtgdhpoafjfjdiaaRegion
import Derived.Lib.Hide
set_option linter.unusedSimpArgs false
set_option linter.unusedVariables false
namespace Go.Proofs.Ytgdhpoafjfjdiaa.Pace
open Go.RowKit RI64
/-- Block p is a pace's struct: over a window of sums at y (its line at x, its ring at b and g, n slots). -/
structure PaceIs (w : World) (p y x b g n : Nat) (h : List Int) : Prop where
  head : Has w p 43 #[.pointer (some ⟨y, 0, none⟩), .int .i64 (many h : Nat)]
  win : Window w y x b g n 7 (h.map distR)
  ne_ : p ≠ y ∧ p ≠ x ∧ p ≠ b ∧ p ≠ g
section
variable {w w' : World} {p y x b g n : Nat} {h : List Int}
theorem PaceIs.kept {S : List Nat} (L : PaceIs w p y x b g n h) (hk : Kept S w w') (h1 : p ∉ S) (h2 : y ∉ S) (h3 : x ∉ S) (h4 : b ∉ S) (h5 : g ∉ S) : PaceIs w' p y x b g n h := ⟨hk.has L.head h1, L.win.kept hk h2 h3 h4 h5, L.ne_⟩
theorem PaceIs.lt_ (L : PaceIs w p y x b g n h) : p < w.heap.size ∧ y < w.heap.size ∧ x < w.heap.size ∧ b < w.heap.size ∧ g < w.heap.size := ⟨L.head.lt, L.win.lt_⟩
end
def Pac (w : World) (p : Nat) (S : List Nat) (h : List Int) : Prop := ∃ y x b g n, S = [p, y, x, b, g] ∧ PaceIs w p y x b g n h
theorem win_sum (h : List Int) : wrap64 (winSum 7 (h.map distR)) = sumR h := by
  have h1 := sumR_bd h
  have h2 := many_bd h
  have h3 : winSum 7 (h.map distR) = sumR h := rfl
  rw [h3]
  unfold wrap64
  omega
theorem many_step (h : List Int) (v : Int) : (if (8 : Int) < (many h : Int) + 1 then 8 else (many h : Int) + 1) = (many (v :: h) : Int) := by
  unfold many
  rw [List.length_cons]
  split <;> omega
theorem mean_quo (h : List Int) (h0 : 0 < h.length) : (sumR h).tdiv (many h : Int) = meanT h := by
  have h1 := sumR_bd h
  unfold meanT
  rw [if_neg (by omega), Int.tdiv_eq_ediv_of_nonneg (by omega)]
theorem new_k (w : World) : Calls Try.prog 7 #[] w fun e w' => ∃ b S, e = .returned (.pointer (some ⟨b, 0, none⟩)) ∧ Pac w' b S [] ∧ (∀ k ∈ S, w.heap.size ≤ k) ∧ Below w.heap.size w w' := by
  have hln := window_of_yes 7 w (by omega)
  rw [show ((7 : Nat) : Int) + 1 = 8 from rfl] at hln
  go_enter Try.func7, Try.ntmps7
  go_wp2_with (go_at_call 18; ((with_reducible refine hln.mono ?_); rintro e w2 ⟨rfl, ⟨n, hL⟩, hB, hz⟩))
  go_ret
  refine ⟨_, _, rfl, ⟨_, _, _, _, n, rfl, ?_, by exact hL.alloc _, by omega⟩, fun k hk => by simp at hk; omega, hB.alloc hB.size _⟩
  have h9 := Has.new w2 43 #[.pointer (some ⟨w.heap.size + 3, 0, none⟩), .int .i64 0]
  rw [hz] at h9
  exact h9
theorem many_k (p y x b g n : Nat) (h : List Int) (w : World) (L : PaceIs w p y x b g n h) :
    Calls Try.prog 10 #[.pointer (some ⟨p, 0, none⟩)] w fun e w' => e = .returned (.int .i64 (many h : Nat)) ∧ w = w' := by
  have c1 := L.head.cell 1
  generalize many h = m at *
  go_enter Try.func10, Try.ntmps10
  go_wp2
  go_ret
  exact ⟨rfl, rfl⟩
set_option maxHeartbeats 1000000 in
theorem mean_k (p y x b g n : Nat) (h : List Int) (w : World) (L : PaceIs w p y x b g n h) :
    Calls Try.prog 9 #[.pointer (some ⟨p, 0, none⟩)] w fun e w' => e = .returned (.int .i64 (meanT h)) ∧ ∃ d, w' = w.drewN d := by
  have hmn := many_k p y x b g n h w L
  have c0 := L.head.cell 0
  have c1 := L.head.cell 1
  have hsm : ∀ d, Calls Try.prog 20 #[.pointer (some ⟨y, 0, none⟩)] (w.drewN d) fun e w' => e = .returned (.int .i64 (sumR h)) ∧ w' = w.drewN d := fun d => by
    have h1 := window_sum y x b g n 7 (h.map distR) (w.drewN d) (L.win.same rfl)
    rw [win_sum] at h1
    exact h1.mono fun e w' ⟨h2, h3⟩ => ⟨h2, h3.symm⟩
  have hsb := sumR_bd h
  have hmb := many_bd h
  by_cases h0 : h.length = 0
  · have hm : many h = 0 := by unfold many; omega
    have hr : meanT h = 0 := by unfold meanT; rw [if_pos h0]
    rw [hm] at hmn
    rw [hr]
    go_enter Try.func9, Try.ntmps9
    go_wp2_with (go_at_call 10; ((with_reducible refine hmn.mono ?_); rintro e w1 ⟨rfl, rfl⟩))
    go_ret
    exact ⟨rfl, 0, rfl⟩
  · have hm : 0 < many h := by unfold many; omega
    have hq := mean_quo h (by omega)
    have hmm := mean_bd h
    generalize meanT h = r at *
    generalize sumR h = s at *
    generalize many h = m at *
    have hm1 : ¬ (m : Int) = 0 := by omega
    go_enter Try.func9, Try.ntmps9
    go_wp2_with (go_at_call 10; ((with_reducible refine hmn.mono ?_); rintro e w1 ⟨rfl, rfl⟩))
    have HQ := Lib.hid hq
    clear L hsb hmb hm hq
    go_wp2
    go_quiet ((go_at_call 20; exact Calls.quiet_of_same (hsm _)))
    go_wp2
    go_ret
    rw [HQ.out, show wrap64 r = r from by unfold wrap64; omega]
    exact ⟨rfl, _, rfl⟩
theorem no_many (w : World) : Calls Try.prog 10 #[.pointer none] w fun e w' => e = .returned (.int .i64 0) ∧ w = w' := by
  go_enter Try.func10, Try.ntmps10
  go_wp2
  go_ret
  exact ⟨rfl, rfl⟩
theorem no_mean (w : World) : Calls Try.prog 9 #[.pointer none] w fun e w' => e = .returned (.int .i64 0) ∧ w = w' := by
  have hmn := no_many w
  go_enter Try.func9, Try.ntmps9
  go_wp2_with (go_at_call 10; ((with_reducible refine hmn.mono ?_); rintro e w1 ⟨rfl, rfl⟩))
  go_ret
  exact ⟨rfl, rfl⟩
theorem no_late (w : World) (s : Int) : Calls Try.prog 11 #[.pointer none, .int .i64 s] w fun e w' => e = .returned (.bool false) ∧ w = w' := by
  have hmn := no_many w
  go_enter Try.func11, Try.ntmps11
  go_wp2_with (go_at_call 10; ((with_reducible refine hmn.mono ?_); rintro e w1 ⟨rfl, rfl⟩))
  go_ret
  exact ⟨rfl, rfl⟩
theorem no_reset (w : World) : Calls Try.prog 8 #[.pointer none] w fun e w' => e = .returned (.tuple #[]) ∧ w = w' := by
  go_enter Try.func8, Try.ntmps8
  go_wp2
  exact bodyPost_ret (results_none rfl _ _ _) rfl ⟨rfl, rfl⟩
theorem no_add (w : World) (A : Option Addr) (n c : Nat) : Calls Try.prog 12 #[.pointer none, .slice A n c] w fun e w' => e = .returned (.tuple #[]) ∧ w = w' := by
  go_enter Try.func12, Try.ntmps12
  go_wp2
  exact bodyPost_ret (results_none rfl _ _ _) rfl ⟨rfl, rfl⟩
theorem rate_k (w : World) (rr : Int) (hr : fits64 rr) : Calls Try.prog 16 #[.int .i64 rr] w fun e w' => e = .returned (.int .i64 (rateT rr)) ∧ w = w' := by
  have hb := rate_bd rr
  by_cases h1 : rr < 1
  · have h2 : rateT rr = 0 := by unfold rateT; rw [if_pos h1]
    rw [h2]
    go_enter Try.func16, Try.ntmps16
    go_wp2
    go_ret
    exact ⟨rfl, rfl⟩
  · have h2 : (12000 : Int).tdiv rr = rateT rr := by
      unfold rateT
      rw [if_neg h1, Int.tdiv_eq_ediv_of_nonneg (by omega)]
    have h3 : ¬ rr = 0 := by omega
    generalize rateT rr = r at *
    go_enter Try.func16, Try.ntmps16
    go_wp2
    go_ret
    exact ⟨rfl, rfl⟩
theorem late_k (p y x b g n : Nat) (h : List Int) (s : Int) (w : World) (L : PaceIs w p y x b g n h) :
    Calls Try.prog 11 #[.pointer (some ⟨p, 0, none⟩), .int .i64 s] w fun e w' => e = .returned (.bool (lateT h s)) ∧ ∃ d, w' = w.drewN d := by
  have hmn := many_k p y x b g n h w L
  have hme := mean_k p y x b g n h w L
  have hmm := mean_bd h
  by_cases h0 : h.length = 0
  · have hm : many h = 0 := by unfold many; omega
    have hr : lateT h s = false := by unfold lateT; simp [h0]
    rw [hm] at hmn
    rw [hr]
    go_enter Try.func11, Try.ntmps11
    go_wp2_with (go_at_call 10; ((with_reducible refine hmn.mono ?_); rintro e w1 ⟨rfl, rfl⟩))
    go_ret
    exact ⟨rfl, 0, rfl⟩
  · have hm : 0 < many h := by unfold many; omega
    have hl : lateT h s = decide (5 * meanT h / 3 < s) := by
      unfold lateT
      rw [decide_eq_true (show 0 < h.length by omega), Bool.true_and]
    generalize lateT h s = t at *
    generalize meanT h = r at *
    generalize many h = m at *
    go_enter Try.func11, Try.ntmps11
    go_wp2_with (first
      | (go_at_call 10; ((with_reducible refine hmn.mono ?_); rintro e w1 ⟨rfl, rfl⟩))
      | (go_at_call 9; ((with_reducible refine hme.mono ?_); rintro e w1 ⟨rfl, d, rfl⟩)))
    go_ret
    rw [hl]
    exact ⟨rfl, d, rfl⟩
theorem reset_k (p y x b g n : Nat) (h : List Int) (w : World) (L : PaceIs w p y x b g n h) :
    Calls Try.prog 8 #[.pointer (some ⟨p, 0, none⟩)] w fun e w' => e = .returned (.tuple #[]) ∧ PaceIs w' p y x b g n [] ∧ Kept [p, y, x, b, g] w w' := by
  have c0 := L.head.cell 0
  have hne := L.ne_
  have hr := window_reset y x b g n 7 (h.map distR) w L.win
  have hH := L.head
  have hp : p ∉ [y, b, g] := by simp; omega
  go_enter Try.func8, Try.ntmps8
  go_wp2_with (go_at_call 19; ((with_reducible refine hr.mono ?_); rintro e w1 ⟨rfl, hL1, hK1⟩; have hH1 := hK1.has hH hp; have c1 := hH1.cell 1; have f1 := hH1.frozen 1))
  go_end0
  have hK2 : Kept [p] w1 (w1.setCell ⟨p, 1, none⟩ (.int .i64 0)) := (Kept.refl [p] w1).setCell (p := ⟨p, 1, none⟩) (.inl (by simp)) _
  refine ⟨rfl, ⟨?_, hL1.kept hK2 (by simp; omega) (by simp; omega) (by simp; omega) (by simp; omega), hne⟩, (hK1.wide (fun k hk _ => by simp at hk ⊢; rcases hk with rfl | rfl | rfl <;> simp)).trans (hK2.wide (fun k hk _ => by simp at hk; simp [hk]))⟩
  have h9 := hH1.set_ 1 (.int .i64 0)
  rw [show many [] = 0 from rfl]
  simpa using h9
def Adding (w : World) (p y x b g m : Nat) (h ys : List Int) (n : Nat) (i : Value) (wr : World) : Prop :=
  ∃ k, k ≤ n ∧ i = .int .i64 (k : Nat) ∧ PaceIs wr p y x b g m ((ys.take k).reverse ++ h) ∧ Kept [p, y, x, b, g] w wr
theorem add_step (ys : List Int) (h : List Int) (k : Nat) (hk : k < ys.length) : ys.getD k 0 :: ((ys.take k).reverse ++ h) = (ys.take (k + 1)).reverse ++ h := by
  rw [List.take_succ_eq_append_getElem hk, List.reverse_append, List.getD_eq_getElem?_getD, List.getElem?_eq_getElem hk]
  simp
set_option maxHeartbeats 1000000 in
theorem add_k (p y x b g m : Nat) (h : List Int) (A : Option Addr) (n c : Nat) (ys : List Int) (w : World) (L : PaceIs w p y x b g m h) (hv : Vals w A n ys) (hn : n ≤ 100000) (hfar : ∀ x', 0 < n → A = some x' → x'.block ∉ [p, y, x, b, g]) :
    Calls Try.prog 12 #[.pointer (some ⟨p, 0, none⟩), .slice A n c] w fun e w' => e = .returned (.tuple #[]) ∧ PaceIs w' p y x b g m (ys.reverse ++ h) ∧ Kept [p, y, x, b, g] w w' := by
  have hK := Kept.refl [p, y, x, b, g] w
  have hy := hv.len_
  have hfar2 : 0 < n → ∀ x', A = some x' → x'.block ∉ [p, y, x, b, g] := fun h0 x' hx => hfar x' h0 hx
  go_enter Try.func12, Try.ntmps12
  go_wp2
  go_loopw [10] (fun i wr => Adding w p y x b g m h ys n i wr) (fun i _ => n - (intOf i).toNat)
  case atStart => exact ⟨0, by omega, rfl, L, hK⟩
  case round =>
    clear L hK
    obtain ⟨k, hk, rfl, hL, hK⟩ := hrel
    by_cases hlt : k < n
    · obtain ⟨x', rfl, hcx⟩ := (hv.kept hK hfar2).cells (by omega)
      have hcell := hcx k hlt
      have hst := add_step ys h k (by omega)
      have hH := hL.head
      have c0 := hH.cell 0
      have hne := hL.ne_
      have hmb := many_bd ((ys.take k).reverse ++ h)
      obtain ⟨q, hq⟩ : ∃ q, (if ys.getD k 0 < 1 then 1 else ys.getD k 0) = q := ⟨_, rfl⟩
      have hr := distR_ifs (ys.getD k 0) q hq
      have hmst := many_step ((ys.take k).reverse ++ h) (ys.getD k 0)
      have hpu := fun W hW => window_push y x b g m 7 (((ys.take k).reverse ++ h).map distR) (distR (ys.getD k 0)) W hW
      unfold WindowBecame at hpu
      rw [show distR (ys.getD k 0) :: ((ys.take k).reverse ++ h).map distR = (ys.getD k 0 :: ((ys.take k).reverse ++ h)).map distR from rfl] at hpu
      rw [hst] at hpu hmst
      have hW := hL.win
      have HH := Lib.hid hH
      have HN := Lib.hid hne
      have hp : p ∉ [y, b, g] := by simp; omega
      have f1 := fun W (hW : Has W p 43 #[.pointer (some ⟨y, 0, none⟩), .int .i64 (many ((ys.take k).reverse ++ h) : Nat)]) => hW.frozen 1
      have HW := Lib.hid hW
      clear hst hcx hv hfar hfar2 hy hL hW
      generalize hh2 : (ys.take (k + 1)).reverse ++ h = h2 at *
      have HH2 := Lib.hid hh2
      clear hh2
      generalize (ys.take k).reverse ++ h = h1 at *
      generalize distR (ys.getD k 0) = r at *
      generalize ys.getD k 0 = v at *
      obtain ⟨m1, hm1⟩ : ∃ m1, many h1 = m1 := ⟨_, rfl⟩
      obtain ⟨m2, hm2⟩ : ∃ m2, many h2 = m2 := ⟨_, rfl⟩
      rw [hm1] at hH hmst hmb f1 c0
      rw [hm2] at hmst
      have HM1 := Lib.hid hm1
      have HM2 := Lib.hid hm2
      clear hm1 hm2 hne
      have HP := Lib.hid (show ∀ w1, Kept [y, b, g] wr w1 → Has w1 p 43 #[.pointer (some ⟨y, 0, none⟩), .int .i64 (m1 : Nat)] from fun w1 hK1 => hK1.has hH hp)
      clear hH hp HH
      go_wp2_with (go_at_call 21; ((with_reducible refine (hpu _ (by exact HW.out)).mono ?_); rintro e w1 ⟨rfl, hL1, hK1⟩; have hH1 := HP.out w1 hK1; have c1 := hH1.cell 1; have d0 := hH1.cell 0; have f1' := f1 _ hH1))
      go_roundw
      case rel =>
        have hK2 : Kept [p] w1 (w1.setCell ⟨p, 1, none⟩ (.int .i64 (m2 : Nat))) := (Kept.refl [p] w1).setCell (p := ⟨p, 1, none⟩) (.inl (by simp)) _
        have hne := HN.out
        have hK3 := hK.trans ((hK1.wide (T := [p, y, x, b, g]) (fun k hk _ => by simp at hk ⊢; rcases hk with rfl | rfl | rfl <;> simp)).trans (hK2.wide (fun k hk _ => by simp at hk; simp [hk])))
        refine ⟨k + 1, by omega, by go_num, ?_, hK3⟩
        rw [HH2.out]
        refine ⟨?_, hL1.kept hK2 (by simp; omega) (by simp; omega) (by simp; omega) (by simp; omega), hne⟩
        have h9 := hH1.set_ 1 (.int .i64 (m2 : Nat))
        rw [HM2.out]
        simpa using h9
      case measure => simp [intOf]; omega
    · obtain rfl : k = n := by omega
      rw [List.take_of_length_le (by omega)] at hL
      have HL := Lib.hid hL
      clear hv hfar hfar2 hL hy
      go_wp2
      go_end0
      exact ⟨rfl, HL.out, hK⟩
/-- What the landed pace answers. -/
theorem kit : PaceKit Pac where
  lt := by
    rintro w b S h ⟨y, x, b', g, n, rfl, L⟩
    have := L.lt_
    exact ⟨by simp, fun k hk => by simp at hk; omega⟩
  kept := by
    rintro w w' b S h T ⟨y, x, b', g, n, rfl, L⟩ hK hd
    exact ⟨y, x, b', g, n, rfl, L.kept hK (hd _ (by simp)) (hd _ (by simp)) (hd _ (by simp)) (hd _ (by simp)) (hd _ (by simp))⟩
  new_any := new_k
  add_any := by
    rintro w b S h A n c ys ⟨y, x, b', g, m, rfl, L⟩ hv hn hfar
    exact (add_k b y x b' g m h A n c ys w L hv hn hfar).mono fun e w' ⟨h1, h2, h3⟩ => ⟨h1, ⟨y, x, b', g, m, rfl, h2⟩, h3⟩
  mean_any := by
    rintro w b S h ⟨y, x, b', g, m, rfl, L⟩
    exact (mean_k b y x b' g m h w L).mono fun e w' ⟨h1, d, h2⟩ => ⟨h1, by rw [h2]; exact ((Kept.refl [] w).drewN d).below (Nat.le_refl _) (by simp)⟩
  many_any := by
    rintro w b S h ⟨y, x, b', g, m, rfl, L⟩
    exact (many_k b y x b' g m h w L).mono fun e w' ⟨h1, h2⟩ => ⟨h1, by rw [← h2]; exact Below.refl _ w⟩
  late_any := by
    rintro w b S h s ⟨y, x, b', g, m, rfl, L⟩
    exact (late_k b y x b' g m h s w L).mono fun e w' ⟨h1, d, h2⟩ => ⟨h1, by rw [h2]; exact ((Kept.refl [] w).drewN d).below (Nat.le_refl _) (by simp)⟩
  reset_any := by
    rintro w b S h ⟨y, x, b', g, m, rfl, L⟩
    exact (reset_k b y x b' g m h w L).mono fun e w' ⟨h1, h2, h3⟩ => ⟨h1, ⟨y, x, b', g, m, rfl, h2⟩, h3⟩
  rate_any := fun w rr hr => (rate_k w rr hr).mono fun e w' ⟨h1, h2⟩ => ⟨h1, by rw [← h2]; exact Below.refl _ w⟩
  no_add := fun w A n c => (no_add w A n c).mono fun e w' ⟨h1, h2⟩ => ⟨h1, by rw [← h2]; exact Below.refl _ w⟩
  no_mean := fun w => (no_mean w).mono fun e w' ⟨h1, h2⟩ => ⟨h1, by rw [← h2]; exact Below.refl _ w⟩
  no_many := fun w => (no_many w).mono fun e w' ⟨h1, h2⟩ => ⟨h1, by rw [← h2]; exact Below.refl _ w⟩
  no_late := fun w s => (no_late w s).mono fun e w' ⟨h1, h2⟩ => ⟨h1, by rw [← h2]; exact Below.refl _ w⟩
  no_reset := fun w => (no_reset w).mono fun e w' ⟨h1, h2⟩ => ⟨h1, by rw [← h2]; exact Below.refl _ w⟩
end Go.Proofs.Ytgdhpoafjfjdiaa.Pace
