/- The landed counter: what its memory holds, and what its calls answer and do. -/
import Derived.Test.YtpmjgomfjfhfkaaFibKit
import Derived.Test.YtpmjgomfjfhfkaaWindow
import Derived.Test.YtpmjgomfjfhfkaaOwn
import Derived.Test.YtpmjgomfjfhfkaaRegion
import Derived.Lib.Hide
set_option linter.unusedSimpArgs false
set_option linter.unusedVariables false
namespace Go.Proofs.Ytpmjgomfjfhfkaa.Fib
open Go.RowKit RI64
/-- Block p is a counter's struct: over a window of sums at y (its line at x, its ring at b and g, n slots). -/
structure CntIs (w : World) (p y x b g n : Nat) (H : Int) (h : List Int) : Prop where
  head : Has w p 82 #[.pointer (some ⟨y, 0, none⟩), .int .i64 H, .bool (belowH H h)]
  win : Window w y x b g n 399 (crossesT H h)
  ne_ : p ≠ y ∧ p ≠ x ∧ p ≠ b ∧ p ≠ g
section
variable {w w' : World} {p y x b g n : Nat} {H : Int} {h : List Int}
theorem CntIs.kept {S : List Nat} (L : CntIs w p y x b g n H h) (hk : Kept S w w') (h1 : p ∉ S) (h2 : y ∉ S) (h3 : x ∉ S) (h4 : b ∉ S) (h5 : g ∉ S) : CntIs w' p y x b g n H h := ⟨hk.has L.head h1, L.win.kept hk h2 h3 h4 h5, L.ne_⟩
theorem CntIs.lt_ (L : CntIs w p y x b g n H h) : p < w.heap.size ∧ y < w.heap.size ∧ x < w.heap.size ∧ b < w.heap.size ∧ g < w.heap.size := ⟨L.head.lt, L.win.lt_⟩
end
def Cnt (w : World) (p : Nat) (S : List Nat) (H : Int) (h : List Int) : Prop := ∃ y x b g n, S = [p, y, x, b, g] ∧ CntIs w p y x b g n H h
theorem win_sum (H : Int) (h : List Int) : wrap64 (winSum 399 (crossesT H h)) = countT H h := by
  have h1 := count_bd H h
  have h3 : winSum 399 (crossesT H h) = countT H h := rfl
  rw [h3]
  unfold wrap64
  omega
theorem new_no (w : World) (H : Int) (h : H < 1 ∨ 142847 < H) : Calls Try.prog 20 #[.int .i64 H] w fun e w' => e = .returned (.tuple #[.pointer none, .int .i64 1]) ∧ w = w' := by
  rcases h with h | h
  · go_enter Try.func20, Try.ntmps20
    go_wp2
    go_ret2
    exact ⟨rfl, rfl⟩
  · have h0 : ¬ H < 1 := by omega
    go_enter Try.func20, Try.ntmps20
    go_wp2
    go_ret2
    exact ⟨rfl, rfl⟩
theorem new_yes (w : World) (H : Int) (h : 1 ≤ H ∧ H ≤ 142847) : Calls Try.prog 20 #[.int .i64 H] w fun e w' => ∃ b S, e = .returned (.tuple #[.pointer (some ⟨b, 0, none⟩), .int .i64 0]) ∧ Cnt w' b S H [] ∧ (∀ k ∈ S, w.heap.size ≤ k) ∧ Below w.heap.size w w' := by
  have hln := window_of_yes 399 w (by omega)
  rw [show ((399 : Nat) : Int) + 1 = 400 from rfl] at hln
  have h0 : ¬ H < 1 := by omega
  have h1 : ¬ 142847 < H := by omega
  go_enter Try.func20, Try.ntmps20
  go_wp2_with (go_at_call 27; ((with_reducible refine hln.mono ?_); rintro e w2 ⟨rfl, ⟨n, hL⟩, hB, hz⟩))
  go_ret2
  refine ⟨_, _, rfl, ⟨_, _, _, _, n, rfl, ?_, by exact hL.alloc _, by omega⟩, fun k hk => by simp at hk; omega, hB.alloc hB.size _⟩
  have h9 := Has.new w2 82 #[.pointer (some ⟨w.heap.size + 3, 0, none⟩), .int .i64 H, .bool false]
  rw [hz] at h9
  exact h9
set_option maxHeartbeats 1000000 in
theorem come_k (p y x b g n : Nat) (H : Int) (h : List Int) (v : Int) (w : World) (L : CntIs w p y x b g n H h) :
    Calls Try.prog 56 #[.pointer (some ⟨p, 0, none⟩), .int .i64 v] w fun e w' => e = .returned (.tuple #[]) ∧ CntIs w' p y x b g n H (v :: h) ∧ Kept [p, y, x, b, g] w w' := by
  have c0 := L.head.cell 0
  have c1 := L.head.cell 1
  have c2 := L.head.cell 2
  have hne := L.ne_
  have hcc := cross_code H v h
  have hbc := below_code H v h
  have hpu := window_push y x b g n 399 (crossesT H h) (crossT H (v :: h)) w L.win
  unfold WindowBecame at hpu
  rw [show crossT H (v :: h) :: crossesT H h = crossesT H (v :: h) from rfl] at hpu
  have hp : p ∉ [y, b, g] := by simp; omega
  have HP := Lib.hid (show ∀ w1, Kept [y, b, g] w w1 → Has w1 p 82 #[.pointer (some ⟨y, 0, none⟩), .int .i64 H, .bool (belowH H h)] from fun w1 hK1 => hK1.has L.head hp)
  have HF : ∀ (w1 : World) (B : Bool), Window w1 y x b g n 399 (crossesT H (v :: h)) → Kept [y, b, g] w w1 → B = belowH H (v :: h) → CntIs (w1.setCell ⟨p, 2, none⟩ (.bool B)) p y x b g n H (v :: h) ∧ Kept [p, y, x, b, g] w (w1.setCell ⟨p, 2, none⟩ (.bool B)) := fun w1 B hL1 hK1 hB => by
    have hK2 : Kept [p] w1 (w1.setCell ⟨p, 2, none⟩ (.bool B)) := (Kept.refl [p] w1).setCell (p := ⟨p, 2, none⟩) (.inl (by simp)) _
    have h9 := (HP.out w1 hK1).set_ 2 (.bool B)
    refine ⟨⟨by rw [← hB]; simpa using h9, hL1.kept hK2 (by simp; omega) (by simp; omega) (by simp; omega) (by simp; omega), hne⟩, ?_⟩
    exact (hK1.wide (T := [p, y, x, b, g]) (fun k hk _ => by simp at hk ⊢; rcases hk with rfl | rfl | rfl <;> simp)).trans (hK2.wide (fun k hk _ => by simp at hk; simp [hk]))
  have HFF := Lib.hid HF
  clear HF hne L hp
  generalize crossesT H (v :: h) = cs at *
  generalize crossT H (v :: h) = r at *
  generalize belowH H (v :: h) = B2 at *
  generalize belowH H h = B at *
  have HBC := Lib.hid hbc
  clear hbc
  cases B with
  | false =>
    rw [if_neg (fun h9 => by cases h9.1)] at hcc
    subst hcc
    by_cases hv : v < H
    · have HV := Lib.hid (decide_eq_true hv)
      go_enter Try.func56, Try.ntmps56
      go_wp2_with (go_at_call 61; ((with_reducible refine hpu.mono ?_); rintro e w1 ⟨rfl, hL1, hK1⟩; have hH1 := HP.out w1 hK1; have d0 := hH1.cell 0; have f2 := hH1.frozen 2; have d2 := hH1.cell 2))
      go_end0
      exact ⟨rfl, HFF.out _ _ hL1 hK1 (by rw [HBC.out, HV.out])⟩
    · have HV := Lib.hid (decide_eq_false hv)
      go_enter Try.func56, Try.ntmps56
      go_wp2_with (go_at_call 61; ((with_reducible refine hpu.mono ?_); rintro e w1 ⟨rfl, hL1, hK1⟩; have hH1 := HP.out w1 hK1; have d0 := hH1.cell 0; have f2 := hH1.frozen 2; have d2 := hH1.cell 2))
      go_end0
      exact ⟨rfl, HFF.out _ _ hL1 hK1 (by rw [HBC.out, HV.out])⟩
  | true =>
    by_cases hv : v < H
    · rw [if_neg (fun h9 => h9.2 hv)] at hcc
      subst hcc
      have HV := Lib.hid (decide_eq_true hv)
      go_enter Try.func56, Try.ntmps56
      go_wp2_with (go_at_call 61; ((with_reducible refine hpu.mono ?_); rintro e w1 ⟨rfl, hL1, hK1⟩; have hH1 := HP.out w1 hK1; have d0 := hH1.cell 0; have f2 := hH1.frozen 2; have d2 := hH1.cell 2))
      go_end0
      exact ⟨rfl, HFF.out _ _ hL1 hK1 (by rw [HBC.out, HV.out])⟩
    · rw [if_pos ⟨rfl, hv⟩] at hcc
      subst hcc
      have HV := Lib.hid (decide_eq_false hv)
      go_enter Try.func56, Try.ntmps56
      go_wp2_with (go_at_call 61; ((with_reducible refine hpu.mono ?_); rintro e w1 ⟨rfl, hL1, hK1⟩; have hH1 := HP.out w1 hK1; have d0 := hH1.cell 0; have f2 := hH1.frozen 2; have d2 := hH1.cell 2))
      go_end0
      exact ⟨rfl, HFF.out _ _ hL1 hK1 (by rw [HBC.out, HV.out])⟩
theorem count_k (p y x b g n : Nat) (H : Int) (h : List Int) (w : World) (L : CntIs w p y x b g n H h) :
    Calls Try.prog 49 #[.pointer (some ⟨p, 0, none⟩)] w fun e w' => e = .returned (.int .i64 (countT H h)) ∧ w = w' := by
  have c0 := L.head.cell 0
  have hsm := window_sum y x b g n 399 (crossesT H h) w L.win
  rw [win_sum] at hsm
  generalize countT H h = s at *
  go_enter Try.func49, Try.ntmps49
  go_wp2_with (go_at_call 57; ((with_reducible refine hsm.mono ?_); rintro e w1 ⟨rfl, rfl⟩))
  go_ret
  exact ⟨rfl, rfl⟩
theorem reset_k (p y x b g n : Nat) (H : Int) (h : List Int) (w : World) (L : CntIs w p y x b g n H h) :
    Calls Try.prog 43 #[.pointer (some ⟨p, 0, none⟩)] w fun e w' => e = .returned (.tuple #[]) ∧ CntIs w' p y x b g n H [] ∧ Kept [p, y, x, b, g] w w' := by
  have c0 := L.head.cell 0
  have hne := L.ne_
  have hre := window_reset y x b g n 399 (crossesT H h) w L.win
  unfold WindowBecame at hre
  have hp : p ∉ [y, b, g] := by simp; omega
  have hhd := L.head
  go_enter Try.func43, Try.ntmps43
  go_wp2_with (go_at_call 54; ((with_reducible refine hre.mono ?_); rintro e w1 ⟨rfl, hL1, hK1⟩; have hH1 := hK1.has hhd hp; have d2 := hH1.cell 2; have f2 := hH1.frozen 2))
  go_end0
  have hK2 : Kept [p] w1 (w1.setCell ⟨p, 2, none⟩ (.bool false)) := (Kept.refl [p] w1).setCell (p := ⟨p, 2, none⟩) (.inl (by simp)) _
  have h9 := hH1.set_ 2 (.bool false)
  refine ⟨rfl, ⟨by simpa [belowH] using h9, hL1.kept hK2 (by simp; omega) (by simp; omega) (by simp; omega) (by simp; omega), hne⟩, ?_⟩
  exact (hK1.wide (T := [p, y, x, b, g]) (fun k hk _ => by simp at hk ⊢; rcases hk with rfl | rfl | rfl <;> simp)).trans (hK2.wide (fun k hk _ => by simp at hk; simp [hk]))
theorem push_step (ys : List Int) (h : List Int) (k : Nat) (hk : k < ys.length) : ys.getD k 0 :: ((ys.take k).reverse ++ h) = (ys.take (k + 1)).reverse ++ h := by
  rw [List.take_succ_eq_append_getElem hk, List.reverse_append, List.getD_eq_getElem?_getD, List.getElem?_eq_getElem hk]
  simp
def Pushing (w : World) (p y x b g m : Nat) (H : Int) (h ys : List Int) (n : Nat) (i : Value) (wr : World) : Prop :=
  ∃ k, k ≤ n ∧ i = .int .i64 (k : Nat) ∧ CntIs wr p y x b g m H ((ys.take k).reverse ++ h) ∧ Kept [p, y, x, b, g] w wr
set_option maxHeartbeats 1000000 in
theorem push_k (p y x b g m : Nat) (H : Int) (h : List Int) (A : Option Addr) (n c : Nat) (ys : List Int) (w : World) (L : CntIs w p y x b g m H h) (hv : Vals w A n ys) (hn : n ≤ 100000) (hfar : ∀ x', 0 < n → A = some x' → x'.block ∉ [p, y, x, b, g]) :
    Calls Try.prog 47 #[.pointer (some ⟨p, 0, none⟩), .slice A n c] w fun e w' => e = .returned (.int .i64 (countT H (ys.reverse ++ h))) ∧ CntIs w' p y x b g m H (ys.reverse ++ h) ∧ Kept [p, y, x, b, g] w w' := by
  have hK := Kept.refl [p, y, x, b, g] w
  have hy := hv.len_
  have hfar2 : 0 < n → ∀ x', A = some x' → x'.block ∉ [p, y, x, b, g] := fun h0 x' hx => hfar x' h0 hx
  go_enter Try.func47, Try.ntmps47
  go_wp2
  go_loopw [11] (fun i wr => Pushing w p y x b g m H h ys n i wr) (fun i _ => n - (intOf i).toNat)
  case atStart => exact ⟨0, by omega, rfl, L, hK⟩
  case round =>
    clear L hK
    obtain ⟨k, hk, rfl, hL, hK⟩ := hrel
    by_cases hlt : k < n
    · obtain ⟨x', rfl, hcx⟩ := (hv.kept hK hfar2).cells (by omega)
      have hcell := hcx k hlt
      have hst := push_step ys h k (by omega)
      have hco := come_k p y x b g m H _ (ys.getD k 0) wr hL
      rw [hst] at hco
      have hkz : (k : Int) < (n : Int) := by omega
      clear hst hcx hv hfar hfar2 hy hL
      generalize hh2 : (ys.take (k + 1)).reverse ++ h = h2 at *
      have HH2 := Lib.hid hh2
      clear hh2
      generalize ys.getD k 0 = v at *
      go_wp2_with (go_at_call 56; ((with_reducible refine hco.mono ?_); rintro e w1 ⟨rfl, hL1, hK1⟩))
      go_roundw
      case rel => exact ⟨k + 1, by omega, by go_num, by rw [HH2.out]; exact hL1, hK.trans hK1⟩
      case measure => simp [intOf]; omega
    · obtain rfl : k = n := by omega
      rw [List.take_of_length_le (by omega)] at hL
      have hsm := window_sum y x b g m 399 (crossesT H (ys.reverse ++ h)) wr hL.win
      rw [win_sum] at hsm
      have c0 := hL.head.cell 0
      have HL := Lib.hid hL
      obtain ⟨s, hs⟩ : ∃ s, countT H (ys.reverse ++ h) = s := ⟨_, rfl⟩
      rw [hs] at hsm
      have HS := Lib.hid hs
      clear hv hfar hfar2 hL hy hs
      generalize belowH H (ys.reverse ++ h) = B at *
      go_wp2_with (go_at_call 57; ((with_reducible refine hsm.mono ?_); rintro e w1 ⟨rfl, rfl⟩))
      go_ret
      exact ⟨by rw [HS.out]; rfl, HL.out, hK⟩
theorem no_push (w : World) (A : Option Addr) (n c : Nat) : Calls Try.prog 47 #[.pointer none, .slice A n c] w fun e w' => e = .returned (.int .i64 0) ∧ w = w' := by
  go_enter Try.func47, Try.ntmps47
  go_wp2
  go_ret
  exact ⟨rfl, rfl⟩
theorem no_count (w : World) : Calls Try.prog 49 #[.pointer none] w fun e w' => e = .returned (.int .i64 0) ∧ w = w' := by
  go_enter Try.func49, Try.ntmps49
  go_wp2
  go_ret
  exact ⟨rfl, rfl⟩
theorem no_reset (w : World) : Calls Try.prog 43 #[.pointer none] w fun e w' => e = .returned (.tuple #[]) ∧ w = w' := by
  go_enter Try.func43, Try.ntmps43
  go_wp2
  exact bodyPost_ret (results_none rfl _ _ _) rfl ⟨rfl, rfl⟩
/-- What the landed counter answers. -/
theorem kit : FibKit Cnt where
  lt := by
    rintro w b S H h ⟨y, x, b', g, n, rfl, L⟩
    have := L.lt_
    exact ⟨by simp, fun k hk => by simp at hk; omega⟩
  kept := by
    rintro w w' b S H h T ⟨y, x, b', g, n, rfl, L⟩ hK hd
    exact ⟨y, x, b', g, n, rfl, L.kept hK (hd _ (by simp)) (hd _ (by simp)) (hd _ (by simp)) (hd _ (by simp)) (hd _ (by simp))⟩
  new_no := fun w H h => (new_no w H h).mono fun e w' ⟨h1, h2⟩ => ⟨h1, by rw [← h2]; exact Below.refl _ w⟩
  new_yes := new_yes
  push_any := by
    rintro w b S H h A n c ys ⟨y, x, b', g, m, rfl, L⟩ hv hn hfar
    exact (push_k b y x b' g m H h A n c ys w L hv hn hfar).mono fun e w' ⟨h1, h2, h3⟩ => ⟨h1, ⟨y, x, b', g, m, rfl, h2⟩, h3⟩
  count_any := by
    rintro w b S H h ⟨y, x, b', g, m, rfl, L⟩
    exact (count_k b y x b' g m H h w L).mono fun e w' ⟨h1, h2⟩ => ⟨h1, by rw [← h2]; exact Below.refl _ w⟩
  reset_any := by
    rintro w b S H h ⟨y, x, b', g, m, rfl, L⟩
    exact (reset_k b y x b' g m H h w L).mono fun e w' ⟨h1, h2, h3⟩ => ⟨h1, ⟨y, x, b', g, m, rfl, h2⟩, h3⟩
  no_push := fun w A n c => (no_push w A n c).mono fun e w' ⟨h1, h2⟩ => ⟨h1, by rw [← h2]; exact Below.refl _ w⟩
  no_count := fun w => (no_count w).mono fun e w' ⟨h1, h2⟩ => ⟨h1, by rw [← h2]; exact Below.refl _ w⟩
  no_reset := fun w => (no_reset w).mono fun e w' ⟨h1, h2⟩ => ⟨h1, by rw [← h2]; exact Below.refl _ w⟩
end Go.Proofs.Ytpmjgomfjfhfkaa.Fib
