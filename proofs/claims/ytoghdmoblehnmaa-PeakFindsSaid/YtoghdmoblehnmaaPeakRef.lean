/- What the reference of layer 16 answers: where it rises, where it falls, and all peaks. -/
import Derived.Test.YtoghdmoblehnmaaPeakAll
import Derived.Test.YtoghdmoblehnmaaNearRef
set_option linter.unusedSimpArgs false
set_option linter.unusedVariables false
namespace Go.Proofs.Ytoghdmoblehnmaa.Peak
open Go.RowKit
/-- The steps from a on, up to b. -/
def seg (L : List (Int × Int)) (a b : Nat) : List (Int × Int) := (L.take b).drop a
/-- The greatest distance of a slope from 0; of none 0. -/
def steepsT (l : List (Int × Int)) : Int := l.foldl (fun p x => more p (distD x.2)) 0
theorem steeps_step (L : List (Int × Int)) (a b : Nat) (hab : a ≤ b) (hb : b < L.length) : steepsT (seg L a (b + 1)) = more (steepsT (seg L a b)) (distD L[b].2) := by
  unfold steepsT seg
  rw [List.take_succ_eq_append_getElem hb, List.drop_append_of_le_length (by rw [List.length_take]; omega), List.foldl_append]
  rfl
theorem steeps_none (L : List (Int × Int)) (a : Nat) : steepsT (seg L a a) = 0 := by
  unfold steepsT seg
  rw [List.drop_of_length_le (by rw [List.length_take]; omega)]
  rfl
theorem steeps_one (L : List (Int × Int)) (a : Nat) (ha : a < L.length) : steepsT (seg L a (a + 1)) = distD L[a].2 := by
  rw [steeps_step L a a (Nat.le_refl _) ha, steeps_none, more_zero _ (distD_bd _).1]
theorem steeps_bd (L : List (Int × Int)) (a : Nat) : ∀ b, a ≤ b → b ≤ L.length → 0 ≤ steepsT (seg L a b) ∧ steepsT (seg L a b) ≤ 107136
  | b, hab, hb => by
    induction b with
    | zero =>
      obtain rfl : a = 0 := by omega
      rw [steeps_none]; omega
    | succ b ih =>
      by_cases h : a = b + 1
      · subst h; rw [steeps_none]; omega
      · rw [steeps_step L a b (by omega) (by omega)]
        exact more_bd _ _ (ih (by omega) (by omega)) (distD_bd _)
/-- The sums, as they count. -/
def sumsT (L : List (Int × Int)) : List Int := L.map fun x => sumW x.1
theorem sums_at (L : List (Int × Int)) (j : Nat) (hj : j < L.length) : (sumsT L).getD j 0 = sumW L[j].1 := by
  unfold sumsT
  rw [List.getD_eq_getElem?_getD, List.getElem?_map, List.getElem?_eq_getElem hj]
  rfl
theorem drop_at (L : List (Int × Int)) (j : Nat) (hj : j < L.length) : L.drop j = (L[j].1, L[j].2) :: L.drop (j + 1) := by rw [List.drop_eq_getElem_cons hj]
/-- Where it rises first, from one step on: it says so by -1, if nowhere. -/
def RiseIs (L : List (Int × Int)) (a : Nat) (r : Int) : Prop :=
  (r = -1 ∧ ∃ o, runT (.falls none) (a : Int) (L.drop a) = ([], .falls o)) ∨
  ∃ i : Nat, r = (i : Int) ∧ a ≤ i ∧ ∃ h : i < L.length, runT (.falls none) (a : Int) (L.drop a) = runT (.rises (sumW L[i].1) (i : Int) (distD L[i].2)) ((i : Int) + 1) (L.drop (i + 1))
set_option maxHeartbeats 1000000 in
theorem rises_any (A : Option Addr) (n c : Nat) (L : List (Int × Int)) (a : Nat) (w : World) (hv : RI64.Vals w A n (sumsT L)) (hn : n ≤ 100000) (ha : a ≤ n) :
    Calls Try.prog 22 #[.slice A n c, .int .i64 (a : Nat)] w fun e w' => (∃ r, e = .returned (.int .i64 r) ∧ RiseIs L a r) ∧ w = w' := by
  have hlen : L.length = n := by have := hv.len_; unfold sumsT at this; rwa [List.length_map] at this
  have HLEN := Lib.hid hlen
  clear hlen
  go_enter Try.func22, Try.ntmps22
  go_wp2
  go_loop [5, 6] (fun s i => ∃ (j : Nat) (o : Option Int) (least : Int), a ≤ j ∧ j ≤ n ∧ i = .int .i64 (j : Nat) ∧ s = .int .i64 least ∧ 0 ≤ least ∧ least ≤ 4611686018427387904 ∧ (∀ u, 0 ≤ u → u ≤ 62914560 → (if u < least then u else least) = valley o u) ∧ runT (.falls none) (a : Int) (L.drop a) = runT (.falls o) (j : Int) (L.drop j)) (fun _ i => n - (intOf i).toNat)
  case atStart => exact ⟨a, none, 4611686018427387904, Nat.le_refl _, ha, rfl, rfl, by omega, by omega, fun u h1 h2 => by rw [if_pos (by omega)]; rfl, rfl⟩
  case round =>
    obtain ⟨j, o, least, hj0, hj, rfl, rfl, hl1, hl2, hlo, hrun⟩ := hrel
    by_cases hjn : j < n
    · obtain ⟨x, rfl, hcx⟩ := hv.cells (by omega)
      have hcell := hcx j hjn
      rw [sums_at L j (by have := HLEN.out; omega)] at hcell
      have hd := drop_at L j (by have := HLEN.out; omega)
      rw [hd] at hrun
      have hb := sumW_bd (L[j]'(by have := HLEN.out; omega)).1
      have hov := hlo _ hb.1 hb.2
      have hup := run_up o (j : Int) (L[j]'(by have := HLEN.out; omega)).1 (L[j]'(by have := HLEN.out; omega)).2 (L.drop (j + 1))
      have hlw := run_low o (j : Int) (L[j]'(by have := HLEN.out; omega)).1 (L[j]'(by have := HLEN.out; omega)).2 (L.drop (j + 1))
      have HUP := Lib.hid hup
      have HLW := Lib.hid hlw
      have HRUN := Lib.hid hrun
      have HB := Lib.hid hb
      have hri : 2 * valley o (sumW (L[j]'(by have := HLEN.out; omega)).1) + 64 < sumW (L[j]'(by have := HLEN.out; omega)).1 → RiseIs L a (j : Int) := fun h => .inr ⟨j, rfl, hj0, by have := HLEN.out; omega, by rw [HRUN.out, HUP.out h]⟩
      have HRI := Lib.hid hri
      have hvb : 0 ≤ valley o (sumW (L[j]'(by have := HLEN.out; omega)).1) ∧ valley o (sumW (L[j]'(by have := HLEN.out; omega)).1) ≤ 62914560 := by
        rw [← hov]
        split <;> omega
      have hnext : ∀ u, 0 ≤ u → u ≤ 62914560 → (if u < valley o (sumW (L[j]'(by have := HLEN.out; omega)).1) then u else valley o (sumW (L[j]'(by have := HLEN.out; omega)).1)) = valley (some (valley o (sumW (L[j]'(by have := HLEN.out; omega)).1))) u := fun u _ _ => rfl
      have HNX := Lib.hid hnext
      clear hnext hri hup hlw hrun hd hlo hcx hv hb
      generalize sumW (L[j]'(by have := HLEN.out; omega)).1 = X at *
      have hXb : 0 ≤ X ∧ X ≤ 62914560 := HB.out
      generalize hval : valley o X = V at *
      clear hval
      by_cases hr : 2 * V + 64 < X
      · have hRI := HRI.out hr
        clear HUP HLW HRUN HRI HNX
        have hjz : (j : Int) < (n : Int) := by omega
        obtain ⟨hxl, rfl⟩ : ¬ X < least ∧ V = least := by
          by_cases hxl : X < least
          · rw [if_pos hxl] at hov; omega
          · rw [if_neg hxl] at hov; exact ⟨hxl, hov.symm⟩
        clear hov
        go_wp2
        go_ret
        exact ⟨⟨_, rfl, hRI⟩, rfl⟩
      · have hrl : runT (.falls none) (a : Int) (L.drop a) = runT (.falls (some V)) ((j + 1 : Nat) : Int) (L.drop (j + 1)) := by
          rw [HRUN.out, HLW.out hr]; rfl
        have HRL := Lib.hid hrl
        clear hrl HUP HLW HRUN HRI
        have hjz : (j : Int) < (n : Int) := by omega
        by_cases hxl : X < least
        · rw [if_pos hxl] at hov
          subst hov
          go_wp2
          go_round
          case rel => exact ⟨j + 1, some X, X, by omega, by omega, by go_num, rfl, by omega, by omega, HNX.out, HRL.out⟩
          case measure => simp [intOf]; omega
        · rw [if_neg hxl] at hov
          subst hov
          go_wp2
          go_round
          case rel => exact ⟨j + 1, some least, least, by omega, by omega, by go_num, rfl, by omega, by omega, HNX.out, HRL.out⟩
          case measure => simp [intOf]; omega
    · obtain rfl : j = n := by omega
      have HRI : RiseIs L a (-1) := .inl ⟨rfl, o, by rw [hrun, List.drop_of_length_le (by have := HLEN.out; omega)]; rfl⟩
      clear hlo hrun hv
      go_wp2
      go_ret
      exact ⟨⟨_, rfl, HRI⟩, rfl⟩
/-- Where it falls, when it rises from one step on: it says so by -1, if nowhere; and where the top is. -/
def FallIs (L : List (Int × Int)) (a : Nat) (ha : a < L.length) (r q : Int) : Prop :=
  (r = -1 ∧ ∃ t b p, runT (.rises (sumW L[a].1) (a : Int) (distD L[a].2)) ((a : Int) + 1) (L.drop (a + 1)) = ([], .rises t b p)) ∨
  ∃ i k : Nat, r = (i : Int) ∧ q = (k : Int) ∧ a < i ∧ k < i ∧ i < L.length ∧ a ≤ k ∧ ∃ h : k < L.length,
    runT (.rises (sumW L[a].1) (a : Int) (distD L[a].2)) ((a : Int) + 1) (L.drop (a + 1)) = (((k : Int), (i : Int), sumW L[k].1, steepsT (seg L a (i + 1))) :: (runT (.falls none) (i : Int) (L.drop i)).1, (runT (.falls none) (i : Int) (L.drop i)).2)
/-- How it stands ahead of step j, the top at step k. -/
def FallAt (L : List (Int × Int)) (a : Nat) (ha : a < L.length) (j k : Nat) : Prop :=
  ∃ h : k < L.length, runT (.rises (sumW L[a].1) (a : Int) (distD L[a].2)) ((a : Int) + 1) (L.drop (a + 1)) = runT (.rises (sumW L[k].1) (k : Int) (steepsT (seg L a j))) (j : Int) (L.drop j)
set_option maxHeartbeats 1000000 in
theorem falls_any (A : Option Addr) (n c : Nat) (L : List (Int × Int)) (a : Nat) (ha : a < L.length) (w : World) (hv : RI64.Vals w A n (sumsT L)) (hn : n ≤ 100000) :
    Calls Try.prog 23 #[.slice A n c, .int .i64 (a : Nat)] w fun e w' => (∃ r q, e = .returned (.tuple #[.int .i64 r, .int .i64 q]) ∧ FallIs L a ha r q) ∧ ∃ z, w' = w.drewN z := by
  have hlen : L.length = n := by have := hv.len_; unfold sumsT at this; rwa [List.length_map] at this
  have han : a < n := by omega
  have HLEN := Lib.hid hlen
  have hone := steeps_one L a ha
  go_enter Try.func23, Try.ntmps23
  go_wp2
  go_loopw [6, 7] (fun s i wr => (∃ j k : Nat, a < j ∧ j ≤ n ∧ k < j ∧ a ≤ k ∧ i = .int .i64 (j : Nat) ∧ s = .int .i64 (k : Nat) ∧ FallAt L a ha j k) ∧ ∃ z, wr = w.drewN z) (fun _ i _ => n - (intOf i).toNat)
  case atStart => exact ⟨⟨a + 1, a, by omega, by omega, by omega, Nat.le_refl _, by go_num, rfl, ⟨ha, by rw [hone]; rfl⟩⟩, 0, rfl⟩
  case round =>
    obtain ⟨⟨j, k, haj, hj, hkj, hak, rfl, rfl, ⟨hkl, hrun⟩⟩, z, rfl⟩ := hrel
    by_cases hjn : j < n
    · have hjl : j < L.length := by omega
      obtain ⟨x, rfl, hcx⟩ := hv.cells (by omega)
      have hcj := hcx j hjn
      have hck := hcx k (by omega)
      rw [sums_at L j hjl] at hcj
      rw [sums_at L k hkl] at hck
      have hd := drop_at L j hjl
      rw [hd] at hrun
      have hbj := sumW_bd L[j].1
      have hbk := sumW_bd L[k].1
      have HTOP := Lib.hid (run_top (sumW L[k].1) (k : Int) (steepsT (seg L a j)) (j : Int) L[j].1 L[j].2 (L.drop (j + 1)))
      have HON := Lib.hid (run_on (sumW L[k].1) (k : Int) (steepsT (seg L a j)) (j : Int) L[j].1 L[j].2 (L.drop (j + 1)))
      have HDOWN := Lib.hid (run_down (sumW L[k].1) (k : Int) (steepsT (seg L a j)) (j : Int) L[j].1 L[j].2 (L.drop (j + 1)))
      have HST := Lib.hid (steeps_step L a j (by omega) hjl)
      have HRUN := Lib.hid hrun
      have HD := Lib.hid hd
      have hjz : (j : Int) < (n : Int) := by omega
      have hkz : (k : Int) < (n : Int) := by omega
      have h1 : sumW L[k].1 < sumW L[j].1 → FallAt L a ha (j + 1) j := fun h => ⟨hjl, by rw [HRUN.out, HTOP.out h, HST.out]; rfl⟩
      have h2 : ¬ sumW L[k].1 < sumW L[j].1 → ¬ 2 * sumW L[j].1 < sumW L[k].1 → FallAt L a ha (j + 1) k := fun h h' => ⟨hkl, by rw [HRUN.out, HON.out h h', HST.out]; rfl⟩
      have h3 : ¬ sumW L[k].1 < sumW L[j].1 → 2 * sumW L[j].1 < sumW L[k].1 → FallIs L a ha (j : Int) (k : Int) := fun h h' => .inr ⟨j, k, rfl, rfl, haj, hkj, hjl, hak, hkl, by
        rw [HRUN.out, HDOWN.out h h', HST.out, HD.out]⟩
      have H1 := Lib.hid h1
      have H2 := Lib.hid h2
      have H3 := Lib.hid h3
      have HJL := Lib.hid hjl
      have HKL := Lib.hid hkl
      clear h1 h2 h3 hrun hd hcx hv HTOP HON HDOWN HST HRUN HD hone hlen
      generalize sumW L[k].1 = T at *
      generalize sumW L[j].1 = X at *
      by_cases c1 : T < X
      · have HR := H1.out c1
        clear H1 H2 H3
        go_wp2
        go_quiet (fail)
        go_wp2
        go_roundw
        case rel => exact ⟨⟨j + 1, j, by omega, by omega, by omega, by omega, by go_num, rfl, HR⟩, by first | exact ⟨_, rfl⟩ | (simp only [World.drewN_drewN]; exact ⟨_, rfl⟩)⟩
        case measure => simp [intOf]; omega
      · by_cases c2 : 2 * X < T
        · have HR := H3.out c1 c2
          clear H1 H2 H3
          go_wp2
          go_quiet (fail)
          go_wp2
          go_quiet (fail)
          go_wp2
          go_ret2
          exact ⟨⟨_, _, rfl, HR⟩, by first | exact ⟨_, rfl⟩ | (simp only [World.drewN_drewN]; exact ⟨_, rfl⟩)⟩
        · have HR := H2.out c1 c2
          clear H1 H2 H3
          go_wp2
          go_quiet (fail)
          go_wp2
          go_quiet (fail)
          go_wp2
          go_roundw
          case rel => exact ⟨⟨j + 1, k, by omega, by omega, by omega, by omega, by go_num, rfl, HR⟩, by first | exact ⟨_, rfl⟩ | (simp only [World.drewN_drewN]; exact ⟨_, rfl⟩)⟩
          case measure => simp [intOf]; omega
    · obtain rfl : j = n := by omega
      have HFI : ∀ q, FallIs L a ha (-1) q := fun q => .inl ⟨rfl, sumW L[k].1, (k : Int), steepsT (seg L a j), by rw [hrun, List.drop_of_length_le (by omega)]; rfl⟩
      clear hrun hv hone
      go_wp2
      go_ret2
      exact ⟨⟨_, _, rfl, HFI _⟩, z, rfl⟩
end Go.Proofs.Ytoghdmoblehnmaa.Peak
