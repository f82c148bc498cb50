/- The landed queue of orders: what its memory holds; its small functions; Put of one. -/
import Derived.Test.YtmefdgmbpihdfaaDoorOrderMath
import Derived.Test.YtmefdgmbpihdfaaDoorChecked
import Derived.Test.YtmefdgmbpihdfaaDoorRowPut
import Derived.Test.YtmefdgmbpihdfaaDoorRegion
import Derived.Test.YtmefdgmbpihdfaaDoorRegionTill
import Derived.Deep.DeepCutAuto
import Derived.Deep.QuietTactic
import Derived.BigQuiet
import Derived.Lib.Hide
set_option linter.unusedSimpArgs false
set_option linter.unusedVariables false
namespace Go.Proofs.YtmefdgmbpihdfaaDoor.Order
open Go.RowKit
open Alarm (Or orS noOr or_cells)
/-- An order as a value. -/
abbrev orV (o : Or) : Value := .agg #[.int .i64 o.1, .int .i64 o.2.1, .int .i64 o.2.2]
/-- All cells: how many wait, from where on, and the places. -/
def cellsL (m : Nat) (f : Int) (ys : List Or) : List Value := .int .i64 (m : Nat) :: .int .i64 f :: Row.flat orS ys
def cellsQ (s : St) : Array Value := (cellsL s.l.length s.frm (padT s.l)).toArray
def errT (o : Or) : Int := if May o then 0 else 1
def stayT (o : Or) : Bool := decide ((o.2.1 = 1 ∧ o.2.2 = 0) ∨ (o.2.1 = 2 ∧ 1 ≤ o.2.2 ∧ o.2.2 ≤ 24000))
theorem within_k (n lo hi : Int) (w : World) : Calls Tryd.prog 25 #[.int .i64 n, .int .i64 lo, .int .i64 hi] w fun e w' => e = .returned (.bool (decide (lo ≤ n ∧ n ≤ hi))) ∧ w' = w := by
  by_cases h1 : lo ≤ n <;> by_cases h2 : n ≤ hi
  all_goals
    go_enter Tryd.func25, Tryd.ntmps25
    go_wp2
    go_ret
    exact ⟨by simp [*], rfl⟩
theorem lasts_k (o : Or) (w : World) : Calls Tryd.prog 26 #[orV o] w fun e w' => e = .returned (.bool (stayT o)) ∧ Below w.heap.size w w' := by
  obtain ⟨a, k, n⟩ := o
  unfold stayT orV
  dsimp only
  have hB := (Below.refl w.heap.size w).alloc (Nat.le_refl _) (.cells #[.int .i64 a, .int .i64 k, .int .i64 n] 23)
  have hH := Has.new w 23 #[.int .i64 a, .int .i64 k, .int .i64 n]
  have c1 := hH.cell 1
  have c2 := hH.cell 2
  have hw := fun n lo hi W => within_k n lo hi W
  by_cases h1 : k = 1
  · subst h1
    by_cases h2 : n = 0
    · subst h2
      go_enter Tryd.func26, Tryd.ntmps26
      go_wp2
      go_ret
      exact ⟨by simp, hB⟩
    · go_enter Tryd.func26, Tryd.ntmps26
      go_wp2
      go_ret
      exact ⟨by simp [h2], hB⟩
  · by_cases h2 : k = 2
    · subst h2
      go_enter Tryd.func26, Tryd.ntmps26
      go_wp2_with (go_at_call 25; ((with_reducible refine (hw _ _ _ _).mono ?_); rintro e w' ⟨rfl, rfl⟩))
      go_ret
      exact ⟨by simp, hB⟩
    · go_enter Tryd.func26, Tryd.ntmps26
      go_wp2_with (go_at_call 25; ((with_reducible refine (hw _ _ _ _).mono ?_); rintro e w' ⟨rfl, rfl⟩))
      go_ret
      exact ⟨by simp [h1, h2], hB⟩
theorem check_k (o : Or) (w : World) : Calls Tryd.prog 9 #[orV o] w fun e w' => e = .returned (.int .i64 (errT o)) ∧ Below w.heap.size w w' := by
  have hB0 := (Below.refl w.heap.size w).alloc (Nat.le_refl _) (.cells #[.int .i64 o.1, .int .i64 o.2.1, .int .i64 o.2.2] 23)
  have hH := Has.new w 23 #[.int .i64 o.1, .int .i64 o.2.1, .int .i64 o.2.2]
  have hw := fun W => within_k o.1 0 1099511627776 W
  have hl := fun W => lasts_k o W
  have he : errT o = if (0 ≤ o.1 ∧ o.1 ≤ 1099511627776) ∧ stayT o = true then 0 else 1 := by unfold errT May stayT; simp only [decide_eq_true_eq, and_assoc]
  rw [he]
  clear he
  generalize stayT o = q at *
  obtain ⟨a, k, n⟩ := o
  dsimp only at *
  have c0 := hH.cell 0
  have c1 := hH.cell 1
  have c2 := hH.cell 2
  by_cases h1 : 0 ≤ a ∧ a ≤ 1099511627776
  · rw [decide_eq_true h1] at hw
    have h1' := h1
    cases q
    · rw [if_neg (fun h => by cases h.2)]
      clear h1 h1'
      go_enter Tryd.func9, Tryd.ntmps9
      go_wp2_with (first
        | (go_at_call 25; ((with_reducible refine (hw _).mono ?_); rintro e w' ⟨rfl, rfl⟩))
        | (go_at_call 26; ((with_reducible refine (hl _).mono ?_); rintro e w' ⟨rfl, hB1⟩; have hB2 := hB0.trans (hB1.mono hB0.size))))
      go_ret
      exact ⟨rfl, hB2⟩
    · rw [if_pos ⟨h1', rfl⟩]
      clear h1 h1'
      go_enter Tryd.func9, Tryd.ntmps9
      go_wp2_with (first
        | (go_at_call 25; ((with_reducible refine (hw _).mono ?_); rintro e w' ⟨rfl, rfl⟩))
        | (go_at_call 26; ((with_reducible refine (hl _).mono ?_); rintro e w' ⟨rfl, hB1⟩; have hB2 := hB0.trans (hB1.mono hB0.size))))
      go_ret
      exact ⟨rfl, hB2⟩
  · rw [decide_eq_false h1] at hw
    rw [if_neg (fun h => h1 h.1)]
    clear h1
    go_enter Tryd.func9, Tryd.ntmps9
    go_wp2_with (first
      | (go_at_call 25; ((with_reducible refine (hw _).mono ?_); rintro e w' ⟨rfl, rfl⟩)))
    go_ret
    exact ⟨rfl, hB0⟩
theorem upTo_k (a : Int) (w : World) : Calls Tryd.prog 36 #[.int .i64 a] w fun e w' => e = .returned (.func (.func 45) #[] #[.pointer (some ⟨w.heap.size, 0, none⟩)]) ∧ w' = w.alloc (.cells #[.int .i64 a] 2) := by
  have hmf : ∀ (fn : Fn) (first cap : Array Value) (W : World), (Instr.makeFunc fn first cap).run Tryd.prog W = .ok (.func fn first cap) W := fun _ _ _ _ => rfl
  go_enter Tryd.func36, Tryd.ntmps36
  go_wp2
  go_ret
  exact ⟨rfl, rfl⟩
theorem isDue_k (o : Or) (a : Int) (g : Nat) (w : World) (hg : w.cell? ⟨g, 0, none⟩ = some (.int .i64 a)) : Calls Tryd.prog 45 #[orV o, .pointer (some ⟨g, 0, none⟩)] w fun e w' => e = .returned (.bool (decide (o.1 ≤ a))) ∧ Below w.heap.size w w' := by
  have hB := (Below.refl w.heap.size w).alloc (Nat.le_refl _) (.cells #[.int .i64 o.1, .int .i64 o.2.1, .int .i64 o.2.2] 23)
  have hH := Has.new w 23 #[.int .i64 o.1, .int .i64 o.2.1, .int .i64 o.2.2]
  have hgl := World.block_lt_of_cell? _ _ hg
  have hg2 : (w.alloc (.cells #[.int .i64 o.1, .int .i64 o.2.1, .int .i64 o.2.2] 23)).cell? ⟨g, 0, none⟩ = some (.int .i64 a) := by rw [hB.cell hgl]; exact hg
  have c0 := hH.cell 0
  obtain ⟨a0, k, n⟩ := o
  dsimp only at *
  clear hg hH
  go_enter Tryd.func45, Tryd.ntmps45
  go_wp2
  go_ret
  exact ⟨rfl, hB⟩
/-- An order at a place. -/
theorem place {w : World} {b m : Nat} {f : Int} {ys : List Or} {t : TypeId} (h : Has w b t (cellsL m f ys).toArray) (i : Nat) (hi : i < ys.length) :
    w.cell? ⟨b, 2 + i * 3, none⟩ = some (.int .i64 (ys.getD i noOr).1) ∧ w.cell? ⟨b, 2 + i * 3 + 1, none⟩ = some (.int .i64 (ys.getD i noOr).2.1) ∧ w.cell? ⟨b, 2 + i * 3 + 2, none⟩ = some (.int .i64 (ys.getD i noOr).2.2) := by
  have hg := fun m (hm : m < 3) => Row.flat_get (S := orS) ys i m hi hm
  have e : ys.getD i noOr = ys[i] := by rw [List.getD_eq_getElem?_getD, List.getElem?_eq_getElem hi]; rfl
  rw [e]
  refine ⟨?_, ?_, ?_⟩
  · have h0 := h.cell (2 + i * 3)
    rw [h0, List.getElem?_toArray, cellsL, show 2 + i * 3 = i * 3 + 0 + 1 + 1 by omega, List.getElem?_cons_succ, List.getElem?_cons_succ]
    exact hg 0 (by omega)
  · have h0 := h.cell (2 + i * 3 + 1)
    rw [h0, List.getElem?_toArray, cellsL, show 2 + i * 3 + 1 = i * 3 + 1 + 1 + 1 by omega, List.getElem?_cons_succ, List.getElem?_cons_succ]
    exact hg 1 (by omega)
  · have h0 := h.cell (2 + i * 3 + 2)
    rw [h0, List.getElem?_toArray, cellsL, show 2 + i * 3 + 2 = i * 3 + 2 + 1 + 1 by omega, List.getElem?_cons_succ, List.getElem?_cons_succ]
    exact hg 2 (by omega)
theorem places_vals {w : World} {b m : Nat} {f : Int} {ys : List Or} {t : TypeId} (h : Has w b t (cellsL m f ys).toArray) (p n : Nat) (hp : p + n ≤ ys.length) : Row.Vals orS w (some ⟨b, 2 + p * 3, none⟩) n ((ys.drop p).take n) := by
  refine ⟨by simp; omega, fun h0 => ⟨_, rfl, fun j u hu => ?_⟩⟩
  have e1 : (Row.flat orS ((ys.drop p).take n))[j]? = (Row.flat orS ys)[p * 3 + j]? := by
    have e2 : Row.flat orS ys = Row.flat orS (ys.take p) ++ Row.flat orS (ys.drop p) := by rw [← Row.flat_append, List.take_append_drop]
    have e3 : Row.flat orS (ys.drop p) = Row.flat orS ((ys.drop p).take n) ++ Row.flat orS ((ys.drop p).drop n) := by rw [← Row.flat_append, List.take_append_drop]
    have hj : j < (Row.flat orS ((ys.drop p).take n)).length := (List.getElem?_eq_some_iff.1 hu).1
    have hl : (Row.flat orS (ys.take p)).length = p * 3 := by rw [Row.flat_length, List.length_take, show min p ys.length = p by omega]; rfl
    rw [e2, List.getElem?_append_right (by omega), hl, Nat.add_sub_cancel_left, e3, List.getElem?_append_left hj]
  rw [e1] at hu
  have h0 := h.cell (2 + p * 3 + j)
  rw [List.getElem?_toArray, cellsL, show 2 + p * 3 + j = p * 3 + j + 1 + 1 by omega, List.getElem?_cons_succ, List.getElem?_cons_succ, hu] at h0
  rw [show (Addr.add ⟨b, 2 + p * 3, none⟩ j) = ⟨b, p * 3 + j + 1 + 1, none⟩ by
    unfold Addr.add
    split
    · subst_vars; congr 1; omega
    · simp; omega]
  exact h0
set_option maxHeartbeats 1000000 in
theorem ahead_k (b : Nat) (s : St) (hO : s.l.length ≤ 32) (a : Int) (g : Nat) (w : World) (h : Has w b 73 (cellsQ s)) (hg : w.cell? ⟨g, 0, none⟩ = some (.int .i64 a)) :
    Calls Tryd.prog 44 #[.pointer (some ⟨b, 0, none⟩), .func (.func 45) #[] #[.pointer (some ⟨g, 0, none⟩)]] w fun e w' => e = .returned (.int .i64 (due a s.l : Nat)) ∧ Below w.heap.size w w' := by
  have hgl := World.block_lt_of_cell? _ _ hg
  have hpad : ∀ i, i < s.l.length → (padT s.l).getD i noOr = s.l.getD i noOr := pad_get s.l
  have hpl := pad_len s.l hO
  have hdu := due_is a s.l
  unfold cellsQ at h
  generalize s.l = l at *
  generalize padT l = ys at *
  generalize s.frm = f at *
  generalize hm : l.length = m at *
  clear s hm
  have HP := Lib.hid hpad
  have HD := Lib.hid hdu
  have HL := Lib.hid hpl
  have HG := Lib.hid hg
  clear hpad hdu hpl hg
  go_enter Tryd.func44, Tryd.ntmps44
  go_wp2
  go_loopw [5] (fun i wr => ∃ k : Nat, k ≤ m ∧ i = .int .i64 (k : Nat) ∧ (∀ j, j < k → (l.getD j noOr).1 ≤ a) ∧ Below w.heap.size w wr) (fun i _ => m - (intOf i).toNat)
  case atStart => exact ⟨0, by omega, rfl, fun j hj => absurd hj (by omega), Below.refl _ _⟩
  case round =>
    obtain ⟨k, hk, rfl, hall, hB⟩ := hrel
    have HA := Lib.hid hall
    have hX := h.below hB h.lt
    have c0 := hX.cell 0
    have e0 : ((cellsL m f ys).toArray)[0]? = some (.int .i64 (m : Nat)) := rfl
    rw [e0] at c0
    clear hall e0
    by_cases hkm : k < m
    · have hkz : (k : Int) < (m : Int) := by omega
      obtain ⟨p0, p1, p2⟩ := place hX k (by rw [HL.out]; omega)
      have hge := HP.out k hkm
      rw [hge] at p0 p1 p2
      have hgw : wr.cell? ⟨g, 0, none⟩ = some (.int .i64 a) := by rw [hB.cell hgl]; exact HG.out
      have HE := Lib.hid (show (l.getD k noOr) = (l.getD k noOr) from rfl)
      generalize hq : l.getD k noOr = o at *
      have HQ := Lib.hid hq
      clear hq hge
      have hid := isDue_k o a g wr hgw
      by_cases hoa : o.1 ≤ a
      · rw [decide_eq_true hoa] at hid
        have HOA := Lib.hid hoa
        clear hoa HE
        go_wp2_with (go_at_call 45; ((with_reducible refine hid.mono ?_); rintro e w1 ⟨rfl, hB1⟩; have hB2 := hB.trans (hB1.mono hB.size)))
        go_roundw
        case rel => exact ⟨k + 1, by omega, by go_num, fun j hj => by
          rcases (by omega : j < k ∨ j = k) with h1 | h1
          · exact HA.out j h1
          · rw [h1, HQ.out]; exact HOA.out, hB2⟩
        case measure => simp [intOf]; omega
      · rw [decide_eq_false hoa] at hid
        have HF := Lib.hid (HD.out k hk HA.out (fun _ => by rw [HQ.out]; omega))
        clear hoa HE
        go_wp2_with (go_at_call 45; ((with_reducible refine hid.mono ?_); rintro e w1 ⟨rfl, hB1⟩; have hB2 := hB.trans (hB1.mono hB.size)))
        go_ret
        exact ⟨by rw [HF.out]; rfl, hB2⟩
    · have hkm2 : k = m := by omega
      have HF := Lib.hid (HD.out k hk HA.out (fun h => absurd h hkm))
      subst hkm2
      go_wp2
      go_ret
      exact ⟨by rw [HF.out]; rfl, hB⟩
theorem set_place {w : World} {b m : Nat} {f : Int} {ys : List Or} {t : TypeId} (h : Has w b t (cellsL m f ys).toArray) (p : Nat) (hp : p < ys.length) (o : Or) :
    Has (((w.setCell ⟨b, 2 + p * 3, none⟩ (.int .i64 o.1)).setCell ⟨b, 2 + p * 3 + 1, none⟩ (.int .i64 o.2.1)).setCell ⟨b, 2 + p * 3 + 2, none⟩ (.int .i64 o.2.2)) b t (cellsL m f (ys.set p o)).toArray := by
  have h3 := ((h.set_ (2 + p * 3) (.int .i64 o.1)).set_ (2 + p * 3 + 1) (.int .i64 o.2.1)).set_ (2 + p * 3 + 2) (.int .i64 o.2.2)
  have e : ((((cellsL m f ys).toArray.setIfInBounds (2 + p * 3) (.int .i64 o.1)).setIfInBounds (2 + p * 3 + 1) (.int .i64 o.2.1)).setIfInBounds (2 + p * 3 + 2) (.int .i64 o.2.2)) = (cellsL m f (ys.set p o)).toArray := by
    simp only [List.setIfInBounds_toArray]
    congr 1
    unfold cellsL
    rw [show 2 + p * 3 + 2 = (p * 3 + 2) + 1 + 1 by omega, show 2 + p * 3 + 1 = (p * 3 + 1) + 1 + 1 by omega, show 2 + p * 3 = (p * 3) + 1 + 1 by omega]
    simp only [List.set_cons_succ]
    congr 2
    clear h h3
    induction ys generalizing p with
    | nil => simp at hp
    | cons y ys ih =>
      cases p with
      | zero => rfl
      | succ p =>
        rw [List.set_cons_succ]
        have h9 := ih p (by simpa using hp)
        rw [show (p + 1) * 3 = p * 3 + 1 + 1 + 1 by omega, show p * 3 + 1 + 1 + 1 + 1 = (p * 3 + 1) + 1 + 1 + 1 by omega, show p * 3 + 1 + 1 + 1 + 2 = (p * 3 + 2) + 1 + 1 + 1 by omega]
        show Value.int .i64 y.1 :: .int .i64 y.2.1 :: .int .i64 y.2.2 :: _ = Value.int .i64 y.1 :: .int .i64 y.2.1 :: .int .i64 y.2.2 :: _
        congr 3
  rwa [e] at h3
/-- Elements laid into the places. -/
theorem laid_places (m : Nat) (f : Int) (ys zs : List Or) (p : Nat) (h : p + zs.length ≤ ys.length) : Row.laidT (cellsL m f ys) (2 + p * 3) (Row.flat orS zs) = cellsL m f (ys.take p ++ zs ++ ys.drop (p + zs.length)) := by
  have e2 : Row.flat orS ys = Row.flat orS (ys.take p) ++ Row.flat orS (ys.drop p) := by rw [← Row.flat_append, List.take_append_drop]
  have hl : (Row.flat orS (ys.take p)).length = p * 3 := by rw [Row.flat_length, List.length_take, show min p ys.length = p by omega]; rfl
  have hz : (Row.flat orS zs).length = zs.length * 3 := Row.flat_length zs
  have e3 : Row.flat orS ys = Row.flat orS (ys.take (p + zs.length)) ++ Row.flat orS (ys.drop (p + zs.length)) := by rw [← Row.flat_append, List.take_append_drop]
  have hl3 : (Row.flat orS (ys.take (p + zs.length))).length = (p + zs.length) * 3 := by rw [Row.flat_length, List.length_take, show min (p + zs.length) ys.length = p + zs.length by omega]; rfl
  unfold Row.laidT cellsL
  rw [show 2 + p * 3 = p * 3 + 1 + 1 by omega, List.take_succ_cons, List.take_succ_cons, show p * 3 + 1 + 1 + (Row.flat orS zs).length = (p + zs.length) * 3 + 1 + 1 by rw [hz]; omega, List.drop_succ_cons, List.drop_succ_cons]
  rw [Row.flat_append, Row.flat_append]
  congr 1
  rw [show (Row.flat orS ys).take (p * 3) = Row.flat orS (ys.take p) from Row.flat_take (S := orS) ys p]
  rw [e3, ← hl3, List.drop_left]
  simp
theorem cells_len (m : Nat) (f : Int) (ys : List Or) : (cellsL m f ys).length = ys.length * 3 + 2 := by unfold cellsL; rw [List.length_cons, List.length_cons, Row.flat_length]; rfl
theorem moved_is (m : Nat) (f : Int) (ys : List Or) (q p n : Nat) (h1 : q + n ≤ ys.length) (h2 : p + n ≤ ys.length) : Row.laidT (cellsL m f ys) (2 + q * 3) (Row.flat orS ((ys.drop p).take n)) = cellsL m f (movedT ys q p n) := by
  have hl : ((ys.drop p).take n).length = n := by simp; omega
  rw [laid_places _ _ _ _ _ (by rw [hl]; exact h1), hl]
  rfl
/-- Slices of the places. -/
theorem slice_lh (b l h : Nat) (h1 : l ≤ h) (h2 : h ≤ 32) : ∃ D, (l < h → D = ⟨b, 2 + l * 3, none⟩) ∧ ∀ W, (Instr.sliceAt 71 (.pointer (some ⟨b, 2, none⟩)) (some (.int .i64 (l : Nat))) (some (.int .i64 (h : Nat))) none).run Tryd.prog W = .ok (.slice (some D) (h - l) (32 - l)) W := by
  have hu : Tryd.prog.underlying 71 = some (.array 32 23) := Tryd.underlying71
  have hl : Tryd.prog.arrayLen 71 = 32 := by kernel_rfl
  have he : Tryd.prog.elem 71 = 23 := by kernel_rfl
  have hz : ∀ W, (sizeOf 23).run Tryd.prog W = .ok 3 W := fun W => by kernel_rfl
  refine ⟨if 32 = l then ⟨b, 2, none⟩ else (⟨b, 2, none⟩ : Addr).add (l * 3), fun h3 => ?_, fun W => ?_⟩
  · rw [if_neg (by omega)]
    unfold Addr.add
    split
    · rename_i h4; rw [h4]
    · rfl
  · rw [run_sliceAt_array_lh W _ _ (by rw [hl, he]; exact hu) .i64 .i64 l h (by omega) (by omega) (by rw [hl]; omega), he, hz, hl]
    simp only [Result.andThen_ok, slicedAt, Int.toNat_natCast]
theorem slice_l (b l : Nat) (h1 : l ≤ 32) : ∃ D, (l < 32 → D = ⟨b, 2 + l * 3, none⟩) ∧ ∀ W, (Instr.sliceAt 71 (.pointer (some ⟨b, 2, none⟩)) (some (.int .i64 (l : Nat))) none none).run Tryd.prog W = .ok (.slice (some D) (32 - l) (32 - l)) W := by
  have hu : Tryd.prog.underlying 71 = some (.array 32 23) := Tryd.underlying71
  have hl : Tryd.prog.arrayLen 71 = 32 := by kernel_rfl
  have he : Tryd.prog.elem 71 = 23 := by kernel_rfl
  have hz : ∀ W, (sizeOf 23).run Tryd.prog W = .ok 3 W := fun W => by kernel_rfl
  refine ⟨if 32 = l then ⟨b, 2, none⟩ else (⟨b, 2, none⟩ : Addr).add (l * 3), fun h3 => ?_, fun W => ?_⟩
  · rw [if_neg (by omega)]
    unfold Addr.add
    split
    · rename_i h4; rw [h4]
    · rfl
  · rw [run_sliceAt_array_l W _ _ (by rw [hl, he]; exact hu) .i64 l (by omega) (by rw [hl]; omega), he, hz, hl]
    simp only [Result.andThen_ok, slicedAt, Int.toNat_natCast]
theorem ok_info : (Tryd.prog.info? 23).map (·.size) = some 3 := by kernel_rfl
end Go.Proofs.YtmefdgmbpihdfaaDoor.Order
