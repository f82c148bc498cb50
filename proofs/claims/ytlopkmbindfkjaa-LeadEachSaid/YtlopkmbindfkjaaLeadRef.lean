/- The reference of layer 9: are two lists of items the same; how many samples of a run stand up to an event. -/
import Derived.Test.YtlopkmbindfkjaaEventIn
import Derived.Test.YtlopkmbindfkjaaChecked
import Derived.Test.YtlopkmbindfkjaaLawKit
import Derived.Lib.Hide
import Derived.Deep.QuietTactic
import Derived.BigQuiet
import Derived.Laws.StructEq
set_option linter.unusedSimpArgs false
set_option linter.unusedVariables false
namespace Go.Proofs.Ytlopkmbindfkjaa.Row
open Go.RowKit
/-- A cell of an element behind its first. -/
theorem Vals.part {α : Type} {S : Shape α} {w : World} {x : Addr} {len : Nat} {ys : List α} (h : Vals S w (some x) len ys) (i m : Nat) (hi : i < ys.length) (u : Value) (hu : (S.enc ys[i])[m]? = some u) (h0 : m ≠ 0) :
    w.cell? ⟨(x.add (i * S.k)).block, (x.add (i * S.k)).off + m, none⟩ = some u := by
  have h1 := h.at_ i m hi u hu
  rwa [show x.add (i * S.k + m) = ⟨(x.add (i * S.k)).block, (x.add (i * S.k)).off + m, none⟩ by
    unfold Addr.add
    by_cases h2 : i * S.k = 0 <;> simp [h2, h0, Nat.add_assoc]] at h1
end Go.Proofs.Ytlopkmbindfkjaa.Row
namespace Go.Proofs.Ytlopkmbindfkjaa.Lead
open Go.RowKit
theorem ev_cells {w : World} {x : Addr} {len : Nat} {ys : List Ev} (h : Row.Vals evS w (some x) len ys) (i : Nat) (hi : i < len) :
    w.cell? (x.add (i * 4)) = some (.int .i64 (ys.getD i noEv).1) ∧ w.cell? ⟨(x.add (i * 4)).block, (x.add (i * 4)).off + 1, none⟩ = some (.int .i64 (ys.getD i noEv).2.1) ∧
    w.cell? ⟨(x.add (i * 4)).block, (x.add (i * 4)).off + 2, none⟩ = some (.int .i32 (ys.getD i noEv).2.2.1) ∧ w.cell? ⟨(x.add (i * 4)).block, (x.add (i * 4)).off + 3, none⟩ = some (.bool (ys.getD i noEv).2.2.2) := by
  have hl := h.len_
  have e : ys.getD i noEv = ys[i]'(by omega) := by rw [List.getD_eq_getElem?_getD, List.getElem?_eq_getElem (by omega)]; rfl
  rw [e]
  exact ⟨by simpa [evS] using h.at_ i 0 (by omega) _ rfl, h.part i 1 (by omega) _ rfl (by omega), h.part i 2 (by omega) _ rfl (by omega), h.part i 3 (by omega) _ rfl (by omega)⟩
theorem it_cells {w : World} {x : Addr} {len : Nat} {ys : List It} (h : Row.Vals itS w (some x) len ys) (i : Nat) (hi : i < len) :
    w.cell? (x.add (i * 3)) = some (.int .i64 (ys.getD i noIt).1) ∧ w.cell? ⟨(x.add (i * 3)).block, (x.add (i * 3)).off + 1, none⟩ = some (.int .i64 (ys.getD i noIt).2.1) ∧
    w.cell? ⟨(x.add (i * 3)).block, (x.add (i * 3)).off + 2, none⟩ = some (.int .i32 (ys.getD i noIt).2.2) := by
  have hl := h.len_
  have e : ys.getD i noIt = ys[i]'(by omega) := by rw [List.getD_eq_getElem?_getD, List.getElem?_eq_getElem (by omega)]; rfl
  rw [e]
  exact ⟨by simpa [itS] using h.at_ i 0 (by omega) _ rfl, h.part i 1 (by omega) _ rfl (by omega), h.part i 2 (by omega) _ rfl (by omega)⟩
theorem neq_it (W : World) (k a v k' a' v' : Int) : (binOp .neq 40 (.agg #[.int .i64 k, .int .i64 a, .int .i32 v]) (.agg #[.int .i64 k', .int .i64 a', .int .i32 v'])).run Try.prog W = .ok (.bool (!decide (k = k' ∧ a = a' ∧ v = v'))) W := by
  have ht : Try.prog.underlying 40 = some (.struct (Try.prog.fieldsOf 40)) := by kernel_rfl
  have hst : Try.prog.stoodInHeld 40 = false := by kernel_rfl
  rw [run_neq_struct, run_equalIn_agg W 9999 40 _ _ ht hst]
  simp only [Program.fieldsOf, Try.underlying40]
  simp [go_sem, Op.eqFields]
  by_cases h1 : k = k' <;> by_cases h2 : a = a' <;> by_cases h3 : v = v' <;> simp [h1, h2, h3]
theorem guard_it (W : World) (x y : Operand) (k a v k' a' v' : Int) : (eqGuard .neq 40 x y (.agg #[.int .i64 k, .int .i64 a, .int .i32 v]) (.agg #[.int .i64 k', .int .i64 a', .int .i32 v'])).run Try.prog W = .ok () W := run_eqGuard_agg W _ _ _ _ _ _ (by kernel_rfl)
theorem it_eq (x y : It) : x = y ↔ x.1 = y.1 ∧ x.2.1 = y.2.1 ∧ x.2.2 = y.2.2 := by
  obtain ⟨a, b, c⟩ := x
  obtain ⟨a', b', c'⟩ := y
  simp
set_option maxHeartbeats 1000000 in
theorem refsame_any (A : Option Addr) (n c : Nat) (xs : List It) (B : Option Addr) (m d : Nat) (ys : List It) (w : World) (hv : Row.Vals itS w A n xs) (hu : Row.Vals itS w B m ys) (hn : n ≤ 1000000) (hm : m ≤ 1000000) :
    Calls Try.prog 9 #[.slice A n c, .slice B m d] w fun e w' => e = .returned (.bool (decide (xs = ys))) ∧ ∃ z, w' = w.drewN z := by
  have hlx := hv.len_
  have hly := hu.len_
  by_cases hnm : n = m
  · subst hnm
    go_enter Try.func9, Try.ntmps9
    go_wp2
    go_loopw [5] (fun i wr => (∃ k : Nat, k ≤ n ∧ i = .int .i64 (k : Nat) ∧ ∀ j, j < k → xs.getD j noIt = ys.getD j noIt) ∧ ∃ z, wr = w.drewN z) (fun i _ => n - (intOf i).toNat)
    case atStart => exact ⟨⟨0, by omega, rfl, fun j hj => absurd hj (by omega)⟩, 0, rfl⟩
    case round =>
      obtain ⟨⟨k, hk, rfl, hall⟩, z, rfl⟩ := hrel
      have HA := Lib.hid hall
      clear hall
      by_cases hlt : k < n
      · obtain ⟨x, rfl, _⟩ := hv.cells (by omega)
        obtain ⟨y, rfl, _⟩ := hu.cells (by omega)
        obtain ⟨x0, x1, x2⟩ := it_cells hv k hlt
        obtain ⟨y0, y1, y2⟩ := it_cells hu k hlt
        have HS := Lib.hid (it_eq (xs.getD k noIt) (ys.getD k noIt))
        generalize (xs.getD k noIt).1 = a at *
        generalize (xs.getD k noIt).2.1 = b at *
        generalize (xs.getD k noIt).2.2 = v at *
        generalize (ys.getD k noIt).1 = a' at *
        generalize (ys.getD k noIt).2.1 = b' at *
        generalize (ys.getD k noIt).2.2 = v' at *
        have hg := fun (W : World) (x y : Operand) => guard_it W x y a b v a' b' v'
        by_cases hso : a = a' ∧ b = b' ∧ v = v'
        · obtain ⟨rfl, rfl, rfl⟩ := hso
          have hc : ∀ W : World, (binOp .neq 40 (.agg #[.int .i64 a, .int .i64 b, .int .i32 v]) (.agg #[.int .i64 a, .int .i64 b, .int .i32 v])).run Try.prog W = .ok (.bool false) W := fun W => by rw [neq_it]; simp
          have hgo := HS.out.2 ⟨rfl, rfl, rfl⟩
          have HGO := Lib.hid hgo
          clear hu hv HS hgo
          go_wp2
          go_quiet (fail)
          go_wp2
          go_roundw
          case rel => exact ⟨⟨k + 1, by omega, by go_num, fun j hj => by
            rcases (by omega : j < k ∨ j = k) with h1 | h1
            · exact HA.out j h1
            · rw [h1]; exact HGO.out⟩, _, rfl⟩
          case measure => simp [intOf]; omega
        · have hc : ∀ W : World, (binOp .neq 40 (.agg #[.int .i64 a, .int .i64 b, .int .i32 v]) (.agg #[.int .i64 a', .int .i64 b', .int .i32 v'])).run Try.prog W = .ok (.bool true) W := fun W => by rw [neq_it, decide_eq_false hso]; rfl
          have hne : decide (xs = ys) = false := decide_eq_false (fun h => hso (HS.out.1 (by rw [h])))
          have HNE := Lib.hid hne
          clear hne hu hv hso HS
          go_wp2
          go_quiet (fail)
          go_wp2
          go_ret
          exact ⟨by rw [HNE.out]; rfl, _, World.drewN_drewN _ _ _⟩
      · have hkn : k = n := by omega
        subst hkn
        have he : xs = ys := by
          refine List.ext_getElem (by omega) fun i h1 h2 => ?_
          have := HA.out i (by omega)
          rwa [List.getD_eq_getElem?_getD, List.getD_eq_getElem?_getD, List.getElem?_eq_getElem h1, List.getElem?_eq_getElem h2] at this
        have HE := Lib.hid (decide_eq_true he)
        clear he
        go_wp2
        go_ret
        exact ⟨by rw [HE.out]; rfl, z, rfl⟩
  · rw [decide_eq_false (by rintro rfl; omega)]
    have hz : ((n : Int) == (m : Int)) = false := by simp; omega
    have HN := Lib.hid hnm
    clear hv hu hlx hly hnm
    go_enter Try.func9, Try.ntmps9
    go_wp2
    go_ret
    exact ⟨rfl, 0, rfl⟩
theorem take_rev (l : List Ev) (k : Nat) (h : k < l.length) : (l.take (k + 1)).reverse = l.getD k noEv :: (l.take k).reverse := by
  rw [List.take_add_one, List.getElem?_eq_getElem h, List.getD_eq_getElem?_getD, List.getElem?_eq_getElem h]
  simp
theorem runH_le (off : Bool) (l : List Ev) : runH off l ≤ l.length := by
  induction l with
  | nil => simp [runH]
  | cons e l ih =>
    unfold runH
    split
    · simp; omega
    · split <;> simp <;> omega
set_option maxHeartbeats 2000000 in
theorem refrun_any (A : Option Addr) (n c : Nat) (xs : List Ev) (t : Nat) (w : World) (hv : Row.Vals evS w A n xs) (hn : n ≤ 1000000) (ht : t < n) :
    Calls Try.prog 16 #[.slice A n c, .int .i64 (t : Nat)] w fun e w' => e = .returned (.int .i64 (runH (xs.getD t noEv).2.2.2 (xs.take (t + 1)).reverse : Nat)) ∧ ∃ z, w' = w.drewN z := by
  have hlx := hv.len_
  obtain ⟨x, rfl, _⟩ := hv.cells (by omega)
  obtain ⟨t0, t1, t2, t3⟩ := ev_cells hv t ht
  obtain ⟨off, ho⟩ : ∃ o, (xs.getD t noEv).2.2.2 = o := ⟨_, rfl⟩
  rw [ho] at t3 ⊢
  have hrl := runH_le off (xs.take (t + 1)).reverse
  rw [List.length_reverse, List.length_take] at hrl
  generalize hR : runH off (xs.take (t + 1)).reverse = R at *
  clear t0 t1 t2 ho
  go_enter Try.func16, Try.ntmps16
  go_wp2
  go_loopw [5, 6] (fun s i wr => (∃ k m : Nat, k ≤ t + 1 ∧ i = .int .i64 ((k : Int) - 1) ∧ s = .int .i64 (m : Nat) ∧ R = m + runH off (xs.take k).reverse ∧ m + k ≤ t + 1) ∧ ∃ z, wr = w.drewN z) (fun _ i _ => (intOf i + 1).toNat)
  case atStart => exact ⟨⟨t + 1, 0, by omega, by congr 1; omega, rfl, by rw [Nat.zero_add]; exact hR.symm, by omega⟩, 0, rfl⟩
  case round =>
    obtain ⟨⟨k, m, hk, rfl, rfl, hRm, hmk⟩, z, rfl⟩ := hrel
    by_cases h0 : k = 0
    · subst h0
      have hRm2 : R = m := by rw [hRm]; rfl
      have HR := Lib.hid hRm2
      clear hRm hRm2 hR hrl
      go_wp2
      go_ret
      exact ⟨by rw [HR.out]; rfl, z, rfl⟩
    · obtain ⟨j, rfl⟩ : ∃ j, k = j + 1 := ⟨k - 1, by omega⟩
      have hj : ((j + 1 : Nat) : Int) - 1 = (j : Int) := by omega
      rw [hj]
      have hjn : j < n := by omega
      obtain ⟨e0, e1, e2, e3⟩ := ev_cells hv j hjn
      rw [take_rev xs j (by omega)] at hRm
      generalize xs.getD j noEv = e at *
      obtain ⟨kd, at_, v, o⟩ := e
      dsimp only at e0 e1 e2 e3
      unfold runH at hRm
      dsimp only at hRm
      by_cases h1 : kd = 1
      · subst h1
        have hRm2 : R = m := by simpa using hRm
        have HR := Lib.hid hRm2
        clear hRm hRm2 hR hrl hv
        go_wp2
        go_quiet (fail)
        go_wp2
        go_ret
        exact ⟨by rw [HR.out]; rfl, _, World.drewN_drewN _ _ _⟩
      · by_cases h2 : kd = 2
        · subst h2
          by_cases hoo : o = off
          · subst hoo
            have hRm2 : R = (m + 1) + runH o (xs.take j).reverse := by rw [hRm]; simp; omega
            have HR := Lib.hid hRm2
            clear hRm hRm2 hR hrl hv
            go_wp2
            go_quiet (fail)
            go_wp2
            go_roundw
            case rel => exact ⟨⟨j, m + 1, by omega, by first | go_num | (congr 1; omega), by go_num, HR.out, by omega⟩, _, rfl⟩
            case measure => simp [intOf]
          · have hRm2 : R = m := by rw [hRm]; simp [hoo]
            have hob : (!(o == off)) = true := by simp [hoo]
            have HR := Lib.hid hRm2
            clear hRm hRm2 hR hrl hv
            go_wp2
            go_quiet (fail)
            go_wp2
            go_ret
            exact ⟨by rw [HR.out]; rfl, _, World.drewN_drewN _ _ _⟩
        · have hRm2 : R = m + runH off (xs.take j).reverse := by rw [hRm, if_pos ⟨h1, h2⟩]
          have hk1 : (kd != 1) = true := by simp [h1]
          have hk2 : (kd != 2) = true := by simp [h2]
          have HR := Lib.hid hRm2
          clear hRm hRm2 hR hrl hv
          go_wp2
          go_roundw
          case rel => exact ⟨⟨j, m, by omega, by first | go_num | (congr 1; omega), rfl, HR.out, by omega⟩, _, rfl⟩
          case measure => simp [intOf]
end Go.Proofs.Ytlopkmbindfkjaa.Lead
