/- The reference: are two lists of events the same? -/
import Derived.Test.YtlhjligeigkbnaaPlaces
import Derived.Lib.Hide
import Derived.Deep.QuietTactic
import Derived.BigQuiet
import Derived.Laws.StructEq
set_option linter.unusedSimpArgs false
set_option linter.unusedVariables false
namespace Go.Proofs.Ytlhjligeigkbnaa.Par
open Go.RowKit Frm
def noEv : Ev := (0, 0, (0, false))
theorem ev_cells {w : World} {x : Addr} {len : Nat} {ys : List Ev} (h : Row.Vals evSh w (some x) len ys) (i : Nat) (hi : i < len) :
    w.cell? (x.add (i * 4)) = some (.int .i64 ((ys.getD i noEv).1 : Nat)) ∧ w.cell? ⟨(x.add (i * 4)).block, (x.add (i * 4)).off + 1, none⟩ = some (.int .i64 ((ys.getD i noEv).2.1 : Nat)) ∧
    w.cell? ⟨(x.add (i * 4)).block, (x.add (i * 4)).off + 2, none⟩ = some (.int .i32 (ys.getD i noEv).2.2.1) ∧ w.cell? ⟨(x.add (i * 4)).block, (x.add (i * 4)).off + 3, none⟩ = some (.bool (ys.getD i noEv).2.2.2) := by
  have hl := h.len_
  have e : ys.getD i noEv = ys[i]'(by omega) := by rw [List.getD_eq_getElem?_getD, List.getElem?_eq_getElem (by omega)]; rfl
  have key : ∀ m u, (evSh.enc (ys[i]'(by omega)))[m]? = some u → m < 4 → w.cell? (if m = 0 then x.add (i * 4) else ⟨(x.add (i * 4)).block, (x.add (i * 4)).off + m, none⟩) = some u := fun m u hu hm => by
    have h1 := h.at_ i m (by omega) u hu
    rw [show evSh.k = 4 from rfl] at h1
    by_cases h0 : m = 0
    · subst h0; simpa using h1
    · rw [if_neg h0]
      rw [show x.add (i * 4 + m) = ⟨(x.add (i * 4)).block, (x.add (i * 4)).off + m, none⟩ by
        unfold Addr.add
        by_cases h2 : i * 4 = 0 <;> simp [h2, h0, Nat.add_assoc]] at h1
      exact h1
  rw [e]
  exact ⟨key 0 _ rfl (by omega), key 1 _ rfl (by omega), key 2 _ rfl (by omega), key 3 _ rfl (by omega)⟩
theorem neq_ev (W : World) (k a k' a' : Nat) (v v' : Int) (o o' : Bool) : (binOp .neq 51 (.agg #[.int .i64 k, .int .i64 a, .int .i32 v, .bool o]) (.agg #[.int .i64 k', .int .i64 a', .int .i32 v', .bool o'])).run Try.prog W = .ok (.bool (!decide (k = k' ∧ a = a' ∧ v = v' ∧ o = o'))) W := by
  have ht : Try.prog.underlying 51 = some (.struct (Try.prog.fieldsOf 51)) := by kernel_rfl
  have hst : Try.prog.stoodInHeld 51 = false := by kernel_rfl
  rw [run_neq_struct, run_equalIn_agg W 9999 51 _ _ ht hst]
  simp only [Program.fieldsOf, Try.underlying51]
  simp [go_sem, Op.eqFields]
  by_cases h1 : k = k' <;> by_cases h2 : a = a' <;> by_cases h3 : v = v' <;> by_cases h4 : o = o' <;> simp [h1, h2, h3, h4, Int.natCast_inj]
theorem guard_ev (W : World) (x y : Operand) (k a k' a' : Nat) (v v' : Int) (o o' : Bool) : (eqGuard .neq 51 x y (.agg #[.int .i64 k, .int .i64 a, .int .i32 v, .bool o]) (.agg #[.int .i64 k', .int .i64 a', .int .i32 v', .bool o'])).run Try.prog W = .ok () W := run_eqGuard_agg W _ _ _ _ _ _ (by kernel_rfl)
theorem ev_eq (x y : Ev) : x = y ↔ x.1 = y.1 ∧ x.2.1 = y.2.1 ∧ x.2.2.1 = y.2.2.1 ∧ x.2.2.2 = y.2.2.2 := by
  obtain ⟨a, b, c, d⟩ := x
  obtain ⟨a', b', c', d'⟩ := y
  simp
set_option maxHeartbeats 1000000 in
theorem refsame_any (A : Option Addr) (n c : Nat) (xs : List Ev) (B : Option Addr) (m d : Nat) (ys : List Ev) (w : World) (hv : Row.Vals evSh w A n xs) (hu : Row.Vals evSh w B m ys) (hn : n ≤ 1000000) (hm : m ≤ 1000000) :
    Calls Try.prog 15 #[.slice A n c, .slice B m d] w fun e w' => e = .returned (.bool (decide (xs = ys))) ∧ ∃ z, w' = w.drewN z := by
  have hlx := hv.len_
  have hly := hu.len_
  by_cases hnm : n = m
  · subst hnm
    go_enter Try.func15, Try.ntmps15
    go_wp2
    go_loopw [5] (fun i wr => (∃ k : Nat, k ≤ n ∧ i = .int .i64 (k : Nat) ∧ ∀ j, j < k → xs.getD j noEv = ys.getD j noEv) ∧ ∃ z, wr = w.drewN z) (fun i _ => n - (intOf i).toNat)
    case atStart => exact ⟨⟨0, by omega, rfl, fun j hj => absurd hj (by omega)⟩, 0, rfl⟩
    case round =>
      obtain ⟨⟨k, hk, rfl, hall⟩, z, rfl⟩ := hrel
      have HA := Lib.hid hall
      clear hall
      by_cases hlt : k < n
      · obtain ⟨x, rfl, _⟩ := hv.cells (by omega)
        obtain ⟨y, rfl, _⟩ := hu.cells (by omega)
        obtain ⟨x0, x1, x2, x3⟩ := ev_cells hv k hlt
        obtain ⟨y0, y1, y2, y3⟩ := ev_cells hu k hlt
        have HS := Lib.hid (ev_eq (xs.getD k noEv) (ys.getD k noEv))
        generalize (xs.getD k noEv).1 = a at *
        generalize (xs.getD k noEv).2.1 = b at *
        generalize (xs.getD k noEv).2.2.1 = v at *
        generalize (xs.getD k noEv).2.2.2 = o at *
        generalize (ys.getD k noEv).1 = a' at *
        generalize (ys.getD k noEv).2.1 = b' at *
        generalize (ys.getD k noEv).2.2.1 = v' at *
        generalize (ys.getD k noEv).2.2.2 = o' at *
        have hg := fun (W : World) (x y : Operand) => guard_ev W x y a b a' b' v v' o o'
        by_cases hso : a = a' ∧ b = b' ∧ v = v' ∧ o = o'
        · obtain ⟨rfl, rfl, rfl, rfl⟩ := hso
          have hc : ∀ W : World, (binOp .neq 51 (.agg #[.int .i64 a, .int .i64 b, .int .i32 v, .bool o]) (.agg #[.int .i64 a, .int .i64 b, .int .i32 v, .bool o])).run Try.prog W = .ok (.bool false) W := fun W => by rw [neq_ev]; simp
          have hgo := HS.out.2 ⟨rfl, rfl, rfl, rfl⟩
          have HGO := Lib.hid hgo
          clear hu hv HS hgo
          go_wp2
          go_quiet (fail)
          go_wp2
          go_roundw
          case rel => exact ⟨⟨k + 1, by omega, by go_num, fun j hj => by
            rcases (by omega : j < k ∨ j = k) with h1 | h1
            · exact HA.out j h1
            · rw [h1]; exact HGO.out⟩, _, rfl⟩
          case measure => simp [intOf]; omega
        · have hc : ∀ W : World, (binOp .neq 51 (.agg #[.int .i64 a, .int .i64 b, .int .i32 v, .bool o]) (.agg #[.int .i64 a', .int .i64 b', .int .i32 v', .bool o'])).run Try.prog W = .ok (.bool true) W := fun W => by rw [neq_ev, decide_eq_false hso]; rfl
          have hne : decide (xs = ys) = false := decide_eq_false (fun h => hso (HS.out.1 (by rw [h])))
          have HNE := Lib.hid hne
          clear hne hu hv hso HS
          go_wp2
          go_quiet (fail)
          go_wp2
          go_ret
          exact ⟨by rw [HNE.out]; rfl, _, World.drewN_drewN _ _ _⟩
      · have hkn : k = n := by omega
        subst hkn
        have he : xs = ys := by
          refine List.ext_getElem (by omega) fun i h1 h2 => ?_
          have := HA.out i (by omega)
          rwa [List.getD_eq_getElem?_getD, List.getD_eq_getElem?_getD, List.getElem?_eq_getElem h1, List.getElem?_eq_getElem h2] at this
        have HE := Lib.hid (decide_eq_true he)
        clear he
        go_wp2
        go_ret
        exact ⟨by rw [HE.out]; rfl, z, rfl⟩
  · rw [decide_eq_false (by rintro rfl; omega)]
    have hz : ((n : Int) == (m : Int)) = false := by simp; omega
    have HN := Lib.hid hnm
    clear hv hu hlx hly hnm
    go_enter Try.func15, Try.ntmps15
    go_wp2
    go_ret
    exact ⟨rfl, 0, rfl⟩
end Go.Proofs.Ytlhjligeigkbnaa.Par
