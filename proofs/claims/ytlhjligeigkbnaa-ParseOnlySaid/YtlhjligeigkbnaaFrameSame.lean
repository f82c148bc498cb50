/- The reference: are two frames the same? -/
import Derived.Test.YtlhjligeigkbnaaFrameMath
import Derived.Lib.Hide
import Derived.Deep.QuietTactic
import Derived.BigQuiet
import Derived.Laws.StructEq
set_option linter.unusedSimpArgs false
set_option linter.unusedVariables false
namespace Go.Proofs.Ytlhjligeigkbnaa.Frm
open Go.RowKit
theorem neq_samp (W : World) (v v' : Int) (o o' : Bool) : (binOp .neq 49 (.agg #[.int .i32 v, .bool o]) (.agg #[.int .i32 v', .bool o'])).run Try.prog W = .ok (.bool (!(v == v' && o == o'))) W := by
  have ht : Try.prog.underlying 49 = some (.struct (Try.prog.fieldsOf 49)) := by kernel_rfl
  have hst : Try.prog.stoodInHeld 49 = false := by kernel_rfl
  rw [run_neq_struct, run_equalIn_agg W 9999 49 _ _ ht hst]
  simp only [Program.fieldsOf, Try.underlying49]
  simp [go_sem, Op.eqFields]
  by_cases h1 : v = v' <;> by_cases h2 : o = o' <;> simp [h1, h2]
theorem guard_samp (W : World) (x y : Operand) (v v' : Int) (o o' : Bool) : (eqGuard .neq 49 x y (.agg #[.int .i32 v, .bool o]) (.agg #[.int .i32 v', .bool o'])).run Try.prog W = .ok () W := run_eqGuard_agg W _ _ _ _ _ _ (by kernel_rfl)
set_option maxHeartbeats 1000000 in
theorem same_any (q r : Nat) (A : Option Addr) (n c : Nat) (xs : List Samp) (B : Option Addr) (m d : Nat) (ys : List Samp) (w : World) (hv : Row.Vals sampS w A n xs) (hu : Row.Vals sampS w B m ys) (hn : n ≤ 1000000) (hm : m ≤ 1000000) :
    Calls Try.prog 12 #[.agg #[.int .u8 q, .slice A n c], .agg #[.int .u8 r, .slice B m d]] w fun e w' => e = .returned (.bool (decide (q = r ∧ xs = ys))) ∧ Below w.heap.size w w' := by
  have hB0 := ((Below.refl w.heap.size w).alloc (Nat.le_refl _) (.cells #[.int .u8 q, .slice A n c] 34)).alloc (by simp) (.cells #[.int .u8 r, .slice B m d] 34)
  have hlx := hv.len_
  have hly := hu.len_
  by_cases hq : q = r
  · by_cases hnm : n = m
    · subst hq
      subst hnm
      rw [show decide (q = q ∧ xs = ys) = decide (xs = ys) by simp]
      have hv2 := hv.below hB0
      have hu2 := hu.below hB0
      go_enter Try.func12, Try.ntmps12
      go_wp2
      generalize hW : (w.alloc (.cells #[.int .u8 q, .slice A n c] 34)).alloc (.cells #[.int .u8 q, .slice B n d] 34) = W at *
      have hH0 : Has W w.heap.size 34 #[.int .u8 q, .slice A n c] := by rw [← hW]; exact (Has.new w _ _).alloc _
      have hH1 : Has W (w.heap.size + 1) 34 #[.int .u8 q, .slice B n d] := by
        rw [← hW]
        have h9 := Has.new (w.alloc (.cells #[.int .u8 q, .slice A n c] 34)) 34 #[.int .u8 q, .slice B n d]
        rwa [show (w.alloc (.cells #[.int .u8 q, .slice A n c] 34)).heap.size = w.heap.size + 1 by simp] at h9
      clear hW
      obtain ⟨a0, a1, _, _⟩ := hH0.two
      obtain ⟨b0, b1, _, _⟩ := hH1.two
      clear hH0 hH1
      go_loopw [5] (fun i wr => (∃ k : Nat, k ≤ n ∧ i = .int .i64 (k : Nat) ∧ ∀ j, j < k → xs.getD j (0, false) = ys.getD j (0, false)) ∧ ∃ d, wr = W.drewN d) (fun i _ => n - (intOf i).toNat)
      case atStart => exact ⟨⟨0, by omega, rfl, fun j hj => absurd hj (by omega)⟩, 0, rfl⟩
      case round =>
        obtain ⟨⟨k, hk, rfl, hall⟩, e, rfl⟩ := hrel
        have HA := Lib.hid hall
        clear hall
        by_cases hlt : k < n
        · obtain ⟨x, rfl, _⟩ := hv2.cells (by omega)
          obtain ⟨y, rfl, _⟩ := hu2.cells (by omega)
          obtain ⟨x0, x1⟩ := samp_cells hv2 k hlt
          obtain ⟨y0, y1⟩ := samp_cells hu2 k hlt
          have hs : xs.getD k (0, false) = ys.getD k (0, false) ↔ (xs.getD k (0, false)).1 = (ys.getD k (0, false)).1 ∧ (xs.getD k (0, false)).2 = (ys.getD k (0, false)).2 := Prod.ext_iff
          have HS := Lib.hid hs
          clear hs
          generalize (xs.getD k (0, false)).1 = v at *
          generalize (xs.getD k (0, false)).2 = o at *
          generalize (ys.getD k (0, false)).1 = v' at *
          generalize (ys.getD k (0, false)).2 = o' at *
          have hg := fun (W : World) (x y : Operand) => guard_samp W x y v v' o o'
          by_cases hso : v = v' ∧ o = o'
          · obtain ⟨rfl, rfl⟩ := hso
            have hc : ∀ W : World, (binOp .neq 49 (.agg #[.int .i32 v, .bool o]) (.agg #[.int .i32 v, .bool o])).run Try.prog W = .ok (.bool false) W := fun W => by rw [neq_samp]; simp
            clear hu hv hv2 hu2
            go_wp2
            go_quiet (fail)
            go_wp2
            go_roundw
            case rel => exact ⟨⟨k + 1, by omega, by go_num, fun j hj => by
              rcases (by omega : j < k ∨ j = k) with h1 | h1
              · exact HA.out j h1
              · rw [h1]; exact HS.out.2 (by simp)⟩, _, rfl⟩
            case measure => simp [intOf]; omega
          · have hc : ∀ W : World, (binOp .neq 49 (.agg #[.int .i32 v, .bool o]) (.agg #[.int .i32 v', .bool o'])).run Try.prog W = .ok (.bool true) W := fun W => by
              rw [neq_samp]
              by_cases h1 : v = v' <;> by_cases h2 : o = o' <;> simp_all
            have hne : decide (xs = ys) = false := decide_eq_false (fun h => hso (HS.out.1 (by rw [h])))
            have HNE := Lib.hid hne
            clear hne hu hv hv2 hu2
            go_wp2
            go_quiet (fail)
            go_wp2
            go_ret
            exact ⟨by rw [HNE.out]; rfl, below_drewN (below_drewN hB0 _) _⟩
        · have hkn : k = n := by omega
          subst hkn
          have he : xs = ys := by
            refine List.ext_getElem (by omega) fun i h1 h2 => ?_
            have := HA.out i (by omega)
            rwa [List.getD_eq_getElem?_getD, List.getD_eq_getElem?_getD, List.getElem?_eq_getElem h1, List.getElem?_eq_getElem h2] at this
          have HE := Lib.hid (decide_eq_true he)
          clear he
          go_wp2
          go_ret
          exact ⟨by rw [HE.out]; rfl, below_drewN hB0 _⟩
    · rw [decide_eq_false (by rintro ⟨_, rfl⟩; omega)]
      have hz : ¬ (n : Int) = (m : Int) := by omega
      subst hq
      clear hv hu hlx hly
      go_enter Try.func12, Try.ntmps12
      go_wp2
      all_goals go_ret
      all_goals exact ⟨rfl, hB0⟩
  · rw [decide_eq_false (fun h => hq h.1)]
    have hz : ¬ (q : Int) = (r : Int) := by omega
    clear hv hu hlx hly
    go_enter Try.func12, Try.ntmps12
    go_wp2
    all_goals go_ret
    all_goals exact ⟨rfl, hB0⟩
end Go.Proofs.Ytlhjligeigkbnaa.Frm
