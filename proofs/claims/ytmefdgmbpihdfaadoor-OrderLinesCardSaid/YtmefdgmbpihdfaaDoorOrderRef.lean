/- The reference of layer 24: May, Put. -/
import Derived.Test.YtmefdgmbpihdfaaDoorChecked
import Derived.Test.YtmefdgmbpihdfaaDoorOrderMath
import Derived.Test.YtmefdgmbpihdfaaDoorOrderSame
import Derived.Test.YtmefdgmbpihdfaaDoorRegion
import Derived.Test.YtmefdgmbpihdfaaDoorRegionMore
import Derived.Test.YtmefdgmbpihdfaaDoorRegionTill
import Derived.Test.YtmefdgmbpihdfaaDoorOwnMore
import Derived.Deep.DeepCutAuto
set_option linter.unusedSimpArgs false
set_option linter.unusedVariables false
namespace Go.Proofs.YtmefdgmbpihdfaaDoor.Order
open Go.RowKit
open Alarm (Or orS noOr or_cells)
theorem ret_yes {o : Or} {q : Bool} (h : decide (May o) = q) (hm : May o) : Ending.returned (.bool true) = .returned (.bool q) := by rw [← h, decide_eq_true hm]
theorem ret_no {o : Or} {q : Bool} (h : decide (May o) = q) (hm : ¬ May o) : Ending.returned (.bool false) = .returned (.bool q) := by rw [← h, decide_eq_false hm]
set_option maxHeartbeats 2000000 in
theorem refmay_any (o : Or) (w : World) : Calls Tryd.prog 11 #[.agg #[.int .i64 o.1, .int .i64 o.2.1, .int .i64 o.2.2]] w fun e w' => e = .returned (.bool (decide (May o))) ∧ Below w.heap.size w w' := by
  obtain ⟨q, hq⟩ : ∃ q, decide (May o) = q := ⟨_, rfl⟩
  rw [hq]
  have HQ := Lib.hid hq
  clear hq
  obtain ⟨a, k, n⟩ := o
  dsimp only at *
  by_cases h4 : a ≤ 1099511627776
  · by_cases h1 : k = 1
    · subst h1
      by_cases h2 : n = 0
      · subst h2
        go_enter Tryd.func11, Tryd.ntmps11
        go_wp2
        all_goals
          go_ret
          first
            | exact ⟨ret_yes HQ.out ⟨by dsimp only; omega, by dsimp only; omega, by dsimp only; omega⟩, (Below.refl w.heap.size w).alloc (Nat.le_refl _) _⟩
            | exact ⟨ret_no HQ.out (fun ⟨h1, h2, h3⟩ => by dsimp only at h1 h2 h3; omega), (Below.refl w.heap.size w).alloc (Nat.le_refl _) _⟩
      · skip
        go_enter Tryd.func11, Tryd.ntmps11
        go_wp2
        all_goals
          go_ret
          first
            | exact ⟨ret_yes HQ.out ⟨by dsimp only; omega, by dsimp only; omega, by dsimp only; omega⟩, (Below.refl w.heap.size w).alloc (Nat.le_refl _) _⟩
            | exact ⟨ret_no HQ.out (fun ⟨h1, h2, h3⟩ => by dsimp only at h1 h2 h3; omega), (Below.refl w.heap.size w).alloc (Nat.le_refl _) _⟩
    · by_cases h2 : k = 2
      · subst h2
        go_enter Tryd.func11, Tryd.ntmps11
        go_wp2
        all_goals
          go_ret
          first
            | exact ⟨ret_yes HQ.out ⟨by dsimp only; omega, by dsimp only; omega, by dsimp only; omega⟩, (Below.refl w.heap.size w).alloc (Nat.le_refl _) _⟩
            | exact ⟨ret_no HQ.out (fun ⟨h1, h2, h3⟩ => by dsimp only at h1 h2 h3; omega), (Below.refl w.heap.size w).alloc (Nat.le_refl _) _⟩
      · skip
        go_enter Tryd.func11, Tryd.ntmps11
        go_wp2
        all_goals
          go_ret
          first
            | exact ⟨ret_yes HQ.out ⟨by dsimp only; omega, by dsimp only; omega, by dsimp only; omega⟩, (Below.refl w.heap.size w).alloc (Nat.le_refl _) _⟩
            | exact ⟨ret_no HQ.out (fun ⟨h1, h2, h3⟩ => by dsimp only at h1 h2 h3; omega), (Below.refl w.heap.size w).alloc (Nat.le_refl _) _⟩
  · by_cases h1 : k = 1
    · subst h1
      by_cases h2 : n = 0
      · subst h2
        go_enter Tryd.func11, Tryd.ntmps11
        go_wp2
        all_goals
          go_ret
          first
            | exact ⟨ret_yes HQ.out ⟨by dsimp only; omega, by dsimp only; omega, by dsimp only; omega⟩, (Below.refl w.heap.size w).alloc (Nat.le_refl _) _⟩
            | exact ⟨ret_no HQ.out (fun ⟨h1, h2, h3⟩ => by dsimp only at h1 h2 h3; omega), (Below.refl w.heap.size w).alloc (Nat.le_refl _) _⟩
      · skip
        go_enter Tryd.func11, Tryd.ntmps11
        go_wp2
        all_goals
          go_ret
          first
            | exact ⟨ret_yes HQ.out ⟨by dsimp only; omega, by dsimp only; omega, by dsimp only; omega⟩, (Below.refl w.heap.size w).alloc (Nat.le_refl _) _⟩
            | exact ⟨ret_no HQ.out (fun ⟨h1, h2, h3⟩ => by dsimp only at h1 h2 h3; omega), (Below.refl w.heap.size w).alloc (Nat.le_refl _) _⟩
    · by_cases h2 : k = 2
      · subst h2
        go_enter Tryd.func11, Tryd.ntmps11
        go_wp2
        all_goals
          go_ret
          first
            | exact ⟨ret_yes HQ.out ⟨by dsimp only; omega, by dsimp only; omega, by dsimp only; omega⟩, (Below.refl w.heap.size w).alloc (Nat.le_refl _) _⟩
            | exact ⟨ret_no HQ.out (fun ⟨h1, h2, h3⟩ => by dsimp only at h1 h2 h3; omega), (Below.refl w.heap.size w).alloc (Nat.le_refl _) _⟩
      · skip
        go_enter Tryd.func11, Tryd.ntmps11
        go_wp2
        all_goals
          go_ret
          first
            | exact ⟨ret_yes HQ.out ⟨by dsimp only; omega, by dsimp only; omega, by dsimp only; omega⟩, (Below.refl w.heap.size w).alloc (Nat.le_refl _) _⟩
            | exact ⟨ret_no HQ.out (fun ⟨h1, h2, h3⟩ => by dsimp only at h1 h2 h3; omega), (Below.refl w.heap.size w).alloc (Nat.le_refl _) _⟩
def rV (A : Option Addr) (n c : Nat) (f : Int) : Value := .agg #[.slice A n c, .int .i64 f]
/-- A queue of the document's that is answered: its list is there, in a row that was, or in a new one. -/
def RfIs (w : World) (A : Option Addr) (r : Rf) (V : Value) (w' : World) : Prop :=
  ∃ A' c', V = rV A' r.l.length c' r.frm ∧ Row.Vals orS w' A' r.l.length r.l ∧ (∀ x, A' = some x → A = some x ∨ (w.heap.size ≤ x.block ∧ x.block < w'.heap.size))
theorem ref_ret {fn : Func} {R : Ending → World → Prop} {a : Act} {w : World} {p u : Tmp} (hf : fn.results = #[.cell p 41, .tmp u]) (g : Nat) (hx : a.tmps.getD p undef = .pointer (some ⟨g, 0, none⟩)) (V : Value) (hV : a.tmps.getD u undef = V) (cs : Array Value) (h : Has w g 41 cs) (hs : cs.size = 2) (hd : a.defers = []) (hR : R (.returned (.tuple #[.agg cs, V])) w) : bodyPost Tryd.prog fn R .ret a w := by
  have hi : (Tryd.prog.info? 41).map (·.size) = some 2 := by kernel_rfl
  have hu : Tryd.prog.underlying 41 = some (.struct (Tryd.prog.fieldsOf 41)) := by kernel_rfl
  have hl := run_loadVar_row (P := Tryd.prog) w g _ 41 cs (0, 0) (.struct (Tryd.prog.fieldsOf 41)) h hu rfl (by rw [hs]; exact hi)
  have hp' : a.tmps[p]?.getD undef = .pointer (some ⟨g, 0, none⟩) := by simpa using hx
  have hv' : a.tmps[u]?.getD undef = V := by simpa using hV
  exact bodyPost_ret (by simp [results, hf, hp', hv', asAddr, hl]) hd hR
theorem rf_same {w w' : World} {A : Option Addr} {n c : Nat} {f : Int} {l : List Or} (hv : Row.Vals orS w A n l) (hB : Below w.heap.size w w') : RfIs w A ⟨l, f⟩ (.agg #[.slice A n c, .int .i64 f]) w' := by
  obtain rfl := hv.len_
  exact ⟨A, c, rfl, hv.below hB, fun x hx => .inl hx⟩
theorem rf_new {w W W' : World} {A B : Option Addr} {m c bs x y : Nat} {f : Int} {l : List Or} (hv : Row.Vals orS W B m l) (hf : ∀ z, B = some z → bs ≤ z.block ∧ z.block < W.heap.size) (hK : Kept [x, y] W W') (hx : x < bs) (hy : y < bs) (hb : w.heap.size ≤ bs) : RfIs w A ⟨l, f⟩ (.agg #[.slice B m c, .int .i64 f]) W' := by
  obtain rfl := hv.len_
  exact ⟨B, c, rfl, hv.kept hK (fun _ z hz => by have := hf z hz; simp; omega), fun z hz => .inr (by have := hf z hz; have := hK.size; exact ⟨by omega, by omega⟩)⟩
theorem own_low {w : World} {base base' : Nat} {t : TypeId} {k n : Nat} {v : Value} {xs : List Value} (h : w.ownsRow base t k v n xs) (hb : base' ≤ base) : w.ownsRow base' t k v n xs :=
  ⟨h.1, h.2.imp id fun ⟨g, cap, cur, h1, h2, h3⟩ => ⟨g, cap, cur, h1, Nat.le_trans hb h2, h3⟩⟩
set_option maxHeartbeats 4000000 in
set_option maxRecDepth 100000 in
theorem refput_any (A : Option Addr) (n c : Nat) (f : Int) (l : List Or) (o : Or) (w : World) (hv : Row.Vals orS w A n l) (hn : n ≤ 32) :
    Calls Tryd.prog 16 #[rV A n c f, .agg #[.int .i64 o.1, .int .i64 o.2.1, .int .i64 o.2.2]] w fun e w' => ∃ V, e = .returned (.tuple #[V, .int .i64 (rputT ⟨l, f⟩ o).2]) ∧ RfIs w A (rputT ⟨l, f⟩ o).1 V w' ∧ Below w.heap.size w w' := by
  have hmy := fun W => refmay_any o W
  have hlen := hv.len_
  unfold rV
  have hB0 := (((Below.refl w.heap.size w).alloc (Nat.le_refl _) (.cells #[.slice A n c, .int .i64 f] 41)).alloc (by simp) (.cells #[.int .i64 o.1, .int .i64 o.2.1, .int .i64 o.2.2] 23)).alloc (by simp; omega) (.cells #[.slice none 0 0, .int .i64 0] 41)
  have hX0 := ((Has.new w 41 #[.slice A n c, .int .i64 f]).alloc (.cells #[.int .i64 o.1, .int .i64 o.2.1, .int .i64 o.2.2] 23)).alloc (.cells #[.slice none 0 0, .int .i64 0] 41)
  have hO0 := (Has.new (w.alloc (.cells #[.slice A n c, .int .i64 f] 41)) 23 #[.int .i64 o.1, .int .i64 o.2.1, .int .i64 o.2.2]).alloc (.cells #[.slice none 0 0, .int .i64 0] 41)
  have hY0 := Has.new ((w.alloc (.cells #[.slice A n c, .int .i64 f] 41)).alloc (.cells #[.int .i64 o.1, .int .i64 o.2.1, .int .i64 o.2.2] 23)) 41 #[.slice none 0 0, .int .i64 0]
  have hz1 : (w.alloc (.cells #[.slice A n c, .int .i64 f] 41)).heap.size = w.heap.size + 1 := by simp
  have hz2 : ((w.alloc (.cells #[.slice A n c, .int .i64 f] 41)).alloc (.cells #[.int .i64 o.1, .int .i64 o.2.1, .int .i64 o.2.2] 23)).heap.size = w.heap.size + 1 + 1 := by simp
  rw [hz1] at hO0
  rw [hz2] at hY0
  have o0 := hO0.cell 0
  have o1 := hO0.cell 1
  have o2 := hO0.cell 2
  clear hz1 hz2
  by_cases hm : May o
  · rw [decide_eq_true hm] at hmy
    by_cases hf : o.1 < f
    · rw [show rputT ⟨l, f⟩ o = (⟨l, f⟩, 240) from by unfold rputT; rw [if_neg (fun h => h hm), if_pos hf]]
      clear hm
      go_enter Tryd.func16, Tryd.ntmps16
      go_wp2_with (go_at_call 11; ((with_reducible refine (hmy _).mono ?_); rintro e W1 ⟨rfl, hB1⟩; have hX1 := hX0.below hB1 hX0.lt; have hY1 := hY0.below hB1 hY0.lt; have hB2 := hB0.trans (hB1.mono hB0.size); have x0 := hX1.cell 0; have x1 := hX1.cell 1; have hO1 := hO0.below hB1 hO0.lt; have u0 := hO1.cell 0; have u1 := hO1.cell 1; have u2 := hO1.cell 2; obtain ⟨y0, y1, f0, f1⟩ := hY1.two))
      go_wp2
      have hB3 := below_put2 hB2 (c := w.heap.size + 1 + 1) (by omega) (.slice A n c) (.int .i64 f)
      have hY2 := hY1.put2 (.slice A n c) (.int .i64 f)
      exact ref_ret rfl (w.heap.size + 1 + 1) rfl _ rfl _ hY2 rfl rfl ⟨_, rfl, rf_same hv hB3, hB3⟩
    · by_cases hl : n = 32
      · rw [show rputT ⟨l, f⟩ o = (⟨l, f⟩, 5) from by unfold rputT; rw [if_neg (fun h => h hm), if_neg hf, if_pos (by dsimp only; omega)]]
        subst hl
        clear hm
        go_enter Tryd.func16, Tryd.ntmps16
        go_wp2_with (go_at_call 11; ((with_reducible refine (hmy _).mono ?_); rintro e W1 ⟨rfl, hB1⟩; have hX1 := hX0.below hB1 hX0.lt; have hY1 := hY0.below hB1 hY0.lt; have hB2 := hB0.trans (hB1.mono hB0.size); have x0 := hX1.cell 0; have x1 := hX1.cell 1; have hO1 := hO0.below hB1 hO0.lt; have u0 := hO1.cell 0; have u1 := hO1.cell 1; have u2 := hO1.cell 2; obtain ⟨y0, y1, f0, f1⟩ := hY1.two))
        go_wp2
        have hB3 := below_put2 hB2 (c := w.heap.size + 1 + 1) (by omega) (.slice A 32 c) (.int .i64 f)
        have hY2 := hY1.put2 (.slice A 32 c) (.int .i64 f)
        exact ref_ret rfl (w.heap.size + 1 + 1) rfl _ rfl _ hY2 rfl rfl ⟨_, rfl, rf_same hv hB3, hB3⟩
      · rw [show rputT ⟨l, f⟩ o = (⟨l ++ [o], f⟩, 0) from by unfold rputT; rw [if_neg (fun h => h hm), if_neg hf, if_neg (by dsimp only; omega)]]
        clear hm
        have hInfo : (Tryd.prog.info? 23).map (fun i => (i.zero, i.size, i.bytes)) = some (some (.agg #[.int .i64 0, .int .i64 0, .int .i64 0]), 3, 24) := by kernel_rfl
        have HInfo := Lib.hid hInfo
        clear hInfo
        go_enter Tryd.func16, Tryd.ntmps16
        go_wp2_with (go_at_call 11; ((with_reducible refine (hmy _).mono ?_); rintro e W1 ⟨rfl, hB1⟩; have hX1 := hX0.below hB1 hX0.lt; have hY1 := hY0.below hB1 hY0.lt; have hB2 := hB0.trans (hB1.mono hB0.size); have x0 := hX1.cell 0; have x1 := hX1.cell 1; have hO1 := hO0.below hB1 hO0.lt; have u0 := hO1.cell 0; have u1 := hO1.cell 1; have u2 := hO1.cell 2; obtain ⟨y0, y1, f0, f1⟩ := hY1.two))
        go_wp2
        have hvd : Row.Vals orS W1.drew A n l := (hv.below hB2).drewN 1
        have hXd : Has W1.drew w.heap.size 41 #[.slice A n c, .int .i64 f] := hX1
        have hOd : Has W1.drew (w.heap.size + 1) 23 #[.int .i64 o.1, .int .i64 o.2.1, .int .i64 o.2.2] := hO1
        have hYd : Has W1.drew (w.heap.size + 1 + 1) 41 #[.slice none 0 0, .int .i64 0] := hY1
        have hBd : Below w.heap.size w W1.drew := below_drewN hB2 1
        refine Till.begin_ (T := [8]) (S := fun W => W.cell? ⟨w.heap.size, 0, none⟩ = some (.slice A n c) ∧ W.cell? ⟨w.heap.size + 1, 0, none⟩ = some (.int .i64 o.1) ∧ W.cell? ⟨w.heap.size + 1, 1, none⟩ = some (.int .i64 o.2.1) ∧ W.cell? ⟨w.heap.size + 1, 2, none⟩ = some (.int .i64 o.2.2)) (by kernel_rfl) (by exact ⟨x0, u0, u1, u2⟩) (fun hHeld => ?_)
        clear hX1 hO1 hY1 hB2 x0 x1 u0 u1 u2 y0 y1 f0 f1 hX0 hO0 hY0 hB0 hmy hv
        generalize W1.drew = Wb at *
        have hlx := hXd.lt
        have hlo := hOd.lt
        have hly := hYd.lt
        refine Till.take (i := 1) (v := ?v1) rfl (by kernel_rfl) (by kernel_rfl) (by kernel_rfl) (by kernel_rfl) (by rfl) ?hv1 (by assumption) ?rest1
        case hv1 => first | (intro w hSw; (try dsimp only at hSw); go_simp; done) | (intro w hSw; (try dsimp only at hSw); go_simp; with_reducible rfl)
        (try simp only [Act.put, List.setIfInBounds_toArray, List.set_cons_zero, List.set_cons_succ])
        refine Till.take (i := 2) (v := ?v2) rfl (by kernel_rfl) (by kernel_rfl) (by kernel_rfl) (by kernel_rfl) (by rfl) ?hv2 (by assumption) ?rest2
        case hv2 => first | (intro w hSw; (try dsimp only at hSw); go_simp; done) | (intro w hSw; (try dsimp only at hSw); go_simp; with_reducible rfl)
        (try simp only [Act.put, List.setIfInBounds_toArray, List.set_cons_zero, List.set_cons_succ])
        refine Till.take (i := 4) (v := ?v3) rfl (by kernel_rfl) (by kernel_rfl) (by kernel_rfl) (by kernel_rfl) (by rfl) ?hv3 (by assumption) ?rest3
        case hv3 => first | (intro w hSw; (try dsimp only at hSw); go_simp; done) | (intro w hSw; (try dsimp only at hSw); go_simp; with_reducible rfl)
        (try simp only [Act.put, List.setIfInBounds_toArray, List.set_cons_zero, List.set_cons_succ])
        have hB0 : Below Wb.heap.size Wb Wb := Below.refl _ _
        refine Till.both (i := 0) (j := 5) rfl rfl (by kernel_rfl) (by rfl) (by rfl) ?_ ?_
        · intro K hK
          go_simp
          have hB1 := hB0.alloc (Nat.le_refl _) (.cells #[] 23)
          have hR1 := Row.own_empty (S := orS) Wb 23
          refine hK.out _ _ (by exact ⟨(hXd.below hB1 hlx).cell 0, (hOd.below hB1 hlo).cell 0, (hOd.below hB1 hlo).cell 1, (hOd.below hB1 hlo).cell 2⟩) (fun hHeld => ?_)
          clear hK K
          (try simp only [Act.put, List.setIfInBounds_toArray, List.set_cons_zero, List.set_cons_succ])
          refine Till.both (i := 3) (j := 5) rfl rfl (by kernel_rfl) (by rfl) (by rfl) ?_ ?_
          · intro K hK
            refine Row.wp_append (S := orS) (.tmp 21) (.tmp 23) _ rfl Wb.heap.size 23 _ 24 (by omega) Tryd.underlying39 HInfo.out (by kernel_rfl) (.slice (some ⟨Wb.heap.size, 0, none⟩) 0 0) 0 [] rfl hR1 A n c l rfl (hvd.below hB1) (by omega) hB1.size ?_
            intro V3 W3 hR3 hg3 hat3
            rw [Nat.zero_add, List.nil_append] at hR3
            have hB3 := below_kept hB1 (Kept.of_grown hg3) hB1.size (own_in hR1)
            refine hK.out _ _ (by exact ⟨(hXd.below hB3 hlx).cell 0, (hOd.below hB3 hlo).cell 0, (hOd.below hB3 hlo).cell 1, (hOd.below hB3 hlo).cell 2⟩) (fun hHeld => ?_)
            clear hK K
            (try simp only [Act.put, List.setIfInBounds_toArray, List.set_cons_zero, List.set_cons_succ])
            refine Till.call (i := 5) rfl (by kernel_rfl) (by rfl) ?_
            intro K hK
            go_simp
            have hB4 := hB3.alloc hB3.size (.cells #[.int .i64 o.1, .int .i64 o.2.1, .int .i64 o.2.2] 23)
            have hR4 := own_kept hR3 ((Kept.refl [] W3).alloc (.cells #[.int .i64 o.1, .int .i64 o.2.1, .int .i64 o.2.2] 23)) (by simp)
            have hV4 := Row.Vals.has (S := orS) (ys := [o]) (tl := []) (Has.new W3 23 #[.int .i64 o.1, .int .i64 o.2.1, .int .i64 o.2.2])
            refine hK.out _ _ (by exact ⟨(hXd.below hB4 hlx).cell 0, (hOd.below hB4 hlo).cell 0, (hOd.below hB4 hlo).cell 1, (hOd.below hB4 hlo).cell 2⟩) (fun hHeld => ?_)
            clear hK K
            (try simp only [Act.put, List.setIfInBounds_toArray, List.set_cons_zero, List.set_cons_succ])
            refine Till.call (i := 6) rfl (by kernel_rfl) (by rfl) ?_
            intro K hK
            refine Row.wp_append (S := orS) (.tmp 24) (.tmp 26) _ rfl Wb.heap.size 23 _ 24 (by omega) Tryd.underlying39 HInfo.out (by kernel_rfl) _ n l rfl hR4 _ 1 1 [o] rfl hV4 (by omega) hB4.size ?_
            intro V6 W6 hR6 hg6 hat6
            have hB6 := below_kept hB4 (Kept.of_grown hg6) hB4.size (own_in hR4)
            obtain ⟨A6, c6, rfl, _, _, hV6, hf6, _⟩ := Row.Vals.own hR6
            have hX6 := hXd.below hB6 hlx
            have hY6 := hYd.below hB6 hly
            refine hK.out _ _ (by exact ⟨(hXd.below hB6 hlx).cell 0, (hOd.below hB6 hlo).cell 0, (hOd.below hB6 hlo).cell 1, (hOd.below hB6 hlo).cell 2⟩) (fun hHeld => ?_)
            clear hK K
            (try simp only [Act.put, List.setIfInBounds_toArray, List.set_cons_zero, List.set_cons_succ])
            refine Till.take (i := 7) (v := ?v4) rfl (by kernel_rfl) (by kernel_rfl) (by kernel_rfl) (by kernel_rfl) (by rfl) ?hv4 (by assumption) ?rest4
            case hv4 => first | (intro w hSw; (try dsimp only at hSw); go_simp; done) | (intro w hSw; (try dsimp only at hSw); go_simp; with_reducible rfl)
            (try simp only [Act.put, List.setIfInBounds_toArray, List.set_cons_zero, List.set_cons_succ])
            have fx := hX6.frozen 0
            have cx := hX6.cell 0
            refine Till.put (i := 8) rfl (by kernel_rfl) (by rfl) (by rfl) ?_
            intro K hK
            go_simp
            refine hK.out _ _ ?_
            clear hK K hHeld
            (try simp only [Act.put, List.setIfInBounds_toArray, List.set_cons_zero, List.set_cons_succ])
            refine Till.done (by kernel_rfl) ?_ _
            have hX7 := hX6.set_ 0 (.slice A6 (n + 1) c6)
            have hY7 := hY6.far (p := ⟨w.heap.size, 0, none⟩) (by show w.heap.size + 1 + 1 ≠ w.heap.size; omega) (.slice A6 (n + 1) c6)
            have hK7 := (Kept.refl [w.heap.size, w.heap.size + 1 + 1] W6).setCell (p := ⟨w.heap.size, 0, none⟩) (.inl (by simp)) (.slice A6 (n + 1) c6)
            have hB7 := (hBd.trans (hB6.mono hBd.size)).setCell (p := ⟨w.heap.size, 0, none⟩) (Nat.le_refl _) (.slice A6 (n + 1) c6)
            generalize W6.setCell ⟨w.heap.size, 0, none⟩ (.slice A6 (n + 1) c6) = W7 at *
            have x0 := hX7.cell 0
            have x1 := hX7.cell 1
            obtain ⟨y0, y1, g0, g1⟩ := hY7.two
            have hY8 := hY7.put2 (.slice A6 (n + 1) c6) (.int .i64 f)
            have hB8 := below_put2 hB7 (c := w.heap.size + 1 + 1) (by omega) (.slice A6 (n + 1) c6) (.int .i64 f)
            have hK8 := (hK7.setCell (p := ⟨w.heap.size + 1 + 1, 0, none⟩) (.inl (by simp)) (.slice A6 (n + 1) c6)).setCell (p := ⟨w.heap.size + 1 + 1, 1, none⟩) (.inl (by simp)) (.int .i64 f)
            have hR8 := rf_new (A := A) (f := f) (c := c6) hV6 hf6 hK8 hlx hly hBd.size
            clear hX7 hY7 hX6 hY6 hK7 hK8 hV6 hf6 hR6
            go_wp2
            exact ref_ret rfl (w.heap.size + 1 + 1) rfl _ rfl _ hY8 rfl rfl ⟨_, rfl, hR8, hB8⟩
          · intro K hK
            go_simp
            have hB2 := hB1.alloc hB1.size (.cells #[.int .i64 o.1, .int .i64 o.2.1, .int .i64 o.2.2] 23)
            have hR2 := own_kept hR1 ((Kept.refl [] _).alloc (.cells #[.int .i64 o.1, .int .i64 o.2.1, .int .i64 o.2.2] 23)) (by simp)
            have hV2 := Row.Vals.has (S := orS) (ys := [o]) (tl := []) (Has.new (Wb.alloc (.cells #[] 23)) 23 #[.int .i64 o.1, .int .i64 o.2.1, .int .i64 o.2.2])
            have hV2 : Row.Vals orS ((Wb.alloc (.cells #[] 23)).alloc (.cells #[.int .i64 o.1, .int .i64 o.2.1, .int .i64 o.2.2] 23)) (some ⟨Wb.heap.size + 1, 0, none⟩) 1 [o] := by simpa using hV2
            refine hK.out _ _ (by exact ⟨(hXd.below hB2 hlx).cell 0, (hOd.below hB2 hlo).cell 0, (hOd.below hB2 hlo).cell 1, (hOd.below hB2 hlo).cell 2⟩) (fun hHeld => ?_)
            clear hK K
            (try simp only [Act.put, List.setIfInBounds_toArray, List.set_cons_zero, List.set_cons_succ])
            refine Till.call (i := 3) rfl (by kernel_rfl) (by rfl) ?_
            intro K hK
            refine Row.wp_append (S := orS) (.tmp 21) (.tmp 23) _ rfl Wb.heap.size 23 _ 24 (by omega) Tryd.underlying39 HInfo.out (by kernel_rfl) (.slice (some ⟨Wb.heap.size, 0, none⟩) 0 0) 0 [] rfl hR2 A n c l rfl (hvd.below hB2) (by omega) hB2.size ?_
            intro V3 W3 hR3 hg3 hat3
            rw [Nat.zero_add, List.nil_append] at hR3
            have hB3 := below_kept hB2 (Kept.of_grown hg3) hB2.size (own_in hR2)
            have hV4 := hV2.kept (Kept.of_grown hg3) (fun _ x hx => by injection hx with hx; subst hx; simp [Value.ownBlock])
            refine hK.out _ _ (by exact ⟨(hXd.below hB3 hlx).cell 0, (hOd.below hB3 hlo).cell 0, (hOd.below hB3 hlo).cell 1, (hOd.below hB3 hlo).cell 2⟩) (fun hHeld => ?_)
            clear hK K
            (try simp only [Act.put, List.setIfInBounds_toArray, List.set_cons_zero, List.set_cons_succ])
            refine Till.call (i := 6) rfl (by kernel_rfl) (by rfl) ?_
            intro K hK
            refine Row.wp_append (S := orS) (.tmp 24) (.tmp 26) _ rfl Wb.heap.size 23 _ 24 (by omega) Tryd.underlying39 HInfo.out (by kernel_rfl) _ n l rfl hR3 _ 1 1 [o] rfl hV4 (by omega) hB3.size ?_
            intro V6 W6 hR6 hg6 hat6
            have hB6 := below_kept hB3 (Kept.of_grown hg6) hB3.size (own_in hR3)
            obtain ⟨A6, c6, rfl, _, _, hV6, hf6, _⟩ := Row.Vals.own hR6
            have hX6 := hXd.below hB6 hlx
            have hY6 := hYd.below hB6 hly
            refine hK.out _ _ (by exact ⟨(hXd.below hB6 hlx).cell 0, (hOd.below hB6 hlo).cell 0, (hOd.below hB6 hlo).cell 1, (hOd.below hB6 hlo).cell 2⟩) (fun hHeld => ?_)
            clear hK K
            (try simp only [Act.put, List.setIfInBounds_toArray, List.set_cons_zero, List.set_cons_succ])
            refine Till.take (i := 7) (v := ?v5) rfl (by kernel_rfl) (by kernel_rfl) (by kernel_rfl) (by kernel_rfl) (by rfl) ?hv5 (by assumption) ?rest5
            case hv5 => first | (intro w hSw; (try dsimp only at hSw); go_simp; done) | (intro w hSw; (try dsimp only at hSw); go_simp; with_reducible rfl)
            (try simp only [Act.put, List.setIfInBounds_toArray, List.set_cons_zero, List.set_cons_succ])
            have fx := hX6.frozen 0
            have cx := hX6.cell 0
            refine Till.put (i := 8) rfl (by kernel_rfl) (by rfl) (by rfl) ?_
            intro K hK
            go_simp
            refine hK.out _ _ ?_
            clear hK K hHeld
            (try simp only [Act.put, List.setIfInBounds_toArray, List.set_cons_zero, List.set_cons_succ])
            refine Till.done (by kernel_rfl) ?_ _
            have hX7 := hX6.set_ 0 (.slice A6 (n + 1) c6)
            have hY7 := hY6.far (p := ⟨w.heap.size, 0, none⟩) (by show w.heap.size + 1 + 1 ≠ w.heap.size; omega) (.slice A6 (n + 1) c6)
            have hK7 := (Kept.refl [w.heap.size, w.heap.size + 1 + 1] W6).setCell (p := ⟨w.heap.size, 0, none⟩) (.inl (by simp)) (.slice A6 (n + 1) c6)
            have hB7 := (hBd.trans (hB6.mono hBd.size)).setCell (p := ⟨w.heap.size, 0, none⟩) (Nat.le_refl _) (.slice A6 (n + 1) c6)
            generalize W6.setCell ⟨w.heap.size, 0, none⟩ (.slice A6 (n + 1) c6) = W7 at *
            have x0 := hX7.cell 0
            have x1 := hX7.cell 1
            obtain ⟨y0, y1, g0, g1⟩ := hY7.two
            have hY8 := hY7.put2 (.slice A6 (n + 1) c6) (.int .i64 f)
            have hB8 := below_put2 hB7 (c := w.heap.size + 1 + 1) (by omega) (.slice A6 (n + 1) c6) (.int .i64 f)
            have hK8 := (hK7.setCell (p := ⟨w.heap.size + 1 + 1, 0, none⟩) (.inl (by simp)) (.slice A6 (n + 1) c6)).setCell (p := ⟨w.heap.size + 1 + 1, 1, none⟩) (.inl (by simp)) (.int .i64 f)
            have hR8 := rf_new (A := A) (f := f) (c := c6) hV6 hf6 hK8 hlx hly hBd.size
            clear hX7 hY7 hX6 hY6 hK7 hK8 hV6 hf6 hR6
            go_wp2
            exact ref_ret rfl (w.heap.size + 1 + 1) rfl _ rfl _ hY8 rfl rfl ⟨_, rfl, hR8, hB8⟩
        · intro K hK
          go_simp
          have hB1 := hB0.alloc (Nat.le_refl _) (.cells #[.int .i64 o.1, .int .i64 o.2.1, .int .i64 o.2.2] 23)
          have hV1 := Row.Vals.has (S := orS) (ys := [o]) (tl := []) (Has.new Wb 23 #[.int .i64 o.1, .int .i64 o.2.1, .int .i64 o.2.2])
          refine hK.out _ _ (by exact ⟨(hXd.below hB1 hlx).cell 0, (hOd.below hB1 hlo).cell 0, (hOd.below hB1 hlo).cell 1, (hOd.below hB1 hlo).cell 2⟩) (fun hHeld => ?_)
          clear hK K
          (try simp only [Act.put, List.setIfInBounds_toArray, List.set_cons_zero, List.set_cons_succ])
          refine Till.call (i := 0) rfl (by kernel_rfl) (by rfl) ?_
          intro K hK
          go_simp
          have hB2 := hB1.alloc hB1.size (.cells #[] 23)
          have hR2 := own_low (Row.own_empty (S := orS) (Wb.alloc (.cells #[.int .i64 o.1, .int .i64 o.2.1, .int .i64 o.2.2] 23)) 23) (base' := Wb.heap.size) (by simp)
          have hV2 := hV1.alloc (.cells #[] 23)
          rw [World.size_alloc] at hR2
          refine hK.out _ _ (by exact ⟨(hXd.below hB2 hlx).cell 0, (hOd.below hB2 hlo).cell 0, (hOd.below hB2 hlo).cell 1, (hOd.below hB2 hlo).cell 2⟩) (fun hHeld => ?_)
          clear hK K
          (try simp only [Act.put, List.setIfInBounds_toArray, List.set_cons_zero, List.set_cons_succ])
          refine Till.call (i := 3) rfl (by kernel_rfl) (by rfl) ?_
          intro K hK
          refine Row.wp_append (S := orS) (.tmp 21) (.tmp 23) _ rfl Wb.heap.size 23 _ 24 (by omega) Tryd.underlying39 HInfo.out (by kernel_rfl) (.slice (some ⟨(Wb.heap.size + 1), 0, none⟩) 0 0) 0 [] rfl hR2 A n c l rfl (hvd.below hB2) (by omega) hB2.size ?_
          intro V3 W3 hR3 hg3 hat3
          rw [Nat.zero_add, List.nil_append] at hR3
          have hB3 := below_kept hB2 (Kept.of_grown hg3) hB2.size (own_in hR2)
          have hV4 := hV2.kept (Kept.of_grown hg3) (fun _ x hx => by injection hx with hx; subst hx; simp [Value.ownBlock])
          refine hK.out _ _ (by exact ⟨(hXd.below hB3 hlx).cell 0, (hOd.below hB3 hlo).cell 0, (hOd.below hB3 hlo).cell 1, (hOd.below hB3 hlo).cell 2⟩) (fun hHeld => ?_)
          clear hK K
          (try simp only [Act.put, List.setIfInBounds_toArray, List.set_cons_zero, List.set_cons_succ])
          refine Till.call (i := 6) rfl (by kernel_rfl) (by rfl) ?_
          intro K hK
          refine Row.wp_append (S := orS) (.tmp 24) (.tmp 26) _ rfl Wb.heap.size 23 _ 24 (by omega) Tryd.underlying39 HInfo.out (by kernel_rfl) _ n l rfl hR3 _ 1 1 [o] rfl hV4 (by omega) hB3.size ?_
          intro V6 W6 hR6 hg6 hat6
          have hB6 := below_kept hB3 (Kept.of_grown hg6) hB3.size (own_in hR3)
          obtain ⟨A6, c6, rfl, _, _, hV6, hf6, _⟩ := Row.Vals.own hR6
          have hX6 := hXd.below hB6 hlx
          have hY6 := hYd.below hB6 hly
          refine hK.out _ _ (by exact ⟨(hXd.below hB6 hlx).cell 0, (hOd.below hB6 hlo).cell 0, (hOd.below hB6 hlo).cell 1, (hOd.below hB6 hlo).cell 2⟩) (fun hHeld => ?_)
          clear hK K
          (try simp only [Act.put, List.setIfInBounds_toArray, List.set_cons_zero, List.set_cons_succ])
          refine Till.take (i := 7) (v := ?v6) rfl (by kernel_rfl) (by kernel_rfl) (by kernel_rfl) (by kernel_rfl) (by rfl) ?hv6 (by assumption) ?rest6
          case hv6 => first | (intro w hSw; (try dsimp only at hSw); go_simp; done) | (intro w hSw; (try dsimp only at hSw); go_simp; with_reducible rfl)
          (try simp only [Act.put, List.setIfInBounds_toArray, List.set_cons_zero, List.set_cons_succ])
          have fx := hX6.frozen 0
          have cx := hX6.cell 0
          refine Till.put (i := 8) rfl (by kernel_rfl) (by rfl) (by rfl) ?_
          intro K hK
          go_simp
          refine hK.out _ _ ?_
          clear hK K hHeld
          (try simp only [Act.put, List.setIfInBounds_toArray, List.set_cons_zero, List.set_cons_succ])
          refine Till.done (by kernel_rfl) ?_ _
          have hX7 := hX6.set_ 0 (.slice A6 (n + 1) c6)
          have hY7 := hY6.far (p := ⟨w.heap.size, 0, none⟩) (by show w.heap.size + 1 + 1 ≠ w.heap.size; omega) (.slice A6 (n + 1) c6)
          have hK7 := (Kept.refl [w.heap.size, w.heap.size + 1 + 1] W6).setCell (p := ⟨w.heap.size, 0, none⟩) (.inl (by simp)) (.slice A6 (n + 1) c6)
          have hB7 := (hBd.trans (hB6.mono hBd.size)).setCell (p := ⟨w.heap.size, 0, none⟩) (Nat.le_refl _) (.slice A6 (n + 1) c6)
          generalize W6.setCell ⟨w.heap.size, 0, none⟩ (.slice A6 (n + 1) c6) = W7 at *
          have x0 := hX7.cell 0
          have x1 := hX7.cell 1
          obtain ⟨y0, y1, g0, g1⟩ := hY7.two
          have hY8 := hY7.put2 (.slice A6 (n + 1) c6) (.int .i64 f)
          have hB8 := below_put2 hB7 (c := w.heap.size + 1 + 1) (by omega) (.slice A6 (n + 1) c6) (.int .i64 f)
          have hK8 := (hK7.setCell (p := ⟨w.heap.size + 1 + 1, 0, none⟩) (.inl (by simp)) (.slice A6 (n + 1) c6)).setCell (p := ⟨w.heap.size + 1 + 1, 1, none⟩) (.inl (by simp)) (.int .i64 f)
          have hR8 := rf_new (A := A) (f := f) (c := c6) hV6 hf6 hK8 hlx hly hBd.size
          clear hX7 hY7 hX6 hY6 hK7 hK8 hV6 hf6 hR6
          go_wp2
          exact ref_ret rfl (w.heap.size + 1 + 1) rfl _ rfl _ hY8 rfl rfl ⟨_, rfl, hR8, hB8⟩
  · rw [decide_eq_false hm] at hmy
    rw [show rputT ⟨l, f⟩ o = (⟨l, f⟩, 1) from if_pos hm]
    clear hm
    go_enter Tryd.func16, Tryd.ntmps16
    go_wp2_with (go_at_call 11; ((with_reducible refine (hmy _).mono ?_); rintro e W1 ⟨rfl, hB1⟩; have hX1 := hX0.below hB1 hX0.lt; have hY1 := hY0.below hB1 hY0.lt; have hB2 := hB0.trans (hB1.mono hB0.size); have x0 := hX1.cell 0; have x1 := hX1.cell 1; have hO1 := hO0.below hB1 hO0.lt; have u0 := hO1.cell 0; have u1 := hO1.cell 1; have u2 := hO1.cell 2; obtain ⟨y0, y1, f0, f1⟩ := hY1.two))
    have hB3 := below_put2 hB2 (c := w.heap.size + 1 + 1) (by omega) (.slice A n c) (.int .i64 f)
    have hY2 := hY1.put2 (.slice A n c) (.int .i64 f)
    exact ref_ret rfl (w.heap.size + 1 + 1) rfl _ rfl _ hY2 rfl rfl ⟨_, rfl, rf_same hv hB3, hB3⟩
end Go.Proofs.YtmefdgmbpihdfaaDoor.Order
