/- The reference of layer 24: Due. -/
import Derived.Test.YtmefdgmbpihdfaaDoorOrderRef
import Derived.Test.YtmefdgmbpihdfaaDoorOrderWhen
import Derived.Lib.MinMax
set_option linter.unusedSimpArgs false
set_option linter.unusedVariables false
namespace Go.Proofs.YtmefdgmbpihdfaaDoor.Order
open Go.RowKit
open Alarm (Or orS noOr or_cells)
theorem gone_yes (l : List Or) (N : Int) (k : Nat) (hk : k < l.length) (h : (l.getD k noOr).1 ≤ N) : sortT (goneT N (l.take (k + 1))) = insT (l.getD k noOr) (sortT (goneT N (l.take k))) ∧ restT N (l.take (k + 1)) = restT N (l.take k) := by
  unfold goneT restT
  rw [take_get hk, List.filter_append, List.filter_append, List.filter_cons_of_pos (by simpa using h), List.filter_cons_of_neg (by rw [decide_eq_true_eq]; omega), List.filter_nil, List.filter_nil, List.append_nil, sort_snoc]
  exact ⟨rfl, rfl⟩
theorem gone_no (l : List Or) (N : Int) (k : Nat) (hk : k < l.length) (h : ¬ (l.getD k noOr).1 ≤ N) : sortT (goneT N (l.take (k + 1))) = sortT (goneT N (l.take k)) ∧ restT N (l.take (k + 1)) = restT N (l.take k) ++ [l.getD k noOr] := by
  unfold goneT restT
  rw [take_get hk, List.filter_append, List.filter_append, List.filter_cons_of_neg (by simpa using h), List.filter_cons_of_pos (by rw [decide_eq_true_eq]; omega), List.filter_nil, List.filter_nil, List.append_nil]
  exact ⟨rfl, rfl⟩
theorem gone_len (l : List Or) (N : Int) : (sortT (goneT N l)).length ≤ l.length := by rw [sort_len]; exact List.length_filter_le _ _
theorem rest_len (l : List Or) (N : Int) : (restT N l).length ≤ l.length := List.length_filter_le _ _
/-- From behind: the place in a rising list. -/
theorem due_back {D : List Or} (h : Up D) (t : Int) (k : Nat) (hk : k ≤ D.length) (h1 : ∀ j, k ≤ j → j < D.length → t < (D.getD j noOr).1) (h2 : 0 < k → (D.getD (k - 1) noOr).1 ≤ t) : due t D = k := by
  refine due_is t D k hk (fun i hi => ?_) (fun hl => by have := h1 k (Nat.le_refl _) hl; omega)
  have h3 := h2 (by omega)
  rcases (by omega : i = k - 1 ∨ i < k - 1) with rfl | h4
  · exact h3
  · have h5 := List.pairwise_iff_getElem.1 h i (k - 1) (by omega) (by omega) h4
    rw [List.getD_eq_getElem?_getD, List.getElem?_eq_getElem (by omega)] at h3 ⊢
    exact Int.le_trans h5 h3
/-- Where a Due stands: the queue that came in, in block x; its answer, in block y; what is due, and what is left, each a row of its own. -/
structure Rd (w : World) (x y base : Nat) (A : Option Addr) (n c : Nat) (f : Int) (l : List Or) (V6 V7 : Value) (D R : List Or) (W : World) : Prop where
  X : Has W x 41 #[.slice A n c, .int .i64 f]
  Y : Has W y 41 #[.slice none 0 0, .int .i64 0]
  lv : Row.Vals orS W A n l
  o6 : W.ownsRow base 23 3 V6 D.length (Row.flat orS D)
  o7 : W.ownsRow base 23 3 V7 R.length (Row.flat orS R)
  ap : Apart V6 V7
  low : Below w.heap.size w W
  hx : x < base
  hy : y < base
  hl : 0 < n → ∀ z, A = some z → z.block < w.heap.size
  hb : w.heap.size ≤ base
  hi : base ≤ W.heap.size
section
variable {w W W' : World} {x y base : Nat} {A : Option Addr} {n c : Nat} {f : Int} {l : List Or} {V6 V7 V6' V7' : Value} {D R : List Or}
theorem Rd.later (h : Rd w x y base A n c f l V6 V7 D R W) (hB : Below W.heap.size W W') : Rd w x y base A n c f l V6 V7 D R W' :=
  ⟨h.X.below hB h.X.lt, h.Y.below hB h.Y.lt, h.lv.below hB, own_kept h.o6 (Kept.of_below (S := []) hB) (by simp), own_kept h.o7 (Kept.of_below (S := []) hB) (by simp), h.ap, h.low.trans (hB.mono h.low.size), h.hx, h.hy, h.hl, h.hb, Nat.le_trans h.hi hB.size⟩
theorem Rd.alloc (h : Rd w x y base A n c f l V6 V7 D R W) (o : Obj) : Rd w x y base A n c f l V6 V7 D R (W.alloc o) := h.later ((Below.refl _ W).alloc (Nat.le_refl _) o)
theorem Rd.grow7 (h : Rd w x y base A n c f l V6 V7 D R W) {zs : List Or} (ho : W'.ownsRow base 23 3 V7' (R ++ zs).length (Row.flat orS (R ++ zs))) (hg : W.grownBy W' V7.ownBlock) (hs : V7'.ownBlock = V7.ownBlock ∨ V7'.ownBlock = some W.heap.size) : Rd w x y base A n c f l V6 V7' D (R ++ zs) W' := by
  have hK := Kept.of_grown hg
  have hx : ∀ z, z < base → z ∉ V7.ownBlock.toList := fun z hz => own_apart h.o7 hz
  have hb := h.hb
  exact ⟨hK.has h.X (hx x h.hx), hK.has h.Y (hx y h.hy), h.lv.kept hK (fun h0 z hz => hx _ (by have := h.hl h0 z hz; omega)), own_grown h.o6 hg h.ap, ho, (h.ap.symm.step h.o6 hs).symm, h.low.trans (hK.below (B := w.heap.size) h.low.size (fun k hk => by have := own_in h.o7 k hk; omega)), h.hx, h.hy, h.hl, h.hb, Nat.le_trans h.hi hK.size⟩
/-- What is due has moved to a new row. -/
theorem Rd.moved (h : Rd w x y base A n c f l V6 V7 D R W) {D' : List Or} (hB : Below W.heap.size W W') (ho : W'.ownsRow W.heap.size 23 3 V6' D'.length (Row.flat orS D')) : Rd w x y base A n c f l V6' V7 D' R W' := by
  have h1 := h.later hB
  exact ⟨h1.X, h1.Y, h1.lv, own_low ho h.hi, h1.o7, (fun k hk => by
    have h2 := (own_block ho k hk).1
    intro h3
    have := (own_block h.o7 k h3).2
    omega), h1.low, h.hx, h.hy, h.hl, h.hb, h1.hi⟩
end
theorem vals_dropIf {α : Type} {S : Row.Shape α} {w : World} {a : Option Addr} {len cap : Nat} {ys : List α} (h : Row.Vals S w a len ys) (p : Nat) (hp : p ≤ len) (hc : len ≤ cap) : Row.Vals S w (if cap = p then a else a.map (fun x => x.add (p * S.k))) (len - p) (ys.drop p) := by
  have hl := h.len_
  refine ⟨by rw [List.length_drop]; omega, fun h0 => ?_⟩
  obtain ⟨x, hx, hc⟩ := h.cells (by omega)
  subst hx
  rw [if_neg (by omega)]
  refine ⟨x.add (p * S.k), rfl, fun j u hu => ?_⟩
  rw [show (x.add (p * S.k)).add j = x.add (p * S.k + j) by
    unfold Addr.add
    by_cases h1 : p * S.k = 0 <;> by_cases h2 : j = 0 <;> simp [h1, h2, Nat.add_assoc]]
  refine hc _ u ?_
  have hf : Row.flat S ys = Row.flat S (ys.take p) ++ Row.flat S (ys.drop p) := by rw [← Row.flat_append, List.take_append_drop]
  rw [hf, List.getElem?_append_right (by rw [Row.flat_length, List.length_take, Nat.min_eq_left (by omega)]; omega), Row.flat_length, List.length_take, Nat.min_eq_left (by omega), Nat.add_sub_cancel_left]
  exact hu
/-- A slice from an element on. -/
theorem slice_on (A : Option Addr) (n c q : Nat) (hq : q ≤ n) (hn : n ≤ c) : ∃ E, (∀ (W : World) (D : List Or), Row.Vals orS W A n D → Row.Vals orS W E (n - q) (D.drop q)) ∧ ∀ W, (Instr.sliceAt 39 (.slice A n c) (some (.int .i64 (q : Nat))) none none).run Tryd.prog W = .ok (.slice E (n - q) (c - q)) W := by
  have hu : Tryd.prog.underlying 39 = some (.slice 23) := Tryd.underlying39
  have he : Tryd.prog.elem 39 = 23 := by kernel_rfl
  have hz : ∀ W, (sizeOf 23).run Tryd.prog W = .ok 3 W := fun W => by kernel_rfl
  refine ⟨_, fun W D h => vals_dropIf h q hq hn, fun W => ?_⟩
  rw [run_sliceAt_slice _ _ _ _ _ _ (by rw [he]; exact hu), run_slice_l W _ _ _ _ (by rw [he]; exact hu) .i64 (q : Int) (by omega) (by omega), he, hz]
  simp only [Result.andThen_ok, sliced, Int.toNat_natCast]
  rfl
set_option maxRecDepth 100000 in
set_option maxHeartbeats 4000000 in
theorem refdue_any (A : Option Addr) (n c : Nat) (f : Int) (l : List Or) (a : Int) (w : World) (hv : Row.Vals orS w A n l) (hn : n ≤ 32) (hl : 0 < n → ∀ z, A = some z → z.block < w.heap.size) :
    Calls Tryd.prog 18 #[rV A n c f, .int .i64 a] w fun e w' => ∃ V A2 c2, e = .returned (.tuple #[V, .slice A2 (rdueT ⟨l, f⟩ a).2.length c2]) ∧ RfIs w A (rdueT ⟨l, f⟩ a).1 V w' ∧ Row.Vals orS w' A2 (rdueT ⟨l, f⟩ a).2.length (rdueT ⟨l, f⟩ a).2 ∧ (∀ x, A2 = some x → w.heap.size ≤ x.block) ∧ Below w.heap.size w w' := by
  have hInfo : (Tryd.prog.info? 23).map (fun i => (i.zero, i.size, i.bytes)) = some (some (.agg #[.int .i64 0, .int .i64 0, .int .i64 0]), 3, 24) := by kernel_rfl
  have HInfo := Lib.hid hInfo
  have hlen := hv.len_
  obtain ⟨p, hp⟩ : ∃ p, min a 1099511627776 = p := ⟨_, rfl⟩
  have hp2 : max (-1) p = nearA a := by unfold nearA; split <;> (try split) <;> omega
  have hnb := nearA_bd a
  unfold rdueT rV
  dsimp only
  generalize nearA a = N at *
  have hB0 := ((Below.refl w.heap.size w).alloc (Nat.le_refl _) (.cells #[.slice A n c, .int .i64 f] 41)).alloc (by simp) (.cells #[.slice none 0 0, .int .i64 0] 41)
  have hX0 := (Has.new w 41 #[.slice A n c, .int .i64 f]).alloc (.cells #[.slice none 0 0, .int .i64 0] 41)
  have hY0 := Has.new (w.alloc (.cells #[.slice A n c, .int .i64 f] 41)) 41 #[.slice none 0 0, .int .i64 0]
  have hz1 : (w.alloc (.cells #[.slice A n c, .int .i64 f] 41)).heap.size = w.heap.size + 1 := by simp
  rw [hz1] at hY0
  have hR0 : Rd w w.heap.size (w.heap.size + 1) (w.heap.size + 1 + 1) A n c f l (.slice none 0 0) (.slice none 0 0) [] [] ((w.alloc (.cells #[.slice A n c, .int .i64 f] 41)).alloc (.cells #[.slice none 0 0, .int .i64 0] 41)) :=
    ⟨hX0, hY0, hv.below hB0, Row.own_none (S := orS) _ _ _, Row.own_none (S := orS) _ _ _, (fun k hk => by cases hk), hB0, by omega, by omega, hl, by omega, by rw [World.size_alloc, hz1]; exact Nat.le_refl _⟩
  clear hInfo hX0 hY0 hB0 hz1 hv hl
  go_enter Tryd.func18, Tryd.ntmps18
  go_wp2
  go_loopw [6, 7, 8] (fun v6 v7 i wr => ∃ k : Nat, k ≤ n ∧ i = .int .i64 (k : Nat) ∧ Rd w w.heap.size (w.heap.size + 1) (w.heap.size + 1 + 1) A n c f l v6 v7 (sortT (goneT N (l.take k))) (restT N (l.take k)) wr) (fun _ _ i _ => n - (intOf i).toNat)
  case atStart => exact ⟨0, by omega, rfl, by simpa [goneT, restT, sortT] using hR0⟩
  case round =>
    clear hR0
    obtain ⟨k, hk, rfl, hR⟩ := hrel
    have hlt : (l.take k).length = k := by rw [List.length_take]; omega
    have hgl := gone_len (l.take k) N
    have hrl := rest_len (l.take k) N
    rw [hlt] at hgl hrl
    have hup := up_sort (goneT N (l.take k))
    have x0 := hR.X.cell 0
    by_cases hkn : k < n
    · obtain ⟨z, rfl, -⟩ := hR.lv.cells (by omega)
      obtain ⟨l0z, l1z, l2z⟩ := or_cells hR.lv k hkn
      have hkz : (k : Int) < (n : Int) := by omega
      have hkl : k < l.length := by omega
      by_cases hle : (l.getD k noOr).1 ≤ N
      · have hgy := gone_yes l N k hkl hle
        generalize l.getD k noOr = o at *
        obtain ⟨l1, l2, l3⟩ := o
        dsimp only at l0z l1z l2z hle
        obtain ⟨A6, c6, hV, hc6, -, hV6, -, -⟩ := Row.Vals.own hR.o6
        subst hV
        generalize hDD : sortT (goneT N (l.take k)) = D at *
        obtain ⟨m6, hm6⟩ : ∃ m6, D.length = m6 := ⟨_, rfl⟩
        rw [hm6] at hV6 hc6 hR hgl ⊢
        have HM6 := Lib.hid hm6
        clear hm6
        have hnl : ¬ N < l1 := by omega
        go_wp2
        have hm6n : m6 ≤ 32 := by omega
        have hgl0 := hgl
        clear hgl
        obtain ⟨W3, hW3⟩ : ∃ z : World, z = wr := ⟨_, rfl⟩
        rw [← hW3] at hR hV6 l0z l1z l2z x0 ⊢
        clear hW3
        go_loopw [9] (fun i wr => ∃ q : Nat, q ≤ m6 ∧ i = .int .i64 (q : Nat) ∧ (∀ j, q ≤ j → j < m6 → l1 < (D.getD j noOr).1) ∧ Rd w w.heap.size (w.heap.size + 1) (w.heap.size + 1 + 1) (some z) n c f l (.slice A6 m6 c6) u7 D (restT N (l.take k)) wr ∧ Below W3.heap.size W3 wr) (fun i _ => (intOf i).toNat)
        case atStart => exact ⟨m6, by omega, rfl, fun j h1 h2 => absurd h2 (by omega), hR, Below.refl _ _⟩
        case round =>
          obtain ⟨q, hq, rfl, hqd, hR2, hBW⟩ := hrel
          have hz0 : wr.cell? (z.add (k * 3)) = some (.int .i64 l1) := by rw [hBW.cell (World.block_lt_of_cell? _ _ l0z)]; exact l0z
          have hz1 : wr.cell? ⟨(z.add (k * 3)).block, (z.add (k * 3)).off + 1, none⟩ = some (.int .i64 l2) := by rw [hBW.cell (World.block_lt_of_cell? _ _ l1z)]; exact l1z
          have hz2 : wr.cell? ⟨(z.add (k * 3)).block, (z.add (k * 3)).off + 2, none⟩ = some (.int .i64 l3) := by rw [hBW.cell (World.block_lt_of_cell? _ _ l2z)]; exact l2z
          have hx0 := hR2.X.cell 0
          by_cases h0 : q = 0
          · have HDU := Lib.hid (due_back hup l1 q (by rw [HM6.out]; exact hq) (fun j h1 h2 => hqd j h1 (by rw [← HM6.out]; exact h2)) (fun h => absurd h (by omega)))
            obtain ⟨A6', hA6⟩ : ∃ A', A6 = A' := ⟨_, rfl⟩
            have hq0 : decide (0 < q) = false := decide_eq_false (by omega)
            have hq02 : ¬ (0 : Int) < (q : Int) := by omega
            clear hA6 A6' hqd h0
            go_wp2
            go_quiet (fail)
            go_wp2
            have hR3 := hR2.later (below_drewN (Below.refl _ _) nq)
            have hV3 := (hV6.below hBW).drewN nq
            have hzc0 := (show (wr.drewN nq).cell? (z.add (k * 3)) = some (.int .i64 l1) ∧ (wr.drewN nq).cell? ⟨(z.add (k * 3)).block, (z.add (k * 3)).off + 1, none⟩ = some (.int .i64 l2) ∧ (wr.drewN nq).cell? ⟨(z.add (k * 3)).block, (z.add (k * 3)).off + 2, none⟩ = some (.int .i64 l3) from ⟨hz0, hz1, hz2⟩)
            clear hR2 hBW hz0 hz1 hz2 hx0 hR hV6 l0z l1z l2z x0
            generalize wr.drewN nq = Wn at *
            have hqc : q ≤ c6 := by omega
            have hkz9 : (k : Int) < (n : Int) := by omega
            obtain ⟨E, hE, hse⟩ := slice_on A6 m6 c6 q hq hc6
            refine Reg.begin_ (S := fun W => W.cell? ⟨w.heap.size, 0, none⟩ = some (.slice (some z) n c) ∧ W.cell? (z.add (k * 3)) = some (.int .i64 l1) ∧ W.cell? ⟨(z.add (k * 3)).block, (z.add (k * 3)).off + 1, none⟩ = some (.int .i64 l2) ∧ W.cell? ⟨(z.add (k * 3)).block, (z.add (k * 3)).off + 2, none⟩ = some (.int .i64 l3)) (by kernel_rfl) (by exact ⟨hR3.X.cell 0, hzc0⟩) (fun hHeld => ?_)
            have hRd : Rd w w.heap.size (w.heap.size + 1) (w.heap.size + 1 + 1) (some z) n c f l (.slice A6 m6 c6) u7 D (restT N (l.take k)) Wn.drew := hR3.later (below_drewN (Below.refl _ _) 1)
            have hVd : Row.Vals orS Wn.drew A6 m6 D := hV3.drewN 1
            have hzd := (show Wn.drew.cell? (z.add (k * 3)) = some (.int .i64 l1) ∧ Wn.drew.cell? ⟨(z.add (k * 3)).block, (z.add (k * 3)).off + 1, none⟩ = some (.int .i64 l2) ∧ Wn.drew.cell? ⟨(z.add (k * 3)).block, (z.add (k * 3)).off + 2, none⟩ = some (.int .i64 l3) from hzc0)
            have hzl : (z.add (k * 3)).block < Wn.drew.heap.size := World.block_lt_of_cell? _ _ hzc0.1
            clear hR3 hV3 hzc0
            generalize Wn.drew = Wd at *
            have hzc : ∀ W, Below Wd.heap.size Wd W → W.cell? (z.add (k * 3)) = some (.int .i64 l1) ∧ W.cell? ⟨(z.add (k * 3)).block, (z.add (k * 3)).off + 1, none⟩ = some (.int .i64 l2) ∧ W.cell? ⟨(z.add (k * 3)).block, (z.add (k * 3)).off + 2, none⟩ = some (.int .i64 l3) := fun W hB => ⟨by rw [hB.cell hzl]; exact hzd.1, by rw [hB.cell (World.block_lt_of_cell? _ _ hzd.2.1)]; exact hzd.2.1, by rw [hB.cell (World.block_lt_of_cell? _ _ hzd.2.2)]; exact hzd.2.2⟩
            have hlx := hRd.X.lt
            have hD1 := hVd.take q hq
            have hD2 := hE Wd D hVd
            clear hVd hE
            refine Reg.take (i := 1) (v := ?v1) rfl (by kernel_rfl) (by kernel_rfl) (by kernel_rfl) (by rfl) ?hv1 (by assumption) ?rest1
            case hv1 => first | (intro w hSw; (try dsimp only at hSw); go_simp; done) | (intro w hSw; (try dsimp only at hSw); go_simp; with_reducible rfl)
            (try simp only [Act.put, List.setIfInBounds_toArray, List.set_cons_zero, List.set_cons_succ])
            refine Reg.take (i := 2) (v := ?v2) rfl (by kernel_rfl) (by kernel_rfl) (by kernel_rfl) (by rfl) ?hv2 (by assumption) ?rest2
            case hv2 => first | (intro w hSw; (try dsimp only at hSw); go_simp; done) | (intro w hSw; (try dsimp only at hSw); go_simp; with_reducible rfl)
            (try simp only [Act.put, List.setIfInBounds_toArray, List.set_cons_zero, List.set_cons_succ])
            refine Reg.take (i := 3) (v := ?v3) rfl (by kernel_rfl) (by kernel_rfl) (by kernel_rfl) (by rfl) ?hv3 (by assumption) ?rest3
            case hv3 => first | (intro w hSw; (try dsimp only at hSw); go_simp; done) | (intro w hSw; (try dsimp only at hSw); go_simp; with_reducible rfl)
            (try simp only [Act.put, List.setIfInBounds_toArray, List.set_cons_zero, List.set_cons_succ])
            refine Reg.take (i := 5) (v := ?v4) rfl (by kernel_rfl) (by kernel_rfl) (by kernel_rfl) (by rfl) ?hv4 (by assumption) ?rest4
            case hv4 => first | (intro w hSw; (try dsimp only at hSw); go_simp; done) | (intro w hSw; (try dsimp only at hSw); go_simp; with_reducible rfl)
            (try simp only [Act.put, List.setIfInBounds_toArray, List.set_cons_zero, List.set_cons_succ])
            refine Reg.take (i := 6) (v := ?v5) rfl (by kernel_rfl) (by kernel_rfl) (by kernel_rfl) (by rfl) ?hv5 (by assumption) ?rest5
            case hv5 => first | (intro w hSw; (try dsimp only at hSw); go_simp; done) | (intro w hSw; (try dsimp only at hSw); go_simp; with_reducible rfl)
            (try simp only [Act.put, List.setIfInBounds_toArray, List.set_cons_zero, List.set_cons_succ])
            refine Reg.take (i := 7) (v := ?v6) rfl (by kernel_rfl) (by kernel_rfl) (by kernel_rfl) (by rfl) ?hv6 (by assumption) ?rest6
            case hv6 => first | (intro w hSw; (try dsimp only at hSw); go_simp; done) | (intro w hSw; (try dsimp only at hSw); go_simp; with_reducible rfl)
            (try simp only [Act.put, List.setIfInBounds_toArray, List.set_cons_zero, List.set_cons_succ])
            refine Reg.take (i := 8) (v := ?v7) rfl (by kernel_rfl) (by kernel_rfl) (by kernel_rfl) (by rfl) ?hv7 (by assumption) ?rest7
            case hv7 => first | (intro w hSw; (try dsimp only at hSw); go_simp; done) | (intro w hSw; (try dsimp only at hSw); go_simp; with_reducible rfl)
            (try simp only [Act.put, List.setIfInBounds_toArray, List.set_cons_zero, List.set_cons_succ])
            refine Reg.take (i := 9) (v := ?v8) rfl (by kernel_rfl) (by kernel_rfl) (by kernel_rfl) (by rfl) ?hv8 (by assumption) ?rest8
            case hv8 => first | (intro w hSw; (try dsimp only at hSw); go_simp; done) | (intro w hSw; (try dsimp only at hSw); go_simp; with_reducible rfl)
            (try simp only [Act.put, List.setIfInBounds_toArray, List.set_cons_zero, List.set_cons_succ])
            refine Reg.take (i := 12) (v := ?v9) rfl (by kernel_rfl) (by kernel_rfl) (by kernel_rfl) (by rfl) ?hv9 (by assumption) ?rest9
            case hv9 => first | (intro w hSw; (try dsimp only at hSw); go_simp; done) | (intro w hSw; (try dsimp only at hSw); go_simp; with_reducible rfl)
            (try simp only [Act.put, List.setIfInBounds_toArray, List.set_cons_zero, List.set_cons_succ])
            refine Reg.take (i := 13) (v := ?v10) rfl (by kernel_rfl) (by kernel_rfl) (by kernel_rfl) (by rfl) ?hv10 (by assumption) ?rest10
            case hv10 => first | (intro w hSw; (try dsimp only at hSw); go_simp; done) | (intro w hSw; (try dsimp only at hSw); go_simp; with_reducible rfl)
            (try simp only [Act.put, List.setIfInBounds_toArray, List.set_cons_zero, List.set_cons_succ])
            refine Reg.take (i := 14) (v := ?v11) rfl (by kernel_rfl) (by kernel_rfl) (by kernel_rfl) (by rfl) ?hv11 (by assumption) ?rest11
            case hv11 => first | (intro w hSw; (try dsimp only at hSw); go_simp; done) | (intro w hSw; (try dsimp only at hSw); go_simp; with_reducible rfl)
            (try simp only [Act.put, List.setIfInBounds_toArray, List.set_cons_zero, List.set_cons_succ])
            have hB0 : Below Wd.heap.size Wd Wd := Below.refl _ _
            refine Reg.both (i := 0) (j := 10) rfl rfl (by kernel_rfl) (by rfl) (by rfl) ?_ ?_
            · intro K hK
              go_simp
              have hB1 := hB0.alloc (Nat.le_refl _) (.cells #[] 23)
              have hR1 := Row.own_empty (S := orS) Wd 23
              refine hK.out _ _ (by exact ⟨(hRd.X.below hB1 hlx).cell 0, hzc _ hB1⟩) (fun hHeld => ?_)
              clear hK K
              (try simp only [Act.put, List.setIfInBounds_toArray, List.set_cons_zero, List.set_cons_succ])
              refine Reg.both (i := 4) (j := 10) rfl rfl (by kernel_rfl) (by rfl) (by rfl) ?_ ?_
              · intro K hK
                refine Row.wp_append (S := orS) (.tmp 57) (.tmp 60) _ rfl Wd.heap.size 23 _ 24 (by omega) Tryd.underlying39 HInfo.out (by kernel_rfl) (.slice (some ⟨Wd.heap.size, 0, none⟩) 0 0) 0 [] rfl hR1 A6 q c6 (D.take q) rfl (hD1.below hB1) (by omega) hB1.size ?_
                intro V3 W3 hR3 hg3 hat3
                rw [Nat.zero_add, List.nil_append] at hR3
                have hB3 := below_kept hB1 (Kept.of_grown hg3) hB1.size (own_in hR1)
                refine hK.out _ _ (by exact ⟨(hRd.X.below hB3 hlx).cell 0, hzc _ hB3⟩) (fun hHeld => ?_)
                clear hK K
                (try simp only [Act.put, List.setIfInBounds_toArray, List.set_cons_zero, List.set_cons_succ])
                refine Reg.call (i := 10) rfl (by kernel_rfl) (by rfl) ?_
                intro K hK
                go_simp
                have hB4 := hB3.alloc hB3.size (.cells #[.int .i64 l1, .int .i64 l2, .int .i64 l3] 23)
                have hR4 := own_kept hR3 ((Kept.refl [] W3).alloc (.cells #[.int .i64 l1, .int .i64 l2, .int .i64 l3] 23)) (by simp)
                have hV4 := Row.Vals.has (S := orS) (ys := [(l1, l2, l3)]) (tl := []) (Has.new W3 23 #[.int .i64 l1, .int .i64 l2, .int .i64 l3])
                refine hK.out _ _ (by exact ⟨(hRd.X.below hB4 hlx).cell 0, hzc _ hB4⟩) (fun hHeld => ?_)
                clear hK K
                (try simp only [Act.put, List.setIfInBounds_toArray, List.set_cons_zero, List.set_cons_succ])
                refine Reg.call (i := 11) rfl (by kernel_rfl) (by rfl) ?_
                intro K hK
                refine Row.wp_append (S := orS) (.tmp 61) (.tmp 67) _ rfl Wd.heap.size 23 _ 24 (by omega) Tryd.underlying39 HInfo.out (by kernel_rfl) _ q (D.take q) rfl hR4 _ 1 1 [(l1, l2, l3)] rfl hV4 (by omega) hB4.size ?_
                intro V6' W6 hR6 hg6 hat6
                have hB6 := below_kept hB4 (Kept.of_grown hg6) hB4.size (own_in hR4)
                refine hK.out _ _ (by exact ⟨(hRd.X.below hB6 hlx).cell 0, hzc _ hB6⟩) (fun hHeld => ?_)
                clear hK K
                (try simp only [Act.put, List.setIfInBounds_toArray, List.set_cons_zero, List.set_cons_succ])
                refine Reg.call (i := 15) rfl (by kernel_rfl) (by rfl) ?_
                intro K hK
                refine Row.wp_append (S := orS) (.tmp 68) (.tmp 71) _ rfl Wd.heap.size 23 _ 24 (by omega) Tryd.underlying39 HInfo.out (by kernel_rfl) _ (q + 1) (D.take q ++ [(l1, l2, l3)]) rfl hR6 E (m6 - q) (c6 - q) (D.drop q) rfl (hD2.below hB6) (by omega) hB6.size ?_
                intro V8 W8 hR8 hg8 hat8
                have hB8 := below_kept hB6 (Kept.of_grown hg8) hB6.size (own_in hR6)
                refine hK.out _ _ (by exact ⟨(hRd.X.below hB8 hlx).cell 0, hzc _ hB8⟩) (fun hHeld => ?_)
                clear hK K
                (try simp only [Act.put, List.setIfInBounds_toArray, List.set_cons_zero, List.set_cons_succ])
                refine Reg.take (i := 16) (v := ?v12) rfl (by kernel_rfl) (by kernel_rfl) (by kernel_rfl) (by rfl) ?hv12 (by assumption) ?rest12
                case hv12 => first | (intro w hSw; (try dsimp only at hSw); go_simp; done) | (intro w hSw; (try dsimp only at hSw); go_simp; with_reducible rfl)
                (try simp only [Act.put, List.setIfInBounds_toArray, List.set_cons_zero, List.set_cons_succ])
                refine Reg.done (by kernel_rfl) ?_ _
                clear hHeld
                have hins : D.take q ++ [(l1, l2, l3)] ++ D.drop q = insT (l1, l2, l3) D := by
                  unfold insT
                  rw [show due (l1, l2, l3).1 D = q from HDU.out, List.append_assoc]
                  rfl
                have hsz : q + 1 + (m6 - q) = (insT (l1, l2, l3) D).length := by rw [ins_len, HM6.out]; omega
                rw [hins, hsz] at hR8
                have hRf := hRd.moved hB8 hR8
                have HG1 := Lib.hid hgy.1
                have HG2 := Lib.hid hgy.2
                clear hR8 hRd hB8 hR6 hins hsz hgy hD1 hD2
                go_wp2
                go_roundw
                case rel => exact ⟨k + 1, by omega, by go_num, by rw [HG1.out, HG2.out]; exact hRf⟩
                case measure => simp [intOf]; omega
              · intro K hK
                go_simp
                have hB2 := hB1.alloc hB1.size (.cells #[.int .i64 l1, .int .i64 l2, .int .i64 l3] 23)
                have hR2 := own_kept hR1 ((Kept.refl [] _).alloc (.cells #[.int .i64 l1, .int .i64 l2, .int .i64 l3] 23)) (by simp)
                have hV2 := Row.Vals.has (S := orS) (ys := [(l1, l2, l3)]) (tl := []) (Has.new (Wd.alloc (.cells #[] 23)) 23 #[.int .i64 l1, .int .i64 l2, .int .i64 l3])
                have hV2 : Row.Vals orS ((Wd.alloc (.cells #[] 23)).alloc (.cells #[.int .i64 l1, .int .i64 l2, .int .i64 l3] 23)) (some ⟨Wd.heap.size + 1, 0, none⟩) 1 [(l1, l2, l3)] := by simpa using hV2
                refine hK.out _ _ (by exact ⟨(hRd.X.below hB2 hlx).cell 0, hzc _ hB2⟩) (fun hHeld => ?_)
                clear hK K
                (try simp only [Act.put, List.setIfInBounds_toArray, List.set_cons_zero, List.set_cons_succ])
                refine Reg.call (i := 4) rfl (by kernel_rfl) (by rfl) ?_
                intro K hK
                refine Row.wp_append (S := orS) (.tmp 57) (.tmp 60) _ rfl Wd.heap.size 23 _ 24 (by omega) Tryd.underlying39 HInfo.out (by kernel_rfl) (.slice (some ⟨Wd.heap.size, 0, none⟩) 0 0) 0 [] rfl hR2 A6 q c6 (D.take q) rfl (hD1.below hB2) (by omega) hB2.size ?_
                intro V3 W3 hR3 hg3 hat3
                rw [Nat.zero_add, List.nil_append] at hR3
                have hB3 := below_kept hB2 (Kept.of_grown hg3) hB2.size (own_in hR2)
                have hV4 := hV2.kept (Kept.of_grown hg3) (fun _ x hx => by injection hx with hx; subst hx; simp [Value.ownBlock])
                refine hK.out _ _ (by exact ⟨(hRd.X.below hB3 hlx).cell 0, hzc _ hB3⟩) (fun hHeld => ?_)
                clear hK K
                (try simp only [Act.put, List.setIfInBounds_toArray, List.set_cons_zero, List.set_cons_succ])
                refine Reg.call (i := 11) rfl (by kernel_rfl) (by rfl) ?_
                intro K hK
                refine Row.wp_append (S := orS) (.tmp 61) (.tmp 67) _ rfl Wd.heap.size 23 _ 24 (by omega) Tryd.underlying39 HInfo.out (by kernel_rfl) _ q (D.take q) rfl hR3 _ 1 1 [(l1, l2, l3)] rfl hV4 (by omega) hB3.size ?_
                intro V6' W6 hR6 hg6 hat6
                have hB6 := below_kept hB3 (Kept.of_grown hg6) hB3.size (own_in hR3)
                refine hK.out _ _ (by exact ⟨(hRd.X.below hB6 hlx).cell 0, hzc _ hB6⟩) (fun hHeld => ?_)
                clear hK K
                (try simp only [Act.put, List.setIfInBounds_toArray, List.set_cons_zero, List.set_cons_succ])
                refine Reg.call (i := 15) rfl (by kernel_rfl) (by rfl) ?_
                intro K hK
                refine Row.wp_append (S := orS) (.tmp 68) (.tmp 71) _ rfl Wd.heap.size 23 _ 24 (by omega) Tryd.underlying39 HInfo.out (by kernel_rfl) _ (q + 1) (D.take q ++ [(l1, l2, l3)]) rfl hR6 E (m6 - q) (c6 - q) (D.drop q) rfl (hD2.below hB6) (by omega) hB6.size ?_
                intro V8 W8 hR8 hg8 hat8
                have hB8 := below_kept hB6 (Kept.of_grown hg8) hB6.size (own_in hR6)
                refine hK.out _ _ (by exact ⟨(hRd.X.below hB8 hlx).cell 0, hzc _ hB8⟩) (fun hHeld => ?_)
                clear hK K
                (try simp only [Act.put, List.setIfInBounds_toArray, List.set_cons_zero, List.set_cons_succ])
                refine Reg.take (i := 16) (v := ?v13) rfl (by kernel_rfl) (by kernel_rfl) (by kernel_rfl) (by rfl) ?hv13 (by assumption) ?rest13
                case hv13 => first | (intro w hSw; (try dsimp only at hSw); go_simp; done) | (intro w hSw; (try dsimp only at hSw); go_simp; with_reducible rfl)
                (try simp only [Act.put, List.setIfInBounds_toArray, List.set_cons_zero, List.set_cons_succ])
                refine Reg.done (by kernel_rfl) ?_ _
                clear hHeld
                have hins : D.take q ++ [(l1, l2, l3)] ++ D.drop q = insT (l1, l2, l3) D := by
                  unfold insT
                  rw [show due (l1, l2, l3).1 D = q from HDU.out, List.append_assoc]
                  rfl
                have hsz : q + 1 + (m6 - q) = (insT (l1, l2, l3) D).length := by rw [ins_len, HM6.out]; omega
                rw [hins, hsz] at hR8
                have hRf := hRd.moved hB8 hR8
                have HG1 := Lib.hid hgy.1
                have HG2 := Lib.hid hgy.2
                clear hR8 hRd hB8 hR6 hins hsz hgy hD1 hD2
                go_wp2
                go_roundw
                case rel => exact ⟨k + 1, by omega, by go_num, by rw [HG1.out, HG2.out]; exact hRf⟩
                case measure => simp [intOf]; omega
            · intro K hK
              go_simp
              have hB1 := hB0.alloc (Nat.le_refl _) (.cells #[.int .i64 l1, .int .i64 l2, .int .i64 l3] 23)
              have hV1 := Row.Vals.has (S := orS) (ys := [(l1, l2, l3)]) (tl := []) (Has.new Wd 23 #[.int .i64 l1, .int .i64 l2, .int .i64 l3])
              refine hK.out _ _ (by exact ⟨(hRd.X.below hB1 hlx).cell 0, hzc _ hB1⟩) (fun hHeld => ?_)
              clear hK K
              (try simp only [Act.put, List.setIfInBounds_toArray, List.set_cons_zero, List.set_cons_succ])
              refine Reg.call (i := 0) rfl (by kernel_rfl) (by rfl) ?_
              intro K hK
              go_simp
              have hB2 := hB1.alloc hB1.size (.cells #[] 23)
              have hR2 := own_low (Row.own_empty (S := orS) (Wd.alloc (.cells #[.int .i64 l1, .int .i64 l2, .int .i64 l3] 23)) 23) (base' := Wd.heap.size) (by simp)
              have hV2 := hV1.alloc (.cells #[] 23)
              rw [World.size_alloc] at hR2
              refine hK.out _ _ (by exact ⟨(hRd.X.below hB2 hlx).cell 0, hzc _ hB2⟩) (fun hHeld => ?_)
              clear hK K
              (try simp only [Act.put, List.setIfInBounds_toArray, List.set_cons_zero, List.set_cons_succ])
              refine Reg.call (i := 4) rfl (by kernel_rfl) (by rfl) ?_
              intro K hK
              refine Row.wp_append (S := orS) (.tmp 57) (.tmp 60) _ rfl Wd.heap.size 23 _ 24 (by omega) Tryd.underlying39 HInfo.out (by kernel_rfl) (.slice (some ⟨(Wd.heap.size + 1), 0, none⟩) 0 0) 0 [] rfl hR2 A6 q c6 (D.take q) rfl (hD1.below hB2) (by omega) hB2.size ?_
              intro V3 W3 hR3 hg3 hat3
              rw [Nat.zero_add, List.nil_append] at hR3
              have hB3 := below_kept hB2 (Kept.of_grown hg3) hB2.size (own_in hR2)
              have hV4 := hV2.kept (Kept.of_grown hg3) (fun _ x hx => by injection hx with hx; subst hx; simp [Value.ownBlock])
              refine hK.out _ _ (by exact ⟨(hRd.X.below hB3 hlx).cell 0, hzc _ hB3⟩) (fun hHeld => ?_)
              clear hK K
              (try simp only [Act.put, List.setIfInBounds_toArray, List.set_cons_zero, List.set_cons_succ])
              refine Reg.call (i := 11) rfl (by kernel_rfl) (by rfl) ?_
              intro K hK
              refine Row.wp_append (S := orS) (.tmp 61) (.tmp 67) _ rfl Wd.heap.size 23 _ 24 (by omega) Tryd.underlying39 HInfo.out (by kernel_rfl) _ q (D.take q) rfl hR3 _ 1 1 [(l1, l2, l3)] rfl hV4 (by omega) hB3.size ?_
              intro V6' W6 hR6 hg6 hat6
              have hB6 := below_kept hB3 (Kept.of_grown hg6) hB3.size (own_in hR3)
              refine hK.out _ _ (by exact ⟨(hRd.X.below hB6 hlx).cell 0, hzc _ hB6⟩) (fun hHeld => ?_)
              clear hK K
              (try simp only [Act.put, List.setIfInBounds_toArray, List.set_cons_zero, List.set_cons_succ])
              refine Reg.call (i := 15) rfl (by kernel_rfl) (by rfl) ?_
              intro K hK
              refine Row.wp_append (S := orS) (.tmp 68) (.tmp 71) _ rfl Wd.heap.size 23 _ 24 (by omega) Tryd.underlying39 HInfo.out (by kernel_rfl) _ (q + 1) (D.take q ++ [(l1, l2, l3)]) rfl hR6 E (m6 - q) (c6 - q) (D.drop q) rfl (hD2.below hB6) (by omega) hB6.size ?_
              intro V8 W8 hR8 hg8 hat8
              have hB8 := below_kept hB6 (Kept.of_grown hg8) hB6.size (own_in hR6)
              refine hK.out _ _ (by exact ⟨(hRd.X.below hB8 hlx).cell 0, hzc _ hB8⟩) (fun hHeld => ?_)
              clear hK K
              (try simp only [Act.put, List.setIfInBounds_toArray, List.set_cons_zero, List.set_cons_succ])
              refine Reg.take (i := 16) (v := ?v14) rfl (by kernel_rfl) (by kernel_rfl) (by kernel_rfl) (by rfl) ?hv14 (by assumption) ?rest14
              case hv14 => first | (intro w hSw; (try dsimp only at hSw); go_simp; done) | (intro w hSw; (try dsimp only at hSw); go_simp; with_reducible rfl)
              (try simp only [Act.put, List.setIfInBounds_toArray, List.set_cons_zero, List.set_cons_succ])
              refine Reg.done (by kernel_rfl) ?_ _
              clear hHeld
              have hins : D.take q ++ [(l1, l2, l3)] ++ D.drop q = insT (l1, l2, l3) D := by
                unfold insT
                rw [show due (l1, l2, l3).1 D = q from HDU.out, List.append_assoc]
                rfl
              have hsz : q + 1 + (m6 - q) = (insT (l1, l2, l3) D).length := by rw [ins_len, HM6.out]; omega
              rw [hins, hsz] at hR8
              have hRf := hRd.moved hB8 hR8
              have HG1 := Lib.hid hgy.1
              have HG2 := Lib.hid hgy.2
              clear hR8 hRd hB8 hR6 hins hsz hgy hD1 hD2
              go_wp2
              go_roundw
              case rel => exact ⟨k + 1, by omega, by go_num, by rw [HG1.out, HG2.out]; exact hRf⟩
              case measure => simp [intOf]; omega
          · obtain ⟨q1, hq1⟩ : ∃ q1, q - 1 = q1 := ⟨_, rfl⟩
            have hz3 : (q : Int) - 1 = (q1 : Int) := by omega
            have hz4 : (0 : Int) < (q : Int) := by omega
            have hz7 : 0 < q := by omega
            have hz8 : decide (0 < q) = true := decide_eq_true hz7
            have hzw : IntKind.i64.wrap (q1 : Int) = (q1 : Int) := by rw [IntKind.wrap_i64]; omega
            have hzw2 : IntKind.i64.wrap ((q : Int) - 1) = (q1 : Int) := by rw [hz3]; exact hzw
            have hz5 : (q1 : Int) < (m6 : Int) := by omega
            have hz6 : q1 < m6 := by omega
            obtain ⟨zd, rfl, -⟩ := hV6.cells (by omega)
            obtain ⟨d0, d1, d2⟩ := or_cells (hV6.below hBW) q1 hz6
            by_cases hgt : l1 < (D.getD q1 noOr).1
            · have hqd2 := Lib.hid (show ∀ j, q1 ≤ j → j < m6 → l1 < (D.getD j noOr).1 from fun j h1 h2 => by
                rcases (by omega : j = q1 ∨ q ≤ j) with h3 | h3
                · rw [h3]; exact hgt
                · exact hqd j h3 h2)
              generalize (D.getD q1 noOr).1 = e1 at *
              clear hqd
              have hR3 := fun nq => hR2.later (below_drewN (Below.refl wr.heap.size wr) nq)
              have hBW2 := fun nq => below_drewN hBW nq
              clear hR2
              go_wp2
              go_quiet (fail)
              go_wp2
              go_roundw
              case rel => exact ⟨q1, by omega, rfl, hqd2.out, hR3 _, hBW2 _⟩
              case measure => simp [intOf]; omega
            · have HDU := Lib.hid (due_back hup l1 q (by rw [HM6.out]; exact hq) (fun j h1 h2 => hqd j h1 (by rw [← HM6.out]; exact h2)) (fun _ => by rw [hq1]; omega))
              generalize (D.getD q1 noOr).1 = e1 at *
              clear hqd
              go_wp2
              go_quiet (fail)
              go_wp2
              clear d0 d1 d2
              generalize (some zd : Option Addr) = A6 at *
              have hR3 := hR2.later (below_drewN (Below.refl _ _) nq)
              have hV3 := (hV6.below hBW).drewN nq
              have hzc0 := (show (wr.drewN nq).cell? (z.add (k * 3)) = some (.int .i64 l1) ∧ (wr.drewN nq).cell? ⟨(z.add (k * 3)).block, (z.add (k * 3)).off + 1, none⟩ = some (.int .i64 l2) ∧ (wr.drewN nq).cell? ⟨(z.add (k * 3)).block, (z.add (k * 3)).off + 2, none⟩ = some (.int .i64 l3) from ⟨hz0, hz1, hz2⟩)
              clear hR2 hBW hz0 hz1 hz2 hx0 hR hV6 l0z l1z l2z x0
              generalize wr.drewN nq = Wn at *
              have hqc : q ≤ c6 := by omega
              have hkz9 : (k : Int) < (n : Int) := by omega
              obtain ⟨E, hE, hse⟩ := slice_on A6 m6 c6 q hq hc6
              refine Reg.begin_ (S := fun W => W.cell? ⟨w.heap.size, 0, none⟩ = some (.slice (some z) n c) ∧ W.cell? (z.add (k * 3)) = some (.int .i64 l1) ∧ W.cell? ⟨(z.add (k * 3)).block, (z.add (k * 3)).off + 1, none⟩ = some (.int .i64 l2) ∧ W.cell? ⟨(z.add (k * 3)).block, (z.add (k * 3)).off + 2, none⟩ = some (.int .i64 l3)) (by kernel_rfl) (by exact ⟨hR3.X.cell 0, hzc0⟩) (fun hHeld => ?_)
              have hRd : Rd w w.heap.size (w.heap.size + 1) (w.heap.size + 1 + 1) (some z) n c f l (.slice A6 m6 c6) u7 D (restT N (l.take k)) Wn.drew := hR3.later (below_drewN (Below.refl _ _) 1)
              have hVd : Row.Vals orS Wn.drew A6 m6 D := hV3.drewN 1
              have hzd := (show Wn.drew.cell? (z.add (k * 3)) = some (.int .i64 l1) ∧ Wn.drew.cell? ⟨(z.add (k * 3)).block, (z.add (k * 3)).off + 1, none⟩ = some (.int .i64 l2) ∧ Wn.drew.cell? ⟨(z.add (k * 3)).block, (z.add (k * 3)).off + 2, none⟩ = some (.int .i64 l3) from hzc0)
              have hzl : (z.add (k * 3)).block < Wn.drew.heap.size := World.block_lt_of_cell? _ _ hzc0.1
              clear hR3 hV3 hzc0
              generalize Wn.drew = Wd at *
              have hzc : ∀ W, Below Wd.heap.size Wd W → W.cell? (z.add (k * 3)) = some (.int .i64 l1) ∧ W.cell? ⟨(z.add (k * 3)).block, (z.add (k * 3)).off + 1, none⟩ = some (.int .i64 l2) ∧ W.cell? ⟨(z.add (k * 3)).block, (z.add (k * 3)).off + 2, none⟩ = some (.int .i64 l3) := fun W hB => ⟨by rw [hB.cell hzl]; exact hzd.1, by rw [hB.cell (World.block_lt_of_cell? _ _ hzd.2.1)]; exact hzd.2.1, by rw [hB.cell (World.block_lt_of_cell? _ _ hzd.2.2)]; exact hzd.2.2⟩
              have hlx := hRd.X.lt
              have hD1 := hVd.take q hq
              have hD2 := hE Wd D hVd
              clear hVd hE
              refine Reg.take (i := 1) (v := ?v15) rfl (by kernel_rfl) (by kernel_rfl) (by kernel_rfl) (by rfl) ?hv15 (by assumption) ?rest15
              case hv15 => first | (intro w hSw; (try dsimp only at hSw); go_simp; done) | (intro w hSw; (try dsimp only at hSw); go_simp; with_reducible rfl)
              (try simp only [Act.put, List.setIfInBounds_toArray, List.set_cons_zero, List.set_cons_succ])
              refine Reg.take (i := 2) (v := ?v16) rfl (by kernel_rfl) (by kernel_rfl) (by kernel_rfl) (by rfl) ?hv16 (by assumption) ?rest16
              case hv16 => first | (intro w hSw; (try dsimp only at hSw); go_simp; done) | (intro w hSw; (try dsimp only at hSw); go_simp; with_reducible rfl)
              (try simp only [Act.put, List.setIfInBounds_toArray, List.set_cons_zero, List.set_cons_succ])
              refine Reg.take (i := 3) (v := ?v17) rfl (by kernel_rfl) (by kernel_rfl) (by kernel_rfl) (by rfl) ?hv17 (by assumption) ?rest17
              case hv17 => first | (intro w hSw; (try dsimp only at hSw); go_simp; done) | (intro w hSw; (try dsimp only at hSw); go_simp; with_reducible rfl)
              (try simp only [Act.put, List.setIfInBounds_toArray, List.set_cons_zero, List.set_cons_succ])
              refine Reg.take (i := 5) (v := ?v18) rfl (by kernel_rfl) (by kernel_rfl) (by kernel_rfl) (by rfl) ?hv18 (by assumption) ?rest18
              case hv18 => first | (intro w hSw; (try dsimp only at hSw); go_simp; done) | (intro w hSw; (try dsimp only at hSw); go_simp; with_reducible rfl)
              (try simp only [Act.put, List.setIfInBounds_toArray, List.set_cons_zero, List.set_cons_succ])
              refine Reg.take (i := 6) (v := ?v19) rfl (by kernel_rfl) (by kernel_rfl) (by kernel_rfl) (by rfl) ?hv19 (by assumption) ?rest19
              case hv19 => first | (intro w hSw; (try dsimp only at hSw); go_simp; done) | (intro w hSw; (try dsimp only at hSw); go_simp; with_reducible rfl)
              (try simp only [Act.put, List.setIfInBounds_toArray, List.set_cons_zero, List.set_cons_succ])
              refine Reg.take (i := 7) (v := ?v20) rfl (by kernel_rfl) (by kernel_rfl) (by kernel_rfl) (by rfl) ?hv20 (by assumption) ?rest20
              case hv20 => first | (intro w hSw; (try dsimp only at hSw); go_simp; done) | (intro w hSw; (try dsimp only at hSw); go_simp; with_reducible rfl)
              (try simp only [Act.put, List.setIfInBounds_toArray, List.set_cons_zero, List.set_cons_succ])
              refine Reg.take (i := 8) (v := ?v21) rfl (by kernel_rfl) (by kernel_rfl) (by kernel_rfl) (by rfl) ?hv21 (by assumption) ?rest21
              case hv21 => first | (intro w hSw; (try dsimp only at hSw); go_simp; done) | (intro w hSw; (try dsimp only at hSw); go_simp; with_reducible rfl)
              (try simp only [Act.put, List.setIfInBounds_toArray, List.set_cons_zero, List.set_cons_succ])
              refine Reg.take (i := 9) (v := ?v22) rfl (by kernel_rfl) (by kernel_rfl) (by kernel_rfl) (by rfl) ?hv22 (by assumption) ?rest22
              case hv22 => first | (intro w hSw; (try dsimp only at hSw); go_simp; done) | (intro w hSw; (try dsimp only at hSw); go_simp; with_reducible rfl)
              (try simp only [Act.put, List.setIfInBounds_toArray, List.set_cons_zero, List.set_cons_succ])
              refine Reg.take (i := 12) (v := ?v23) rfl (by kernel_rfl) (by kernel_rfl) (by kernel_rfl) (by rfl) ?hv23 (by assumption) ?rest23
              case hv23 => first | (intro w hSw; (try dsimp only at hSw); go_simp; done) | (intro w hSw; (try dsimp only at hSw); go_simp; with_reducible rfl)
              (try simp only [Act.put, List.setIfInBounds_toArray, List.set_cons_zero, List.set_cons_succ])
              refine Reg.take (i := 13) (v := ?v24) rfl (by kernel_rfl) (by kernel_rfl) (by kernel_rfl) (by rfl) ?hv24 (by assumption) ?rest24
              case hv24 => first | (intro w hSw; (try dsimp only at hSw); go_simp; done) | (intro w hSw; (try dsimp only at hSw); go_simp; with_reducible rfl)
              (try simp only [Act.put, List.setIfInBounds_toArray, List.set_cons_zero, List.set_cons_succ])
              refine Reg.take (i := 14) (v := ?v25) rfl (by kernel_rfl) (by kernel_rfl) (by kernel_rfl) (by rfl) ?hv25 (by assumption) ?rest25
              case hv25 => first | (intro w hSw; (try dsimp only at hSw); go_simp; done) | (intro w hSw; (try dsimp only at hSw); go_simp; with_reducible rfl)
              (try simp only [Act.put, List.setIfInBounds_toArray, List.set_cons_zero, List.set_cons_succ])
              have hB0 : Below Wd.heap.size Wd Wd := Below.refl _ _
              refine Reg.both (i := 0) (j := 10) rfl rfl (by kernel_rfl) (by rfl) (by rfl) ?_ ?_
              · intro K hK
                go_simp
                have hB1 := hB0.alloc (Nat.le_refl _) (.cells #[] 23)
                have hR1 := Row.own_empty (S := orS) Wd 23
                refine hK.out _ _ (by exact ⟨(hRd.X.below hB1 hlx).cell 0, hzc _ hB1⟩) (fun hHeld => ?_)
                clear hK K
                (try simp only [Act.put, List.setIfInBounds_toArray, List.set_cons_zero, List.set_cons_succ])
                refine Reg.both (i := 4) (j := 10) rfl rfl (by kernel_rfl) (by rfl) (by rfl) ?_ ?_
                · intro K hK
                  refine Row.wp_append (S := orS) (.tmp 57) (.tmp 60) _ rfl Wd.heap.size 23 _ 24 (by omega) Tryd.underlying39 HInfo.out (by kernel_rfl) (.slice (some ⟨Wd.heap.size, 0, none⟩) 0 0) 0 [] rfl hR1 A6 q c6 (D.take q) rfl (hD1.below hB1) (by omega) hB1.size ?_
                  intro V3 W3 hR3 hg3 hat3
                  rw [Nat.zero_add, List.nil_append] at hR3
                  have hB3 := below_kept hB1 (Kept.of_grown hg3) hB1.size (own_in hR1)
                  refine hK.out _ _ (by exact ⟨(hRd.X.below hB3 hlx).cell 0, hzc _ hB3⟩) (fun hHeld => ?_)
                  clear hK K
                  (try simp only [Act.put, List.setIfInBounds_toArray, List.set_cons_zero, List.set_cons_succ])
                  refine Reg.call (i := 10) rfl (by kernel_rfl) (by rfl) ?_
                  intro K hK
                  go_simp
                  have hB4 := hB3.alloc hB3.size (.cells #[.int .i64 l1, .int .i64 l2, .int .i64 l3] 23)
                  have hR4 := own_kept hR3 ((Kept.refl [] W3).alloc (.cells #[.int .i64 l1, .int .i64 l2, .int .i64 l3] 23)) (by simp)
                  have hV4 := Row.Vals.has (S := orS) (ys := [(l1, l2, l3)]) (tl := []) (Has.new W3 23 #[.int .i64 l1, .int .i64 l2, .int .i64 l3])
                  refine hK.out _ _ (by exact ⟨(hRd.X.below hB4 hlx).cell 0, hzc _ hB4⟩) (fun hHeld => ?_)
                  clear hK K
                  (try simp only [Act.put, List.setIfInBounds_toArray, List.set_cons_zero, List.set_cons_succ])
                  refine Reg.call (i := 11) rfl (by kernel_rfl) (by rfl) ?_
                  intro K hK
                  refine Row.wp_append (S := orS) (.tmp 61) (.tmp 67) _ rfl Wd.heap.size 23 _ 24 (by omega) Tryd.underlying39 HInfo.out (by kernel_rfl) _ q (D.take q) rfl hR4 _ 1 1 [(l1, l2, l3)] rfl hV4 (by omega) hB4.size ?_
                  intro V6' W6 hR6 hg6 hat6
                  have hB6 := below_kept hB4 (Kept.of_grown hg6) hB4.size (own_in hR4)
                  refine hK.out _ _ (by exact ⟨(hRd.X.below hB6 hlx).cell 0, hzc _ hB6⟩) (fun hHeld => ?_)
                  clear hK K
                  (try simp only [Act.put, List.setIfInBounds_toArray, List.set_cons_zero, List.set_cons_succ])
                  refine Reg.call (i := 15) rfl (by kernel_rfl) (by rfl) ?_
                  intro K hK
                  refine Row.wp_append (S := orS) (.tmp 68) (.tmp 71) _ rfl Wd.heap.size 23 _ 24 (by omega) Tryd.underlying39 HInfo.out (by kernel_rfl) _ (q + 1) (D.take q ++ [(l1, l2, l3)]) rfl hR6 E (m6 - q) (c6 - q) (D.drop q) rfl (hD2.below hB6) (by omega) hB6.size ?_
                  intro V8 W8 hR8 hg8 hat8
                  have hB8 := below_kept hB6 (Kept.of_grown hg8) hB6.size (own_in hR6)
                  refine hK.out _ _ (by exact ⟨(hRd.X.below hB8 hlx).cell 0, hzc _ hB8⟩) (fun hHeld => ?_)
                  clear hK K
                  (try simp only [Act.put, List.setIfInBounds_toArray, List.set_cons_zero, List.set_cons_succ])
                  refine Reg.take (i := 16) (v := ?v26) rfl (by kernel_rfl) (by kernel_rfl) (by kernel_rfl) (by rfl) ?hv26 (by assumption) ?rest26
                  case hv26 => first | (intro w hSw; (try dsimp only at hSw); go_simp; done) | (intro w hSw; (try dsimp only at hSw); go_simp; with_reducible rfl)
                  (try simp only [Act.put, List.setIfInBounds_toArray, List.set_cons_zero, List.set_cons_succ])
                  refine Reg.done (by kernel_rfl) ?_ _
                  clear hHeld
                  have hins : D.take q ++ [(l1, l2, l3)] ++ D.drop q = insT (l1, l2, l3) D := by
                    unfold insT
                    rw [show due (l1, l2, l3).1 D = q from HDU.out, List.append_assoc]
                    rfl
                  have hsz : q + 1 + (m6 - q) = (insT (l1, l2, l3) D).length := by rw [ins_len, HM6.out]; omega
                  rw [hins, hsz] at hR8
                  have hRf := hRd.moved hB8 hR8
                  have HG1 := Lib.hid hgy.1
                  have HG2 := Lib.hid hgy.2
                  clear hR8 hRd hB8 hR6 hins hsz hgy hD1 hD2
                  go_wp2
                  go_roundw
                  case rel => exact ⟨k + 1, by omega, by go_num, by rw [HG1.out, HG2.out]; exact hRf⟩
                  case measure => simp [intOf]; omega
                · intro K hK
                  go_simp
                  have hB2 := hB1.alloc hB1.size (.cells #[.int .i64 l1, .int .i64 l2, .int .i64 l3] 23)
                  have hR2 := own_kept hR1 ((Kept.refl [] _).alloc (.cells #[.int .i64 l1, .int .i64 l2, .int .i64 l3] 23)) (by simp)
                  have hV2 := Row.Vals.has (S := orS) (ys := [(l1, l2, l3)]) (tl := []) (Has.new (Wd.alloc (.cells #[] 23)) 23 #[.int .i64 l1, .int .i64 l2, .int .i64 l3])
                  have hV2 : Row.Vals orS ((Wd.alloc (.cells #[] 23)).alloc (.cells #[.int .i64 l1, .int .i64 l2, .int .i64 l3] 23)) (some ⟨Wd.heap.size + 1, 0, none⟩) 1 [(l1, l2, l3)] := by simpa using hV2
                  refine hK.out _ _ (by exact ⟨(hRd.X.below hB2 hlx).cell 0, hzc _ hB2⟩) (fun hHeld => ?_)
                  clear hK K
                  (try simp only [Act.put, List.setIfInBounds_toArray, List.set_cons_zero, List.set_cons_succ])
                  refine Reg.call (i := 4) rfl (by kernel_rfl) (by rfl) ?_
                  intro K hK
                  refine Row.wp_append (S := orS) (.tmp 57) (.tmp 60) _ rfl Wd.heap.size 23 _ 24 (by omega) Tryd.underlying39 HInfo.out (by kernel_rfl) (.slice (some ⟨Wd.heap.size, 0, none⟩) 0 0) 0 [] rfl hR2 A6 q c6 (D.take q) rfl (hD1.below hB2) (by omega) hB2.size ?_
                  intro V3 W3 hR3 hg3 hat3
                  rw [Nat.zero_add, List.nil_append] at hR3
                  have hB3 := below_kept hB2 (Kept.of_grown hg3) hB2.size (own_in hR2)
                  have hV4 := hV2.kept (Kept.of_grown hg3) (fun _ x hx => by injection hx with hx; subst hx; simp [Value.ownBlock])
                  refine hK.out _ _ (by exact ⟨(hRd.X.below hB3 hlx).cell 0, hzc _ hB3⟩) (fun hHeld => ?_)
                  clear hK K
                  (try simp only [Act.put, List.setIfInBounds_toArray, List.set_cons_zero, List.set_cons_succ])
                  refine Reg.call (i := 11) rfl (by kernel_rfl) (by rfl) ?_
                  intro K hK
                  refine Row.wp_append (S := orS) (.tmp 61) (.tmp 67) _ rfl Wd.heap.size 23 _ 24 (by omega) Tryd.underlying39 HInfo.out (by kernel_rfl) _ q (D.take q) rfl hR3 _ 1 1 [(l1, l2, l3)] rfl hV4 (by omega) hB3.size ?_
                  intro V6' W6 hR6 hg6 hat6
                  have hB6 := below_kept hB3 (Kept.of_grown hg6) hB3.size (own_in hR3)
                  refine hK.out _ _ (by exact ⟨(hRd.X.below hB6 hlx).cell 0, hzc _ hB6⟩) (fun hHeld => ?_)
                  clear hK K
                  (try simp only [Act.put, List.setIfInBounds_toArray, List.set_cons_zero, List.set_cons_succ])
                  refine Reg.call (i := 15) rfl (by kernel_rfl) (by rfl) ?_
                  intro K hK
                  refine Row.wp_append (S := orS) (.tmp 68) (.tmp 71) _ rfl Wd.heap.size 23 _ 24 (by omega) Tryd.underlying39 HInfo.out (by kernel_rfl) _ (q + 1) (D.take q ++ [(l1, l2, l3)]) rfl hR6 E (m6 - q) (c6 - q) (D.drop q) rfl (hD2.below hB6) (by omega) hB6.size ?_
                  intro V8 W8 hR8 hg8 hat8
                  have hB8 := below_kept hB6 (Kept.of_grown hg8) hB6.size (own_in hR6)
                  refine hK.out _ _ (by exact ⟨(hRd.X.below hB8 hlx).cell 0, hzc _ hB8⟩) (fun hHeld => ?_)
                  clear hK K
                  (try simp only [Act.put, List.setIfInBounds_toArray, List.set_cons_zero, List.set_cons_succ])
                  refine Reg.take (i := 16) (v := ?v27) rfl (by kernel_rfl) (by kernel_rfl) (by kernel_rfl) (by rfl) ?hv27 (by assumption) ?rest27
                  case hv27 => first | (intro w hSw; (try dsimp only at hSw); go_simp; done) | (intro w hSw; (try dsimp only at hSw); go_simp; with_reducible rfl)
                  (try simp only [Act.put, List.setIfInBounds_toArray, List.set_cons_zero, List.set_cons_succ])
                  refine Reg.done (by kernel_rfl) ?_ _
                  clear hHeld
                  have hins : D.take q ++ [(l1, l2, l3)] ++ D.drop q = insT (l1, l2, l3) D := by
                    unfold insT
                    rw [show due (l1, l2, l3).1 D = q from HDU.out, List.append_assoc]
                    rfl
                  have hsz : q + 1 + (m6 - q) = (insT (l1, l2, l3) D).length := by rw [ins_len, HM6.out]; omega
                  rw [hins, hsz] at hR8
                  have hRf := hRd.moved hB8 hR8
                  have HG1 := Lib.hid hgy.1
                  have HG2 := Lib.hid hgy.2
                  clear hR8 hRd hB8 hR6 hins hsz hgy hD1 hD2
                  go_wp2
                  go_roundw
                  case rel => exact ⟨k + 1, by omega, by go_num, by rw [HG1.out, HG2.out]; exact hRf⟩
                  case measure => simp [intOf]; omega
              · intro K hK
                go_simp
                have hB1 := hB0.alloc (Nat.le_refl _) (.cells #[.int .i64 l1, .int .i64 l2, .int .i64 l3] 23)
                have hV1 := Row.Vals.has (S := orS) (ys := [(l1, l2, l3)]) (tl := []) (Has.new Wd 23 #[.int .i64 l1, .int .i64 l2, .int .i64 l3])
                refine hK.out _ _ (by exact ⟨(hRd.X.below hB1 hlx).cell 0, hzc _ hB1⟩) (fun hHeld => ?_)
                clear hK K
                (try simp only [Act.put, List.setIfInBounds_toArray, List.set_cons_zero, List.set_cons_succ])
                refine Reg.call (i := 0) rfl (by kernel_rfl) (by rfl) ?_
                intro K hK
                go_simp
                have hB2 := hB1.alloc hB1.size (.cells #[] 23)
                have hR2 := own_low (Row.own_empty (S := orS) (Wd.alloc (.cells #[.int .i64 l1, .int .i64 l2, .int .i64 l3] 23)) 23) (base' := Wd.heap.size) (by simp)
                have hV2 := hV1.alloc (.cells #[] 23)
                rw [World.size_alloc] at hR2
                refine hK.out _ _ (by exact ⟨(hRd.X.below hB2 hlx).cell 0, hzc _ hB2⟩) (fun hHeld => ?_)
                clear hK K
                (try simp only [Act.put, List.setIfInBounds_toArray, List.set_cons_zero, List.set_cons_succ])
                refine Reg.call (i := 4) rfl (by kernel_rfl) (by rfl) ?_
                intro K hK
                refine Row.wp_append (S := orS) (.tmp 57) (.tmp 60) _ rfl Wd.heap.size 23 _ 24 (by omega) Tryd.underlying39 HInfo.out (by kernel_rfl) (.slice (some ⟨(Wd.heap.size + 1), 0, none⟩) 0 0) 0 [] rfl hR2 A6 q c6 (D.take q) rfl (hD1.below hB2) (by omega) hB2.size ?_
                intro V3 W3 hR3 hg3 hat3
                rw [Nat.zero_add, List.nil_append] at hR3
                have hB3 := below_kept hB2 (Kept.of_grown hg3) hB2.size (own_in hR2)
                have hV4 := hV2.kept (Kept.of_grown hg3) (fun _ x hx => by injection hx with hx; subst hx; simp [Value.ownBlock])
                refine hK.out _ _ (by exact ⟨(hRd.X.below hB3 hlx).cell 0, hzc _ hB3⟩) (fun hHeld => ?_)
                clear hK K
                (try simp only [Act.put, List.setIfInBounds_toArray, List.set_cons_zero, List.set_cons_succ])
                refine Reg.call (i := 11) rfl (by kernel_rfl) (by rfl) ?_
                intro K hK
                refine Row.wp_append (S := orS) (.tmp 61) (.tmp 67) _ rfl Wd.heap.size 23 _ 24 (by omega) Tryd.underlying39 HInfo.out (by kernel_rfl) _ q (D.take q) rfl hR3 _ 1 1 [(l1, l2, l3)] rfl hV4 (by omega) hB3.size ?_
                intro V6' W6 hR6 hg6 hat6
                have hB6 := below_kept hB3 (Kept.of_grown hg6) hB3.size (own_in hR3)
                refine hK.out _ _ (by exact ⟨(hRd.X.below hB6 hlx).cell 0, hzc _ hB6⟩) (fun hHeld => ?_)
                clear hK K
                (try simp only [Act.put, List.setIfInBounds_toArray, List.set_cons_zero, List.set_cons_succ])
                refine Reg.call (i := 15) rfl (by kernel_rfl) (by rfl) ?_
                intro K hK
                refine Row.wp_append (S := orS) (.tmp 68) (.tmp 71) _ rfl Wd.heap.size 23 _ 24 (by omega) Tryd.underlying39 HInfo.out (by kernel_rfl) _ (q + 1) (D.take q ++ [(l1, l2, l3)]) rfl hR6 E (m6 - q) (c6 - q) (D.drop q) rfl (hD2.below hB6) (by omega) hB6.size ?_
                intro V8 W8 hR8 hg8 hat8
                have hB8 := below_kept hB6 (Kept.of_grown hg8) hB6.size (own_in hR6)
                refine hK.out _ _ (by exact ⟨(hRd.X.below hB8 hlx).cell 0, hzc _ hB8⟩) (fun hHeld => ?_)
                clear hK K
                (try simp only [Act.put, List.setIfInBounds_toArray, List.set_cons_zero, List.set_cons_succ])
                refine Reg.take (i := 16) (v := ?v28) rfl (by kernel_rfl) (by kernel_rfl) (by kernel_rfl) (by rfl) ?hv28 (by assumption) ?rest28
                case hv28 => first | (intro w hSw; (try dsimp only at hSw); go_simp; done) | (intro w hSw; (try dsimp only at hSw); go_simp; with_reducible rfl)
                (try simp only [Act.put, List.setIfInBounds_toArray, List.set_cons_zero, List.set_cons_succ])
                refine Reg.done (by kernel_rfl) ?_ _
                clear hHeld
                have hins : D.take q ++ [(l1, l2, l3)] ++ D.drop q = insT (l1, l2, l3) D := by
                  unfold insT
                  rw [show due (l1, l2, l3).1 D = q from HDU.out, List.append_assoc]
                  rfl
                have hsz : q + 1 + (m6 - q) = (insT (l1, l2, l3) D).length := by rw [ins_len, HM6.out]; omega
                rw [hins, hsz] at hR8
                have hRf := hRd.moved hB8 hR8
                have HG1 := Lib.hid hgy.1
                have HG2 := Lib.hid hgy.2
                clear hR8 hRd hB8 hR6 hins hsz hgy hD1 hD2
                go_wp2
                go_roundw
                case rel => exact ⟨k + 1, by omega, by go_num, by rw [HG1.out, HG2.out]; exact hRf⟩
                case measure => simp [intOf]; omega
      · have hgy := gone_no l N k hkl hle
        generalize l.getD k noOr = o at *
        obtain ⟨l1, l2, l3⟩ := o
        dsimp only at l0z l1z l2z hle
        have hRa := hR.alloc (.cells #[.int .i64 l1, .int .i64 l2, .int .i64 l3] 23)
        have hVn := or_new wr 23 (l1, l2, l3)
        have hb9 := hRa.hi
        have HG1 := Lib.hid hgy.1
        have HG2 := Lib.hid hgy.2
        have HRL := Lib.hid hrl
        have hle2 : N < l1 := by omega
        generalize hRR : restT N (l.take k) = R at *
        generalize hDD : sortT (goneT N (l.take k)) = D at *
        clear hR hgy hle hgl hrl hup hRR hDD
        go_wp2_with (first
          | (at_builtin; refine Row.wpList_append (S := orS) rfl (.tmp 28) (.tmp 34) _ rfl (w.heap.size + 1 + 1) 23 _ 24 (by omega) Tryd.underlying39 HInfo.out (by kernel_rfl) _ R.length R rfl hRa.o7 (some ⟨wr.heap.size, 0, none⟩) 1 1 [(l1, l2, l3)] rfl hVn (by have := HRL.out; omega) hb9 ?_; intro V4 W4 hO4 hg4 hat4; have hR4 := hRa.grow7 (zs := [(l1, l2, l3)]) (by rw [List.length_append]; exact hO4) hg4 hat4; clear hRa hVn hO4 hg4 hat4 hb9))
        go_roundw
        case rel => exact ⟨k + 1, by omega, by go_num, by rw [HG1.out, HG2.out]; exact hR4⟩
        case measure => simp [intOf]; omega
    · have hkz : ¬ (k : Int) < (n : Int) := by omega
      rw [List.take_of_length_le (by omega)] at hR
      have x1 := hR.X.cell 1
      obtain ⟨y0, y1, g0, g1⟩ := hR.Y.two
      obtain ⟨A6, c6, hV6e, hc6, -, hV6, hf6, -⟩ := Row.Vals.own hR.o6
      obtain ⟨A7, c7, hV7e, -, -, hV7, hf7, -⟩ := Row.Vals.own hR.o7
      subst hV6e
      subst hV7e
      obtain ⟨F, hF⟩ : ∃ F, max f (N + 1) = F := ⟨_, rfl⟩
      have hFe : F = maxT f N := by unfold maxT; split <;> omega
      have hY8 := hR.Y.put2 (.slice A7 (restT N l).length c7) (.int .i64 F)
      have hB8 := below_put2 hR.low (c := w.heap.size + 1) (by omega) (.slice A7 (restT N l).length c7) (.int .i64 F)
      have hK8 := ((Kept.refl [w.heap.size + 1] wr).setCell (p := ⟨w.heap.size + 1, 0, none⟩) (.inl (by simp)) (.slice A7 (restT N l).length c7)).setCell (p := ⟨w.heap.size + 1, 1, none⟩) (.inl (by simp)) (.int .i64 F)
      have hV6k := hV6.kept hK8 (fun _ v hv => by have := (hf6 v hv).1; simp; omega)
      have hV7k := hV7.kept hK8 (fun _ v hv => by have := (hf7 v hv).1; simp; omega)
      have hF6 : ∀ v, A6 = some v → w.heap.size ≤ v.block := fun v hv => by have := (hf6 v hv).1; omega
      have hF7 := fun (v : Addr) (hv : A7 = some v) => And.intro (show w.heap.size ≤ v.block by have := (hf7 v hv).1; omega) (Nat.lt_of_lt_of_le (hf7 v hv).2 hK8.size)
      have HFE := Lib.hid hFe
      obtain ⟨r7, hr7⟩ : ∃ r7, (restT N l).length = r7 := ⟨_, rfl⟩
      obtain ⟨r6, hr6⟩ : ∃ r6, (sortT (goneT N l)).length = r6 := ⟨_, rfl⟩
      have HR7 := Lib.hid hr7
      have HR6 := Lib.hid hr6
      rw [hr7] at hY8 hB8 hV7k hV6k hF7 ⊢
      rw [hr6] at hV6k ⊢
      clear hr6 hr7 hR hV6 hV7 hf6 hf7 hK8 hFe hgl hrl hup
      go_wp2
      have h6 := HR6.out
      have h7 := HR7.out
      have h8 := HFE.out
      subst h6
      subst h7
      rw [h8] at hY8 hB8 hV6k hV7k hF7 ⊢
      exact ref_ret rfl (w.heap.size + 1) rfl _ rfl _ hY8 rfl rfl ⟨_, A6, ⟨c6, rfl⟩, ⟨A7, c7, rfl, hV7k, fun v hv => .inr (hF7 v hv)⟩, hV6k, hF6, hB8⟩
end Go.Proofs.YtmefdgmbpihdfaaDoor.Order
