/- The reference's Put. -/
import Derived.Test.YteiakpepdnhigaaRingRef
import Derived.Test.YteiakpepdnhigaaStepI
import Derived.Deep.DeepCutAuto
import Derived.Deep.CutBlock
set_option linter.unusedSimpArgs false
set_option linter.unusedVariables false
namespace Go.Proofs.Yteiakpepdnhigaa.RInt
open Go.RowKit

theorem Vals.setCell {w : World} {a : Option Addr} {len : Nat} {ys : List Int} (h : Vals w a len ys) {p : Addr} (hp : ∀ x, a = some x → x.block ≠ p.block) (u : Value) : Vals (w.setCell p u) a len ys :=
  ⟨h.len_, fun hl => by
    obtain ⟨x, hx, hc⟩ := h.cells hl
    exact ⟨x, hx, fun i hi => (World.cell?_of_block (w := w) (Below.heap_setCell w p u _ (by rw [block_add]; exact hp x hx))).trans (hc i hi)⟩⟩
theorem Has.grown {w w' : World} {b : Nat} {t : TypeId} {cs : Array Value} {row : Option Nat} (h : Has w b t cs) (hg : w.grownBy w' row) (hne : some b ≠ row) : Has w' b t cs := (hg.block b h.lt hne).trans h
theorem below_same {B : Nat} {a w w' : World} (h : Below B a w) (h1 : w'.os = w.os) (h2 : w'.tape = w.tape) (h3 : w'.output = w.output) (h4 : w'.heap = w.heap) : Below B a w' :=
  ⟨h1.trans h.os, h2.trans h.tape, h3.trans h.output, by rw [h4]; exact h.size, fun k hk => by rw [h4]; exact h.block k hk⟩
/-- The reference's ring in memory: its list stands behind (A, n, c). -/
def RefPutLoop (w : World) (Bx Rx : Nat) (A : Option Addr) (n c N : Nat) (xs ys : List Int) (k : Nat) (i : Value) (wr : World) : Prop :=
  ∃ j, j ≤ k ∧ i = .int .i64 (j : Nat) ∧ ∃ A' c', Has wr Bx 29 #[.slice A' (n + j) c', .int .i64 N] ∧ Has wr Rx 29 #[.slice none 0 0, .int .i64 0] ∧
    Vals wr A' (n + j) (xs ++ ys.take j) ∧ n + j ≤ c' ∧ c' ≤ 9223372036854775807 ∧ ((j = 0 ∧ A' = A) ∨ ∀ x, A' = some x → Rx < x.block) ∧ Below w.heap.size w wr
/-- .. behind a thing that was put. -/
def RefPutMid (w : World) (Bx Rx : Nat) (n N : Nat) (xs ys : List Int) (j : Nat) (wr : World) : Prop :=
  ∃ A' c', Has wr Bx 29 #[.slice A' (n + j) c', .int .i64 N] ∧ Has wr Rx 29 #[.slice none 0 0, .int .i64 0] ∧
    Vals wr A' (n + j) (xs ++ ys.take j) ∧ n + j ≤ c' ∧ c' ≤ 9223372036854775807 ∧ (∀ x, A' = some x → Rx < x.block) ∧ Below w.heap.size w wr
theorem mid_of {w wr w2 : World} {Bx Rx n N j c2 : Nat} {xs ys zs : List Int} {v : Int} {A2 : Option Addr} {s0 : Value} (hO : Has wr Bx 29 #[s0, .int .i64 N]) (hR : Has wr Rx 29 #[.slice none 0 0, .int .i64 0])
    (hB : Below w.heap.size w wr) (hB2 : Below wr.heap.size wr w2) (hV2 : Vals w2 A2 (n + j + 1) (zs ++ [v])) (e1 : n + j + 1 ≤ c2) (e2 : c2 ≤ 9223372036854775807) (e3 : ∀ x, A2 = some x → wr.heap.size ≤ x.block ∧ x.block < w2.heap.size)
    (hst : xs ++ ys.take (j + 1) = zs ++ [v]) (hBx : w.heap.size = Bx) (hRx : Rx = Bx + 1) : RefPutMid w Bx Rx n N xs ys (j + 1) (w2.setCell ⟨Bx, 0, none⟩ (.slice A2 (n + j + 1) c2)) := by
  have hbl := hO.lt
  have hrl := hR.lt
  have hO3 := (hO.below hB2 hbl).set_ 0 (.slice A2 (n + j + 1) c2)
  refine ⟨A2, c2, by exact hO3, (hR.below hB2 hrl).far (p := ⟨Bx, 0, none⟩) (by simp; omega) _, ?_, e1, e2, fun x hx => by have := (e3 x hx).1; omega, (hB.trans (hB2.mono hB.size)).setCell (p := ⟨Bx, 0, none⟩) (by simp; omega) _⟩
  rw [hst]
  exact hV2.setCell (p := ⟨Bx, 0, none⟩) (fun x hx => by have := (e3 x hx).1; simp; omega) _
/-- What the reference's Put answers. -/
def RefPut (w : World) (A : Option Addr) (n N : Nat) (xs ys : List Int) (k : Nat) (e : Ending) (w' : World) : Prop :=
  ∃ A' c', e = .returned (.tuple #[.agg #[.slice A' (n + k) c', .int .i64 N], .int .i64 k]) ∧ Vals w' A' (n + k) (xs ++ ys.take k) ∧ n + k ≤ c' ∧ c' ≤ 9223372036854775807 ∧
    ((k = 0 ∧ A' = A) ∨ ∀ x, A' = some x → w.heap.size ≤ x.block) ∧ Below w.heap.size w w'
set_option maxRecDepth 100000 in
set_option maxHeartbeats 4000000 in
theorem refput_any (A : Option Addr) (n c N : Nat) (xs : List Int) (B : Option Addr) (m d : Nat) (ys : List Int) (w : World) (h : Vals w A n xs) (hnN : n ≤ N) (hN : N ≤ 65536) (hc : n ≤ c) (hc2 : c ≤ 9223372036854775807)
    (h2 : Vals w B m ys) (hm : m ≤ 1000) (hd : m ≤ d) (k : Nat) (hk : min m (N - n) = k) :
    Calls Try.prog 9 #[.agg #[.slice A n c, .int .i64 N], .slice B m d] w (RefPut w A n N xs ys k) := by
  have hkm : k ≤ m := by omega
  have hkN : n + k ≤ N := by omega
  have hend : m ≤ k ∨ N ≤ n + k := by omega
  have hInfo : (Try.prog.info? 3).map (fun i => (i.zero, i.size, i.bytes)) = some (some (.int .i64 0), 1, 8) := by kernel_rfl
  have HInfo := Lib.hid hInfo
  have HK := Lib.hid hk
  clear hInfo hk
  have hB0 : Below w.heap.size w ((w.alloc (.cells #[.slice A n c, .int .i64 N] 29)).alloc (.cells #[.slice none 0 0, .int .i64 0] 29)) := ((Below.refl _ _).alloc (Nat.le_refl _) _).alloc (by simp) _
  have hH1 : Has ((w.alloc (.cells #[.slice A n c, .int .i64 N] 29)).alloc (.cells #[.slice none 0 0, .int .i64 0] 29)) w.heap.size 29 #[.slice A n c, .int .i64 N] := (Has.new w _ _).alloc _
  have hH2 : Has ((w.alloc (.cells #[.slice A n c, .int .i64 N] 29)).alloc (.cells #[.slice none 0 0, .int .i64 0] 29)) (w.heap.size + 1) 29 #[.slice none 0 0, .int .i64 0] := by
    have h9 := Has.new (w.alloc (.cells #[.slice A n c, .int .i64 N] 29)) 29 #[.slice none 0 0, .int .i64 0]
    rw [show (w.alloc (.cells #[.slice A n c, .int .i64 N] 29)).heap.size = w.heap.size + 1 by simp] at h9
    exact h9
  have hV0 := h.below hB0
  go_enter Try.func9, Try.ntmps9
  go_wp2
  generalize hW : (w.alloc (.cells #[.slice A n c, .int .i64 N] 29)).alloc (.cells #[.slice none 0 0, .int .i64 0] 29) = W at *
  clear hW
  obtain ⟨Rx, hRx⟩ : ∃ Rx, w.heap.size + 1 = Rx := ⟨_, rfl⟩
  rw [hRx] at hH2 ⊢
  obtain ⟨Bx, hBx⟩ : ∃ Bx, w.heap.size = Bx := ⟨_, rfl⟩
  have HBX := Lib.hid hBx
  rw [hBx] at hH1
  rw [hBx]
  have HRX := Lib.hid (show Rx = Bx + 1 by omega)
  clear hRx hBx
  go_loopw [6] (fun i wr => RefPutLoop w Bx Rx A n c N xs ys k i wr) (fun i _ => k - (intOf i).toNat)
  case atStart => exact ⟨0, by omega, rfl, A, c, hH1, hH2, by rw [List.take_zero, List.append_nil]; exact hV0, hc, hc2, .inl ⟨rfl, rfl⟩, hB0⟩
  case round =>
    clear hH1 hH2 hV0 hB0
    obtain ⟨j, hj, rfl, A', c', hO, hR, hV, hc1, hc3, hfar, hB⟩ := hrel
    obtain ⟨o0, o1, of0, of1⟩ := hO.two
    obtain ⟨r0, r1, rf0, rf1⟩ := hR.two
    have hbl := hO.lt
    have hrl := hR.lt
    by_cases hlt : j < k
    · obtain ⟨y, rfl, hy0⟩ := h2.cells (by omega)
      have hyl := World.block_lt_of_cell? _ _ (hy0 j (by omega))
      have hcy := (hB.cell hyl).trans (hy0 j (by omega))
      have hyB : (y.add j).block ≠ Bx := by have := HBX.out; omega
      clear hy0
      have hVl := hV
      have hst : xs ++ ys.take (j + 1) = (xs ++ ys.take j) ++ [ys.getD j 0] := by
        rw [List.take_succ_eq_append_getElem (by have := h2.len_; omega), List.append_assoc, List.getD_eq_getElem?_getD, List.getElem?_eq_getElem (by have := h2.len_; omega)]
        rfl
      generalize ys.getD j 0 = v at *
      have HST := Lib.hid hst
      clear hst
      generalize xs ++ ys.take j = zs at *
      obtain ⟨s, hs⟩ : ∃ s, wr.heap.size = s := ⟨_, rfl⟩
      have Ba := ((Below.refl wr.heap.size wr).alloc (Nat.le_refl _) (.cells #[] 3))
      have Bab := Ba.alloc (by simp) (.cells #[.int .i64 v] 3)
      have Bb := ((Below.refl wr.heap.size wr).alloc (Nat.le_refl _) (.cells #[.int .i64 v] 3))
      have Bba := ((Below.refl wr.heap.size wr).alloc (Nat.le_refl _) (.cells #[.int .i64 v] 3)).alloc (by simp) (.cells #[] 3)
      have H01 := Has.new wr 3 #[]
      have H02 := H01.alloc (.cells #[.int .i64 v] 3)
      have H03 := Has.new (wr.alloc (.cells #[.int .i64 v] 3)) 3 #[]
      have S02 := Has.new (wr.alloc (.cells #[] 3)) 3 #[.int .i64 v]
      have S03 := (Has.new wr 3 #[.int .i64 v]).alloc (.cells #[] 3)
      have Va := hV.below Ba
      have Vab := hV.below Bab
      have Vba := hV.below Bba
      have hbk := World.block_lt_of_cell? _ _ hcy
      rw [show (wr.alloc (.cells #[.int .i64 v] 3)).heap.size = wr.heap.size + 1 by simp] at H03
      rw [show (wr.alloc (.cells #[] 3)).heap.size = wr.heap.size + 1 by simp] at S02
      clear hs
      have BWa : Below wr.heap.size wr (wr.alloc (.cells #[] 3)).drew := below_same Ba rfl rfl rfl rfl
      have BWb : Below wr.heap.size wr ((wr.alloc (.cells #[] 3)).alloc (.cells #[.int .i64 v] 3)).drew := below_same Bab rfl rfl rfl rfl
      have BWc : Below wr.heap.size wr ((wr.alloc (.cells #[.int .i64 v] 3)).alloc (.cells #[] 3)).drew := below_same Bba rfl rfl rfl rfl
      have VWa : Vals (wr.alloc (.cells #[] 3)).drew A' (n + j) zs := hV.below BWa
      have VWb : Vals ((wr.alloc (.cells #[] 3)).alloc (.cells #[.int .i64 v] 3)).drew A' (n + j) zs := hV.below BWb
      have VWc : Vals ((wr.alloc (.cells #[.int .i64 v] 3)).alloc (.cells #[] 3)).drew A' (n + j) zs := hV.below BWc
      have OWa : (wr.alloc (.cells #[] 3)).drew.ownsRow wr.heap.size 3 1 (.slice (some ⟨wr.heap.size, 0, none⟩) 0 0) 0 (vals ([] : List Int)) := own_at H01 (Nat.le_refl _) rfl
      have OWb : ((wr.alloc (.cells #[] 3)).alloc (.cells #[.int .i64 v] 3)).drew.ownsRow wr.heap.size 3 1 (.slice (some ⟨wr.heap.size, 0, none⟩) 0 0) 0 (vals ([] : List Int)) := own_at H02 (Nat.le_refl _) rfl
      have OWc : ((wr.alloc (.cells #[.int .i64 v] 3)).alloc (.cells #[] 3)).drew.ownsRow wr.heap.size 3 1 (.slice (some ⟨wr.heap.size + 1, 0, none⟩) 0 0) 0 (vals ([] : List Int)) := own_at H03 (by omega) rfl
      have ka := (Ba.cell hbk).trans hcy
      have kb := (Bb.cell hbk).trans hcy
      have kab := (Bab.cell hbk).trans hcy
      have kba := (Bba.cell hbk).trans hcy
      have KA := Lib.hid ka
      have KB := Lib.hid kb
      have KAB := Lib.hid kab
      have KBA := Lib.hid kba
      clear ka kb kab kba
      go_upto_region 3 with (fail)
      go_cut [] (fun wx => RefPutMid w Bx Rx n N xs ys (j + 1) wx)
      case first =>
        go_region_law
          (first
            | (refine step_append_vals (by rfl) (.tmp 19) (.tmp 21) _ (by rfl) wr.heap.size 3 8 (by omega) Try.underlying27 HInfo.out (.slice (some ⟨wr.heap.size, 0, none⟩) 0 0) 0 [] (by rfl) OWa A' (n + j) c' zs (by rfl) VWa (by omega) BWa.size ?_; intro v1 w1 hO1 hg1 hat1; have hB1 : Below wr.heap.size wr w1 := BWa.grown hg1 BWa.size (fun k hk => by cases hk; exact Nat.le_refl _); have k1 := (hB1.cell hbk).trans hcy; have k3 := ((hB1.alloc hB1.size (.cells #[.int .i64 v] 3)).cell hbk).trans hcy; rw [Nat.zero_add, List.nil_append] at hO1)
            | (refine step_append_vals (by rfl) (.tmp 19) (.tmp 21) _ (by rfl) wr.heap.size 3 8 (by omega) Try.underlying27 HInfo.out (.slice (some ⟨wr.heap.size, 0, none⟩) 0 0) 0 [] (by rfl) OWb A' (n + j) c' zs (by rfl) VWb (by omega) BWb.size ?_; intro v1 w1 hO1 hg1 hat1; have hB1 : Below wr.heap.size wr w1 := BWb.grown hg1 BWb.size (fun k hk => by cases hk; exact Nat.le_refl _); have k1 := (hB1.cell hbk).trans hcy; have hsv : Has w1 (wr.heap.size + 1) 3 #[.int .i64 v] := Has.grown (by exact S02) hg1 (by intro e; have e2 := Option.some.inj e; simp at e2); rw [Nat.zero_add, List.nil_append] at hO1)
            | (refine step_append_vals (by rfl) (.tmp 19) (.tmp 21) _ (by rfl) wr.heap.size 3 8 (by omega) Try.underlying27 HInfo.out (.slice (some ⟨wr.heap.size + 1, 0, none⟩) 0 0) 0 [] (by rfl) OWc A' (n + j) c' zs (by rfl) VWc (by omega) BWc.size ?_; intro v1 w1 hO1 hg1 hat1; have hB1 : Below wr.heap.size wr w1 := BWc.grown hg1 BWc.size (fun k hk => by cases hk; exact Nat.le_succ _); have k1 := (hB1.cell hbk).trans hcy; have hsv : Has w1 wr.heap.size 3 #[.int .i64 v] := Has.grown (by exact S03) hg1 (by intro e; have e2 := Option.some.inj e; simp at e2); rw [Nat.zero_add, List.nil_append] at hO1)
            | (refine step_append_vals (by rfl) (.tmp 22) (.tmp 27) _ (by rfl) wr.heap.size 3 8 (by omega) Try.underlying27 HInfo.out v1 (n + j) zs (by rfl) hO1 (some ⟨_, 0, none⟩) 1 1 [v] (by rfl) (Vals.has (ys := [v]) (tl := []) hsv) (by omega) hB1.size ?_; intro v2 w2 hO2 hg2 hat2; have hB2 : Below wr.heap.size wr w2 := hB1.grown hg2 hB1.size (fun k hk => (own_block hO1 k hk).1); have k2 := (hB2.cell hbk).trans hcy; have k0 := (hB2.cell (p := ⟨Bx, 0, none⟩) hbl).trans o0; have kf := (hB2.frozen (p := ⟨Bx, 0, none⟩) hbl).trans of0; obtain ⟨A2, c2, rfl, e1, e2, hV2, e3, e4⟩ := Vals.own hO2; have K4 := Lib.hid (fun u : Value => (World.cell?_of_block (w := w2) (Below.heap_setCell w2 ⟨Bx, 0, none⟩ u _ hyB)).trans k2))
            | (refine step_append_vals (w := (w1.alloc (.cells #[.int .i64 v] 3))) (by rfl) (.tmp 22) (.tmp 27) _ (by rfl) wr.heap.size 3 8 (by omega) Try.underlying27 HInfo.out v1 (n + j) zs (by rfl) (hO1.alloc _) (some ⟨w1.heap.size, 0, none⟩) 1 1 [v] (by rfl) (Vals.has (ys := [v]) (tl := []) (Has.new w1 _ _)) (by omega) (by have := hB1.size; simp; omega) ?_; intro v2 w2 hO2 hg2 hat2; have hB2 : Below wr.heap.size wr w2 := (hB1.alloc hB1.size _).grown hg2 (by have := hB1.size; simp; omega) (fun k hk => (own_block hO1 k hk).1); have k2 := (hB2.cell hbk).trans hcy; have k0 := (hB2.cell (p := ⟨Bx, 0, none⟩) hbl).trans o0; have kf := (hB2.frozen (p := ⟨Bx, 0, none⟩) hbl).trans of0; obtain ⟨A2, c2, rfl, e1, e2, hV2, e3, e4⟩ := Vals.own hO2; have K4 := Lib.hid (fun u : Value => (World.cell?_of_block (w := w2) (Below.heap_setCell w2 ⟨Bx, 0, none⟩ u _ hyB)).trans k2)))
        all_goals
          go_wp2_with fail
          go_meet
          case rel => exact mid_of hO hR hB hB2 hV2 e1 e2 e3 HST.out HBX.out HRX.out
      case rest =>
        obtain ⟨A2, c2, hO3, hR3, hV3, e1, e2, e3, hB3⟩ := hcut
        go_wp2
        go_roundw
        case rel => exact ⟨j + 1, by omega, by go_num, A2, c2, hO3, hR3, hV3, e1, e2, .inr e3, hB3⟩
        case measure => simp [intOf]; omega
    · obtain rfl : j = k := by omega
      have h3 : ∀ u v, ((wr.setCell ⟨Rx, 0, none⟩ u).setCell ⟨Rx, 1, none⟩ v).cell? ⟨Rx, 0, none⟩ = some u ∧ ((wr.setCell ⟨Rx, 0, none⟩ u).setCell ⟨Rx, 1, none⟩ v).cell? ⟨Rx, 1, none⟩ = some v := fun u v => ⟨(hR.put2 u v).cell 0, (hR.put2 u v).cell 1⟩
      have h4 := h3 (.slice A' (n + j) c') (.int .i64 N)
      have h5 := h4.1
      have h6 := h4.2
      have hn1 : ¬ (j < m ∧ n + j < N) := by omega
      clear h3 h4
      have HE := Lib.hid hend
      clear hend
      by_cases hjm : j < m
      all_goals
        go_wp2
        refine bodyPost_ret (v := .tuple #[.agg #[.slice A' (n + j) c', .int .i64 N], .int .i64 j]) (by simp [results, Try.results9, go_sem, h5, h6]) rfl ?_
        have hx1 := HBX.out
        have hx2 := HRX.out
        have hBe := (hB.setCell (p := ⟨Rx, 0, none⟩) (by simp; omega) (.slice A' (n + j) c')).setCell (p := ⟨Rx, 1, none⟩) (by simp; omega) (.int .i64 N)
        refine ⟨A', c', rfl, ?_, hc1, hc3, ?_, hBe⟩
        · rcases hfar with ⟨h0, rfl⟩ | hfar
          · subst h0
            rw [List.take_zero, List.append_nil]
            exact h.below hBe
          · exact (hV.setCell (p := ⟨Rx, 0, none⟩) (fun x hx => by have := hfar x hx; simp; omega) _).setCell (p := ⟨Rx, 1, none⟩) (fun x hx => by have := hfar x hx; simp; omega) _
        · rcases hfar with ⟨h0, h1⟩ | hfar
          · exact .inl ⟨h0, h1⟩
          · exact .inr fun x hx => by have := hfar x hx; omega
end Go.Proofs.Yteiakpepdnhigaa.RInt
