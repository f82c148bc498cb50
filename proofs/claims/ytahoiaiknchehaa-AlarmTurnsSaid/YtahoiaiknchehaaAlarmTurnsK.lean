/- AlarmTurns, over whatever an alarm's calls answer. -/
import Derived.Test.YtahoiaiknchehaaAlarmLive
import Derived.Test.YtahoiaiknchehaaAlarmTurn
import Derived.Test.YtahoiaiknchehaaAlarmDeeds
import Derived.Test.YtahoiaiknchehaaRegion
import Derived.Test.YtahoiaiknchehaaRegionMore
set_option linter.unusedSimpArgs false
set_option linter.unusedVariables false
namespace Go.Proofs.Ytahoiaiknchehaa.Alarm
open Go.RowKit
def cellsU (o : Up5) : Array Value := #[.bool false, .bool o.u1, .bool o.u2, .bool o.u3, .bool o.u4, .bool o.u5]
theorem cellsU_get (o : Up5) (j : Nat) (hj : 1 ≤ j ∧ j ≤ 5) : (cellsU o)[j]? = some (.bool (o.get (j : Int))) := by
  rcases k_cases hj with rfl | rfl | rfl | rfl | rfl <;> rfl
theorem cellsU_set (o : Up5) (j : Nat) (hj : 1 ≤ j ∧ j ≤ 5) (q : Bool) : (cellsU o).setIfInBounds j (.bool q) = cellsU (o.set (j : Int) q) := by
  rcases k_cases hj with rfl | rfl | rfl | rfl | rfl <;> rfl
/-- The alarm; which of the five stand, in a block of their own. -/
structure Tn (Alm : World → Nat → St → Prop) (w : World) (b o : Nat) (s : St) (O : Up5) (W : World) : Prop where
  mr : Mr Alm w b s W
  box : Has W o 56 (cellsU O)
  ne_ : o ≠ b
  far : w.heap.size ≤ o
section
variable {Alm : World → Nat → St → Prop} (K : AlmKit Alm) {w W W' : World} {b o base : Nat} {s s' : St} {O O' : Up5} {V V' : Value} {E F : List Ot}
include K
theorem Tn.grow (h : Tn Alm w b o s O W) (hB : Below W.heap.size W W') : Tn Alm w b o s O W' := ⟨Mr.grow K h.mr hB, h.box.below hB h.box.lt, h.ne_, h.far⟩
omit K in
theorem Tn.pushed (h : Tn Alm w b o s O W) (hM : Mr Alm w b s' W') (hK : Kept [b] W W') : Tn Alm w b o s' O W' := ⟨hM, hK.has h.box (by simp; exact h.ne_), h.ne_, h.far⟩
theorem Tn.late (h : Tn Alm w b o s O W) {T : List Nat} (hK : Kept T W W') (hT : ∀ k ∈ T, w.heap.size ≤ k ∧ k ≠ b ∧ k ≠ o) : Tn Alm w b o s O W' :=
  ⟨Mr.late K h.mr hK (fun k hk => ⟨(hT k hk).1, (hT k hk).2.1⟩), hK.has h.box (fun hk => (hT o hk).2.2 rfl), h.ne_, h.far⟩
theorem Tn.set (h : Tn Alm w b o s O W) (j : Nat) (hj : 1 ≤ j ∧ j ≤ 5) (q : Bool) : Tn Alm w b o s (O.set (j : Int) q) (W.setCell ⟨o, j, none⟩ (.bool q)) := by
  have hK : Kept [o] W (W.setCell ⟨o, j, none⟩ (.bool q)) := (Kept.refl [o] W).setCell (p := ⟨o, j, none⟩) (.inl (by simp)) _
  refine ⟨Mr.late K h.mr hK (fun k hk => by simp at hk; subst hk; exact ⟨h.far, h.ne_⟩), ?_, h.ne_, h.far⟩
  have h9 := h.box.set_ j (.bool q)
  rwa [cellsU_set O j hj q] at h9
omit K in
theorem Tn.cell (h : Tn Alm w b o s O W) (j : Nat) (hj : 1 ≤ j ∧ j ≤ 5) : W.cell? ⟨o, j, none⟩ = some (.bool (O.get (j : Int))) := by rw [h.box.cell j, cellsU_get O j hj]
end
/-- Beside them a row of outs of its own. -/
structure Tr (Alm : World → Nat → St → Prop) (w : World) (b o base : Nat) (s : St) (O : Up5) (V : Value) (E : List Ot) (W : World) : Prop where
  tn : Tn Alm w b o s O W
  own : W.ownsRow base 53 4 V E.length (Row.flat otS E)
  lo : b < base ∧ o < base
  hi : base ≤ W.heap.size
section
variable {Alm : World → Nat → St → Prop} (K : AlmKit Alm) {w W W' : World} {b o base : Nat} {s s' : St} {O O' : Up5} {V V' : Value} {E F : List Ot}
include K
theorem Tr.grow (h : Tr Alm w b o base s O V E W) (hB : Below W.heap.size W W') : Tr Alm w b o base s O V E W' :=
  ⟨h.tn.grow K hB, own_kept h.own (Kept.of_below (S := []) hB) (by simp), h.lo, Nat.le_trans h.hi hB.size⟩
omit K in
theorem Tr.pushed (h : Tr Alm w b o base s O V E W) (hM : Mr Alm w b s' W') (hK : Kept [b] W W') : Tr Alm w b o base s' O V E W' :=
  ⟨h.tn.pushed hM hK, own_kept h.own hK (fun k hk => by simp at hk; have := h.lo; omega), h.lo, Nat.le_trans h.hi hK.size⟩
theorem Tr.set (h : Tr Alm w b o base s O V E W) (j : Nat) (hj : 1 ≤ j ∧ j ≤ 5) (q : Bool) : Tr Alm w b o base s (O.set (j : Int) q) V E (W.setCell ⟨o, j, none⟩ (.bool q)) := by
  have hK : Kept [o] W (W.setCell ⟨o, j, none⟩ (.bool q)) := (Kept.refl [o] W).setCell (p := ⟨o, j, none⟩) (.inl (by simp)) _
  exact ⟨h.tn.set K j hj q, own_kept h.own hK (fun k hk => by simp at hk; have := h.lo; omega), h.lo, Nat.le_trans h.hi hK.size⟩
theorem Tr.grown (h : Tr Alm w b o base s O V E W) (ho : W'.ownsRow base 53 4 V' (E.length + F.length) (Row.flat otS (E ++ F))) (hg : W.grownBy W' V.ownBlock) : Tr Alm w b o base s O V' (E ++ F) W' :=
  ⟨h.tn.late K (Kept.of_grown hg) (fun k hk => by have h1 := own_in h.own k hk; have := h.lo; have := h.tn.mr.far; omega), by rw [List.length_append]; exact ho, h.lo, Nat.le_trans h.hi (Kept.of_grown hg).size⟩
end
/-- Within a deed: what was told of it, too. -/
structure Ti (Alm : World → Nat → St → Prop) (w : World) (b o : Nat) (s : St) (O : Up5) (A : Option Addr) (E : List Ot) (W : World) : Prop where
  tn : Tn Alm w b o s O W
  row : Row.Vals otS W A E.length E
  off : ∀ x, A = some x → x.block ≠ o
section
variable {Alm : World → Nat → St → Prop} (K : AlmKit Alm) {w W W' : World} {b o : Nat} {s : St} {O : Up5} {A : Option Addr} {E : List Ot}
include K
theorem Ti.grow (h : Ti Alm w b o s O A E W) (hB : Below W.heap.size W W') : Ti Alm w b o s O A E W' := ⟨h.tn.grow K hB, h.row.below hB, h.off⟩
theorem Ti.set (h : Ti Alm w b o s O A E W) (j : Nat) (hj : 1 ≤ j ∧ j ≤ 5) (q : Bool) : Ti Alm w b o s (O.set (j : Int) q) A E (W.setCell ⟨o, j, none⟩ (.bool q)) := by
  have hK : Kept [o] W (W.setCell ⟨o, j, none⟩ (.bool q)) := (Kept.refl [o] W).setCell (p := ⟨o, j, none⟩) (.inl (by simp)) _
  exact ⟨h.tn.set K j hj q, h.row.kept hK (fun _ x hx hk => h.off x hx (by simpa using hk)), h.off⟩
end
section
variable {Alm : World → Nat → St → Prop} (K : AlmKit Alm) {w W : World} {b g : Nat} {s : St} {q : Bool}
include K
theorem stands_at (h : Mr Alm w b s W) (hq : (s.get g).stands = q) : Calls Try.prog 17 #[.pointer (some ⟨b, 0, none⟩), .int .i64 (g : Nat)] W fun e w' => e = .returned (.bool q) ∧ Below W.heap.size W w' := by
  refine (K.stands_any W b s g h.alm).mono ?_
  rintro e w' ⟨rfl, hB⟩
  exact ⟨by rw [getZ_nat, hq], hB⟩
end
set_option maxRecDepth 100000 in
set_option maxHeartbeats 8000000 in
theorem turns_k {Alm : World → Nat → St → Prop} (K : AlmKit Alm) (a0 : Int) (a1 : Option Addr) (len1 cap1 : Nat) (w : World) (w0 : (Lit.int .u16 a0).wf = true) (w1 : IsDeeds w a1 len1 cap1) :
    Calls Try.prog 5 #[.int .u16 a0, .slice a1 len1 cap1] w fun e w' => e = .returned (.bool true) ∧ Below w.heap.size w w' := by
  have hInfo : (Try.prog.info? 53).map (fun i => (i.zero, i.size, i.bytes)) = some (some (.agg #[.int .i64 0, .int .i64 0, .int .i64 0, .int .i64 0]), 4, 32) := by kernel_rfl
  have HInfo := Lib.hid hInfo
  clear hInfo
  have hli := fun W => live_k K W
  have hb0 := bounds_u16 w0
  obtain ⟨n0, hn0⟩ : ∃ n0 : Int, 1 + a0 = n0 := ⟨_, rfl⟩
  have hnew := fun W => K.new_yes W n0 (by omega)
  have hwr0 : IntKind.i64.wrap n0 = n0 := by rw [IntKind.wrap_i64]; omega
  obtain ⟨p, hp⟩ : ∃ p, min len1 60 = p := ⟨_, rfl⟩
  have hD : len1 ≤ cap1 ∧ cap1 ≤ 9223372036854775807 := by
    rcases w1 with ⟨_, rfl, rfl⟩ | ⟨x, _, h1, h2, _⟩
    · omega
    · unfold maxLen at h2; omega
  have hlc := hD.1
  have hcm := hD.2
  have hminA : (if (60 : Int) < (len1 : Int) then (60 : Int) else (len1 : Int)) = (p : Int) := by split <;> omega
  have hpl : (p : Int) ≤ (len1 : Int) ∧ (p : Int) ≤ (cap1 : Int) := by omega
  have hDs : p ≤ cap1 ∧ (0 < p → ∃ x, a1 = some x ∧ ∀ r, r < p → ∃ D A L C N B M E z1 z2, w.cell? (x.add (r * 4)) = some (.int .i64 D) ∧ w.cell? (x.add (r * 4 + 1)) = some (.slice A L C) ∧ w.cell? (x.add (r * 4 + 2)) = some (.int .i64 N) ∧ w.cell? (x.add (r * 4 + 3)) = some (.slice B M E) ∧
    (Lit.int .i64 D).wf = true ∧ Row.IsFlat cdS CdOk w A L C z1 ∧ (Lit.int .i64 N).wf = true ∧ Row.IsFlat orS OrOk w B M E z2) := by
    rcases w1 with ⟨_, rfl, rfl⟩ | ⟨x, hx, h1, h2, h3⟩
    · exact ⟨by omega, fun h => by omega⟩
    · exact ⟨by omega, fun _ => ⟨x, hx, fun r hr => h3 r (by omega)⟩⟩
  have HD := Lib.hid hDs.2
  clear w1 hp hD hDs w0
  go_enter Try.func5, Try.ntmps5
  go_upto_region 4 with (first
    | (go_at_call 8; ((with_reducible refine (hnew _).mono ?_); rintro e W1 ⟨b, rfl, hP, hfar, hB1⟩; have hM1 : Mr Alm w b (st0 n0) W1 := ⟨hP, hB1, hfar⟩)))
  have hT0 : Tn Alm w b W1.heap.size (st0 n0) no5 (W1.alloc (.cells #[.bool false, .bool false, .bool false, .bool false, .bool false, .bool false] 56)) :=
    ⟨Mr.alloc K hM1 _, Has.new W1 _ _, by have := K.lt hM1.alm; omega, hM1.below.size⟩
  clear hP hfar hB1 hM1 hnew hwr0 hb0
  go_wp2
  generalize W1.alloc (.cells #[.bool false, .bool false, .bool false, .bool false, .bool false, .bool false] 56) = W2 at *
  generalize W1.heap.size = o at *
  clear hn0
  have HM := Lib.hid hminA
  clear hminA
  go_loopw [30] (fun i wr => ∃ (k : Nat) (s : St), k ≤ p ∧ i = .int .i64 (k : Nat) ∧ Ok s ∧ Tn Alm w b o s (upT s) wr) (fun i _ => p - (intOf i).toNat)
  case atStart => exact ⟨0, st0 n0, by omega, rfl, ok_st0 n0, hT0⟩
  case round =>
    clear hT0
    obtain ⟨k, s, hk, rfl, hO, hT⟩ := hrel
    by_cases hkp : k < p
    · obtain ⟨x, hx, hall⟩ := HD.out (by omega)
      obtain ⟨D, A, L, C, N, B, M, C2, z1, z2, c0, c1, c2, c3, g0, g1, g2, g3⟩ := hall k hkp
      subst hx
      clear hall
      have hcell := fun p u (h : w.cell? p = some u) => (hT.mr.below.cell (World.block_lt_of_cell? _ _ h)).trans h
      replace c0 := hcell _ _ c0
      replace c1 := hcell _ _ c1
      replace c2 := hcell _ _ c2
      replace c3 := hcell _ _ c3
      clear hcell
      have hkz : (k : Int) < (p : Int) := by omega
      rw [← RI64.addr_add] at c1 c2 c3
      replace c1 : wr.cell? ⟨(x.add (k * 4)).block, (x.add (k * 4)).off + 1, none⟩ = _ := c1
      replace c2 : wr.cell? ⟨(x.add (k * 4)).block, (x.add (k * 4)).off + 2, none⟩ = _ := c2
      replace c3 : wr.cell? ⟨(x.add (k * 4)).block, (x.add (k * 4)).off + 3, none⟩ = _ := c3
      obtain ⟨q1, hq1⟩ : ∃ q1, min L 8 = q1 := ⟨_, rfl⟩
      obtain ⟨q2, hq2⟩ : ∃ q2, min M 8 = q2 := ⟨_, rfl⟩
      have hmB : (if (8 : Int) < (L : Int) then (8 : Int) else (L : Int)) = (q1 : Int) := by split <;> omega
      have hmC : (if (8 : Int) < (M : Int) then (8 : Int) else (M : Int)) = (q2 : Int) := by split <;> omega
      have e1 := g1.le
      have e2 := g1.max
      have e3 := g3.le
      have e4 := g3.max
      have e5 : (q1 : Int) ≤ (L : Int) ∧ (q1 : Int) ≤ (C : Int) := by omega
      have e6 : (q2 : Int) ≤ (M : Int) ∧ (q2 : Int) ≤ (C2 : Int) := by omega
      have e7 : q1 ≤ 8 ∧ q2 ≤ 8 := by omega
      have hTb := hT.grow K ((Below.refl _ wr).alloc (Nat.le_refl _) (.cells #[.int .i64 D, .slice A L C, .int .i64 N, .slice B M C2] 36))
      have hZ := Has.new wr 36 #[.int .i64 D, .slice A L C, .int .i64 N, .slice B M C2]
      have hV1 := (g1.row.take q1 (by omega)).below hTb.mr.below
      have hV2 := (g3.row.take q2 (by omega))
      have hf1 : 0 < q1 → ∀ y, A = some y → y.block ≠ b := fun h0 y hy hk => by have := g1.far (by omega) y hy; have := hTb.mr.far; omega
      have hf2 : 0 < q2 → ∀ y, B = some y → y.block ≠ b := fun h0 y hy hk => by have := g3.far (by omega) y hy; have := hTb.mr.far; omega
      have hcd := Mr.conds K hTb.mr A q1 C (z1.take q1) hV1 (by omega) hf1
      have hbz : b < wr.heap.size ∧ o < wr.heap.size := ⟨K.lt hT.mr.alm, hT.box.lt⟩
      have hs8 : (wr.alloc (.cells #[.int .i64 D, .slice A L C, .int .i64 N, .slice B M C2] 36)).heap.size = wr.heap.size + 1 := World.size_alloc _ _
      have HT1 := Lib.hid (told_conds (z1.take q1) hO)
      have HO1 := Lib.hid (ok_conds (z1.take q1) hO)
      have HLen1 := Lib.hid (show (condsT s (z1.take q1)).2.length ≤ 8 by have h1 := conds_len (z1.take q1) s; rw [List.length_take] at h1; omega)
      have HKP := Lib.hid (And.intro hkp hk)
      have HV2 := Lib.hid hV2
      have HF2 := Lib.hid hf2
      clear hV1 hf1 hV2 hf2 hO hkp hk g0 g1 g2 g3 hq1 hq2 hT
      generalize condsT s (z1.take q1) = r1 at *
      obtain ⟨s1, E1⟩ := r1
      go_upto_region 9 with (first
        | (go_at_call 10; ((with_reducible refine hcd.mono ?_); rintro e W3 ⟨V3, rfl, hO3, hM3, hK3⟩; have hR3 : Tr Alm w b o (wr.alloc (.cells #[.int .i64 D, .slice A L C, .int .i64 N, .slice B M C2] 36)).heap.size s1 (upT s) V3 E1 W3 := ⟨hTb.pushed hM3 hK3, hO3, by omega, hK3.size⟩; have hZ3 := hK3.has hZ (by simp; omega); obtain ⟨A3, d3, rfl, _, _, _, _, _⟩ := Row.Vals.own hO3; clear hO3 hM3 hK3)))
      have hzb : wr.heap.size < (wr.alloc (.cells #[.int .i64 D, .slice A L C, .int .i64 N, .slice B M C2] 36)).heap.size := by omega
      generalize (wr.alloc (.cells #[.int .i64 D, .slice A L C, .int .i64 N, .slice B M C2] 36)).heap.size = base at *
      generalize wr.heap.size = z at *
      have hR4 := hR3.grow K (below_drewN (Below.refl _ W3) 1)
      have hZ4 : Has W3.drew z 36 #[.int .i64 D, .slice A L C, .int .i64 N, .slice B M C2] := hZ3
      change Tr Alm w b o base s1 (upT s) _ E1 W3.drew at hR4
      clear hR3 hZ3 hTb hZ hcd hs8 c0 c1 c2 c3
      refine Reg.begin_ (S := fun W => W.cell? ⟨z, 2, none⟩ = some (.int .i64 N) ∧ W.cell? ⟨z, 3, none⟩ = some (.slice B M C2)) (by kernel_rfl) (by exact ⟨hZ4.cell 2, hZ4.cell 3⟩) (fun hHeld => ?_)
      refine Reg.take (i := 0) (v := ?v1) rfl (by kernel_rfl) (by kernel_rfl) (by kernel_rfl) (by rfl) ?hv1 (by assumption) ?rest1
      case hv1 => first | (intro w hSw; (try dsimp only at hSw); go_simp; done) | (intro w hSw; (try dsimp only at hSw); go_simp; with_reducible rfl)
      (try simp only [Act.put, List.setIfInBounds_toArray, List.set_cons_zero, List.set_cons_succ])
      refine Reg.take (i := 1) (v := ?v2) rfl (by kernel_rfl) (by kernel_rfl) (by kernel_rfl) (by rfl) ?hv2 (by assumption) ?rest2
      case hv2 => first | (intro w hSw; (try dsimp only at hSw); go_simp; done) | (intro w hSw; (try dsimp only at hSw); go_simp; with_reducible rfl)
      (try simp only [Act.put, List.setIfInBounds_toArray, List.set_cons_zero, List.set_cons_succ])
      refine Reg.take (i := 2) (v := ?v3) rfl (by kernel_rfl) (by kernel_rfl) (by kernel_rfl) (by rfl) ?hv3 (by assumption) ?rest3
      case hv3 => first | (intro w hSw; (try dsimp only at hSw); go_simp; done) | (intro w hSw; (try dsimp only at hSw); go_simp; with_reducible rfl)
      (try simp only [Act.put, List.setIfInBounds_toArray, List.set_cons_zero, List.set_cons_succ])
      refine Reg.take (i := 3) (v := ?v4) rfl (by kernel_rfl) (by kernel_rfl) (by kernel_rfl) (by rfl) ?hv4 (by assumption) ?rest4
      case hv4 => first | (intro w hSw; (try dsimp only at hSw); go_simp; done) | (intro w hSw; (try dsimp only at hSw); go_simp; with_reducible rfl)
      (try simp only [Act.put, List.setIfInBounds_toArray, List.set_cons_zero, List.set_cons_succ])
      refine Reg.take (i := 4) (v := ?v5) rfl (by kernel_rfl) (by kernel_rfl) (by kernel_rfl) (by rfl) ?hv5 (by assumption) ?rest5
      case hv5 => first | (intro w hSw; (try dsimp only at hSw); go_simp; done) | (intro w hSw; (try dsimp only at hSw); go_simp; with_reducible rfl)
      (try simp only [Act.put, List.setIfInBounds_toArray, List.set_cons_zero, List.set_cons_succ])
      refine Reg.take (i := 5) (v := ?v6) rfl (by kernel_rfl) (by kernel_rfl) (by kernel_rfl) (by rfl) ?hv6 (by assumption) ?rest6
      case hv6 => first | (intro w hSw; (try dsimp only at hSw); go_simp; done) | (intro w hSw; (try dsimp only at hSw); go_simp; with_reducible rfl)
      (try simp only [Act.put, List.setIfInBounds_toArray, List.set_cons_zero, List.set_cons_succ])
      refine Reg.take (i := 6) (v := ?v7) rfl (by kernel_rfl) (by kernel_rfl) (by kernel_rfl) (by rfl) ?hv7 (by assumption) ?rest7
      case hv7 => first | (intro w hSw; (try dsimp only at hSw); go_simp; done) | (intro w hSw; (try dsimp only at hSw); go_simp; with_reducible rfl)
      (try simp only [Act.put, List.setIfInBounds_toArray, List.set_cons_zero, List.set_cons_succ])
      refine Reg.take (i := 7) (v := ?v8) rfl (by kernel_rfl) (by kernel_rfl) (by kernel_rfl) (by rfl) ?hv8 (by assumption) ?rest8
      case hv8 => first | (intro w hSw; (try dsimp only at hSw); go_simp; done) | (intro w hSw; (try dsimp only at hSw); go_simp; with_reducible rfl)
      (try simp only [Act.put, List.setIfInBounds_toArray, List.set_cons_zero, List.set_cons_succ])
      refine Reg.take (i := 8) (v := ?v9) rfl (by kernel_rfl) (by kernel_rfl) (by kernel_rfl) (by rfl) ?hv9 (by assumption) ?rest9
      case hv9 => first | (intro w hSw; (try dsimp only at hSw); go_simp; done) | (intro w hSw; (try dsimp only at hSw); go_simp; with_reducible rfl)
      (try simp only [Act.put, List.setIfInBounds_toArray, List.set_cons_zero, List.set_cons_succ])
      refine Reg.take (i := 9) (v := ?v10) rfl (by kernel_rfl) (by kernel_rfl) (by kernel_rfl) (by rfl) ?hv10 (by assumption) ?rest10
      case hv10 => first | (intro w hSw; (try dsimp only at hSw); go_simp; done) | (intro w hSw; (try dsimp only at hSw); go_simp; with_reducible rfl)
      (try simp only [Act.put, List.setIfInBounds_toArray, List.set_cons_zero, List.set_cons_succ])
      refine Reg.take (i := 10) (v := ?v11) rfl (by kernel_rfl) (by kernel_rfl) (by kernel_rfl) (by rfl) ?hv11 (by assumption) ?rest11
      case hv11 => first | (intro w hSw; (try dsimp only at hSw); go_simp; done) | (intro w hSw; (try dsimp only at hSw); go_simp; with_reducible rfl)
      (try simp only [Act.put, List.setIfInBounds_toArray, List.set_cons_zero, List.set_cons_succ])
      clear hHeld
      generalize W3.drew = W4 at *
      have htk := Mr.tick K hR4.tn.mr N B q2 C2 (z2.take q2) (HV2.out.below hR4.tn.mr.below) (by omega) HF2.out
      have HT2 := Lib.hid (told_append HT1.out (told_tick s1 N (z2.take q2)))
      have HO2 := Lib.hid (ok_tick HO1.out N (z2.take q2))
      have HL := Lib.hid (show E1.length + (tickT s1 N (z2.take q2)).2.length ≤ 1000 by
        have h1 := HLen1.out
        have h2 := tick_len s1 N (z2.take q2)
        rw [List.length_take] at h2
        omega)
      generalize tickT s1 N (z2.take q2) = r2 at *
      obtain ⟨s2, E2⟩ := r2
      refine Reg.call (i := 11) rfl (by kernel_rfl) (by rfl) ?_
      intro K1 hK1
      go_simp
      go_at_call 12
      ((with_reducible refine htk.mono ?_); rintro e W5 ⟨V5, rfl, hO5, hM5, hK5⟩)
      (try dsimp only at hO5 hM5)
      have hR5 := hR4.pushed hM5 hK5
      have hZ5 := hK5.has hZ4 (by simp; omega)
      obtain ⟨A5, d5, rfl, _, _, hV5, _, _⟩ := Row.Vals.own hO5
      clear hO5 hM5 hK5 htk hR4 hZ4
      refine hK1.out _ _ (by exact ⟨hZ5.cell 2, hZ5.cell 3⟩) (fun hHeld => ?_)
      clear hK1 K1
      (try simp only [Act.put, List.setIfInBounds_toArray, List.set_cons_zero, List.set_cons_succ])
      clear hHeld
      have hLL := HL.out
      dsimp only at hLL
      refine Reg.call (i := 12) rfl (by kernel_rfl) (by rfl) ?_
      intro K1 hK1
      refine Row.wp_append (S := otS) (.tmp 43) (.tmp 54) _ rfl base 53 _ 32 (by omega) Try.underlying37 HInfo.out (by kernel_rfl) _ E1.length E1 rfl hR5.own A5 E2.length d5 E2 rfl hV5 (by omega) hR5.hi ?_
      intro V6 W6 hO6 hg6 hat6
      have hR6 := Tr.grown K hR5 hO6 hg6
      have hZ6 := (Kept.of_grown hg6).has hZ5 (own_apart hR5.own hzb)
      obtain ⟨A6, d6, rfl, _, _, hV6, hf6, _⟩ := Row.Vals.own hO6
      clear hO6 hg6 hat6 hR5 hZ5 hV5
      refine hK1.out _ _ (by exact ⟨hZ6.cell 2, hZ6.cell 3⟩) (fun hHeld => ?_)
      clear hK1 K1
      (try simp only [Act.put, List.setIfInBounds_toArray, List.set_cons_zero, List.set_cons_succ])
      refine Reg.take (i := 13) (v := ?v12) rfl (by kernel_rfl) (by kernel_rfl) (by kernel_rfl) (by rfl) ?hv12 (by assumption) ?rest12
      case hv12 => first | (intro w hSw; (try dsimp only at hSw); go_simp; done) | (intro w hSw; (try dsimp only at hSw); go_simp; with_reducible rfl)
      (try simp only [Act.put, List.setIfInBounds_toArray, List.set_cons_zero, List.set_cons_succ])
      refine Reg.done (by kernel_rfl) ?_ _
      have hLL9 := hLL
      clear hHeld hZ6 hmC hmB e1 e2 e3 e4 e5 e6 e7 hLL
      have HTold := Lib.hid (show Told (upT s) (E1 ++ E2) (upT s2) from HT2.out)
      have HOk := Lib.hid (show Ok s2 from HO2.out)
      have hlen : E1.length + E2.length = (E1 ++ E2).length := by rw [List.length_append]
      have hI0 : Ti Alm w b o s2 (upT s) A6 (E1 ++ E2) W6 := ⟨hR6.tn, by rw [← hlen]; exact hV6, fun y hy => by have h1 := (hf6 y hy).1; have h2 := hR6.lo; omega⟩
      have hEl : (E1 ++ E2).length ≤ 1000 := by rw [← hlen]; exact hLL9
      clear hR6 hV6 hf6 HT2 HO2 HT1 HO1 HV2 HF2 HLen1 HL hbz hzb
      rw [hlen]
      clear hlen
      generalize E1 ++ E2 = E at *
      have hTd := HTold.out
      go_wp2
      go_loopw [58] (fun i wr2 => ∃ (y : Nat) (O : Up5), y ≤ E.length ∧ i = .int .i64 (y : Nat) ∧ Told O (E.drop y) (upT s2) ∧ Ti Alm w b o s2 O A6 E wr2) (fun i _ => E.length - (intOf i).toNat)
      case atStart => exact ⟨0, upT s, by omega, rfl, hTd, hI0⟩
      case round =>
        clear hI0 hTd
        obtain ⟨y, O, hy, rfl, hTd, hI⟩ := hrel
        by_cases hyE : y < E.length
        · obtain ⟨x6, rfl, _⟩ := hI.row.cells (by omega)
          obtain ⟨c0, c1, c2, c3⟩ := ot_cells hI.row y hyE
          obtain ⟨hfi, hnx⟩ := told_drop hTd hyE
          have hyz : (y : Int) < (E.length : Int) := by omega
          obtain ⟨ot, hot⟩ : ∃ ot, E.getD y noOt = ot := ⟨_, rfl⟩
          rw [hot] at c0 c1 c2 c3 hfi hnx
          clear hot hTd
          obtain ⟨o1, o2, o3, o4⟩ := ot
          unfold fineT at hfi
          unfold nextT at hnx
          dsimp only at c0 c1 c2 c3 hfi hnx
          have hI1 := hI.grow K ((Below.refl _ wr).alloc (Nat.le_refl _) (.cells #[.int .i64 o1, .int .i64 o2, .int .i64 o3, .int .i64 o4] 53))
          have hX1 := Has.new wr 53 #[.int .i64 o1, .int .i64 o2, .int .i64 o3, .int .i64 o4]
          have HY := Lib.hid hyE
          clear hI
          by_cases h87 : o1 = 8 ∨ o1 = 7
          · rw [if_pos h87] at hfi hnx
            subst hfi
            have HNX := Lib.hid hnx
            clear hnx
            rcases h87 with rfl | rfl
            · go_wp2
              go_roundw
              case rel => exact ⟨y + 1, O, by have := HY.out; omega, by go_num, HNX.out, hI1⟩
              case measure => have := HY.out; simp [intOf]; omega
            · go_wp2
              go_roundw
              case rel => exact ⟨y + 1, O, by have := HY.out; omega, by go_num, HNX.out, hI1⟩
              case measure => have := HY.out; simp [intOf]; omega
          · rw [if_neg h87] at hfi hnx
            obtain ⟨hj, hget⟩ := hfi
            obtain ⟨j, rfl⟩ : ∃ j : Nat, o3 = (j : Int) := ⟨o3.toNat, by omega⟩
            have h8 : ¬ o1 = 8 := fun h => h87 (.inl h)
            have h7 : ¬ o1 = 7 := fun h => h87 (.inr h)
            have b8 : (o1 == 8) = false := by simpa using h8
            have b7 : (o1 == 7) = false := by simpa using h7
            have hj5 : 1 ≤ j ∧ j ≤ 5 := by omega
            have hj6 : j < 6 := by omega
            have hj7 : 0 ≤ (j : Int) ∧ (j : Int) < 6 := by omega
            have hj1 : decide ((j : Int) < 1) = false := decide_eq_false (by omega)
            have hj2 : decide ((5 : Int) < (j : Int)) = false := decide_eq_false (by omega)
            clear h87 hj
            by_cases h2 : o1 = 2
            · subst h2
              rw [if_pos (.inl rfl), show decide ((2 : Int) = 2) = true from rfl] at hnx
              rw [show (!decide ((2 : Int) = 2)) = false from rfl] at hget
              have HNX := Lib.hid hnx
              clear hnx
              go_upto_region 16 with (fail)
              generalize wr.alloc (.cells #[.int .i64 2, .int .i64 o2, .int .i64 (j : Nat), .int .i64 o4] 53) = W7 at *
              generalize wr.heap.size = h9 at *
              have hI2 := hI1.grow K (below_drewN (Below.refl _ W7) 1)
              have hX2 : Has W7.drew h9 53 #[.int .i64 2, .int .i64 o2, .int .i64 (j : Nat), .int .i64 o4] := hX1
              change Ti Alm w b o s2 O (some x6) E W7.drew at hI2
              have d0 := hI2.tn.cell j hj5
              rw [hget] at d0
              refine Reg.begin_ (S := fun W => W.cell? ⟨o, j, none⟩ = some (.bool (false)) ∧ W.cell? ⟨h9, 0, none⟩ = some (.int .i64 2) ∧ W.cell? ⟨h9, 2, none⟩ = some (.int .i64 (j : Nat))) (by kernel_rfl) (by exact ⟨d0, hX2.cell 0, hX2.cell 2⟩) (fun hHeld => ?_)
              refine Reg.take (i := 0) (v := ?v13) rfl (by kernel_rfl) (by kernel_rfl) (by kernel_rfl) (by rfl) ?hv13 (by assumption) ?rest13
              case hv13 => first | (intro w hSw; (try dsimp only at hSw); go_simp; done) | (intro w hSw; (try dsimp only at hSw); go_simp; with_reducible rfl)
              (try simp only [Act.put, List.setIfInBounds_toArray, List.set_cons_zero, List.set_cons_succ])
              refine Reg.take (i := 1) (v := ?v14) rfl (by kernel_rfl) (by kernel_rfl) (by kernel_rfl) (by rfl) ?hv14 (by assumption) ?rest14
              case hv14 => first | (intro w hSw; (try dsimp only at hSw); go_simp; done) | (intro w hSw; (try dsimp only at hSw); go_simp; with_reducible rfl)
              (try simp only [Act.put, List.setIfInBounds_toArray, List.set_cons_zero, List.set_cons_succ])
              refine Reg.take (i := 2) (v := ?v15) rfl (by kernel_rfl) (by kernel_rfl) (by kernel_rfl) (by rfl) ?hv15 (by assumption) ?rest15
              case hv15 => first | (intro w hSw; (try dsimp only at hSw); go_simp; done) | (intro w hSw; (try dsimp only at hSw); go_simp; with_reducible rfl)
              (try simp only [Act.put, List.setIfInBounds_toArray, List.set_cons_zero, List.set_cons_succ])
              refine Reg.take (i := 3) (v := ?v16) rfl (by kernel_rfl) (by kernel_rfl) (by kernel_rfl) (by rfl) ?hv16 (by assumption) ?rest16
              case hv16 => first | (intro w hSw; (try dsimp only at hSw); go_simp; done) | (intro w hSw; (try dsimp only at hSw); go_simp; with_reducible rfl)
              (try simp only [Act.put, List.setIfInBounds_toArray, List.set_cons_zero, List.set_cons_succ])
              refine Reg.take (i := 4) (v := ?v17) rfl (by kernel_rfl) (by kernel_rfl) (by kernel_rfl) (by rfl) ?hv17 (by assumption) ?rest17
              case hv17 => first | (intro w hSw; (try dsimp only at hSw); go_simp; done) | (intro w hSw; (try dsimp only at hSw); go_simp; with_reducible rfl)
              (try simp only [Act.put, List.setIfInBounds_toArray, List.set_cons_zero, List.set_cons_succ])
              refine Reg.take (i := 5) (v := ?v18) rfl (by kernel_rfl) (by kernel_rfl) (by kernel_rfl) (by rfl) ?hv18 (by assumption) ?rest18
              case hv18 => first | (intro w hSw; (try dsimp only at hSw); go_simp; done) | (intro w hSw; (try dsimp only at hSw); go_simp; with_reducible rfl)
              (try simp only [Act.put, List.setIfInBounds_toArray, List.set_cons_zero, List.set_cons_succ])
              refine Reg.take (i := 6) (v := ?v19) rfl (by kernel_rfl) (by kernel_rfl) (by kernel_rfl) (by rfl) ?hv19 (by assumption) ?rest19
              case hv19 => first | (intro w hSw; (try dsimp only at hSw); go_simp; done) | (intro w hSw; (try dsimp only at hSw); go_simp; with_reducible rfl)
              (try simp only [Act.put, List.setIfInBounds_toArray, List.set_cons_zero, List.set_cons_succ])
              refine Reg.take (i := 7) (v := ?v20) rfl (by kernel_rfl) (by kernel_rfl) (by kernel_rfl) (by rfl) ?hv20 (by assumption) ?rest20
              case hv20 => first | (intro w hSw; (try dsimp only at hSw); go_simp; done) | (intro w hSw; (try dsimp only at hSw); go_simp; with_reducible rfl)
              (try simp only [Act.put, List.setIfInBounds_toArray, List.set_cons_zero, List.set_cons_succ])
              refine Reg.take (i := 8) (v := ?v21) rfl (by kernel_rfl) (by kernel_rfl) (by kernel_rfl) (by rfl) ?hv21 (by assumption) ?rest21
              case hv21 => first | (intro w hSw; (try dsimp only at hSw); go_simp; done) | (intro w hSw; (try dsimp only at hSw); go_simp; with_reducible rfl)
              (try simp only [Act.put, List.setIfInBounds_toArray, List.set_cons_zero, List.set_cons_succ])
              refine Reg.take (i := 9) (v := ?v22) rfl (by kernel_rfl) (by kernel_rfl) (by kernel_rfl) (by rfl) ?hv22 (by assumption) ?rest22
              case hv22 => first | (intro w hSw; (try dsimp only at hSw); go_simp; done) | (intro w hSw; (try dsimp only at hSw); go_simp; with_reducible rfl)
              (try simp only [Act.put, List.setIfInBounds_toArray, List.set_cons_zero, List.set_cons_succ])
              refine Reg.take (i := 10) (v := ?v23) rfl (by kernel_rfl) (by kernel_rfl) (by kernel_rfl) (by rfl) ?hv23 (by assumption) ?rest23
              case hv23 => first | (intro w hSw; (try dsimp only at hSw); go_simp; done) | (intro w hSw; (try dsimp only at hSw); go_simp; with_reducible rfl)
              (try simp only [Act.put, List.setIfInBounds_toArray, List.set_cons_zero, List.set_cons_succ])
              refine Reg.take (i := 11) (v := ?v24) rfl (by kernel_rfl) (by kernel_rfl) (by kernel_rfl) (by rfl) ?hv24 (by assumption) ?rest24
              case hv24 => first | (intro w hSw; (try dsimp only at hSw); go_simp; done) | (intro w hSw; (try dsimp only at hSw); go_simp; with_reducible rfl)
              (try simp only [Act.put, List.setIfInBounds_toArray, List.set_cons_zero, List.set_cons_succ])
              refine Reg.take (i := 12) (v := ?v25) rfl (by kernel_rfl) (by kernel_rfl) (by kernel_rfl) (by rfl) ?hv25 (by assumption) ?rest25
              case hv25 => first | (intro w hSw; (try dsimp only at hSw); go_simp; done) | (intro w hSw; (try dsimp only at hSw); go_simp; with_reducible rfl)
              (try simp only [Act.put, List.setIfInBounds_toArray, List.set_cons_zero, List.set_cons_succ])
              refine Reg.take (i := 13) (v := ?v26) rfl (by kernel_rfl) (by kernel_rfl) (by kernel_rfl) (by rfl) ?hv26 (by assumption) ?rest26
              case hv26 => first | (intro w hSw; (try dsimp only at hSw); go_simp; done) | (intro w hSw; (try dsimp only at hSw); go_simp; with_reducible rfl)
              (try simp only [Act.put, List.setIfInBounds_toArray, List.set_cons_zero, List.set_cons_succ])
              refine Reg.take (i := 14) (v := ?v27) rfl (by kernel_rfl) (by kernel_rfl) (by kernel_rfl) (by rfl) ?hv27 (by assumption) ?rest27
              case hv27 => first | (intro w hSw; (try dsimp only at hSw); go_simp; done) | (intro w hSw; (try dsimp only at hSw); go_simp; with_reducible rfl)
              (try simp only [Act.put, List.setIfInBounds_toArray, List.set_cons_zero, List.set_cons_succ])
              refine Reg.take (i := 15) (v := ?v28) rfl (by kernel_rfl) (by kernel_rfl) (by kernel_rfl) (by rfl) ?hv28 (by assumption) ?rest28
              case hv28 => first | (intro w hSw; (try dsimp only at hSw); go_simp; done) | (intro w hSw; (try dsimp only at hSw); go_simp; with_reducible rfl)
              (try simp only [Act.put, List.setIfInBounds_toArray, List.set_cons_zero, List.set_cons_succ])
              refine Reg.take (i := 16) (v := ?v29) rfl (by kernel_rfl) (by kernel_rfl) (by kernel_rfl) (by rfl) ?hv29 (by assumption) ?rest29
              case hv29 => first | (intro w hSw; (try dsimp only at hSw); go_simp; done) | (intro w hSw; (try dsimp only at hSw); go_simp; with_reducible rfl)
              (try simp only [Act.put, List.setIfInBounds_toArray, List.set_cons_zero, List.set_cons_succ])
              refine Reg.take (i := 17) (v := ?v30) rfl (by kernel_rfl) (by kernel_rfl) (by kernel_rfl) (by rfl) ?hv30 (by assumption) ?rest30
              case hv30 => first | (intro w hSw; (try dsimp only at hSw); go_simp; done) | (intro w hSw; (try dsimp only at hSw); go_simp; with_reducible rfl)
              (try simp only [Act.put, List.setIfInBounds_toArray, List.set_cons_zero, List.set_cons_succ])
              refine Reg.done (by kernel_rfl) ?_ _
              clear hHeld d0 hI1 hX1
              generalize W7.drew = W8 at *
              have hI3 := hI2
              have x0 := hX2.cell 0
              have x2 := hX2.cell 2
              have f0 := hI3.tn.box.frozen j
              have d0 := hI3.tn.cell j hj5
              have hI4 := hI3.set K j hj5 true
              clear hI2
              go_wp2
              go_roundw
              case rel => exact ⟨y + 1, (O.set (j : Int) true), by have := HY.out; omega, by go_num, HNX.out, hI4⟩
              case measure => have := HY.out; simp [intOf]; omega
            · by_cases h3 : o1 = 3
              · subst h3
                rw [if_pos (.inr rfl), show decide ((3 : Int) = 2) = false from rfl] at hnx
                rw [show (!decide ((3 : Int) = 2)) = true from rfl] at hget
                have HNX := Lib.hid hnx
                clear hnx
                go_upto_region 16 with (fail)
                generalize wr.alloc (.cells #[.int .i64 3, .int .i64 o2, .int .i64 (j : Nat), .int .i64 o4] 53) = W7 at *
                generalize wr.heap.size = h9 at *
                have hI2 := hI1.grow K (below_drewN (Below.refl _ W7) 1)
                have hX2 : Has W7.drew h9 53 #[.int .i64 3, .int .i64 o2, .int .i64 (j : Nat), .int .i64 o4] := hX1
                change Ti Alm w b o s2 O (some x6) E W7.drew at hI2
                have d0 := hI2.tn.cell j hj5
                rw [hget] at d0
                refine Reg.begin_ (S := fun W => W.cell? ⟨o, j, none⟩ = some (.bool (true)) ∧ W.cell? ⟨h9, 0, none⟩ = some (.int .i64 3) ∧ W.cell? ⟨h9, 2, none⟩ = some (.int .i64 (j : Nat))) (by kernel_rfl) (by exact ⟨d0, hX2.cell 0, hX2.cell 2⟩) (fun hHeld => ?_)
                refine Reg.take (i := 0) (v := ?v31) rfl (by kernel_rfl) (by kernel_rfl) (by kernel_rfl) (by rfl) ?hv31 (by assumption) ?rest31
                case hv31 => first | (intro w hSw; (try dsimp only at hSw); go_simp; done) | (intro w hSw; (try dsimp only at hSw); go_simp; with_reducible rfl)
                (try simp only [Act.put, List.setIfInBounds_toArray, List.set_cons_zero, List.set_cons_succ])
                refine Reg.take (i := 1) (v := ?v32) rfl (by kernel_rfl) (by kernel_rfl) (by kernel_rfl) (by rfl) ?hv32 (by assumption) ?rest32
                case hv32 => first | (intro w hSw; (try dsimp only at hSw); go_simp; done) | (intro w hSw; (try dsimp only at hSw); go_simp; with_reducible rfl)
                (try simp only [Act.put, List.setIfInBounds_toArray, List.set_cons_zero, List.set_cons_succ])
                refine Reg.take (i := 2) (v := ?v33) rfl (by kernel_rfl) (by kernel_rfl) (by kernel_rfl) (by rfl) ?hv33 (by assumption) ?rest33
                case hv33 => first | (intro w hSw; (try dsimp only at hSw); go_simp; done) | (intro w hSw; (try dsimp only at hSw); go_simp; with_reducible rfl)
                (try simp only [Act.put, List.setIfInBounds_toArray, List.set_cons_zero, List.set_cons_succ])
                refine Reg.take (i := 3) (v := ?v34) rfl (by kernel_rfl) (by kernel_rfl) (by kernel_rfl) (by rfl) ?hv34 (by assumption) ?rest34
                case hv34 => first | (intro w hSw; (try dsimp only at hSw); go_simp; done) | (intro w hSw; (try dsimp only at hSw); go_simp; with_reducible rfl)
                (try simp only [Act.put, List.setIfInBounds_toArray, List.set_cons_zero, List.set_cons_succ])
                refine Reg.take (i := 4) (v := ?v35) rfl (by kernel_rfl) (by kernel_rfl) (by kernel_rfl) (by rfl) ?hv35 (by assumption) ?rest35
                case hv35 => first | (intro w hSw; (try dsimp only at hSw); go_simp; done) | (intro w hSw; (try dsimp only at hSw); go_simp; with_reducible rfl)
                (try simp only [Act.put, List.setIfInBounds_toArray, List.set_cons_zero, List.set_cons_succ])
                refine Reg.take (i := 5) (v := ?v36) rfl (by kernel_rfl) (by kernel_rfl) (by kernel_rfl) (by rfl) ?hv36 (by assumption) ?rest36
                case hv36 => first | (intro w hSw; (try dsimp only at hSw); go_simp; done) | (intro w hSw; (try dsimp only at hSw); go_simp; with_reducible rfl)
                (try simp only [Act.put, List.setIfInBounds_toArray, List.set_cons_zero, List.set_cons_succ])
                refine Reg.take (i := 6) (v := ?v37) rfl (by kernel_rfl) (by kernel_rfl) (by kernel_rfl) (by rfl) ?hv37 (by assumption) ?rest37
                case hv37 => first | (intro w hSw; (try dsimp only at hSw); go_simp; done) | (intro w hSw; (try dsimp only at hSw); go_simp; with_reducible rfl)
                (try simp only [Act.put, List.setIfInBounds_toArray, List.set_cons_zero, List.set_cons_succ])
                refine Reg.take (i := 7) (v := ?v38) rfl (by kernel_rfl) (by kernel_rfl) (by kernel_rfl) (by rfl) ?hv38 (by assumption) ?rest38
                case hv38 => first | (intro w hSw; (try dsimp only at hSw); go_simp; done) | (intro w hSw; (try dsimp only at hSw); go_simp; with_reducible rfl)
                (try simp only [Act.put, List.setIfInBounds_toArray, List.set_cons_zero, List.set_cons_succ])
                refine Reg.take (i := 8) (v := ?v39) rfl (by kernel_rfl) (by kernel_rfl) (by kernel_rfl) (by rfl) ?hv39 (by assumption) ?rest39
                case hv39 => first | (intro w hSw; (try dsimp only at hSw); go_simp; done) | (intro w hSw; (try dsimp only at hSw); go_simp; with_reducible rfl)
                (try simp only [Act.put, List.setIfInBounds_toArray, List.set_cons_zero, List.set_cons_succ])
                refine Reg.take (i := 9) (v := ?v40) rfl (by kernel_rfl) (by kernel_rfl) (by kernel_rfl) (by rfl) ?hv40 (by assumption) ?rest40
                case hv40 => first | (intro w hSw; (try dsimp only at hSw); go_simp; done) | (intro w hSw; (try dsimp only at hSw); go_simp; with_reducible rfl)
                (try simp only [Act.put, List.setIfInBounds_toArray, List.set_cons_zero, List.set_cons_succ])
                refine Reg.take (i := 10) (v := ?v41) rfl (by kernel_rfl) (by kernel_rfl) (by kernel_rfl) (by rfl) ?hv41 (by assumption) ?rest41
                case hv41 => first | (intro w hSw; (try dsimp only at hSw); go_simp; done) | (intro w hSw; (try dsimp only at hSw); go_simp; with_reducible rfl)
                (try simp only [Act.put, List.setIfInBounds_toArray, List.set_cons_zero, List.set_cons_succ])
                refine Reg.take (i := 11) (v := ?v42) rfl (by kernel_rfl) (by kernel_rfl) (by kernel_rfl) (by rfl) ?hv42 (by assumption) ?rest42
                case hv42 => first | (intro w hSw; (try dsimp only at hSw); go_simp; done) | (intro w hSw; (try dsimp only at hSw); go_simp; with_reducible rfl)
                (try simp only [Act.put, List.setIfInBounds_toArray, List.set_cons_zero, List.set_cons_succ])
                refine Reg.take (i := 12) (v := ?v43) rfl (by kernel_rfl) (by kernel_rfl) (by kernel_rfl) (by rfl) ?hv43 (by assumption) ?rest43
                case hv43 => first | (intro w hSw; (try dsimp only at hSw); go_simp; done) | (intro w hSw; (try dsimp only at hSw); go_simp; with_reducible rfl)
                (try simp only [Act.put, List.setIfInBounds_toArray, List.set_cons_zero, List.set_cons_succ])
                refine Reg.take (i := 13) (v := ?v44) rfl (by kernel_rfl) (by kernel_rfl) (by kernel_rfl) (by rfl) ?hv44 (by assumption) ?rest44
                case hv44 => first | (intro w hSw; (try dsimp only at hSw); go_simp; done) | (intro w hSw; (try dsimp only at hSw); go_simp; with_reducible rfl)
                (try simp only [Act.put, List.setIfInBounds_toArray, List.set_cons_zero, List.set_cons_succ])
                refine Reg.take (i := 14) (v := ?v45) rfl (by kernel_rfl) (by kernel_rfl) (by kernel_rfl) (by rfl) ?hv45 (by assumption) ?rest45
                case hv45 => first | (intro w hSw; (try dsimp only at hSw); go_simp; done) | (intro w hSw; (try dsimp only at hSw); go_simp; with_reducible rfl)
                (try simp only [Act.put, List.setIfInBounds_toArray, List.set_cons_zero, List.set_cons_succ])
                refine Reg.take (i := 15) (v := ?v46) rfl (by kernel_rfl) (by kernel_rfl) (by kernel_rfl) (by rfl) ?hv46 (by assumption) ?rest46
                case hv46 => first | (intro w hSw; (try dsimp only at hSw); go_simp; done) | (intro w hSw; (try dsimp only at hSw); go_simp; with_reducible rfl)
                (try simp only [Act.put, List.setIfInBounds_toArray, List.set_cons_zero, List.set_cons_succ])
                refine Reg.take (i := 16) (v := ?v47) rfl (by kernel_rfl) (by kernel_rfl) (by kernel_rfl) (by rfl) ?hv47 (by assumption) ?rest47
                case hv47 => first | (intro w hSw; (try dsimp only at hSw); go_simp; done) | (intro w hSw; (try dsimp only at hSw); go_simp; with_reducible rfl)
                (try simp only [Act.put, List.setIfInBounds_toArray, List.set_cons_zero, List.set_cons_succ])
                refine Reg.take (i := 17) (v := ?v48) rfl (by kernel_rfl) (by kernel_rfl) (by kernel_rfl) (by rfl) ?hv48 (by assumption) ?rest48
                case hv48 => first | (intro w hSw; (try dsimp only at hSw); go_simp; done) | (intro w hSw; (try dsimp only at hSw); go_simp; with_reducible rfl)
                (try simp only [Act.put, List.setIfInBounds_toArray, List.set_cons_zero, List.set_cons_succ])
                refine Reg.done (by kernel_rfl) ?_ _
                clear hHeld d0 hI1 hX1
                generalize W7.drew = W8 at *
                have hI3 := hI2
                have x0 := hX2.cell 0
                have x2 := hX2.cell 2
                have f0 := hI3.tn.box.frozen j
                have d0 := hI3.tn.cell j hj5
                have hI4 := hI3.set K j hj5 false
                clear hI2
                go_wp2
                go_roundw
                case rel => exact ⟨y + 1, (O.set (j : Int) false), by have := HY.out; omega, by go_num, HNX.out, hI4⟩
                case measure => have := HY.out; simp [intOf]; omega
              · rw [if_neg (fun h => h.elim h2 h3)] at hnx
                rw [decide_eq_false h2] at hget
                have b2 : (o1 == 2) = false := by simpa using h2
                have HNX := Lib.hid hnx
                clear hnx
                go_upto_region 16 with (fail)
                generalize wr.alloc (.cells #[.int .i64 o1, .int .i64 o2, .int .i64 (j : Nat), .int .i64 o4] 53) = W7 at *
                generalize wr.heap.size = h9 at *
                have hI2 := hI1.grow K (below_drewN (Below.refl _ W7) 1)
                have hX2 : Has W7.drew h9 53 #[.int .i64 o1, .int .i64 o2, .int .i64 (j : Nat), .int .i64 o4] := hX1
                change Ti Alm w b o s2 O (some x6) E W7.drew at hI2
                have d0 := hI2.tn.cell j hj5
                rw [hget] at d0
                refine Reg.begin_ (S := fun W => W.cell? ⟨o, j, none⟩ = some (.bool (true)) ∧ W.cell? ⟨h9, 0, none⟩ = some (.int .i64 o1) ∧ W.cell? ⟨h9, 2, none⟩ = some (.int .i64 (j : Nat))) (by kernel_rfl) (by exact ⟨d0, hX2.cell 0, hX2.cell 2⟩) (fun hHeld => ?_)
                refine Reg.take (i := 0) (v := ?v49) rfl (by kernel_rfl) (by kernel_rfl) (by kernel_rfl) (by rfl) ?hv49 (by assumption) ?rest49
                case hv49 => first | (intro w hSw; (try dsimp only at hSw); go_simp; done) | (intro w hSw; (try dsimp only at hSw); go_simp; with_reducible rfl)
                (try simp only [Act.put, List.setIfInBounds_toArray, List.set_cons_zero, List.set_cons_succ])
                refine Reg.take (i := 1) (v := ?v50) rfl (by kernel_rfl) (by kernel_rfl) (by kernel_rfl) (by rfl) ?hv50 (by assumption) ?rest50
                case hv50 => first | (intro w hSw; (try dsimp only at hSw); go_simp; done) | (intro w hSw; (try dsimp only at hSw); go_simp; with_reducible rfl)
                (try simp only [Act.put, List.setIfInBounds_toArray, List.set_cons_zero, List.set_cons_succ])
                refine Reg.take (i := 2) (v := ?v51) rfl (by kernel_rfl) (by kernel_rfl) (by kernel_rfl) (by rfl) ?hv51 (by assumption) ?rest51
                case hv51 => first | (intro w hSw; (try dsimp only at hSw); go_simp; done) | (intro w hSw; (try dsimp only at hSw); go_simp; with_reducible rfl)
                (try simp only [Act.put, List.setIfInBounds_toArray, List.set_cons_zero, List.set_cons_succ])
                refine Reg.take (i := 3) (v := ?v52) rfl (by kernel_rfl) (by kernel_rfl) (by kernel_rfl) (by rfl) ?hv52 (by assumption) ?rest52
                case hv52 => first | (intro w hSw; (try dsimp only at hSw); go_simp; done) | (intro w hSw; (try dsimp only at hSw); go_simp; with_reducible rfl)
                (try simp only [Act.put, List.setIfInBounds_toArray, List.set_cons_zero, List.set_cons_succ])
                refine Reg.take (i := 4) (v := ?v53) rfl (by kernel_rfl) (by kernel_rfl) (by kernel_rfl) (by rfl) ?hv53 (by assumption) ?rest53
                case hv53 => first | (intro w hSw; (try dsimp only at hSw); go_simp; done) | (intro w hSw; (try dsimp only at hSw); go_simp; with_reducible rfl)
                (try simp only [Act.put, List.setIfInBounds_toArray, List.set_cons_zero, List.set_cons_succ])
                refine Reg.take (i := 5) (v := ?v54) rfl (by kernel_rfl) (by kernel_rfl) (by kernel_rfl) (by rfl) ?hv54 (by assumption) ?rest54
                case hv54 => first | (intro w hSw; (try dsimp only at hSw); go_simp; done) | (intro w hSw; (try dsimp only at hSw); go_simp; with_reducible rfl)
                (try simp only [Act.put, List.setIfInBounds_toArray, List.set_cons_zero, List.set_cons_succ])
                refine Reg.take (i := 6) (v := ?v55) rfl (by kernel_rfl) (by kernel_rfl) (by kernel_rfl) (by rfl) ?hv55 (by assumption) ?rest55
                case hv55 => first | (intro w hSw; (try dsimp only at hSw); go_simp; done) | (intro w hSw; (try dsimp only at hSw); go_simp; with_reducible rfl)
                (try simp only [Act.put, List.setIfInBounds_toArray, List.set_cons_zero, List.set_cons_succ])
                refine Reg.take (i := 7) (v := ?v56) rfl (by kernel_rfl) (by kernel_rfl) (by kernel_rfl) (by rfl) ?hv56 (by assumption) ?rest56
                case hv56 => first | (intro w hSw; (try dsimp only at hSw); go_simp; done) | (intro w hSw; (try dsimp only at hSw); go_simp; with_reducible rfl)
                (try simp only [Act.put, List.setIfInBounds_toArray, List.set_cons_zero, List.set_cons_succ])
                refine Reg.take (i := 8) (v := ?v57) rfl (by kernel_rfl) (by kernel_rfl) (by kernel_rfl) (by rfl) ?hv57 (by assumption) ?rest57
                case hv57 => first | (intro w hSw; (try dsimp only at hSw); go_simp; done) | (intro w hSw; (try dsimp only at hSw); go_simp; with_reducible rfl)
                (try simp only [Act.put, List.setIfInBounds_toArray, List.set_cons_zero, List.set_cons_succ])
                refine Reg.take (i := 9) (v := ?v58) rfl (by kernel_rfl) (by kernel_rfl) (by kernel_rfl) (by rfl) ?hv58 (by assumption) ?rest58
                case hv58 => first | (intro w hSw; (try dsimp only at hSw); go_simp; done) | (intro w hSw; (try dsimp only at hSw); go_simp; with_reducible rfl)
                (try simp only [Act.put, List.setIfInBounds_toArray, List.set_cons_zero, List.set_cons_succ])
                refine Reg.take (i := 10) (v := ?v59) rfl (by kernel_rfl) (by kernel_rfl) (by kernel_rfl) (by rfl) ?hv59 (by assumption) ?rest59
                case hv59 => first | (intro w hSw; (try dsimp only at hSw); go_simp; done) | (intro w hSw; (try dsimp only at hSw); go_simp; with_reducible rfl)
                (try simp only [Act.put, List.setIfInBounds_toArray, List.set_cons_zero, List.set_cons_succ])
                refine Reg.take (i := 11) (v := ?v60) rfl (by kernel_rfl) (by kernel_rfl) (by kernel_rfl) (by rfl) ?hv60 (by assumption) ?rest60
                case hv60 => first | (intro w hSw; (try dsimp only at hSw); go_simp; done) | (intro w hSw; (try dsimp only at hSw); go_simp; with_reducible rfl)
                (try simp only [Act.put, List.setIfInBounds_toArray, List.set_cons_zero, List.set_cons_succ])
                refine Reg.take (i := 12) (v := ?v61) rfl (by kernel_rfl) (by kernel_rfl) (by kernel_rfl) (by rfl) ?hv61 (by assumption) ?rest61
                case hv61 => first | (intro w hSw; (try dsimp only at hSw); go_simp; done) | (intro w hSw; (try dsimp only at hSw); go_simp; with_reducible rfl)
                (try simp only [Act.put, List.setIfInBounds_toArray, List.set_cons_zero, List.set_cons_succ])
                refine Reg.take (i := 13) (v := ?v62) rfl (by kernel_rfl) (by kernel_rfl) (by kernel_rfl) (by rfl) ?hv62 (by assumption) ?rest62
                case hv62 => first | (intro w hSw; (try dsimp only at hSw); go_simp; done) | (intro w hSw; (try dsimp only at hSw); go_simp; with_reducible rfl)
                (try simp only [Act.put, List.setIfInBounds_toArray, List.set_cons_zero, List.set_cons_succ])
                refine Reg.take (i := 14) (v := ?v63) rfl (by kernel_rfl) (by kernel_rfl) (by kernel_rfl) (by rfl) ?hv63 (by assumption) ?rest63
                case hv63 => first | (intro w hSw; (try dsimp only at hSw); go_simp; done) | (intro w hSw; (try dsimp only at hSw); go_simp; with_reducible rfl)
                (try simp only [Act.put, List.setIfInBounds_toArray, List.set_cons_zero, List.set_cons_succ])
                refine Reg.take (i := 15) (v := ?v64) rfl (by kernel_rfl) (by kernel_rfl) (by kernel_rfl) (by rfl) ?hv64 (by assumption) ?rest64
                case hv64 => first | (intro w hSw; (try dsimp only at hSw); go_simp; done) | (intro w hSw; (try dsimp only at hSw); go_simp; with_reducible rfl)
                (try simp only [Act.put, List.setIfInBounds_toArray, List.set_cons_zero, List.set_cons_succ])
                refine Reg.take (i := 16) (v := ?v65) rfl (by kernel_rfl) (by kernel_rfl) (by kernel_rfl) (by rfl) ?hv65 (by assumption) ?rest65
                case hv65 => first | (intro w hSw; (try dsimp only at hSw); go_simp; done) | (intro w hSw; (try dsimp only at hSw); go_simp; with_reducible rfl)
                (try simp only [Act.put, List.setIfInBounds_toArray, List.set_cons_zero, List.set_cons_succ])
                refine Reg.take (i := 17) (v := ?v66) rfl (by kernel_rfl) (by kernel_rfl) (by kernel_rfl) (by rfl) ?hv66 (by assumption) ?rest66
                case hv66 => first | (intro w hSw; (try dsimp only at hSw); go_simp; done) | (intro w hSw; (try dsimp only at hSw); go_simp; with_reducible rfl)
                (try simp only [Act.put, List.setIfInBounds_toArray, List.set_cons_zero, List.set_cons_succ])
                refine Reg.done (by kernel_rfl) ?_ _
                clear hHeld d0 hI1 hX1
                generalize W7.drew = W8 at *
                have hI3 := hI2
                have x0 := hX2.cell 0
                have x2 := hX2.cell 2
                go_wp2
                go_roundw
                case rel => exact ⟨y + 1, O, by have := HY.out; omega, by go_num, HNX.out, hI3⟩
                case measure => have := HY.out; simp [intOf]; omega
        · obtain rfl : y = E.length := by omega
          rw [List.drop_length] at hTd
          obtain rfl : O = upT s2 := hTd
          have hT9 := hI.tn
          clear hI hy hyE hEl HTold
          go_wp2
          go_loopw [13] (fun i wr3 => ∃ y : Nat, 1 ≤ y ∧ y ≤ 6 ∧ i = .int .i64 (y : Nat) ∧ Tn Alm w b o s2 (upT s2) wr3) (fun i _ => 6 - (intOf i).toNat)
          case atStart => exact ⟨1, by omega, by omega, rfl, hT9⟩
          case round =>
            clear hT9
            obtain ⟨y, hy1, hy6, rfl, hT⟩ := hrel
            by_cases hy5 : y ≤ 5
            · have hj5 : 1 ≤ y ∧ y ≤ 5 := ⟨hy1, hy5⟩
              have hy7 : 0 ≤ (y : Int) ∧ (y : Int) < 6 := by omega
              have hyz : (y : Int) ≤ 5 := by omega
              have hup := up_get s2 y
              obtain ⟨q9, hq9⟩ : ∃ q9, (s2.get y).stands = q9 := ⟨_, rfl⟩
              rw [hq9] at hup
              have hqq : (!(q9 == q9)) = false := by simp
              have hT2 := hT.grow K (below_drewN (Below.refl _ wr) 1)
              change Tn Alm w b o s2 (upT s2) wr.drew at hT2
              have hce : ∀ W, Tn Alm w b o s2 (upT s2) W → W.cell? ⟨o, y, none⟩ = some (.bool q9) := fun W hW => by rw [hW.cell y hj5, hup]
              have hst := fun W (hW : Mr Alm w b s2 W) => stands_at K hW hq9
              have HY := Lib.hid hj5
              clear hq9 hup hy1 hy6 hy5 hT
              go_wp2
              refine Reg.begin_ (S := fun W => W.cell? ⟨o, y, none⟩ = some (.bool q9)) (by kernel_rfl) (by exact hce _ hT2) (fun hHeld => ?_)
              refine Reg.take (i := 0) (v := ?v67) rfl (by kernel_rfl) (by kernel_rfl) (by kernel_rfl) (by rfl) ?hv67 (by assumption) ?rest67
              case hv67 => first | (intro w hSw; (try dsimp only at hSw); go_simp; done) | (intro w hSw; (try dsimp only at hSw); go_simp; with_reducible rfl)
              (try simp only [Act.put, List.setIfInBounds_toArray, List.set_cons_zero, List.set_cons_succ])
              refine Reg.take (i := 1) (v := ?v68) rfl (by kernel_rfl) (by kernel_rfl) (by kernel_rfl) (by rfl) ?hv68 (by assumption) ?rest68
              case hv68 => first | (intro w hSw; (try dsimp only at hSw); go_simp; done) | (intro w hSw; (try dsimp only at hSw); go_simp; with_reducible rfl)
              (try simp only [Act.put, List.setIfInBounds_toArray, List.set_cons_zero, List.set_cons_succ])
              refine Reg.take (i := 3) (v := ?v69) rfl (by kernel_rfl) (by kernel_rfl) (by kernel_rfl) (by rfl) ?hv69 (by assumption) ?rest69
              case hv69 => first | (intro w hSw; (try dsimp only at hSw); go_simp; done) | (intro w hSw; (try dsimp only at hSw); go_simp; with_reducible rfl)
              (try simp only [Act.put, List.setIfInBounds_toArray, List.set_cons_zero, List.set_cons_succ])
              refine Reg.take (i := 4) (v := ?v70) rfl (by kernel_rfl) (by kernel_rfl) (by kernel_rfl) (by rfl) ?hv70 (by assumption) ?rest70
              case hv70 => first | (intro w hSw; (try dsimp only at hSw); go_simp; done) | (intro w hSw; (try dsimp only at hSw); go_simp; with_reducible rfl)
              (try simp only [Act.put, List.setIfInBounds_toArray, List.set_cons_zero, List.set_cons_succ])
              refine Reg.take (i := 5) (v := ?v71) rfl (by kernel_rfl) (by kernel_rfl) (by kernel_rfl) (by rfl) ?hv71 (by assumption) ?rest71
              case hv71 => first | (intro w hSw; (try dsimp only at hSw); go_simp; done) | (intro w hSw; (try dsimp only at hSw); go_simp; with_reducible rfl)
              (try simp only [Act.put, List.setIfInBounds_toArray, List.set_cons_zero, List.set_cons_succ])
              clear hHeld
              generalize wr.drew = W9 at *
              refine Reg.call (i := 2) rfl (by kernel_rfl) (by rfl) ?_
              intro K1 hK1
              go_simp
              go_at_call 17
              ((with_reducible refine (hst _ hT2.mr).mono ?_); rintro e W5 ⟨rfl, hB5⟩)
              have hT5 := hT2.grow K hB5
              refine hK1.out _ _ (by exact (hce _ hT5)) (fun hHeld => ?_)
              clear hK1 K1
              (try simp only [Act.put, List.setIfInBounds_toArray, List.set_cons_zero, List.set_cons_succ])
              refine Reg.take (i := 6) (v := ?v72) rfl (by kernel_rfl) (by kernel_rfl) (by kernel_rfl) (by rfl) ?hv72 (by assumption) ?rest72
              case hv72 => first | (intro w hSw; (try dsimp only at hSw); go_simp; done) | (intro w hSw; (try dsimp only at hSw); go_simp; with_reducible rfl)
              (try simp only [Act.put, List.setIfInBounds_toArray, List.set_cons_zero, List.set_cons_succ])
              refine Reg.done (by kernel_rfl) ?_ _
              clear hHeld hT2
              go_wp2
              go_roundw
              case rel => exact ⟨y + 1, by omega, by have := HY.out; omega, by go_num, hT5⟩
              case measure => have := HY.out; simp [intOf]; omega
            · obtain rfl : y = 6 := by omega
              clear hy1 hy6 hy5
              go_wp2
              go_roundw
              case rel => exact ⟨k + 1, s2, by have := HKP.out; omega, by go_num, HOk.out, hT⟩
              case measure => have := HKP.out; simp [intOf]; omega
    · obtain rfl : k = p := by omega
      clear hO
      go_wp2_with (first
        | (go_at_call 9; ((with_reducible refine (hli _).mono ?_); rintro e W8 ⟨rfl, hB8⟩; have hM8 := hT.grow K hB8)))
      go_ret
      exact ⟨rfl, hM8.mr.below⟩
end Go.Proofs.Ytahoiaiknchehaa.Alarm
