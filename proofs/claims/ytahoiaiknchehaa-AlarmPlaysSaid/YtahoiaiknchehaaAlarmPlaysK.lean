/- AlarmPlays, over whatever an alarm's calls answer. -/
import Derived.Test.YtahoiaiknchehaaAlarmAlikeK
import Derived.Test.YtahoiaiknchehaaAlarmRefTick
import Derived.Test.YtahoiaiknchehaaAlarmDeeds
set_option linter.unusedSimpArgs false
set_option linter.unusedVariables false
namespace Go.Proofs.Ytahoiaiknchehaa.Alarm
open Go.RowKit
/-- The alarm in block b and the document's state in block y stand as s. -/
structure Pl (Alm : World → Nat → St → Prop) (w : World) (b y : Nat) (s : St) (W : World) : Prop where
  mr : Mr Alm w b s W
  st : Has W y 32 (refC s)
  ne_ : y ≠ b
  far : w.heap.size ≤ y
section
variable {Alm : World → Nat → St → Prop} (K : AlmKit Alm) {w W W' : World} {b y base : Nat} {s s1 sr : St} {A : Option Addr} {E1 E F : List Ot} {V V' : Value}
include K
theorem Pl.grow (h : Pl Alm w b y s W) (hB : Below W.heap.size W W') : Pl Alm w b y s W' := ⟨Mr.grow K h.mr hB, h.st.below hB h.st.lt, h.ne_, h.far⟩
end
section
variable {Alm : World → Nat → St → Prop} (K : AlmKit Alm) {w W W' : World} {b c y base : Nat} {s s' : St}
include K
/-- Another alarm, made since w, has turned. -/
theorem Pl.other (h : Pl Alm w c y s W) (hM : Mr Alm w b s' W') (hK : Kept [b] W W') (h1 : y ≠ b) (h2 : c ≠ b) : Pl Alm w c y s W' :=
  ⟨Mr.late K h.mr hK (fun k hk => by simp at hk; subst hk; exact ⟨hM.far, fun e => h2 e.symm⟩), hK.has h.st (by simp; exact h1), h.ne_, h.far⟩
end
/-- Within the conditions of a deed: the alarm has had all of them, the state so many; what it said; what the document says of them, in a row of its own. -/
structure Pj (Alm : World → Nat → St → Prop) (w : World) (b y base : Nat) (s1 sr : St) (A : Option Addr) (E1 : List Ot) (V : Value) (E : List Ot) (W : World) : Prop where
  mr : Mr Alm w b s1 W
  st : Has W y 32 (refC sr)
  got : Row.Vals otS W A E1.length E1
  own : W.ownsRow base 53 4 V E.length (Row.flat otS E)
  ne_ : y ≠ b
  far : w.heap.size ≤ y
  lo : b < base ∧ y < base
  hi : base ≤ W.heap.size
  ga : ∀ x, A = some x → x.block < base ∧ x.block ≠ y
section
variable {Alm : World → Nat → St → Prop} (K : AlmKit Alm) {w W W' : World} {b y base : Nat} {s s1 sr sr' : St} {A : Option Addr} {E1 E F : List Ot} {V V' : Value}
include K
theorem Pj.grow (h : Pj Alm w b y base s1 sr A E1 V E W) (hB : Below W.heap.size W W') : Pj Alm w b y base s1 sr A E1 V E W' :=
  ⟨Mr.grow K h.mr hB, h.st.below hB h.st.lt, h.got.below hB, own_kept h.own (Kept.of_below (S := []) hB) (by simp), h.ne_, h.far, h.lo, Nat.le_trans h.hi hB.size, h.ga⟩
theorem Pj.stored (h : Pj Alm w b y base s1 sr A E1 V E W) : Pj Alm w b y base s1 sr' A E1 V E (W.setRow y (refC sr')) := by
  have hK := kept_row W y (refC sr')
  exact ⟨Mr.late K h.mr hK (fun k hk => by simp at hk; subst hk; exact ⟨h.far, h.ne_⟩), h.st.row _, h.got.kept hK (fun _ x hx hk => (h.ga x hx).2 (by simpa using hk)), own_kept h.own hK (fun k hk => by simp at hk; have := h.lo; omega), h.ne_, h.far, h.lo, Nat.le_trans h.hi hK.size, h.ga⟩
theorem Pj.grown (h : Pj Alm w b y base s1 sr A E1 V E W) (ho : W'.ownsRow base 53 4 V' (E.length + F.length) (Row.flat otS (E ++ F))) (hg : W.grownBy W' V.ownBlock) : Pj Alm w b y base s1 sr A E1 V' (E ++ F) W' := by
  have hK := Kept.of_grown hg
  have h1 := own_in h.own
  exact ⟨Mr.late K h.mr hK (fun k hk => by have := h1 k hk; have := h.lo; have := h.mr.far; omega), hK.has h.st (fun hk => by have := h1 _ hk; have := h.lo; omega), h.got.kept hK (fun _ x hx hk => by have := h1 _ hk; have := (h.ga x hx).1; omega), by rw [List.length_append]; exact ho, h.ne_, h.far, h.lo, Nat.le_trans h.hi hK.size, h.ga⟩
end
set_option maxRecDepth 100000 in
set_option maxHeartbeats 8000000 in
theorem plays_k {Alm : World → Nat → St → Prop} (K : AlmKit Alm) (n : Int) (a1 : Option Addr) (len1 cap1 : Nat) (w : World) (w0 : (Lit.int .i64 n).wf = true) (w1 : IsDeeds w a1 len1 cap1) :
    Calls Try.prog 3 #[.int .i64 n, .slice a1 len1 cap1] w fun e w' => e = .returned (.bool true) ∧ Below w.heap.size w w' := by
  have hInfo : (Try.prog.info? 53).map (fun i => (i.zero, i.size, i.bytes)) = some (some (.agg #[.int .i64 0, .int .i64 0, .int .i64 0, .int .i64 0]), 4, 32) := by kernel_rfl
  have HInfo := Lib.hid hInfo
  clear hInfo
  have hli := fun W => live_k K W
  by_cases hn : 1 ≤ n ∧ n ≤ 1048576
  · have hnew := fun W => K.new_yes W n hn
    have h1 : ¬ n < 1 := by omega
    have h2 : ¬ 1048576 < n := by omega
    obtain ⟨p, hp⟩ : ∃ p, min len1 60 = p := ⟨_, rfl⟩
    have hD : len1 ≤ cap1 ∧ cap1 ≤ 9223372036854775807 := by
      rcases w1 with ⟨_, rfl, rfl⟩ | ⟨x, _, h1, h2, _⟩
      · omega
      · unfold maxLen at h2; omega
    have hlc := hD.1
    have hcm := hD.2
    have hminA : (if (60 : Int) < (len1 : Int) then (60 : Int) else (len1 : Int)) = (p : Int) := by split <;> omega
    have hpl : (p : Int) ≤ (len1 : Int) ∧ (p : Int) ≤ (cap1 : Int) := by omega
    have hDs : p ≤ cap1 ∧ (0 < p → ∃ x, a1 = some x ∧ ∀ r, r < p → ∃ D A L C N B M E z1 z2, w.cell? (x.add (r * 4)) = some (.int .i64 D) ∧ w.cell? (x.add (r * 4 + 1)) = some (.slice A L C) ∧ w.cell? (x.add (r * 4 + 2)) = some (.int .i64 N) ∧ w.cell? (x.add (r * 4 + 3)) = some (.slice B M E) ∧
      (Lit.int .i64 D).wf = true ∧ Row.IsFlat cdS CdOk w A L C z1 ∧ (Lit.int .i64 N).wf = true ∧ Row.IsFlat orS OrOk w B M E z2) := by
      rcases w1 with ⟨_, rfl, rfl⟩ | ⟨x, hx, h1, h2, h3⟩
      · exact ⟨by omega, fun h => by omega⟩
      · exact ⟨by omega, fun _ => ⟨x, hx, fun r hr => h3 r (by omega)⟩⟩
    have HD := Lib.hid hDs.2
    clear w1 hp hD hDs w0 hn
    go_enter Try.func3, Try.ntmps3
    go_upto_region 4 with (first
      | (go_at_call 8; ((with_reducible refine (hnew _).mono ?_); rintro e W1 ⟨b, rfl, hP, hfar, hB1⟩; have hM1 : Mr Alm w b (st0 n) W1 := ⟨hP, hB1, hfar⟩)))
    have hZ : Has (W1.alloc (.cells zeroR 32)) W1.heap.size 32 zeroR := Has.new W1 _ _
    have hP0 : Pl Alm w b W1.heap.size (st0 n) ((W1.alloc (.cells zeroR 32)).setRow W1.heap.size (refC (st0 n))) :=
      have hKZ : Kept [W1.heap.size] W1 ((W1.alloc (.cells zeroR 32)).setRow W1.heap.size (refC (st0 n))) := ((Kept.refl [W1.heap.size] W1).alloc _).trans (kept_row _ _ _)
      ⟨Mr.late K hM1 hKZ (fun k hk => by simp at hk; subst hk; exact ⟨hM1.below.size, by have := K.lt hM1.alm; omega⟩), hZ.row _, by have := K.lt hM1.alm; omega, hM1.below.size⟩
    obtain ⟨W2, hW2⟩ : ∃ W2, (W1.alloc (.cells zeroR 32)).setRow W1.heap.size (refC (st0 n)) = W2 := ⟨_, rfl⟩
    rw [hW2] at hP0
    unfold zeroR at hW2
    clear hP hfar hB1 hM1 hnew h1 h2
    go_upto_region 5 with (refine ref_st rfl _ _ rfl W1.heap.size (refC (st0 n)) rfl rfl hZ (ref_size _) rfl (ref_one _) ?_)
    (try simp only [Act.put])
    (try rw [hW2])
    clear hW2 hZ
    generalize W1.heap.size = y at *
    go_wp2
    have HM := Lib.hid hminA
    clear hminA
    go_loopw [5, 46] (fun V i wr => ∃ (k : Nat) (b : Nat) (s : St), k ≤ p ∧ V = .pointer (some ⟨b, 0, none⟩) ∧ i = .int .i64 (k : Nat) ∧ Pl Alm w b y s wr) (fun _ i _ => p - (intOf i).toNat)
    case atStart => exact ⟨0, b, st0 n, by omega, rfl, rfl, hP0⟩
    case round =>
      clear hP0
      obtain ⟨k, b, s, hk, rfl, rfl, hP⟩ := hrel
      by_cases hkp : k < p
      · obtain ⟨x, hx, hall⟩ := HD.out (by omega)
        obtain ⟨D, A, L, C, N, B, M, C2, z1, z2, c0, c1, c2, c3, g0, g1, g2, g3⟩ := hall k hkp
        subst hx
        clear hall
        have hcell := fun p u (h : w.cell? p = some u) => (hP.mr.below.cell (World.block_lt_of_cell? _ _ h)).trans h
        replace c0 := hcell _ _ c0
        replace c1 := hcell _ _ c1
        replace c2 := hcell _ _ c2
        replace c3 := hcell _ _ c3
        clear hcell
        have hkz : (k : Int) < (p : Int) := by omega
        rw [← RI64.addr_add] at c1 c2 c3
        replace c1 : wr.cell? ⟨(x.add (k * 4)).block, (x.add (k * 4)).off + 1, none⟩ = _ := c1
        replace c2 : wr.cell? ⟨(x.add (k * 4)).block, (x.add (k * 4)).off + 2, none⟩ = _ := c2
        replace c3 : wr.cell? ⟨(x.add (k * 4)).block, (x.add (k * 4)).off + 3, none⟩ = _ := c3
        obtain ⟨q1, hq1⟩ : ∃ q1, min L 8 = q1 := ⟨_, rfl⟩
        obtain ⟨q2, hq2⟩ : ∃ q2, min M 8 = q2 := ⟨_, rfl⟩
        have hmB : (if (8 : Int) < (L : Int) then (8 : Int) else (L : Int)) = (q1 : Int) := by split <;> omega
        have hmC : (if (8 : Int) < (M : Int) then (8 : Int) else (M : Int)) = (q2 : Int) := by split <;> omega
        have e1 := g1.le
        have e2 := g1.max
        have e3 := g3.le
        have e4 := g3.max
        have e5 : (q1 : Int) ≤ (L : Int) ∧ (q1 : Int) ≤ (C : Int) := by omega
        have e6 : (q2 : Int) ≤ (M : Int) ∧ (q2 : Int) ≤ (C2 : Int) := by omega
        have e7 : q1 ≤ 8 ∧ q2 ≤ 8 := by omega
        have hTb := hP.grow K ((Below.refl _ wr).alloc (Nat.le_refl _) (.cells #[.int .i64 D, .slice A L C, .int .i64 N, .slice B M C2] 36))
        have hZ := Has.new wr 36 #[.int .i64 D, .slice A L C, .int .i64 N, .slice B M C2]
        have hV1 := g1.row.take q1 (by omega)
        have hV2 := g3.row.take q2 (by omega)
        have hf1 : 0 < q1 → ∀ y, A = some y → y.block < w.heap.size := fun h0 y hy => g1.far (by omega) y hy
        have hf2 : 0 < q2 → ∀ y, B = some y → y.block < w.heap.size := fun h0 y hy => g3.far (by omega) y hy
        have hbz : b < wr.heap.size ∧ y < wr.heap.size := ⟨K.lt hP.mr.alm, hP.st.lt⟩
        have hs8 : (wr.alloc (.cells #[.int .i64 D, .slice A L C, .int .i64 N, .slice B M C2] 36)).heap.size = wr.heap.size + 1 := World.size_alloc _ _
        have hO := K.ok hP.mr.alm
        have HKP := Lib.hid (And.intro hkp hk)
        generalize z1.take q1 = zs at *
        generalize z2.take q2 = os at *
        clear g0 g1 g2 g3 hq1 hq2 hP hkp hk
        by_cases hd0 : D = 0
        · subst hd0
          have hcd := Mr.conds K hTb.mr A q1 C zs (hV1.below hTb.mr.below) (by omega) (fun h0 y9 hy hk => by have h1 := hf1 h0 y9 hy; have h2 := hTb.mr.far; omega)
          have HLen1 := Lib.hid (show (condsT s zs).2.length ≤ 8 by have h1 := conds_len zs s; have h2 := hV1.len_; omega)
          obtain ⟨r1, hr1⟩ : ∃ r1, condsT s zs = r1 := ⟨_, rfl⟩
          rw [hr1] at hcd HLen1
          have HR1 := Lib.hid hr1
          obtain ⟨s1, E1⟩ := r1
          have HO := Lib.hid hO
          have HV1 := Lib.hid hV1
          clear hV1 hV2 hf1 hf2 hr1 hO
          go_upto_region 13 with (first
            | (go_at_call 10; ((with_reducible refine hcd.mono ?_); rintro e W3 ⟨V3, rfl, hO3, hM3, hK3⟩; (try dsimp only at hO3 hM3); have hY3 := hK3.has hTb.st (by have h1 := hTb.ne_; simp; omega); obtain ⟨A3, d3, rfl, -, -, hG3, hf3, -⟩ := Row.Vals.own hO3; clear hO3)))
          have hJ0 : Pj Alm w b y W3.heap.size s1 s A3 E1 (.slice none 0 0) [] W3 := ⟨hM3, hY3, hG3, Row.own_none (S := otS) _ _ _, hTb.ne_, hTb.far, ⟨K.lt hM3.alm, hY3.lt⟩, Nat.le_refl _, fun x9 hx => ⟨(hf3 x9 hx).2, by have h1 := (hf3 x9 hx).1; omega⟩⟩
          clear hM3 hK3 hY3 hG3 hf3 hcd hTb hZ hbz hs8 hmB hmC e1 e2 e3 e4 e6 c0 c1 c2 c3
          generalize wr.heap.size = z9 at *
          generalize W3.heap.size = base at *
          go_wp2
          go_loopw [11, 66] (fun V i wr2 => ∃ j : Nat, j ≤ q1 ∧ i = .int .i64 (j : Nat) ∧ Pj Alm w b y base s1 (condsT s (zs.take j)).1 A3 E1 V (condsT s (zs.take j)).2 wr2) (fun _ i _ => q1 - (intOf i).toNat)
          case atStart => exact ⟨0, by omega, rfl, hJ0⟩
          case round =>
            clear hJ0
            obtain ⟨j, hj, rfl, hJ⟩ := hrel
            by_cases hjn : j < q1
            · obtain ⟨x9, rfl, -⟩ := HV1.out.cells (by omega)
              obtain ⟨c0, c1, c2⟩ := cd_cells (HV1.out.below hJ.mr.below) j hjn
              have hjz : (j : Int) < (q1 : Int) := by omega
              have HN := Lib.hid (show condsT s (zs.take (j + 1)) = ((condT (condsT s (zs.take j)).1 (zs.getD j noCd)).1, (condsT s (zs.take j)).2 ++ (condT (condsT s (zs.take j)).1 (zs.getD j noCd)).2) from by rw [cs_next zs j (by have h1 := HV1.out.len_; omega), conds_snoc])
              have hO2 := ok_conds (zs.take j) HO.out
              have HL := Lib.hid (show (condsT s (zs.take j)).2.length ≤ 8 by have h1 := conds_len (zs.take j) s; rw [List.length_take] at h1; omega)
              generalize (condsT s (zs.take j)).2 = F at *
              generalize (condsT s (zs.take j)).1 = s2 at *
              generalize zs.getD j noCd = cd at *
              have hrc := fun W => refcond_any s2 cd hO2 W
              unfold refV at hrc
              have HCL := Lib.hid (cond_len s2 cd)
              obtain ⟨d1, d2, d4⟩ := cd
              dsimp only at c0 c1 c2 hrc
              generalize condT s2 (d1, d2, d4) = r2 at *
              obtain ⟨s3, F3⟩ := r2
              have HJN := Lib.hid (And.intro hjn hj)
              have hJb := hJ.grow K ((Below.refl _ wr).alloc (Nat.le_refl _) (.cells #[.int .i64 d1, .int .i64 d2, .bool d4] 40))
              have hZb := Has.new wr 40 #[.int .i64 d1, .int .i64 d2, .bool d4]
              clear hJ hO2 hjn hj
              go_upto_region 17 with (fail)
              clear c0 c1 c2
              generalize wr.alloc _ = W4 at *
              generalize wr.heap.size = z at *
              have z0 : W4.cell? ⟨z, 0, none⟩ = some (.int .i64 d1) := hZb.cell 0
              have z1 : W4.cell? ⟨z, 1, none⟩ = some (.int .i64 d2) := hZb.cell 1
              have z2 : W4.cell? ⟨z, 2, none⟩ = some (.bool d4) := hZb.cell 2
              go_upto_region 18 with (first
                | (refine ref_ld rfl _ rfl _ rfl hJb.st (ref_size _) ?_)
                | (go_at_call 11; ((with_reducible refine (hrc _).mono ?_); rintro e W5 ⟨B5, d5, rfl, h91, h92, hV5, hf5, hB5⟩; have hJ5 := hJb.grow K hB5))
                | (refine ref_st rfl _ _ rfl _ _ rfl rfl hJ5.st (ref_size _) rfl (ref_one _) ?_))
              (try dsimp only at hV5)
              (try dsimp only)
              have hJ6 := hJ5.stored K (sr' := s3)
              have hV6 := hV5.kept (kept_row W5 y (refC s3)) (fun _ x8 hx hk => by have h1 := hf5 x8 hx; have h2 := hJb.st.lt; simp at hk; omega)
              generalize W5.setRow y (refC s3) = W6 at *
              (try clear hB5)
              clear z0 z1 z2 hJ5 hV5 hf5 hJb hZb hrc
              have hCL := HCL.out
              (try dsimp only at hCL)
              go_wp2_with (at_builtin; refine Row.wpList_append (S := otS) rfl (.tmp 76) (.tmp 77) _ rfl base 53 _ 32 (by omega) Try.underlying37 HInfo.out (by kernel_rfl) _ _ _ rfl hJ6.own _ _ _ _ rfl hV6 (by have := HL.out; omega) hJ6.hi ?_; intro V7 W7 hO7 hg7 hat7; have hJ7 := hJ6.grown K hO7 hg7; clear hO7 hg7 hat7 hJ6 hV6)
              go_roundw
              case rel => exact ⟨j + 1, by have := HJN.out; omega, by go_num, by rw [HN.out]; exact hJ7⟩
              case measure => have := HJN.out; simp [intOf]; omega
            · obtain rfl : j = q1 := by omega
              rw [List.take_of_length_le (by have h1 := HV1.out.len_; omega), HR1.out] at hJ
              dsimp only at hJ
              obtain ⟨A7, d7, rfl, -, -, hVw, -, -⟩ := Row.Vals.own hJ.own
              have hP9 : Pl Alm w b y s1 wr := ⟨hJ.mr, hJ.st, hJ.ne_, hJ.far⟩
              have hVg := hJ.got
              have HEL := Lib.hid (show E1.length ≤ 1000 by have h1 := HLen1.out; (try dsimp only at h1); omega)
              clear hJ HLen1 HR1 hj hjn e5 e7
              go_upto_region 29 with (fail)
              have hsa := fun W hv hu => same_yes A3 A7 (E1).length d3 d7 E1 W hv hu (by have := HEL.out; omega)
              have hal := fun W hW => alike_k K b s1 W hW
              unfold refV at hal
              have HAL := Lib.hid hal
              clear hal
              have HSA := Lib.hid hsa
              clear hsa
              go_wp2_with (first
                | (go_at_call 15; ((refine Calls.mono (by exact HSA.out _ hVg hVw) ?_); rintro e Ws ⟨rfl, zz, rfl⟩; have hPs := hP9.grow K (below_drewN (Below.refl _ _) zz)))
                | (refine ref_ldw _ rfl _ rfl hPs.st (ref_size _) (by rfl) ?_)
                | (go_at_call 16; ((with_reducible refine (HAL.out _ hPs.mr.alm).mono ?_); rintro e Wt ⟨rfl, hBt⟩; have hPt := hPs.grow K hBt)))
              go_roundw
              case rel => exact ⟨k + 1, b, s1, by have := HKP.out; omega, rfl, by go_num, hPt⟩
              case measure => have := HKP.out; simp [intOf]; omega
        · by_cases hd1 : D = 1
          · subst hd1
            have htk := Mr.tick K hTb.mr N B q2 C2 os (hV2.below hTb.mr.below) (by omega) (fun h0 y9 hy hk => by have h1 := hf2 h0 y9 hy; have h2 := hTb.mr.far; omega)
            have hrt := fun W (hv : Row.Vals orS W B q2 os) => reftick_any s N B q2 C2 os hO W hv (by omega)
            unfold refV at hrt
            have HLen1 := Lib.hid (show (tickT s N os).2.length ≤ 1000 by have h1 := tick_len s N os; have h2 := hV2.len_; omega)
            generalize tickT s N os = r1 at *
            obtain ⟨s1, E1⟩ := r1
            have HV2 := Lib.hid hV2
            clear hV1 hV2 hf1 hf2 hO
            go_upto_region 29 with (first
              | (go_at_call 12; ((with_reducible refine htk.mono ?_); rintro e W3 ⟨V3, rfl, hO3, hM3, hK3⟩; (try dsimp only at hO3 hM3); have hY3 := hK3.has hTb.st (by have h1 := hTb.ne_; simp; omega); have hZ3 := hK3.has hZ (by simp; omega); have z2 : W3.cell? ⟨wr.heap.size, 2, none⟩ = some (.int .i64 N) := hZ3.cell 2; obtain ⟨A3, d3, rfl, -, -, hG3, hf3, -⟩ := Row.Vals.own hO3; clear hO3))
              | (refine ref_ld rfl _ rfl _ rfl hY3 (ref_size _) ?_)
              | (go_at_call 13; ((with_reducible refine (hrt _ (HV2.out.below hM3.below)).mono ?_); rintro e W5 ⟨B5, d5, rfl, h93, h94, hV5, hf5, hB5⟩; (try dsimp only at hV5); have hY5 := hY3.below hB5 hY3.lt; have hM5 := Mr.grow K hM3 hB5; have hG5 := hG3.below hB5))
              | (refine ref_st rfl _ _ rfl _ _ rfl rfl hY5 (ref_size _) rfl (ref_one _) ?_))
            (try dsimp only)
            have hK6 := kept_row W5 y (refC s1)
            have hP9 : Pl Alm w b y s1 (W5.setRow y (refC s1)) := ⟨Mr.late K hM5 hK6 (fun k9 hk9 => by simp at hk9; subst hk9; exact ⟨hTb.far, hTb.ne_⟩), hY5.row _, hTb.ne_, hTb.far⟩
            have hVg := hG5.kept hK6 (fun _ x9 hx hk9 => by have h1 := (hf3 x9 hx).1; simp at hk9; omega)
            have hVw := hV5.kept hK6 (fun _ x9 hx hk9 => by have h1 := hf5 x9 hx; have h2 := hY3.lt; simp at hk9; omega)
            generalize W5.setRow y (refC s1) = W6 at *
            have HEL := Lib.hid (show E1.length ≤ 1000 from HLen1.out)
            (try clear hB5)
            clear z2 hM5 hG5 hK6 hM3 hK3 hY3 hZ3 hY5 hG3 hf3 hV5 hf5 hTb hZ htk hrt hbz hs8 hmB hmC e1 e2 e3 e4 e5 e6 e7 c0 c1 c2 c3 HLen1
            have hsa := fun W hv hu => same_yes A3 B5 (E1).length d3 d5 E1 W hv hu (by have := HEL.out; omega)
            have hal := fun W hW => alike_k K b s1 W hW
            unfold refV at hal
            have HAL := Lib.hid hal
            clear hal
            have HSA := Lib.hid hsa
            clear hsa
            go_wp2_with (first
              | (go_at_call 15; ((refine Calls.mono (by exact HSA.out _ hVg hVw) ?_); rintro e Ws ⟨rfl, zz, rfl⟩; have hPs := hP9.grow K (below_drewN (Below.refl _ _) zz)))
              | (refine ref_ldw _ rfl _ rfl hPs.st (ref_size _) (by rfl) ?_)
              | (go_at_call 16; ((with_reducible refine (HAL.out _ hPs.mr.alm).mono ?_); rintro e Wt ⟨rfl, hBt⟩; have hPt := hPs.grow K hBt)))
            go_roundw
            case rel => exact ⟨k + 1, b, s1, by have := HKP.out; omega, rfl, by go_num, hPt⟩
            case measure => have := HKP.out; simp [intOf]; omega
          · by_cases hd2 : D = 2
            · subst hd2
              clear hV1 hV2 hf1 hf2 hO
              have hcl := fun W (h : Alm W b s) => K.clone_any W b s h
              go_upto_region 27 with (first
                | (go_at_call 14; ((with_reducible refine (hcl _ hTb.mr.alm).mono ?_); rintro e W3 ⟨c, rfl, hC3, hfc, hB3⟩; have hO3 := hTb.grow K hB3; have hZ3 := hZ.below hB3 hZ.lt; have z2 : W3.cell? ⟨wr.heap.size, 2, none⟩ = some (.int .i64 N) := hZ3.cell 2)))
              have hcb : c ≠ b ∧ c ≠ y := by omega
              have hNe := Lib.hid hO3.ne_
              have hC4 : Pl Alm w c y s W3 := ⟨⟨hC3, hO3.mr.below, by have h1 := hTb.mr.below.size; omega⟩, hO3.st, by omega, hO3.far⟩
              have htk := Mr.tick_one K hO3.mr N 47 (0, 1, 0) 1
              generalize tickT s N [(0, 1, 0)] = r4 at *
              obtain ⟨s4, E4⟩ := r4
              clear hcl hTb hZ hC3 hmB hmC e1 e2 e3 e4 e5 e6 e7 c0 c1 c2 c3
              (try clear hB3)
              go_upto_region 28 with (first
                | (go_at_call 12; ((with_reducible refine htk.mono ?_); rintro e W5 ⟨V5, rfl, -, hM5, hK5⟩)))
              (try dsimp only at hM5)
              have hC5 := hC4.other K hM5 hK5 hO3.ne_ hcb.1
              clear z2 htk hO3 hZ3 hC4 hK5
              have hM6 := Mr.alloc K hM5 (.cells #[.int .i64 3, .int .i64 0, .bool true, .int .i64 1, .int .i64 0, .bool true] 40)
              have hC6 := hC5.grow K ((Below.refl _ W5).alloc (Nat.le_refl _) (.cells #[.int .i64 3, .int .i64 0, .bool true, .int .i64 1, .int .i64 0, .bool true] 40))
              have hbl : b < W5.heap.size := K.lt hM5.alm
              have hv2 : Row.Vals cdS (W5.alloc (.cells #[.int .i64 3, .int .i64 0, .bool true, .int .i64 1, .int .i64 0, .bool true] 40)) (some ⟨W5.heap.size, 0, none⟩) 2 [(3, 0, true), (1, 0, true)] := Row.Vals.has (S := cdS) (ys := [(3, 0, true), (1, 0, true)]) (tl := []) (Has.new _ _ _)
              have hcd := Mr.conds K hM6 (some ⟨W5.heap.size, 0, none⟩) 2 2 _ hv2 (by omega) (fun h0 y9 hy hk9 => by injection hy with hy; subst hy; simp at hk9; omega)
              generalize condsT s4 [(3, 0, true), (1, 0, true)] = r6 at *
              obtain ⟨s6, E6⟩ := r6
              go_upto_region 29 with (first
                | (go_at_call 10; ((with_reducible refine hcd.mono ?_); rintro e W7 ⟨V7, rfl, -, hM7, hK7⟩)))
              (try dsimp only at hM7)
              have hP9 := hC6.other K hM7 hK7 hNe.out hcb.1
              clear hC5 hC6 hM5 hM6 hcd hv2 hM7 hK7
              have hVg := Row.Vals.none_ (S := otS) W7
              have hVw := hVg
              have HEL := Lib.hid (show ([] : List Ot).length ≤ 1000 by simp)
              have hsa := fun W hv hu => same_yes none none (([] : List Ot)).length 0 0 ([] : List Ot) W hv hu (by have := HEL.out; omega)
              have hal := fun W hW => alike_k K c s W hW
              unfold refV at hal
              have HAL := Lib.hid hal
              clear hal
              have HSA := Lib.hid hsa
              clear hsa
              go_wp2_with (first
                | (go_at_call 15; ((refine Calls.mono (by exact HSA.out _ hVg hVw) ?_); rintro e Ws ⟨rfl, zz, rfl⟩; have hPs := hP9.grow K (below_drewN (Below.refl _ _) zz)))
                | (refine ref_ldw _ rfl _ rfl hPs.st (ref_size _) (by rfl) ?_)
                | (go_at_call 16; ((with_reducible refine (HAL.out _ hPs.mr.alm).mono ?_); rintro e Wt ⟨rfl, hBt⟩; have hPt := hPs.grow K hBt)))
              go_roundw
              case rel => exact ⟨k + 1, c, s, by have := HKP.out; omega, rfl, by go_num, hPt⟩
              case measure => have := HKP.out; simp [intOf]; omega
            · have b0 : (D == 0) = false := by simpa using hd0
              have b1 : (D == 1) = false := by simpa using hd1
              have b2 : (D == 2) = false := by simpa using hd2
              go_upto_region 29 with (fail)
              have hP9 := hTb
              clear hTb hZ hV1 hV2 hf1 hf2 hbz hs8 hO hmB hmC e1 e2 e3 e4 e5 e6 e7 c0 c1 c2 c3
              generalize wr.alloc _ = Wz at *
              have hVg := Row.Vals.none_ (S := otS) Wz
              have hVw := hVg
              have HEL := Lib.hid (show ([] : List Ot).length ≤ 1000 by simp)
              have hsa := fun W hv hu => same_yes none none (([] : List Ot)).length 0 0 ([] : List Ot) W hv hu (by have := HEL.out; omega)
              have hal := fun W hW => alike_k K b s W hW
              unfold refV at hal
              have HAL := Lib.hid hal
              clear hal
              have HSA := Lib.hid hsa
              clear hsa
              go_wp2_with (first
                | (go_at_call 15; ((refine Calls.mono (by exact HSA.out _ hVg hVw) ?_); rintro e Ws ⟨rfl, zz, rfl⟩; have hPs := hP9.grow K (below_drewN (Below.refl _ _) zz)))
                | (refine ref_ldw _ rfl _ rfl hPs.st (ref_size _) (by rfl) ?_)
                | (go_at_call 16; ((with_reducible refine (HAL.out _ hPs.mr.alm).mono ?_); rintro e Wt ⟨rfl, hBt⟩; have hPt := hPs.grow K hBt)))
              go_roundw
              case rel => exact ⟨k + 1, b, s, by have := HKP.out; omega, rfl, by go_num, hPt⟩
              case measure => have := HKP.out; simp [intOf]; omega
      · obtain rfl : k = p := by omega
        go_wp2_with (first
          | (go_at_call 9; ((with_reducible refine (hli _).mono ?_); rintro e W8 ⟨rfl, hB8⟩; have hM8 := hP.grow K hB8)))
        go_ret
        exact ⟨rfl, hM8.mr.below⟩
  · have hnew := fun W => K.new_no W n hn
    clear w1
    by_cases h1 : n < 1
    · clear hn
      go_enter Try.func3, Try.ntmps3
      go_wp2_with (first
        | (go_at_call 8; ((with_reducible refine (hnew _).mono ?_); rintro e W1 ⟨rfl, hB1⟩))
        | (go_at_call 9; ((with_reducible refine (hli _).mono ?_); rintro e W8 ⟨rfl, hB8⟩; have hB9 := hB1.trans (hB8.mono hB1.size))))
      go_ret
      exact ⟨rfl, hB9⟩
    · have h2 : 1048576 < n := by omega
      clear hn
      go_enter Try.func3, Try.ntmps3
      go_wp2_with (first
        | (go_at_call 8; ((with_reducible refine (hnew _).mono ?_); rintro e W1 ⟨rfl, hB1⟩))
        | (go_at_call 9; ((with_reducible refine (hli _).mono ?_); rintro e W8 ⟨rfl, hB8⟩; have hB9 := hB1.trans (hB8.mono hB1.size))))
      go_ret
      exact ⟨rfl, hB9⟩
end Go.Proofs.Ytahoiaiknchehaa.Alarm
