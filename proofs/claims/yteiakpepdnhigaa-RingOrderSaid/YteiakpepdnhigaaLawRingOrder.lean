/- Whatever log, lists and numbers to take come in, RingOrder answers true, and writes nothing that was there. -/
import Derived.Test.YteiakpepdnhigaaRows
import Derived.ShutString
import Derived.ChangeOld
import Derived.Below
import Derived.Test.YteiakpepdnhigaaLawKit
import Derived.Test.YteiakpepdnhigaaRingLive
import Derived.Test.YteiakpepdnhigaaRingSame
import Derived.Test.YteiakpepdnhigaaRingArgs
import Derived.Deep.Matrix
set_option linter.unusedSimpArgs false
set_option linter.unusedVariables false
namespace Go.Proofs.Yteiakpepdnhigaa.ringOrder
open Go.Deep
open Go.ChangeShapes Go.WideShapes Go.ChangeAt Go.RowKit
open Go.ChangeMaps (open_string shut_string)
open RInt
/-- The law's loop: all that was put is what was got, and what the ring has, in order. -/
def Going (w : World) (b g nn B : Nat) (m : Nat) (i v9 v10 : Value) (wr : World) : Prop :=
  ∃ j, j ≤ m ∧ i = .int .i64 (j : Nat) ∧ ∃ f cs xs ps gs np ng, Ring wr b g nn nn f cs xs ∧ wr.ownsRow B 3 1 v9 np (vals ps) ∧ wr.ownsRow B 3 1 v10 ng (vals gs) ∧ ps = gs ++ xs ∧ np ≤ 30 * j ∧
    Apart v9 v10 ∧ B ≤ wr.heap.size ∧ Below w.heap.size w wr
set_option maxRecDepth 100000 in
set_option maxHeartbeats 8000000 in
theorem walk (a0 : Int) (a1 : Option Addr) (len1 cap1 : Nat) (a2 : Option Addr) (len2 cap2 : Nat) (z2 : List Int) (w : World) (w0 : (Lit.int .u8 a0).wf = true) (w1 : IsRows .i64 w a1 len1 cap1) (w2 : IsRow .u8 w a2 len2 cap2 z2) :
    Calls Try.prog 4 #[.int .u8 a0, .slice a1 len1 cap1, .slice a2 len2 cap2] w fun e w' => e = .returned (.bool true) ∧ Below w.heap.size w w' := by
  have b0 : 0 ≤ a0 ∧ a0 ≤ 255 := bounds_u8 w0
  clear w0
  obtain ⟨k, hk⟩ : ∃ k : Nat, a0 % 6 = (k : Int) := ⟨(a0 % 6).toNat, by omega⟩
  have hk5 : k ≤ 5 := by omega
  have hn32 : (2 : Nat) ^ k ≤ 32 := (Nat.pow_le_pow_right (by omega) hk5 : 2 ^ k ≤ 2 ^ 5)
  have hnew := new_yes k (by omega) w
  generalize (2 : Nat) ^ k = nn at hn32 hnew
  obtain ⟨b, g, B, hb, hg, hbB, hgB, hBb, hbg⟩ : ∃ b g B, w.heap.size ≤ b ∧ w.heap.size ≤ g ∧ b < B ∧ g < B ∧ B ≤ b + 1 ∧ (b = w.heap.size + 1 ∧ g = w.heap.size ∧ B = w.heap.size + 2) := ⟨_, _, _, by omega, by omega, by omega, by omega, by omega, rfl, rfl, rfl⟩
  have hnew2 : Calls Try.prog 6 #[.int .i64 (k : Int)] w fun e w' => e = .returned (.tuple #[.pointer (some ⟨b, 0, none⟩), .int .i64 0]) ∧ Ring w' b g nn nn 0 (List.replicate nn 0) [] ∧ Below w.heap.size w w' ∧ B ≤ w'.heap.size := by
    rw [hbg.1, hbg.2.1, hbg.2.2]
    exact hnew.mono fun e w' ⟨h1, h2, h3, h4⟩ => ⟨h1, h2, h3, by omega⟩
  clear hnew hbg
  generalize List.replicate nn (0 : Int) = cs0 at hnew2
  have hl1 : len1 ≤ cap1 ∧ cap1 ≤ 9223372036854775807 := by
    rcases w1 with ⟨_, rfl, rfl⟩ | ⟨x, _, h1, h2, _⟩
    · omega
    · unfold maxLen at h2; omega
  have hl2 : len2 ≤ cap2 ∧ cap2 ≤ 9223372036854775807 := by
    rcases w2 with ⟨_, rfl, rfl, _⟩ | ⟨x, _, h1, h2, _⟩
    · omega
    · unfold maxLen at h2; omega
  obtain ⟨m, hm⟩ : ∃ m, min len1 20 = m := ⟨_, rfl⟩
  have hm1 : m ≤ len1 := by omega
  have hm2 : m ≤ 20 := by omega
  have hminA : (if (20 : Int) < (len1 : Int) then (20 : Int) else (len1 : Int)) = (m : Int) := by split <;> omega
  have HM := Lib.hid hm
  clear hm
  have hInfo : (Try.prog.info? 3).map (fun i => (i.zero, i.size, i.bytes)) = some (some (.int .i64 0), 1, 8) := by kernel_rfl
  have HInfo := Lib.hid hInfo
  clear hInfo
  go_enter Try.func4, Try.ntmps4
  go_wp2_with (go_at_call 6; ((with_reducible refine hnew2.mono ?_); rintro e W1 ⟨rfl, hR1, hB1, hz1⟩))
  clear hminA
  go_loopw [9, 10, 29] (fun v9 v10 i wr => Going w b g nn B m i v9 v10 wr) (fun _ _ i _ => m - (intOf i).toNat)
  case atStart => exact ⟨0, by omega, rfl, 0, cs0, [], [], [], 0, 0, hR1, own_none _ _ _, own_none _ _ _, rfl, by omega, (fun k hk => by cases hk), hz1, hB1⟩
  case round =>
    clear hR1 hB1 hz1 hnew2
    obtain ⟨j, hj, rfl, f, cs, xs, ps, gs, np, ng, hR, h9, h10, hps, hnp, hap, hBz, hB⟩ := hrel
    have hr := hR.core.room
    have hlp := own_len h9
    have hlg := own_len h10
    have hgp : gs.length + xs.length = ps.length := by rw [hps, List.length_append]
    by_cases hlt : j < m
    · rcases w1 with ⟨_, h0, _⟩ | ⟨x1, rfl, _, _, hrow⟩
      · omega
      obtain ⟨A, L, C, Z, hcell0, hrowj⟩ := hrow j (by omega)
      have hcell := (hB.cell (World.block_lt_of_cell? _ _ hcell0)).trans hcell0
      clear hrow hcell0
      obtain ⟨m2, hm2⟩ : ∃ m2, min L 30 = m2 := ⟨_, rfl⟩
      have hm2L : m2 ≤ L := by omega
      have hm230 : m2 ≤ 30 := by omega
      have hminL : (if (30 : Int) < (L : Int) then (30 : Int) else (L : Int)) = (m2 : Int) := by split <;> omega
      obtain ⟨hV, hc1, hc2, hltb⟩ := row_vals hrowj m2 hm2L
      clear hrowj hm2
      generalize Z.take m2 = ys at *
      have hVr := hV.below hB
      have hm2C : m2 ≤ C := by omega
      have hfar : 0 < m2 → ∀ x, A = some x → x.block ≠ b ∧ x.block ≠ g := fun h0 x hx => by have := hltb x h0 hx; omega
      obtain ⟨p, hp⟩ : ∃ p, min m2 (nn - xs.length) = p := ⟨_, rfl⟩
      have hpm : p ≤ m2 := by omega
      have hput := put_any b g nn nn f cs xs A m2 C ys wr hR hVr hm2C (by omega) hfar
      rw [hp, show xs ++ ys.take (nn - xs.length) = xs ++ ys.take p by
        have := hVr.len_
        rcases Nat.le_total m2 (nn - xs.length) with h1 | h1
        · rw [List.take_of_length_le (by omega), List.take_of_length_le (by omega)]
        · rw [show p = nn - xs.length by omega]] at hput
      have hlx : (xs ++ ys.take p).length = xs.length + p := by rw [List.length_append, List.length_take, hVr.len_]; omega
      have hroom0 : p < m2 → ∀ W cs, Ring W b g nn nn f cs (xs ++ ys.take p) → Calls Try.prog 19 #[.pointer (some ⟨b, 0, none⟩)] W fun e w' => e = .returned (.int .i64 0) ∧ ∃ k, w' = W.drewN k := fun h0 W cs hW => room_nat b g nn nn f cs _ 0 W hW (by omega)
      have hgs : ps ++ ys.take p = gs ++ (xs ++ ys.take p) := by rw [hps, List.append_assoc]
      generalize hzs : xs ++ ys.take p = zs at *
      have hng : ng ≤ np := by omega
      have HGS := Lib.hid hgs
      have HLX := Lib.hid hlx
      have HPS := Lib.hid hps
      have HGP := Lib.hid hgp
      have HLP := Lib.hid hlp
      have HLG := Lib.hid hlg
      have HZS := Lib.hid hzs
      clear hgs hlx hps hgp hlp hlg hzs hp
      have htake := fun (T : Nat) W cs (hW : Ring W b g nn nn f cs zs) => take_any b g nn nn f cs zs (T : Int) T W hW (by simp)
      by_cases hlt2 : j < len2
      · rcases w2 with ⟨_, h0, _⟩ | ⟨x2, rfl, _, _, hz2, hcz, hwz⟩
        · omega
        have hcell20 := hcz j (by omega)
        have hx2 := World.block_lt_of_cell? _ _ hcell20
        have htv := bounds_u8 (hwz (z2.getD j 0) (by rw [List.getD_eq_getElem?_getD, List.getElem?_eq_getElem (by omega)]; simp))
        generalize z2.getD j 0 = tv at *
        clear hcz hwz
        obtain ⟨T, hT⟩ : ∃ T : Nat, tv % 40 = (T : Int) := ⟨(tv % 40).toNat, by omega⟩
        by_cases hpl : p < m2
        all_goals
          try have hroom := hroom0 hpl
          clear hroom0
          go_wp2_with (first
            | (go_at_call 10; ((with_reducible refine hput.mono ?_); rintro e W1 ⟨rfl, cs1, hR1, hT1⟩; have hB1 := below_turned hB hT1 hB.size hb hg; have h9a := own_turned h9 hT1 hbB hgB; have h10a := own_turned h10 hT1 hbB hgB; have hVp := (hVr.turned hT1 hfar).take p hpm; have hBz1 := Nat.le_trans hBz hT1.size))
            | (go_at_call 19; ((with_reducible refine (hroom _ _ (by exact hR1)).mono ?_); rintro e W1b ⟨rfl, kk, rfl⟩))
            | (at_builtin; refine wpList_append_vals rfl (.tmp 61) (.tmp 64) _ rfl B 3 8 (by omega) Try.underlying27 HInfo.out u9 np ps rfl (by exact h9a) A p C (ys.take p) rfl (by exact hVp.same rfl) (by omega) (by exact hBz1) ?_; intro v1 w1 hO1 hg1 hat1; have hR2 := Ring.grown (by exact hR1.same rfl) hg1 (fun e => by have := (own_block h9a b e.symm).1; omega) (fun e => by have := (own_block h9a g e.symm).1; omega); have hB2 := Below.grown (by first | exact hB1 | exact below_drewN hB1 _) hg1 (by exact hB1.size) (fun k hk => by have := (own_block h9a k hk).1; omega); have h10b := World.ownsRow.kept (by exact h10a) hg1 hap.symm.kept; have hap1 := Apart.step hap (by exact h10a) hat1; have hBz2 := Nat.le_trans hBz1 hg1.size; have hcell2 := (hB2.cell hx2).trans hcell20)
            | (go_at_call 15; ((with_reducible refine (htake _ _ _ hR2).mono ?_); rintro e W2 ⟨A3, m3, rfl, hV3, hfar3, hm3, f3, cs3, hR3, hT3⟩; have hB3 := below_turned hB2 hT3 hB2.size hb hg; have h9c := own_turned hO1 hT3 hbB hgB; have h10c := own_turned h10b hT3 hbB hgB; have hBz3 := Nat.le_trans hBz2 hT3.size))
            | (at_builtin; refine wpList_append_vals rfl (.tmp 70) (.tmp 78) _ rfl B 3 8 (by omega) Try.underlying27 HInfo.out u10 ng gs rfl (by exact h10c) A3 m3 m3 (zs.take T) rfl (by exact hV3) (by omega) (by exact hBz3) ?_; intro v2 w2 hO2 hg2 hat2; have hR4 := Ring.grown (by exact hR3) hg2 (fun e => by have := (own_block h10c b e.symm).1; omega) (fun e => by have := (own_block h10c g e.symm).1; omega); have hB4 := Below.grown hB3 hg2 (by exact hB3.size) (fun k hk => by have := (own_block h10c k hk).1; omega); have h9d := World.ownsRow.kept h9c hg2 hap1.kept; have hap2 := (Apart.step hap1.symm h9c hat2).symm; have hBz4 := Nat.le_trans hBz3 hg2.size))
          go_roundw
          case rel => exact ⟨j + 1, by omega, by go_num, f3, cs3, zs.drop T, ps ++ ys.take p, gs ++ zs.take T, np + p, ng + m3, hR4, h9d, hO2, by rw [HGS.out, List.append_assoc, List.take_append_drop], by omega, hap2, hBz4, hB4⟩
          case measure => simp [intOf]; omega
      · by_cases hpl : p < m2
        all_goals
          try have hroom := hroom0 hpl
          clear hroom0
          go_wp2_with (first
            | (go_at_call 10; ((with_reducible refine hput.mono ?_); rintro e W1 ⟨rfl, cs1, hR1, hT1⟩; have hB1 := below_turned hB hT1 hB.size hb hg; have h9a := own_turned h9 hT1 hbB hgB; have h10a := own_turned h10 hT1 hbB hgB; have hVp := (hVr.turned hT1 hfar).take p hpm; have hBz1 := Nat.le_trans hBz hT1.size))
            | (go_at_call 19; ((with_reducible refine (hroom _ _ (by exact hR1)).mono ?_); rintro e W1b ⟨rfl, kk, rfl⟩))
            | (at_builtin; refine wpList_append_vals rfl (.tmp 61) (.tmp 64) _ rfl B 3 8 (by omega) Try.underlying27 HInfo.out u9 np ps rfl (by exact h9a) A p C (ys.take p) rfl (by exact hVp.same rfl) (by omega) (by exact hBz1) ?_; intro v1 w1 hO1 hg1 hat1; have hR2 := Ring.grown (by exact hR1.same rfl) hg1 (fun e => by have := (own_block h9a b e.symm).1; omega) (fun e => by have := (own_block h9a g e.symm).1; omega); have hB2 := Below.grown (by first | exact hB1 | exact below_drewN hB1 _) hg1 (by exact hB1.size) (fun k hk => by have := (own_block h9a k hk).1; omega); have h10b := World.ownsRow.kept (by exact h10a) hg1 hap.symm.kept; have hap1 := Apart.step hap (by exact h10a) hat1; have hBz2 := Nat.le_trans hBz1 hg1.size))
          go_roundw
          case rel => exact ⟨j + 1, by omega, by go_num, f, cs1, zs, ps ++ ys.take p, gs, np + p, ng, hR2, hO1, h10b, HGS.out, by omega, hap1, hBz2, hB2⟩
          case measure => simp [intOf]; omega
    · obtain rfl : j = m := by omega
      have hx100 : xs.take 100 = xs ∧ xs.drop 100 = [] := ⟨List.take_of_length_le (by omega), List.drop_of_length_le (by omega)⟩
      have htake : Calls Try.prog 15 #[.pointer (some ⟨b, 0, none⟩), .int .i64 100] wr (TookAny wr b g nn nn xs 100) := take_any b g nn nn f cs xs 100 100 wr hR rfl
      have hlen0 : ∀ W f cs, Ring W b g nn nn f cs (xs.drop 100) → Calls Try.prog 20 #[.pointer (some ⟨b, 0, none⟩)] W fun e w' => e = .returned (.int .i64 0) ∧ ∃ k, w' = W.drewN k := fun W f cs h => len_q b g nn nn f cs _ 0 W h (by rw [hx100.2]; rfl)
      have hps2 : vals (gs ++ xs.take 100) = vals ps := by rw [hx100.1, hps]
      have hng : ng ≤ np := by omega
      have HPS := Lib.hid hps2
      have HLX := Lib.hid hlp
      have HLG := Lib.hid hlg
      clear hps hps2 hx100 hgp hlp hlg
      go_wp2_with (first
        | (go_at_call 15; ((with_reducible refine htake.mono ?_); rintro e W2 ⟨A3, m3, rfl, hV3, hfar3, hm3, f3, cs3, hR3, hT3⟩; have hB3 := below_turned hB hT3 hB.size hb hg; have h9c := own_turned h9 hT3 hbB hgB; have h10c := own_turned h10 hT3 hbB hgB; have hBz3 := Nat.le_trans hBz hT3.size))
        | (at_builtin; refine wpList_append_vals rfl (.tmp 81) (.tmp 83) _ rfl B 3 8 (by omega) Try.underlying27 HInfo.out u10 ng gs rfl (by exact h10c) A3 m3 m3 (xs.take 100) rfl (by exact hV3) (by omega) (by exact hBz3) ?_; intro v2 w2 hO2 hg2 hat2; have hR4 := Ring.grown (by exact hR3) hg2 (fun e => by have := (own_block h10c b e.symm).1; omega) (fun e => by have := (own_block h10c g e.symm).1; omega); have hB4 := Below.grown hB3 hg2 (by exact hB3.size) (fun k hk => by have := (own_block h10c k hk).1; omega); have h9d := World.ownsRow.kept h9c hg2 hap.kept; rw [HPS.out] at hO2; have hl2 := (own_len hO2).symm.trans HLX.out; obtain ⟨A9, c9, rfl, e1, e2, hV9, e3⟩ := Vals.own h9d; obtain ⟨A8, c8, rfl, e4, e5, hV8, e6⟩ := Vals.own hO2; rw [hl2] at hV8)
        | (go_at_call 14; ((with_reducible refine (same_yes A9 A8 np _ _ ps _ hV9 hV8 (by omega)).mono ?_); rintro e W5 ⟨rfl, kk, rfl⟩))
        | (go_at_call 20; ((with_reducible refine (hlen0 _ _ _ (by exact hR4.same rfl)).mono ?_); rintro e W7 ⟨rfl, kk2, rfl⟩))
        | (go_at_call 8; ((with_reducible refine (live_ok _).mono ?_); rintro e W9 ⟨rfl, hN⟩)))
      go_ret
      exact ⟨rfl, (below_drewN hB4 _).trans (hN.mono (by exact hB4.size))⟩

theorem own : ownKnob Try.prog.godebug = none := by kernel_rfl
theorem laidOut : laidOutB Try.prog = true := by kernel_rfl

/-! ### The row's step -/
set_option maxRecDepth 100000 in
theorem lifted (os : Os) (started : os.Started) (H : Type) (enc : TypeId × Value → H) :
    ReturnsInHanded {} Try.checked os 4 .any (Rows.ringOrderSpec.pre6 enc Try.prog Try.f4 Rows.ringOrderRow.domain false) (Rows.ringOrderSpec.post enc Try.prog Try.f4 false true false false) := by
  refine returnsInHanded_of_change (C := Try.checked) own started (by kernel_rfl) Try.func4
    (ChangeSpec.witness6 (enc := enc) (C := Try.checked) false ⟨#[], #[.int .u8 0, .slice none 0 0, .slice none 0 0], []⟩ 8 (by kernel_rfl) (by kernel_rfl) (by kernel_rfl) (by kernel_rfl)) ?_
  intro W base args ds gs before hval0 hW hcnd _
  have hval : ∀ (j : Nat) t v, Try.f4.params[j]? = some t → args[j]? = some v → Value.okWide Try.prog W .any base t v := hval0
  have hW' := hW
  obtain ⟨p, q, hA0, hV, rfl, hfz, hnd⟩ := hW
  have hA : DataW.TrodAll enc Try.prog W 0 (fun _ => true) true Try.f4.params.toList args.toList ds p := hA0
  rw [Try.params4] at hA hval
  obtain ⟨v0, vs0, d0, ds0, p0, q0, hargs, rfl, rfl, h0, r0⟩ := trodAll_cons hA
  obtain ⟨v1, vs1, d1, ds1, p1, q1, rfl, rfl, rfl, h1, r1⟩ := trodAll_cons r0
  obtain ⟨v2, vs2, d2, ds2, p2, q2, rfl, rfl, rfl, h2, r2⟩ := trodAll_cons r1
  obtain ⟨rfl, rfl, rfl⟩ := trodAll_nil r2
  obtain rfl : args = #[v0, v1, v2] := by cases args; simp_all
  obtain ⟨rfl, rfl⟩ := trodVars_none hV
  obtain ⟨a0, rfl, rfl, rfl, w0⟩ := open_int Try.underlying5 (hval 0 5 v0 rfl rfl) h0
  obtain ⟨a1, len1, cap1, rfl⟩ := okWide_slice Try.underlying48 (hval 1 48 v1 rfl rfl)
  have k1 := h1
  have lt1 : ∀ x ∈ p1, x.block < W.heap.size := by obtain ⟨m, hm⟩ := k1; exact DataW.trod_lt m _ _ _ hm
  have w1 : IsRows .i64 W a1 len1 cap1 := by
    obtain ⟨fuel, hf⟩ := h1
    rcases open_int_rows Try.underlying48 Try.underlying27 Try.underlying3 (by kernel_rfl) (by kernel_rfl) hf with ⟨hcs, _⟩ | ⟨x, l, c, A, L, C, Z, hcs, hx, hl, hm, _, hr⟩
    · simp [Value.cells] at hcs
      obtain ⟨rfl, rfl, rfl⟩ := hcs
      exact .inl ⟨rfl, rfl, rfl⟩
    · simp [Value.cells] at hcs
      obtain ⟨rfl, rfl, rfl⟩ := hcs
      exact isRows_some hl hm hr
  obtain ⟨a2, len2, cap2, rfl⟩ := okWide_slice Try.underlying49 (hval 2 49 v2 rfl rfl)
  have k2 := h2
  have lt2 : ∀ x ∈ p2, x.block < W.heap.size := by obtain ⟨m, hm⟩ := k2; exact DataW.trod_lt m _ _ _ hm
  obtain ⟨z2, w2⟩ : ∃ zs, IsRow .u8 W a2 len2 cap2 zs := by
    obtain ⟨fuel, hf⟩ := h2
    rcases open_ints Try.underlying49 Try.underlying5 (by kernel_rfl) hf with ⟨hcs, _⟩ | ⟨x, l, c, zs, hcs, hx, hl, hm, hz, _, hcell, hwz⟩
    · simp [Value.cells] at hcs
      obtain ⟨rfl, rfl, rfl⟩ := hcs
      exact ⟨[], .inl ⟨rfl, rfl, rfl, rfl⟩⟩
    · simp [Value.cells] at hcs
      obtain ⟨rfl, rfl, rfl⟩ := hcs
      exact ⟨zs, isRow_some hl hm (by simpa using hz) hcell hwz⟩
  clear hA0 hval0
  refine (walk a0 a1 len1 cap1 a2 len2 cap2 z2 W w0 w1 w2).mono fun e W' ⟨he, bel⟩ => ?_
  subst he
  exact ⟨_, rfl, _, _, _, [], _, [], hW', trodAll_mk1 (shut_bool Try.underlying4 _), (trodAll_cons_mk (shut_int Try.underlying5 w0) (trodAll_cons_mk (Below.trod laidOut (by kernel_rfl) (of_decide_eq_true (by kernel_rfl)) k1 bel lt1) (trodAll_cons_mk (Below.trod laidOut (by kernel_rfl) (of_decide_eq_true (by kernel_rfl)) k2 bel lt2) trodAll_mk0))), rfl, bel.frame _, fun h => by cases h⟩

theorem over : Rows.ringOrderRow.holds Try.pinned (OpenSpec.ofChange Rows.ringOrderSpec) :=
  OpenClaim.holds_of_wide 4 Try.f4 rfl rfl rfl rfl rfl rfl rfl ⟨rfl, rfl, rfl, rfl, rfl⟩ rfl rfl rfl rfl rfl (by kernel_rfl) Try.func4 (by kernel_rfl)
    (of_decide_eq_true (by kernel_rfl)) (by unfold Func.isWrapper; first | (rw [if_pos (by decide +kernel)]; kernel_rfl) | (rw [if_neg (by decide +kernel)]; exact ⟨rfl, rfl⟩))
    (fun os started H enc _ => lifted os started H enc)

theorem proved : Rows.RingOrderSaid := over
#print axioms proved
end Go.Proofs.Yteiakpepdnhigaa.ringOrder
