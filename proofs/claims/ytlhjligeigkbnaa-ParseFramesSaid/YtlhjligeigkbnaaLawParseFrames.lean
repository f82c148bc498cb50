/- Whatever bytes come in, ParseFrames answers true, and writes nothing that was there. -/
import Derived.Test.YtlhjligeigkbnaaRows
import Derived.ShutString
import Derived.ChangeOld
import Derived.Below
import Derived.Test.YtlhjligeigkbnaaLawKit
import Derived.Test.YtlhjligeigkbnaaParseLive
import Derived.Test.YtlhjligeigkbnaaFrameSame
import Derived.Test.YtlhjligeigkbnaaRegion
set_option linter.unusedSimpArgs false
set_option linter.unusedVariables false
namespace Go.Proofs.Ytlhjligeigkbnaa.parseFrames
open Go.ChangeShapes Go.WideShapes Go.ChangeAt Go.RowKit
open Go.ChangeMaps (open_string shut_string)
open Par Frm RU8
theorem same_yes (q : Nat) (A : Option Addr) (n c : Nat) (xs : List Samp) (B : Option Addr) (m d : Nat) (w : World) (hv : Row.Vals sampS w A n xs) (hu : Row.Vals sampS w B m xs) (hn : n ≤ 32) (hm : m ≤ 32) :
    Calls Try.prog 12 #[.agg #[.int .u8 q, .slice A n c], .agg #[.int .u8 q, .slice B m d]] w fun e w' => e = .returned (.bool true) ∧ Below w.heap.size w w' := by
  have := same_any q q A n c xs B m d xs w hv hu (by omega) (by omega)
  rwa [decide_eq_true ⟨rfl, rfl⟩] at this
set_option maxRecDepth 100000 in
set_option maxHeartbeats 2000000 in
theorem walk (a0 : Option Addr) (len0 cap0 : Nat) (z0 : List Int) (w : World) (w0 : IsRow .u8 w a0 len0 cap0 z0) :
    Calls Try.prog 3 #[.slice a0 len0 cap0] w fun e w' => e = .returned (.bool true) ∧ Below w.heap.size w w' := by
  obtain ⟨b, hV0, hb, hl0, hm0, _⟩ := row_vals w0
  clear w0
  rcases Nat.lt_or_ge 1500 len0 with hbig | hs0
  · have hlive := live_ok w
    clear hV0 hb
    go_enter Try.func3, Try.ntmps3
    go_wp2_with (go_at_call 8; ((with_reducible refine hlive.mono ?_); rintro e w' ⟨rfl, hB⟩))
    go_ret
    exact ⟨rfl, hB⟩
  have hfr := fun W hV => frames_any a0 len0 cap0 b W hV hb (by omega) hl0 hm0
  have hwk := fun W hV => refwalk_any a0 len0 cap0 b W hV hb (by omega) hl0 hm0
  have hfi := fun W hV => first_any a0 len0 cap0 b W hV hb (by omega) hl0 hm0
  have hC : Below w.heap.size w w := Below.refl _ _
  have hfew : (walkP 0 b).length ≤ 2000 ∨ True := .inr trivial
  unfold FramesIs at hfr
  unfold WalkIs at hwk
  unfold firstT at hfi
  generalize walkP 0 b = ps at *
  generalize endT b = E at *
  clear hb hfew
  obtain ⟨N, hN⟩ : ∃ N, ps.length = N := ⟨_, rfl⟩
  rw [hN] at hfi
  have HN := Lib.hid hN
  rcases Nat.eq_zero_or_pos N with h0 | h0
  · obtain rfl : ps = [] := List.eq_nil_of_length_eq_zero (by omega)
    rw [decide_eq_false (by omega : ¬ 0 < N)] at hfi
    have hfi2 : ∀ W, Vals W a0 len0 b → Calls Try.prog 11 #[.slice a0 len0 cap0] W fun e w' => e = .returned (.tuple #[.int .i64 0, .bool false]) ∧ Below W.heap.size W w' := hfi
    clear hfi hN h0
    go_enter Try.func3, Try.ntmps3
    go_wp2_with (first
      | (go_at_call 9; ((with_reducible refine (hfr _ hV0).mono ?_); rintro e w1 ⟨A1, n1, c1, qs1, rfl, k1, k2, k3, hV1, hH1, hf1, hB⟩; replace hC := hC.trans (hB.mono hC.size); replace hV0 := hV0.below hB; obtain rfl : n1 = 0 := (frames_len hV1 hH1).1; clear hV1 hH1))
      | (go_at_call 10; ((with_reducible refine (hwk _ hV0).mono ?_); rintro e w2 ⟨A2, n2, c2, qs2, rfl, l1, l2, l3, hV2, hH2, hf2, hB⟩; replace hC := hC.trans (hB.mono hC.size); replace hV0 := hV0.below hB; obtain rfl : n2 = 0 := (places_len hV2 hH2).1; clear hV2 hH2))
      | (go_at_call 11; ((with_reducible refine (hfi2 _ hV0).mono ?_); rintro e w3 ⟨rfl, hB⟩; replace hC := hC.trans (hB.mono hC.size); clear hV0)))
    refine wp_loop_rounds 1 ?_
    rw [rounds_succ]
    go_wp2_with (go_at_call 8; ((with_reducible refine (live_ok _).mono ?_); rintro e w7 ⟨rfl, hB⟩; replace hC := hC.trans (hB.mono hC.size)))
    go_ret
    exact ⟨rfl, hC⟩
  · rw [decide_eq_true h0] at hfi
    go_enter Try.func3, Try.ntmps3
    go_wp2_with (first
      | (go_at_call 9; ((with_reducible refine (hfr _ hV0).mono ?_); rintro e w1 ⟨A1, n1, c1, qs1, rfl, k1, k2, k3, hV1, hH1, hf1, hB⟩; replace hC := hC.trans (hB.mono hC.size); replace hV0 := hV0.below hB; obtain rfl : n1 = N := (frames_len hV1 hH1).1.trans HN.out))
      | (go_at_call 10; ((with_reducible refine (hwk _ hV0).mono ?_); rintro e w2 ⟨A2, n2, c2, qs2, rfl, l1, l2, l3, hV2, hH2, hf2, hB⟩; replace hC := hC.trans (hB.mono hC.size); replace hV0 := hV0.below hB; replace hV1 := hV1.below hB; replace hH1 := hH1.below hB; obtain rfl : n2 = n1 := (places_len hV2 hH2).1.trans HN.out; obtain ⟨y, rfl, _⟩ := hV2.cells h0; have hy0 := first_cell hV2 (places_len hV2 hH2).2 h0))
      | (go_at_call 11; ((with_reducible refine (hfi _ hV0).mono ?_); rintro e w3 ⟨rfl, hB⟩; replace hC := hC.trans (hB.mono hC.size); replace hV1 := hV1.below hB; replace hH1 := hH1.below hB; replace hV2 := hV2.below hB; replace hH2 := hH2.below hB; replace hy0 := (hB.cell (World.block_lt_of_cell? _ _ hy0)).trans hy0; clear hV0)))
    clear hfr hwk hfi hy0
    have hq1 := (frames_len hV1 hH1).2
    have hq2 := (places_len hV2 hH2).2
    obtain ⟨x, rfl, _⟩ := hV1.cells h0
    go_loopw [67] (fun i wr => ∃ j : Nat, j ≤ n2 ∧ i = .int .i64 (j : Nat) ∧ Below w3.heap.size w3 wr) (fun i _ => n2 - (intOf i).toNat)
    case atStart => exact ⟨0, by omega, rfl, Below.refl _ _⟩
    case round =>
      obtain ⟨j, hj, rfl, hW⟩ := hrel
      by_cases hjn : j < n2
      · have hWd := hW.drew
        obtain ⟨e0, e1⟩ := frame_cells (hV1.below hWd) hq1 j hjn
        obtain ⟨_, _, f2, f3⟩ := place_cells (hV2.below hWd) hq2 j hjn
        have hr1 := held_at (hH1.below hWd) j (by omega)
        have hr2 := held_at (hH2.below hWd) j (by omega)
        have hs1 := held_small hH1 j (by rw [List.length_map]; omega)
        have hs2 := held_small hH2 j (by rw [List.length_map]; omega)
        generalize qs1.getD j Ptr.none_ = q1 at *
        generalize qs2.getD j Ptr.none_ = q2 at *
        obtain ⟨B1, m1, d1⟩ := q1
        obtain ⟨B2, m2, d2⟩ := q2
        dsimp only at e1 f3 hr1 hr2 hs1 hs2
        have hsm := same_yes (ps.getD j noPlace).seq B1 m1 d1 (ps.getD j noPlace).l B2 m2 d2 wr.drew hr1 hr2 hs1 hs2
        generalize (ps.getD j noPlace).seq = sq at *
        go_wp2
        refine Reg.begin_ (S := fun W => W.cell? (x.add (j * 2)) = some (.int .u8 (sq : Nat)) ∧ W.cell? ⟨(x.add (j * 2)).block, (x.add (j * 2)).off + 1, none⟩ = some (.slice B1 m1 d1) ∧ W.cell? ⟨(y.add (j * 4)).block, (y.add (j * 4)).off + 2, none⟩ = some (.int .u8 (sq : Nat)) ∧ W.cell? ⟨(y.add (j * 4)).block, (y.add (j * 4)).off + 3, none⟩ = some (.slice B2 m2 d2)) (by kernel_rfl) (by exact ⟨e0, e1, f2, f3⟩) (fun hHeld => ?_)
        refine Reg.take (i := 0) (v := ?v1) rfl (by kernel_rfl) (by kernel_rfl) (by kernel_rfl) (by rfl) ?hv1 (by assumption) ?rest1
        case hv1 => first | (intro w hSw; (try dsimp only at hSw); go_simp; done) | (intro w hSw; (try dsimp only at hSw); go_simp; with_reducible rfl)
        (try simp only [Act.put, List.setIfInBounds_toArray, List.set_cons_zero, List.set_cons_succ])
        refine Reg.take (i := 1) (v := ?v2) rfl (by kernel_rfl) (by kernel_rfl) (by kernel_rfl) (by rfl) ?hv2 (by assumption) ?rest2
        case hv2 => first | (intro w hSw; (try dsimp only at hSw); go_simp; done) | (intro w hSw; (try dsimp only at hSw); go_simp; with_reducible rfl)
        (try simp only [Act.put, List.setIfInBounds_toArray, List.set_cons_zero, List.set_cons_succ])
        refine Reg.take (i := 2) (v := ?v3) rfl (by kernel_rfl) (by kernel_rfl) (by kernel_rfl) (by rfl) ?hv3 (by assumption) ?rest3
        case hv3 => first | (intro w hSw; (try dsimp only at hSw); go_simp; done) | (intro w hSw; (try dsimp only at hSw); go_simp; with_reducible rfl)
        (try simp only [Act.put, List.setIfInBounds_toArray, List.set_cons_zero, List.set_cons_succ])
        refine Reg.take (i := 3) (v := ?v4) rfl (by kernel_rfl) (by kernel_rfl) (by kernel_rfl) (by rfl) ?hv4 (by assumption) ?rest4
        case hv4 => first | (intro w hSw; (try dsimp only at hSw); go_simp; done) | (intro w hSw; (try dsimp only at hSw); go_simp; with_reducible rfl)
        (try simp only [Act.put, List.setIfInBounds_toArray, List.set_cons_zero, List.set_cons_succ])
        refine Reg.take (i := 4) (v := ?v5) rfl (by kernel_rfl) (by kernel_rfl) (by kernel_rfl) (by rfl) ?hv5 (by assumption) ?rest5
        case hv5 => first | (intro w hSw; (try dsimp only at hSw); go_simp; done) | (intro w hSw; (try dsimp only at hSw); go_simp; with_reducible rfl)
        (try simp only [Act.put, List.setIfInBounds_toArray, List.set_cons_zero, List.set_cons_succ])
        refine Reg.take (i := 5) (v := ?v6) rfl (by kernel_rfl) (by kernel_rfl) (by kernel_rfl) (by rfl) ?hv6 (by assumption) ?rest6
        case hv6 => first | (intro w hSw; (try dsimp only at hSw); go_simp; done) | (intro w hSw; (try dsimp only at hSw); go_simp; with_reducible rfl)
        (try simp only [Act.put, List.setIfInBounds_toArray, List.set_cons_zero, List.set_cons_succ])
        refine Reg.take (i := 6) (v := ?v7) rfl (by kernel_rfl) (by kernel_rfl) (by kernel_rfl) (by rfl) ?hv7 (by assumption) ?rest7
        case hv7 => first | (intro w hSw; (try dsimp only at hSw); go_simp; done) | (intro w hSw; (try dsimp only at hSw); go_simp; with_reducible rfl)
        (try simp only [Act.put, List.setIfInBounds_toArray, List.set_cons_zero, List.set_cons_succ])
        refine Reg.take (i := 7) (v := ?v8) rfl (by kernel_rfl) (by kernel_rfl) (by kernel_rfl) (by rfl) ?hv8 (by assumption) ?rest8
        case hv8 => first | (intro w hSw; (try dsimp only at hSw); go_simp; done) | (intro w hSw; (try dsimp only at hSw); go_simp; with_reducible rfl)
        (try simp only [Act.put, List.setIfInBounds_toArray, List.set_cons_zero, List.set_cons_succ])
        refine Reg.take (i := 8) (v := ?v9) rfl (by kernel_rfl) (by kernel_rfl) (by kernel_rfl) (by rfl) ?hv9 (by assumption) ?rest9
        case hv9 => first | (intro w hSw; (try dsimp only at hSw); go_simp; done) | (intro w hSw; (try dsimp only at hSw); go_simp; with_reducible rfl)
        (try simp only [Act.put, List.setIfInBounds_toArray, List.set_cons_zero, List.set_cons_succ])
        refine Reg.call (i := 9) rfl (by kernel_rfl) (by rfl) ?_
        intro K hK
        go_simp
        go_at_call 12
        (with_reducible refine hsm.mono ?_)
        rintro e W5 ⟨rfl, hB5⟩
        have hc0 := (hB5.cell (World.block_lt_of_cell? _ _ e0)).trans e0
        have hc1 := (hB5.cell (World.block_lt_of_cell? _ _ e1)).trans e1
        have hc2 := (hB5.cell (World.block_lt_of_cell? _ _ f2)).trans f2
        have hc3 := (hB5.cell (World.block_lt_of_cell? _ _ f3)).trans f3
        refine hK.out _ _ ⟨hc0, hc1, hc2, hc3⟩ (fun hHeld2 => ?_)
        clear hK K
        (try simp only [Act.put, List.setIfInBounds_toArray, List.set_cons_zero, List.set_cons_succ])
        refine Reg.take (i := 10) (v := ?v10) rfl (by kernel_rfl) (by kernel_rfl) (by kernel_rfl) (by rfl) ?hv10 (by assumption) ?rest10
        case hv10 => first | (intro w hSw; (try dsimp only at hSw); go_simp; done) | (intro w hSw; (try dsimp only at hSw); go_simp; with_reducible rfl)
        (try simp only [Act.put, List.setIfInBounds_toArray, List.set_cons_zero, List.set_cons_succ])
        refine Reg.done (by kernel_rfl) ?_ _
        go_wp2
        go_roundw
        case rel => exact ⟨j + 1, by omega, by go_num, hWd.trans (hB5.mono hWd.size)⟩
        case measure => simp [intOf]; omega
      · have hjn2 : j = n2 := by omega
        subst hjn2
        replace hC := hC.trans (hW.mono hC.size)
        clear hV1 hV2 hH1 hH2
        go_wp2_with (go_at_call 8; ((with_reducible refine (live_ok _).mono ?_); rintro e w7 ⟨rfl, hB⟩; replace hC := hC.trans (hB.mono hC.size)))
        go_ret
        exact ⟨rfl, hC⟩

theorem own : ownKnob Try.prog.godebug = none := by kernel_rfl
theorem laidOut : laidOutB Try.prog = true := by kernel_rfl

/-! ### The row's step -/
set_option maxRecDepth 100000 in
theorem lifted (os : Os) (started : os.Started) (H : Type) (enc : TypeId × Value → H) :
    ReturnsInHanded {} Try.checked os 3 .any (Rows.parseFramesSpec.pre6 enc Try.prog Try.f3 Rows.parseFramesRow.domain false) (Rows.parseFramesSpec.post enc Try.prog Try.f3 false true false false) := by
  refine returnsInHanded_of_change (C := Try.checked) own started (by kernel_rfl) Try.func3
    (ChangeSpec.witness6 (enc := enc) (C := Try.checked) false ⟨#[], #[.slice none 0 0], []⟩ 8 (by kernel_rfl) (by kernel_rfl) (by kernel_rfl) (by kernel_rfl)) ?_
  intro W base args ds gs before hval0 hW hcnd _
  have hval : ∀ (j : Nat) t v, Try.f3.params[j]? = some t → args[j]? = some v → Value.okWide Try.prog W .any base t v := hval0
  have hW' := hW
  obtain ⟨p, q, hA0, hV, rfl, hfz, hnd⟩ := hW
  have hA : DataW.TrodAll enc Try.prog W 0 (fun _ => true) true Try.f3.params.toList args.toList ds p := hA0
  rw [Try.params3] at hA hval
  obtain ⟨v0, vs0, d0, ds0, p0, q0, hargs, rfl, rfl, h0, r0⟩ := trodAll_cons hA
  obtain ⟨rfl, rfl, rfl⟩ := trodAll_nil r0
  obtain rfl : args = #[v0] := by cases args; simp_all
  obtain ⟨rfl, rfl⟩ := trodVars_none hV
  obtain ⟨a0, len0, cap0, rfl⟩ := okWide_slice Try.underlying22 (hval 0 22 v0 rfl rfl)
  have k0 := h0
  have lt0 : ∀ x ∈ p0, x.block < W.heap.size := by obtain ⟨m, hm⟩ := k0; exact DataW.trod_lt m _ _ _ hm
  obtain ⟨z0, w0⟩ : ∃ zs, IsRow .u8 W a0 len0 cap0 zs := by
    obtain ⟨fuel, hf⟩ := h0
    rcases open_ints Try.underlying22 Try.underlying5 (by kernel_rfl) hf with ⟨hcs, _⟩ | ⟨x, l, c, zs, hcs, hx, hl, hm, hz, _, hcell, hwz⟩
    · simp [Value.cells] at hcs
      obtain ⟨rfl, rfl, rfl⟩ := hcs
      exact ⟨[], .inl ⟨rfl, rfl, rfl, rfl⟩⟩
    · simp [Value.cells] at hcs
      obtain ⟨rfl, rfl, rfl⟩ := hcs
      exact ⟨zs, isRow_some hl hm (by simpa using hz) hcell hwz⟩
  clear hA0 hval0
  refine (walk a0 len0 cap0 z0 W w0).mono fun e W' ⟨he, bel⟩ => ?_
  subst he
  exact ⟨_, rfl, _, _, _, [], _, [], hW', trodAll_mk1 (shut_bool Try.underlying4 _), (trodAll_cons_mk (Below.trod laidOut (by kernel_rfl) (of_decide_eq_true (by kernel_rfl)) k0 bel lt0) trodAll_mk0), rfl, bel.frame _, fun h => by cases h⟩

theorem over : Rows.parseFramesRow.holds Try.pinned (OpenSpec.ofChange Rows.parseFramesSpec) :=
  OpenClaim.holds_of_wide 3 Try.f3 rfl rfl rfl rfl rfl rfl rfl ⟨rfl, rfl, rfl, rfl, rfl⟩ rfl rfl rfl rfl rfl (by kernel_rfl) Try.func3 (by kernel_rfl)
    (of_decide_eq_true (by kernel_rfl)) (by unfold Func.isWrapper; first | (rw [if_pos (by decide +kernel)]; kernel_rfl) | (rw [if_neg (by decide +kernel)]; exact ⟨rfl, rfl⟩))
    (fun os started H enc _ => lifted os started H enc)

theorem proved : Rows.ParseFramesSaid := over
#print axioms proved
end Go.Proofs.Ytlhjligeigkbnaa.parseFrames
