/- Whatever two rows of bytes come in, CrcPieces answers true, and writes nothing that was there. -/
import Derived.Test.YtgeidghdigdldaaRows
import Derived.ShutString
import Derived.ChangeOld
import Derived.Below
import Derived.Test.YtgeidghdigdldaaLawKit
import Derived.Test.YtgeidghdigdldaaCrcB
import Derived.Test.YtgeidghdigdldaaOwn
set_option linter.unusedSimpArgs false
set_option linter.unusedVariables false
namespace Go.Proofs.Ytgeidghdigdldaa.crcPieces
open Go.ChangeShapes Go.WideShapes Go.ChangeAt Go.RowKit
open Go.ChangeMaps (open_string shut_string)
open Crc RU8
set_option maxRecDepth 100000 in
set_option maxHeartbeats 2000000 in
theorem walk (a0 : Option Addr) (len0 cap0 : Nat) (z0 : List Int) (a1 : Option Addr) (len1 cap1 : Nat) (z1 : List Int) (w : World) (w0 : IsRow .u8 w a0 len0 cap0 z0) (w1 : IsRow .u8 w a1 len1 cap1 z1) :
    Calls Try.prog 5 #[.slice a0 len0 cap0, .slice a1 len1 cap1] w fun e w' => e = .returned (.bool true) ∧ Below w.heap.size w w' := by
  obtain ⟨xs, hv0, hb0, hl0, hm0, hlt0⟩ := row_vals w0
  obtain ⟨ys, hv1, hb1, hl1, hm1, hlt1⟩ := row_vals w1
  clear w0 w1
  have hlive := live_ok w
  rcases Nat.lt_or_ge 1000 len0 with hbig | hs0
  · clear hv0 hb0 hv1 hb1 hlt0 hlt1
    go_enter Try.func5, Try.ntmps5
    go_wp2_with (go_at_call 7; ((with_reducible refine hlive.mono ?_); rintro e w' ⟨rfl, hB⟩))
    go_ret
    exact ⟨rfl, hB⟩
  rcases Nat.lt_or_ge 1000 len1 with hbig | hs1
  · clear hv0 hb0 hv1 hb1 hlt0 hlt1
    go_enter Try.func5, Try.ntmps5
    go_wp2_with (go_at_call 7; ((with_reducible refine hlive.mono ?_); rintro e w' ⟨rfl, hB⟩))
    go_ret
    exact ⟨rfl, hB⟩
  clear hlive
  have hInfo : (Try.prog.info? 5).map (fun i => (i.zero, i.size, i.bytes)) = some (some (.int .u8 0), 1, 1) := by kernel_rfl
  have HInfo := Lib.hid hInfo
  clear hInfo
  have hsa := sum_any a0 len0 cap0 xs w hv0 hb0 (by omega)
  have hlen1 := hv1.len_
  have hlen0 := hv0.len_
  obtain ⟨f, hst, hz, h0, hend⟩ : ∃ f : Nat → Nat, (∀ j, j < len1 → nextZ (f j) (ys.getD j 0) = f (j + 1)) ∧ (∀ j, f j < 65536) ∧ f 0 = sumZ xs ∧ f len1 = sumZ (xs ++ ys) :=
    ⟨fun j => goZ (sumZ xs) (ys.take j), fun j hj => goZ_take _ _ _ (by omega), fun j => goZ_lt _ _ (sumZ_lt _), rfl, by show goZ (sumZ xs) (ys.take len1) = _; rw [List.take_of_length_le (by omega), sumZ_append]⟩
  rw [← h0] at hsa
  clear h0
  have hbb := hb0.append hb1
  obtain ⟨zs, hzs⟩ : ∃ zs, zs = xs ++ ys := ⟨_, rfl⟩
  rw [← hzs] at hbb hend
  have hsum := fun A c W (hv : Vals W A (len0 + len1) zs) => sum_any A (len0 + len1) c zs W hv hbb (by omega)
  rw [← hend] at hsum
  have hZS := Lib.hid hzs
  clear hend hbb hzs hlen0 hlen1
  have hBa := (Below.refl w.heap.size w).alloc (Nat.le_refl _) (.cells #[] 5)
  have hO0 := own_empty w 5
  go_enter Try.func5, Try.ntmps5
  go_wp2_with (go_at_call 10; ((with_reducible refine hsa.mono ?_); rintro e w' ⟨rfl, rfl⟩))
  go_loop [5, 21] (fun a i => ∃ j : Nat, j ≤ len1 ∧ i = .int .i64 (j : Nat) ∧ a = .int .u16 (f j : Nat)) (fun _ i => len1 - (intOf i).toNat)
  case atStart => exact ⟨0, by omega, rfl, rfl⟩
  case round =>
    obtain ⟨j, hj, rfl, rfl⟩ := hrel
    by_cases h9 : j < len1
    · obtain ⟨x, rfl, hx⟩ := hv1.cells (by omega)
      have hc := hx j h9
      have hs := next_any (f j) (ys.getD j 0) w (hz j) (hb1.at_ j)
      rw [hst j h9] at hs
      have hy := hb1.at_ j
      clear hst hz hx hsum hsa hv0 hv1 hb0 hlt0 hlt1 hZS hBa hO0
      generalize ys.getD j 0 = y at *
      go_wp2_with (go_at_call 8; ((with_reducible refine hs.mono ?_); rintro e w' ⟨rfl, rfl⟩))
      go_round
      case rel => exact ⟨j + 1, by omega, by go_num, rfl⟩
      case measure => simp [intOf]; omega
    · obtain rfl : j = len1 := by omega
      clear hst hz hsa
      go_wp2_with (first
        | (at_builtin; refine wpList_append_vals rfl (.tmp 30) (.tmp 31) _ rfl w.heap.size 5 1 (by omega) Try.underlying23 HInfo.out (.slice (some ⟨w.heap.size, 0, none⟩) 0 0) 0 ([] : List Nat) rfl (by exact hO0) a0 len0 cap0 xs rfl (by exact hv0.alloc _) (by omega) (by simp) ?_; intro v1 W1 hO1 hg1 hat1; have hK1 := Kept.of_grown hg1; have hB1 := below_kept hBa hK1 hBa.size (own_in hO0); have hV1 := hv1.below hB1)
        | (at_builtin; refine wpList_append_vals rfl (.tmp 32) (.tmp 33) _ rfl w.heap.size 5 1 (by omega) Try.underlying23 HInfo.out v1 (0 + len0) ([] ++ xs) rfl (by exact hO1) a1 j cap1 ys rfl (by exact hV1) (by omega) (by exact hB1.size) ?_; intro v2 W2 hO2 hg2 hat2; have hK2 := Kept.of_grown hg2; have hB2 := below_kept hB1 hK2 hB1.size (own_in hO1); rw [List.nil_append, ← hZS.out, Nat.zero_add] at hO2; obtain ⟨A9, c9, rfl, e1, e2, hV9, e3⟩ := Vals.own hO2)
        | (go_at_call 10; ((with_reducible refine (hsum _ _ _ (by exact hV9)).mono ?_); rintro e w' ⟨rfl, rfl⟩))
        | (go_at_call 7; ((with_reducible refine (live_ok _).mono ?_); rintro e w' ⟨rfl, hB3⟩)))
      go_ret
      exact ⟨rfl, hB2.trans (hB3.mono hB2.size)⟩

theorem own : ownKnob Try.prog.godebug = none := by kernel_rfl
theorem laidOut : laidOutB Try.prog = true := by kernel_rfl

/-! ### The row's step -/
set_option maxRecDepth 100000 in
theorem lifted (os : Os) (started : os.Started) (H : Type) (enc : TypeId × Value → H) :
    ReturnsInHanded {} Try.checked os 5 .any (Rows.crcPiecesSpec.pre6 enc Try.prog Try.f5 Rows.crcPiecesRow.domain false) (Rows.crcPiecesSpec.post enc Try.prog Try.f5 false true false false) := by
  refine returnsInHanded_of_change (C := Try.checked) own started (by kernel_rfl) Try.func5
    (ChangeSpec.witness6 (enc := enc) (C := Try.checked) false ⟨#[], #[.slice none 0 0, .slice none 0 0], []⟩ 8 (by kernel_rfl) (by kernel_rfl) (by kernel_rfl) (by kernel_rfl)) ?_
  intro W base args ds gs before hval0 hW hcnd _
  have hval : ∀ (j : Nat) t v, Try.f5.params[j]? = some t → args[j]? = some v → Value.okWide Try.prog W .any base t v := hval0
  have hW' := hW
  obtain ⟨p, q, hA0, hV, rfl, hfz, hnd⟩ := hW
  have hA : DataW.TrodAll enc Try.prog W 0 (fun _ => true) true Try.f5.params.toList args.toList ds p := hA0
  rw [Try.params5] at hA hval
  obtain ⟨v0, vs0, d0, ds0, p0, q0, hargs, rfl, rfl, h0, r0⟩ := trodAll_cons hA
  obtain ⟨v1, vs1, d1, ds1, p1, q1, rfl, rfl, rfl, h1, r1⟩ := trodAll_cons r0
  obtain ⟨rfl, rfl, rfl⟩ := trodAll_nil r1
  obtain rfl : args = #[v0, v1] := by cases args; simp_all
  obtain ⟨rfl, rfl⟩ := trodVars_none hV
  obtain ⟨a0, len0, cap0, rfl⟩ := okWide_slice Try.underlying23 (hval 0 23 v0 rfl rfl)
  have k0 := h0
  have lt0 : ∀ x ∈ p0, x.block < W.heap.size := by obtain ⟨m, hm⟩ := k0; exact DataW.trod_lt m _ _ _ hm
  obtain ⟨z0, w0⟩ : ∃ zs, IsRow .u8 W a0 len0 cap0 zs := by
    obtain ⟨fuel, hf⟩ := h0
    rcases open_ints Try.underlying23 Try.underlying5 (by kernel_rfl) hf with ⟨hcs, _⟩ | ⟨x, l, c, zs, hcs, hx, hl, hm, hz, _, hcell, hwz⟩
    · simp [Value.cells] at hcs
      obtain ⟨rfl, rfl, rfl⟩ := hcs
      exact ⟨[], .inl ⟨rfl, rfl, rfl, rfl⟩⟩
    · simp [Value.cells] at hcs
      obtain ⟨rfl, rfl, rfl⟩ := hcs
      exact ⟨zs, isRow_some hl hm (by simpa using hz) hcell hwz⟩
  obtain ⟨a1, len1, cap1, rfl⟩ := okWide_slice Try.underlying23 (hval 1 23 v1 rfl rfl)
  have k1 := h1
  have lt1 : ∀ x ∈ p1, x.block < W.heap.size := by obtain ⟨m, hm⟩ := k1; exact DataW.trod_lt m _ _ _ hm
  obtain ⟨z1, w1⟩ : ∃ zs, IsRow .u8 W a1 len1 cap1 zs := by
    obtain ⟨fuel, hf⟩ := h1
    rcases open_ints Try.underlying23 Try.underlying5 (by kernel_rfl) hf with ⟨hcs, _⟩ | ⟨x, l, c, zs, hcs, hx, hl, hm, hz, _, hcell, hwz⟩
    · simp [Value.cells] at hcs
      obtain ⟨rfl, rfl, rfl⟩ := hcs
      exact ⟨[], .inl ⟨rfl, rfl, rfl, rfl⟩⟩
    · simp [Value.cells] at hcs
      obtain ⟨rfl, rfl, rfl⟩ := hcs
      exact ⟨zs, isRow_some hl hm (by simpa using hz) hcell hwz⟩
  clear hA0 hval0
  refine (walk a0 len0 cap0 z0 a1 len1 cap1 z1 W w0 w1).mono fun e W' ⟨he, bel⟩ => ?_
  subst he
  exact ⟨_, rfl, _, _, _, [], _, [], hW', trodAll_mk1 (shut_bool Try.underlying4 _), (trodAll_cons_mk (Below.trod laidOut (by kernel_rfl) (of_decide_eq_true (by kernel_rfl)) k0 bel lt0) (trodAll_cons_mk (Below.trod laidOut (by kernel_rfl) (of_decide_eq_true (by kernel_rfl)) k1 bel lt1) trodAll_mk0)), rfl, bel.frame _, fun h => by cases h⟩

theorem over : Rows.crcPiecesRow.holds Try.pinned (OpenSpec.ofChange Rows.crcPiecesSpec) :=
  OpenClaim.holds_of_wide 5 Try.f5 rfl rfl rfl rfl rfl rfl rfl ⟨rfl, rfl, rfl, rfl, rfl⟩ rfl rfl rfl rfl rfl (by kernel_rfl) Try.func5 (by kernel_rfl)
    (of_decide_eq_true (by kernel_rfl)) (by unfold Func.isWrapper; first | (rw [if_pos (by decide +kernel)]; kernel_rfl) | (rw [if_neg (by decide +kernel)]; exact ⟨rfl, rfl⟩))
    (fun os started H enc _ => lifted os started H enc)

theorem proved : Rows.CrcPiecesSaid := over
#print axioms proved
end Go.Proofs.Ytgeidghdigdldaa.crcPieces
