/- Whatever bytes, place and bits come in, CrcTurned answers true, and writes nothing that was there. -/
import Derived.Test.YtgeidghdigdldaaRows
import Derived.ShutString
import Derived.ChangeOld
import Derived.Below
import Derived.Test.YtgeidghdigdldaaLawKit
import Derived.Test.YtgeidghdigdldaaCrcB
import Derived.Test.YtgeidghdigdldaaOwn
set_option linter.unusedSimpArgs false
set_option linter.unusedVariables false
namespace Go.Proofs.Ytgeidghdigdldaa.crcTurned
open Go.ChangeShapes Go.WideShapes Go.ChangeAt Go.RowKit
open Go.ChangeMaps (open_string shut_string)
open Crc RU8
/-- The law's loop behind j places: the copy's bytes, and whether one has turned. -/
def Going (w : World) (A : Option Addr) (n c : Nat) (ls : List Nat) (p : Nat) (s i : Value) (wr : World) : Prop :=
  ∃ (j : Nat) (b : Bool) (ks : List Nat), j ≤ 16 ∧ i = .int .i64 (j : Nat) ∧ s = .bool b ∧ Differ ls p j b ks ∧ Bytes ks ∧ wr.ownsRow w.heap.size 5 1 (.slice A n c) n (vals ks) ∧ Below w.heap.size w wr
set_option maxRecDepth 100000 in
set_option maxHeartbeats 2000000 in
theorem walk (a0 : Option Addr) (len0 cap0 : Nat) (z0 : List Int) (a1 a2 : Int) (w : World) (w0 : IsRow .u8 w a0 len0 cap0 z0) (w1 : (Lit.int .u16 a1).wf = true) (w2 : (Lit.int .u16 a2).wf = true) :
    Calls Try.prog 6 #[.slice a0 len0 cap0, .int .u16 a1, .int .u16 a2] w fun e w' => e = .returned (.bool true) ∧ Below w.heap.size w w' := by
  obtain ⟨ls, hv0, hb0, hl0, hm0, hlt0⟩ := row_vals w0
  have b1 := bounds_u16 w1
  have b2 := bounds_u16 w2
  clear w0 w1 w2
  obtain ⟨p, rfl⟩ : ∃ p : Nat, a1 = (p : Int) := ⟨a1.toNat, by omega⟩
  obtain ⟨q, rfl⟩ : ∃ q : Nat, a2 = (q : Int) := ⟨a2.toNat, by omega⟩
  have hlive := live_ok w
  rcases Nat.lt_or_ge 1000 len0 with hbig | hs0
  · clear hv0 hb0 hlt0
    go_enter Try.func6, Try.ntmps6
    go_wp2_with (go_at_call 7; ((with_reducible refine hlive.mono ?_); rintro e w' ⟨rfl, hB⟩))
    go_ret
    exact ⟨rfl, hB⟩
  clear hlive
  have hInfo : (Try.prog.info? 5).map (fun i => (i.zero, i.size, i.bytes)) = some (some (.int .u8 0), 1, 1) := by kernel_rfl
  have HInfo := Lib.hid hInfo
  clear hInfo
  have hlen0 := hv0.len_
  have hBa := (Below.refl w.heap.size w).alloc (Nat.le_refl _) (.cells #[] 5)
  have hO0 := own_empty w 5
  go_enter Try.func6, Try.ntmps6
  go_wp2_with (at_builtin; refine wpList_append_vals rfl (.tmp 15) (.tmp 16) _ rfl w.heap.size 5 1 (by omega) Try.underlying23 HInfo.out (.slice (some ⟨w.heap.size, 0, none⟩) 0 0) 0 ([] : List Nat) rfl (by exact hO0) a0 len0 cap0 ls rfl (by exact hv0.alloc _) (by omega) (by simp) ?_; intro v1 W1 hO1 hg1 hat1; have hK1 := Kept.of_grown hg1; have hB1 := below_kept hBa hK1 hBa.size (own_in hO0); rw [List.nil_append, Nat.zero_add] at hO1; obtain ⟨A9, c9, rfl, e1, e2, _, _, _⟩ := Vals.own hO1)
  clear hO0 hBa hg1 hat1 hK1
  go_loopw [8, 9] (fun s i wr => Going w A9 len0 c9 ls p s i wr) (fun _ i _ => 16 - (intOf i).toNat)
  case atStart => exact ⟨0, false, ls, by omega, rfl, rfl, Differ.none_ _ _, hb0, hO1, hB1⟩
  case round =>
    clear hO1 hB1
    obtain ⟨j, b, ks, hj, rfl, rfl, hD, hbk, hO, hB⟩ := hrel
    by_cases hlt : j < 16
    · obtain ⟨K, hK⟩ : ∃ K, p + j = K := ⟨_, rfl⟩
      have hKz : (p : Int) + (j : Int) = (K : Int) := by omega
      by_cases hin : K < 8 * len0
      · by_cases hbit : q / 2 ^ j % 2 = 1
        · have hbz : ((q : Int) / 2 ^ j).tmod 2 = 1 := by
            have h9 : ((q / 2 ^ j % 2 : Nat) : Int) = 1 := by rw [hbit]; rfl
            rw [Int.tmod_eq_emod_of_nonneg (Int.ediv_nonneg (by omega) (Int.le_of_lt (Int.pow_pos (by decide))))]
            simpa using h9
          have hlk : ks.length = len0 := own_len hO
          obtain ⟨Q, hQ⟩ : ∃ Q, K / 8 = Q := ⟨_, rfl⟩
          obtain ⟨R, hR⟩ : ∃ R, K % 8 = R := ⟨_, rfl⟩
          have hQz : (K : Int) / 8 = (Q : Int) := by omega
          have hRz : (K : Int) % 8 = (R : Int) := by omega
          have hQl : Q < len0 := by omega
          have hR8 : R < 8 := by omega
          obtain ⟨g, rfl, hg1, hg2, hcell, hfz, hset⟩ := own_set hO Q hQl
          have hD2 := hD.turn (by rw [hK, hQ, hlen0]; exact hQl)
          rw [hK, hQ, hR] at hD2
          have hy := hbk.at_ Q
          have hx : bits .xor .u8 ((ks.getD Q 0 : Nat) : Int) ((128 : Int) / 2 ^ R) = ((ks.getD Q 0 ^^^ 2 ^ (7 - R) : Nat) : Int) := by
            have hp : (128 : Int) / 2 ^ R = ((2 ^ (7 - R) : Nat) : Int) := by
              rcases (by omega : R = 0 ∨ R = 1 ∨ R = 2 ∨ R = 3 ∨ R = 4 ∨ R = 5 ∨ R = 6 ∨ R = 7) with rfl | rfl | rfl | rfl | rfl | rfl | rfl | rfl <;> rfl
            rw [hp]
            refine u8_xor_nat _ _ hy ?_
            have := Nat.pow_le_pow_right (n := 2) (by decide) (show 7 - R ≤ 7 by omega)
            omega
          have hY : ks.getD Q 0 ^^^ 2 ^ (7 - R) < 256 := by
            refine Nat.xor_lt_two_pow (n := 8) hy ?_
            have := Nat.pow_le_pow_right (n := 2) (by decide) (show 7 - R ≤ 7 by omega)
            omega
          have hO2 := hset (ks.getD Q 0 ^^^ 2 ^ (7 - R))
          have hb2 := hbk.set Q _ hY
          have hB2 := hB.setCell (p := ⟨g, Q, none⟩) hg1 (.int .u8 ((ks.getD Q 0 ^^^ 2 ^ (7 - R) : Nat) : Int))
          generalize hYY : ks.getD Q 0 ^^^ 2 ^ (7 - R) = Y at *
          generalize ks.getD Q 0 = y at *
          clear hYY hset
          go_wp2
          go_roundw
          case rel => exact ⟨j + 1, true, ks.set Q Y, by omega, by go_num, rfl, hD2, hb2, hO2, hB2⟩
          case measure => simp [intOf]; omega
        · have hbz : ((q : Int) / 2 ^ j).tmod 2 = 0 := by
            have h8 : q / 2 ^ j % 2 = 0 := by omega
            have h9 : ((q / 2 ^ j % 2 : Nat) : Int) = 0 := by rw [h8]; rfl
            rw [Int.tmod_eq_emod_of_nonneg (Int.ediv_nonneg (by omega) (Int.le_of_lt (Int.pow_pos (by decide))))]
            simpa using h9
          go_wp2
          go_roundw
          case rel => exact ⟨j + 1, b, ks, by omega, by go_num, rfl, hD.stay, hbk, hO, hB⟩
          case measure => simp [intOf]; omega
      · go_wp2
        go_roundw
        case rel => exact ⟨j + 1, b, ks, by omega, by go_num, rfl, hD.stay, hbk, hO, hB⟩
        case measure => simp [intOf]; omega
    · obtain rfl : j = 16 := by omega
      have hs : b = true ↔ sumZ ks ≠ sumZ ls := hD.sums
      have hlk : ks.length = len0 := own_len hO
      obtain ⟨A8, c8, hv8, e3, e4, hV, _, _⟩ := Vals.own hO
      injection hv8 with hv81 hv82 hv83
      subst hv81
      subst hv83
      have hsk := sum_any A9 len0 c9 ks wr hV hbk (by omega)
      have hsl := sum_any a0 len0 cap0 ls wr (hv0.below hB) hb0 (by omega)
      have hlive := live_ok wr
      generalize sumZ ks = m1 at *
      generalize sumZ ls = m2 at *
      clear hD hbk hO hV hv0 hb0
      cases b
      · have he : m1 = m2 := by
          by_cases he : m1 = m2
          · exact he
          · exact absurd (hs.2 he) (by decide)
        subst he
        clear hs
        go_wp2_with (first
          | (go_at_call 10; ((with_reducible refine hsk.mono ?_); rintro e w' ⟨rfl, rfl⟩))
          | (go_at_call 10; ((with_reducible refine hsl.mono ?_); rintro e w' ⟨rfl, rfl⟩))
          | (go_at_call 7; ((with_reducible refine hlive.mono ?_); rintro e w' ⟨rfl, hB3⟩)))
        go_ret
        exact ⟨rfl, hB.trans (hB3.mono hB.size)⟩
      · have he : ((m1 : Int) != (m2 : Int)) = true := by have := hs.1 rfl; simp; omega
        clear hs
        go_wp2_with (first
          | (go_at_call 10; ((with_reducible refine hsk.mono ?_); rintro e w' ⟨rfl, rfl⟩))
          | (go_at_call 10; ((with_reducible refine hsl.mono ?_); rintro e w' ⟨rfl, rfl⟩))
          | (go_at_call 7; ((with_reducible refine hlive.mono ?_); rintro e w' ⟨rfl, hB3⟩)))
        go_ret
        exact ⟨rfl, hB.trans (hB3.mono hB.size)⟩

theorem own : ownKnob Try.prog.godebug = none := by kernel_rfl
theorem laidOut : laidOutB Try.prog = true := by kernel_rfl

/-! ### The row's step -/
set_option maxRecDepth 100000 in
theorem lifted (os : Os) (started : os.Started) (H : Type) (enc : TypeId × Value → H) :
    ReturnsInHanded {} Try.checked os 6 .any (Rows.crcTurnedSpec.pre6 enc Try.prog Try.f6 Rows.crcTurnedRow.domain false) (Rows.crcTurnedSpec.post enc Try.prog Try.f6 false true false false) := by
  refine returnsInHanded_of_change (C := Try.checked) own started (by kernel_rfl) Try.func6
    (ChangeSpec.witness6 (enc := enc) (C := Try.checked) false ⟨#[], #[.slice none 0 0, .int .u16 0, .int .u16 0], []⟩ 8 (by kernel_rfl) (by kernel_rfl) (by kernel_rfl) (by kernel_rfl)) ?_
  intro W base args ds gs before hval0 hW hcnd _
  have hval : ∀ (j : Nat) t v, Try.f6.params[j]? = some t → args[j]? = some v → Value.okWide Try.prog W .any base t v := hval0
  have hW' := hW
  obtain ⟨p, q, hA0, hV, rfl, hfz, hnd⟩ := hW
  have hA : DataW.TrodAll enc Try.prog W 0 (fun _ => true) true Try.f6.params.toList args.toList ds p := hA0
  rw [Try.params6] at hA hval
  obtain ⟨v0, vs0, d0, ds0, p0, q0, hargs, rfl, rfl, h0, r0⟩ := trodAll_cons hA
  obtain ⟨v1, vs1, d1, ds1, p1, q1, rfl, rfl, rfl, h1, r1⟩ := trodAll_cons r0
  obtain ⟨v2, vs2, d2, ds2, p2, q2, rfl, rfl, rfl, h2, r2⟩ := trodAll_cons r1
  obtain ⟨rfl, rfl, rfl⟩ := trodAll_nil r2
  obtain rfl : args = #[v0, v1, v2] := by cases args; simp_all
  obtain ⟨rfl, rfl⟩ := trodVars_none hV
  obtain ⟨a0, len0, cap0, rfl⟩ := okWide_slice Try.underlying23 (hval 0 23 v0 rfl rfl)
  have k0 := h0
  have lt0 : ∀ x ∈ p0, x.block < W.heap.size := by obtain ⟨m, hm⟩ := k0; exact DataW.trod_lt m _ _ _ hm
  obtain ⟨z0, w0⟩ : ∃ zs, IsRow .u8 W a0 len0 cap0 zs := by
    obtain ⟨fuel, hf⟩ := h0
    rcases open_ints Try.underlying23 Try.underlying5 (by kernel_rfl) hf with ⟨hcs, _⟩ | ⟨x, l, c, zs, hcs, hx, hl, hm, hz, _, hcell, hwz⟩
    · simp [Value.cells] at hcs
      obtain ⟨rfl, rfl, rfl⟩ := hcs
      exact ⟨[], .inl ⟨rfl, rfl, rfl, rfl⟩⟩
    · simp [Value.cells] at hcs
      obtain ⟨rfl, rfl, rfl⟩ := hcs
      exact ⟨zs, isRow_some hl hm (by simpa using hz) hcell hwz⟩
  obtain ⟨a1, rfl, rfl, rfl, w1⟩ := open_int Try.underlying22 (hval 1 22 v1 rfl rfl) h1
  obtain ⟨a2, rfl, rfl, rfl, w2⟩ := open_int Try.underlying22 (hval 2 22 v2 rfl rfl) h2
  clear hA0 hval0
  refine (walk a0 len0 cap0 z0 a1 a2 W w0 w1 w2).mono fun e W' ⟨he, bel⟩ => ?_
  subst he
  exact ⟨_, rfl, _, _, _, [], _, [], hW', trodAll_mk1 (shut_bool Try.underlying4 _), (trodAll_cons_mk (Below.trod laidOut (by kernel_rfl) (of_decide_eq_true (by kernel_rfl)) k0 bel lt0) (trodAll_cons_mk (shut_int Try.underlying22 w1) (trodAll_cons_mk (shut_int Try.underlying22 w2) trodAll_mk0))), rfl, bel.frame _, fun h => by cases h⟩

theorem over : Rows.crcTurnedRow.holds Try.pinned (OpenSpec.ofChange Rows.crcTurnedSpec) :=
  OpenClaim.holds_of_wide 6 Try.f6 rfl rfl rfl rfl rfl rfl rfl ⟨rfl, rfl, rfl, rfl, rfl⟩ rfl rfl rfl rfl rfl (by kernel_rfl) Try.func6 (by kernel_rfl)
    (of_decide_eq_true (by kernel_rfl)) (by unfold Func.isWrapper; first | (rw [if_pos (by decide +kernel)]; kernel_rfl) | (rw [if_neg (by decide +kernel)]; exact ⟨rfl, rfl⟩))
    (fun os started H enc _ => lifted os started H enc)

theorem proved : Rows.CrcTurnedSaid := over
#print axioms proved
end Go.Proofs.Ytgeidghdigdldaa.crcTurned
