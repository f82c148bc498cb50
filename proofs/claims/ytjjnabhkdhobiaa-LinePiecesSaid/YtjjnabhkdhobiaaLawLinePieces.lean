/- Whatever number, values and cut come in, LinePieces answers true, and writes nothing that was there. -/
import Derived.Test.YtjjnabhkdhobiaaRows
import Derived.ShutString
import Derived.ChangeOld
import Derived.Below
import Derived.Test.YtjjnabhkdhobiaaLawKit
import Derived.Test.YtjjnabhkdhobiaaLineLive
set_option linter.unusedSimpArgs false
set_option linter.unusedVariables false
namespace Go.Proofs.Ytjjnabhkdhobiaa.linePieces
open Go.ChangeShapes Go.WideShapes Go.ChangeAt Go.RowKit
open Go.ChangeMaps (open_string shut_string)
open RI64
set_option maxRecDepth 100000 in
set_option maxHeartbeats 2000000 in
theorem walk (a0 : Int) (a1 : Option Addr) (len1 cap1 : Nat) (z1 : List Int) (a2 : Int) (w : World) (w0 : (Lit.int .u8 a0).wf = true) (w1 : IsRow .i64 w a1 len1 cap1 z1) (w2 : (Lit.int .u8 a2).wf = true) :
    Calls Try.prog 6 #[.int .u8 a0, .slice a1 len1 cap1, .int .u8 a2] w fun e w' => e = .returned (.bool true) ∧ Below w.heap.size w w' := by
  have b0 : 0 ≤ a0 ∧ a0 ≤ 255 := bounds_u8 w0
  have b2 : 0 ≤ a2 ∧ a2 ≤ 255 := bounds_u8 w2
  clear w0 w2
  obtain ⟨K, hk⟩ : ∃ K : Nat, a0 % 50 = (K : Int) := ⟨(a0 % 50).toNat, by omega⟩
  have hk49 : K ≤ 49 := by omega
  obtain ⟨m, hm⟩ : ∃ m, min len1 100 = m := ⟨_, rfl⟩
  have hm1 : m ≤ len1 := by omega
  have hm2 : m ≤ 100 := by omega
  have hminA : (if (100 : Int) < (len1 : Int) then (100 : Int) else (len1 : Int)) = (m : Int) := by split <;> omega
  obtain ⟨c, rfl⟩ : ∃ c : Nat, a2 = (c : Int) := ⟨a2.toNat, by omega⟩
  obtain ⟨p, hp⟩ : ∃ p, min c m = p := ⟨_, rfl⟩
  have hpm : p ≤ m := by omega
  have hminB : (if (m : Int) < (c : Int) then (m : Int) else (c : Int)) = (p : Int) := by split <;> omega
  have hminC : (if m < c then (m : Int) else (c : Int)) = (p : Int) := by split <;> omega
  clear hm hp
  obtain ⟨hV, hc1, hc2, hlt⟩ := row_vals w1 m (by omega)
  clear w1
  generalize z1.take m = ys at *
  have hm3 : m ≤ cap1 := by omega
  have hp3 : p ≤ cap1 := by omega
  obtain ⟨A3, C3, hsl, hV3, hlt3, hC3⟩ : ∃ A3 C3, ((p = cap1 ∧ A3 = a1 ∧ C3 = 0) ∨ (p < cap1 ∧ A3 = a1.map (·.add p) ∧ C3 = cap1 - p)) ∧ Vals w A3 (m - p) (ys.drop p) ∧ (∀ y, 0 < m - p → A3 = some y → y.block < w.heap.size) ∧ m - p ≤ C3 ∧ C3 ≤ 9223372036854775807 := by
    rcases Nat.lt_or_ge p cap1 with h1 | h1
    · refine ⟨_, _, .inr ⟨h1, rfl, rfl⟩, hV.drop p hpm, fun y h0 hy => ?_, by omega, by omega⟩
      obtain ⟨z, hz, rfl⟩ := Option.map_eq_some_iff.1 hy
      rw [block_add]
      exact hlt z (by omega) hz
    · refine ⟨a1, 0, .inl ⟨by omega, rfl, rfl⟩, ⟨by rw [List.length_drop, hV.len_], fun h0 => absurd h0 (by omega)⟩, fun y h0 => absurd h0 (by omega), by omega, by omega⟩
  have hV2 := hV.take p hpm
  have hna := line_new_yes K w (by omega)
  obtain ⟨x, b, g, hx, hb, hg, hbg⟩ : ∃ x b g, w.heap.size ≤ x ∧ w.heap.size ≤ b ∧ w.heap.size ≤ g ∧ (x = w.heap.size + 2 ∧ b = w.heap.size + 1 ∧ g = w.heap.size) := ⟨_, _, _, by omega, by omega, by omega, rfl, rfl, rfl⟩
  obtain ⟨x2, b2, g2, hlt2, hbg2⟩ : ∃ x2 b2 g2, (x < x2 ∧ x < b2 ∧ x < g2 ∧ b < x2 ∧ b < b2 ∧ b < g2 ∧ g < x2 ∧ g < b2 ∧ g < g2) ∧ (x2 = w.heap.size + 3 + 2 ∧ b2 = w.heap.size + 3 + 1 ∧ g2 = w.heap.size + 3) := ⟨_, _, _, by omega, rfl, rfl, rfl⟩
  have hna2 : Calls Try.prog 7 #[.int .i64 (K : Int)] w fun e w' => e = .returned (.tuple #[.pointer (some ⟨x, 0, none⟩), .int .i64 0]) ∧ (∃ n, Line w' x b g n K []) ∧ Below w.heap.size w w' ∧ w'.heap.size = w.heap.size + 3 := by
    rw [hbg.1, hbg.2.1, hbg.2.2]
    exact hna
  have hnb2 : ∀ W, W.heap.size = w.heap.size + 3 → Calls Try.prog 7 #[.int .i64 (K : Int)] W fun e w' => e = .returned (.tuple #[.pointer (some ⟨x2, 0, none⟩), .int .i64 0]) ∧ (∃ n, Line w' x2 b2 g2 n K []) ∧ Below W.heap.size W w' := fun W hW => by
    have h9 := line_new_yes K W (by omega)
    rw [hW, ← hbg2.1, ← hbg2.2.1, ← hbg2.2.2] at h9
    rw [hW, ← hbg2.2.2]
    exact h9.mono fun e w' ⟨h1, h2, h3, h4⟩ => ⟨h1, h2, h3⟩
  clear hna hbg hbg2
  have hpa := fun W n (hB : Below w.heap.size w W) (hL : Line W x b g n K []) => line_push x b g n K [] a1 m cap1 ys W hL (hV.below hB) hm3 hc2 (fun h0 y hy => by have := hlt y h0 hy; omega)
  have hpb1 := fun W n (hB : Below w.heap.size w W) (hL : Line W x2 b2 g2 n K []) => line_push x2 b2 g2 n K [] a1 p cap1 (ys.take p) W hL (hV2.below hB) hp3 hc2 (fun h0 y hy => by have := hlt y (by omega) hy; omega)
  have hpb2 := fun W n (hL : Line W x2 b2 g2 n K ((ys.take p).reverse ++ [])) => line_push x2 b2 g2 n K _ none 0 0 [] W hL (Vals.none_ W) (by omega) (by omega) (fun h0 => absurd h0 (by omega))
  have hpb3 := fun W n (hB : Below w.heap.size w W) (hL : Line W x2 b2 g2 n K (([] : List Int).reverse ++ ((ys.take p).reverse ++ []))) => line_push x2 b2 g2 n K _ A3 (m - p) C3 (ys.drop p) W hL (hV3.below hB) hC3.1 hC3.2 (fun h0 y hy => by have := hlt3 y h0 hy; omega)
  have hh : (ys.drop p).reverse ++ (([] : List Int).reverse ++ ((ys.take p).reverse ++ [])) = ys.reverse ++ [] := by
    rw [List.append_nil, List.append_nil, List.reverse_nil, List.nil_append, ← List.reverse_append, List.take_append_drop]
  generalize ys.reverse ++ [] = h at *
  rw [hh] at hpb3
  clear hh hV hV2 hV3 hlt hlt3
  have hsub : (m : Int) - (p : Int) = ((m - p : Nat) : Int) := by omega
  rcases hsl with ⟨hpc, rfl, rfl⟩ | ⟨hpc, rfl, rfl⟩
  case' inl =>
    obtain ⟨e1, e2, e3⟩ : cap1 = m ∧ len1 = m ∧ p = m := ⟨by omega, by omega, by omega⟩
    subst e3
    subst e1
    subst e2
    clear hpc hsub hm1 hm3 hp3 hpm hc1
    rw [Nat.sub_self] at hpb3
  all_goals
    go_enter Try.func6, Try.ntmps6
    go_wp2_with (first
      | (go_at_call 7; ((with_reducible refine hna2.mono ?_); rintro e W1 ⟨rfl, ⟨n, hL1⟩, hB1, hz1⟩))
      | (go_at_call 7; ((with_reducible refine (hnb2 _ hz1).mono ?_); rintro e W2 ⟨rfl, ⟨n2, hL2⟩, hB2⟩; have hLa2 := hL1.kept (Kept.of_below (S := []) hB2) (by simp) (by simp) (by simp); have hC2 := hB1.trans (hB2.mono hB1.size)))
      | (go_at_call 9; ((with_reducible refine (hpa _ _ hC2 hLa2).mono ?_); rintro e W3 ⟨rfl, hLa3, hK3⟩; have hLb3 := hL2.kept hK3 (by simp; omega) (by simp; omega) (by simp; omega); have hC3' := below_kept hC2 hK3 hC2.size (by intro k hk; simp at hk; omega)))
      | (go_at_call 9; ((with_reducible refine (hpb1 _ _ hC3' hLb3).mono ?_); rintro e W4 ⟨rfl, hLb4, hK4⟩; have hLa4 := hLa3.kept hK4 (by simp; omega) (by simp; omega) (by simp; omega); have hC4 := below_kept hC3' hK4 hC3'.size (by intro k hk; simp at hk; omega)))
      | (go_at_call 9; ((with_reducible refine (hpb2 _ _ hLb4).mono ?_); rintro e W5 ⟨rfl, hLb5, hK5⟩; have hLa5 := hLa4.kept hK5 (by simp; omega) (by simp; omega) (by simp; omega); have hC5 := below_kept hC4 hK5 hC4.size (by intro k hk; simp at hk; omega)))
      | (go_at_call 9; ((with_reducible refine (hpb3 _ _ hC5 hLb5).mono ?_); rintro e W6 ⟨rfl, hLb6, hK6⟩; have hLa6 := hLa5.kept hK6 (by simp; omega) (by simp; omega) (by simp; omega); have hC6 := below_kept hC5 hK6 hC5.size (by intro k hk; simp at hk; omega))))
    clear hminA hminB hminC hk hpa hpb1 hpb2 hpb3 hna2 hnb2
    go_loopw [12] (fun i wr => (∃ j, j ≤ 52 ∧ i = .int .i64 (j : Nat)) ∧ ∃ d, wr = W6.drewN d) (fun i _ => 52 - (intOf i).toNat)
    case atStart => exact ⟨⟨0, by omega, rfl⟩, 0, rfl⟩
    case round =>
      obtain ⟨⟨j, hj, rfl⟩, d, rfl⟩ := hrel
      by_cases hlt : j < 52
      · have hb1 := fun W hL => line_back x b g n K h (j : Int) W hL (by omega)
        have hb2 := fun W hL => line_back x2 b2 g2 n2 K h (j : Int) W hL (by omega)
        have hj51 : (j : Int) ≤ 51 := by omega
        generalize agoTo K h (j : Int) = out at *
        go_wp2_with (first
          | (go_at_call 10; ((with_reducible refine (hb1 _ (by exact hLa6.same rfl)).mono ?_); rintro e W7 ⟨rfl, d7, rfl⟩))
          | (go_at_call 10; ((with_reducible refine (hb2 _ (by exact hLb6.same rfl)).mono ?_); rintro e W8 ⟨rfl, d8, rfl⟩)))
        go_roundw
        case rel => exact ⟨⟨j + 1, by omega, by go_num⟩, _, by first | rfl | simp⟩
        case measure => simp [intOf]; omega
      · obtain rfl : j = 52 := by omega
        go_wp2_with (go_at_call 8; ((with_reducible refine (live_ok _).mono ?_); rintro e W9 ⟨rfl, hN⟩))
        go_ret
        exact ⟨rfl, (below_drewN hC6 _).trans (hN.mono hC6.size)⟩

theorem own : ownKnob Try.prog.godebug = none := by kernel_rfl
theorem laidOut : laidOutB Try.prog = true := by kernel_rfl

/-! ### The row's step -/
set_option maxRecDepth 100000 in
theorem lifted (os : Os) (started : os.Started) (H : Type) (enc : TypeId × Value → H) :
    ReturnsInHanded {} Try.checked os 6 .any (Rows.linePiecesSpec.pre6 enc Try.prog Try.f6 Rows.linePiecesRow.domain false) (Rows.linePiecesSpec.post enc Try.prog Try.f6 false true false false) := by
  refine returnsInHanded_of_change (C := Try.checked) own started (by kernel_rfl) Try.func6
    (ChangeSpec.witness6 (enc := enc) (C := Try.checked) false ⟨#[], #[.int .u8 0, .slice none 0 0, .int .u8 0], []⟩ 8 (by kernel_rfl) (by kernel_rfl) (by kernel_rfl) (by kernel_rfl)) ?_
  intro W base args ds gs before hval0 hW hcnd _
  have hval : ∀ (j : Nat) t v, Try.f6.params[j]? = some t → args[j]? = some v → Value.okWide Try.prog W .any base t v := hval0
  have hW' := hW
  obtain ⟨p, q, hA0, hV, rfl, hfz, hnd⟩ := hW
  have hA : DataW.TrodAll enc Try.prog W 0 (fun _ => true) true Try.f6.params.toList args.toList ds p := hA0
  rw [Try.params6] at hA hval
  obtain ⟨v0, vs0, d0, ds0, p0, q0, hargs, rfl, rfl, h0, r0⟩ := trodAll_cons hA
  obtain ⟨v1, vs1, d1, ds1, p1, q1, rfl, rfl, rfl, h1, r1⟩ := trodAll_cons r0
  obtain ⟨v2, vs2, d2, ds2, p2, q2, rfl, rfl, rfl, h2, r2⟩ := trodAll_cons r1
  obtain ⟨rfl, rfl, rfl⟩ := trodAll_nil r2
  obtain rfl : args = #[v0, v1, v2] := by cases args; simp_all
  obtain ⟨rfl, rfl⟩ := trodVars_none hV
  obtain ⟨a0, rfl, rfl, rfl, w0⟩ := open_int Try.underlying5 (hval 0 5 v0 rfl rfl) h0
  obtain ⟨a1, len1, cap1, rfl⟩ := okWide_slice Try.underlying28 (hval 1 28 v1 rfl rfl)
  have k1 := h1
  have lt1 : ∀ x ∈ p1, x.block < W.heap.size := by obtain ⟨m, hm⟩ := k1; exact DataW.trod_lt m _ _ _ hm
  obtain ⟨z1, w1⟩ : ∃ zs, IsRow .i64 W a1 len1 cap1 zs := by
    obtain ⟨fuel, hf⟩ := h1
    rcases open_ints Try.underlying28 Try.underlying2 (by kernel_rfl) hf with ⟨hcs, _⟩ | ⟨x, l, c, zs, hcs, hx, hl, hm, hz, _, hcell, hwz⟩
    · simp [Value.cells] at hcs
      obtain ⟨rfl, rfl, rfl⟩ := hcs
      exact ⟨[], .inl ⟨rfl, rfl, rfl, rfl⟩⟩
    · simp [Value.cells] at hcs
      obtain ⟨rfl, rfl, rfl⟩ := hcs
      exact ⟨zs, isRow_some hl hm (by simpa using hz) hcell hwz⟩
  obtain ⟨a2, rfl, rfl, rfl, w2⟩ := open_int Try.underlying5 (hval 2 5 v2 rfl rfl) h2
  clear hA0 hval0
  refine (walk a0 a1 len1 cap1 z1 a2 W w0 w1 w2).mono fun e W' ⟨he, bel⟩ => ?_
  subst he
  exact ⟨_, rfl, _, _, _, [], _, [], hW', trodAll_mk1 (shut_bool Try.underlying4 _), (trodAll_cons_mk (shut_int Try.underlying5 w0) (trodAll_cons_mk (Below.trod laidOut (by kernel_rfl) (of_decide_eq_true (by kernel_rfl)) k1 bel lt1) (trodAll_cons_mk (shut_int Try.underlying5 w2) trodAll_mk0))), rfl, bel.frame _, fun h => by cases h⟩

theorem over : Rows.linePiecesRow.holds Try.pinned (OpenSpec.ofChange Rows.linePiecesSpec) :=
  OpenClaim.holds_of_wide 6 Try.f6 rfl rfl rfl rfl rfl rfl rfl ⟨rfl, rfl, rfl, rfl, rfl⟩ rfl rfl rfl rfl rfl (by kernel_rfl) Try.func6 (by kernel_rfl)
    (of_decide_eq_true (by kernel_rfl)) (by unfold Func.isWrapper; first | (rw [if_pos (by decide +kernel)]; kernel_rfl) | (rw [if_neg (by decide +kernel)]; exact ⟨rfl, rfl⟩))
    (fun os started H enc _ => lifted os started H enc)

theorem proved : Rows.LinePiecesSaid := over
#print axioms proved
end Go.Proofs.Ytjjnabhkdhobiaa.linePieces
