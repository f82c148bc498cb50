/- Whatever mains, values ahead and value come in, NotchEven answers true, and writes nothing that was there. -/
import Derived.Test.YthfddociljeolaaRows
import Derived.ShutString
import Derived.ChangeOld
import Derived.Below
import Derived.Test.YthfddociljeolaaLawKit
import Derived.Test.YthfddociljeolaaNotchLive
set_option linter.unusedSimpArgs false
set_option linter.unusedVariables false
namespace Go.Proofs.Ythfddociljeolaa.notchEven
open Go.ChangeShapes Go.WideShapes Go.ChangeAt Go.RowKit
open Go.ChangeMaps (open_string shut_string)
open RI64 Notch
theorem even_at (m : Nat) (h : List Int) (v : Int) (i : Nat) (h1 : -65535 ≤ v) (h2 : v ≤ 65535) (h3 : 3 ≤ i) (h4 : i < 6) : (outsT (notchT m) h [v, v, v, v, v, v]).getD i 0 = v := by
  rw [outs_at _ _ _ i (by simpa using h4)]
  refine notch_even m _ h v (by rw [List.length_reverse, List.length_take]; simp; omega) (fun u hu => ?_) h1 h2
  have h5 := List.mem_of_mem_take (List.mem_reverse.1 hu)
  simpa using h5
set_option maxRecDepth 100000 in
set_option maxHeartbeats 2000000 in
theorem walk (a0 : Int) (a1 : Option Addr) (len1 cap1 : Nat) (z1 : List Int) (a2 : Int) (w : World) (w0 : (Lit.int .u8 a0).wf = true) (w1 : IsRow .i64 w a1 len1 cap1 z1) (w2 : (Lit.int .i32 a2).wf = true) :
    Calls Try.prog 5 #[.int .u8 a0, .slice a1 len1 cap1, .int .i32 a2] w fun e w' => e = .returned (.bool true) ∧ Below w.heap.size w w' := by
  have b0 : 0 ≤ a0 ∧ a0 ≤ 255 := bounds_u8 w0
  have b2 : -2147483648 ≤ a2 ∧ a2 ≤ 2147483647 := bounds_i32 w2
  clear w0 w2
  obtain ⟨p, hp⟩ : ∃ p, min len1 100 = p := ⟨_, rfl⟩
  have hp1 : p ≤ len1 := by omega
  have hp2 : p ≤ 100 := by omega
  have hminA : (if (100 : Int) < (len1 : Int) then (100 : Int) else (len1 : Int)) = (p : Int) := by split <;> omega
  obtain ⟨hV, hc1, hc2, hltb⟩ := row_vals w1 p hp1
  clear w1 hp
  generalize z1.take p = ys at *
  have hp3 : p ≤ cap1 := by omega
  obtain ⟨i, hi3, hi⟩ : ∃ i : Nat, i < 3 ∧ a0 % 3 = (i : Int) := ⟨(a0 % 3).toNat, by omega, by omega⟩
  obtain ⟨m, hm, hcell⟩ : ∃ m : Nat, Known m ∧ ([.int .i64 0, .int .i64 50, .int .i64 60] : List Value)[i]'(by simpa using hi3) = .int .i64 (m : Nat) := by
    rcases (by omega : i = 0 ∨ i = 1 ∨ i = 2) with rfl | rfl | rfl
    · exact ⟨0, .inl rfl, rfl⟩
    · exact ⟨50, .inr (.inl rfl), rfl⟩
    · exact ⟨60, .inr (.inr rfl), rfl⟩
  have hi3z : (i : Int) < 3 := by omega
  have hnew := fun W => new_any hm W
  unfold NewIs at hnew
  have hA0 := (Below.refl w.heap.size w).alloc (Nat.le_refl _) (.cells #[.int .i64 0, .int .i64 50, .int .i64 60] 3)
  have hz1 := hA0.size
  by_cases hbig : 65535 < a2 ∨ a2 < -65535
  · rcases hbig with hbig | hbig
    case' inr => have hb1 : ¬ 65535 < a2 := by omega
    all_goals
      go_enter Try.func5, Try.ntmps5
      go_wp2_with (first
        | (go_at_call 6; ((with_reducible refine (hnew _).mono ?_); rintro e W1 ⟨bx, Sx, rfl, hFx, hSx, hB1⟩; have hC1 := hA0.trans (hB1.mono (by simp))))
        | (go_at_call 7; ((with_reducible refine (live_k _).mono ?_); rintro e W9 ⟨rfl, hN⟩)))
      go_ret
      exact ⟨rfl, hC1.trans (hN.mono hC1.size)⟩
  · have hb1 : ¬ 65535 < a2 := by omega
    have hb2 : ¬ a2 < -65535 := by omega
    have e3 := fun h => even_at m h a2 3 (by omega) (by omega) (by omega) (by omega)
    have e4 := fun h => even_at m h a2 4 (by omega) (by omega) (by omega) (by omega)
    have e5 := fun h => even_at m h a2 5 (by omega) (by omega) (by omega) (by omega)
    have hbl2 := fun b S h A W hF hv hf => (kit m).block_any b S h A 6 6 [a2, a2, a2, a2, a2, a2] W hF hv (by omega) (by omega) (by omega) hf
    unfold BlockIs at hbl2
    rw [show ([a2, a2, a2, a2, a2, a2] : List Int).length = 6 from rfl] at hbl2
    have hU : ∀ W : World, Vals (W.alloc (.cells #[.int .i64 a2, .int .i64 a2, .int .i64 a2, .int .i64 a2, .int .i64 a2, .int .i64 a2] 2)) (some ⟨W.heap.size, 0, none⟩) 6 [a2, a2, a2, a2, a2, a2] := fun W => Vals.has (ys := [a2, a2, a2, a2, a2, a2]) (tl := []) (Has.new W _ _)
    have hlen := hV.len_
    have HE := Lib.hid (And.intro e3 (And.intro e4 e5))
    have HLEN := Lib.hid hlen
    clear hbig e3 e4 e5 hlen
    go_enter Try.func5, Try.ntmps5
    go_wp2_with (first
      | (go_at_call 6; ((with_reducible refine (hnew _).mono ?_); rintro e W1 ⟨bx, Sx, rfl, hFx, hSx, hB1⟩; have hC1 := hA0.trans (hB1.mono (by simp)); have hltx := (kit m).lt hFx; have hbl := (kit m).block_any bx Sx [] a1 p cap1 ys W1 hFx (hV.below hC1) (by omega) hp3 hc2 (fun h0 x hx hm => by have h1 := hltb x h0 hx; have h2 := hSx _ hm; omega)))
      | (go_at_call 9; ((with_reducible refine hbl.mono ?_); rintro e W2 ⟨B2, d2, rfl, _, _, _, _, hF2, hK2⟩; have hC2 := below_kept hC1 hK2 hC1.size (fun k hk => Nat.le_trans hz1 (hSx k hk)); rw [HLEN.out]; have hF2a := (kit m).kept hF2 ((Kept.refl [] W2).alloc (.cells #[.int .i64 a2, .int .i64 a2, .int .i64 a2, .int .i64 a2, .int .i64 a2, .int .i64 a2] 2)) (fun _ _ h => by cases h); have hC3 := hC2.alloc hC2.size (.cells #[.int .i64 a2, .int .i64 a2, .int .i64 a2, .int .i64 a2, .int .i64 a2, .int .i64 a2] 2); have hlt2 := (kit m).lt hF2; have hsz2 := hC2.size; have hbl3 := hbl2 bx Sx _ _ _ hF2a (hU W2) (fun _ x hx hm => by cases hx; have := hlt2 _ hm; simp at this)))
      | (go_at_call 9; ((with_reducible refine hbl3.mono ?_); rintro e W4 ⟨B4, d4, rfl, hd4, _, hV4, _, _, hK4⟩; have hC4 := below_kept hC3 hK4 hC3.size (fun k hk => Nat.le_trans hz1 (hSx k hk)); obtain ⟨x4, rfl, hcx⟩ := hV4.cells (by omega); have hc3 := hcx 3 (by omega); have hc4 := hcx 4 (by omega); have hc5 := hcx 5 (by omega); rw [HE.out.1] at hc3; rw [HE.out.2.1] at hc4; rw [HE.out.2.2] at hc5; replace hc3 : W4.cell? ⟨x4.block, x4.off + 3, none⟩ = some (.int .i64 a2) := hc3; replace hc4 : W4.cell? ⟨x4.block, x4.off + 4, none⟩ = some (.int .i64 a2) := hc4; replace hc5 : W4.cell? ⟨x4.block, x4.off + 5, none⟩ = some (.int .i64 a2) := hc5; clear hcx hV4))
      | (go_at_call 7; ((with_reducible refine (live_k _).mono ?_); rintro e W9 ⟨rfl, hN⟩)))
    go_ret
    exact ⟨rfl, hC4.trans (hN.mono hC4.size)⟩

theorem own : ownKnob Try.prog.godebug = none := by kernel_rfl
theorem laidOut : laidOutB Try.prog = true := by kernel_rfl

/-! ### The row's step -/
set_option maxRecDepth 100000 in
theorem lifted (os : Os) (started : os.Started) (H : Type) (enc : TypeId × Value → H) :
    ReturnsInHanded {} Try.checked os 5 .any (Rows.notchEvenSpec.pre6 enc Try.prog Try.f5 Rows.notchEvenRow.domain false) (Rows.notchEvenSpec.post enc Try.prog Try.f5 false true false false) := by
  refine returnsInHanded_of_change (C := Try.checked) own started (by kernel_rfl) Try.func5
    (ChangeSpec.witness6 (enc := enc) (C := Try.checked) false ⟨#[], #[.int .u8 0, .slice none 0 0, .int .i32 0], []⟩ 8 (by kernel_rfl) (by kernel_rfl) (by kernel_rfl) (by kernel_rfl)) ?_
  intro W base args ds gs before hval0 hW hcnd _
  have hval : ∀ (j : Nat) t v, Try.f5.params[j]? = some t → args[j]? = some v → Value.okWide Try.prog W .any base t v := hval0
  have hW' := hW
  obtain ⟨p, q, hA0, hV, rfl, hfz, hnd⟩ := hW
  have hA : DataW.TrodAll enc Try.prog W 0 (fun _ => true) true Try.f5.params.toList args.toList ds p := hA0
  rw [Try.params5] at hA hval
  obtain ⟨v0, vs0, d0, ds0, p0, q0, hargs, rfl, rfl, h0, r0⟩ := trodAll_cons hA
  obtain ⟨v1, vs1, d1, ds1, p1, q1, rfl, rfl, rfl, h1, r1⟩ := trodAll_cons r0
  obtain ⟨v2, vs2, d2, ds2, p2, q2, rfl, rfl, rfl, h2, r2⟩ := trodAll_cons r1
  obtain ⟨rfl, rfl, rfl⟩ := trodAll_nil r2
  obtain rfl : args = #[v0, v1, v2] := by cases args; simp_all
  obtain ⟨rfl, rfl⟩ := trodVars_none hV
  obtain ⟨a0, rfl, rfl, rfl, w0⟩ := open_int Try.underlying5 (hval 0 5 v0 rfl rfl) h0
  obtain ⟨a1, len1, cap1, rfl⟩ := okWide_slice Try.underlying22 (hval 1 22 v1 rfl rfl)
  have k1 := h1
  have lt1 : ∀ x ∈ p1, x.block < W.heap.size := by obtain ⟨m, hm⟩ := k1; exact DataW.trod_lt m _ _ _ hm
  obtain ⟨z1, w1⟩ : ∃ zs, IsRow .i64 W a1 len1 cap1 zs := by
    obtain ⟨fuel, hf⟩ := h1
    rcases open_ints Try.underlying22 Try.underlying2 (by kernel_rfl) hf with ⟨hcs, _⟩ | ⟨x, l, c, zs, hcs, hx, hl, hm, hz, _, hcell, hwz⟩
    · simp [Value.cells] at hcs
      obtain ⟨rfl, rfl, rfl⟩ := hcs
      exact ⟨[], .inl ⟨rfl, rfl, rfl, rfl⟩⟩
    · simp [Value.cells] at hcs
      obtain ⟨rfl, rfl, rfl⟩ := hcs
      exact ⟨zs, isRow_some hl hm (by simpa using hz) hcell hwz⟩
  obtain ⟨a2, rfl, rfl, rfl, w2⟩ := open_int Try.underlying21 (hval 2 21 v2 rfl rfl) h2
  clear hA0 hval0
  refine (walk a0 a1 len1 cap1 z1 a2 W w0 w1 w2).mono fun e W' ⟨he, bel⟩ => ?_
  subst he
  exact ⟨_, rfl, _, _, _, [], _, [], hW', trodAll_mk1 (shut_bool Try.underlying4 _), (trodAll_cons_mk (shut_int Try.underlying5 w0) (trodAll_cons_mk (Below.trod laidOut (by kernel_rfl) (of_decide_eq_true (by kernel_rfl)) k1 bel lt1) (trodAll_cons_mk (shut_int Try.underlying21 w2) trodAll_mk0))), rfl, bel.frame _, fun h => by cases h⟩

theorem over : Rows.notchEvenRow.holds Try.pinned (OpenSpec.ofChange Rows.notchEvenSpec) :=
  OpenClaim.holds_of_wide 5 Try.f5 rfl rfl rfl rfl rfl rfl rfl ⟨rfl, rfl, rfl, rfl, rfl⟩ rfl rfl rfl rfl rfl (by kernel_rfl) Try.func5 (by kernel_rfl)
    (of_decide_eq_true (by kernel_rfl)) (by unfold Func.isWrapper; first | (rw [if_pos (by decide +kernel)]; kernel_rfl) | (rw [if_neg (by decide +kernel)]; exact ⟨rfl, rfl⟩))
    (fun os started H enc _ => lifted os started H enc)

theorem proved : Rows.NotchEvenSaid := over
#print axioms proved
end Go.Proofs.Ythfddociljeolaa.notchEven
