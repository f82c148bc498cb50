/- Whatever numbers come in, FixqMultiplies answers true, and writes nothing that was there. -/
import Derived.Test.YtmmmooanapodlaaRows
import Derived.ShutString
import Derived.ChangeOld
import Derived.Below
import Derived.Test.YtmmmooanapodlaaLawKit
import Derived.Test.YtmmmooanapodlaaFixqRefMul
import Derived.Test.YtmmmooanapodlaaFixqTimes
set_option linter.unusedSimpArgs false
set_option linter.unusedVariables false
namespace Go.Proofs.Ytmmmooanapodlaa.fixqMultiplies
open Go.ChangeShapes Go.WideShapes Go.ChangeAt Go.RowKit
open Go.ChangeMaps (open_string shut_string)
set_option maxHeartbeats 1000000 in
theorem walk (a0 : Option Addr) (len0 cap0 : Nat) (z0 : List Int) (a1 a2 : Int) (w : World) (w0 : IsRow .i64 w a0 len0 cap0 z0) (w1 : (Lit.int .i64 a1).wf = true) (w2 : (Lit.int .i64 a2).wf = true) :
    Calls Try.prog 4 #[.slice a0 len0 cap0, .int .i64 a1, .int .i64 a2] w fun e w' => e = .returned (.bool true) ∧ Below w.heap.size w w' := by
  have b1 : fits64 a1 := bounds_i64 w1
  have b2 : fits64 a2 := bounds_i64 w2
  clear w1 w2
  have hcap : len0 ≤ maxLen := by rcases w0 with ⟨_, rfl, _⟩ | ⟨_, _, h1, h2, _⟩ <;> omega
  unfold maxLen at hcap
  rcases Nat.lt_or_ge 1000 len0 with hbig | hsmall
  · clear w0
    go_enter Try.func4, Try.ntmps4
    go_wp2_with (go_at_call 10; refine (live_ok _).mono ?_; rintro e w' ⟨rfl, hN⟩)
    go_ret
    exact ⟨rfl, hN⟩
  have hI := row_ints w0 (by omega)
  clear w0
  generalize z0.take len0 = xs at hI
  have hB := (Below.refl w.heap.size w).alloc (Nat.le_refl _) (.cells #[.int .i64 a1, .int .i64 a2] 2)
  have hwd := mul64_wide a1 a2 b1 b2
  by_cases hd : fits64 (a1 * a2) <;> by_cases hf : fits64 (prodZ xs)
  · have HA := addIs_yes hf
    have HD := addIs_yes hd
    clear hf
    have HDD := Lib.hid hd
    clear hd
    go_enter Try.func4, Try.ntmps4
    go_wp2_with (first
      | (go_at_call 18; ((with_reducible refine (mul_any _ _ _ _ _ hI).mono ?_); rintro e w' ⟨he, rfl⟩; rw [HA] at he; subst he))
      | (go_at_call 19; refine (refmul_any _ _ _ _ _ hI).mono ?_; rintro e w' ⟨he, rfl⟩; rw [HA] at he; subst he)
      | (go_at_call 18; refine (mul_any _ _ _ _ _ (ints_pair _ _ _ _ b1 b2)).mono ?_; rintro e w' ⟨he, rfl⟩; rw [prod_pair, HD] at he; subst he)
      | (go_at_call 20; refine (times_any _ _ _ b1 b2).mono ?_; rintro e w' ⟨rfl, hN⟩; replace hB := chain hB hN; clear hN)
      | (go_at_call 14; refine (fits_yes _ _ HDD.out).mono ?_; rintro e w' ⟨rfl, hN⟩; replace hB := chain hB hN; clear hN)
      | (go_at_call 10; refine (live_ok _).mono ?_; rintro e w' ⟨rfl, hN⟩; replace hB := chain hB hN; clear hN))
    go_ret
    exact ⟨rfl, hB⟩
  · have HA := addIs_no hf
    have HD := addIs_yes hd
    clear hf
    have HDD := Lib.hid hd
    clear hd
    go_enter Try.func4, Try.ntmps4
    go_wp2_with (first
      | (go_at_call 18; ((with_reducible refine (mul_any _ _ _ _ _ hI).mono ?_); rintro e w' ⟨he, rfl⟩; rw [HA] at he; subst he))
      | (go_at_call 19; refine (refmul_any _ _ _ _ _ hI).mono ?_; rintro e w' ⟨he, rfl⟩; rw [HA] at he; subst he)
      | (go_at_call 18; refine (mul_any _ _ _ _ _ (ints_pair _ _ _ _ b1 b2)).mono ?_; rintro e w' ⟨he, rfl⟩; rw [prod_pair, HD] at he; subst he)
      | (go_at_call 20; refine (times_any _ _ _ b1 b2).mono ?_; rintro e w' ⟨rfl, hN⟩; replace hB := chain hB hN; clear hN)
      | (go_at_call 14; refine (fits_yes _ _ HDD.out).mono ?_; rintro e w' ⟨rfl, hN⟩; replace hB := chain hB hN; clear hN)
      | (go_at_call 10; refine (live_ok _).mono ?_; rintro e w' ⟨rfl, hN⟩; replace hB := chain hB hN; clear hN))
    go_ret
    exact ⟨rfl, hB⟩
  · have HA := addIs_yes hf
    have HD := addIs_no hd
    clear hf
    have HDD := Lib.hid hd
    clear hd
    go_enter Try.func4, Try.ntmps4
    go_wp2_with (first
      | (go_at_call 18; ((with_reducible refine (mul_any _ _ _ _ _ hI).mono ?_); rintro e w' ⟨he, rfl⟩; rw [HA] at he; subst he))
      | (go_at_call 19; refine (refmul_any _ _ _ _ _ hI).mono ?_; rintro e w' ⟨he, rfl⟩; rw [HA] at he; subst he)
      | (go_at_call 18; refine (mul_any _ _ _ _ _ (ints_pair _ _ _ _ b1 b2)).mono ?_; rintro e w' ⟨he, rfl⟩; rw [prod_pair, HD] at he; subst he)
      | (go_at_call 20; refine (times_any _ _ _ b1 b2).mono ?_; rintro e w' ⟨rfl, hN⟩; replace hB := chain hB hN; clear hN)
      | (go_at_call 14; refine (fits_no _ _ HDD.out hwd).mono ?_; rintro e w' ⟨rfl, hN⟩; replace hB := chain hB hN; clear hN)
      | (go_at_call 10; refine (live_ok _).mono ?_; rintro e w' ⟨rfl, hN⟩; replace hB := chain hB hN; clear hN))
    go_ret
    exact ⟨rfl, hB⟩
  · have HA := addIs_no hf
    have HD := addIs_no hd
    clear hf
    have HDD := Lib.hid hd
    clear hd
    go_enter Try.func4, Try.ntmps4
    go_wp2_with (first
      | (go_at_call 18; ((with_reducible refine (mul_any _ _ _ _ _ hI).mono ?_); rintro e w' ⟨he, rfl⟩; rw [HA] at he; subst he))
      | (go_at_call 19; refine (refmul_any _ _ _ _ _ hI).mono ?_; rintro e w' ⟨he, rfl⟩; rw [HA] at he; subst he)
      | (go_at_call 18; refine (mul_any _ _ _ _ _ (ints_pair _ _ _ _ b1 b2)).mono ?_; rintro e w' ⟨he, rfl⟩; rw [prod_pair, HD] at he; subst he)
      | (go_at_call 20; refine (times_any _ _ _ b1 b2).mono ?_; rintro e w' ⟨rfl, hN⟩; replace hB := chain hB hN; clear hN)
      | (go_at_call 14; refine (fits_no _ _ HDD.out hwd).mono ?_; rintro e w' ⟨rfl, hN⟩; replace hB := chain hB hN; clear hN)
      | (go_at_call 10; refine (live_ok _).mono ?_; rintro e w' ⟨rfl, hN⟩; replace hB := chain hB hN; clear hN))
    go_ret
    exact ⟨rfl, hB⟩

theorem own : ownKnob Try.prog.godebug = none := by kernel_rfl
theorem laidOut : laidOutB Try.prog = true := by kernel_rfl

/-! ### The row's step -/
set_option maxRecDepth 100000 in
theorem lifted (os : Os) (started : os.Started) (H : Type) (enc : TypeId × Value → H) :
    ReturnsInHanded {} Try.checked os 4 .any (Rows.fixqMultipliesSpec.pre6 enc Try.prog Try.f4 Rows.fixqMultipliesRow.domain false) (Rows.fixqMultipliesSpec.post enc Try.prog Try.f4 false true false false) := by
  refine returnsInHanded_of_change (C := Try.checked) own started (by kernel_rfl) Try.func4
    (ChangeSpec.witness6 (enc := enc) (C := Try.checked) false ⟨#[], #[.slice none 0 0, .int .i64 0, .int .i64 0], []⟩ 8 (by kernel_rfl) (by kernel_rfl) (by kernel_rfl) (by kernel_rfl)) ?_
  intro W base args ds gs before hval0 hW hcnd _
  have hval : ∀ (j : Nat) t v, Try.f4.params[j]? = some t → args[j]? = some v → Value.okWide Try.prog W .any base t v := hval0
  have hW' := hW
  obtain ⟨p, q, hA0, hV, rfl, hfz, hnd⟩ := hW
  have hA : DataW.TrodAll enc Try.prog W 0 (fun _ => true) true Try.f4.params.toList args.toList ds p := hA0
  rw [Try.params4] at hA hval
  obtain ⟨v0, vs0, d0, ds0, p0, q0, hargs, rfl, rfl, h0, r0⟩ := trodAll_cons hA
  obtain ⟨v1, vs1, d1, ds1, p1, q1, rfl, rfl, rfl, h1, r1⟩ := trodAll_cons r0
  obtain ⟨v2, vs2, d2, ds2, p2, q2, rfl, rfl, rfl, h2, r2⟩ := trodAll_cons r1
  obtain ⟨rfl, rfl, rfl⟩ := trodAll_nil r2
  obtain rfl : args = #[v0, v1, v2] := by cases args; simp_all
  obtain ⟨rfl, rfl⟩ := trodVars_none hV
  obtain ⟨a0, len0, cap0, rfl⟩ := okWide_slice Try.underlying22 (hval 0 22 v0 rfl rfl)
  have k0 := h0
  have lt0 : ∀ x ∈ p0, x.block < W.heap.size := by obtain ⟨m, hm⟩ := k0; exact DataW.trod_lt m _ _ _ hm
  obtain ⟨z0, w0⟩ : ∃ zs, IsRow .i64 W a0 len0 cap0 zs := by
    obtain ⟨fuel, hf⟩ := h0
    rcases open_ints Try.underlying22 Try.underlying2 (by kernel_rfl) hf with ⟨hcs, _⟩ | ⟨x, l, c, zs, hcs, hx, hl, hm, hz, _, hcell, hwz⟩
    · simp [Value.cells] at hcs
      obtain ⟨rfl, rfl, rfl⟩ := hcs
      exact ⟨[], .inl ⟨rfl, rfl, rfl, rfl⟩⟩
    · simp [Value.cells] at hcs
      obtain ⟨rfl, rfl, rfl⟩ := hcs
      exact ⟨zs, isRow_some hl hm (by simpa using hz) hcell hwz⟩
  obtain ⟨a1, rfl, rfl, rfl, w1⟩ := open_int Try.underlying2 (hval 1 2 v1 rfl rfl) h1
  obtain ⟨a2, rfl, rfl, rfl, w2⟩ := open_int Try.underlying2 (hval 2 2 v2 rfl rfl) h2
  clear hA0 hval0
  refine (walk a0 len0 cap0 z0 a1 a2 W w0 w1 w2).mono fun e W' ⟨he, bel⟩ => ?_
  subst he
  exact ⟨_, rfl, _, _, _, [], _, [], hW', trodAll_mk1 (shut_bool Try.underlying4 _), (trodAll_cons_mk (Below.trod laidOut (by kernel_rfl) (of_decide_eq_true (by kernel_rfl)) k0 bel lt0) (trodAll_cons_mk (shut_int Try.underlying2 w1) (trodAll_cons_mk (shut_int Try.underlying2 w2) trodAll_mk0))), rfl, bel.frame _, fun h => by cases h⟩

theorem over : Rows.fixqMultipliesRow.holds Try.pinned (OpenSpec.ofChange Rows.fixqMultipliesSpec) :=
  OpenClaim.holds_of_wide 4 Try.f4 rfl rfl rfl rfl rfl rfl rfl ⟨rfl, rfl, rfl, rfl, rfl⟩ rfl rfl rfl rfl rfl (by kernel_rfl) Try.func4 (by kernel_rfl)
    (of_decide_eq_true (by kernel_rfl)) (by unfold Func.isWrapper; first | (rw [if_pos (by decide +kernel)]; kernel_rfl) | (rw [if_neg (by decide +kernel)]; exact ⟨rfl, rfl⟩))
    (fun os started H enc _ => lifted os started H enc)

theorem proved : Rows.FixqMultipliesSaid := over
#print axioms proved
end Go.Proofs.Ytmmmooanapodlaa.fixqMultiplies
