/- Whatever two lists of numbers come in, FixqParts answers true, and writes nothing that was there. -/
import Derived.Test.YtmmmooanapodlaaRows
import Derived.ShutString
import Derived.ChangeOld
import Derived.Below
import Derived.Test.YtmmmooanapodlaaLawKit
import Derived.Test.YtmmmooanapodlaaFixqRef
import Derived.Test.YtmmmooanapodlaaFixqMul
import Derived.Test.YtmmmooanapodlaaAppend
set_option linter.unusedSimpArgs false
set_option linter.unusedVariables false
namespace Go.Proofs.Ytmmmooanapodlaa.fixqParts
open Go.ChangeShapes Go.WideShapes Go.ChangeAt Go.RowKit
open Go.ChangeMaps (open_string shut_string)
theorem row_len {w : World} {a : Option Addr} {len cap : Nat} {zs : List Int} (h : IsRow .i64 w a len cap zs) : len ≤ 9223372036854775807 := by
  rcases h with ⟨_, rfl, _⟩ | ⟨_, _, h1, h2, _⟩
  · omega
  · unfold maxLen at h2; omega
set_option maxHeartbeats 1000000 in
theorem walk (a0 : Option Addr) (len0 cap0 : Nat) (z0 : List Int) (a1 : Option Addr) (len1 cap1 : Nat) (z1 : List Int) (w : World) (w0 : IsRow .i64 w a0 len0 cap0 z0) (w1 : IsRow .i64 w a1 len1 cap1 z1) :
    Calls Try.prog 9 #[.slice a0 len0 cap0, .slice a1 len1 cap1] w fun e w' => e = .returned (.bool true) ∧ Below w.heap.size w w' := by
  have l0 := row_len w0
  have l1 := row_len w1
  rcases Nat.lt_or_ge 500 len0 with hbig | hsmall
  · clear w0 w1
    go_enter Try.func9, Try.ntmps9
    go_wp2_with (go_at_call 10; refine (live_ok _).mono ?_; rintro e w' ⟨rfl, hN⟩)
    go_ret
    exact ⟨rfl, hN⟩
  rcases Nat.lt_or_ge 500 len1 with hbig1 | hsmall1
  · clear w0 w1
    go_enter Try.func9, Try.ntmps9
    go_wp2_with (go_at_call 10; refine (live_ok _).mono ?_; rintro e w' ⟨rfl, hN⟩)
    go_ret
    exact ⟨rfl, hN⟩
  have hI0 := row_ints w0 (by omega)
  have hI1 := row_ints w1 (by omega)
  clear w0 w1 l0 l1
  generalize z0.take len0 = xs at hI0
  generalize z1.take len1 = ys at hI1
  by_cases hx : fits64 xs.sum
  · have HX := addIs_yes hx
    by_cases hy : fits64 ys.sum
    · have HY := addIs_yes hy
      have hwf : ∀ n ∈ ys ++ xs, fits64 n := fun n hn => by
        rcases List.mem_append.1 hn with h | h
        · exact hI1.wf n h
        · exact hI0.wf n h
      have hsum := Lib.hid (show (ys ++ xs).sum = xs.sum + ys.sum by rw [List.sum_append]; omega)
      generalize hxs : xs.sum = x at *
      generalize hys : ys.sum = y at *
      have HXS := Lib.hid hxs
      have HYS := Lib.hid hys
      have HW := Lib.hid hwf
      clear hxs hys hwf
      have hT : Ints w none 0 [] := ⟨rfl, by omega, by simp, fun h => absurd h (by omega)⟩
      have hB1 : Below w.heap.size w ((w.alloc (.cells #[.int .i64 x, .int .i64 y] 2)).alloc (.cells #[] 2)) := ((Below.refl _ _).alloc (Nat.le_refl _) _).alloc (by simp) _
      have hJ1 : Ints ((w.alloc (.cells #[.int .i64 x, .int .i64 y] 2)).alloc (.cells #[] 2)) a1 len1 ys := ((hI1.below ((Below.refl _ _).alloc (Nat.le_refl _) _)).below ((Below.refl _ _).alloc (Nat.le_refl _) _))
      have hJ0 : Ints ((w.alloc (.cells #[.int .i64 x, .int .i64 y] 2)).alloc (.cells #[] 2)) a0 len0 xs := ((hI0.below ((Below.refl _ _).alloc (Nat.le_refl _) _)).below ((Below.refl _ _).alloc (Nat.le_refl _) _))
      have hO0 : World.ownsRow ((w.alloc (.cells #[.int .i64 x, .int .i64 y] 2)).alloc (.cells #[] 2)) w.heap.size 2 1 (.slice (some ⟨w.heap.size + 1, 0, none⟩) 0 0) 0 (nums []) := by
        have h := Has.new (w.alloc (.cells #[.int .i64 x, .int .i64 y] 2)) 2 #[]
        rw [show (w.alloc (.cells #[.int .i64 x, .int .i64 y] 2)).heap.size = w.heap.size + 1 by simp] at h
        exact ⟨rfl, .inr ⟨_, 0, #[], rfl, by omega, h, Nat.le_refl _, by unfold maxLen; omega, rfl, rfl⟩⟩
      have hInfo : (Try.prog.info? 2).map (fun i => (i.zero, i.size, i.bytes)) = some (some (.int .i64 0), 1, 8) := by kernel_rfl
      have HInfo := Lib.hid hInfo
      clear hInfo
      by_cases hxy : fits64 (x + y)
      all_goals
        first | have HD := addIs_yes hxy | have HD := addIs_no hxy
        clear hxy
        go_enter Try.func9, Try.ntmps9
        go_wp2_with (first
          | (go_at_call 11; ((with_reducible refine (add_any _ _ _ _ _ hI0).mono ?_); rintro e w' ⟨he, rfl⟩; rw [HXS.out, HX] at he; subst he))
          | (go_at_call 11; ((with_reducible refine (add_any _ _ _ _ _ hI1).mono ?_); rintro e w' ⟨he, rfl⟩; rw [HYS.out, HY] at he; subst he))
          | (go_at_call 11; ((with_reducible refine (add_any _ _ _ _ _ (ints_pair _ _ _ _ hx hy)).mono ?_); rintro e w' ⟨he, rfl⟩; rw [sum_pair, HD] at he; subst he))
          | (go_at_call 11; ((with_reducible refine (add_any _ _ _ _ _ hI2).mono ?_); rintro e w' ⟨he, rfl⟩; rw [hsum.out, HD] at he; subst he))
          | (at_builtin
             refine wpList_append_ints rfl (.tmp 59) (.tmp 60) _ rfl w.heap.size 2 Try.underlying22 HInfo.out (.slice (some ⟨w.heap.size + 1, 0, none⟩) 0 0) 0 [] rfl hO0 a1 len1 cap1 ys rfl hJ1 (by omega) hB1.size ?_
             intro v1 w1 hO1 hg1 hat1
             simp only [Nat.zero_add, List.nil_append] at hO1
             have hB2 : Below w.heap.size w w1 := hB1.grown hg1 hB1.size (fun k hk => by simp [Value.ownBlock] at hk; omega)
             have hJ2 : Ints w1 a0 len0 xs := hI0.below hB2)
          | (at_builtin
             refine wpList_append_ints rfl (.tmp 61) (.tmp 62) _ rfl w.heap.size 2 Try.underlying22 HInfo.out v1 len1 ys rfl hO1 a0 len0 cap0 xs rfl hJ2 (by omega) hB2.size ?_
             intro v2 w2 hO2 hg2 hat2
             have hB3 : Below w.heap.size w w2 := hB2.grown hg2 hB2.size (fun k hk => by rcases hat1 with e | e <;> rw [e] at hk <;> simp [Value.ownBlock] at hk <;> omega)
             obtain ⟨A2, c2, rfl, hI2⟩ := own_ints (xs := ys ++ xs) hO2 HW.out (by omega))
          | (go_at_call 10; refine (live_ok _).mono ?_; rintro e w' ⟨rfl, hN⟩))
        go_ret
        exact ⟨rfl, hB3.trans (hN.mono hB3.size)⟩
    · have HY := addIs_no hy
      clear hy
      go_enter Try.func9, Try.ntmps9
      go_wp2_with (first
        | (go_at_call 11; ((with_reducible refine (add_any _ _ _ _ _ hI0).mono ?_); rintro e w' ⟨he, rfl⟩; rw [HX] at he; subst he))
        | (go_at_call 11; ((with_reducible refine (add_any _ _ _ _ _ hI1).mono ?_); rintro e w' ⟨he, rfl⟩; rw [HY] at he; subst he))
        | (go_at_call 10; refine (live_ok _).mono ?_; rintro e w' ⟨rfl, hN⟩))
      all_goals
        go_ret
        exact ⟨rfl, by first | exact hN | exact Below.refl _ _⟩
  · have HX := addIs_no hx
    clear hx
    by_cases hy : fits64 ys.sum
    all_goals
      first | have HY := addIs_yes hy | have HY := addIs_no hy
      clear hy
      go_enter Try.func9, Try.ntmps9
      go_wp2_with (first
        | (go_at_call 11; ((with_reducible refine (add_any _ _ _ _ _ hI0).mono ?_); rintro e w' ⟨he, rfl⟩; rw [HX] at he; subst he))
        | (go_at_call 11; ((with_reducible refine (add_any _ _ _ _ _ hI1).mono ?_); rintro e w' ⟨he, rfl⟩; rw [HY] at he; subst he))
        | (go_at_call 10; refine (live_ok _).mono ?_; rintro e w' ⟨rfl, hN⟩))
      all_goals
        go_ret
        exact ⟨rfl, by first | exact hN | exact Below.refl _ _⟩

theorem own : ownKnob Try.prog.godebug = none := by kernel_rfl
theorem laidOut : laidOutB Try.prog = true := by kernel_rfl

/-! ### The row's step -/
set_option maxRecDepth 100000 in
theorem lifted (os : Os) (started : os.Started) (H : Type) (enc : TypeId × Value → H) :
    ReturnsInHanded {} Try.checked os 9 .any (Rows.fixqPartsSpec.pre6 enc Try.prog Try.f9 Rows.fixqPartsRow.domain false) (Rows.fixqPartsSpec.post enc Try.prog Try.f9 false true false false) := by
  refine returnsInHanded_of_change (C := Try.checked) own started (by kernel_rfl) Try.func9
    (ChangeSpec.witness6 (enc := enc) (C := Try.checked) false ⟨#[], #[.slice none 0 0, .slice none 0 0], []⟩ 8 (by kernel_rfl) (by kernel_rfl) (by kernel_rfl) (by kernel_rfl)) ?_
  intro W base args ds gs before hval0 hW hcnd _
  have hval : ∀ (j : Nat) t v, Try.f9.params[j]? = some t → args[j]? = some v → Value.okWide Try.prog W .any base t v := hval0
  have hW' := hW
  obtain ⟨p, q, hA0, hV, rfl, hfz, hnd⟩ := hW
  have hA : DataW.TrodAll enc Try.prog W 0 (fun _ => true) true Try.f9.params.toList args.toList ds p := hA0
  rw [Try.params9] at hA hval
  obtain ⟨v0, vs0, d0, ds0, p0, q0, hargs, rfl, rfl, h0, r0⟩ := trodAll_cons hA
  obtain ⟨v1, vs1, d1, ds1, p1, q1, rfl, rfl, rfl, h1, r1⟩ := trodAll_cons r0
  obtain ⟨rfl, rfl, rfl⟩ := trodAll_nil r1
  obtain rfl : args = #[v0, v1] := by cases args; simp_all
  obtain ⟨rfl, rfl⟩ := trodVars_none hV
  obtain ⟨a0, len0, cap0, rfl⟩ := okWide_slice Try.underlying22 (hval 0 22 v0 rfl rfl)
  have k0 := h0
  have lt0 : ∀ x ∈ p0, x.block < W.heap.size := by obtain ⟨m, hm⟩ := k0; exact DataW.trod_lt m _ _ _ hm
  obtain ⟨z0, w0⟩ : ∃ zs, IsRow .i64 W a0 len0 cap0 zs := by
    obtain ⟨fuel, hf⟩ := h0
    rcases open_ints Try.underlying22 Try.underlying2 (by kernel_rfl) hf with ⟨hcs, _⟩ | ⟨x, l, c, zs, hcs, hx, hl, hm, hz, _, hcell, hwz⟩
    · simp [Value.cells] at hcs
      obtain ⟨rfl, rfl, rfl⟩ := hcs
      exact ⟨[], .inl ⟨rfl, rfl, rfl, rfl⟩⟩
    · simp [Value.cells] at hcs
      obtain ⟨rfl, rfl, rfl⟩ := hcs
      exact ⟨zs, isRow_some hl hm (by simpa using hz) hcell hwz⟩
  obtain ⟨a1, len1, cap1, rfl⟩ := okWide_slice Try.underlying22 (hval 1 22 v1 rfl rfl)
  have k1 := h1
  have lt1 : ∀ x ∈ p1, x.block < W.heap.size := by obtain ⟨m, hm⟩ := k1; exact DataW.trod_lt m _ _ _ hm
  obtain ⟨z1, w1⟩ : ∃ zs, IsRow .i64 W a1 len1 cap1 zs := by
    obtain ⟨fuel, hf⟩ := h1
    rcases open_ints Try.underlying22 Try.underlying2 (by kernel_rfl) hf with ⟨hcs, _⟩ | ⟨x, l, c, zs, hcs, hx, hl, hm, hz, _, hcell, hwz⟩
    · simp [Value.cells] at hcs
      obtain ⟨rfl, rfl, rfl⟩ := hcs
      exact ⟨[], .inl ⟨rfl, rfl, rfl, rfl⟩⟩
    · simp [Value.cells] at hcs
      obtain ⟨rfl, rfl, rfl⟩ := hcs
      exact ⟨zs, isRow_some hl hm (by simpa using hz) hcell hwz⟩
  clear hA0 hval0
  refine (walk a0 len0 cap0 z0 a1 len1 cap1 z1 W w0 w1).mono fun e W' ⟨he, bel⟩ => ?_
  subst he
  exact ⟨_, rfl, _, _, _, [], _, [], hW', trodAll_mk1 (shut_bool Try.underlying4 _), (trodAll_cons_mk (Below.trod laidOut (by kernel_rfl) (of_decide_eq_true (by kernel_rfl)) k0 bel lt0) (trodAll_cons_mk (Below.trod laidOut (by kernel_rfl) (of_decide_eq_true (by kernel_rfl)) k1 bel lt1) trodAll_mk0)), rfl, bel.frame _, fun h => by cases h⟩

theorem over : Rows.fixqPartsRow.holds Try.pinned (OpenSpec.ofChange Rows.fixqPartsSpec) :=
  OpenClaim.holds_of_wide 9 Try.f9 rfl rfl rfl rfl rfl rfl rfl ⟨rfl, rfl, rfl, rfl, rfl⟩ rfl rfl rfl rfl rfl (by kernel_rfl) Try.func9 (by kernel_rfl)
    (of_decide_eq_true (by kernel_rfl)) (by unfold Func.isWrapper; first | (rw [if_pos (by decide +kernel)]; kernel_rfl) | (rw [if_neg (by decide +kernel)]; exact ⟨rfl, rfl⟩))
    (fun os started H enc _ => lifted os started H enc)

theorem proved : Rows.FixqPartsSaid := over
#print axioms proved
end Go.Proofs.Ytmmmooanapodlaa.fixqParts
