/- Whatever bytes come in, FrameLooks answers true, and writes nothing that was there. -/
import Derived.Test.YtokgcbdpmbjagaaRows
import Derived.ShutString
import Derived.ChangeOld
import Derived.Below
import Derived.Test.YtokgcbdpmbjagaaLawKit
import Derived.Test.YtokgcbdpmbjagaaFrameLive
import Derived.Test.YtokgcbdpmbjagaaFrameSame
set_option linter.unusedSimpArgs false
set_option linter.unusedVariables false
namespace Go.Proofs.Ytokgcbdpmbjagaa.frameLooks
open Go.ChangeShapes Go.WideShapes Go.ChangeAt Go.RowKit
open Go.ChangeMaps (open_string shut_string)
open Frm RU8
set_option maxHeartbeats 2000000 in
theorem walk (a0 : Option Addr) (len0 cap0 : Nat) (z0 : List Int) (w : World) (w0 : IsRow .u8 w a0 len0 cap0 z0) :
    Calls Try.prog 4 #[.slice a0 len0 cap0] w fun e w' => e = .returned (.bool true) ∧ Below w.heap.size w w' := by
  obtain ⟨b, hv, hb, hl, hm, _⟩ := row_vals w0
  clear w0
  rcases Nat.lt_or_ge 1000 len0 with hbig | hs0
  · have hlive := live_ok w
    clear hv hb
    go_enter Try.func4, Try.ntmps4
    go_wp2_with (go_at_call 7; ((with_reducible refine hlive.mono ?_); rintro e w' ⟨rfl, hB⟩))
    go_ret
    exact ⟨rfl, hB⟩
  have hk1 := look_any a0 len0 cap0 b w hv hb (by omega) hl hm
  have hk2 : ∀ W, Vals W a0 len0 b → Calls Try.prog 13 #[.slice a0 len0 cap0] W (LookIs W b) := fun W h => reflook_any a0 len0 cap0 b W h hb (by omega) hl hm
  have hsm : ∀ (A : Option Addr) (n c : Nat) (B : Option Addr) (d : Nat) (W : World), Row.Vals sampS W A n (lookL b) → Row.Vals sampS W B n (lookL b) → n ≤ 32 → Calls Try.prog 14 #[.agg #[.int .u8 (lookSeq b), .slice A n c], .agg #[.int .u8 (lookSeq b), .slice B n d]] W fun e w' => e = .returned (.bool true) ∧ Below W.heap.size W w' := fun A n c B d W h1 h2 h3 => by
    have := same_any (lookSeq b) (lookSeq b) A n c (lookL b) B n d (lookL b) W h1 h2 (by omega) (by omega)
    rwa [decide_eq_true ⟨rfl, rfl⟩] at this
  unfold LookIs at hk1 hk2
  have hE := lookE_range b
  have hw : IntKind.i64.wrap (lookE b) = lookE b := by exact IntWalk.i64_in _ (by omega)
  generalize lookE b = E at *
  generalize lookSeq b = q at *
  generalize lookL b = L at *
  generalize lookN b = N at *
  go_enter Try.func4, Try.ntmps4
  go_wp2_with (first
    | (go_at_call 12; ((with_reducible refine hk1.mono ?_); rintro e W1 ⟨A1, n1, c1, rfl, h1, h2, hV1, h3, _, hB1⟩; have hBa := hB1.alloc hB1.size (.cells #[.int .u8 q, .slice A1 n1 c1] 34); have hF := Has.new W1 34 #[.int .u8 q, .slice A1 n1 c1]; have hVa := hV1.alloc (.cells #[.int .u8 q, .slice A1 n1 c1] 34)))
    | (go_at_call 13; ((with_reducible refine (hk2 _ (hv.below hBa)).mono ?_); rintro e W2 ⟨A2, n2, c2, rfl, h4, h5, hV2, h6, _, hB2⟩; have e12 : n2 = n1 := hV2.len_.symm.trans hV1.len_; subst e12; have hBB := hBa.trans (hB2.mono hBa.size); have hBc := hBB.alloc hBB.size (.cells #[.int .u8 q, .slice A2 n2 c2] 34); have hF2 := (hF.below hB2 (by simp)).alloc (.cells #[.int .u8 q, .slice A2 n2 c2] 34); have hG := Has.new W2 34 #[.int .u8 q, .slice A2 n2 c2]; have hVb := (hVa.below hB2).alloc (.cells #[.int .u8 q, .slice A2 n2 c2] 34); have hVc := hV2.alloc (.cells #[.int .u8 q, .slice A2 n2 c2] 34); obtain ⟨f0, f1, _, _⟩ := hF2.two; obtain ⟨g0, g1, _, _⟩ := hG.two))
    | (go_at_call 14; ((with_reducible refine (hsm _ _ _ _ _ _ hVb hVc h3).mono ?_); rintro e W3 ⟨rfl, hB3⟩; have hBd := hBc.trans (hB3.mono hBc.size)))
    | (go_at_call 7; ((with_reducible refine (live_ok _).mono ?_); rintro e W5 ⟨rfl, hB5⟩)))
  go_ret
  exact ⟨rfl, hBd.trans (hB5.mono hBd.size)⟩

theorem own : ownKnob Try.prog.godebug = none := by kernel_rfl
theorem laidOut : laidOutB Try.prog = true := by kernel_rfl

/-! ### The row's step -/
set_option maxRecDepth 100000 in
theorem lifted (os : Os) (started : os.Started) (H : Type) (enc : TypeId × Value → H) :
    ReturnsInHanded {} Try.checked os 4 .any (Rows.frameLooksSpec.pre6 enc Try.prog Try.f4 Rows.frameLooksRow.domain false) (Rows.frameLooksSpec.post enc Try.prog Try.f4 false true false false) := by
  refine returnsInHanded_of_change (C := Try.checked) own started (by kernel_rfl) Try.func4
    (ChangeSpec.witness6 (enc := enc) (C := Try.checked) false ⟨#[], #[.slice none 0 0], []⟩ 8 (by kernel_rfl) (by kernel_rfl) (by kernel_rfl) (by kernel_rfl)) ?_
  intro W base args ds gs before hval0 hW hcnd _
  have hval : ∀ (j : Nat) t v, Try.f4.params[j]? = some t → args[j]? = some v → Value.okWide Try.prog W .any base t v := hval0
  have hW' := hW
  obtain ⟨p, q, hA0, hV, rfl, hfz, hnd⟩ := hW
  have hA : DataW.TrodAll enc Try.prog W 0 (fun _ => true) true Try.f4.params.toList args.toList ds p := hA0
  rw [Try.params4] at hA hval
  obtain ⟨v0, vs0, d0, ds0, p0, q0, hargs, rfl, rfl, h0, r0⟩ := trodAll_cons hA
  obtain ⟨rfl, rfl, rfl⟩ := trodAll_nil r0
  obtain rfl : args = #[v0] := by cases args; simp_all
  obtain ⟨rfl, rfl⟩ := trodVars_none hV
  obtain ⟨a0, len0, cap0, rfl⟩ := okWide_slice Try.underlying24 (hval 0 24 v0 rfl rfl)
  have k0 := h0
  have lt0 : ∀ x ∈ p0, x.block < W.heap.size := by obtain ⟨m, hm⟩ := k0; exact DataW.trod_lt m _ _ _ hm
  obtain ⟨z0, w0⟩ : ∃ zs, IsRow .u8 W a0 len0 cap0 zs := by
    obtain ⟨fuel, hf⟩ := h0
    rcases open_ints Try.underlying24 Try.underlying5 (by kernel_rfl) hf with ⟨hcs, _⟩ | ⟨x, l, c, zs, hcs, hx, hl, hm, hz, _, hcell, hwz⟩
    · simp [Value.cells] at hcs
      obtain ⟨rfl, rfl, rfl⟩ := hcs
      exact ⟨[], .inl ⟨rfl, rfl, rfl, rfl⟩⟩
    · simp [Value.cells] at hcs
      obtain ⟨rfl, rfl, rfl⟩ := hcs
      exact ⟨zs, isRow_some hl hm (by simpa using hz) hcell hwz⟩
  clear hA0 hval0
  refine (walk a0 len0 cap0 z0 W w0).mono fun e W' ⟨he, bel⟩ => ?_
  subst he
  exact ⟨_, rfl, _, _, _, [], _, [], hW', trodAll_mk1 (shut_bool Try.underlying4 _), (trodAll_cons_mk (Below.trod laidOut (by kernel_rfl) (of_decide_eq_true (by kernel_rfl)) k0 bel lt0) trodAll_mk0), rfl, bel.frame _, fun h => by cases h⟩

theorem over : Rows.frameLooksRow.holds Try.pinned (OpenSpec.ofChange Rows.frameLooksSpec) :=
  OpenClaim.holds_of_wide 4 Try.f4 rfl rfl rfl rfl rfl rfl rfl ⟨rfl, rfl, rfl, rfl, rfl⟩ rfl rfl rfl rfl rfl (by kernel_rfl) Try.func4 (by kernel_rfl)
    (of_decide_eq_true (by kernel_rfl)) (by unfold Func.isWrapper; first | (rw [if_pos (by decide +kernel)]; kernel_rfl) | (rw [if_neg (by decide +kernel)]; exact ⟨rfl, rfl⟩))
    (fun os started H enc _ => lifted os started H enc)

theorem proved : Rows.FrameLooksSaid := over
#print axioms proved
end Go.Proofs.Ytokgcbdpmbjagaa.frameLooks
