/- Whatever bytes come in, ParseEvents answers true, and writes nothing that was there. -/
import Derived.Test.YtlhjligeigkbnaaRows
import Derived.ShutString
import Derived.ChangeOld
import Derived.Below
import Derived.Test.YtlhjligeigkbnaaLawKit
import Derived.Test.YtlhjligeigkbnaaParseLive
set_option linter.unusedSimpArgs false
set_option linter.unusedVariables false
namespace Go.Proofs.Ytlhjligeigkbnaa.parseEvents
open Go.ChangeShapes Go.WideShapes Go.ChangeAt Go.RowKit
open Go.ChangeMaps (open_string shut_string)
open Par RU8
theorem same_yes (A : Option Addr) (n c : Nat) (xs : List Ev) (B : Option Addr) (m d : Nat) (w : World) (hv : Row.Vals evSh w A n xs) (hu : Row.Vals evSh w B m xs) (hn : n ≤ 100000) (hm : m ≤ 100000) :
    Calls Try.prog 15 #[.slice A n c, .slice B m d] w fun e w' => e = .returned (.bool true) ∧ ∃ z, w' = w.drewN z := by
  have := refsame_any A n c xs B m d xs w hv hu (by omega) (by omega)
  rwa [decide_eq_true rfl] at this
set_option maxRecDepth 100000 in
set_option maxHeartbeats 2000000 in
theorem walk (a0 : Option Addr) (len0 cap0 : Nat) (z0 : List Int) (w : World) (w0 : IsRow .u8 w a0 len0 cap0 z0) :
    Calls Try.prog 4 #[.slice a0 len0 cap0] w fun e w' => e = .returned (.bool true) ∧ Below w.heap.size w w' := by
  obtain ⟨b, hV0, hb, hl0, hm0, _⟩ := row_vals w0
  clear w0
  rcases Nat.lt_or_ge 1500 len0 with hbig | hs0
  · have hlive := live_ok w
    clear hV0 hb
    go_enter Try.func4, Try.ntmps4
    go_wp2_with (go_at_call 8; ((with_reducible refine hlive.mono ?_); rintro e w' ⟨rfl, hB⟩))
    go_ret
    exact ⟨rfl, hB⟩
  have hev := fun W hV => events_any a0 len0 cap0 b W hV hb (by omega) hl0 hm0
  have hrev := fun W hV => refevents_any a0 len0 cap0 b W hV hb (by omega) hl0 hm0
  have hC : Below w.heap.size w w := Below.refl _ _
  unfold EventsIs at hev hrev
  generalize eventsT b = es at *
  generalize endT b = E at *
  clear hb
  go_enter Try.func4, Try.ntmps4
  go_wp2_with (first
    | (go_at_call 13; ((with_reducible refine (hev _ hV0).mono ?_); rintro e w1 ⟨A1, n1, c1, rfl, h1a, h1b, h1n, hV1, h1f, hB⟩; replace hC := hC.trans (hB.mono hC.size); replace hV0 := hV0.below hB))
    | (go_at_call 14; ((with_reducible refine (hrev _ hV0).mono ?_); rintro e w2 ⟨A2, n2, c2, rfl, h2a, h2b, h2n, hV2, h2f, hB⟩; replace hC := hC.trans (hB.mono hC.size); replace hV1 := hV1.below hB; have hsm := same_yes A1 n1 c1 es A2 n2 c2 _ hV1 hV2 h1n h2n))
    | (go_at_call 15; ((with_reducible refine hsm.mono ?_); rintro e w3 ⟨rfl, kd, rfl⟩; replace hC := below_drewN hC kd; clear hsm hV1 hV2 hV0))
    | (go_at_call 8; ((with_reducible refine (live_ok _).mono ?_); rintro e w7 ⟨rfl, hB⟩; replace hC := hC.trans (hB.mono hC.size))))
  go_ret
  exact ⟨rfl, hC⟩

theorem own : ownKnob Try.prog.godebug = none := by kernel_rfl
theorem laidOut : laidOutB Try.prog = true := by kernel_rfl

/-! ### The row's step -/
set_option maxRecDepth 100000 in
theorem lifted (os : Os) (started : os.Started) (H : Type) (enc : TypeId × Value → H) :
    ReturnsInHanded {} Try.checked os 4 .any (Rows.parseEventsSpec.pre6 enc Try.prog Try.f4 Rows.parseEventsRow.domain false) (Rows.parseEventsSpec.post enc Try.prog Try.f4 false true false false) := by
  refine returnsInHanded_of_change (C := Try.checked) own started (by kernel_rfl) Try.func4
    (ChangeSpec.witness6 (enc := enc) (C := Try.checked) false ⟨#[], #[.slice none 0 0], []⟩ 8 (by kernel_rfl) (by kernel_rfl) (by kernel_rfl) (by kernel_rfl)) ?_
  intro W base args ds gs before hval0 hW hcnd _
  have hval : ∀ (j : Nat) t v, Try.f4.params[j]? = some t → args[j]? = some v → Value.okWide Try.prog W .any base t v := hval0
  have hW' := hW
  obtain ⟨p, q, hA0, hV, rfl, hfz, hnd⟩ := hW
  have hA : DataW.TrodAll enc Try.prog W 0 (fun _ => true) true Try.f4.params.toList args.toList ds p := hA0
  rw [Try.params4] at hA hval
  obtain ⟨v0, vs0, d0, ds0, p0, q0, hargs, rfl, rfl, h0, r0⟩ := trodAll_cons hA
  obtain ⟨rfl, rfl, rfl⟩ := trodAll_nil r0
  obtain rfl : args = #[v0] := by cases args; simp_all
  obtain ⟨rfl, rfl⟩ := trodVars_none hV
  obtain ⟨a0, len0, cap0, rfl⟩ := okWide_slice Try.underlying22 (hval 0 22 v0 rfl rfl)
  have k0 := h0
  have lt0 : ∀ x ∈ p0, x.block < W.heap.size := by obtain ⟨m, hm⟩ := k0; exact DataW.trod_lt m _ _ _ hm
  obtain ⟨z0, w0⟩ : ∃ zs, IsRow .u8 W a0 len0 cap0 zs := by
    obtain ⟨fuel, hf⟩ := h0
    rcases open_ints Try.underlying22 Try.underlying5 (by kernel_rfl) hf with ⟨hcs, _⟩ | ⟨x, l, c, zs, hcs, hx, hl, hm, hz, _, hcell, hwz⟩
    · simp [Value.cells] at hcs
      obtain ⟨rfl, rfl, rfl⟩ := hcs
      exact ⟨[], .inl ⟨rfl, rfl, rfl, rfl⟩⟩
    · simp [Value.cells] at hcs
      obtain ⟨rfl, rfl, rfl⟩ := hcs
      exact ⟨zs, isRow_some hl hm (by simpa using hz) hcell hwz⟩
  clear hA0 hval0
  refine (walk a0 len0 cap0 z0 W w0).mono fun e W' ⟨he, bel⟩ => ?_
  subst he
  exact ⟨_, rfl, _, _, _, [], _, [], hW', trodAll_mk1 (shut_bool Try.underlying4 _), (trodAll_cons_mk (Below.trod laidOut (by kernel_rfl) (of_decide_eq_true (by kernel_rfl)) k0 bel lt0) trodAll_mk0), rfl, bel.frame _, fun h => by cases h⟩

theorem over : Rows.parseEventsRow.holds Try.pinned (OpenSpec.ofChange Rows.parseEventsSpec) :=
  OpenClaim.holds_of_wide 4 Try.f4 rfl rfl rfl rfl rfl rfl rfl ⟨rfl, rfl, rfl, rfl, rfl⟩ rfl rfl rfl rfl rfl (by kernel_rfl) Try.func4 (by kernel_rfl)
    (of_decide_eq_true (by kernel_rfl)) (by unfold Func.isWrapper; first | (rw [if_pos (by decide +kernel)]; kernel_rfl) | (rw [if_neg (by decide +kernel)]; exact ⟨rfl, rfl⟩))
    (fun os started H enc _ => lifted os started H enc)

theorem proved : Rows.ParseEventsSaid := over
#print axioms proved
end Go.Proofs.Ytlhjligeigkbnaa.parseEvents
