/- Whatever bytes and text come in, TextBytes answers true, and writes nothing that was there. -/
import Derived.Test.YtcmfhbpdeloflaaDoorRows
import Derived.ShutString
import Derived.ChangeOld
import Derived.Below
import Derived.Test.YtcmfhbpdeloflaaDoorLawKit
import Derived.Test.YtcmfhbpdeloflaaDoorTextLive
import Derived.Test.YtcmfhbpdeloflaaDoorTextDoor
import Derived.Test.YtcmfhbpdeloflaaDoorCards
import Derived.Test.YtcmfhbpdeloflaaDoorTie
import Derived.SevenTiedAt
import Derived.LaidMore
import Derived.Stop.Joined
set_option linter.unusedSimpArgs false
set_option linter.unusedVariables false
namespace Go.Proofs.YtcmfhbpdeloflaaDoor.textBytes
open Go.ChangeShapes Go.WideShapes Go.ChangeAt Go.RowKit
open Go.ChangeMaps (open_string shut_string)
open Txt RU8
set_option maxRecDepth 100000 in
set_option maxHeartbeats 2000000 in
theorem walk (a0 : Option Addr) (len0 cap0 : Nat) (z0 : List Int) (a1 : ByteArray) (w : World) (w0 : IsRow .u8 w a0 len0 cap0 z0) (w1 : a1.size ≤ maxLen) (hLd : Laid w) :
    Calls Tryd.prog 4 #[.slice a0 len0 cap0, .string a1] w fun e w' => e = .returned (.bool true) ∧ Below w.heap.size w w' := by
  obtain ⟨ys, hV0, hyb, hl0, hm0, _⟩ := row_vals w0
  clear w0 w1
  obtain ⟨l, hb, rfl⟩ : ∃ l, Bytes l ∧ a1 = str l := ⟨bytesOf a1, bytesOf_bytes a1, (str_bytesOf a1).symm⟩
  obtain ⟨L, hL⟩ : ∃ L, l.length = L := ⟨_, rfl⟩
  have hsz : (str l).size = L := by rw [str_size, hL]
  have hlen0 := hV0.len_
  rcases Nat.lt_or_ge 1000 len0 with hbig | hs0
  · have hlive := live_ok w hLd
    clear hb hL hV0 hyb hlen0
    go_enter Tryd.func4, Tryd.ntmps4
    go_wp2_with (go_at_call 7; ((with_reducible refine hlive.mono ?_); rintro e w' ⟨rfl, hB⟩))
    go_ret
    exact ⟨rfl, hB⟩
  rcases Nat.lt_or_ge 2000 L with hbig | hs1
  · have hlive := live_ok w hLd
    clear hb hL hV0 hyb hlen0
    go_enter Tryd.func4, Tryd.ntmps4
    go_wp2_with (go_at_call 7; ((with_reducible refine hlive.mono ?_); rintro e w' ⟨rfl, hB⟩))
    go_ret
    exact ⟨rfl, hB⟩
  have hun := fun W => unhex_any l hb (by omega) W
  have hrun := fun W => refunhex_any l hb (by omega) W
  have hub := unhexB_bytes l
  have hhexL := fun W hV => hex_any a0 len0 cap0 ys W hV hyb (by omega) hl0 hm0
  have hrhexL := fun W hV => refhex_any a0 len0 cap0 ys W hV hyb (by omega)
  have hxl : (hexT ys).length ≤ 100000 := by rw [hexT_length]; omega
  have hxs := unhex_some (unhex_hex ys hyb)
  have hback : ∀ W, Calls Tryd.prog 12 #[.string (str (hexT ys))] W fun e w' => ∃ A n c, e = .returned (.tuple #[.slice A n c, .int .i64 0]) ∧ n ≤ c ∧ c ≤ 9223372036854775807 ∧ Vals w' A n ys ∧ n ≤ 100000 ∧ Below W.heap.size W w' := fun W => by
    have := unhex_any (hexT ys) (hexT_bytes hyb) hxl W
    unfold UnhexIs at this
    rwa [hxs.1, hxs.2] at this
  have hcv : ∀ {W : World} {B : Option Addr} {k : Nat} {zs : List Nat}, Vals W B k zs → ∀ d, (convert 30 9 (.slice B k d)).run Tryd.prog W = .ok (.string (str zs)) W := fun h d => conv _ 5 _ Tryd.underlying30 Tryd.underlying5 Tryd.underlying9 h d
  have HCV := @Lib.hid _ (@hcv)
  have hlast : unhexE l = 0 → hexT (unhexB l) = l := fun h => by
    cases hu : unhexT l with
    | none => rw [(unhex_none hu).1] at h; exact absurd h (by decide)
    | some a => rw [(unhex_some hu).2]; exact (hex_unhex l a hu).1
  have HL := Lib.hid hlast
  have hE : unhexE l = 0 ∨ unhexE l = 8 := by unfold unhexE; split <;> simp
  have hC : Below w.heap.size w w := Below.refl _ _
  clear hlast hxs hxl hcv hL
  unfold UnhexIs at hun hrun
  by_cases hb0 : unhexE l = 0
  · rw [hb0] at hun hrun
    have hl2 := HL.out hb0
    clear hb0 hE
    go_enter Tryd.func4, Tryd.ntmps4
    go_wp2_with (first
      | (go_at_call 12; ((with_reducible refine (hun _).mono ?_); rintro e w1 ⟨A1, n1, c1, rfl, h1a, h1b, hV1, h1n, hB⟩; replace hC := hC.trans (hB.mono hC.size); replace hV0 := hV0.below hB; have hhexA := fun W hV => hex_any A1 n1 c1 (unhexB l) W hV hub h1n h1a h1b))
      | (go_at_call 13; ((with_reducible refine (hrun _).mono ?_); rintro e w2 ⟨A2, n2, c2, rfl, h2a, h2b, hV2, h2n, hB⟩; replace hC := hC.trans (hB.mono hC.size); replace hV0 := hV0.below hB; replace hV1 := hV1.below hB))
      | (go_at_call 14; ((with_reducible refine (hhexL _ (by exact hV0)).mono ?_); rintro e w3 ⟨rfl, hB⟩; replace hC := hC.trans (hB.mono hC.size); replace hV0 := hV0.below hB; replace hV1 := hV1.below hB; replace hV2 := hV2.below hB; (try replace hV3 := hV3.below hB)))
      | (go_at_call 12; ((with_reducible refine (hback _).mono ?_); rintro e w4 ⟨A3, n3, c3, rfl, h3a, h3b, hV3, h3n, hB⟩; replace hC := hC.trans (hB.mono hC.size); replace hV0 := hV0.below hB; replace hV1 := hV1.below hB; replace hV2 := hV2.below hB))
      | (go_at_call 15; ((with_reducible refine (hrhexL _ (by exact hV0)).mono ?_); rintro e w5 ⟨rfl, kd, rfl⟩; replace hC := below_drewN hC kd; replace hV0 := hV0.drewN kd; replace hV1 := hV1.drewN kd; replace hV2 := hV2.drewN kd; replace hV3 := hV3.drewN kd; have hcv0 := HCV.out hV0 cap0; have hcv1 := HCV.out hV1 c1; have hcv2 := HCV.out hV2 c2; have hcv3 := HCV.out hV3 c3))
      | (go_at_call 14; ((with_reducible refine (hhexA _ (by exact hV1)).mono ?_); rintro e w6 ⟨rfl, hB⟩; replace hC := hC.trans (hB.mono hC.size)))
      | (go_at_call 7; ((with_reducible refine (live_ok _ (hLd.below hC)).mono ?_); rintro e w7 ⟨rfl, hB⟩; replace hC := hC.trans (hB.mono hC.size))))
    go_ret
    exact ⟨rfl, hC⟩
  · have hb8 : unhexE l = 8 := by rcases hE with h | h; exact absurd h hb0; exact h
    rw [hb8] at hun hrun
    clear hb0 hE hb8
    go_enter Tryd.func4, Tryd.ntmps4
    go_wp2_with (first
      | (go_at_call 12; ((with_reducible refine (hun _).mono ?_); rintro e w1 ⟨A1, n1, c1, rfl, h1a, h1b, hV1, h1n, hB⟩; replace hC := hC.trans (hB.mono hC.size); replace hV0 := hV0.below hB; have hhexA := fun W hV => hex_any A1 n1 c1 (unhexB l) W hV hub h1n h1a h1b))
      | (go_at_call 13; ((with_reducible refine (hrun _).mono ?_); rintro e w2 ⟨A2, n2, c2, rfl, h2a, h2b, hV2, h2n, hB⟩; replace hC := hC.trans (hB.mono hC.size); replace hV0 := hV0.below hB; replace hV1 := hV1.below hB))
      | (go_at_call 14; ((with_reducible refine (hhexL _ (by exact hV0)).mono ?_); rintro e w3 ⟨rfl, hB⟩; replace hC := hC.trans (hB.mono hC.size); replace hV0 := hV0.below hB; replace hV1 := hV1.below hB; replace hV2 := hV2.below hB; (try replace hV3 := hV3.below hB)))
      | (go_at_call 12; ((with_reducible refine (hback _).mono ?_); rintro e w4 ⟨A3, n3, c3, rfl, h3a, h3b, hV3, h3n, hB⟩; replace hC := hC.trans (hB.mono hC.size); replace hV0 := hV0.below hB; replace hV1 := hV1.below hB; replace hV2 := hV2.below hB))
      | (go_at_call 15; ((with_reducible refine (hrhexL _ (by exact hV0)).mono ?_); rintro e w5 ⟨rfl, kd, rfl⟩; replace hC := below_drewN hC kd; replace hV0 := hV0.drewN kd; replace hV1 := hV1.drewN kd; replace hV2 := hV2.drewN kd; replace hV3 := hV3.drewN kd; have hcv0 := HCV.out hV0 cap0; have hcv1 := HCV.out hV1 c1; have hcv2 := HCV.out hV2 c2; have hcv3 := HCV.out hV3 c3))
      | (go_at_call 14; ((with_reducible refine (hhexA _ (by exact hV1)).mono ?_); rintro e w6 ⟨rfl, hB⟩; replace hC := hC.trans (hB.mono hC.size)))
      | (go_at_call 7; ((with_reducible refine (live_ok _ (hLd.below hC)).mono ?_); rintro e w7 ⟨rfl, hB⟩; replace hC := hC.trans (hB.mono hC.size))))
    go_ret
    exact ⟨rfl, hC⟩

theorem own : ownKnob Tryd.prog.godebug = none := by kernel_rfl
theorem laidOut : laidOutB Tryd.prog = true := by kernel_rfl

/-! ### The row's step -/
set_option maxRecDepth 100000 in
theorem lifted (os : Os) (started : os.Started) (H : Type) (enc : TypeId × Value → H) :
    ReturnsInHanded {} Tryd.checked os 4 .any (fun w args => (Rows.textBytesSpec.pre enc Tryd.prog Tryd.f4 [] false w args ∧ laidMetH Tryd.prog Rows.textBytesRow.laid w) ∧ sizedMet enc Tryd.prog Tryd.f4 (OpenSpec.ofChange Rows.textBytesSpec) false w args)
      (Rows.textBytesSpec.post enc Tryd.prog Tryd.f4 false true false false) := by
  refine returnsInHanded_of_change_and (C := Tryd.checked) (X := fun w _ => laidMetH Tryd.prog Rows.textBytesRow.laid w) (fun _ _ _ hh h => h.of_heap hh) own started (by kernel_rfl) Tryd.func4
    (ChangeSpec.witness_shaped (enc := enc) (C := Tryd.checked) (os := os) (X := fun w _ => laidMetH Tryd.prog Rows.textBytesRow.laid w) false (World.doorLaid Tryd.prog 62 os) #[.slice none 0 0, .string ByteArray.empty] 8 rfl (World.shaped_of_RefB (by kernel_rfl) (by kernel_rfl)) (by kernel_rfl) (by kernel_rfl) (by kernel_rfl) (Txt.door_met os _)) ?_
  intro W base args ds gs before hval0 hW hcnd _ hLL _
  have hDoor := Txt.of_laid hLL
  have hval : ∀ (j : Nat) t v, Tryd.f4.params[j]? = some t → args[j]? = some v → Value.okWide Tryd.prog W .any base t v := hval0
  have hW' := hW
  obtain ⟨p, q, hA0, hV, rfl, hfz, hnd⟩ := hW
  have hA : DataW.TrodAll enc Tryd.prog W 0 (fun _ => true) true Tryd.f4.params.toList args.toList ds p := hA0
  rw [Tryd.params4] at hA hval
  obtain ⟨v0, vs0, d0, ds0, p0, q0, hargs, rfl, rfl, h0, r0⟩ := trodAll_cons hA
  obtain ⟨v1, vs1, d1, ds1, p1, q1, rfl, rfl, rfl, h1, r1⟩ := trodAll_cons r0
  obtain ⟨rfl, rfl, rfl⟩ := trodAll_nil r1
  obtain rfl : args = #[v0, v1] := by cases args; simp_all
  obtain ⟨rfl, rfl⟩ := trodVars_none hV
  obtain ⟨a0, len0, cap0, rfl⟩ := okWide_slice Tryd.underlying30 (hval 0 30 v0 rfl rfl)
  have k0 := h0
  have lt0 : ∀ x ∈ p0, x.block < W.heap.size := by obtain ⟨m, hm⟩ := k0; exact DataW.trod_lt m _ _ _ hm
  obtain ⟨z0, w0⟩ : ∃ zs, IsRow .u8 W a0 len0 cap0 zs := by
    obtain ⟨fuel, hf⟩ := h0
    rcases open_ints Tryd.underlying30 Tryd.underlying5 (by kernel_rfl) hf with ⟨hcs, _⟩ | ⟨x, l, c, zs, hcs, hx, hl, hm, hz, _, hcell, hwz⟩
    · simp [Value.cells] at hcs
      obtain ⟨rfl, rfl, rfl⟩ := hcs
      exact ⟨[], .inl ⟨rfl, rfl, rfl, rfl⟩⟩
    · simp [Value.cells] at hcs
      obtain ⟨rfl, rfl, rfl⟩ := hcs
      exact ⟨zs, isRow_some hl hm (by simpa using hz) hcell hwz⟩
  obtain ⟨a1, rfl, rfl, rfl, w1⟩ := open_string Tryd.underlying9 (hval 1 9 v1 rfl rfl) h1
  clear hA0 hval0
  refine (walk a0 len0 cap0 z0 a1 W w0 w1 hDoor).mono fun e W' ⟨he, bel⟩ => ?_
  subst he
  exact ⟨_, rfl, _, _, _, [], _, [], hW', trodAll_mk1 (shut_bool Tryd.underlying4 _), (trodAll_cons_mk (Below.trod laidOut (by kernel_rfl) (of_decide_eq_true (by kernel_rfl)) k0 bel lt0) (trodAll_cons_mk (shut_string Tryd.underlying9 w1) trodAll_mk0)), rfl, bel.frame _, fun h => by cases h⟩

theorem over : Rows.textBytesRow.holds Tryd.pinned (OpenSpec.ofChange Rows.textBytesSpec) :=
  OpenClaim.holds_of_wide 4 Tryd.f4 rfl rfl rfl rfl rfl rfl rfl ⟨rfl, rfl, rfl, rfl, rfl⟩ rfl rfl rfl rfl rfl (by kernel_rfl) Tryd.func4 (by kernel_rfl)
    (of_decide_eq_true (by kernel_rfl)) (by unfold Func.isWrapper; first | (rw [if_pos (by decide +kernel)]; kernel_rfl) | (rw [if_neg (by decide +kernel)]; exact ⟨rfl, rfl⟩))
    (fun os started H enc _ => lifted os started H enc)

theorem proved : Rows.TextBytesCardSaid :=
  Claim7.holds_tied_plain_at .later [] Rows.textBytesCard.laidKinds true Rows.textBytesCard.stood.harness Rows.textBytesCard.stood.looks
    over (fun _ h => by cases h) (by kernel_rfl) (fun _ h => by cases h) textBytes_row_tie rfl ⟨rfl, rfl⟩ (by kernel_rfl) rfl
    (fun f fn hf hfn => by
      obtain rfl : f = 4 := Option.some.inj ((show Tryd.prog.funcNamed "systole/systolelaw05.TextBytes" = some 4 by kernel_rfl).symm.trans hf) |>.symm
      obtain rfl : fn = Tryd.f4 := (Option.some.inj (Tryd.func4.symm.trans hfn)).symm
      exact ⟨by kernel_rfl, fun j t ht => by
        rw [Tryd.params4] at ht
        have hm : t ∈ [30, 9] := by simpa using Array.mem_of_getElem? ht
        have hall : ([30, 9].all fun u => !Tryd.prog.wantsStandIn u) = true := by kernel_rfl
        exact (show Tryd.prog.wantsStandIn t = false by simpa using List.all_eq_true.1 hall t hm)⟩)
    (by kernel_rfl)
#print axioms proved
end Go.Proofs.YtcmfhbpdeloflaaDoor.textBytes
