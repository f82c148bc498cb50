/- Whatever number and text come in, TextNumbers answers true, and writes nothing that was there. -/
import Derived.Test.YtcmfhbpdeloflaaDoorRows
import Derived.ShutString
import Derived.ChangeOld
import Derived.Below
import Derived.Test.YtcmfhbpdeloflaaDoorLawKit
import Derived.Test.YtcmfhbpdeloflaaDoorTextLive
import Derived.Test.YtcmfhbpdeloflaaDoorTextDoor
import Derived.Test.YtcmfhbpdeloflaaDoorCards
import Derived.Test.YtcmfhbpdeloflaaDoorTie
import Derived.SevenTiedAt
import Derived.LaidMore
import Derived.Stop.Joined
set_option linter.unusedSimpArgs false
set_option linter.unusedVariables false
namespace Go.Proofs.YtcmfhbpdeloflaaDoor.textNumbers
open Go.ChangeShapes Go.WideShapes Go.ChangeAt Go.RowKit
open Go.ChangeMaps (open_string shut_string)
open Txt RU8
set_option maxRecDepth 100000 in
set_option maxHeartbeats 2000000 in
theorem walk (a0 : Int) (a1 : ByteArray) (w : World) (w0 : (Lit.int .i64 a0).wf = true) (w1 : a1.size ≤ maxLen) (hLd : Laid w) :
    Calls Tryd.prog 3 #[.int .i64 a0, .string a1] w fun e w' => e = .returned (.bool true) ∧ Below w.heap.size w w' := by
  have b0 := bounds_i64 w0
  clear w0 w1
  obtain ⟨l, hb, rfl⟩ : ∃ l, Bytes l ∧ a1 = str l := ⟨bytesOf a1, bytesOf_bytes a1, (str_bytesOf a1).symm⟩
  obtain ⟨L, hL⟩ : ∃ L, l.length = L := ⟨_, rfl⟩
  have hsz : (str l).size = L := by rw [str_size, hL]
  rcases Nat.lt_or_ge 2000 L with hbig | hs0
  · have hlive := live_ok w hLd
    clear hb hL
    go_enter Tryd.func3, Tryd.ntmps3
    go_wp2_with (go_at_call 7; ((with_reducible refine hlive.mono ?_); rintro e w' ⟨rfl, hB⟩))
    go_ret
    exact ⟨rfl, hB⟩
  have hrange := read_range l
  have hread := fun W hW => read_any l hb (by omega) W hW
  have href := fun W => refread_any l hb (by omega) W
  have hnum := fun W hW => num_any a0 b0 W hW
  have hrnum := fun W => refnum_any a0 b0 W
  have hdl : (numT a0).length ≤ 100000 := by
    have := digs_len a0.natAbs 19 (by decide) (by omega)
    unfold numT; split <;> simp <;> omega
  have hback := fun W hW => read_any (numT a0) (numT_bytes a0) hdl W hW
  rw [read_num a0 b0] at hback
  have hlast : (readT l).2 = 0 → ∀ W, Laid W → Calls Tryd.prog 10 #[.int .i64 (readT l).1] W fun e w' => e = .returned (.string (str l)) ∧ Below W.heap.size W w' := fun h0 W hW => by
    have h1 := num_any (readT l).1 ⟨hrange.1, hrange.2.1⟩ W hW
    rwa [num_read l (readT l).1 (by rw [← h0])] at h1
  generalize numT a0 = q at *
  generalize (readT l).1 = a at *
  generalize (readT l).2 = b at *
  have hrange2 := hrange.2.2
  clear hrange hdl hb hL
  have HL := Lib.hid hlast
  clear hlast
  have hC : Below w.heap.size w w := Below.refl _ _
  by_cases hb0 : b = 0
  · subst hb0
    have hl2 := HL.out rfl
    go_enter Tryd.func3, Tryd.ntmps3
    go_wp2_with (first
      | (go_at_call 8; ((with_reducible refine (hread _ (hLd.below hC)).mono ?_); rintro e w1 ⟨rfl, hB⟩; replace hC := hC.trans (hB.mono hC.size)))
      | (go_at_call 9; ((with_reducible refine (href _).mono ?_); rintro e w2 ⟨rfl, rfl⟩))
      | (go_at_call 10; ((with_reducible refine (hnum _ (hLd.below hC)).mono ?_); rintro e w1 ⟨rfl, hB⟩; replace hC := hC.trans (hB.mono hC.size)))
      | (go_at_call 8; ((with_reducible refine (hback _ (hLd.below hC)).mono ?_); rintro e w1 ⟨rfl, hB⟩; replace hC := hC.trans (hB.mono hC.size)))
      | (go_at_call 11; ((with_reducible refine (hrnum _).mono ?_); rintro e w1 ⟨rfl, hB⟩; replace hC := hC.trans (hB.mono hC.size)))
      | (go_at_call 10; ((with_reducible refine (hl2 _ (hLd.below hC)).mono ?_); rintro e w1 ⟨rfl, hB⟩; replace hC := hC.trans (hB.mono hC.size)))
      | (go_at_call 7; ((with_reducible refine (live_ok _ (hLd.below hC)).mono ?_); rintro e w1 ⟨rfl, hB⟩; replace hC := hC.trans (hB.mono hC.size))))
    go_ret
    exact ⟨rfl, hC⟩
  · have hbz : (b == 0) = false := by simp; exact hb0
    have hbn : (b != 0) = true := by simp; exact hb0
    have hl2 := hnum
    have HB := Lib.hid hb0
    clear hb0
    go_enter Tryd.func3, Tryd.ntmps3
    go_wp2_with (first
      | (go_at_call 8; ((with_reducible refine (hread _ (hLd.below hC)).mono ?_); rintro e w1 ⟨rfl, hB⟩; replace hC := hC.trans (hB.mono hC.size)))
      | (go_at_call 9; ((with_reducible refine (href _).mono ?_); rintro e w2 ⟨rfl, rfl⟩))
      | (go_at_call 10; ((with_reducible refine (hnum _ (hLd.below hC)).mono ?_); rintro e w1 ⟨rfl, hB⟩; replace hC := hC.trans (hB.mono hC.size)))
      | (go_at_call 8; ((with_reducible refine (hback _ (hLd.below hC)).mono ?_); rintro e w1 ⟨rfl, hB⟩; replace hC := hC.trans (hB.mono hC.size)))
      | (go_at_call 11; ((with_reducible refine (hrnum _).mono ?_); rintro e w1 ⟨rfl, hB⟩; replace hC := hC.trans (hB.mono hC.size)))
      | (go_at_call 10; ((with_reducible refine (hl2 _ (hLd.below hC)).mono ?_); rintro e w1 ⟨rfl, hB⟩; replace hC := hC.trans (hB.mono hC.size)))
      | (go_at_call 7; ((with_reducible refine (live_ok _ (hLd.below hC)).mono ?_); rintro e w1 ⟨rfl, hB⟩; replace hC := hC.trans (hB.mono hC.size))))
    go_ret
    exact ⟨rfl, hC⟩

theorem own : ownKnob Tryd.prog.godebug = none := by kernel_rfl

/-! ### The row's step -/
set_option maxRecDepth 100000 in
theorem lifted (os : Os) (started : os.Started) (H : Type) (enc : TypeId × Value → H) :
    ReturnsInHanded {} Tryd.checked os 3 .any (fun w args => (Rows.textNumbersSpec.pre enc Tryd.prog Tryd.f3 [] false w args ∧ laidMetH Tryd.prog Rows.textNumbersRow.laid w) ∧ sizedMet enc Tryd.prog Tryd.f3 (OpenSpec.ofChange Rows.textNumbersSpec) false w args)
      (Rows.textNumbersSpec.post enc Tryd.prog Tryd.f3 false true false false) := by
  refine returnsInHanded_of_change_and (C := Tryd.checked) (X := fun w _ => laidMetH Tryd.prog Rows.textNumbersRow.laid w) (fun _ _ _ hh h => h.of_heap hh) own started (by kernel_rfl) Tryd.func3
    (ChangeSpec.witness_shaped (enc := enc) (C := Tryd.checked) (os := os) (X := fun w _ => laidMetH Tryd.prog Rows.textNumbersRow.laid w) false (World.doorLaid Tryd.prog 62 os) #[.int .i64 0, .string ByteArray.empty] 8 rfl (World.shaped_of_RefB (by kernel_rfl) (by kernel_rfl)) (by kernel_rfl) (by kernel_rfl) (by kernel_rfl) (Txt.door_met os _)) ?_
  intro W base args ds gs before hval0 hW hcnd _ hLL _
  have hDoor := Txt.of_laid hLL
  have hval : ∀ (j : Nat) t v, Tryd.f3.params[j]? = some t → args[j]? = some v → Value.okWide Tryd.prog W .any base t v := hval0
  have hW' := hW
  obtain ⟨p, q, hA0, hV, rfl, hfz, hnd⟩ := hW
  have hA : DataW.TrodAll enc Tryd.prog W 0 (fun _ => true) true Tryd.f3.params.toList args.toList ds p := hA0
  rw [Tryd.params3] at hA hval
  obtain ⟨v0, vs0, d0, ds0, p0, q0, hargs, rfl, rfl, h0, r0⟩ := trodAll_cons hA
  obtain ⟨v1, vs1, d1, ds1, p1, q1, rfl, rfl, rfl, h1, r1⟩ := trodAll_cons r0
  obtain ⟨rfl, rfl, rfl⟩ := trodAll_nil r1
  obtain rfl : args = #[v0, v1] := by cases args; simp_all
  obtain ⟨rfl, rfl⟩ := trodVars_none hV
  obtain ⟨a0, rfl, rfl, rfl, w0⟩ := open_int Tryd.underlying2 (hval 0 2 v0 rfl rfl) h0
  obtain ⟨a1, rfl, rfl, rfl, w1⟩ := open_string Tryd.underlying9 (hval 1 9 v1 rfl rfl) h1
  clear hA0 hval0
  simp only [List.append_nil] at hW'
  refine (walk a0 a1 W w0 w1 hDoor).mono fun e W' ⟨he, bel⟩ => ?_
  subst he
  exact ⟨_, rfl, _, _, _, [], [], [], hW', trodAll_mk1 (shut_bool Tryd.underlying4 _), (trodAll_cons_mk (shut_int Tryd.underlying2 w0) (trodAll_cons_mk (shut_string Tryd.underlying9 w1) trodAll_mk0)), rfl, bel.frame _, fun h => by cases h⟩

theorem over : Rows.textNumbersRow.holds Tryd.pinned (OpenSpec.ofChange Rows.textNumbersSpec) :=
  OpenClaim.holds_of_wide 3 Tryd.f3 rfl rfl rfl rfl rfl rfl rfl ⟨rfl, rfl, rfl, rfl, rfl⟩ rfl rfl rfl rfl rfl (by kernel_rfl) Tryd.func3 (by kernel_rfl)
    (of_decide_eq_true (by kernel_rfl)) (by unfold Func.isWrapper; first | (rw [if_pos (by decide +kernel)]; kernel_rfl) | (rw [if_neg (by decide +kernel)]; exact ⟨rfl, rfl⟩))
    (fun os started H enc _ => lifted os started H enc)

theorem proved : Rows.TextNumbersCardSaid :=
  Claim7.holds_tied_plain_at .later [] Rows.textNumbersCard.laidKinds true Rows.textNumbersCard.stood.harness Rows.textNumbersCard.stood.looks
    over (fun _ h => by cases h) (by kernel_rfl) (fun _ h => by cases h) textNumbers_row_tie rfl ⟨rfl, rfl⟩ (by kernel_rfl) rfl
    (fun f fn hf hfn => by
      obtain rfl : f = 3 := Option.some.inj ((show Tryd.prog.funcNamed "systole/systolelaw05.TextNumbers" = some 3 by kernel_rfl).symm.trans hf) |>.symm
      obtain rfl : fn = Tryd.f3 := (Option.some.inj (Tryd.func3.symm.trans hfn)).symm
      exact ⟨by kernel_rfl, fun j t ht => by
        rw [Tryd.params3] at ht
        have hm : t ∈ [2, 9] := by simpa using Array.mem_of_getElem? ht
        have hall : ([2, 9].all fun u => !Tryd.prog.wantsStandIn u) = true := by kernel_rfl
        exact (show Tryd.prog.wantsStandIn t = false by simpa using List.all_eq_true.1 hall t hm)⟩)
    (by kernel_rfl)
#print axioms proved
end Go.Proofs.YtcmfhbpdeloflaaDoor.textNumbers
