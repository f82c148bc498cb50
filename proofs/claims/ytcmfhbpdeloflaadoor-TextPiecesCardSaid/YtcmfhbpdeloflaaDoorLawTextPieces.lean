/- Whatever text and pieces come in, TextPieces answers true, and writes nothing that was there. -/
import Derived.Test.YtcmfhbpdeloflaaDoorRows
import Derived.ShutString
import Derived.ChangeOld
import Derived.Below
import Derived.Test.YtcmfhbpdeloflaaDoorLawKit
import Derived.Test.YtcmfhbpdeloflaaDoorTextLive
import Derived.Test.YtcmfhbpdeloflaaDoorTextDoor
import Derived.Test.YtcmfhbpdeloflaaDoorCards
import Derived.Test.YtcmfhbpdeloflaaDoorTie
import Derived.SevenTiedAt
import Derived.LaidMore
import Derived.Stop.Joined
import Derived.SliceStrings
set_option linter.unusedSimpArgs false
set_option linter.unusedVariables false
namespace Go.Proofs.YtcmfhbpdeloflaaDoor.textPieces
open Go.ChangeShapes Go.WideShapes Go.ChangeAt Go.RowKit
open Go.ChangeMaps (open_string shut_string)
open Txt RU8
theorem same_yes (A : Option Addr) (n c : Nat) (xs : List ByteArray) (B : Option Addr) (m d : Nat) (w : World) (hv : RStr.Vals w A n xs) (hu : RStr.Vals w B m xs) (hn : n ≤ 100001) (hm : m ≤ 100001) :
    Calls Tryd.prog 16 #[.slice A n c, .slice B m d] w fun e w' => e = .returned (.bool true) ∧ ∃ k, w' = w.drewN k := by
  have := same_any A n c xs B m d xs w hv hu (by omega) (by omega)
  rwa [decide_eq_true rfl] at this
set_option maxRecDepth 100000 in
set_option maxHeartbeats 2000000 in
theorem walk (a0 : ByteArray) (a1 : Option Addr) (len1 cap1 : Nat) (z1 : List ByteArray) (w : World) (w0 : a0.size ≤ maxLen) (w1 : IsTexts w a1 len1 cap1 z1) (hLd : Laid w) :
    Calls Tryd.prog 5 #[.string a0, .slice a1 len1 cap1] w fun e w' => e = .returned (.bool true) ∧ Below w.heap.size w w' := by
  obtain ⟨ps, hV0, hpb, hl1, hm1⟩ := row_texts w1
  clear w0 w1
  obtain ⟨l, hb, rfl⟩ : ∃ l, Bytes l ∧ a0 = str l := ⟨bytesOf a0, bytesOf_bytes a0, (str_bytesOf a0).symm⟩
  obtain ⟨L, hL⟩ : ∃ L, l.length = L := ⟨_, rfl⟩
  have hsz : (str l).size = L := by rw [str_size, hL]
  have hplen : ps.length = len1 := by have := hV0.len_; rwa [texts_length] at this
  rcases Nat.lt_or_ge 2000 L with hbig | hs0
  · have hlive := live_ok w hLd
    clear hb hL hV0 hpb hplen
    go_enter Tryd.func5, Tryd.ntmps5
    go_wp2_with (go_at_call 7; ((with_reducible refine hlive.mono ?_); rintro e w' ⟨rfl, hB⟩))
    go_ret
    exact ⟨rfl, hB⟩
  rcases Nat.lt_or_ge 100 len1 with hbig | hs1
  · have hlive := live_ok w hLd
    clear hb hL hV0 hpb hplen
    go_enter Tryd.func5, Tryd.ntmps5
    go_wp2_with (go_at_call 7; ((with_reducible refine hlive.mono ?_); rintro e w' ⟨rfl, hB⟩))
    go_ret
    exact ⟨rfl, hB⟩
  have hw : ∀ W, Calls Tryd.prog 17 #[.string (str l)] W (PiecesIs W (wordsT l)) := fun W => words_any l hb (by omega) W
  have hrw : ∀ W, Calls Tryd.prog 18 #[.string (str l)] W (PiecesIs W (wordsT l)) := fun W => refwords_any l hb (by omega) W
  have hl : ∀ W, Calls Tryd.prog 19 #[.string (str l)] W (PiecesIs W (linesT l)) := fun W => lines_any l hb (by omega) W
  have hrl : ∀ W, Calls Tryd.prog 20 #[.string (str l)] W (PiecesIs W (linesT l)) := fun W => reflines_any l hb (by omega) W
  unfold PiecesIs at hw hrw hl hrl
  have hC : Below w.heap.size w w := Below.refl _ _
  have HP := Lib.hid hplen
  clear hL hplen
  go_enter Tryd.func5, Tryd.ntmps5
  go_wp2
  go_loop [18] (fun i => ∃ j : Nat, j ≤ len1 ∧ i = .int .i64 (j : Nat) ∧ ∀ k, k < j → (ps.getD k []).length ≤ 200) (fun i => len1 - (intOf i).toNat)
  case atStart => exact ⟨0, by omega, rfl, fun k hk => absurd hk (by omega)⟩
  case round =>
    obtain ⟨j, hj, rfl, hall⟩ := hrel
    have HA := Lib.hid hall
    clear hall
    by_cases hjn : j < len1
    · obtain ⟨x, rfl, hx⟩ := hV0.cells (by omega)
      have hc1 := hx j hjn
      rw [texts_getD ps j (by rw [HP.out]; exact hjn)] at hc1
      obtain ⟨p, hp⟩ : ∃ p, ps.getD j [] = p := ⟨_, rfl⟩
      rw [hp] at hc1
      have hps : (str p).size = p.length := str_size p
      have HPJ := Lib.hid hp
      clear hx hp hw hrw hl hrl
      by_cases h200 : 200 < p.length
      · have hlive := live_ok w hLd
        go_wp2_with (go_at_call 7; ((with_reducible refine hlive.mono ?_); rintro e w' ⟨rfl, hB⟩))
        go_ret
        exact ⟨rfl, hB⟩
      · have H200 := Lib.hid h200
        go_wp2
        go_round
        case rel => exact ⟨j + 1, by omega, by go_num, fun k hk => by
          rcases (by omega : k < j ∨ k = j) with h1 | h1
          · exact HA.out k h1
          · rw [h1, HPJ.out]; have := H200.out; omega⟩
        case measure => simp [intOf]; omega
    · have hjn2 : j = len1 := by omega
      subst hjn2
      have hjl : (joinT ps).length ≤ 1000000 := by have := join_bound ps (by rw [HP.out]; exact HA.out); rw [HP.out] at this; omega
      have hj := fun W hV => join_any a1 j cap1 ps W hV hpb (by omega) hjl hl1 hm1
      have hrj := fun W hV => refjoin_any a1 j cap1 ps W hV (by omega) hjl
      clear hjl hjn
      go_wp2_with (first
        | (go_at_call 17; ((with_reducible refine (hw _).mono ?_); rintro e w1 ⟨A1, n1, c1, rfl, h1a, h1b, hV1, h1n, hB⟩; replace hC := hC.trans (hB.mono hC.size); replace hV0 := hV0.below hB))
        | (go_at_call 18; ((with_reducible refine (hrw _).mono ?_); rintro e w2 ⟨A2, n2, c2, rfl, h2a, h2b, hV2, h2n, hB⟩; replace hC := hC.trans (hB.mono hC.size); replace hV0 := hV0.below hB; replace hV1 := hV1.below hB; have hsm := same_yes A1 n1 c1 _ A2 n2 c2 _ hV1 hV2 h1n h2n))
        | (go_at_call 16; ((with_reducible refine hsm.mono ?_); rintro e w3 ⟨rfl, kd, rfl⟩; replace hC := below_drewN hC kd; replace hV0 := hV0.drewN kd; clear hsm hV1 hV2))
        | (go_at_call 19; ((with_reducible refine (hl _).mono ?_); rintro e w1 ⟨A1, n1, c1, rfl, h1a, h1b, hV1, h1n, hB⟩; replace hC := hC.trans (hB.mono hC.size); replace hV0 := hV0.below hB))
        | (go_at_call 20; ((with_reducible refine (hrl _).mono ?_); rintro e w2 ⟨A2, n2, c2, rfl, h2a, h2b, hV2, h2n, hB⟩; replace hC := hC.trans (hB.mono hC.size); replace hV0 := hV0.below hB; replace hV1 := hV1.below hB; have hsm := same_yes A1 n1 c1 _ A2 n2 c2 _ hV1 hV2 h1n h2n))
        | (go_at_call 21; ((with_reducible refine (hj _ (by exact hV0)).mono ?_); rintro e w4 ⟨rfl, hB⟩; replace hC := hC.trans (hB.mono hC.size); replace hV0 := hV0.below hB))
        | (go_at_call 22; ((with_reducible refine (hrj _ (by exact hV0)).mono ?_); rintro e w5 ⟨rfl, rfl⟩))
        | (go_at_call 7; ((with_reducible refine (live_ok _ (hLd.below hC)).mono ?_); rintro e w7 ⟨rfl, hB⟩; replace hC := hC.trans (hB.mono hC.size))))
      go_ret
      exact ⟨rfl, hC⟩

theorem own : ownKnob Tryd.prog.godebug = none := by kernel_rfl
theorem laidOut : laidOutB Tryd.prog = true := by kernel_rfl

/-! ### The row's step -/
set_option maxRecDepth 100000 in
theorem lifted (os : Os) (started : os.Started) (H : Type) (enc : TypeId × Value → H) :
    ReturnsInHanded {} Tryd.checked os 5 .any (fun w args => (Rows.textPiecesSpec.pre enc Tryd.prog Tryd.f5 [] false w args ∧ laidMetH Tryd.prog Rows.textPiecesRow.laid w) ∧ sizedMet enc Tryd.prog Tryd.f5 (OpenSpec.ofChange Rows.textPiecesSpec) false w args)
      (Rows.textPiecesSpec.post enc Tryd.prog Tryd.f5 false true false false) := by
  refine returnsInHanded_of_change_and (C := Tryd.checked) (X := fun w _ => laidMetH Tryd.prog Rows.textPiecesRow.laid w) (fun _ _ _ hh h => h.of_heap hh) own started (by kernel_rfl) Tryd.func5
    (ChangeSpec.witness_shaped (enc := enc) (C := Tryd.checked) (os := os) (X := fun w _ => laidMetH Tryd.prog Rows.textPiecesRow.laid w) false (World.doorLaid Tryd.prog 62 os) #[.string ByteArray.empty, .slice none 0 0] 8 rfl (World.shaped_of_RefB (by kernel_rfl) (by kernel_rfl)) (by kernel_rfl) (by kernel_rfl) (by kernel_rfl) (Txt.door_met os _)) ?_
  intro W base args ds gs before hval0 hW hcnd _ hLL _
  have hDoor := Txt.of_laid hLL
  have hval : ∀ (j : Nat) t v, Tryd.f5.params[j]? = some t → args[j]? = some v → Value.okWide Tryd.prog W .any base t v := hval0
  have hW' := hW
  obtain ⟨p, q, hA0, hV, rfl, hfz, hnd⟩ := hW
  have hA : DataW.TrodAll enc Tryd.prog W 0 (fun _ => true) true Tryd.f5.params.toList args.toList ds p := hA0
  rw [Tryd.params5] at hA hval
  obtain ⟨v0, vs0, d0, ds0, p0, q0, hargs, rfl, rfl, h0, r0⟩ := trodAll_cons hA
  obtain ⟨v1, vs1, d1, ds1, p1, q1, rfl, rfl, rfl, h1, r1⟩ := trodAll_cons r0
  obtain ⟨rfl, rfl, rfl⟩ := trodAll_nil r1
  obtain rfl : args = #[v0, v1] := by cases args; simp_all
  obtain ⟨rfl, rfl⟩ := trodVars_none hV
  obtain ⟨a0, rfl, rfl, rfl, w0⟩ := open_string Tryd.underlying9 (hval 0 9 v0 rfl rfl) h0
  obtain ⟨a1, len1, cap1, rfl⟩ := okWide_slice Tryd.underlying38 (hval 1 38 v1 rfl rfl)
  have k1 := h1
  have lt1 : ∀ x ∈ p1, x.block < W.heap.size := by obtain ⟨m, hm⟩ := k1; exact DataW.trod_lt m _ _ _ hm
  obtain ⟨z1, w1⟩ : ∃ zs, IsTexts W a1 len1 cap1 zs := by
    obtain ⟨fuel, hf⟩ := h1
    rcases open_strings Tryd.underlying38 Tryd.underlying9 (by kernel_rfl) hf with ⟨hcs, _⟩ | ⟨x, l, c, zs, hcs, hx, hl, hm, hz, _, hcell, _⟩
    · simp [Value.cells] at hcs
      obtain ⟨rfl, rfl, rfl⟩ := hcs
      exact ⟨[], .inl ⟨rfl, rfl, rfl, rfl⟩⟩
    · simp [Value.cells] at hcs
      obtain ⟨rfl, rfl, rfl⟩ := hcs
      exact ⟨zs, .inr ⟨x, rfl, hl, hm, by simpa using hz, hcell⟩⟩
  clear hA0 hval0
  refine (walk a0 a1 len1 cap1 z1 W w0 w1 hDoor).mono fun e W' ⟨he, bel⟩ => ?_
  subst he
  exact ⟨_, rfl, _, _, _, [], _, [], hW', trodAll_mk1 (shut_bool Tryd.underlying4 _), (trodAll_cons_mk (shut_string Tryd.underlying9 w0) (trodAll_cons_mk (Below.trod laidOut (by kernel_rfl) (of_decide_eq_true (by kernel_rfl)) k1 bel lt1) trodAll_mk0)), rfl, bel.frame _, fun h => by cases h⟩

theorem over : Rows.textPiecesRow.holds Tryd.pinned (OpenSpec.ofChange Rows.textPiecesSpec) :=
  OpenClaim.holds_of_wide 5 Tryd.f5 rfl rfl rfl rfl rfl rfl rfl ⟨rfl, rfl, rfl, rfl, rfl⟩ rfl rfl rfl rfl rfl (by kernel_rfl) Tryd.func5 (by kernel_rfl)
    (of_decide_eq_true (by kernel_rfl)) (by unfold Func.isWrapper; first | (rw [if_pos (by decide +kernel)]; kernel_rfl) | (rw [if_neg (by decide +kernel)]; exact ⟨rfl, rfl⟩))
    (fun os started H enc _ => lifted os started H enc)

theorem proved : Rows.TextPiecesCardSaid :=
  Claim7.holds_tied_plain_at .later [] Rows.textPiecesCard.laidKinds true Rows.textPiecesCard.stood.harness Rows.textPiecesCard.stood.looks
    over (fun _ h => by cases h) (by kernel_rfl) (fun _ h => by cases h) textPieces_row_tie rfl ⟨rfl, rfl⟩ (by kernel_rfl) rfl
    (fun f fn hf hfn => by
      obtain rfl : f = 5 := Option.some.inj ((show Tryd.prog.funcNamed "systole/systolelaw05.TextPieces" = some 5 by kernel_rfl).symm.trans hf) |>.symm
      obtain rfl : fn = Tryd.f5 := (Option.some.inj (Tryd.func5.symm.trans hfn)).symm
      exact ⟨by kernel_rfl, fun j t ht => by
        rw [Tryd.params5] at ht
        have hm : t ∈ [9, 38] := by simpa using Array.mem_of_getElem? ht
        have hall : ([9, 38].all fun u => !Tryd.prog.wantsStandIn u) = true := by kernel_rfl
        exact (show Tryd.prog.wantsStandIn t = false by simpa using List.all_eq_true.1 hall t hm)⟩)
    (by kernel_rfl)
#print axioms proved
end Go.Proofs.YtcmfhbpdeloflaaDoor.textPieces
