/- Whatever words and text come in, TextBack answers true, and writes nothing that was there. -/
import Derived.Test.YtcmfhbpdeloflaaDoorRows
import Derived.ShutString
import Derived.ChangeOld
import Derived.Below
import Derived.Test.YtcmfhbpdeloflaaDoorLawKit
import Derived.Test.YtcmfhbpdeloflaaDoorTextLive
import Derived.Test.YtcmfhbpdeloflaaDoorTextDoor
import Derived.Test.YtcmfhbpdeloflaaDoorCards
import Derived.Test.YtcmfhbpdeloflaaDoorTie
import Derived.SevenTiedAt
import Derived.LaidMore
import Derived.Stop.Joined
import Derived.SliceStrings
set_option linter.unusedSimpArgs false
set_option linter.unusedVariables false
namespace Go.Proofs.YtcmfhbpdeloflaaDoor.textBack
open Go.ChangeShapes Go.WideShapes Go.ChangeAt Go.RowKit
open Go.ChangeMaps (open_string shut_string)
open Txt RU8
/-- The first j words are short, have no blank, and the first one is not empty. -/
def Good (ps : List (List Nat)) (j : Nat) : Prop := (∀ k, k < j → (ps.getD k []).length ≤ 200 ∧ ∀ x ∈ ps.getD k [], x ≠ 32) ∧ (0 < j → ps.getD 0 [] ≠ [])
theorem good_step {ps : List (List Nat)} {j : Nat} (h : Good ps j) (p : List Nat) (hp : ps.getD j [] = p) (h1 : p.length ≤ 200) (h2 : ∀ k, k < p.length → p.getD k 0 ≠ 32) (h3 : j = 0 → p ≠ []) : Good ps (j + 1) := by
  refine ⟨fun k hk => ?_, fun _ => ?_⟩
  · rcases (by omega : k < j ∨ k = j) with h4 | rfl
    · exact h.1 k h4
    · rw [hp]
      refine ⟨h1, fun x hx => ?_⟩
      obtain ⟨i, hi, rfl⟩ := List.getElem_of_mem hx
      have := h2 i hi
      rwa [List.getD_eq_getElem?_getD, List.getElem?_eq_getElem hi] at this
  · rcases Nat.eq_zero_or_pos j with rfl | h4
    · rw [hp]; exact h3 rfl
    · exact h.2 h4
theorem good_back {ps : List (List Nat)} (h : Good ps ps.length) : wordsT (joinT ps) = ps := by
  refine words_join ps ?_ fun p hp x hx => ?_
  · cases ps with
    | nil => decide
    | cons p ps => exact h.2 (by simp)
  · obtain ⟨i, hi, rfl⟩ := List.getElem_of_mem hp
    have := (h.1 i hi).2
    rw [List.getD_eq_getElem?_getD, List.getElem?_eq_getElem hi] at this
    exact this x hx
theorem same_yes (A : Option Addr) (n c : Nat) (xs : List ByteArray) (B : Option Addr) (m d : Nat) (w : World) (hv : RStr.Vals w A n xs) (hu : RStr.Vals w B m xs) (hn : n ≤ 100001) (hm : m ≤ 100001) :
    Calls Tryd.prog 16 #[.slice A n c, .slice B m d] w fun e w' => e = .returned (.bool true) ∧ ∃ k, w' = w.drewN k := by
  have := same_any A n c xs B m d xs w hv hu (by omega) (by omega)
  rwa [decide_eq_true rfl] at this
set_option maxRecDepth 100000 in
set_option maxHeartbeats 2000000 in
theorem walk (a0 : Option Addr) (len0 cap0 : Nat) (z0 : List ByteArray) (a1 : ByteArray) (w : World) (w0 : IsTexts w a0 len0 cap0 z0) (w1 : a1.size ≤ maxLen) (hLd : Laid w) :
    Calls Tryd.prog 6 #[.slice a0 len0 cap0, .string a1] w fun e w' => e = .returned (.bool true) ∧ Below w.heap.size w w' := by
  obtain ⟨ps, hV0, hpb, hl0, hm0⟩ := row_texts w0
  clear w0 w1
  obtain ⟨l, hb, rfl⟩ : ∃ l, Bytes l ∧ a1 = str l := ⟨bytesOf a1, bytesOf_bytes a1, (str_bytesOf a1).symm⟩
  obtain ⟨L, hL⟩ : ∃ L, l.length = L := ⟨_, rfl⟩
  have hsz : (str l).size = L := by rw [str_size, hL]
  have hplen : ps.length = len0 := by have := hV0.len_; rwa [texts_length] at this
  rcases Nat.lt_or_ge 2000 L with hbig | hs0
  · clear hb hL hV0 hpb hplen
    go_enter Tryd.func6, Tryd.ntmps6
    have hlive := live_ok w hLd
    go_wp2_with (go_at_call 7; ((with_reducible refine hlive.mono ?_); rintro e w' ⟨rfl, hB⟩))
    go_ret
    exact ⟨rfl, hB⟩
  rcases Nat.lt_or_ge 100 len0 with hbig | hs1
  · clear hb hL hV0 hpb hplen
    go_enter Tryd.func6, Tryd.ntmps6
    have hlive := live_ok w hLd
    go_wp2_with (go_at_call 7; ((with_reducible refine hlive.mono ?_); rintro e w' ⟨rfl, hB⟩))
    go_ret
    exact ⟨rfl, hB⟩
  have hw : ∀ W, Calls Tryd.prog 17 #[.string (str l)] W (PiecesIs W (wordsT l)) := fun W => words_any l hb (by omega) W
  have hwb := wordsT_bytes hb
  have hwl : (joinT (wordsT l)).length ≤ 1000000 := by rw [join_words]; omega
  have hC : Below w.heap.size w w := Below.refl _ _
  have HP := Lib.hid hplen
  unfold PiecesIs at hw
  clear hL hplen
  go_enter Tryd.func6, Tryd.ntmps6
  go_wp2
  go_loop [19] (fun i => ∃ j : Nat, j ≤ len0 ∧ i = .int .i64 (j : Nat) ∧ Good ps j) (fun i => len0 - (intOf i).toNat)
  case atStart => exact ⟨0, by omega, rfl, fun k hk => absurd hk (by omega), fun h => absurd h (by omega)⟩
  case round =>
    obtain ⟨j, hj, rfl, hall⟩ := hrel
    have HA := Lib.hid hall
    clear hall
    by_cases hjn : j < len0
    · obtain ⟨x, rfl, hx⟩ := hV0.cells (by omega)
      have hc1 := hx j hjn
      rw [texts_getD ps j (by rw [HP.out]; exact hjn)] at hc1
      obtain ⟨p, hp⟩ : ∃ p, ps.getD j [] = p := ⟨_, rfl⟩
      rw [hp] at hc1
      have hpb' : Bytes p := by
        rw [← hp]
        refine hpb _ ?_
        rw [List.getD_eq_getElem?_getD, List.getElem?_eq_getElem (by rw [HP.out]; exact hjn)]
        exact List.getElem_mem _
      obtain ⟨N, hN⟩ : ∃ N, p.length = N := ⟨_, rfl⟩
      have hps : (str p).size = N := by rw [str_size, hN]
      have HN := Lib.hid hN
      have HPJ := Lib.hid hp
      have hie := str_isEmpty p
      have hnil := str_isNil p
      clear hx hp hw hN
      by_cases h200 : 200 < N
      · skip
        have hlive := live_ok w hLd
        go_wp2_with (go_at_call 7; ((with_reducible refine hlive.mono ?_); rintro e w' ⟨rfl, hB⟩))
        go_ret
        exact ⟨rfl, hB⟩
      · by_cases h0 : j = 0 ∧ p = []
        · obtain ⟨h01, h02⟩ := h0
          subst h01
          subst h02
          have hN0 : N = 0 := HN.out.symm
          subst hN0
          have hc0 : w.cell? x = some (.string (str [])) := by simpa [Addr.add] using hc1
          clear hc1
          have hlive := live_ok w hLd
          go_wp2_with (go_at_call 7; ((with_reducible refine hlive.mono ?_); rintro e w' ⟨rfl, hB⟩))
          go_ret
          exact ⟨rfl, hB⟩
        · by_cases hj0 : j = 0
          · have hpne : p ≠ [] := fun h => h0 ⟨hj0, h⟩
            subst hj0
            have hc0 : w.cell? x = some (.string (str p)) := by simpa [Addr.add] using hc1
            have hpe : p.isEmpty = false := by cases p with
              | nil => exact absurd rfl hpne
              | cons => rfl
            have h3 : 0 = 0 → p ≠ [] := fun _ => hpne
            have HH3 := Lib.hid h3
            clear hc1 h0 hpne h3
            go_wp2
            go_loop [38] (fun i => ∃ k : Nat, k ≤ N ∧ i = .int .i64 (k : Nat) ∧ ∀ m, m < k → p.getD m 0 ≠ 32) (fun i => N - (intOf i).toNat)
            case atStart => exact ⟨0, by omega, rfl, fun m h => absurd h (by omega)⟩
            case round =>
              obtain ⟨k, hk, rfl, hno⟩ := hrel
              have HNO := Lib.hid hno
              clear hno
              by_cases hkN : k < N
              · have hks : k < (str p).size := by rw [hps]; exact hkN
                have hga := str_get hpb' k hks
                obtain ⟨c, hc⟩ : ∃ c, p.getD k 0 = c := ⟨_, rfl⟩
                rw [hc] at hga
                have HCC := Lib.hid hc
                clear hc
                by_cases h32 : c = 32
                · subst h32
                  have hlive := live_ok w hLd
                  go_wp2_with (go_at_call 7; ((with_reducible refine hlive.mono ?_); rintro e w' ⟨rfl, hB⟩))
                  go_ret
                  exact ⟨rfl, hB⟩
                · have h32z : ((c : Int) == 32) = false := by simp; omega
                  have H32 := Lib.hid h32
                  clear h32
                  go_wp2
                  go_round
                  case rel => exact ⟨k + 1, by omega, by go_num, fun m hm => by
                    rcases (by omega : m < k ∨ m = k) with h1 | h1
                    · exact HNO.out m h1
                    · rw [h1, HCC.out]; exact H32.out⟩
                  case measure => simp [intOf]; omega
              · have hkN2 : k = N := by omega
                subst hkN2
                go_wp2
                go_round
                case rel => exact ⟨_, by omega, by first | rfl | go_num, good_step HA.out p HPJ.out (by have := HN.out; omega) (fun m hm => HNO.out m (by have := HN.out; omega)) (fun h => by first | exact HH3.out h | exact HH3.out trivial)⟩
                case measure => simp [intOf]; omega
          · have hj0z : ((j : Int) == 0) = false := by simp; omega
            have h3 : j = 0 → p ≠ [] := fun h => absurd h hj0
            have HH3 := Lib.hid h3
            clear h0 hj0 h3
            go_wp2
            go_loop [38] (fun i => ∃ k : Nat, k ≤ N ∧ i = .int .i64 (k : Nat) ∧ ∀ m, m < k → p.getD m 0 ≠ 32) (fun i => N - (intOf i).toNat)
            case atStart => exact ⟨0, by omega, rfl, fun m h => absurd h (by omega)⟩
            case round =>
              obtain ⟨k, hk, rfl, hno⟩ := hrel
              have HNO := Lib.hid hno
              clear hno
              by_cases hkN : k < N
              · have hks : k < (str p).size := by rw [hps]; exact hkN
                have hga := str_get hpb' k hks
                obtain ⟨c, hc⟩ : ∃ c, p.getD k 0 = c := ⟨_, rfl⟩
                rw [hc] at hga
                have HCC := Lib.hid hc
                clear hc
                by_cases h32 : c = 32
                · subst h32
                  have hlive := live_ok w hLd
                  go_wp2_with (go_at_call 7; ((with_reducible refine hlive.mono ?_); rintro e w' ⟨rfl, hB⟩))
                  go_ret
                  exact ⟨rfl, hB⟩
                · have h32z : ((c : Int) == 32) = false := by simp; omega
                  have H32 := Lib.hid h32
                  clear h32
                  go_wp2
                  go_round
                  case rel => exact ⟨k + 1, by omega, by go_num, fun m hm => by
                    rcases (by omega : m < k ∨ m = k) with h1 | h1
                    · exact HNO.out m h1
                    · rw [h1, HCC.out]; exact H32.out⟩
                  case measure => simp [intOf]; omega
              · have hkN2 : k = N := by omega
                subst hkN2
                go_wp2
                go_round
                case rel => exact ⟨_, by omega, by first | rfl | go_num, good_step HA.out p HPJ.out (by have := HN.out; omega) (fun m hm => HNO.out m (by have := HN.out; omega)) (fun h => by first | exact HH3.out h | exact HH3.out trivial)⟩
                case measure => simp [intOf]; omega
    · have hjn2 : j = len0 := by omega
      subst hjn2
      have hg : Good ps ps.length := by rw [HP.out]; exact HA.out
      have hjl0 : (joinT ps).length ≤ 201 * ps.length := join_bound ps fun k hk => (hg.1 k hk).1
      rw [HP.out] at hjl0
      have hjb := joinT_bytes hpb
      have hback : ∀ W, Calls Tryd.prog 17 #[.string (str (joinT ps))] W (PiecesIs W ps) := fun W => by
        have := words_any (joinT ps) hjb (by omega) W
        rwa [good_back hg] at this
      unfold PiecesIs at hback
      have hj := fun W hV => join_any a0 j cap0 ps W hV hpb (by omega) (by omega) hl0 hm0
      clear hjl0 hjn hg
      go_wp2_with (first
        | (go_at_call 21; ((with_reducible refine (hj _ (by exact hV0)).mono ?_); rintro e w1 ⟨rfl, hB⟩; replace hC := hC.trans (hB.mono hC.size); replace hV0 := hV0.below hB))
        | (go_at_call 17; ((with_reducible refine (hback _).mono ?_); rintro e w2 ⟨A1, n1, c1, rfl, h1a, h1b, hV1, h1n, hB⟩; replace hC := hC.trans (hB.mono hC.size); replace hV0 := hV0.below hB; have hsm := same_yes A1 n1 c1 _ a0 j cap0 _ hV1 hV0 h1n (by omega)))
        | (go_at_call 16; ((with_reducible refine hsm.mono ?_); rintro e w3 ⟨rfl, kd, rfl⟩; replace hC := below_drewN hC kd; clear hsm hV1 hV0))
        | (go_at_call 17; ((with_reducible refine (hw _).mono ?_); rintro e w4 ⟨A2, n2, c2, rfl, h2a, h2b, hV2, h2n, hB⟩; replace hC := hC.trans (hB.mono hC.size); have hj2 := join_any A2 n2 c2 (wordsT l) _ hV2 hwb h2n hwl h2a h2b; rw [join_words] at hj2))
        | (go_at_call 21; ((with_reducible refine hj2.mono ?_); rintro e w5 ⟨rfl, hB⟩; replace hC := hC.trans (hB.mono hC.size)))
        | (go_at_call 7; ((with_reducible refine (live_ok _ (hLd.below hC)).mono ?_); rintro e w7 ⟨rfl, hB⟩; replace hC := hC.trans (hB.mono hC.size))))
      go_ret
      exact ⟨rfl, hC⟩

theorem own : ownKnob Tryd.prog.godebug = none := by kernel_rfl
theorem laidOut : laidOutB Tryd.prog = true := by kernel_rfl

/-! ### The row's step -/
set_option maxRecDepth 100000 in
theorem lifted (os : Os) (started : os.Started) (H : Type) (enc : TypeId × Value → H) :
    ReturnsInHanded {} Tryd.checked os 6 .any (fun w args => (Rows.textBackSpec.pre enc Tryd.prog Tryd.f6 [] false w args ∧ laidMetH Tryd.prog Rows.textBackRow.laid w) ∧ sizedMet enc Tryd.prog Tryd.f6 (OpenSpec.ofChange Rows.textBackSpec) false w args)
      (Rows.textBackSpec.post enc Tryd.prog Tryd.f6 false true false false) := by
  refine returnsInHanded_of_change_and (C := Tryd.checked) (X := fun w _ => laidMetH Tryd.prog Rows.textBackRow.laid w) (fun _ _ _ hh h => h.of_heap hh) own started (by kernel_rfl) Tryd.func6
    (ChangeSpec.witness_shaped (enc := enc) (C := Tryd.checked) (os := os) (X := fun w _ => laidMetH Tryd.prog Rows.textBackRow.laid w) false (World.doorLaid Tryd.prog 62 os) #[.slice none 0 0, .string ByteArray.empty] 8 rfl (World.shaped_of_RefB (by kernel_rfl) (by kernel_rfl)) (by kernel_rfl) (by kernel_rfl) (by kernel_rfl) (Txt.door_met os _)) ?_
  intro W base args ds gs before hval0 hW hcnd _ hLL _
  have hDoor := Txt.of_laid hLL
  have hval : ∀ (j : Nat) t v, Tryd.f6.params[j]? = some t → args[j]? = some v → Value.okWide Tryd.prog W .any base t v := hval0
  have hW' := hW
  obtain ⟨p, q, hA0, hV, rfl, hfz, hnd⟩ := hW
  have hA : DataW.TrodAll enc Tryd.prog W 0 (fun _ => true) true Tryd.f6.params.toList args.toList ds p := hA0
  rw [Tryd.params6] at hA hval
  obtain ⟨v0, vs0, d0, ds0, p0, q0, hargs, rfl, rfl, h0, r0⟩ := trodAll_cons hA
  obtain ⟨v1, vs1, d1, ds1, p1, q1, rfl, rfl, rfl, h1, r1⟩ := trodAll_cons r0
  obtain ⟨rfl, rfl, rfl⟩ := trodAll_nil r1
  obtain rfl : args = #[v0, v1] := by cases args; simp_all
  obtain ⟨rfl, rfl⟩ := trodVars_none hV
  obtain ⟨a0, len0, cap0, rfl⟩ := okWide_slice Tryd.underlying38 (hval 0 38 v0 rfl rfl)
  have k0 := h0
  have lt0 : ∀ x ∈ p0, x.block < W.heap.size := by obtain ⟨m, hm⟩ := k0; exact DataW.trod_lt m _ _ _ hm
  obtain ⟨z0, w0⟩ : ∃ zs, IsTexts W a0 len0 cap0 zs := by
    obtain ⟨fuel, hf⟩ := h0
    rcases open_strings Tryd.underlying38 Tryd.underlying9 (by kernel_rfl) hf with ⟨hcs, _⟩ | ⟨x, l, c, zs, hcs, hx, hl, hm, hz, _, hcell, _⟩
    · simp [Value.cells] at hcs
      obtain ⟨rfl, rfl, rfl⟩ := hcs
      exact ⟨[], .inl ⟨rfl, rfl, rfl, rfl⟩⟩
    · simp [Value.cells] at hcs
      obtain ⟨rfl, rfl, rfl⟩ := hcs
      exact ⟨zs, .inr ⟨x, rfl, hl, hm, by simpa using hz, hcell⟩⟩
  obtain ⟨a1, rfl, rfl, rfl, w1⟩ := open_string Tryd.underlying9 (hval 1 9 v1 rfl rfl) h1
  clear hA0 hval0
  refine (walk a0 len0 cap0 z0 a1 W w0 w1 hDoor).mono fun e W' ⟨he, bel⟩ => ?_
  subst he
  exact ⟨_, rfl, _, _, _, [], _, [], hW', trodAll_mk1 (shut_bool Tryd.underlying4 _), (trodAll_cons_mk (Below.trod laidOut (by kernel_rfl) (of_decide_eq_true (by kernel_rfl)) k0 bel lt0) (trodAll_cons_mk (shut_string Tryd.underlying9 w1) trodAll_mk0)), rfl, bel.frame _, fun h => by cases h⟩

theorem over : Rows.textBackRow.holds Tryd.pinned (OpenSpec.ofChange Rows.textBackSpec) :=
  OpenClaim.holds_of_wide 6 Tryd.f6 rfl rfl rfl rfl rfl rfl rfl ⟨rfl, rfl, rfl, rfl, rfl⟩ rfl rfl rfl rfl rfl (by kernel_rfl) Tryd.func6 (by kernel_rfl)
    (of_decide_eq_true (by kernel_rfl)) (by unfold Func.isWrapper; first | (rw [if_pos (by decide +kernel)]; kernel_rfl) | (rw [if_neg (by decide +kernel)]; exact ⟨rfl, rfl⟩))
    (fun os started H enc _ => lifted os started H enc)

theorem proved : Rows.TextBackCardSaid :=
  Claim7.holds_tied_plain_at .later [] Rows.textBackCard.laidKinds true Rows.textBackCard.stood.harness Rows.textBackCard.stood.looks
    over (fun _ h => by cases h) (by kernel_rfl) (fun _ h => by cases h) textBack_row_tie rfl ⟨rfl, rfl⟩ (by kernel_rfl) rfl
    (fun f fn hf hfn => by
      obtain rfl : f = 6 := Option.some.inj ((show Tryd.prog.funcNamed "systole/systolelaw05.TextBack" = some 6 by kernel_rfl).symm.trans hf) |>.symm
      obtain rfl : fn = Tryd.f6 := (Option.some.inj (Tryd.func6.symm.trans hfn)).symm
      exact ⟨by kernel_rfl, fun j t ht => by
        rw [Tryd.params6] at ht
        have hm : t ∈ [38, 9] := by simpa using Array.mem_of_getElem? ht
        have hall : ([38, 9].all fun u => !Tryd.prog.wantsStandIn u) = true := by kernel_rfl
        exact (show Tryd.prog.wantsStandIn t = false by simpa using List.all_eq_true.1 hall t hm)⟩)
    (by kernel_rfl)
#print axioms proved
end Go.Proofs.YtcmfhbpdeloflaaDoor.textBack
