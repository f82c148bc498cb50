/- The chapter's example of layer 25: so it is. -/
import Derived.Test.YtjhpogiknhbegaaDoorAnnalKit
import Derived.Deep.DeepMust
import Derived.Deep.DeepCutAuto
set_option linter.unusedSimpArgs false
set_option linter.unusedVariables false
namespace Go.Proofs.YtjhpogiknhbegaaDoor.Annal
open Go.RowKit
open Alarm (Ot otS noOt ot_cells)
def liA (k : Nat) : List Ot := (List.range k).map fun i => (1, ((i : Nat) : Int), 0, 0)
theorem li_next (k : Nat) : liA (k + 1) = liA k ++ [(1, ((k : Nat) : Int), 0, 0)] := by unfold liA; rw [List.range_succ, List.map_append]; rfl
theorem li_len (k : Nat) : (liA k).length = k := by unfold liA; simp
theorem li_at : atA (liA 70) 0 = (1, 6, 0, 0) := by decide +kernel
theorem li_is : isA (liA 70) 0 = true := by decide +kernel
theorem li_kept : (keptA (liA 70)).length = 64 := by decide +kernel
theorem li_count : countA (liA 70) 1 = 70 := by decide +kernel
set_option maxHeartbeats 2000000 in
theorem live_k {Ann : World → Nat → List Nat → List Ot → Prop} (K : AnnalKit Ann) (w : World) (hT : Tab w) : Calls Tryd.prog 17 #[] w fun e w' => e = .returned (.bool true) ∧ Below w.heap.size w w' := by
  have hnew := K.new_any w hT
  clear hT
  go_enter Tryd.func17, Tryd.ntmps17
  go_wp2_with (go_at_call 5; ((with_reducible refine hnew.mono ?_); rintro e W1 ⟨b, S, rfl, hA1, hf1, hB1⟩; have hM1 : Ma Ann w b S (liA 0) W1 := ⟨hA1, hB1, hf1⟩))
  clear hA1 hf1 hB1 hnew
  go_loopw [6] (fun i wr => ∃ k : Nat, k ≤ 70 ∧ i = .int .i64 (k : Nat) ∧ Ma Ann w b S (liA k) wr) (fun i _ => 70 - (intOf i).toNat)
  case atStart => exact ⟨0, by omega, rfl, hM1⟩
  case round =>
    clear hM1
    obtain ⟨k, hk, rfl, hM⟩ := hrel
    by_cases hk7 : k < 70
    · have hkz : (k : Int) < 70 := by omega
      have had := hM.add_one K (1, ((k : Nat) : Int), 0, 0) 1 (by omega) (by omega) (by rw [li_len]; omega)
      rw [← li_next] at had
      dsimp only at had
      go_wp2_with (go_at_call 6; ((with_reducible refine had.mono ?_); rintro e W2 ⟨rfl, hM2, -⟩))
      go_roundw
      case rel => exact ⟨k + 1, by omega, by go_num, hM2⟩
      case measure => simp [intOf]; omega
    · obtain rfl : k = 70 := by omega
      have hat := fun W (h : Ann W b S (liA 70)) => K.at_any W b S (liA 70) 0 h
      have hln := fun W (h : Ann W b S (liA 70)) => K.len_any W b S (liA 70) h
      have hdr := fun W (h : Ann W b S (liA 70)) => K.dropped_any W b S (liA 70) h
      have hct := fun W (h : Ann W b S (liA 70)) => K.count_any W b S (liA 70) 1 h
      rw [li_at, li_is] at hat
      rw [li_kept] at hln hdr
      rw [li_len] at hdr
      rw [li_count] at hct
      dsimp only at hat
      generalize liA 70 = al at *
      go_wp2_with (first
        | (go_at_call 9; ((with_reducible refine (hat _ hM.ann).mono ?_); rintro e W2 ⟨rfl, hB2⟩; have hM2 := (hM.later K hB2).alloc K (.cells #[.int .i64 1, .int .i64 6, .int .i64 0, .int .i64 0] 28); have hX2 := Has.new W2 28 #[.int .i64 1, .int .i64 6, .int .i64 0, .int .i64 0]; have x2 := hX2.cell 1))
        | (go_at_call 10; ((with_reducible refine (hln _ hM2.ann).mono ?_); rintro e W3 ⟨rfl, hz3⟩; have hM3 : Ma Ann w b S al W3 := hM2.later K (by obtain ⟨z, rfl⟩ := hz3; exact below_drewN (Below.refl _ _) z); have hX3 : Has W3 W2.heap.size 28 #[.int .i64 1, .int .i64 6, .int .i64 0, .int .i64 0] := (by obtain ⟨z, rfl⟩ := hz3; exact hX2); have x3 := hX3.cell 1; clear hz3))
        | (go_at_call 11; ((with_reducible refine (hdr _ hM3.ann).mono ?_); rintro e W4 ⟨rfl, hz4⟩; have hM4 : Ma Ann w b S al W4 := hM3.later K (by obtain ⟨z, rfl⟩ := hz4; exact below_drewN (Below.refl _ _) z); have hX4 : Has W4 W2.heap.size 28 #[.int .i64 1, .int .i64 6, .int .i64 0, .int .i64 0] := (by obtain ⟨z, rfl⟩ := hz4; exact hX3); have x4 := hX4.cell 1; clear hz4))
        | (go_at_call 15; ((with_reducible refine (hct _ hM4.ann).mono ?_); rintro e W5 ⟨rfl, hz5⟩; have hM5 : Ma Ann w b S al W5 := hM4.later K (by obtain ⟨z, rfl⟩ := hz5; exact below_drewN (Below.refl _ _) z); clear hz5)))
      go_ret
      exact ⟨rfl, hM5.below⟩
end Go.Proofs.YtjhpogiknhbegaaDoor.Annal
