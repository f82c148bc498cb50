/- The chapter's example of frame holds. -/
import Derived.Test.YtokgcbdpmbjagaaFrameCode
import Derived.Test.YtokgcbdpmbjagaaCrcRefE
import Derived.Lib.SlBytesConst
set_option linter.unusedSimpArgs false
set_option linter.unusedVariables false
namespace Go.Proofs.Ytokgcbdpmbjagaa.Frm
open Go.RowKit RU8 Crc

def exampleL : List Samp := [(-2, false)]
def exampleB : List Nat := frameT 7 exampleL
theorem example_len : exampleB.length = 9 := frameT_length 7 exampleL
theorem example_make : makeB 7 exampleL = exampleB ∧ makeE exampleL = 0 := by decide +kernel
theorem example_look : lookE exampleB = 0 ∧ lookSeq exampleB = 7 ∧ lookL exampleB = exampleL ∧ lookN exampleB = 9 := by decide +kernel
theorem example_bytes : Bytes exampleB := by unfold Bytes; decide +kernel
theorem example_head : strOf (exampleB.take 7) = ⟨#[165, 90, 7, 1, 0, 254, 255]⟩ := by decide +kernel
theorem live_make (A : Option Addr) (W : World) (hv : Row.Vals sampS W A 1 exampleL) : Calls Try.prog 8 #[.int .u8 7, .slice A 1 1] W fun e w' => ∃ A c, e = .returned (.tuple #[.slice A 9 c, .int .i64 0]) ∧ 9 ≤ c ∧ c ≤ 9223372036854775807 ∧ Vals w' A 9 exampleB ∧ Below W.heap.size W w' := by
  refine (make_any 7 (by omega) A 1 1 exampleL W hv (by intro s hs; simp [exampleL] at hs; subst hs; decide) (by omega)).mono ?_
  rintro e w' ⟨v, A9, c9, rfl, rfl, e1, e2, hO, hB⟩
  rw [example_make.1, example_len] at *
  rw [example_make.2]
  obtain ⟨A8, c8, e8, _, _, hV, _⟩ := Vals.own hO
  injection e8 with e81 e82 e83
  subst e81
  exact ⟨A9, c9, rfl, e1, e2, hV, hB⟩
theorem live_look (A : Option Addr) (c : Nat) (W : World) (hv : Vals W A 9 exampleB) (h1 : 9 ≤ c) (h2 : c ≤ 9223372036854775807) : Calls Try.prog 12 #[.slice A 9 c] W fun e w' => ∃ A c, e = .returned (.tuple #[.agg #[.int .u8 7, .slice A 1 c], .int .i64 9, .int .i64 0]) ∧ Row.Vals sampS w' A 1 exampleL ∧ Below W.heap.size W w' := by
  refine (look_any A 9 c exampleB W hv example_bytes (by omega) h1 h2).mono ?_
  rintro e w' ⟨A9, m9, c9, rfl, e1, e2, hV, _, _, hB⟩
  obtain ⟨x1, x2, x3, x4⟩ := example_look
  rw [x3] at hV
  obtain rfl : m9 = 1 := hV.len_.symm
  rw [x1, x2, x4]
  exact ⟨A9, c9, rfl, hV, hB⟩
theorem live_ok (w : World) : Calls Try.prog 7 #[] w fun e w' => e = .returned (.bool true) ∧ Below w.heap.size w w' := by
  have hv0 : Row.Vals sampS (w.alloc (.cells #[.int .i32 (-2), .bool false] 46)) (some ⟨w.heap.size, 0, none⟩) 1 exampleL := Row.Vals.has (ys := exampleL) (tl := []) (Has.new w _ _)
  have hB0 := (Below.refl w.heap.size w).alloc (Nat.le_refl _) (.cells #[.int .i32 (-2), .bool false] 46)
  go_enter Try.func7, Try.ntmps7
  go_wp2_with (first
    | (go_at_call 8; ((with_reducible refine (live_make _ _ hv0).mono ?_); rintro e W1 ⟨A1, c1, rfl, e1, e2, hV1, hB1⟩; have hB1' := hB0.trans (hB1.mono hB0.size)))
    | (go_at_call 12; ((with_reducible refine (live_look A1 c1 _ hV1 e1 e2).mono ?_); rintro e W2 ⟨A2, c2, rfl, hV2, hB2⟩; have hB2' := hB1'.trans (hB2.mono hB1'.size); have hV1' := (hV1.below hB2).alloc (.cells #[.int .u8 7, .slice A2 1 c2] 34); have hcv := conv_vals 24 5 9 Try.underlying24 Try.underlying5 Try.underlying9 (hV1'.take 7 (by omega)) c1; rw [example_head] at hcv; have hG := Has.new W2 34 #[.int .u8 7, .slice A2 1 c2]; obtain ⟨g0, g1, _, _⟩ := hG.two; have hVs := hV2.alloc (.cells #[.int .u8 7, .slice A2 1 c2] 34); obtain ⟨y, rfl, _⟩ := hVs.cells (by omega); have hy := (samp_cells hVs 0 (by omega)).1; rw [show y.add (0 * 2) = y by simp [Addr.add], show (exampleL.getD 0 (0, false)).1 = -2 from rfl] at hy; have hB3 := hB2'.alloc hB2'.size (.cells #[.int .u8 7, .slice (some y) 1 c2] 34))))
  go_ret
  exact ⟨rfl, hB3⟩
end Go.Proofs.Ytokgcbdpmbjagaa.Frm
