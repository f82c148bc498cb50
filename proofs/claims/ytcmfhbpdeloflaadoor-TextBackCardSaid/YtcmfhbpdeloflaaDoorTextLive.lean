/- The chapter's examples of text: so they are. -/
import Derived.Test.YtcmfhbpdeloflaaDoorTextCode
set_option linter.unusedSimpArgs false
set_option linter.unusedVariables false
namespace Go.Proofs.YtcmfhbpdeloflaaDoor.Txt
open Go.RowKit RU8
theorem words_example : wordsT [97, 32, 32, 98] = [[97], [], [98]] := by decide
theorem num_example : numT (-12) = [45, 49, 50] := by
  unfold numT
  rw [if_pos (by decide), show (-12 : Int).natAbs = 12 from rfl, digs_high (by decide), digs_low (by decide)]
  rfl
theorem live_ok (w : World) (hw : Laid w) : Calls Tryd.prog 7 #[] w fun e w' => e = .returned (.bool true) ∧ Below w.heap.size w w' := by
  have h1 : ∀ W, Laid W → Calls Tryd.prog 8 #[.string ⟨#[45, 48]⟩] W fun e w' => e = .returned (.tuple #[.int .i64 0, .int .i64 8]) ∧ Below W.heap.size W w' := fun W hW => by
    have := read_any [45, 48] (by intro y hy; simp at hy; omega) (by simp) W hW
    rwa [show readT [45, 48] = (0, 8) by decide] at this
  have h2 : ∀ W, Calls Tryd.prog 17 #[.string ⟨#[97, 32, 32, 98]⟩] W fun e w' => (∃ A c, e = .returned (.slice A 3 c)) ∧ Below W.heap.size W w' := fun W => by
    have := words_any [97, 32, 32, 98] (by intro y hy; simp at hy; omega) (by simp) W
    refine this.mono fun e w' ⟨A, n, c, he, _, _, hv, _, hB⟩ => ⟨⟨A, c, ?_⟩, hB⟩
    have hl := hv.len_
    rw [texts_length, words_example] at hl
    rw [he, ← hl]
    rfl
  have h3 : ∀ W, Laid W → Calls Tryd.prog 10 #[.int .i64 (-12)] W fun e w' => e = .returned (.string ⟨#[45, 49, 50]⟩) ∧ Below W.heap.size W w' := fun W hW => by
    have := num_any (-12) (by omega) W hW
    rwa [num_example] at this
  go_enter Tryd.func7, Tryd.ntmps7
  go_wp2_with (first
    | (go_at_call 8; ((with_reducible refine (h1 _ hw).mono ?_); rintro e w1 ⟨rfl, hB1⟩))
    | (go_at_call 17; ((with_reducible refine (h2 _).mono ?_); rintro e w2 ⟨⟨A, c, rfl⟩, hB2⟩; have hB2' := hB1.trans (hB2.mono hB1.size)))
    | (go_at_call 10; ((with_reducible refine (h3 _ (hw.below hB2')).mono ?_); rintro e w3 ⟨rfl, hB3⟩; have hB3' := hB2'.trans (hB3.mono hB2'.size))))
  go_ret
  exact ⟨rfl, hB3'⟩
end Go.Proofs.YtcmfhbpdeloflaaDoor.Txt
