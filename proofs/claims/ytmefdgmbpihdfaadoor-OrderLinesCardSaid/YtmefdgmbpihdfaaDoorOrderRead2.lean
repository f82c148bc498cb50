/- The landed code: Read. -/
import Derived.Test.YtmefdgmbpihdfaaDoorOrderRead
set_option linter.unusedSimpArgs false
set_option linter.unusedVariables false
namespace Go.Proofs.YtmefdgmbpihdfaaDoor.Order
open Go.RowKit RU8
open Alarm (Or orS noOr or_cells)
open Txt
theorem piece_len (ps : List (List Nat)) : ∀ p ∈ ps, p.length ≤ (joinT ps).length := by
  induction ps with
  | nil => intro p hp; cases hp
  | cons q r ih =>
    intro p hp
    cases r with
    | nil => simp at hp; subst hp; simp [joinT]
    | cons q2 r =>
      rw [joinT]
      rcases List.mem_cons.1 hp with rfl | hp
      · simp
      · have := ih p hp
        simp only [List.length_append, List.length_cons]
        omega
theorem or_ret {fn : Func} {R : Ending → World → Prop} {a : Act} {w : World} {p u : Tmp} (hf : fn.results = #[.cell p 23, .tmp u]) (g : Nat) (hx : a.tmps.getD p undef = .pointer (some ⟨g, 0, none⟩)) (V : Value) (hV : a.tmps.getD u undef = V) (cs : Array Value) (h : Has w g 23 cs) (hs : cs.size = 3) (hd : a.defers = []) (hR : R (.returned (.tuple #[.agg cs, V])) w) : bodyPost Tryd.prog fn R .ret a w := by
  have hi : (Tryd.prog.info? 23).map (·.size) = some 3 := by kernel_rfl
  have hu : Tryd.prog.underlying 23 = some (.struct (Tryd.prog.fieldsOf 23)) := by kernel_rfl
  have hl := run_loadVar_row (P := Tryd.prog) w g _ 23 cs (0, 0) (.struct (Tryd.prog.fieldsOf 23)) h hu rfl (by rw [hs]; exact hi)
  have hp' : a.tmps[p]?.getD undef = .pointer (some ⟨g, 0, none⟩) := by simpa using hx
  have hv' : a.tmps[u]?.getD undef = V := by simpa using hV
  exact bodyPost_ret (by simp [results, hf, hp', hv', asAddr, hl]) hd hR
/-- What a reading answers. -/
def readC (s : List Nat) : Int := if IsLine codeG s then 0 else 8
set_option maxHeartbeats 2000000 in
theorem read_k (l : List Nat) (hb : Bytes l) (hl : l.length ≤ 1000) (w : World) (hLd : Laid w) :
    Calls Tryd.prog 13 #[.string (str l)] w fun e w' => e = .returned (.tuple #[.agg #[.int .i64 (gotT l).1, .int .i64 (gotT l).2.1, .int .i64 (gotT l).2.2], .int .i64 (readC l)]) ∧ Below w.heap.size w w' := by
  have hB0 := (Below.refl w.heap.size w).alloc (Nat.le_refl _) (.cells #[.int .i64 0, .int .i64 0, .int .i64 0] 23)
  have hX0 := Has.new w 23 #[.int .i64 0, .int .i64 0, .int .i64 0]
  have hwd := words_any l hb (by omega) (w.alloc (.cells #[.int .i64 0, .int .i64 0, .int .i64 0] 23))
  unfold PiecesIs at hwd
  have hwb := wordsT_bytes hb
  have hwl : ∀ p ∈ wordsT l, p.length ≤ 100000 := fun p hp => by have := piece_len (wordsT l) p hp; rw [join_words] at this; omega
  obtain ⟨o, ho⟩ : ∃ o, codeG (wordsT l) = o := ⟨_, rfl⟩
  by_cases hm : May o
  · have hline : ∀ W, Laid W → Calls Tryd.prog 10 #[.agg #[.int .i64 o.1, .int .i64 o.2.1, .int .i64 o.2.2]] W fun e w' => e = .returned (.tuple #[.string (str (lineT o)), .int .i64 0]) ∧ Below W.heap.size W w' := fun W hW => line_any o hm W hW.pows
    have hsq := str_same (line_bytes o) hb
    by_cases he : lineT o = l
    · have hI : IsLine codeG l := by unfold IsLine; rw [ho]; exact ⟨hm, he⟩
      rw [show gotT l = o from by unfold gotT; rw [if_pos hI, ho], show readC l = 0 from if_pos hI]
      clear hI
      rw [decide_eq_true he] at hsq
      clear hm he
      go_enter Tryd.func13, Tryd.ntmps13
      go_wp2_with (first
        | (go_at_call 31; ((with_reducible refine hwd.mono ?_); rintro e W1 ⟨A1, n1, c1, rfl, -, -, hV1, hn1, hB1⟩; have hB2 := hB0.trans (hB1.mono hB0.size); have hX1 := hX0.below hB1 hX0.lt; have hgs := guess_k A1 n1 c1 (wordsT l) W1 (hLd.below hB2) hV1 hwb hwl (by omega); rw [ho] at hgs))
        | (go_at_call 30; ((with_reducible refine hgs.mono ?_); rintro e W2 ⟨rfl, hB3⟩; have hB4 := hB2.trans (hB3.mono hB2.size); have hX2 := hX1.below hB3 hX1.lt; have hB5 := hB4.alloc hB4.size (.cells #[.int .i64 o.1, .int .i64 o.2.1, .int .i64 o.2.2] 23); have hX3 := hX2.alloc (.cells #[.int .i64 o.1, .int .i64 o.2.1, .int .i64 o.2.2] 23); have hO3 := Has.new W2 23 #[.int .i64 o.1, .int .i64 o.2.1, .int .i64 o.2.2]; have u0 := hO3.cell 0; have u1 := hO3.cell 1; have u2 := hO3.cell 2; have hln := hline _ (hLd.below hB5)))
        | (go_at_call 10; ((with_reducible refine hln.mono ?_); rintro e W4 ⟨rfl, hB6⟩; have hB7 := hB5.trans (hB6.mono hB5.size); have hX4 := hX3.below hB6 hX3.lt; have hO4 := hO3.below hB6 hO3.lt; have v0 := hO4.cell 0; have v1 := hO4.cell 1; have v2 := hO4.cell 2; have e0 := hX4.cell 0; have e1 := hX4.cell 1; have e2 := hX4.cell 2; have g0 := hX4.frozen 0; have g1 := hX4.frozen 1; have g2 := hX4.frozen 2)))
      exact or_ret rfl w.heap.size rfl _ rfl _ (put3 hX4 _ _ _) rfl rfl ⟨rfl, below_put3 hB7 (Nat.le_refl _) _ _ _⟩
    · have hI : ¬ IsLine codeG l := fun h => by unfold IsLine at h; rw [ho] at h; exact he h.2
      rw [show gotT l = noOr from if_neg hI, show readC l = 8 from if_neg hI]
      clear hI
      rw [decide_eq_false he] at hsq
      clear hm he
      go_enter Tryd.func13, Tryd.ntmps13
      go_wp2_with (first
        | (go_at_call 31; ((with_reducible refine hwd.mono ?_); rintro e W1 ⟨A1, n1, c1, rfl, -, -, hV1, hn1, hB1⟩; have hB2 := hB0.trans (hB1.mono hB0.size); have hX1 := hX0.below hB1 hX0.lt; have hgs := guess_k A1 n1 c1 (wordsT l) W1 (hLd.below hB2) hV1 hwb hwl (by omega); rw [ho] at hgs))
        | (go_at_call 30; ((with_reducible refine hgs.mono ?_); rintro e W2 ⟨rfl, hB3⟩; have hB4 := hB2.trans (hB3.mono hB2.size); have hX2 := hX1.below hB3 hX1.lt; have hB5 := hB4.alloc hB4.size (.cells #[.int .i64 o.1, .int .i64 o.2.1, .int .i64 o.2.2] 23); have hX3 := hX2.alloc (.cells #[.int .i64 o.1, .int .i64 o.2.1, .int .i64 o.2.2] 23); have hO3 := Has.new W2 23 #[.int .i64 o.1, .int .i64 o.2.1, .int .i64 o.2.2]; have u0 := hO3.cell 0; have u1 := hO3.cell 1; have u2 := hO3.cell 2; have hln := hline _ (hLd.below hB5)))
        | (go_at_call 10; ((with_reducible refine hln.mono ?_); rintro e W4 ⟨rfl, hB6⟩; have hB7 := hB5.trans (hB6.mono hB5.size); have hX4 := hX3.below hB6 hX3.lt; have hO4 := hO3.below hB6 hO3.lt; have v0 := hO4.cell 0; have v1 := hO4.cell 1; have v2 := hO4.cell 2; have e0 := hX4.cell 0; have e1 := hX4.cell 1; have e2 := hX4.cell 2; have g0 := hX4.frozen 0; have g1 := hX4.frozen 1; have g2 := hX4.frozen 2)))
      exact or_ret rfl w.heap.size rfl _ rfl _ (put3 hX4 _ _ _) rfl rfl ⟨rfl, below_put3 hB7 (Nat.le_refl _) _ _ _⟩
  · have hline : ∀ W, Laid W → Calls Tryd.prog 10 #[.agg #[.int .i64 o.1, .int .i64 o.2.1, .int .i64 o.2.2]] W fun e w' => e = .returned (.tuple #[.string ⟨#[]⟩, .int .i64 1]) ∧ Below W.heap.size W w' := fun W hW => line_no o hm W
    have hI : ¬ IsLine codeG l := fun h => by unfold IsLine at h; rw [ho] at h; exact hm h.1
    rw [show gotT l = noOr from if_neg hI, show readC l = 8 from if_neg hI]
    clear hI
    clear hm
    go_enter Tryd.func13, Tryd.ntmps13
    go_wp2_with (first
      | (go_at_call 31; ((with_reducible refine hwd.mono ?_); rintro e W1 ⟨A1, n1, c1, rfl, -, -, hV1, hn1, hB1⟩; have hB2 := hB0.trans (hB1.mono hB0.size); have hX1 := hX0.below hB1 hX0.lt; have hgs := guess_k A1 n1 c1 (wordsT l) W1 (hLd.below hB2) hV1 hwb hwl (by omega); rw [ho] at hgs))
      | (go_at_call 30; ((with_reducible refine hgs.mono ?_); rintro e W2 ⟨rfl, hB3⟩; have hB4 := hB2.trans (hB3.mono hB2.size); have hX2 := hX1.below hB3 hX1.lt; have hB5 := hB4.alloc hB4.size (.cells #[.int .i64 o.1, .int .i64 o.2.1, .int .i64 o.2.2] 23); have hX3 := hX2.alloc (.cells #[.int .i64 o.1, .int .i64 o.2.1, .int .i64 o.2.2] 23); have hO3 := Has.new W2 23 #[.int .i64 o.1, .int .i64 o.2.1, .int .i64 o.2.2]; have u0 := hO3.cell 0; have u1 := hO3.cell 1; have u2 := hO3.cell 2; have hln := hline _ (hLd.below hB5)))
      | (go_at_call 10; ((with_reducible refine hln.mono ?_); rintro e W4 ⟨rfl, hB6⟩; have hB7 := hB5.trans (hB6.mono hB5.size); have hX4 := hX3.below hB6 hX3.lt; have hO4 := hO3.below hB6 hO3.lt; have v0 := hO4.cell 0; have v1 := hO4.cell 1; have v2 := hO4.cell 2; have e0 := hX4.cell 0; have e1 := hX4.cell 1; have e2 := hX4.cell 2; have g0 := hX4.frozen 0; have g1 := hX4.frozen 1; have g2 := hX4.frozen 2)))
    exact or_ret rfl w.heap.size rfl _ rfl _ (put3 hX4 _ _ _) rfl rfl ⟨rfl, below_put3 hB7 (Nat.le_refl _) _ _ _⟩
end Go.Proofs.YtmefdgmbpihdfaaDoor.Order
