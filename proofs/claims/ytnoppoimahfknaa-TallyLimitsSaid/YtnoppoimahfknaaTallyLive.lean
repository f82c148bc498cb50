/- The chapter's example of layer 20: so it is; a tally that a law made, and limits that came in. -/
import Derived.Test.YtnoppoimahfknaaTallyBeat
import Derived.Test.YtnoppoimahfknaaFlat
import Derived.Deep.DeepMust
set_option linter.unusedSimpArgs false
set_option linter.unusedVariables false
namespace Go.Proofs.Ytnoppoimahfknaa.Tally
open Go.RowKit RI64
/-- A tally that was made since w, and stands so. -/
structure Mt (w : World) (b : Nat) (l : Lim) (s : St) (W : World) : Prop where
  tal : Tal W b l s
  below : Below w.heap.size w W
  far : w.heap.size ≤ b
section
variable {w W W' : World} {b : Nat} {l : Lim} {s s' : St}
theorem Mt.grow (h : Mt w b l s W) (hB : Below W.heap.size W W') : Mt w b l s W' := ⟨h.tal.below hB, h.below.trans (hB.mono h.below.size), h.far⟩
theorem Mt.alloc (h : Mt w b l s W) (o : Obj) : Mt w b l s (W.alloc o) := h.grow ((Below.refl _ W).alloc (Nat.le_refl _) o)
theorem Mt.turn (h : Mt w b l s W) (hT : Tal W' b l s') (hK : Kept [b] W W') : Mt w b l s' W' := ⟨hT, below_kept h.below hK h.below.size (fun k hk => by simp at hk; rw [hk]; exact h.far), h.far⟩
end
/-- A beat with some numbers that were just laid out. -/
theorem beat_lit (w : World) (b : Nat) (l : Lim) (s : St) (a : Int) (ys : List Int) (n : Nat) (cs : Array Value) (W : World) (h : Mt w b l s W) (hnl : ys.length = n) (hn : n ≤ 100000) (hr : s.rs.length ≤ 3000000000) (hc : cs = (vals ys).toArray) :
    Calls Try.prog 30 #[.pointer (some ⟨b, 0, none⟩), .int .i64 a, .slice (some ⟨W.heap.size, 0, none⟩) n n] (W.alloc (.cells cs 2)) fun e w' => e = .returned (.tuple #[]) ∧ Mt w b l (beatT s a ys) w' := by
  subst hc
  subst hnl
  have hb := h.tal.lt
  exact (beat_k b l s a _ _ _ ys _ (h.alloc (.cells (vals ys).toArray 2)).tal (Vals.has (ys := ys) (tl := []) (by simpa using Has.new W 2 (vals ys).toArray)) hn hr (fun x' _ hx => by injection hx with hx; subst hx; dsimp only; omega)).mono fun e w' ⟨h1, h2, h3⟩ => ⟨h1, (h.alloc _).turn h2 h3⟩
def lL : Lim := ⟨50, 800, 100, 2, 240, 3, 200, 12, 2000⟩
def s2 : St := beatT (beginT 0) 500 [90, 120, 100]
def s3 : St := beatT s2 599 [99]
theorem live_may : mayT lL = true := by decide +kernel
theorem live_l1 : (beginT 0).rs.length = 0 := rfl
theorem live_l2 : s2.rs.length = 3 := by decide +kernel
theorem live_1 : tachT lL s2.rs = false := by decide +kernel
theorem live_2 : tachT lL s3.rs = true := by decide +kernel
theorem live_3 : bradT lL s3.rs = false := by decide +kernel
theorem live_4 : stillT lL s3 1399 = true := by decide +kernel
theorem live_5 : stillT lL s3 1398 = false := by decide +kernel
set_option maxHeartbeats 1000000 in
theorem live_k (w : World) : Calls Try.prog 27 #[] w fun e w' => e = .returned (.bool true) ∧ Below w.heap.size w w' := by
  have hus := usual_k w
  have hnew := fun W => new_yes lL W live_may
  have hbe := fun b W h => begin_k b lL st0 0 W h
  have hb1 := fun b W h => beat_lit w b lL (beginT 0) 500 [90, 120, 100] 3 #[.int .i64 90, .int .i64 120, .int .i64 100] W h rfl (by omega) (by rw [live_l1]; omega) rfl
  rw [show beatT (beginT 0) 500 [90, 120, 100] = s2 from rfl] at hb1
  have hb2 := fun b W h => beat_lit w b lL s2 599 [99] 1 #[.int .i64 99] W h rfl (by omega) (by rw [live_l2]; omega) rfl
  rw [show beatT s2 599 [99] = s3 from rfl] at hb2
  have ht1 := fun b W h => tach_k b lL s2 W h
  have ht2 := fun b W h => tach_k b lL s3 W h
  have hbr := fun b W h => brad_k b lL s3 W h
  have hs1 := fun b W h => still_k b lL s3 1399 W h
  have hs2 := fun b W h => still_k b lL s3 1398 W h
  rw [live_1] at ht1
  rw [live_2] at ht2
  rw [live_3] at hbr
  rw [live_4] at hs1
  rw [live_5] at hs2
  unfold limV usualT at hus
  unfold limV at hnew
  rw [show lL = ⟨50, 800, 100, 2, 240, 3, 200, 12, 2000⟩ from rfl] at hnew
  dsimp only at hus hnew
  rw [show (⟨50, 800, 100, 2, 240, 3, 200, 12, 2000⟩ : Lim) = lL from rfl] at hnew
  generalize s2 = s2 at *
  generalize s3 = s3 at *
  generalize beginT 0 = s1 at *
  generalize st0 = s0 at *
  generalize lL = l at *
  go_enter Try.func27, Try.ntmps27
  go_wp2_with (first
    | (go_at_call 26; ((with_reducible refine hus.mono ?_); rintro e W1 ⟨rfl, hB1⟩))
    | (go_at_call 24; (go_must (refine Calls.mono (by exact hnew _) ?_); rintro e W2 ⟨b, rfl, hT2, hf2, hB2⟩; have hM0 : Mt w b l s0 W2 := ⟨hT2, (hB1.alloc hB1.size _).trans (hB2.mono (hB1.alloc hB1.size _).size), Nat.le_trans (hB1.alloc hB1.size _).size hf2⟩))
    | (go_at_call 28; (with_reducible refine (hbe _ _ hM0.tal).mono ?_; rintro e W3 ⟨rfl, hT3, hK3⟩; have hM1 := hM0.turn hT3 hK3))
    | (go_at_call 30; (with_reducible refine (hb1 _ _ hM1).mono ?_; rintro e W4 ⟨rfl, hM2⟩))
    | (go_at_call 34; (with_reducible refine (ht1 _ _ hM2.tal).mono ?_; rintro e W5 ⟨rfl, hB5⟩; have hM3 := hM2.grow hB5))
    | (go_at_call 30; (with_reducible refine (hb2 _ _ hM3).mono ?_; rintro e W6 ⟨rfl, hM4⟩))
    | (go_at_call 34; (with_reducible refine (ht2 _ _ hM4.tal).mono ?_; rintro e W7 ⟨rfl, hB7⟩; have hM5 := hM4.grow hB7))
    | (go_at_call 36; (with_reducible refine (hbr _ _ hM5.tal).mono ?_; rintro e W8 ⟨rfl, hB8⟩; have hM6 := hM5.grow hB8))
    | (go_at_call 38; (with_reducible refine (hs1 _ _ hM6.tal).mono ?_; rintro e W9 ⟨rfl, hB9⟩; have hM7 := hM6.grow hB9))
    | (go_at_call 38; (with_reducible refine (hs2 _ _ hM7.tal).mono ?_; rintro e W10 ⟨rfl, hB10⟩; have hM8 := hM7.grow hB10)))
  go_ret
  exact ⟨rfl, hM8.below⟩
/-- Limits as they come in. -/
def limS : Row.Shape Lim := ⟨9, fun l => (limC l).toList, fun _ => rfl, by decide, fun p u hu => by
  simp [limC] at hu
  rcases hu with rfl | rfl | rfl | rfl | rfl | rfl | rfl | rfl | rfl <;> rfl⟩
def LimOk (l : Lim) : Prop := (Lit.int .i64 l.tach).wf = true
theorem lim_dec : ∀ vs : List Value, Row.Oks [.int .i64, .int .i64, .int .i64, .int .i64, .int .i64, .int .i64, .int .i64, .int .i64, .int .i64] vs → ∃ z : Lim, limS.enc z = vs ∧ LimOk z := fun vs h => by
  obtain ⟨h1, h2⟩ := h
  obtain ⟨v0, e0, n0, rfl, _⟩ := h2 0 _ rfl
  obtain ⟨v1, e1, n1, rfl, _⟩ := h2 1 _ rfl
  obtain ⟨v2, e2, n2, rfl, q2⟩ := h2 2 _ rfl
  obtain ⟨v3, e3, n3, rfl, _⟩ := h2 3 _ rfl
  obtain ⟨v4, e4, n4, rfl, _⟩ := h2 4 _ rfl
  obtain ⟨v5, e5, n5, rfl, _⟩ := h2 5 _ rfl
  obtain ⟨v6, e6, n6, rfl, _⟩ := h2 6 _ rfl
  obtain ⟨v7, e7, n7, rfl, _⟩ := h2 7 _ rfl
  obtain ⟨v8, e8, n8, rfl, _⟩ := h2 8 _ rfl
  match vs, h1 with
  | [a, b, c, d, e, f, g, h, i], _ =>
    simp at e0 e1 e2 e3 e4 e5 e6 e7 e8
    subst e0 e1 e2 e3 e4 e5 e6 e7 e8
    exact ⟨⟨n0, n1, n2, n3, n4, n5, n6, n7, n8⟩, rfl, q2⟩
end Go.Proofs.Ytnoppoimahfknaa.Tally
