/- The chapter's example of the ring: so it is. -/
import Derived.Test.YteiakpepdnhigaaRingTakeS
import Derived.ProofKit
set_option linter.unusedSimpArgs false
set_option linter.unusedVariables false
namespace Go.Proofs.Yteiakpepdnhigaa
open Go.RowKit RStr

def st (n : UInt8) : ByteArray := { data := #[n] }
theorem put_str (b g n q f : Nat) (cs xs : List ByteArray) (A : Nat) (s1 s2 s3 : ByteArray) (m : Nat) (zs : List ByteArray) (w : World) (h : Ring w b g n q f cs xs) (hA : A = w.heap.size) (hm : min 3 (n - xs.length) = m) (hz : xs ++ [s1, s2, s3].take (n - xs.length) = zs) :
    Calls Try.prog 22 #[.pointer (some ⟨b, 0, none⟩), .slice (some ⟨A, 0, none⟩) 3 3] (w.alloc (.cells #[.string s1, .string s2, .string s3] 9)) fun e w' => e = .returned (.int .i64 m) ∧
      ∃ cs', Ring w' b g n q f cs' zs ∧ Turned b g w w' := by
  have hl := h.core.lt_
  have hp := put_any b g n q f cs xs (some ⟨A, 0, none⟩) 3 3 [s1, s2, s3] _ (h.alloc (.cells #[.string s1, .string s2, .string s3] 9)) (by subst hA; exact Vals.has (ys := [s1, s2, s3]) (tl := []) (Has.new w _ _)) (by omega) (by omega) (fun _ x hx => by cases hx; simp; omega)
  rw [hm, hz] at hp
  refine hp.mono ?_
  rintro e w' ⟨rfl, cs', hR, hT⟩
  exact ⟨rfl, cs', hR, ((Turned.refl b g w).alloc _).trans hT⟩
set_option maxHeartbeats 1000000 in
theorem live_ok (w : World) : Calls Try.prog 8 #[] w fun e w' => e = .returned (.bool true) ∧ Below w.heap.size w w' := by
  have hnew : Calls Try.prog 21 #[.int .i64 2] w fun e w' => e = .returned (.tuple #[.pointer (some ⟨w.heap.size + 1, 0, none⟩), .int .i64 0]) ∧ Ring w' (w.heap.size + 1) w.heap.size 4 4 0 (List.replicate 4 ByteArray.empty) [] ∧ Below w.heap.size w w' ∧ w'.heap.size = w.heap.size + 2 := new_yes 2 (by omega) w
  obtain ⟨b, g, hb, hg, hbg⟩ : ∃ b g, w.heap.size ≤ b ∧ w.heap.size ≤ g ∧ (b = w.heap.size + 1 ∧ g = w.heap.size) := ⟨_, _, by omega, by omega, rfl, rfl⟩
  have hnew2 : Calls Try.prog 21 #[.int .i64 2] w fun e w' => e = .returned (.tuple #[.pointer (some ⟨b, 0, none⟩), .int .i64 0]) ∧ Ring w' b g 4 4 0 (List.replicate 4 ByteArray.empty) [] ∧ Below w.heap.size w w' := by
    rw [hbg.1, hbg.2]
    exact hnew.mono fun e w' ⟨h1, h2, h3, h4⟩ => ⟨h1, h2, h3⟩
  clear hnew hbg
  generalize List.replicate 4 ByteArray.empty = cs at hnew2
  have put1 : ∀ W A, Ring W b g 4 4 0 cs [] → A = W.heap.size → Calls Try.prog 22 #[.pointer (some ⟨b, 0, none⟩), .slice (some ⟨A, 0, none⟩) 3 3] (W.alloc (.cells #[.string { data := #[49] }, .string { data := #[50] }, .string { data := #[51] }] 9)) fun e w' => e = .returned (.int .i64 3) ∧
      ∃ cs', Ring w' b g 4 4 0 cs' [{ data := #[49] }, { data := #[50] }, { data := #[51] }] ∧ Turned b g W w' := fun W A hR hA => put_str b g 4 4 0 cs [] A _ _ _ 3 _ W hR hA rfl rfl
  have pop1 : ∀ W cs, Ring W b g 4 4 0 cs [{ data := #[49] }, { data := #[50] }, { data := #[51] }] → Calls Try.prog 23 #[.pointer (some ⟨b, 0, none⟩)] W fun e w' => e = .returned (.tuple #[.string { data := #[49] }, .bool true]) ∧
      ∃ cs', Ring w' b g 4 4 1 cs' [{ data := #[50] }, { data := #[51] }] ∧ Turned b g W w' := fun W cs hR => pop_yes b g 4 4 0 cs _ W hR (by simp)
  have put2 : ∀ W A cs, Ring W b g 4 4 1 cs [{ data := #[50] }, { data := #[51] }] → A = W.heap.size → Calls Try.prog 22 #[.pointer (some ⟨b, 0, none⟩), .slice (some ⟨A, 0, none⟩) 3 3] (W.alloc (.cells #[.string { data := #[52] }, .string { data := #[53] }, .string { data := #[54] }] 9)) fun e w' => e = .returned (.int .i64 2) ∧
      ∃ cs', Ring w' b g 4 4 1 cs' [{ data := #[50] }, { data := #[51] }, { data := #[52] }, { data := #[53] }] ∧ Turned b g W w' := fun W A cs hR hA => put_str b g 4 4 1 cs _ A _ _ _ 2 _ W hR hA rfl rfl
  have room1 : ∀ W cs, Ring W b g 4 4 1 cs [{ data := #[50] }, { data := #[51] }, { data := #[52] }, { data := #[53] }] → Calls Try.prog 24 #[.pointer (some ⟨b, 0, none⟩)] W fun e w' => e = .returned (.int .i64 0) ∧ ∃ k, w' = W.drewN k := fun W cs hR => room_nat b g 4 4 1 cs _ 0 W hR rfl
  go_enter Try.func8, Try.ntmps8
  go_wp2_with (first
    | (go_at_call 21; ((with_reducible refine hnew2.mono ?_); rintro e w1 ⟨rfl, hR1, hB1⟩))
    | (go_at_call 22; ((with_reducible refine (put1 _ _ hR1 rfl).mono ?_); rintro e w2 ⟨rfl, cs2, hR2, hT2⟩))
    | (go_at_call 23; ((with_reducible refine (pop1 _ _ hR2).mono ?_); rintro e w3 ⟨rfl, cs3, hR3, hT3⟩))
    | (go_at_call 22; ((with_reducible refine (put2 _ _ _ hR3 rfl).mono ?_); rintro e w4 ⟨rfl, cs4, hR4, hT4⟩))
    | (go_at_call 24; ((with_reducible refine (room1 _ _ hR4).mono ?_); rintro e w5 ⟨rfl, kk, rfl⟩)))
  go_ret
  have h2 := below_turned hB1 hT2 hB1.size hb hg
  have h3 := below_turned h2 hT3 h2.size hb hg
  have h4 := below_turned h3 hT4 h3.size hb hg
  exact ⟨rfl, below_drewN h4 _⟩
end Go.Proofs.Yteiakpepdnhigaa
