/- Where a frame is found from a place on. -/
import Derived.Test.YtlhjligeigkbnaaParseOnlyMath
import Derived.Test.YtlhjligeigkbnaaFrameLookCode
import Derived.Test.YtlhjligeigkbnaaFrameSame
set_option linter.unusedSimpArgs false
set_option linter.unusedVariables false
namespace Go.Proofs.Ytlhjligeigkbnaa.Par
open Go.RowKit RU8 Frm
set_option maxHeartbeats 1000000 in
theorem stands_any (A : Option Addr) (n c : Nat) (b : List Nat) (w : World) (hv : Vals w A n b) (hb : Bytes b) (hn : n ≤ 2000) (hc : n ≤ c) (hc2 : c ≤ 9223372036854775807) (at0 P q : Nat) (l : List Samp) (hP : at0 ≤ P) (hPn : P < n)
    (h0 : lookE (b.drop P) = 0) (hq : lookSeq (b.drop P) = q) (hl : lookL (b.drop P) = l) (B : Option Addr) (m d : Nat) (hvl : Row.Vals sampS w B m l) (hm : m ≤ 32) :
    Calls Try.prog 16 #[.slice A n c, .int .i64 (at0 : Nat), .agg #[.int .u8 (q : Nat), .slice B m d]] w fun e w' => ∃ t : Nat, e = .returned (.tuple #[.int .i64 (t : Nat), .int .i64 0]) ∧ t ≤ P + (6 + 3 * l.length) ∧ Below w.heap.size w w' := by
  have hlen := hv.len_
  obtain ⟨x, rfl, _⟩ := hv.cells (by omega)
  have hB0 := (Below.refl w.heap.size w).alloc (Nat.le_refl _) (.cells #[.int .u8 (q : Nat), .slice B m d] 34)
  have hF0 := Has.new w 34 #[.int .u8 (q : Nat), .slice B m d]
  have hat : ∀ k, k < n → k ≤ P → (lookE (b.drop k) = 0 → ¬ (lookSeq (b.drop k) = q ∧ lookL (b.drop k) = l)) → k < P := fun k hk hkP h => by
    rcases Nat.lt_or_ge k P with h1 | h1
    · exact h1
    · have e : k = P := by omega
      subst e
      exact absurd ⟨hq, hl⟩ (h h0)
  have hll : l.length ≤ 32 := by have := hvl.len_; omega
  have HAT := Lib.hid hat
  clear h0 hq hl hat
  go_enter Try.func16, Try.ntmps16
  go_wp2
  go_loopw [1] (fun i wr => ∃ k : Nat, k ≤ P ∧ i = .int .i64 (k : Nat) ∧ Has wr w.heap.size 34 #[.int .u8 (q : Nat), .slice B m d] ∧ Below w.heap.size w wr) (fun i _ => P - (intOf i).toNat)
  case atStart => exact ⟨at0, hP, rfl, hF0, hB0⟩
  case round =>
    obtain ⟨k, hk, rfl, hF, hB⟩ := hrel
    have hkn : k < n := by omega
    have hkz : (k : Int) < (n : Int) ∧ (k : Int) ≤ (c : Int) ∧ k ≤ n ∧ k ≤ c := by omega
    have hck : ¬ (c : Int) - (k : Int) = 0 := by omega
    have hlk := look_any (some (x.add k)) (n - k) (c - k) (b.drop k) wr ((hv.below hB).drop k (by omega)) (bytes_drop hb k) (by omega) (by omega) (by omega)
    have hgo := HAT.out k hkn hk
    have hsz := fun h => look_size (bytes_drop hb k) h
    have HGO := Lib.hid hgo
    have HSZ := Lib.hid hsz
    have hvl2 := hvl.below hB
    unfold LookIs at hlk
    clear hgo hsz
    by_cases hE : lookE (b.drop k) = 0
    · rw [hE] at hlk
      have hs1 := (HSZ.out hE).1
      have hs2 := (HSZ.out hE).2.2.2.1
      have hne := HGO.out
      have HNE : Hid (¬ (lookSeq (b.drop k) = q ∧ lookL (b.drop k) = l) → k < P) := Lib.hid (fun h => hne (fun _ => h))
      clear hne HGO HSZ hE
      generalize lookSeq (b.drop k) = q2 at *
      generalize lookL (b.drop k) = l2 at *
      generalize lookN (b.drop k) = N at *
      have hkN : ∃ z, k + N = z := ⟨_, rfl⟩
      obtain ⟨z, hz⟩ := hkN
      have hzz : (k : Int) + (N : Int) = (z : Int) := by omega
      have hzb : z ≤ 4000 := by omega
      have HZ := Lib.hid hz
      have HS1 := Lib.hid hs1
      clear hs1 hz
      by_cases hsame : q = q2 ∧ l = l2
      · obtain ⟨rfl, rfl⟩ := hsame
        go_wp2_with (first
          | (go_at_call 26; ((with_reducible refine hlk.mono ?_); rintro e W1 ⟨A9, m9, c9, rfl, g1, g2, g3, g4, g5, hB1⟩; have hB2 := hB1.alloc hB1.size (.cells #[.int .u8 (q : Nat), .slice A9 m9 c9] 34); have hF2 := hF.below hB2 hF.lt; obtain ⟨f0, f1, _, _⟩ := hF2.two; have hsm := same_any q q B m d l A9 m9 c9 l _ (hvl2.below hB2) (g3.alloc _) (by omega) (by omega); rw [decide_eq_true ⟨rfl, rfl⟩] at hsm))
          | (go_at_call 12; ((with_reducible refine hsm.mono ?_); rintro e W3 ⟨rfl, hB3⟩)))
        go_ret2
        exact ⟨z, rfl, by have := HZ.out; have := HS1.out; omega, hB.trans ((hB2.trans (hB3.mono hB2.size)).mono hB.size)⟩
      · have hlt := HNE.out (fun h => hsame ⟨h.1.symm, h.2.symm⟩)
        have HLT := Lib.hid hlt
        have hdf : decide (q = q2 ∧ l = l2) = false := decide_eq_false hsame
        clear hlt hsame
        go_wp2_with (first
          | (go_at_call 26; ((with_reducible refine hlk.mono ?_); rintro e W1 ⟨A9, m9, c9, rfl, g1, g2, g3, g4, g5, hB1⟩; have hB2 := hB1.alloc hB1.size (.cells #[.int .u8 (q2 : Nat), .slice A9 m9 c9] 34); have hF2 := hF.below hB2 hF.lt; obtain ⟨f0, f1, _, _⟩ := hF2.two; have hsm := same_any q q2 B m d l A9 m9 c9 l2 _ (hvl2.below hB2) (g3.alloc _) (by omega) (by omega); rw [hdf] at hsm))
          | (go_at_call 12; ((with_reducible refine hsm.mono ?_); rintro e W3 ⟨rfl, hB3⟩)))
        go_roundw
        case rel => exact ⟨k + 1, HLT.out, by go_num, hF2.below hB3 hF2.lt, hB.trans ((hB2.trans (hB3.mono hB2.size)).mono hB.size)⟩
        case measure => have := HLT.out; simp [intOf]; omega
    · have hlt := HGO.out (fun h => absurd h hE)
      have HLT := Lib.hid hlt
      generalize lookSeq (b.drop k) = q2 at *
      generalize lookL (b.drop k) = l2 at *
      generalize lookN (b.drop k) = N at *
      generalize lookE (b.drop k) = E at *
      have hEz : (E == 0) = false := by simp; exact hE
      have HE := Lib.hid hE
      clear hlt hE HGO HSZ
      go_wp2_with (go_at_call 26; ((with_reducible refine hlk.mono ?_); rintro e W1 ⟨A9, m9, c9, rfl, g1, g2, g3, g4, g5, hB1⟩; have hB2 := hB1.alloc hB1.size (.cells #[.int .u8 (q2 : Nat), .slice A9 m9 c9] 34); have hF2 := hF.below hB2 hF.lt))
      go_roundw
      case rel => exact ⟨k + 1, HLT.out, by go_num, hF2, hB.trans (hB2.mono hB.size)⟩
      case measure => have := HLT.out; simp [intOf]; omega
end Go.Proofs.Ytlhjligeigkbnaa.Par
