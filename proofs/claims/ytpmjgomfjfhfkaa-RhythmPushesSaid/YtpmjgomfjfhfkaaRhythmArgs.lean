/- Marks and runs that come into the laws of layer 22; a law on a rhythm that no call made. -/
import Derived.Test.YtpmjgomfjfhfkaaRhythmLive
import Derived.Test.YtpmjgomfjfhfkaaFlat
import Derived.Test.YtpmjgomfjfhfkaaEventIn
import Derived.OpenShut
set_option linter.unusedSimpArgs false
set_option linter.unusedVariables false
namespace Go.Proofs.Ytpmjgomfjfhfkaa.Rhythm
open Go.RowKit
open Tally (Lim)
def MkOk (m : Mk) : Prop := True
theorem mk_dec (vs : List Value) (h : Row.Oks [.int .i64, .int .i64, .int .i64, .int .i64, .int .i64, .int .i64, .bool] vs) : ∃ z : Mk, mkS.enc z = vs ∧ MkOk z := by
  obtain ⟨v1, r1, rfl, ⟨n1, rfl, _⟩, h1⟩ := Row.oks_cons h
  obtain ⟨v2, r2, rfl, ⟨n2, rfl, _⟩, h2⟩ := Row.oks_cons h1
  obtain ⟨v3, r3, rfl, ⟨n3, rfl, _⟩, h3⟩ := Row.oks_cons h2
  obtain ⟨v4, r4, rfl, ⟨n4, rfl, _⟩, h4⟩ := Row.oks_cons h3
  obtain ⟨v5, r5, rfl, ⟨n5, rfl, _⟩, h5⟩ := Row.oks_cons h4
  obtain ⟨v6, r6, rfl, ⟨n6, rfl, _⟩, h6⟩ := Row.oks_cons h5
  obtain ⟨v7, r7, rfl, ⟨n7, rfl⟩, h7⟩ := Row.oks_cons h6
  obtain rfl := Row.oks_nil h7
  exact ⟨⟨n1, n2, n3, n4, n5, n6, n7⟩, rfl, trivial⟩
set_option maxHeartbeats 1000000 in
theorem nobody_k {Rhy : World → Nat → List Nat → Lim → St → Prop} (K : RhyKit Rhy) (m : Mk) (k : Int) (w : World) : Calls Try.prog 7 #[mkV m, .int .i64 k] w fun e w' => e = .returned (.bool true) ∧ Below w.heap.size w w' := by
  have hli := fun W => live_k K W
  obtain ⟨m1, m2, m3, m4, m5, m6, m7⟩ := m
  unfold mkV
  dsimp only
  have hB := (Below.refl w.heap.size w).alloc (Nat.le_refl _) (.cells #[.int .i64 m1, .int .i64 m2, .int .i64 m3, .int .i64 m4, .int .i64 m5, .int .i64 m6, .bool m7] 45)
  have hH := Has.new w 45 #[.int .i64 m1, .int .i64 m2, .int .i64 m3, .int .i64 m4, .int .i64 m5, .int .i64 m6, .bool m7]
  have hB2 := hB.alloc hB.size (.cells #[.int .i64 m1, .int .i64 m2, .int .i64 m3, .int .i64 m4, .int .i64 m5, .int .i64 m6, .bool m7, .int .i64 m1, .int .i64 m2, .int .i64 m3, .int .i64 m4, .int .i64 m5, .int .i64 m6, .bool m7] 45)
  have c0 := hH.cell 0
  have c1 := hH.cell 1
  have c2 := hH.cell 2
  have c3 := hH.cell 3
  have c4 := hH.cell 4
  have c5 := hH.cell 5
  have c6 := hH.cell 6
  go_enter Try.func7, Try.ntmps7
  go_wp2_with (first
    | (go_at_call 15; ((with_reducible refine (K.no_push _ _ _ _).mono ?_); rintro e W2 ⟨B, d, rfl, hB⟩; have hB3 := hB2.trans (hB.mono hB2.size)))
    | (go_at_call 17; ((with_reducible refine (K.no_on _ _).mono ?_); rintro e W3 ⟨rfl, hB⟩; have hB4 := hB3.trans (hB.mono hB3.size)))
    | (go_at_call 16; ((with_reducible refine (K.no_off _).mono ?_); rintro e W4 ⟨rfl, hB⟩; have hB5 := hB4.trans (hB.mono hB4.size)))
    | (go_at_call 11; ((with_reducible refine (hli _).mono ?_); rintro e W5 ⟨rfl, hB⟩; have hB6 := hB5.trans (hB.mono hB5.size))))
  go_ret
  exact ⟨rfl, hB6⟩
end Go.Proofs.Ytpmjgomfjfhfkaa.Rhythm
