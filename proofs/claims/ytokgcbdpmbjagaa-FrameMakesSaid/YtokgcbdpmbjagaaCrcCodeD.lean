/- crc's Seal: new bytes, the row's and its check behind them. -/
import Derived.Test.YtokgcbdpmbjagaaCrcCodeB
import Derived.Test.YtokgcbdpmbjagaaCrcSealIs
import Derived.Test.YtokgcbdpmbjagaaConcat
set_option linter.unusedSimpArgs false
set_option linter.unusedVariables false
namespace Go.Proofs.Ytokgcbdpmbjagaa.Crc
open Go.RowKit RU8

theorem seal_any (A : Option Addr) (n c : Nat) (ys : List Nat) (w : World) (hv : Vals w A n ys) (hb : Bytes ys) (hn : n ≤ 100000) :
    Calls Try.prog 18 #[.slice A n c] w (Sealed w n ys) := by
  have hc := check_any A n c ys w hv hb (by omega)
  have hz : checkZ ys = [sumZ ys % 256, sumZ ys / 256] := rfl
  have hs : sealZ ys = ys ++ checkZ ys := rfl
  unfold Sealed
  rw [hs]
  have hZ := Lib.hid hz
  clear hz hs
  generalize sumZ ys % 256 = lo at *
  generalize sumZ ys / 256 = hi at *
  have hcat : ∀ W : World, W = (w.alloc (.cells #[.int .u8 lo, .int .u8 hi] 5)).alloc (.cells #[.slice A n c, .slice (some ⟨w.heap.size, 0, none⟩) 2 2] 24) →
      Calls Try.prog 28 #[.slice (some ⟨w.heap.size + 1, 0, none⟩) 2 2] W fun e w' => ∃ v, e = .returned v ∧ w'.ownsRow w.heap.size 5 1 v (n + 2) (vals (ys ++ checkZ ys)) ∧ Below w.heap.size w w' := fun W hW => by
    have hB1 := (Below.refl w.heap.size w).alloc (Nat.le_refl _) (.cells #[.int .u8 lo, .int .u8 hi] 5)
    have hB2 := hB1.alloc hB1.size (.cells #[.slice A n c, .slice (some ⟨w.heap.size, 0, none⟩) 2 2] 24)
    have hH1 := Has.new w 5 #[.int .u8 lo, .int .u8 hi]
    have hH1' := hH1.alloc (.cells #[.slice A n c, .slice (some ⟨w.heap.size, 0, none⟩) 2 2] 24)
    have hH2 := Has.new (w.alloc (.cells #[.int .u8 lo, .int .u8 hi] 5)) 24 #[.slice A n c, .slice (some ⟨w.heap.size, 0, none⟩) 2 2]
    rw [show (w.alloc (.cells #[.int .u8 lo, .int .u8 hi] 5)).heap.size = w.heap.size + 1 by simp] at hH2
    rw [← hW] at hB2 hH1' hH2
    have hv2 : Vals W (some ⟨w.heap.size, 0, none⟩) 2 (checkZ ys) := by
      rw [hZ.out]
      exact Vals.has (ys := [lo, hi]) (tl := []) hH1'
    have h9 := concat_any ⟨w.heap.size + 1, 0, none⟩ 2 2 (fun j => if j = 0 then A else some ⟨w.heap.size, 0, none⟩) (fun j => if j = 0 then n else 2) (fun j => if j = 0 then c else 2) (fun j => if j = 0 then ys else checkZ ys) W
      (fun j hj => by
        rcases (by omega : j = 0 ∨ j = 1) with rfl | rfl
        · exact ⟨hH2.cell 0, hv.below hB2⟩
        · exact ⟨hH2.cell 1, hv2⟩)
      (by show 0 + n + 2 ≤ 1048576; omega) (by omega)
    refine h9.mono fun e w' ⟨v, he, hO, hB⟩ => ⟨v, he, ?_, hB2.trans (hB.mono hB2.size)⟩
    have hO' : w'.ownsRow W.heap.size 5 1 v (0 + n + 2) (vals ([] ++ ys ++ checkZ ys)) := hO
    rw [Nat.zero_add, List.nil_append] at hO'
    exact own_base hO' hB2.size
  clear hv hb
  go_enter Try.func18, Try.ntmps18
  go_wp2_with (first
    | (go_at_call 27; ((with_reducible refine hc.mono ?_); rintro e w' ⟨rfl, rfl⟩))
    | (go_at_call 28; ((with_reducible refine (hcat _ (by rfl)).mono ?_); rintro e w2 ⟨v, rfl, hO, hB⟩)))
  go_ret
  exact ⟨_, rfl, hO, hB⟩
end Go.Proofs.Ytokgcbdpmbjagaa.Crc
