/- The reference's Seal: new bytes, the row's and its check behind them. -/
import Derived.Test.YtlhjligeigkbnaaCrcRefB
import Derived.Test.YtlhjligeigkbnaaCrcSealIs
set_option linter.unusedSimpArgs false
set_option linter.unusedVariables false
namespace Go.Proofs.Ytlhjligeigkbnaa.Crc
open Go.RowKit RU8

theorem refseal_any (A : Option Addr) (n c : Nat) (ys : List Nat) (w : World) (hv : Vals w A n ys) (hb : Bytes ys) (hn : n ≤ 100000) :
    Calls Try.prog 27 #[.slice A n c] w (Sealed w n ys) := by
  have hInfo : (Try.prog.info? 5).map (fun i => (i.zero, i.size, i.bytes)) = some (some (.int .u8 0), 1, 1) := by kernel_rfl
  have HInfo := Lib.hid hInfo
  clear hInfo
  have hs := refsum_any A n c ys w hv hb (by omega)
  have hlt := sumZ_lt ys
  have hz : checkZ ys = [sumZ ys % 256, sumZ ys / 256] := rfl
  have hsz : sealZ ys = ys ++ checkZ ys := rfl
  unfold Sealed
  rw [hsz]
  have hZ := Lib.hid hz
  clear hz hsz
  generalize sumZ ys = s at *
  have h1 : IntKind.u8.wrap ((s : Int) % 256) = ((s % 256 : Nat) : Int) := by rw [IntKind.wrap_u8]; omega
  have h1b : (s : Int) % 256 = ((s % 256 : Nat) : Int) := by omega
  have h2 : (s : Int) / 256 = ((s / 256 : Nat) : Int) := by omega
  have h3 : s / 256 < 256 := by omega
  have h4 : s % 256 < 256 := by omega
  generalize s % 256 = lo at *
  generalize s / 256 = hi at *
  have hBa := (Below.refl w.heap.size w).alloc (Nat.le_refl _) (.cells #[] 5)
  have hO0 := own_empty w 5
  have hV2 : ∀ W : World, Vals (W.alloc (.cells #[.int .u8 lo, .int .u8 hi] 5)) (some ⟨W.heap.size, 0, none⟩) 2 (checkZ ys) := fun W => by
    rw [hZ.out]
    exact Vals.has (ys := [lo, hi]) (tl := []) (Has.new W 5 _)
  go_enter Try.func27, Try.ntmps27
  go_wp2_with (first
    | (go_at_call 36; ((with_reducible refine hs.mono ?_); rintro e w' ⟨rfl, rfl⟩))
    | (at_builtin; refine wpList_append_vals rfl (.tmp 6) (.tmp 7) _ rfl w.heap.size 5 1 (by omega) Try.underlying22 HInfo.out (.slice (some ⟨w.heap.size, 0, none⟩) 0 0) 0 ([] : List Nat) rfl (by exact hO0) A n c ys rfl (by exact hv.alloc _) (by omega) (by simp) ?_; intro v1 W1 hO1 hg1 hat1; have hK1 := Kept.of_grown hg1; have hB1 := below_kept hBa hK1 hBa.size (own_in hO0); have hB1a := hB1.alloc hB1.size (.cells #[.int .u8 lo, .int .u8 hi] 5); have hO1a := own_kept hO1 ((Kept.refl [] W1).alloc (.cells #[.int .u8 lo, .int .u8 hi] 5)) (by simp))
    | (at_builtin; refine wpList_append_vals rfl (.tmp 8) (.tmp 15) _ rfl w.heap.size 5 1 (by omega) Try.underlying22 HInfo.out v1 (0 + n) ([] ++ ys) rfl (by exact hO1a) _ 2 2 (checkZ ys) rfl (by exact hV2 _) (by omega) (by exact hB1a.size) ?_; intro v2 W2 hO2 hg2 hat2; have hK2 := Kept.of_grown hg2; have hB2 := below_kept hB1a hK2 hB1a.size (own_in hO1a); rw [List.nil_append, Nat.zero_add] at hO2))
  go_ret
  exact ⟨_, rfl, hO2, hB2⟩
end Go.Proofs.Ytlhjligeigkbnaa.Crc
