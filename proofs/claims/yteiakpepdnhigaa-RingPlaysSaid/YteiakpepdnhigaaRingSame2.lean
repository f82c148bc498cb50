/- The law's own 'same': a ring and the reference's list, looked at from both ends. -/
import Derived.Test.YteiakpepdnhigaaRingRef
import Derived.Test.YteiakpepdnhigaaRingTakeI
set_option linter.unusedSimpArgs false
set_option linter.unusedVariables false
namespace Go.Proofs.Yteiakpepdnhigaa.RInt
open Go.RowKit

theorem Has.keep2 {w w' : World} {b : Nat} {t : TypeId} {u v : Value} (h : Has w b t #[u, v]) (hb : Below w.heap.size w w') : Has w' b t #[u, v] := h.below hb h.lt
/-- .. where both look alike so far. -/
def Looking (w : World) (Bx n : Nat) (A : Option Addr) (c N : Nat) (i : Value) (wr : World) : Prop :=
  ∃ k : Int, -1 ≤ k ∧ k ≤ n + 1 ∧ i = .int .i64 k ∧ Has wr Bx 29 #[.slice A n c, .int .i64 N] ∧ Below w.heap.size w wr
set_option maxRecDepth 100000 in
set_option maxHeartbeats 4000000 in
theorem alike_yes (b g nn q f : Nat) (cs xs : List Int) (A : Option Addr) (n c : Nat) (w : World) (h : Ring w b g nn q f cs xs) (hV : Vals w A n xs) (hc : n ≤ c) :
    Calls Try.prog 18 #[.pointer (some ⟨b, 0, none⟩), .agg #[.slice A n c, .int .i64 nn]] w fun e w' => e = .returned (.bool true) ∧ Below w.heap.size w w' := by
  have hl := hV.len_
  have hnn := h.core.le
  have hroom := h.core.room
  rw [hl] at hroom
  obtain ⟨r, hr⟩ : ∃ r, nn - n = r := ⟨_, rfl⟩
  have hsub : IntKind.i64.wrap ((nn : Int) - (n : Int)) = (r : Int) := by rw [IntWalk.i64_in _ (by omega)]; omega
  have hlen := fun W (hW : Ring W b g nn q f cs xs) => len_q b g nn q f cs xs n W hW hl
  have hrm := fun W (hW : Ring W b g nn q f cs xs) => room_nat b g nn q f cs xs r W hW (by rw [hl]; exact hr)
  have hH := Has.new w 29 #[.slice A n c, .int .i64 nn]
  have hB := (Below.refl w.heap.size w).alloc (Nat.le_refl _) (.cells #[.slice A n c, .int .i64 nn] 29)
  have hR0 := h.alloc (.cells #[.slice A n c, .int .i64 nn] 29)
  obtain ⟨Bx, hBx⟩ : ∃ Bx, w.heap.size = Bx := ⟨_, rfl⟩
  have o0 := hH.cell 0
  have o1 := hH.cell 1
  have HR := Lib.hid hr
  clear hr
  go_enter Try.func18, Try.ntmps18
  go_wp2
  go_quiet ((first
    | (go_at_call 20; exact Calls.quiet_of (hlen _ (hR0.same rfl)))
    | (go_at_call 19; exact Calls.quiet_of (hrm _ (hR0.same rfl)))))
  go_wp2
  clear hsub o0 o1
  generalize hw2 : (w.alloc (.cells #[.slice A n c, .int .i64 nn] 29)).drewN nq = w2
  have hH2 : Has w2 w.heap.size 29 #[.slice A n c, .int .i64 nn] := by subst hw2; exact hH
  have hB2 : Below w.heap.size w w2 := by subst hw2; exact below_drewN hB _
  clear hw2 hH hB hR0
  rw [hBx] at hH2
  try rw [hBx]
  have HBX := Lib.hid hBx
  clear hBx
  go_loopw [5] (fun i wr => Looking w Bx n A c nn i wr) (fun i _ => ((n : Int) + 1 - intOf i).toNat)
  case atStart => exact ⟨-1, by omega, by omega, rfl, hH2, hB2⟩
  case round =>
    clear hH2 hB2
    obtain ⟨k, hk1, hk2, rfl, hH, hB⟩ := hrel
    obtain ⟨o0, o1, of0, of1⟩ := hH.two
    have hbx := hH.lt
    have hR := h.below hB h.core.lt_.1 h.core.lt_.2
    have hVr := hV.below hB
    by_cases hlt : k ≤ n
    · by_cases hin : 0 ≤ k ∧ k < n
      · obtain ⟨j, rfl⟩ : ∃ j : Nat, k = (j : Int) := ⟨k.toNat, by omega⟩
        have hat := at_yes b g nn q f cs xs j wr hR (by omega)
        have hrat := fun W (hW : Vals W A n xs) => refat_yes A n c nn xs j W hW (by omega) (by omega)
        have hback := fun W (hW : Ring W b g nn q f cs xs) => back_yes b g nn q f cs xs j W hW (by omega)
        rw [hl] at hback
        have hrback := fun W (hW : Vals W A n xs) => refback_yes A n c nn xs j W hW (by omega) (by omega)
        generalize xs.getD j 0 = v1 at *
        generalize xs.getD (n - 1 - j) 0 = v2 at *
        go_wp2_with (first
          | (go_at_call 26; ((with_reducible refine hat.mono ?_); rintro e W1 ⟨rfl, k1, rfl⟩))
          | (go_at_call 12; ((with_reducible refine (hrat _ (by exact hVr.same rfl)).mono ?_); rintro e W2 ⟨rfl, hB2⟩; have hB3 : Below wr.heap.size wr W2 := ⟨hB2.os, hB2.tape, hB2.output, hB2.size, hB2.block⟩; have hH3 := Has.keep2 hH hB3; have p0 := hH3.cell 0; have p1 := hH3.cell 1; have hR3 := hR.below hB3 hR.core.lt_.1 hR.core.lt_.2; have hV3 := hVr.below hB3))
          | (go_at_call 29; ((with_reducible refine (hback _ hR3).mono ?_); rintro e W4 ⟨rfl, k4, rfl⟩))
          | (go_at_call 30; ((with_reducible refine (hrback _ (by exact hV3.same rfl)).mono ?_); rintro e W5 ⟨rfl, hB5⟩; have hB6 : Below W2.heap.size W2 W5 := ⟨hB5.os, hB5.tape, hB5.output, hB5.size, hB5.block⟩)))
        go_roundw
        case rel => exact ⟨j + 1, by omega, by omega, rfl, Has.keep2 hH3 hB6, hB.trans ((hB3.mono hB.size).trans (hB6.mono (Nat.le_trans hB.size hB3.size)))⟩
        case measure => simp [intOf]; omega
      · have hno : k < 0 ∨ (n : Int) ≤ k := by omega
        have hat := at_no b n k wr hno (by rw [← hl]; exact hR.core.cells.2.2)
        have hrat := fun W => refat_no A n c nn k W hno (by omega)
        have hback := fun W (hW : Ring W b g nn q f cs xs) => back_no b n k W hno (by omega) (by omega) (by rw [← hl]; exact hW.core.cells.2.2)
        have hrback := fun W => refback_no A n c nn k W hno (by omega)
        clear hin hno
        go_wp2_with (first
          | (go_at_call 26; ((with_reducible refine hat.mono ?_); rintro e W1 ⟨rfl, rfl⟩))
          | (go_at_call 12; ((with_reducible refine (hrat _).mono ?_); rintro e W2 ⟨rfl, hB3⟩; have hH3 := Has.keep2 hH hB3; have p0 := hH3.cell 0; have p1 := hH3.cell 1; have hR3 := hR.below hB3 hR.core.lt_.1 hR.core.lt_.2))
          | (go_at_call 29; ((with_reducible refine (hback _ hR3).mono ?_); rintro e W4 ⟨rfl, rfl⟩))
          | (go_at_call 30; ((with_reducible refine (hrback _).mono ?_); rintro e W5 ⟨rfl, hB6⟩)))
        go_roundw
        case rel => exact ⟨k + 1, by omega, by omega, rfl, Has.keep2 hH3 hB6, hB.trans ((hB3.mono hB.size).trans (hB6.mono (Nat.le_trans hB.size hB3.size)))⟩
        case measure => simp [intOf]; omega
    · go_wp2
      go_ret
      exact ⟨rfl, hB⟩
end Go.Proofs.Yteiakpepdnhigaa.RInt
