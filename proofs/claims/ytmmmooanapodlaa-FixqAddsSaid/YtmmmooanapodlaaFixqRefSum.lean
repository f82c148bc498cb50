/- What the reference's Add answers of the numbers of a slice. -/
import Derived.Test.YtmmmooanapodlaaFixqRef
import Derived.Test.YtmmmooanapodlaaFixqSum
import Derived.Test.YtmmmooanapodlaaFixqTimes
import Derived.Deep.RegionWith
set_option linter.unusedSimpArgs false
set_option linter.unusedVariables false
namespace Go.Proofs.Ytmmmooanapodlaa
open Go.RowKit

def RefSumRel (w : World) (ob len : Nat) (xs : List Int) (i : Value) (wr : World) : Prop :=
  ∃ k : Nat, k ≤ len ∧ i = .int .i64 k ∧ Below w.heap.size w wr ∧ Has wr ob 34 #[.int .i64 (hiW (xs.take k).sum), .int .u64 (loW (xs.take k).sum)]
set_option maxHeartbeats 2000000 in
theorem refadd_any (a : Option Addr) (len cap : Nat) (xs : List Int) (w : World) (h : Ints w a len xs) :
    Calls Try.prog 12 #[.slice a len cap] w fun e w' => e = addIs xs.sum ∧ Below w.heap.size w w' := by
  have hwide := sum_wide xs h.wf (by have := h.len_; have := h.bound; omega)
  have hb := h.bound
  have hlen := h.len_
  go_enter Try.func12, Try.ntmps12
  go_wp2
  have hon := Has.new w 34 #[.int .i64 0, .int .u64 0]
  have hBn := (Below.refl w.heap.size w).alloc (Nat.le_refl _) (.cells #[.int .i64 0, .int .u64 0] 34)
  generalize hW : w.alloc (.cells #[.int .i64 0, .int .u64 0] 34) = W at *
  clear hW
  generalize hob : w.heap.size = ob at *
  go_loopw [5] (fun i wr => RefSumRel w ob len xs i wr) (fun i _ => len - (intOf i).toNat)
  case atStart => exact ⟨0, by omega, rfl, by rw [hob]; exact hBn, by simpa [hi_zero, lo_zero] using hon⟩
  case round =>
    clear hBn hon
    obtain ⟨k, hk, rfl, hBr, hO⟩ := hrel
    obtain ⟨o0, o1, of0, of1⟩ := hO.two
    have hoB : w.heap.size ≤ ob := by omega
    by_cases hlt : k < len
    · have hI := h.below hBr
      obtain ⟨x, rfl, hcx⟩ := hI.cells (by omega)
      have hcell := hcx k hlt
      have hfit : fits64 (xs.getD k 0) := h.wf _ (by rw [List.getD_eq_getElem?_getD, List.getElem?_eq_getElem (by omega)]; simp)
      have hst := Lib.hid (sum_step xs k (by omega))
      generalize hn : xs.getD k 0 = n at *
      generalize hS : (xs.take k).sum = S at *
      clear hcx hn hS h
      have hB0 := Below.refl wr.heap.size wr
      go_wp2
      go_region_with
        (first
          | (go_at_call 16; refine (of_any _ _ hfit).mono ?_; rintro e W2 ⟨rfl, hB⟩; have hN : Below wr.heap.size wr W2 := (by first | exact chain hB0.drew hB | exact chain hB0 hB | exact chain hN hB | exact chain hN.drew hB); have k1 := cell_below hN hcell; have k2 := cell_below hN o0; have k3 := cell_below hN o1; have k4 := (hN.frozen (p := ⟨ob, 0, none⟩) hO.lt).trans of0; have k5 := (hN.frozen (p := ⟨ob, 1, none⟩) hO.lt).trans of1)
          | (go_at_call 15; refine (plus_any _ _ _).mono ?_; rintro e W2 ⟨rfl, hB⟩; have hN : Below wr.heap.size wr W2 := (by first | exact chain hB0.drew hB | exact chain hB0 hB | exact chain hN hB | exact chain hN.drew hB); have k1 := cell_below hN hcell; have k2 := cell_below hN o0; have k3 := cell_below hN o1; have k4 := (hN.frozen (p := ⟨ob, 0, none⟩) hO.lt).trans of0; have k5 := (hN.frozen (p := ⟨ob, 1, none⟩) hO.lt).trans of1))
      all_goals
        go_wp2
        go_roundw
        case rel => exact ⟨k + 1, by omega, by go_num, below_put2 (hBr.trans (hN.mono hBr.size)) hoB _ _, by rw [hst.out]; exact (hO.below hN hO.lt).put2 _ _⟩
        case measure => simp [intOf]; omega
    · have hk' : k = len := by omega
      subst hk'
      rw [← hlen, List.take_length] at hO o0 o1
      by_cases hf : fits64 xs.sum
      · go_wp2_with (go_at_call 14; refine (fits_yes _ _ hf).mono ?_; rintro e W2 ⟨rfl, hB⟩)
        go_ret2
        unfold addIs
        rw [if_pos hf]
        exact ⟨rfl, hBr.trans (hB.mono hBr.size)⟩
      · go_wp2_with (go_at_call 14; refine (fits_no _ _ hf hwide).mono ?_; rintro e W2 ⟨rfl, hB⟩)
        go_ret2
        unfold addIs
        rw [if_neg hf]
        exact ⟨rfl, hBr.trans (hB.mono hBr.size)⟩
end Go.Proofs.Ytmmmooanapodlaa
