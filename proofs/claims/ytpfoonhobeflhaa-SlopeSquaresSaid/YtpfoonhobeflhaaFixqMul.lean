/- Products: two words, a sign put back, and all numbers of a slice. -/
import Derived.Test.YtpfoonhobeflhaaFixqProd
import Derived.Lib.Mul64
set_option linter.unusedSimpArgs false
set_option linter.unusedVariables false
namespace Go.Proofs.Ytpfoonhobeflhaa
open Go.RowKit

theorem maskN (a : Nat) (ha : a < 18446744073709551616) : bits .and .u64 (a : Int) 4294967295 = ((a % 4294967296 : Nat) : Int) := by
  have h := bits_and_u64_nat a 4294967295 ha (by omega)
  have e : a &&& 4294967295 = a % 4294967296 := Nat.and_two_pow_sub_one_eq_mod a 32
  rw [e] at h
  exact h
theorem divN (a : Nat) : (a : Int) / 4294967296 = ((a / 4294967296 : Nat) : Int) := by omega
theorem mulN (a b : Nat) : (a : Int) * (b : Int) = ((a * b : Nat) : Int) := (Int.natCast_mul a b).symm
theorem addN (a b : Nat) : (a : Int) + (b : Int) = ((a + b : Nat) : Int) := (Int.natCast_add a b).symm
theorem wrapN (a : Nat) (ha : a < 18446744073709551616) : IntKind.u64.wrap (a : Int) = (a : Int) := by rw [u64_wrap]; omega
theorem wrapM (a : Nat) : IntKind.u64.wrap (a : Int) = ((a % 18446744073709551616 : Nat) : Int) := by rw [u64_wrap]; omega
set_option maxHeartbeats 1000000 in
theorem mul64_any (x y : Nat) (hx : x < 18446744073709551616) (hy : y < 18446744073709551616) (w : World) :
    Calls Try.prog 36 #[.int .u64 x, .int .u64 y] w fun e w' => e = .returned (.tuple #[.int .u64 ((x * y / 18446744073709551616 : Nat) : Int), .int .u64 ((x * y % 18446744073709551616 : Nat) : Int)]) ∧ w = w' := by
  obtain ⟨bd, bt, bw, hhi⟩ := Lib.mul64_hi x y hx hy
  have ba := Lib.half_mul_le (a := x / 4294967296) (b := y / 4294967296) (by omega) (by omega)
  have bb := Lib.half_mul_le (a := x / 4294967296) (b := y % 4294967296) (by omega) (by omega)
  have bc := Lib.half_mul_le (a := x % 4294967296) (b := y / 4294967296) (by omega) (by omega)
  have ba' : x / 4294967296 * (y / 4294967296) < 18446744073709551616 := by omega
  have bb' : x / 4294967296 * (y % 4294967296) < 18446744073709551616 := by omega
  have bc' : x % 4294967296 * (y / 4294967296) < 18446744073709551616 := by omega
  have bh1 : x / 4294967296 * (y / 4294967296) + (x / 4294967296 * (y % 4294967296) + x % 4294967296 * (y % 4294967296) / 4294967296) / 4294967296 < 18446744073709551616 := by omega
  have bh : x / 4294967296 * (y / 4294967296) + (x / 4294967296 * (y % 4294967296) + x % 4294967296 * (y % 4294967296) / 4294967296) / 4294967296 + ((x / 4294967296 * (y % 4294967296) + x % 4294967296 * (y % 4294967296) / 4294967296) % 4294967296 + x % 4294967296 * (y / 4294967296)) / 4294967296 < 18446744073709551616 := by omega
  go_enter Try.func36, Try.ntmps36
  go_wp2
  simp only [maskN x hx, maskN y hy, divN, mulN, addN, wrapN _ bd, wrapN _ bb', wrapN _ bt, maskN _ bt, wrapN _ bc', wrapN _ bw, wrapN _ ba', wrapN _ bh1, wrapN _ bh, wrapM (x * y)]
  rw [hhi]
  go_ret2
  exact ⟨rfl, rfl⟩

/-- The number that is so far from 0, on that side. -/
def sideZ (size : Nat) (below : Bool) : Int := if below then -(size : Int) else size
theorem signed_any (size : Nat) (below : Bool) (h1 : 1 ≤ size) (h2 : size < 18446744073709551616) (w : World) :
    Calls Try.prog 38 #[.int .u64 size, .bool below] w fun e w' => e = addIs (sideZ size below) ∧ w = w' := by
  unfold sideZ
  rcases below with _ | _
  · by_cases hf : fits64 (size : Int)
    all_goals
      have HF := Lib.hid hf
      have hlt : (decide (wrap64 (size : Int) < 0)) = !decide (fits64 (size : Int)) := by
        unfold fits64 wrap64; rw [Bool.eq_iff_iff]; simp; omega
      first | rw [decide_eq_true hf] at hlt | rw [decide_eq_false hf] at hlt
      have he : fits64 (size : Int) → wrap64 (size : Int) = size := fun h => by unfold fits64 at h; unfold wrap64; omega
      have HE := Lib.hid he
      clear hf he
      go_enter Try.func38, Try.ntmps38
      go_wp2
      go_ret2
    · exact ⟨by rw [addIs_yes HF.out]; exact ret_two (HE.out HF.out) rfl, rfl⟩
    · exact ⟨by rw [addIs_no HF.out]; rfl, rfl⟩
  · by_cases hf : fits64 (-(size : Int))
    all_goals
      have HF := Lib.hid hf
      have hlt : (decide (wrap64 (-wrap64 (size : Int)) < 0)) = decide (fits64 (-(size : Int))) := by
        unfold fits64 wrap64; rw [Bool.eq_iff_iff]; simp; omega
      first | rw [decide_eq_true hf] at hlt | rw [decide_eq_false hf] at hlt
      have he : fits64 (-(size : Int)) → wrap64 (-wrap64 (size : Int)) = -(size : Int) := fun h => by unfold fits64 at h; unfold wrap64; omega
      have HE := Lib.hid he
      clear hf he
      go_enter Try.func38, Try.ntmps38
      go_wp2
      go_ret2
    · exact ⟨by rw [addIs_yes HF.out]; exact ret_two (HE.out HF.out) rfl, rfl⟩
    · exact ⟨by rw [addIs_no HF.out]; rfl, rfl⟩
theorem side_abs (P : Int) : sideZ P.natAbs (decide (P < 0)) = P := by
  unfold sideZ
  by_cases h : P < 0
  · rw [decide_eq_true h, if_pos rfl]; omega
  · rw [decide_eq_false h, if_neg (by simp)]; omega
theorem over_of (xs : List Int) (k : Nat) (h : (0 : Int) ∉ xs) (hk : 9223372036854775808 < (prodZ (xs.take k)).natAbs) : ¬ fits64 (prodZ xs) := by
  have := prod_mono xs k (fun n hn h0 => h (h0 ▸ hn))
  unfold fits64; omega

set_option maxHeartbeats 1000000 in
theorem mul_any (a : Option Addr) (len cap : Nat) (xs : List Int) (w : World) (h : Ints w a len xs) :
    Calls Try.prog 26 #[.slice a len cap] w fun e w' => e = addIs (prodZ xs) ∧ w = w' := by
  by_cases h0 : (0 : Int) ∈ xs
  · have hp := Lib.hid (prod_zero xs h0)
    have HZ := Lib.hid h0
    clear h0
    go_enter Try.func26, Try.ntmps26
    go_wp2_with (go_at_call 35; refine (contains_yes _ _ _ _ _ _ h HZ.out).mono ?_; rintro e w' ⟨rfl, rfl⟩)
    go_ret2
    exact ⟨by rw [hp.out, addIs_yes (by unfold fits64; omega)]; rfl, rfl⟩
  · have HZ := Lib.hid h0
    have hb := h.bound
    have hlen := h.len_
    clear h0
    go_enter Try.func26, Try.ntmps26
    go_wp2_with (go_at_call 35; refine (contains_no _ _ _ _ _ _ h HZ.out).mono ?_; rintro e w' ⟨rfl, rfl⟩)
    go_loop [4, 5, 14] (fun s b i => ∃ k : Nat, k ≤ len ∧ i = .int .i64 k ∧ s = .int .u64 ((prodZ (xs.take k)).natAbs : Int) ∧ b = .bool (decide (prodZ (xs.take k) < 0)) ∧ (prodZ (xs.take k)).natAbs < 18446744073709551616) (fun _ _ i => len - (intOf i).toNat)
    case atStart => exact ⟨0, by omega, rfl, by simp [prodZ], by simp [prodZ], by simp [prodZ]⟩
    case round =>
      obtain ⟨k, hk, rfl, rfl, rfl, hs⟩ := hrel
      have hP1 := prod_pos (xs.take k) (fun n hn h0 => HZ.out (h0 ▸ List.mem_of_mem_take hn))
      by_cases hlt : k < len
      · obtain ⟨x, rfl, hcx⟩ := h.cells (by omega)
        have hcell := hcx k hlt
        have hmem : xs.getD k 0 ∈ xs := by rw [List.getD_eq_getElem?_getD, List.getElem?_eq_getElem (by omega)]; simp
        have hfit := h.wf _ hmem
        have hn0 : xs.getD k 0 ≠ 0 := fun h0 => HZ.out (h0 ▸ hmem)
        have hst := prod_step xs k (by omega)
        have hov := Lib.hid (over_of xs (k + 1) HZ.out)
        have hsg := sign_step (prodZ (xs.take k)) (xs.getD k 0) (by omega) hn0
        rw [hst] at hov
        have HST := Lib.hid hst
        generalize hn : xs.getD k 0 = n at *
        generalize hS : prodZ (xs.take k) = P at *
        have habs : (P * n).natAbs = P.natAbs * n.natAbs := Int.natAbs_mul _ _
        have hna : n.natAbs < 18446744073709551616 := by unfold fits64 at hfit; omega
        clear hcx hn hS h hmem hst hn0
        have HA := Lib.hid habs
        clear habs
        by_cases hbig : P.natAbs * n.natAbs < 18446744073709551616
        · have e1 : P.natAbs * n.natAbs / 18446744073709551616 = 0 := Nat.div_eq_of_lt hbig
          have e2 : P.natAbs * n.natAbs % 18446744073709551616 = P.natAbs * n.natAbs := Nat.mod_eq_of_lt hbig
          have E1 := Lib.hid e1
          have E2 := Lib.hid e2
          have HB := Lib.hid hbig
          clear e1 e2 hbig
          go_wp2_with (first
            | (go_at_call 37; refine (magnitude_any _ _ hfit).mono ?_; rintro e w' ⟨rfl, rfl⟩)
            | (go_at_call 36; refine (mul64_any _ _ hs hna _).mono ?_; rintro e w' ⟨rfl, rfl⟩; rw [E1.out, E2.out]))
          go_round
          case rel =>
            refine ⟨k + 1, by omega, by go_num, ?_, ?_, ?_⟩
            · rw [HST.out, HA.out]; exact congrArg _ (mulN _ _)
            · rw [HST.out]; exact congrArg _ hsg
            · rw [HST.out, HA.out]; exact HB.out
          case measure => simp [intOf]; omega
        · have e1 : 1 ≤ P.natAbs * n.natAbs / 18446744073709551616 := by
            rw [Nat.le_div_iff_mul_le (by omega)]; omega
          have e3 : (((P.natAbs * n.natAbs / 18446744073709551616 : Nat) : Int) != 0) = true := by rw [bne_iff_ne]; omega
          have E2 := Lib.hid (hov.out (by rw [HA.out]; omega))
          clear e1 hbig
          generalize hg1 : P.natAbs * n.natAbs / 18446744073709551616 = g1 at *
          generalize hg2 : P.natAbs * n.natAbs % 18446744073709551616 = g2 at *
          have HG1 := Lib.hid hg1
          have HG2 := Lib.hid hg2
          clear hg1 hg2
          go_wp2_with (first
            | (go_at_call 37; refine (magnitude_any _ _ hfit).mono ?_; rintro e w' ⟨rfl, rfl⟩)
            | (go_at_call 36; refine (mul64_any _ _ hs hna _).mono ?_; rintro e w' ⟨rfl, rfl⟩; rw [HG1.out, HG2.out]))
          go_ret2
          exact ⟨by rw [addIs_no E2.out]; rfl, rfl⟩
      · have hk' : k = len := by omega
        subst hk'
        rw [← hlen, List.take_length] at hs hP1 ⊢
        clear h
        generalize hPe : prodZ xs = P at *
        have HPe := Lib.hid hPe
        clear hPe
        have e1 := Lib.hid (side_abs P)
        by_cases hf : fits64 P
        all_goals
          have HF := Lib.hid hf
          clear hf
        · go_wp2_with (first
            | (go_at_call 38; refine (signed_any _ _ hP1 hs _).mono ?_; rintro e w' ⟨he, rfl⟩; rw [e1.out, addIs_yes HF.out] at he; subst he))
          go_ret2
          exact ⟨by rw [HPe.out, addIs_yes HF.out]; rfl, rfl⟩
        · go_wp2_with (first
            | (go_at_call 38; refine (signed_any _ _ hP1 hs _).mono ?_; rintro e w' ⟨he, rfl⟩; rw [e1.out, addIs_no HF.out] at he; subst he))
          go_ret2
          exact ⟨by rw [HPe.out, addIs_no HF.out]; rfl, rfl⟩
theorem ints_pair (w : World) (a b : Int) (T : TypeId) (ha : fits64 a) (hb : fits64 b) :
    Ints (w.alloc (.cells #[.int .i64 a, .int .i64 b] T)) (some ⟨w.heap.size, 0, none⟩) 2 [a, b] := by
  refine ⟨rfl, by omega, fun n hn => ?_, fun _ => ⟨_, rfl, fun i hi => ?_⟩⟩
  · rcases List.mem_cons.1 hn with rfl | hn
    · exact ha
    · rw [List.mem_singleton.1 hn]; exact hb
  · have h := Has.new w T #[.int .i64 a, .int .i64 b]
    rcases (by omega : i = 0 ∨ i = 1) with rfl | rfl
    · exact h.cell 0
    · exact h.cell 1
theorem prod_pair (a b : Int) : prodZ [a, b] = a * b := by simp [prodZ]
theorem sum_pair (a b : Int) : [a, b].sum = a + b := by simp
theorem mul64_wide (a b : Int) (ha : fits64 a) (hb : fits64 b) : wide (a * b) := by
  have h1 : (a * b).natAbs ≤ 9223372036854775808 * 9223372036854775808 := by
    unfold fits64 at ha hb
    rw [Int.natAbs_mul]; exact Nat.mul_le_mul (by omega) (by omega)
  unfold wide; omega
end Go.Proofs.Ytpfoonhobeflhaa
