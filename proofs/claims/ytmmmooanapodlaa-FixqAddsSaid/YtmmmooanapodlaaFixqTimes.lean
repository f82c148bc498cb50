/- The reference's product of two numbers, added up bit by bit. -/
import Derived.Test.YtmmmooanapodlaaFixqRef
import Derived.Test.YtmmmooanapodlaaMem
set_option linter.unusedSimpArgs false
set_option linter.unusedVariables false
namespace Go.Proofs.Ytmmmooanapodlaa
open Go.RowKit
theorem hi_zero : hiW 0 = 0 := by unfold hiW wrap64; omega
theorem lo_zero : loW 0 = 0 := by unfold loW; omega
def TimesRel (p : Int) (w : World) (rb xb ob : Nat) (u : Value) (wr : World) : Prop :=
  ∃ (X O : Int) (n : Nat), u = .int .u64 n ∧ n < 18446744073709551616 ∧ O + X * n = p ∧ Below w.heap.size w wr ∧ Has wr rb 34 #[.int .i64 0, .int .u64 0] ∧
    Has wr xb 34 #[.int .i64 (hiW X), .int .u64 (loW X)] ∧ Has wr ob 34 #[.int .i64 (hiW O), .int .u64 (loW O)]
theorem half_odd (X O : Int) (n : Nat) (h : n % 2 = 1) : O + X + (X + X) * ((n / 2 : Nat) : Int) = O + X * n := by
  have e : (n : Int) = 2 * ((n / 2 : Nat) : Int) + 1 := by omega
  rw [e, Int.mul_add, Int.add_mul, ← Int.mul_assoc, Int.mul_comm X 2, Int.mul_one]
  generalize ((n / 2 : Nat) : Int) = m
  rw [show (2 * X) * m = X * m + X * m by rw [Int.two_mul, Int.add_mul]]
  omega
theorem half_even (X O : Int) (n : Nat) (h : n % 2 = 0) : O + (X + X) * ((n / 2 : Nat) : Int) = O + X * n := by
  have e : (n : Int) = 2 * ((n / 2 : Nat) : Int) := by omega
  rw [e, Int.add_mul, ← Int.mul_assoc, Int.mul_comm X 2]
  generalize ((n / 2 : Nat) : Int) = m
  rw [show (2 * X) * m = X * m + X * m by rw [Int.two_mul, Int.add_mul]]
theorem int_u64 {a b : Int} (h : a = b) : Value.int .u64 a = .int .u64 b := by rw [h]
theorem times_any (a b : Int) (w : World) (ha : fits64 a) (hb : fits64 b) :
    Calls Try.prog 20 #[.int .i64 a, .int .i64 b] w fun e w' => e = .returned (.agg #[.int .i64 (hiW (a * b)), .int .u64 (loW (a * b))]) ∧ Below w.heap.size w w' := by
  have hb' := hb
  unfold fits64 at hb'
  by_cases h0 : b < 0
  all_goals
    go_enter Try.func20, Try.ntmps20
  case' pos =>
    go_wp2_with (first
      | (go_at_call 16; refine (of_any _ _ ha).mono ?_; rintro e w1 ⟨rfl, hB1⟩; obtain ⟨hc1, hf1⟩ := bcell hB1; have hz1 : w.heap.size < w1.heap.size := by (have := hB1.size; simp at this; omega))
      | (go_at_call 17; refine (minus_any _ _).mono ?_; rintro e w2 ⟨rfl, hB2⟩; have hx2 := (Has.new w1 34 #[.int .i64 (hiW a), .int .u64 (loW a)]).below hB2 (by simp); obtain ⟨xo0, xo1, xof0, xof1⟩ := hx2.two))
    have hB : Below w.heap.size w w1 := ((Below.refl _ _).alloc (Nat.le_refl _) _).trans (hB1.mono (by simp))
    have hr1 := ((Has.new w 34 #[.int .i64 0, .int .u64 0]).below hB1 (by simp)).alloc (.cells #[.int .i64 (hiW a), .int .u64 (loW a)] 34)
    have hr2 := (hr1.below hB2 hr1.lt).far2 (c := w1.heap.size) (by omega) (.int .i64 (hiW (-a))) (.int .u64 (loW (-a)))
    have hrn := hr2.alloc (.cells #[.int .i64 0, .int .u64 0] 34)
    have hx3 := hx2.put2 (.int .i64 (hiW (-a))) (.int .u64 (loW (-a)))
    have hxn0 := hx3.alloc (.cells #[.int .i64 0, .int .u64 0] 34)
    have hon := Has.new ((w2.setCell ⟨w1.heap.size, 0, none⟩ (.int .i64 (hiW (-a)))).setCell ⟨w1.heap.size, 1, none⟩ (.int .u64 (loW (-a)))) 34 #[.int .i64 0, .int .u64 0]
    have hBa := below_put2 ((hB.alloc (Nat.le_of_lt hz1) (.cells #[.int .i64 (hiW a), .int .u64 (loW a)] 34)).trans (hB2.mono (by simp; omega))) (c := w1.heap.size) (Nat.le_of_lt hz1) (.int .i64 (hiW (-a))) (.int .u64 (loW (-a)))
    have hBn := hBa.alloc hBa.size (.cells #[.int .i64 0, .int .u64 0] 34)
    have hz2 : w1.heap.size < w2.heap.size := by have := hB2.size; simp at this; omega
    rw [show ((w2.setCell ⟨w1.heap.size, 0, none⟩ (.int .i64 (hiW (-a)))).setCell ⟨w1.heap.size, 1, none⟩ (.int .u64 (loW (-a)))).heap.size = w2.heap.size by simp] at hon
    clear hc1 hf1 hB1 hB hr1 hr2 hx3 hBa hB2 hx2 xo0 xo1 xof0 xof1
    generalize hW : ((w2.setCell ⟨w1.heap.size, 0, none⟩ (.int .i64 (hiW (-a)))).setCell ⟨w1.heap.size, 1, none⟩ (.int .u64 (loW (-a)))).alloc (.cells #[.int .i64 0, .int .u64 0] 34) = W at *
    clear hW
    obtain ⟨X0, N0, hX0, hN0, hxn, hv⟩ : ∃ (X0 : Int) (N0 : Nat), X0 * N0 = a * b ∧ N0 < 18446744073709551616 ∧ Has W w1.heap.size 34 #[.int .i64 (hiW X0), .int .u64 (loW X0)] ∧ Value.int .u64 (IntKind.u64.wrap (-IntKind.u64.wrap b)) = .int .u64 N0 :=
      ⟨-a, (-b).toNat, by rw [Int.toNat_of_nonneg (by omega), Int.neg_mul_neg], by omega, hxn0, int_u64 (by rw [u64_wrap, u64_wrap]; omega)⟩
    clear hxn0
    generalize hob : w2.heap.size = ob at *
    generalize hxb : w1.heap.size = xb at *
    have hne : xb < ob := by omega
    clear hob hxb hz2
  case' neg =>
    go_wp2_with (first
      | (go_at_call 16; refine (of_any _ _ ha).mono ?_; rintro e w1 ⟨rfl, hB1⟩; obtain ⟨hc1, hf1⟩ := bcell hB1; have hz1 : w.heap.size < w1.heap.size := by (have := hB1.size; simp at this; omega)))
    have hB : Below w.heap.size w w1 := ((Below.refl _ _).alloc (Nat.le_refl _) _).trans (hB1.mono (by simp))
    have hrn := (((Has.new w 34 #[.int .i64 0, .int .u64 0]).below hB1 (by simp)).alloc (.cells #[.int .i64 (hiW a), .int .u64 (loW a)] 34)).alloc (.cells #[.int .i64 0, .int .u64 0] 34)
    have hxn0 := (Has.new w1 34 #[.int .i64 (hiW a), .int .u64 (loW a)]).alloc (.cells #[.int .i64 0, .int .u64 0] 34)
    have hon := Has.new (w1.alloc (.cells #[.int .i64 (hiW a), .int .u64 (loW a)] 34)) 34 #[.int .i64 0, .int .u64 0]
    have hBn := (hB.alloc (Nat.le_of_lt hz1) (.cells #[.int .i64 (hiW a), .int .u64 (loW a)] 34)).alloc (by simp; omega) (.cells #[.int .i64 0, .int .u64 0] 34)
    rw [show (w1.alloc (.cells #[.int .i64 (hiW a), .int .u64 (loW a)] 34)).heap.size = w1.heap.size + 1 by simp] at hon
    clear hc1 hf1 hB1 hB
    generalize hW : (w1.alloc (.cells #[.int .i64 (hiW a), .int .u64 (loW a)] 34)).alloc (.cells #[.int .i64 0, .int .u64 0] 34) = W at *
    clear hW
    obtain ⟨X0, N0, hX0, hN0, hxn, hv⟩ : ∃ (X0 : Int) (N0 : Nat), X0 * N0 = a * b ∧ N0 < 18446744073709551616 ∧ Has W w1.heap.size 34 #[.int .i64 (hiW X0), .int .u64 (loW X0)] ∧ Value.int .u64 b = .int .u64 N0 :=
      ⟨a, b.toNat, by rw [Int.toNat_of_nonneg (by omega)], by omega, hxn0, int_u64 (by omega)⟩
    clear hxn0
    generalize hob : w1.heap.size + 1 = ob at *
    generalize hxb : w1.heap.size = xb at *
    have hne : xb < ob := by omega
    clear hob hxb
  all_goals
    generalize hrb : w.heap.size = rb at *
    have HV := Lib.hid hv
    have HX0 := Lib.hid hX0
    clear hv hX0
    go_loopw [7] (fun u wr => TimesRel (a * b) w rb xb ob u wr) (fun u _ => (intOf u).toNat)
    case atStart => exact ⟨X0, 0, N0, HV.out, hN0, by have := HX0.out; omega, by rw [hrb]; exact hBn, hrn, hxn, by rw [hi_zero, lo_zero]; exact hon⟩
    case round =>
      clear hBn hxn hon hrn
      obtain ⟨X, O, n, rfl, hn, hsum, hBr, hR, hX, hO⟩ := hrel
      obtain ⟨x0, x1, xf0, xf1⟩ := hX.two
      obtain ⟨o0, o1, of0, of1⟩ := hO.two
      obtain ⟨r0, r1, rf0, rf1⟩ := hR.two
      have hrB : w.heap.size ≤ rb := by omega
      by_cases hn0 : n = 0
      · subst hn0
        have hs' : O = a * b := by omega
        subst hs'
        clear hsum
        go_wp2
        refine bodyPost_ret (v := .agg #[.int .i64 (hiW (a * b)), .int .u64 (loW (a * b))]) (by simp [results, Try.results20, go_sem, *]) rfl ⟨rfl, ?_⟩
        exact below_put2 hBr hrB _ _
      · have HS := Lib.hid hsum
        clear hsum
        by_cases hp : n % 2 = 1
        · go_wp2_with (first
            | (go_at_call 15; refine (plus_any _ _ _).mono ?_; rintro e w3 ⟨rfl, hB3⟩; have hX3 := (hX2.far2 (c := ob) (by omega) _ _).below hB3 (hX2.far2 (c := ob) (by omega) _ _).lt; obtain ⟨xx0, xx1, xxf0, xxf1⟩ := hX3.two)
            | (go_at_call 15; refine (plus_any _ _ _).mono ?_; rintro e w2 ⟨rfl, hB2⟩; have hX2 := hX.below hB2 hX.lt; have hO2 := hO.below hB2 hO.lt; obtain ⟨xo0, xo1, xof0, xof1⟩ := hX2.two; obtain ⟨oo0, oo1, oof0, oof1⟩ := hO2.two))
          go_roundw
          case rel =>
            have hR2 := (hR.below hB2 hR.lt).far2 (c := ob) (by omega) (.int .i64 (hiW (O + X))) (.int .u64 (loW (O + X)))
            have hO2' := hO2.put2 (.int .i64 (hiW (O + X))) (.int .u64 (loW (O + X)))
            have hBB := below_put2 (hBr.trans (hB2.mono hBr.size)) (c := ob) (by omega) (.int .i64 (hiW (O + X))) (.int .u64 (loW (O + X)))
            exact ⟨X + X, O + X, n / 2, by rw [Int.natCast_ediv]; rfl, by omega, by rw [half_odd X O n hp]; exact HS.out, below_put2 (hBB.trans (hB3.mono hBB.size)) (by omega) _ _, (hR2.below hB3 hR2.lt).far2 (by omega) _ _, hX3.put2 _ _, (hO2'.below hB3 hO2'.lt).far2 (by omega) _ _⟩
          case measure => simp [intOf]; omega
        · go_wp2_with (first
            | (go_at_call 15; refine (plus_any _ _ _).mono ?_; rintro e w2 ⟨rfl, hB2⟩; have hX2 := hX.below hB2 hX.lt; have hO2 := hO.below hB2 hO.lt; obtain ⟨xo0, xo1, xof0, xof1⟩ := hX2.two; obtain ⟨oo0, oo1, oof0, oof1⟩ := hO2.two))
          go_roundw
          case rel =>
            have hR2 := hR.below hB2 hR.lt
            have hBB := hBr.trans (hB2.mono hBr.size)
            exact ⟨X + X, O, n / 2, by rw [Int.natCast_ediv]; rfl, by omega, by rw [half_even X O n (by omega)]; exact HS.out, below_put2 hBB (by omega) _ _, hR2.far2 (by omega) _ _, hX2.put2 _ _, hO2.far2 (by omega) _ _⟩
          case measure => simp [intOf]; omega

end Go.Proofs.Ytmmmooanapodlaa
