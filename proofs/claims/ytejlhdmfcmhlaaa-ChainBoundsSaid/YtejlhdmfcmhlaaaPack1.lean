/- What the proofs stand on, part 1. -/
import Derived.WalkKit
import Derived.Deep.RegionHeld3
import Derived.OpenShut
import Derived.Deep.Draws
import GoSem.Claim
import Derived.IntWalk
import Derived.Below
import Derived.ProofKit
import Derived.Laws.BitsAllLaws
import Derived.Laws.BitsLemmas
import Derived.OwnWalk
import Derived.Test.YtejlhdmfcmhlaaaChecked
import Derived.Lib.BitFns
import Derived.Lib.Hide
import Derived.Maps.AppendAt
import Derived.KernelRfl
section
/- The moves of a walk through a region that draws its order, typed out: an operation is taken first; the one that is left is carried out; what every world meets is made stronger behind it. -/
set_option linter.unusedVariables false
namespace Go.Proofs.Ytejlhdmfcmhlaaa.Reg
open Go.RowKit
section
variable {P : Program} {md : Region.Mode} {l : List Oper} {Q : Exit → Act → World → Prop} {S S' : World → Prop}
theorem begin_ {id : Nat} {a : Act} {w : World} (hm : P.follows .mixedOrders = true) (hS : S w.drew)
    (h : S w.drew → wpAnyH P .any l.toArray (NoPanic Q) S l.toArray.size (Array.replicate l.toArray.size false) a w.drew) : (Code.region id l.toArray true).wp P Q a w :=
  wp_region_noPanic (wp_region_held_drew hm hS h)
theorem take {i : Nat} {oi : Oper} {v : Value} {fuel : Nat} {listed : Array Bool} {a : Act} {w : World} (hi : l[i]? = some oi) (hs : Region.noSelect l.toArray = true) (hf : Region.free md l.toArray listed i = true)
    (hr : (Region.ready md l.toArray listed).contains i = true) (hw : Region.wanted oi (yielded l.toArray a.tmps) = true) (hv : ∀ w, S w → (execOp a.eval oi).run P w = .ok (.value v) w) (hS : S w)
    (h : wpAnyH P md l.toArray (NoPanic Q) S fuel (listed.setIfInBounds i true) (a.put oi.dst v) w) : wpAnyH P md l.toArray (NoPanic Q) S (fuel + 1) listed a w :=
  wpAnyH_take (by rw [List.getElem?_toArray]; exact hi) hs hf hr (fun _ _ _ h => h) (.inl ⟨hw, hv⟩) hS h
theorem call {i : Nat} {oi : Oper} {fuel : Nat} {listed : Array Bool} {a : Act} {w : World} (hi : l[i]? = some oi) (hr : Region.ready md l.toArray listed = [i]) (hw : Region.wanted oi (yielded l.toArray a.tmps) = true)
    (h : ∀ K : Act → World → Prop, Shut (∀ a w, S w → (S w → wpAnyH P md l.toArray Q S fuel (listed.setIfInBounds i true) a w) → K a w) → Oper.wp P oi a w K Q) : wpAnyH P md l.toArray Q S (fuel + 1) listed a w :=
  wpAnyH_ready hr (by simp) (AllReadyH.cons (o := oi) (by rw [List.getElem?_toArray]; exact hi) (fun K hK => by rw [if_pos hw]; exact h K hK) AllReadyH.nil)
/-- An operation whose guard says that it isn't wanted is left out. -/
theorem skip {i : Nat} {oi : Oper} {fuel : Nat} {listed : Array Bool} {a : Act} {w : World} (hi : l[i]? = some oi) (hs : Region.noSelect l.toArray = true) (hf : Region.free md l.toArray listed i = true)
    (hr : (Region.ready md l.toArray listed).contains i = true) (hw : Region.wanted oi (yielded l.toArray a.tmps) = false) (hS : S w)
    (h : wpAnyH P md l.toArray (NoPanic Q) S fuel (listed.setIfInBounds i true) (a.put oi.dst undef) w) : wpAnyH P md l.toArray (NoPanic Q) S (fuel + 1) listed a w :=
  wpAnyH_take (by rw [List.getElem?_toArray]; exact hi) hs hf hr (fun _ _ _ h => h) (.inr ⟨hw, rfl⟩) hS h
theorem done {listed : Array Bool} {a : Act} {w : World} (hr : Region.ready md l.toArray listed = []) (h : Q .normal a w) (fuel : Nat) : wpAnyH P md l.toArray (NoPanic Q) S fuel listed a w := wpAnyH_done (Q := NoPanic Q) hr (NoPanic.normal h) fuel
theorem mono (h : ∀ w, S' w → S w) : ∀ (fuel : Nat) (listed : Array Bool) (a : Act) (w : World), wpAnyH P md l.toArray Q S' fuel listed a w → wpAnyH P md l.toArray Q S fuel listed a w
  | 0, _, _, _, H => H
  | fuel + 1, listed, a, w, H => ⟨H.1, fun i hi => wpOp_mono (fun a' w' h3 => ⟨h _ h3.1, mono h fuel _ a' w' h3.2⟩) (H.2 i hi)⟩
theorem more {fuel : Nat} {listed : Array Bool} {a : Act} {w : World} (T : World → Prop) (hT : T w) (hS : S w) (H : T w ∧ S w → wpAnyH P md l.toArray Q (fun W => T W ∧ S W) fuel listed a w) : wpAnyH P md l.toArray Q S fuel listed a w :=
  mono (fun _ h => h.2) fuel listed a w (H ⟨hT, hS⟩)
end
end Go.Proofs.Ytejlhdmfcmhlaaa.Reg
end
section
/- Plain arithmetic beneath fixq: floors, ranges, words of two halves. Nothing here speaks of a program. -/
set_option linter.unusedSimpArgs false
set_option linter.unusedVariables false
namespace Go.Proofs.Ytejlhdmfcmhlaaa
open Go.RowKit

theorem ret_int {k : IntKind} {a b : Int} (h : a = b) : Ending.returned (.int k a) = .returned (.int k b) := by rw [h]
theorem ret_two {k l : IntKind} {a b c d : Int} (h : a = b) (h' : c = d) : Ending.returned (.tuple #[.int k a, .int l c]) = .returned (.tuple #[.int k b, .int l d]) := by rw [h, h']
theorem u64_wrap (n : Int) : IntKind.u64.wrap n = n % 18446744073709551616 := IntKind.wrap_u64 n

def clampZ (n lo hi : Int) : Int := if n < lo ∨ hi < lo then lo else if hi < n then hi else n
def nearZ (n : Int) : Int := clampZ n (-2147483648) 2147483647
theorem near_bd (n : Int) : -2147483648 ≤ nearZ n ∧ nearZ n ≤ 2147483647 := by
  unfold nearZ clampZ; split <;> (try split) <;> omega

theorem natAbs_tdiv' (n b : Int) : (n.tdiv b).natAbs = n.natAbs / b.natAbs := Int.natAbs_tdiv n b
theorem tdiv_le' (n b : Int) : (n.tdiv b).natAbs ≤ n.natAbs := by
  rw [natAbs_tdiv']; exact Nat.div_le_self _ _
theorem tdiv_in (n b : Int) (hn : -9223372036854775808 ≤ n ∧ n ≤ 9223372036854775807) (hb : b ≠ 0) (h : ¬ (n = -9223372036854775808 ∧ b = -1)) :
    -9223372036854775808 ≤ n.tdiv b ∧ n.tdiv b ≤ 9223372036854775807 := by
  have h1 := tdiv_le' n b
  have h2 : n.tdiv b ≠ 9223372036854775808 := by
    intro he
    have h3 : (n.tdiv b).natAbs = 9223372036854775808 := by rw [he]; rfl
    rw [natAbs_tdiv'] at h3
    have h4 : n.natAbs = 9223372036854775808 := by omega
    rw [h4] at h3
    have h5 : b.natAbs = 1 := by
      rcases Nat.lt_or_ge b.natAbs 2 with h6 | h6
      · omega
      · have := Nat.div_le_div_left (a := 9223372036854775808) h6 (by omega)
        rw [h3] at this
        exact absurd this (by decide)
    have h6 : n = -9223372036854775808 := by omega
    rcases (by omega : b = 1 ∨ b = -1) with h7 | h7
    · rw [h6, h7] at he
      revert he; decide
    · exact h ⟨h6, h7⟩
  omega

theorem fdiv_of (n b : Int) (hb : b ≠ 0) : n.fdiv b = if n.tmod b ≠ 0 ∧ (decide (n < 0) ≠ decide (b < 0)) then n.tdiv b - 1 else n.tdiv b := by
  rw [Int.fdiv_eq_tdiv]
  by_cases h0 : n.tmod b = 0
  · rw [if_pos (Int.dvd_iff_tmod_eq_zero.2 h0), if_neg (by simp [h0])]; omega
  · rw [if_neg (fun h => h0 (Int.dvd_iff_tmod_eq_zero.1 h))]
    rcases Int.lt_or_lt_of_ne hb with h2 | h2
    · have hs : b.sign = -1 := Int.sign_eq_neg_one_of_neg h2
      by_cases h1 : n < 0
      · rw [if_neg (by omega), if_neg (by omega), if_neg (by simp [h1, h2]), hs]; omega
      · rw [if_pos (by omega), if_neg (by omega), if_pos (by simp [h0, h1, h2])]
    · have hs : b.sign = 1 := Int.sign_eq_one_of_pos h2
      have h2' : ¬ b < 0 := by omega
      by_cases h1 : n < 0
      · rw [if_neg (by omega), if_pos (by omega), if_pos (by simp [h0, h1, h2']), hs]
      · rw [if_pos (by omega), if_pos (by omega), if_neg (by simp [h1, h2'])]; omega

theorem fdiv_in (n b : Int) (hn : -9223372036854775808 ≤ n ∧ n ≤ 9223372036854775807) (hb : b ≠ 0) (h : ¬ (n = -9223372036854775808 ∧ b = -1)) :
    -9223372036854775808 ≤ n.fdiv b ∧ n.fdiv b ≤ 9223372036854775807 := by
  have h1 := tdiv_in n b hn hb h
  rw [fdiv_of n b hb]
  split
  · rename_i hc
    have h2 : n.tdiv b ≠ -9223372036854775808 := by
      intro he
      have h3 : (n.tdiv b).natAbs = 9223372036854775808 := by rw [he]; rfl
      have h4 := tdiv_le' n b
      have h5 : n = -9223372036854775808 := by omega
      rw [natAbs_tdiv', h5] at h3
      have h6 : b.natAbs = 1 := by
        rcases Nat.lt_or_ge b.natAbs 2 with h6 | h6
        · omega
        · have := Nat.div_le_div_left (a := 9223372036854775808) h6 (by omega)
          have h7 : Int.natAbs (-9223372036854775808) = 9223372036854775808 := rfl
          rw [h7] at h3
          rw [h3] at this
          exact absurd this (by decide)
      apply hc.1
      rcases (by omega : b = 1 ∨ b = -1) with h7 | h7 <;> rw [h7] <;> simp [Int.tmod_one, Int.tmod_neg]
    omega
  · exact h1

theorem rest_pos (n b : Int) (hb : 0 < b) : 0 ≤ n - n.fdiv b * b ∧ n - n.fdiv b * b < b := by
  have h := Int.mul_fdiv_add_fmod n b
  have e : n.fdiv b * b = b * n.fdiv b := Int.mul_comm _ _
  have h1 := Int.fmod_nonneg_of_pos n hb
  have h2 := Int.fmod_lt_of_pos n hb
  omega
theorem rest_neg (n b : Int) (hb : b < 0) : n - n.fdiv b * b ≤ 0 ∧ b < n - n.fdiv b * b := by
  have h := Int.mul_fdiv_add_fmod n b
  have e : n.fdiv b * b = b * n.fdiv b := Int.mul_comm _ _
  have h0 := Int.neg_fmod_neg n b
  have h1 := Int.fmod_nonneg_of_pos (-n) (b := -b) (by omega)
  have h2 := Int.fmod_lt_of_pos (-n) (b := -b) (by omega)
  omega

theorem bcell {W w1 : World} (hb : Below W.heap.size W w1) : (∀ b o, b < W.heap.size → w1.cell? ⟨b, o, none⟩ = W.cell? ⟨b, o, none⟩) ∧ (∀ b o, b < W.heap.size → w1.frozen? ⟨b, o, none⟩ = W.frozen? ⟨b, o, none⟩) :=
  ⟨fun b o h => hb.cell (p := ⟨b, o, none⟩) h, fun b o h => hb.frozen (p := ⟨b, o, none⟩) h⟩
theorem chain {a b c : World} (h : Below a.heap.size a b) (k : Below b.heap.size b c) : Below a.heap.size a c := h.trans (k.mono h.size)
theorem below_drew0 {w : World} (n : Nat) : Below w.heap.size w (w.drewN n) := ⟨rfl, rfl, rfl, Nat.le_refl _, fun _ _ => rfl⟩

/-! ### Words of two halves -/
def hiW (V : Int) : Int := wrap64 (V / 18446744073709551616)
def loW (V : Int) : Int := V % 18446744073709551616
theorem hi_of_neg (n : Int) (hn : -9223372036854775808 ≤ n ∧ n ≤ 9223372036854775807) (h : n < 0) : -1 = hiW n := by unfold hiW wrap64; omega
theorem hi_of_pos (n : Int) (hn : -9223372036854775808 ≤ n ∧ n ≤ 9223372036854775807) (h : 0 ≤ n) : 0 = hiW n := by unfold hiW wrap64; omega
theorem hi_carry (A B : Int) (h : IntKind.u64.wrap (loW A + loW B) < loW A) : wrap64 (wrap64 (hiW A + hiW B) + 1) = hiW (A + B) := by
  rw [u64_wrap] at h; unfold loW at h; unfold hiW wrap64; omega
theorem hi_plain (A B : Int) (h : ¬ IntKind.u64.wrap (loW A + loW B) < loW A) : wrap64 (hiW A + hiW B) = hiW (A + B) := by
  rw [u64_wrap] at h; unfold loW at h; unfold hiW wrap64; omega
theorem lo_plus (A B : Int) : IntKind.u64.wrap (loW A + loW B) = loW (A + B) := by rw [u64_wrap]; unfold loW; omega
theorem lo_le (A : Int) : 0 ≤ loW A ∧ loW A ≤ 18446744073709551615 := by unfold loW; omega
theorem hi_minus (A : Int) : wrap64 (-1 - hiW A) = hiW (-1 - A) := by unfold hiW wrap64; omega
theorem lo_minus (A : Int) : 18446744073709551615 - loW A = loW (-1 - A) := by unfold loW; omega
def fits64 (V : Int) : Prop := -9223372036854775808 ≤ V ∧ V ≤ 9223372036854775807
instance (V : Int) : Decidable (fits64 V) := by unfold fits64; infer_instance
def wide (V : Int) : Prop := -170141183460469231731687303715884105728 ≤ V ∧ V ≤ 170141183460469231731687303715884105727
end Go.Proofs.Ytejlhdmfcmhlaaa
end
section
/- Filters over what came (the last value first): the nearest value within a bound, weights, the answers of many pushes. Nothing here speaks of a program. -/
set_option linter.unusedVariables false
namespace Go.Proofs.Ytejlhdmfcmhlaaa
open Go.RowKit
/-- The nearest number that is not farther from 0 than B. -/
def nearTo (B v : Int) : Int := if B < v then B else if v < -B then -B else v
theorem nearTo_bd (B v : Int) (hB : 0 ≤ B) : -B ≤ nearTo B v ∧ nearTo B v ≤ B := by unfold nearTo; split <;> (try split) <;> omega
theorem nearTo_zero (B : Int) (hB : 0 ≤ B) : nearTo B 0 = 0 := by unfold nearTo; rw [if_neg (by omega), if_neg (by omega)]
theorem nearTo_in (B v : Int) (h1 : -B ≤ v) (h2 : v ≤ B) : nearTo B v = v := by unfold nearTo; rw [if_neg (by omega), if_neg (by omega)]
theorem nearTo_clamp (B v : Int) (hB : 0 ≤ B) : clampZ v (-B) B = nearTo B v := by unfold nearTo clampZ; split <;> (try split) <;> (try split) <;> omega
theorem nearTo_mono (B u v : Int) (hB : 0 ≤ B) (h : u ≤ v) : nearTo B u ≤ nearTo B v := by unfold nearTo; split <;> split <;> (try split) <;> (try split) <;> omega
/-- What counts of what came k steps ago. -/
def cameT (B : Int) (h : List Int) (k : Nat) : Int := nearTo B (h.getD k 0)
theorem came_bd (B : Int) (h : List Int) (k : Nat) (hB : 0 ≤ B) : -B ≤ cameT B h k ∧ cameT B h k ≤ B := nearTo_bd B _ hB
theorem came_map (B : Int) (h : List Int) (k : Nat) (hB : 0 ≤ B) : (h.map (nearTo B)).getD k 0 = cameT B h k := by
  unfold cameT
  rw [List.getD_eq_getElem?_getD, List.getD_eq_getElem?_getD, List.getElem?_map]
  cases h[k]? with
  | none => simp [nearTo_zero B hB]
  | some v => rfl
theorem came_append (B : Int) (l h : List Int) (k : Nat) (hk : k < l.length) : cameT B (l ++ h) k = cameT B l k := by
  unfold cameT
  rw [List.getD_eq_getElem?_getD, List.getD_eq_getElem?_getD, List.getElem?_append_left hk]
theorem came_mem (B : Int) (h : List Int) (k : Nat) (v : Int) (hk : k < h.length) (hv : ∀ u ∈ h, u = v) : cameT B h k = nearTo B v := by
  unfold cameT
  rw [List.getD_eq_getElem?_getD, List.getElem?_eq_getElem hk]
  show nearTo B h[k] = _
  rw [hv _ (List.getElem_mem hk)]
/-- Weights from a place on, times what came. -/
def weighed (B : Int) (h : List Int) : Nat → List Int → Int
  | _, [] => 0
  | k, w :: ws => w * cameT B h k + weighed B h (k + 1) ws
theorem weighed_append (B : Int) (h : List Int) : ∀ (ws vs : List Int) (k : Nat), weighed B h k (ws ++ vs) = weighed B h k ws + weighed B h (k + ws.length) vs
  | [], vs, k => by simp [weighed]
  | w :: ws, vs, k => by
    simp only [List.cons_append, weighed, List.length_cons]
    rw [weighed_append B h ws vs (k + 1), show k + 1 + ws.length = k + (ws.length + 1) by omega]
    omega
theorem weighed_step (B : Int) (h ws : List Int) (j : Nat) (hj : j < ws.length) : weighed B h 0 (ws.take (j + 1)) = weighed B h 0 (ws.take j) + ws.getD j 0 * cameT B h j := by
  rw [List.take_succ_eq_append_getElem hj, weighed_append, List.length_take, Nat.min_eq_left (by omega), List.getD_eq_getElem?_getD, List.getElem?_eq_getElem hj]
  simp [weighed]
theorem mul_bd (w v M B : Int) (hw : -M ≤ w ∧ w ≤ M) (hv : -B ≤ v ∧ v ≤ B) : -(M * B) ≤ w * v ∧ w * v ≤ M * B := by
  have h1 : (w * v).natAbs ≤ M.toNat * B.toNat := by
    rw [Int.natAbs_mul]
    exact Nat.mul_le_mul (by omega) (by omega)
  have h2 : ((M.toNat * B.toNat : Nat) : Int) = M * B := by
    rw [Int.natCast_mul, Int.toNat_of_nonneg (by omega), Int.toNat_of_nonneg (by omega)]
  omega
theorem weighed_bd (B M : Int) (h : List Int) (hB : 0 ≤ B) (hM : 0 ≤ M) : ∀ (ws : List Int) (k : Nat), (∀ w ∈ ws, -M ≤ w ∧ w ≤ M) → -(ws.length * (M * B)) ≤ weighed B h k ws ∧ weighed B h k ws ≤ ws.length * (M * B)
  | [], k, _ => by simp [weighed]
  | w :: ws, k, hw => by
    have h1 := weighed_bd B M h hB hM ws (k + 1) (fun u hu => hw u (List.mem_cons_of_mem _ hu))
    have h2 := mul_bd w (cameT B h k) M B (hw w (List.mem_cons_self ..)) (came_bd B h k hB)
    simp only [weighed, List.length_cons]
    have h3 : ((ws.length + 1 : Nat) : Int) * (M * B) = ws.length * (M * B) + M * B := by rw [Int.natCast_add, Int.add_mul]; simp
    rw [h3]
    omega
/-- The answers of many pushes, one by one. -/
def outsT (F : List Int → Int) : List Int → List Int → List Int
  | _, [] => []
  | h, y :: ys => F (y :: h) :: outsT F (y :: h) ys
section
variable (F : List Int → Int)
theorem outs_len : ∀ (h ys : List Int), (outsT F h ys).length = ys.length
  | _, [] => rfl
  | h, y :: ys => by simp [outsT, outs_len (y :: h) ys]
theorem outs_append : ∀ (h xs ys : List Int), outsT F h (xs ++ ys) = outsT F h xs ++ outsT F (xs.reverse ++ h) ys
  | _, [], _ => rfl
  | h, x :: xs, ys => by simp [outsT, outs_append (x :: h) xs ys]
theorem outs_at : ∀ (h ys : List Int) (i : Nat), i < ys.length → (outsT F h ys).getD i 0 = F ((ys.take (i + 1)).reverse ++ h)
  | _, [], i, hi => absurd hi (by simp)
  | h, y :: ys, 0, _ => by simp [outsT]
  | h, y :: ys, i + 1, hi => by
    have := outs_at (y :: h) ys i (by simpa using hi)
    simpa [outsT] using this
theorem outs_step (h ys : List Int) (j : Nat) (hj : j < ys.length) : outsT F h (ys.take (j + 1)) = outsT F h (ys.take j) ++ [F (ys.getD j 0 :: ((ys.take j).reverse ++ h))] := by
  rw [List.take_succ_eq_append_getElem hj, outs_append, List.getD_eq_getElem?_getD, List.getElem?_eq_getElem hj]
  rfl
theorem came_step (h ys : List Int) (j : Nat) (hj : j < ys.length) : ys.getD j 0 :: ((ys.take j).reverse ++ h) = (ys.take (j + 1)).reverse ++ h := by
  rw [List.take_succ_eq_append_getElem hj, List.reverse_append, List.getD_eq_getElem?_getD, List.getElem?_eq_getElem hj]
  simp
end
end Go.Proofs.Ytejlhdmfcmhlaaa
end
section
/- What a notch answers of all that came; its weights; what follows of it (bounds, what is even). Nothing here speaks of a program. -/
set_option linter.unusedVariables false
namespace Go.Proofs.Ytejlhdmfcmhlaaa.Notch
open Go.RowKit
def sum50 (h : List Int) : Int := cameT 65535 h 0 + cameT 65535 h 1 + cameT 65535 h 2 + cameT 65535 h 3
def sum60 (h : List Int) : Int := 12516 * cameT 65535 h 0 + 7736 * cameT 65535 h 1 + 12516 * cameT 65535 h 2
/-- What a notch for these mains answers of all that came, the last value first. -/
def notchT (m : Nat) (h : List Int) : Int := if m = 50 then sum50 h / 4 else if m = 60 then sum60 h / 32768 else cameT 65535 h 0
/-- The mains that there are. -/
def Known (m : Nat) : Prop := m = 0 ∨ m = 50 ∨ m = 60
def weightsT (m : Nat) : List Int := if m = 50 then [1, 1, 1, 1] else if m = 60 then [12516, 7736, 12516] else [1]
def logT (m : Nat) : Nat := if m = 50 then 2 else if m = 60 then 15 else 0
theorem came4 (h : List Int) (k : Nat) : -65535 ≤ cameT 65535 h k ∧ cameT 65535 h k ≤ 65535 := came_bd 65535 h k (by omega)
theorem notch_weighed {m : Nat} (hm : Known m) (h : List Int) : weighed 65535 h 0 (weightsT m) / 2 ^ logT m = notchT m h := by
  rcases hm with rfl | rfl | rfl <;> simp [weightsT, logT, notchT, weighed, sum50, sum60]
  · congr 1; omega
  · congr 1; omega
theorem weights_few {m : Nat} (hm : Known m) : (weightsT m).length ≤ 4 ∧ 1 ≤ (weightsT m).length ∧ logT m ≤ 15 ∧ ∀ w ∈ weightsT m, -12516 ≤ w ∧ w ≤ 12516 := by
  rcases hm with rfl | rfl | rfl <;> simp [weightsT, logT]
theorem partial_bd {m : Nat} (hm : Known m) (h : List Int) (j : Nat) (hj : j < (weightsT m).length) :
    (-4000000000 ≤ weighed 65535 h 0 ((weightsT m).take j) ∧ weighed 65535 h 0 ((weightsT m).take j) ≤ 4000000000) ∧
    (-4000000000 ≤ (weightsT m).getD j 0 * cameT 65535 h j ∧ (weightsT m).getD j 0 * cameT 65535 h j ≤ 4000000000) := by
  obtain ⟨h4, _, _, hw⟩ := weights_few hm
  have h1 := weighed_bd 65535 12516 h (by omega) (by omega) ((weightsT m).take j) 0 (fun w hu => hw w (List.mem_of_mem_take hu))
  have hw2 : -12516 ≤ (weightsT m).getD j 0 ∧ (weightsT m).getD j 0 ≤ 12516 := by
    rw [List.getD_eq_getElem?_getD, List.getElem?_eq_getElem hj]
    exact hw _ (List.getElem_mem hj)
  have h2 := mul_bd _ _ 12516 65535 hw2 (came4 h j)
  rw [List.length_take, Nat.min_eq_left (by omega)] at h1
  refine ⟨?_, by omega⟩
  have h3 : (j : Int) ≤ 3 := by omega
  have h5 : (j : Int) * (12516 * 65535) ≤ 3 * (12516 * 65535) := Int.mul_le_mul_of_nonneg_right h3 (by omega)
  omega
theorem sum50_bd (h : List Int) : -262140 ≤ sum50 h ∧ sum50 h ≤ 262140 := by
  have h0 := came4 h 0; have h1 := came4 h 1; have h2 := came4 h 2; have h3 := came4 h 3
  unfold sum50; omega
theorem sum60_bd (h : List Int) : -2147450880 ≤ sum60 h ∧ sum60 h ≤ 2147450880 := by
  have h0 := came4 h 0; have h1 := came4 h 1; have h2 := came4 h 2
  unfold sum60; omega
theorem notch_bd (m : Nat) (h : List Int) : -65535 ≤ notchT m h ∧ notchT m h ≤ 65535 := by
  have h0 := came4 h 0; have h1 := sum50_bd h; have h2 := sum60_bd h
  unfold notchT
  split
  · omega
  · split <;> omega
/-- Four of one value: it is that value. -/
theorem notch_even (m : Nat) (l h : List Int) (v : Int) (hl : 4 ≤ l.length) (hv : ∀ u ∈ l, u = v) (h1 : -65535 ≤ v) (h2 : v ≤ 65535) : notchT m (l ++ h) = v := by
  have hc : ∀ k, k < 4 → cameT 65535 (l ++ h) k = v := fun k hk => by
    rw [came_append 65535 l h k (by omega), came_mem 65535 l k v (by omega) hv, nearTo_in 65535 v h1 h2]
  have c0 := hc 0 (by omega); have c1 := hc 1 (by omega); have c2 := hc 2 (by omega); have c3 := hc 3 (by omega)
  unfold notchT sum50 sum60
  rw [c0, c1, c2, c3]
  split
  · omega
  · split <;> omega
end Go.Proofs.Ytejlhdmfcmhlaaa.Notch
end
section
/- What a low filter answers of all that came; its weights; what follows of it (bounds, what is forgotten, step by step). Nothing here speaks of a program. -/
set_option linter.unusedVariables false
namespace Go.Proofs.Ytejlhdmfcmhlaaa.Low
open Go.RowKit
/-- The eleven weights. -/
def wsT : List Int := [1, 2, 3, 4, 5, 6, 5, 4, 3, 2, 1]
/-- The sum of all that came, the last value first, by its weights. -/
def sumT (h : List Int) : Int := weighed 65535 h 0 wsT
/-- What a low filter answers of all that came. -/
def lowT (h : List Int) : Int := sumT h / 32
theorem came_low (h : List Int) (k : Nat) : -65535 ≤ cameT 65535 h k ∧ cameT 65535 h k ≤ 65535 := came_bd 65535 h k (by omega)
theorem sum_is (h : List Int) : sumT h = cameT 65535 h 0 + 2 * cameT 65535 h 1 + 3 * cameT 65535 h 2 + 4 * cameT 65535 h 3 + 5 * cameT 65535 h 4 + 6 * cameT 65535 h 5 + 5 * cameT 65535 h 6 + 4 * cameT 65535 h 7 + 3 * cameT 65535 h 8 + 2 * cameT 65535 h 9 + cameT 65535 h 10 := by
  simp only [sumT, wsT, weighed, Nat.reduceAdd]; omega
theorem sum_bd (h : List Int) : -2359260 ≤ sumT h ∧ sumT h ≤ 2359260 := by
  have h0 := came_low h 0; have h1 := came_low h 1; have h2 := came_low h 2; have h3 := came_low h 3; have h4 := came_low h 4; have h5 := came_low h 5
  have h6 := came_low h 6; have h7 := came_low h 7; have h8 := came_low h 8; have h9 := came_low h 9; have h10 := came_low h 10
  rw [sum_is]; omega
theorem low_bd (h : List Int) : -73727 ≤ lowT h ∧ lowT h ≤ 73727 := by
  have := sum_bd h
  unfold lowT; omega
theorem ws_at (j : Nat) (hj : j < 11) : wsT.getD j 0 = if 10 < 2 * j then 11 - (j : Int) else (j : Int) + 1 := by
  rcases (by omega : j = 0 ∨ j = 1 ∨ j = 2 ∨ j = 3 ∨ j = 4 ∨ j = 5 ∨ j = 6 ∨ j = 7 ∨ j = 8 ∨ j = 9 ∨ j = 10) with rfl | rfl | rfl | rfl | rfl | rfl | rfl | rfl | rfl | rfl | rfl <;> rfl
theorem partial_bd (h : List Int) (j : Nat) (hj : j < 11) :
    (-4000000000 ≤ weighed 65535 h 0 (wsT.take j) ∧ weighed 65535 h 0 (wsT.take j) ≤ 4000000000) ∧
    (-4000000000 ≤ wsT.getD j 0 * cameT 65535 h j ∧ wsT.getD j 0 * cameT 65535 h j ≤ 4000000000) := by
  have hw : ∀ w ∈ wsT, -6 ≤ w ∧ w ≤ 6 := by simp [wsT]
  have h1 := weighed_bd 65535 6 h (by omega) (by omega) (wsT.take j) 0 (fun w hu => hw w (List.mem_of_mem_take hu))
  have hw2 : -6 ≤ wsT.getD j 0 ∧ wsT.getD j 0 ≤ 6 := by
    rw [ws_at j hj]; split <;> omega
  have h2 := mul_bd _ _ 6 65535 hw2 (came_low h j)
  rw [List.length_take, Nat.min_eq_left (by show j ≤ 11; omega)] at h1
  refine ⟨?_, by omega⟩
  have h3 : (j : Int) ≤ 10 := by omega
  have h5 : (j : Int) * (6 * 65535) ≤ 10 * (6 * 65535) := Int.mul_le_mul_of_nonneg_right h3 (by omega)
  omega
/-- What came eleven steps ago, and more, plays no part. -/
theorem low_forgets (l h k : List Int) (hl : 11 ≤ l.length) : lowT (l ++ h) = lowT (l ++ k) := by
  unfold lowT
  rw [sum_is, sum_is]
  simp only [came_append 65535 l _ _ (show 0 < l.length by omega), came_append 65535 l _ _ (show 1 < l.length by omega), came_append 65535 l _ _ (show 2 < l.length by omega), came_append 65535 l _ _ (show 3 < l.length by omega), came_append 65535 l _ _ (show 4 < l.length by omega), came_append 65535 l _ _ (show 5 < l.length by omega), came_append 65535 l _ _ (show 6 < l.length by omega), came_append 65535 l _ _ (show 7 < l.length by omega), came_append 65535 l _ _ (show 8 < l.length by omega), came_append 65535 l _ _ (show 9 < l.length by omega), came_append 65535 l _ _ (show 10 < l.length by omega)]
/-- Values that are 32 times something, and within the bound. -/
def Whole (h : List Int) : Prop := ∀ u ∈ h, u % 32 = 0 ∧ -65535 ≤ u ∧ u ≤ 65535
theorem whole_at {h : List Int} (H : Whole h) (k : Nat) : cameT 65535 h k = h.getD k 0 ∧ h.getD k 0 % 32 = 0 ∧ -65535 ≤ h.getD k 0 ∧ h.getD k 0 ≤ 65535 := by
  unfold cameT
  rw [List.getD_eq_getElem?_getD]
  by_cases hk : k < h.length
  · rw [List.getElem?_eq_getElem hk]
    obtain ⟨h1, h2, h3⟩ := H _ (List.getElem_mem hk)
    exact ⟨nearTo_in 65535 _ h2 h3, h1, h2, h3⟩
  · rw [List.getElem?_eq_none (by omega)]
    exact ⟨rfl, rfl, by decide, by decide⟩
theorem getD_tail (h : List Int) (k : Nat) : h.tail.getD k 0 = h.getD (k + 1) 0 := by
  cases h with
  | nil => rfl
  | cons v h => rfl
theorem whole_tail {h : List Int} (H : Whole h) : Whole h.tail := fun u hu => H u (List.mem_of_mem_tail hu)
/-- Step by step: twice the one ahead, less the one ahead of that, and x0, less 2 x6, and x12. -/
theorem low_steps (n : Int) (h : List Int) (H : Whole (n :: h)) :
    lowT (n :: h) = 2 * lowT h - lowT h.tail + (n - 2 * h.getD 5 0 + h.getD 11 0) / 32 ∧ (n - 2 * h.getD 5 0 + h.getD 11 0) % 32 = 0 := by
  have H1 : Whole h := whole_tail H
  have H2 : Whole h.tail := whole_tail H1
  have e := fun k => whole_at H k
  have e1 := fun k => whole_at H1 k
  have e2 := fun k => (whole_at H2 k).1
  simp only [getD_tail] at e2
  have ec : ∀ k, (n :: h).getD (k + 1) 0 = h.getD k 0 := fun k => rfl
  have c0 := e 0
  rw [show (n :: h).getD 0 0 = n from rfl] at c0
  have f := fun k => (e (k + 1)).1
  simp only [ec] at f
  unfold lowT
  rw [sum_is, sum_is, sum_is]
  rw [c0.1, f 0, f 1, f 2, f 3, f 4, f 5, f 6, f 7, f 8, f 9, (e1 0).1, (e1 1).1, (e1 2).1, (e1 3).1, (e1 4).1, (e1 5).1, (e1 6).1, (e1 7).1, (e1 8).1, (e1 9).1, (e1 10).1, e2 0, e2 1, e2 2, e2 3, e2 4, e2 5, e2 6, e2 7, e2 8, e2 9, e2 10]
  have m0 := (e1 0).2.1; have m1 := (e1 1).2.1; have m2 := (e1 2).2.1; have m3 := (e1 3).2.1; have m4 := (e1 4).2.1; have m5 := (e1 5).2.1
  have m6 := (e1 6).2.1; have m7 := (e1 7).2.1; have m8 := (e1 8).2.1; have m9 := (e1 9).2.1; have m10 := (e1 10).2.1; have m11 := (e1 11).2.1
  have mn := c0.2.1
  have q : ∀ x : Int, x % 32 = 0 → ∃ y, x = 32 * y := fun x hx => ⟨x / 32, by omega⟩
  obtain ⟨yn, hn⟩ := q _ mn
  obtain ⟨y0, h0⟩ := q _ m0; obtain ⟨y1, h1⟩ := q _ m1; obtain ⟨y2, h2⟩ := q _ m2; obtain ⟨y3, h3⟩ := q _ m3
  obtain ⟨y4, h4⟩ := q _ m4; obtain ⟨y5, h5⟩ := q _ m5; obtain ⟨y6, h6⟩ := q _ m6; obtain ⟨y7, h7⟩ := q _ m7
  obtain ⟨y8, h8⟩ := q _ m8; obtain ⟨y9, h9⟩ := q _ m9; obtain ⟨y10, h10⟩ := q _ m10; obtain ⟨y11, h11⟩ := q _ m11
  rw [hn, h0, h1, h2, h3, h4, h5, h6, h7, h8, h9, h10, h11]
  generalize yn = a at *
  clear m0 m1 m2 m3 m4 m5 m6 m7 m8 m9 m10 m11 mn h0 h1 h2 h3 h4 h5 h6 h7 h8 h9 h10 h11 hn q f ec e e1 e2 c0 H H1 H2
  constructor
  · rw [show 32 * a + 2 * (32 * y0) + 3 * (32 * y1) + 4 * (32 * y2) + 5 * (32 * y3) + 6 * (32 * y4) + 5 * (32 * y5) + 4 * (32 * y6) + 3 * (32 * y7) + 2 * (32 * y8) + 32 * y9 = 32 * (a + 2 * y0 + 3 * y1 + 4 * y2 + 5 * y3 + 6 * y4 + 5 * y5 + 4 * y6 + 3 * y7 + 2 * y8 + y9) by omega,
      show 32 * y0 + 2 * (32 * y1) + 3 * (32 * y2) + 4 * (32 * y3) + 5 * (32 * y4) + 6 * (32 * y5) + 5 * (32 * y6) + 4 * (32 * y7) + 3 * (32 * y8) + 2 * (32 * y9) + 32 * y10 = 32 * (y0 + 2 * y1 + 3 * y2 + 4 * y3 + 5 * y4 + 6 * y5 + 5 * y6 + 4 * y7 + 3 * y8 + 2 * y9 + y10) by omega,
      show 32 * y1 + 2 * (32 * y2) + 3 * (32 * y3) + 4 * (32 * y4) + 5 * (32 * y5) + 6 * (32 * y6) + 5 * (32 * y7) + 4 * (32 * y8) + 3 * (32 * y9) + 2 * (32 * y10) + 32 * y11 = 32 * (y1 + 2 * y2 + 3 * y3 + 4 * y4 + 5 * y5 + 6 * y6 + 5 * y7 + 4 * y8 + 3 * y9 + 2 * y10 + y11) by omega,
      show 32 * a - 2 * (32 * y5) + 32 * y11 = 32 * (a - 2 * y5 + y11) by omega,
      Int.mul_ediv_cancel_left _ (by decide), Int.mul_ediv_cancel_left _ (by decide), Int.mul_ediv_cancel_left _ (by decide), Int.mul_ediv_cancel_left _ (by decide)]
    omega
  · omega
end Go.Proofs.Ytejlhdmfcmhlaaa.Low
end
section
/- What came k steps ago, of a list that has the last value first; sums modulo 2^64. -/
namespace Go.Proofs.Ytejlhdmfcmhlaaa
open Go.RowKit
/-- What came k steps ago (the last value first), 0 of any other k. -/
def ago (h : List Int) (k : Int) : Int := if k < 0 then 0 else h.getD k.toNat 0
/-- .. of a line that looks back so far. -/
def agoTo (most : Nat) (h : List Int) (k : Int) : Int := if (most : Int) < k then 0 else ago h k
theorem ago_nat (h : List Int) (k : Nat) : ago h k = h.getD k 0 := by simp [ago, show ¬ (k : Int) < 0 by omega]
theorem ago_neg (h : List Int) (k : Int) (hk : k < 0) : ago h k = 0 := by simp [ago, hk]
theorem ago_far (h : List Int) (k : Int) (hk : (h.length : Int) ≤ k) : ago h k = 0 := by
  unfold ago
  split
  · rfl
  · rw [List.getD_eq_getElem?_getD, List.getElem?_eq_none (by omega)]; rfl
theorem agoTo_in (most : Nat) (h : List Int) (k : Nat) (hk : k ≤ most) : agoTo most h k = h.getD k 0 := by
  unfold agoTo
  rw [if_neg (by omega), ago_nat]
/-- A line's things behind one more. -/
theorem kept_push (most : Nat) (h : List Int) (v : Int) :
    ((v :: h).take (most + 1)).reverse = (if most < (h.take (most + 1)).reverse.length then (h.take (most + 1)).reverse.drop 1 else (h.take (most + 1)).reverse) ++ [v] := by
  rw [List.take_succ_cons, List.reverse_cons]
  congr 1
  rw [List.length_reverse, List.length_take]
  split
  · rename_i hl
    have hl2 : most < h.length := by omega
    rw [List.take_succ_eq_append_getElem hl2, List.reverse_append]
    simp
  · rename_i hl
    rw [List.take_of_length_le (by omega), List.take_of_length_le (by omega)]
theorem kept_len (most : Nat) (h : List Int) : (h.take (most + 1)).reverse.length ≤ most + 1 := by
  rw [List.length_reverse, List.length_take]; omega
/-- What a line's ring has at a place from behind. -/
theorem kept_back (most : Nat) (h : List Int) (k : Nat) (hk : k < (h.take (most + 1)).reverse.length) :
    (h.take (most + 1)).reverse.getD ((h.take (most + 1)).reverse.length - 1 - k) 0 = agoTo most h k := by
  rw [List.length_reverse] at hk ⊢
  have hk2 := hk
  rw [List.length_take] at hk2
  rw [agoTo_in most h k (by omega), List.getD_eq_getElem?_getD, List.getElem?_reverse (by omega), show (h.take (most + 1)).length - 1 - ((h.take (most + 1)).length - 1 - k) = k by omega, List.getElem?_take_of_lt (by omega),
    List.getD_eq_getElem?_getD]
theorem kept_far (most : Nat) (h : List Int) (k : Int) (hk : k < 0 ∨ ((h.take (most + 1)).reverse.length : Int) ≤ k) : agoTo most h k = 0 := by
  rw [List.length_reverse, List.length_take] at hk
  unfold agoTo
  split
  · rfl
  · rcases hk with hk | hk
    · exact ago_neg h k hk
    · exact ago_far h k (by omega)
/-- The sum of the last values of a window that looks back so far. -/
def winSum (most : Nat) (h : List Int) : Int := (h.take (most + 1)).sum
theorem winSum_push (most : Nat) (h : List Int) (v : Int) : winSum most (v :: h) = winSum most h + v - h.getD most 0 := by
  unfold winSum
  rw [List.take_succ_cons, List.sum_cons]
  rcases Nat.lt_or_ge most h.length with hl | hl
  · rw [List.take_succ_eq_append_getElem hl, List.sum_append, List.getD_eq_getElem?_getD, List.getElem?_eq_getElem hl]
    simp
    omega
  · rw [List.take_of_length_le hl, List.take_of_length_le (by omega), List.getD_eq_getElem?_getD, List.getElem?_eq_none hl]
    simp
    omega
theorem winSum_nil (most : Nat) : winSum most [] = 0 := by simp [winSum]
theorem wrap64_idem (a : Int) : wrap64 (wrap64 a) = wrap64 a := by unfold wrap64; omega
theorem wrap64_add (a b : Int) : wrap64 (wrap64 a + b) = wrap64 (a + b) := by unfold wrap64; omega
theorem wrap64_sum (S v a : Int) : wrap64 (wrap64 S + wrap64 (v - a)) = wrap64 (S + v - a) := by unfold wrap64; omega
end Go.Proofs.Ytejlhdmfcmhlaaa
end
section
/- What a slope filter answers of all that came; what follows of it (bounds, lines); squares and the steepest. Nothing here speaks of a program. -/
set_option linter.unusedVariables false
namespace Go.Proofs.Ytejlhdmfcmhlaaa.Slope
open Go.RowKit
/-- What came last against what came as far behind the middle. -/
def sumT (h : List Int) : Int := 2 * cameT 142847 h 0 + cameT 142847 h 1 - cameT 142847 h 3 - 2 * cameT 142847 h 4
/-- What a slope filter answers of all that came. -/
def slopeT (h : List Int) : Int := sumT h / 8
theorem came_slope (h : List Int) (k : Nat) : -142847 ≤ cameT 142847 h k ∧ cameT 142847 h k ≤ 142847 := came_bd 142847 h k (by omega)
theorem sum_bd (h : List Int) : -857082 ≤ sumT h ∧ sumT h ≤ 857082 := by
  have h0 := came_slope h 0; have h1 := came_slope h 1; have h3 := came_slope h 3; have h4 := came_slope h 4
  unfold sumT; omega
theorem slope_bd (h : List Int) : -107136 ≤ slopeT h ∧ slopeT h ≤ 107136 := by
  have := sum_bd h
  unfold slopeT; omega
/-- The first so many values of a line, the last one first. -/
def lineT (f k : Int) : Nat → List Int
  | 0 => []
  | i + 1 => (f + 4 * k * (i : Int)) :: lineT f k i
theorem line_at (f k : Int) (h : List Int) : ∀ (i j : Nat), j < i → (lineT f k i ++ h).getD j 0 = f + 4 * k * ((i : Int) - 1 - j)
  | 0, j, hj => absurd hj (by omega)
  | i + 1, 0, _ => by
    show f + 4 * k * (i : Int) = _
    rw [show ((i + 1 : Nat) : Int) - 1 - (0 : Nat) = (i : Int) by omega]
  | i + 1, j + 1, hj => by
    have h1 := line_at f k h i j (by omega)
    show (lineT f k i ++ h).getD j 0 = _
    rw [h1, show ((i + 1 : Nat) : Int) - 1 - (j + 1 : Nat) = (i : Int) - 1 - j by omega]
/-- Of values that rise by four times k in each step it is five times k, from the fifth one on. -/
theorem slope_line (f k : Int) (h : List Int) (i : Nat) (hi : 4 ≤ (i : Int)) (hi2 : i < 20) (hf : -32768 ≤ f ∧ f ≤ 32767) (hk : -999 ≤ k ∧ k ≤ 999) : slopeT (lineT f k (i + 1) ++ h) = 5 * k := by
  have hc : ∀ j : Nat, j ≤ 4 → cameT 142847 (lineT f k (i + 1) ++ h) j = f + 4 * k * ((i : Int) - j) := fun j hj => by
    have h1 := line_at f k h (i + 1) j (by omega)
    rw [show ((i + 1 : Nat) : Int) - 1 - j = (i : Int) - j by omega] at h1
    have h2 := mul_bd (4 * k) ((i : Int) - j) 3996 19 (by omega) (by omega)
    unfold cameT
    rw [h1]
    exact nearTo_in _ _ (by omega) (by omega)
  unfold slopeT sumT
  rw [hc 0 (by omega), hc 1 (by omega), hc 3 (by omega), hc 4 (by omega)]
  simp only [Int.mul_sub]
  generalize 4 * k * (i : Int) = q
  omega
theorem rise_bd (f k : Int) (i : Nat) (hi : i < 20) (hf : -32768 ≤ f ∧ f ≤ 32767) (hk : -999 ≤ k ∧ k ≤ 999) : -75924 ≤ 4 * k * (i : Int) ∧ 4 * k * (i : Int) ≤ 75924 := by
  have h2 := mul_bd (4 * k) (i : Int) 3996 19 (by omega) (by omega)
  omega
/-- The square of a number, at most the clamp. -/
def squareT (d : Int) : Int := if 8191 < d ∨ d < -8191 then 67108864 else d * d
theorem square_bd (d : Int) : 0 ≤ squareT d ∧ squareT d ≤ 67108864 := by
  unfold squareT
  split
  · omega
  · have h1 := mul_bd d d 8191 8191 (by omega) (by omega)
    have h2 : 0 ≤ d * d := by
      have := Int.natAbs_mul_self (a := d)
      omega
    omega
/-- The lesser of the true square and the clamp. -/
theorem square_min (d : Int) : (if 67108864 < d * d then 67108864 else d * d) = squareT d := by
  have h0 : d * d = ((d.natAbs * d.natAbs : Nat) : Int) := (Int.natAbs_mul_self (a := d)).symm
  unfold squareT
  by_cases hd : 8191 < d ∨ d < -8191
  · have h1 : 8192 * 8192 ≤ d.natAbs * d.natAbs := Nat.mul_le_mul (by omega) (by omega)
    rw [if_pos hd]
    split <;> omega
  · have h1 : d.natAbs * d.natAbs ≤ 8191 * 8191 := Nat.mul_le_mul (by omega) (by omega)
    rw [if_neg hd, if_neg (by omega)]
theorem square_over (d : Int) (h : ¬ fits64 (d * d)) : squareT d = 67108864 := by
  unfold squareT
  by_cases hd : 8191 < d ∨ d < -8191
  · rw [if_pos hd]
  · have h1 := mul_bd d d 8191 8191 (by omega) (by omega)
    unfold fits64 at h
    omega
/-- How far a number of 64 bits is from 0; that of -2^63 is one less. -/
def distT (d : Int) : Int := if d = -9223372036854775808 then 9223372036854775807 else if d < 0 then -d else d
/-- The greatest distance of all; of none 0. -/
def steepT : List Int → Int
  | [] => 0
  | d :: l => if steepT l < distT d then distT d else steepT l
theorem steep_bd (l : List Int) (h : ∀ d ∈ l, fits64 d) : 0 ≤ steepT l ∧ steepT l ≤ 9223372036854775807 := by
  induction l with
  | nil => decide
  | cons d l ih =>
    have h1 := ih (fun u hu => h u (List.mem_cons_of_mem _ hu))
    have h2 := h d (List.mem_cons_self ..)
    unfold fits64 at h2
    unfold steepT distT
    split <;> (try split) <;> (try split) <;> omega
theorem steep_snoc (d : Int) : ∀ l : List Int, steepT (l ++ [d]) = if steepT l < distT d then distT d else steepT l
  | [] => by simp [steepT]
  | u :: l => by
    have := steep_snoc d l
    simp only [List.cons_append, steepT, this]
    repeat' split
    all_goals omega
theorem steep_step (l : List Int) (j : Nat) (hj : j < l.length) : steepT (l.take (j + 1)) = if steepT (l.take j) < distT (l.getD j 0) then distT (l.getD j 0) else steepT (l.take j) := by
  rw [List.take_succ_eq_append_getElem hj, steep_snoc, List.getD_eq_getElem?_getD, List.getElem?_eq_getElem hj]
  rfl
end Go.Proofs.Ytejlhdmfcmhlaaa.Slope
end
section
/- A block of memory that is known whole, and stays so. -/
set_option linter.unusedVariables false
namespace Go.Proofs.Ytejlhdmfcmhlaaa
open Go.RowKit

/-- Block b of the world is just these cells, of this element type, none of them frozen. -/
def Has (w : World) (b : Nat) (t : TypeId) (cs : Array Value) : Prop := w.heap[b]? = some (.cells cs t (0, 0))
section
variable {w w' : World} {b : Nat} {t : TypeId} {cs : Array Value}
theorem Has.lt (h : Has w b t cs) : b < w.heap.size := by
  rcases Nat.lt_or_ge b w.heap.size with hl | hg
  · exact hl
  · unfold Has at h; rw [Array.getElem?_eq_none hg] at h; cases h
theorem Has.cell (h : Has w b t cs) (i : Nat) : w.cell? ⟨b, i, none⟩ = cs[i]? := cell_of_row w b i cs t (0, 0) h
theorem Has.frozen (h : Has w b t cs) (i : Nat) : w.frozen? ⟨b, i, none⟩ = false := by
  unfold Has at h; simp [World.frozen?, h]
theorem Has.new (w : World) (t : TypeId) (cs : Array Value) : Has (w.alloc (.cells cs t)) w.heap.size t cs := heap_alloc_new w _
theorem Has.drew (h : Has w b t cs) : Has w.drew b t cs := h
theorem Has.drewN (h : Has w b t cs) (n : Nat) : Has (w.drewN n) b t cs := h
theorem Has.alloc (h : Has w b t cs) (o : Obj) : Has (w.alloc o) b t cs := (Below.heap_alloc w o b h.lt).trans h
theorem Has.set_ (h : Has w b t cs) (i : Nat) (u : Value) : Has (w.setCell ⟨b, i, none⟩ u) b t (cs.setIfInBounds i u) := by
  unfold Has at h ⊢
  simp [World.setCell, Array.getElem?_modify, h]
theorem Has.far (h : Has w b t cs) {p : Addr} (hp : b ≠ p.block) (u : Value) : Has (w.setCell p u) b t cs := (Below.heap_setCell w p u b hp).trans h
theorem Has.below {B : Nat} (h : Has w b t cs) (hb : Below B w w') (hg : b < B) : Has w' b t cs := (hb.block b hg).trans h
theorem Has.two {u v : Value} (h : Has w b t #[u, v]) : w.cell? ⟨b, 0, none⟩ = some u ∧ w.cell? ⟨b, 1, none⟩ = some v ∧ w.frozen? ⟨b, 0, none⟩ = false ∧ w.frozen? ⟨b, 1, none⟩ = false :=
  ⟨h.cell 0, h.cell 1, h.frozen 0, h.frozen 1⟩
theorem Has.put2 {u v : Value} (h : Has w b t #[u, v]) (x y : Value) : Has ((w.setCell ⟨b, 0, none⟩ x).setCell ⟨b, 1, none⟩ y) b t #[x, y] := by
  have := (h.set_ 0 x).set_ 1 y
  simpa using this
theorem Has.far2 (h : Has w b t cs) {c : Nat} (hp : b ≠ c) (x y : Value) : Has ((w.setCell ⟨c, 0, none⟩ x).setCell ⟨c, 1, none⟩ y) b t cs :=
  (h.far (p := ⟨c, 0, none⟩) hp x).far (p := ⟨c, 1, none⟩) hp y
theorem below_put2 {B : Nat} (h : Below B w w') {c : Nat} (hc : B ≤ c) (x y : Value) : Below B w ((w'.setCell ⟨c, 0, none⟩ x).setCell ⟨c, 1, none⟩ y) :=
  (h.setCell (p := ⟨c, 0, none⟩) hc x).setCell (p := ⟨c, 1, none⟩) hc y
end
end Go.Proofs.Ytejlhdmfcmhlaaa
end
section
/- What a law's walk is told of a slice of whole numbers that came in; that laws end. -/
set_option linter.unusedVariables false
namespace Go.Proofs.Ytejlhdmfcmhlaaa
open Go.RowKit

/-- A slice of whole numbers that came in: nil, or a row of 'cap' cells, the numbers 'zs', of which the first 'len' are its elements. -/
def IsRow (k : IntKind) (w : World) (a : Option Addr) (len cap : Nat) (zs : List Int) : Prop :=
  (a = none ∧ len = 0 ∧ cap = 0 ∧ zs = []) ∨
  ∃ x, a = some x ∧ len ≤ cap ∧ cap ≤ maxLen ∧ zs.length = cap ∧ (∀ i, i < zs.length → w.cell? (x.add i) = some (.int k (zs.getD i 0))) ∧ ∀ n ∈ zs, (Lit.int k n).wf = true
theorem isRow_some {k : IntKind} {w : World} {x : Addr} {len cap : Nat} {zs : List Int} (hl : len ≤ cap) (hm : cap ≤ maxLen) (hz : zs.length = cap)
    (hc : ∀ i, i < zs.length → w.cell? (x.add i) = some (.int k (zs.getD i 0))) (hw : ∀ n ∈ zs, (Lit.int k n).wf = true) : IsRow k w (some x) len cap zs :=
  .inr ⟨x, rfl, hl, hm, hz, hc, hw⟩

/-- A slice of strings that came in: nil, or a row of 'cap' cells, the strings 'ss'. -/
def IsTexts (w : World) (a : Option Addr) (len cap : Nat) (ss : List ByteArray) : Prop :=
  (a = none ∧ len = 0 ∧ cap = 0 ∧ ss = []) ∨ ∃ x, a = some x ∧ len ≤ cap ∧ cap ≤ maxLen ∧ ss.length = cap ∧ ∀ i, i < ss.length → w.cell? (x.add i) = some (.string (ss.getD i ByteArray.empty))
/-- A slice of slices of whole numbers that came in. -/
def IsRows (k : IntKind) (w : World) (a : Option Addr) (len cap : Nat) : Prop :=
  (a = none ∧ len = 0 ∧ cap = 0) ∨ ∃ x, a = some x ∧ len ≤ cap ∧ cap ≤ maxLen ∧ ∀ r, r < cap → ∃ A L C Z, w.cell? (x.add r) = some (.slice A L C) ∧ IsRow k w A L C Z
theorem isRows_some {k : IntKind} {w : World} {x : Addr} {len cap : Nat} {A : Nat → Option Addr} {L C : Nat → Nat} {Z : Nat → List Int} (hl : len ≤ cap) (hm : cap ≤ maxLen)
    (h : ∀ r, r < cap → w.cell? (x.add r) = some (.slice (A r) (L r) (C r)) ∧ L r ≤ C r ∧ C r ≤ maxLen ∧ (Z r).length = C r ∧ (∀ n ∈ Z r, (Lit.int k n).wf = true) ∧ (A r = none → C r = 0) ∧
        ∀ a', A r = some a' → 0 ≤ a'.block ∧ ∀ c, c < C r → w.cell? (a'.add c) = some (.int k ((Z r).getD c 0))) : IsRows k w (some x) len cap := by
  refine .inr ⟨x, rfl, hl, hm, fun r hr => ?_⟩
  obtain ⟨h1, h2, h3, h4, h5, h6, h7⟩ := h r hr
  refine ⟨_, _, _, Z r, h1, ?_⟩
  cases hA : A r with
  | none =>
    have := h6 hA
    exact .inl ⟨rfl, by omega, by omega, List.eq_nil_of_length_eq_zero (by omega)⟩
  | some y => exact isRow_some h2 h3 h4 (fun i hi => (h7 y hA).2 i (by omega)) h5
end Go.Proofs.Ytejlhdmfcmhlaaa
end
section
/- Plain numbers: a mask is the rest of a division by a power of two; lists that go round. -/
namespace Go.Proofs.Ytejlhdmfcmhlaaa
theorem ofInt_i64 (a : Nat) (ha : a < 9223372036854775808) : (BitVec.ofInt 64 (a : Int)).toNat = a := by
  rw [BitVec.ofInt_natCast, BitVec.toNat_ofNat]; exact Nat.mod_eq_of_lt (by omega)
theorem i64_and_nat (a b : Nat) (ha : a < 9223372036854775808) (hb : b < 9223372036854775808) : bits .and .i64 (a : Int) (b : Int) = ((a &&& b : Nat) : Int) := by
  have hx : a &&& b < 2 ^ 63 := Nat.and_lt_two_pow _ (by omega)
  show IntKind.i64.wrap ((BitVec.ofInt 64 (a : Int) &&& BitVec.ofInt 64 (b : Int)).toNat : Int) = _
  rw [BitVec.toNat_and, ofInt_i64 a ha, ofInt_i64 b hb, IntKind.wrap_i64]
  omega
theorem mask_int (a k n : Nat) (ha : a < 9223372036854775808) (hn : n = 2 ^ k) (hl : n ≤ 65536) : bits .and .i64 (a : Int) ((n : Int) - 1) = ((a % n : Nat) : Int) := by
  have h1 : 1 ≤ n := by subst hn; exact Nat.one_le_two_pow
  rw [show ((n : Int) - 1) = ((n - 1 : Nat) : Int) by omega, i64_and_nat a (n - 1) ha (by omega), hn, Nat.and_two_pow_sub_one_eq_mod]
theorem rot_ne {f n i k : Nat} (hi : i < n) (hk : k < n) (h : i ≠ k) : (f + i) % n ≠ (f + k) % n := by
  intro he
  rcases Nat.lt_or_ge i k with hl | hl
  · have h1 := Nat.sub_mod_eq_zero_of_mod_eq he.symm
    rw [show f + k - (f + i) = k - i by omega, Nat.mod_eq_of_lt (by omega)] at h1
    omega
  · have h1 := Nat.sub_mod_eq_zero_of_mod_eq he
    rw [show f + i - (f + k) = i - k by omega, Nat.mod_eq_of_lt (by omega)] at h1
    omega
theorem rot_add (f m i n : Nat) : ((f + m) % n + i) % n = (f + (m + i)) % n := by
  rw [Nat.mod_add_mod, Nat.add_assoc]
theorem getD_set {α : Type} (l : List α) (i j : Nat) (v d : α) (hj : j < l.length) : (l.set j v).getD i d = if j = i then v else l.getD i d := by
  rw [List.getD_eq_getElem?_getD, List.getD_eq_getElem?_getD, List.getElem?_set]
  by_cases h : j = i
  · subst h; simp [hj]
  · simp [h]
theorem getD_drop {α : Type} (l : List α) (m i : Nat) (d : α) : (l.drop m).getD i d = l.getD (m + i) d := by
  rw [List.getD_eq_getElem?_getD, List.getD_eq_getElem?_getD, List.getElem?_drop]
theorem getD_left {α : Type} (l r : List α) (i : Nat) (d : α) (h : i < l.length) : (l ++ r).getD i d = l.getD i d := by
  rw [List.getD_eq_getElem?_getD, List.getD_eq_getElem?_getD, List.getElem?_append_left h]
theorem getD_right {α : Type} (l r : List α) (i : Nat) (d : α) : (l ++ r).getD (l.length + i) d = r.getD i d := by
  rw [List.getD_eq_getElem?_getD, List.getD_eq_getElem?_getD, List.getElem?_append_right (by omega)]
  simp
theorem getD_take {α : Type} (l r : List α) (m i : Nat) (d : α) (h : i < l.length + m) : (l ++ r).getD i d = (l ++ r.take m).getD i d := by
  rcases Nat.lt_or_ge i l.length with h1 | h1
  · rw [getD_left _ _ _ _ h1, getD_left _ _ _ _ h1]
  · obtain ⟨j, rfl⟩ : ∃ j, i = l.length + j := ⟨i - l.length, by omega⟩
    rw [getD_right, getD_right, List.getD_eq_getElem?_getD, List.getD_eq_getElem?_getD, List.getElem?_take_of_lt (by omega)]
theorem fill_step {α : Type} (xs : List α) (d : α) (m k : Nat) (hk : k < m) (hm : m ≤ xs.length) :
    (xs.take k ++ List.replicate (m - k) d).set k (xs.getD k d) = xs.take (k + 1) ++ List.replicate (m - (k + 1)) d := by
  have hl : (xs.take k).length = k := by rw [List.length_take]; omega
  rw [List.set_append_right _ _ (by omega), hl, Nat.sub_self, show m - k = (m - (k + 1)) + 1 by omega, List.replicate_succ, List.set_cons_zero,
    List.take_succ_eq_append_getElem (by omega), List.append_assoc, List.getD_eq_getElem?_getD, List.getElem?_eq_getElem (by omega)]
  simp
theorem fill_at {α : Type} (xs : List α) (d : α) (m k : Nat) (hk : k < m) (hm : m ≤ xs.length) : (xs.take k ++ List.replicate (m - k) d)[k]? = some d := by
  have hl : (xs.take k).length = k := by rw [List.length_take]; omega
  rw [List.getElem?_append_right (by omega), hl, Nat.sub_self, show m - k = (m - (k + 1)) + 1 by omega, List.replicate_succ]
  rfl
end Go.Proofs.Ytejlhdmfcmhlaaa
end
section
/- Two blocks may have turned, and all else that was there is as it was. -/
set_option linter.unusedVariables false
namespace Go.Proofs.Ytejlhdmfcmhlaaa
open Go.RowKit
theorem block_add (a : Addr) (n : Nat) : (a.add n).block = a.block := by unfold Addr.add; split <;> rfl
/-- Of what was there, only blocks b and g may have turned. -/
structure Turned (b g : Nat) (w w' : World) : Prop where
  os : w'.os = w.os
  tape : w'.tape = w.tape
  output : w'.output = w.output
  size : w.heap.size ≤ w'.heap.size
  block : ∀ k, k < w.heap.size → k ≠ b → k ≠ g → w'.heap[k]? = w.heap[k]?
section
variable {b g : Nat} {w w' a c : World}
theorem Turned.refl (b g : Nat) (w : World) : Turned b g w w := ⟨rfl, rfl, rfl, Nat.le_refl _, fun _ _ _ _ => rfl⟩
theorem Turned.trans (h : Turned b g a w) (k : Turned b g w c) : Turned b g a c :=
  ⟨k.os.trans h.os, k.tape.trans h.tape, k.output.trans h.output, Nat.le_trans h.size k.size, fun i hi h1 h2 => (k.block i (Nat.lt_of_lt_of_le hi h.size) h1 h2).trans (h.block i hi h1 h2)⟩
theorem Turned.drew (h : Turned b g a w) : Turned b g a w.drew := ⟨h.os, h.tape, h.output, h.size, h.block⟩
theorem Turned.drewN (h : Turned b g a w) (n : Nat) : Turned b g a (w.drewN n) := ⟨h.os, h.tape, h.output, h.size, h.block⟩
theorem Turned.like (h : Turned b g a w) (h1 : w'.os = w.os) (h2 : w'.tape = w.tape) (h3 : w'.output = w.output) (h4 : w'.heap = w.heap) : Turned b g a w' :=
  ⟨h1.trans h.os, h2.trans h.tape, h3.trans h.output, by rw [h4]; exact h.size, fun k hk e1 e2 => by rw [h4]; exact h.block k hk e1 e2⟩
theorem Turned.alloc (h : Turned b g a w) (o : Obj) : Turned b g a (w.alloc o) :=
  h.trans ⟨rfl, rfl, rfl, by simp, fun k hk _ _ => Below.heap_alloc _ _ _ hk⟩
theorem Turned.setCell (h : Turned b g a w) {p : Addr} (hp : p.block = b ∨ p.block = g ∨ a.heap.size ≤ p.block) (u : Value) : Turned b g a (w.setCell p u) :=
  ⟨h.os, h.tape, h.output, by simpa [World.setCell] using h.size, fun k hk h1 h2 => (Below.heap_setCell w p u k (by
    rcases hp with hp | hp | hp <;> omega)).trans (h.block k hk h1 h2)⟩
theorem Turned.of_below (h : Below a.heap.size a w) : Turned b g a w := ⟨h.os, h.tape, h.output, h.size, fun k hk _ _ => h.block k hk⟩
theorem Turned.below {B : Nat} (h : Turned b g a w) (hB : B ≤ a.heap.size) (h1 : B ≤ b) (h2 : B ≤ g) : Below B a w :=
  ⟨h.os, h.tape, h.output, h.size, fun k hk => h.block k (by omega) (by omega) (by omega)⟩
theorem Turned.cell (h : Turned b g a w) {p : Addr} (hl : p.block < a.heap.size) (h1 : p.block ≠ b) (h2 : p.block ≠ g) : w.cell? p = a.cell? p := World.cell?_of_block (w := a) (h.block p.block hl h1 h2)
theorem Turned.frozen (h : Turned b g a w) {p : Addr} (hl : p.block < a.heap.size) (h1 : p.block ≠ b) (h2 : p.block ≠ g) : w.frozen? p = a.frozen? p := World.frozen?_of_block (w := a) (h.block p.block hl h1 h2)
theorem Turned.has (h : Turned b g a w) {i : Nat} {t : TypeId} {cs : Array Value} (hh : Has a i t cs) (h1 : i ≠ b) (h2 : i ≠ g) : Has w i t cs := (h.block i hh.lt h1 h2).trans hh
theorem Turned.grown {row : Option Nat} (h : Turned b g a w) (hg : w.grownBy w' row) (hr : ∀ k, row = some k → k = b ∨ k = g ∨ a.heap.size ≤ k) : Turned b g a w' :=
  ⟨hg.os.trans h.os, hg.tape.trans h.tape, hg.output.trans h.output, Nat.le_trans h.size hg.size, fun k hk h1 h2 => (hg.block k (Nat.lt_of_lt_of_le hk h.size) (fun e => by have := hr k e.symm; omega)).trans (h.block k hk h1 h2)⟩
theorem below_drewN {B : Nat} (h : Below B a w) (n : Nat) : Below B a (w.drewN n) := ⟨h.os, h.tape, h.output, h.size, h.block⟩
theorem below_turned {B : Nat} (h : Below B a w) (k : Turned b g w c) (hB : B ≤ w.heap.size) (h1 : B ≤ b) (h2 : B ≤ g) : Below B a c := h.trans (k.below hB h1 h2)
end
end Go.Proofs.Ytejlhdmfcmhlaaa
end
section
/- Some blocks may have turned, and all else that was there is as it was; rows of a call's own over such turns. -/
set_option linter.unusedVariables false
namespace Go.Proofs.Ytejlhdmfcmhlaaa
open Go.RowKit
/-- Of what was there, only the blocks of S may have turned. -/
structure Kept (S : List Nat) (w w' : World) : Prop where
  os : w'.os = w.os
  tape : w'.tape = w.tape
  output : w'.output = w.output
  size : w.heap.size ≤ w'.heap.size
  block : ∀ k, k < w.heap.size → k ∉ S → w'.heap[k]? = w.heap[k]?
section
variable {S T : List Nat} {w w' a c : World}
theorem Kept.refl (S : List Nat) (w : World) : Kept S w w := ⟨rfl, rfl, rfl, Nat.le_refl _, fun _ _ _ => rfl⟩
theorem Kept.trans (h : Kept S a w) (k : Kept S w c) : Kept S a c :=
  ⟨k.os.trans h.os, k.tape.trans h.tape, k.output.trans h.output, Nat.le_trans h.size k.size, fun i hi h1 => (k.block i (Nat.lt_of_lt_of_le hi h.size) h1).trans (h.block i hi h1)⟩
theorem Kept.wide (h : Kept S a w) (hs : ∀ k ∈ S, k < a.heap.size → k ∈ T) : Kept T a w := ⟨h.os, h.tape, h.output, h.size, fun k hk h1 => h.block k hk fun h2 => h1 (hs k h2 hk)⟩
theorem Kept.drewN (h : Kept S a w) (n : Nat) : Kept S a (w.drewN n) := ⟨h.os, h.tape, h.output, h.size, h.block⟩
theorem Kept.like (h : Kept S a w) (h1 : w'.os = w.os) (h2 : w'.tape = w.tape) (h3 : w'.output = w.output) (h4 : w'.heap = w.heap) : Kept S a w' :=
  ⟨h1.trans h.os, h2.trans h.tape, h3.trans h.output, by rw [h4]; exact h.size, fun k hk e => by rw [h4]; exact h.block k hk e⟩
theorem Kept.alloc (h : Kept S a w) (o : Obj) : Kept S a (w.alloc o) :=
  h.trans ⟨rfl, rfl, rfl, by simp, fun k hk _ => Below.heap_alloc _ _ _ hk⟩
theorem Kept.setCell (h : Kept S a w) {p : Addr} (hp : p.block ∈ S ∨ a.heap.size ≤ p.block) (u : Value) : Kept S a (w.setCell p u) :=
  ⟨h.os, h.tape, h.output, by simpa [World.setCell] using h.size, fun k hk h1 => (Below.heap_setCell w p u k (by
    rcases hp with hp | hp
    · rintro rfl; exact h1 hp
    · omega)).trans (h.block k hk h1)⟩
theorem Kept.of_turned {b g : Nat} (h : Turned b g a w) : Kept [b, g] a w := ⟨h.os, h.tape, h.output, h.size, fun k hk e => h.block k hk (fun e1 => e (by simp [e1])) (fun e1 => e (by simp [e1]))⟩
theorem Kept.of_below (h : Below a.heap.size a w) : Kept S a w := ⟨h.os, h.tape, h.output, h.size, fun k hk _ => h.block k hk⟩
theorem Kept.below {B : Nat} (h : Kept S a w) (hB : B ≤ a.heap.size) (hs : ∀ k ∈ S, B ≤ k) : Below B a w :=
  ⟨h.os, h.tape, h.output, h.size, fun k hk => h.block k (by omega) fun e => by have := hs k e; omega⟩
theorem Kept.cell (h : Kept S a w) {p : Addr} (hl : p.block < a.heap.size) (h1 : p.block ∉ S) : w.cell? p = a.cell? p := World.cell?_of_block (w := a) (h.block p.block hl h1)
theorem Kept.frozen (h : Kept S a w) {p : Addr} (hl : p.block < a.heap.size) (h1 : p.block ∉ S) : w.frozen? p = a.frozen? p := World.frozen?_of_block (w := a) (h.block p.block hl h1)
theorem Kept.has (h : Kept S a w) {i : Nat} {t : TypeId} {cs : Array Value} (hh : Has a i t cs) (h1 : i ∉ S) : Has w i t cs := (h.block i hh.lt h1).trans hh
theorem Kept.grown {row : Option Nat} (h : Kept S a w) (hg : w.grownBy w' row) (hr : ∀ k, row = some k → k ∈ S ∨ a.heap.size ≤ k) : Kept S a w' :=
  ⟨hg.os.trans h.os, hg.tape.trans h.tape, hg.output.trans h.output, Nat.le_trans h.size hg.size, fun k hk h1 => (hg.block k (Nat.lt_of_lt_of_le hk h.size) (fun e => by
    rcases hr k e.symm with h2 | h2
    · exact h1 h2
    · omega)).trans (h.block k hk h1)⟩
theorem below_kept {B : Nat} (h : Below B a w) (k : Kept S w c) (hB : B ≤ w.heap.size) (hs : ∀ k ∈ S, B ≤ k) : Below B a c := h.trans (k.below hB hs)
theorem own_kept {base : Nat} {e : TypeId} {size n : Nat} {v : Value} {xs : List Value} (h : w.ownsRow base e size v n xs) (ht : Kept S w w') (hs : ∀ k ∈ S, k < base) : w'.ownsRow base e size v n xs := by
  obtain ⟨h1, h2⟩ := h
  refine ⟨h1, ?_⟩
  rcases h2 with h2 | ⟨k, cap, cur, rfl, hk, hh, h3⟩
  · exact .inl h2
  · exact .inr ⟨k, cap, cur, rfl, hk, (ht.block k (Has.lt (w := w) hh) (fun e => by have := hs k e; omega)).trans hh, h3⟩
theorem own_block {base : Nat} {e : TypeId} {size n : Nat} {v : Value} {xs : List Value} (h : w.ownsRow base e size v n xs) : ∀ k, v.ownBlock = some k → base ≤ k ∧ k < w.heap.size := by
  intro k hk
  rcases h.2 with ⟨rfl, _⟩ | ⟨k', cap, cur, rfl, hk', hh, _⟩
  · cases hk
  · injection hk with hk
    have : k' = k := hk
    subst this
    exact ⟨hk', Has.lt (w := w) hh⟩
end
/-- Two rows never lie in one block. -/
def Apart (v u : Value) : Prop := ∀ k, v.ownBlock = some k → u.ownBlock ≠ some k
theorem Apart.symm {v u : Value} (h : Apart v u) : Apart u v := fun k hk hv => h k hv hk
theorem Apart.kept {v u : Value} (h : Apart v u) : v.ownBlock = none ∨ v.ownBlock ≠ u.ownBlock := by
  cases hv : v.ownBlock with
  | none => exact .inl rfl
  | some k => exact .inr fun e => h k hv e.symm
/-- .. nor behind an append to one of them. -/
theorem Apart.step {w : World} {base : Nat} {e : TypeId} {size n : Nat} {v v' u : Value} {xs : List Value} (h : Apart v u) (hu : w.ownsRow base e size u n xs) (hs : v'.ownBlock = v.ownBlock ∨ v'.ownBlock = some w.heap.size) : Apart v' u := by
  intro k hk he
  rcases hs with hs | hs
  · exact h k (hs ▸ hk) he
  · have h1 := (own_block hu k he).2
    rw [hs] at hk
    injection hk with hk
    omega
end Go.Proofs.Ytejlhdmfcmhlaaa
end
section
/- How many bits a small number wants: enough that it is below that power of two. -/
set_option linter.unusedSimpArgs false
set_option linter.unusedVariables false
namespace Go.Proofs.Ytejlhdmfcmhlaaa
open Go.RowKit

theorem small_bits : ∀ n : Fin 256, n.val < 2 ^ Lib.bitLen n.val := by decide +kernel
theorem small_bits5 : ∀ n : Fin 5, Lib.bitLen n.val ≤ 3 := by decide +kernel
theorem byte_bits (b : Nat) (hb : b < 256) : b < 2 ^ Lib.bitLen b ∧ Lib.bitLen b ≤ 8 := ⟨small_bits ⟨b, hb⟩, Lib.bitLen_le8 ⟨b, hb⟩⟩
theorem bits_mid (x : Nat) (h1 : 256 ≤ x) (h2 : x ≤ 1024) : x < 2 ^ (8 + Lib.bitLen (x / 256)) ∧ 8 + Lib.bitLen (x / 256) ≤ 11 := by
  have h := (byte_bits (x / 256) (by omega)).1
  have h3 := small_bits5 ⟨x / 256, by omega⟩
  refine ⟨?_, by simp only at h3; omega⟩
  rw [Nat.pow_add]
  omega
set_option maxHeartbeats 2000000 in
set_option maxRecDepth 100000 in
theorem len64_low (x : Int) (w : World) (h0 : 0 ≤ x) (h1 : x ≤ 255) :
    Calls Try.prog 67 #[.int .u64 x] w fun e w' => e = .returned (.int .i64 (Lib.len8 x)) ∧ w = w' := by
  have b1 := Lib.len8_of x (by omega) (by omega)
  have b2 := Lib.bitLen_le8' x (by omega) (by omega)
  have B1 := Lib.hid (show 0 ≤ Lib.len8 x ∧ Lib.len8 x ≤ 8 by omega)
  clear b1 b2
  go_enter Try.func67, Try.ntmps67
  go_wp2
  go_ret
  have e1 := B1.out
  refine ⟨congrArg Ending.returned (congrArg (Value.int IntKind.i64) ?_), rfl⟩
  try unfold wrap64
  omega
set_option maxHeartbeats 2000000 in
set_option maxRecDepth 100000 in
theorem len64_mid (x : Int) (w : World) (h0 : 256 ≤ x) (h1 : x ≤ 1024) :
    Calls Try.prog 67 #[.int .u64 x] w fun e w' => e = .returned (.int .i64 (8 + Lib.len8 (x / 256))) ∧ w = w' := by
  have q0 : 0 ≤ x / 256 := by omega
  have q1 : x / 256 ≤ 255 := by omega
  have b1 := Lib.len8_of (x / 256) (by omega) (by omega)
  have b2 := Lib.bitLen_le8' (x / 256) (by omega) (by omega)
  have B1 := Lib.hid (show 0 ≤ Lib.len8 (x / 256) ∧ Lib.len8 (x / 256) ≤ 8 by omega)
  clear b1 b2
  go_enter Try.func67, Try.ntmps67
  go_wp2
  go_ret
  have e1 := B1.out
  refine ⟨congrArg Ending.returned (congrArg (Value.int IntKind.i64) ?_), rfl⟩
  try unfold wrap64
  omega
theorem len64_small (x : Nat) (w : World) (h1 : x ≤ 1024) :
    Calls Try.prog 67 #[.int .u64 (x : Int)] w fun e w' => (∃ k : Nat, e = .returned (.int .i64 k) ∧ x < 2 ^ k ∧ k ≤ 11) ∧ w = w' := by
  rcases Nat.lt_or_ge x 256 with h4 | h4
  · refine (len64_low (x : Int) w (by omega) (by omega)).mono ?_
    rintro e w' ⟨rfl, rfl⟩
    obtain ⟨e1, e2⟩ := byte_bits x (by omega)
    rw [Lib.len8_of (x : Int) (by omega) (by omega), Int.toNat_natCast]
    exact ⟨⟨_, rfl, e1, by omega⟩, rfl⟩
  · refine (len64_mid (x : Int) w (by omega) (by omega)).mono ?_
    rintro e w' ⟨rfl, rfl⟩
    obtain ⟨e1, e2⟩ := bits_mid x (by omega) (by omega)
    rw [Lib.len8_of ((x : Int) / 256) (by omega) (by omega), show ((x : Int) / 256).toNat = x / 256 by omega]
    exact ⟨⟨8 + Lib.bitLen (x / 256), by rw [Int.natCast_add]; rfl, e1, e2⟩, rfl⟩
theorem len_small (x : Nat) (w : World) (h1 : x ≤ 1024) :
    Calls Try.prog 54 #[.int .u64 (x : Int)] w fun e w' => (∃ k : Nat, e = .returned (.int .i64 k) ∧ x < 2 ^ k ∧ k ≤ 11) ∧ w = w' := by
  go_enter Try.func54, Try.ntmps54
  go_wp2_with (go_at_call 67; ((with_reducible refine (len64_small x _ h1).mono ?_); rintro e w' ⟨⟨k, rfl, hk⟩, rfl⟩))
  go_ret
  exact ⟨⟨k, rfl, hk⟩, rfl⟩
end Go.Proofs.Ytejlhdmfcmhlaaa
end
section
/- What an append to a row of the call's own leaves as it was. -/
set_option linter.unusedVariables false
namespace Go.Proofs.Ytejlhdmfcmhlaaa
open Go.RowKit
theorem Kept.of_grown {w w' : World} {row : Option Nat} (hg : w.grownBy w' row) : Kept row.toList w w' :=
  ⟨hg.os, hg.tape, hg.output, hg.size, fun k hk h1 => hg.block k hk fun e => h1 (by simp [← e])⟩
theorem own_apart {w : World} {base : Nat} {e : TypeId} {size n : Nat} {v : Value} {xs : List Value} (h : w.ownsRow base e size v n xs) {x : Nat} (hx : x < base) : x ∉ v.ownBlock.toList := by
  intro hm
  have := (own_block h x (by simpa using hm)).1
  omega
theorem own_in {w : World} {base : Nat} {e : TypeId} {size n : Nat} {v : Value} {xs : List Value} (h : w.ownsRow base e size v n xs) : ∀ k ∈ v.ownBlock.toList, base ≤ k := by
  intro k hm
  exact (own_block h k (by simpa using hm)).1
end Go.Proofs.Ytejlhdmfcmhlaaa
end
section
/- What a high filter answers of all that came; what follows of it (bounds, even values, what is forgotten). Nothing here speaks of a program. -/
set_option linter.unusedVariables false
namespace Go.Proofs.Ytejlhdmfcmhlaaa.High
open Go.RowKit
/-- The sum of the first j of all that came (the last value first), as it counts. -/
def sumT (h : List Int) (j : Nat) : Int := ((h.map (nearTo 73727)).take j).sum
/-- 32 times the middle, less the sum of the last 32. -/
def wholeT (h : List Int) : Int := 32 * cameT 73727 h 16 - sumT h 32
/-- What a high filter answers of all that came. -/
def highT (h : List Int) : Int := wholeT h / 32
theorem came_high (h : List Int) (k : Nat) : -73727 ≤ cameT 73727 h k ∧ cameT 73727 h k ≤ 73727 := came_bd 73727 h k (by omega)
theorem sum_none (h : List Int) : sumT h 0 = 0 := by simp [sumT]
theorem sum_win (h : List Int) : winSum 31 (h.map (nearTo 73727)) = sumT h 32 := rfl
theorem sum_step (h : List Int) (j : Nat) : sumT h (j + 1) = sumT h j + cameT 73727 h j := by
  rw [← came_map 73727 h j (by omega)]
  unfold sumT
  generalize h.map (nearTo 73727) = l
  rcases Nat.lt_or_ge j l.length with hl | hl
  · rw [List.take_succ_eq_append_getElem hl, List.sum_append, List.getD_eq_getElem?_getD, List.getElem?_eq_getElem hl]
    simp
  · rw [List.take_of_length_le hl, List.take_of_length_le (by omega), List.getD_eq_getElem?_getD, List.getElem?_eq_none hl]
    simp
theorem sum_near (h : List Int) (i m : Nat) : -(73727 * (m : Int)) ≤ sumT h (i + m) - sumT h i ∧ sumT h (i + m) - sumT h i ≤ 73727 * (m : Int) := by
  induction m with
  | zero => simp
  | succ m ih =>
    have h1 := sum_step h (i + m)
    have h2 := came_high h (i + m)
    rw [show i + (m + 1) = i + m + 1 by omega]
    omega
theorem sum_bd (h : List Int) (j : Nat) (hj : j ≤ 32) : -2359264 ≤ sumT h j ∧ sumT h j ≤ 2359264 := by
  have h1 := sum_near h 0 j
  rw [Nat.zero_add, sum_none] at h1
  omega
theorem sum_wrap (h : List Int) : wrap64 (winSum 31 (h.map (nearTo 73727))) = sumT h 32 := by
  rw [sum_win]
  have h1 := sum_bd h 32 (by omega)
  unfold wrap64
  omega
theorem whole_bd (h : List Int) : -4571074 ≤ wholeT h ∧ wholeT h ≤ 4571074 := by
  have h1 := sum_near h 0 16
  have h2 := sum_step h 16
  have h3 := sum_near h 17 15
  have h4 := came_high h 16
  rw [Nat.zero_add, sum_none] at h1
  rw [show 16 + 1 = 17 from rfl] at h2
  rw [show 17 + 15 = 32 from rfl] at h3
  unfold wholeT
  omega
theorem high_bd (h : List Int) : -142847 ≤ highT h ∧ highT h ≤ 142847 := by
  have := whole_bd h
  unfold highT; omega
theorem sum_even (h : List Int) (v : Int) (hv : ∀ k, k < 32 → cameT 73727 h k = v) (j : Nat) (hj : j ≤ 32) : sumT h j = v * (j : Int) := by
  induction j with
  | zero => simp [sum_none]
  | succ j ih =>
    rw [sum_step, ih (by omega), hv j (by omega)]
    rw [Int.natCast_add, Int.mul_add]
    simp
/-- Of a value that came the last 32 times it is 0. -/
theorem high_even (l h : List Int) (v : Int) (hl : 32 ≤ l.length) (hv : ∀ u ∈ l, u = v) : highT (l ++ h) = 0 := by
  have hc : ∀ k, k < 32 → cameT 73727 (l ++ h) k = nearTo 73727 v := fun k hk => by
    rw [came_append 73727 l h k (by omega)]
    exact came_mem 73727 l k v (by omega) hv
  have hs := sum_even (l ++ h) (nearTo 73727 v) hc 32 (by omega)
  unfold highT wholeT
  rw [hs, hc 16 (by omega)]
  omega
/-- What came 32 steps ago, and more, plays no part. -/
theorem high_forgets (l h k : List Int) (hl : 32 ≤ l.length) : highT (l ++ h) = highT (l ++ k) := by
  unfold highT wholeT sumT
  rw [came_append 73727 l _ _ (show 16 < l.length by omega), came_append 73727 l _ _ (show 16 < l.length by omega), List.map_append, List.map_append, List.take_append_of_le_length (by simpa using hl), List.take_append_of_le_length (by simpa using hl)]
end Go.Proofs.Ytejlhdmfcmhlaaa.High
end
section
/- What a window of squares answers of all that came; what follows of it (bounds, rises, what is forgotten). Nothing here speaks of a program. -/
set_option linter.unusedVariables false
namespace Go.Proofs.Ytejlhdmfcmhlaaa.Win
open Go.RowKit
/-- The nearest number from 0 to the clamp. -/
def nearS (v : Int) : Int := clampZ v 0 67108864
theorem nearS_bd (v : Int) : 0 ≤ nearS v ∧ nearS v ≤ 67108864 := by unfold nearS clampZ; split <;> (try split) <;> omega
theorem nearS_zero : nearS 0 = 0 := rfl
theorem nearS_mono (u v : Int) (h : u ≤ v) : nearS u ≤ nearS v := by unfold nearS clampZ; split <;> split <;> (try split) <;> (try split) <;> omega
/-- As the reference writes it. -/
theorem nearS_ifs (v : Int) : nearS v = if 67108864 < (if v < 0 then 0 else v) then 67108864 else (if v < 0 then 0 else v) := by unfold nearS clampZ; split <;> (try split) <;> (try split) <;> omega
/-- What counts of what came k steps ago. -/
def cameS (h : List Int) (k : Nat) : Int := nearS (h.getD k 0)
theorem cameS_bd (h : List Int) (k : Nat) : 0 ≤ cameS h k ∧ cameS h k ≤ 67108864 := nearS_bd _
theorem cameS_map (h : List Int) (k : Nat) : (h.map nearS).getD k 0 = cameS h k := by
  unfold cameS
  rw [List.getD_eq_getElem?_getD, List.getD_eq_getElem?_getD, List.getElem?_map]
  cases h[k]? with
  | none => simp [nearS_zero]
  | some v => rfl
/-- The sum of the first j of all that came (the last value first), as it counts. -/
def sumT (h : List Int) (j : Nat) : Int := ((h.map nearS).take j).sum
/-- What a window of squares answers of all that came. -/
def winT (h : List Int) : Int := sumT h 30 / 32
theorem sum_none (h : List Int) : sumT h 0 = 0 := by simp [sumT]
theorem sum_win (h : List Int) : winSum 29 (h.map nearS) = sumT h 30 := rfl
theorem sum_cons (v : Int) (h : List Int) (j : Nat) : sumT (v :: h) (j + 1) = nearS v + sumT h j := by simp [sumT]
theorem sum_step (h : List Int) (j : Nat) : sumT h (j + 1) = sumT h j + cameS h j := by
  rw [← cameS_map h j]
  unfold sumT
  generalize h.map nearS = l
  rcases Nat.lt_or_ge j l.length with hl | hl
  · rw [List.take_succ_eq_append_getElem hl, List.sum_append, List.getD_eq_getElem?_getD, List.getElem?_eq_getElem hl]
    simp
  · rw [List.take_of_length_le hl, List.take_of_length_le (by omega), List.getD_eq_getElem?_getD, List.getElem?_eq_none hl]
    simp
theorem sum_near (h : List Int) (j : Nat) : 0 ≤ sumT h j ∧ sumT h j ≤ 67108864 * (j : Int) := by
  induction j with
  | zero => simp [sum_none]
  | succ j ih =>
    have h1 := sum_step h j
    have h2 := cameS_bd h j
    omega
theorem sum_bd (h : List Int) (j : Nat) (hj : j ≤ 30) : 0 ≤ sumT h j ∧ sumT h j ≤ 2013265920 := by
  have h1 := sum_near h j
  omega
/-- The sum of as many as there are is the sum of all. -/
theorem sum_few (h : List Int) (j : Nat) (hj : h.length ≤ j) (hj2 : j ≤ 30) : sumT h j = sumT h 30 := by
  unfold sumT
  rw [List.take_of_length_le (by simpa using hj), List.take_of_length_le (by rw [List.length_map]; omega)]
theorem sum_wrap (h : List Int) : wrap64 (winSum 29 (h.map nearS)) = sumT h 30 := by
  rw [sum_win]
  have h1 := sum_bd h 30 (by omega)
  unfold wrap64
  omega
theorem win_bd (h : List Int) : 0 ≤ winT h ∧ winT h ≤ 62914560 := by
  have := sum_bd h 30 (by omega)
  unfold winT; omega
theorem win_none : winT [] = 0 := rfl
/-- It does not fall where what comes is not less than what leaves. -/
theorem win_rises (v : Int) (h : List Int) (hv : h.getD 29 0 ≤ v ∨ h.getD 29 0 ≤ 0) : winT h ≤ winT (v :: h) := by
  have h1 := sum_step h 29
  have h2 := sum_cons v h 29
  have h3 : cameS h 29 ≤ nearS v := by
    unfold cameS
    rcases hv with hv | hv
    · exact nearS_mono _ _ hv
    · have h4 := nearS_mono _ _ hv
      have h5 := nearS_bd v
      rw [nearS_zero] at h4
      omega
  rw [show 29 + 1 = 30 from rfl] at h1 h2
  unfold winT
  omega
/-- What came 30 steps ago, and more, plays no part. -/
theorem win_forgets (l h k : List Int) (hl : 30 ≤ l.length) : winT (l ++ h) = winT (l ++ k) := by
  unfold winT sumT
  rw [List.map_append, List.map_append, List.take_append_of_le_length (by simpa using hl), List.take_append_of_le_length (by simpa using hl)]
end Go.Proofs.Ytejlhdmfcmhlaaa.Win
end
section
/- What a chain answers of all that came: the filters one behind the other; what follows of it (bounds, what is even, what is lifted). Nothing here speaks of a program. -/
set_option linter.unusedVariables false
namespace Go.Proofs.Ytejlhdmfcmhlaaa.Chain
open Go.RowKit
open Notch (notchT Known) 
open Low (lowT)
open High (highT)
open Slope (slopeT squareT)
open Win (winT)
/-- What a sample counts. -/
def near16 (v : Int) : Int := clampZ v (-32768) 32767
theorem near16_bd (v : Int) : -32768 ≤ near16 v ∧ near16 v ≤ 32767 := by unfold near16 clampZ; split <;> (try split) <;> omega
theorem near16_in (v : Int) (h : -32768 ≤ v ∧ v ≤ 32767) : near16 v = v := by unfold near16 clampZ; rw [if_neg (by omega), if_neg (by omega)]
/-- As the reference writes it. -/
theorem near16_ifs (v : Int) : near16 v = (if (-32768 : Int) < (if (32767 : Int) < v then (32767 : Int) else v) then (if (32767 : Int) < v then (32767 : Int) else v) else -32768) := by
  unfold near16 clampZ; split <;> (try split) <;> (try split) <;> omega
/-- The base of all that came, the last sample first: what the first one counts. -/
def baseT (h : List Int) : Int := near16 (h.getLast?.getD 0)
theorem base_cons (v : Int) (h : List Int) (hh : h ≠ []) : baseT (v :: h) = baseT h := by
  unfold baseT
  cases h with
  | nil => exact absurd rfl hh
  | cons u h => simp [List.getLast?_cons_cons]
theorem base_bd (h : List Int) : -32768 ≤ baseT h ∧ baseT h ≤ 32767 := near16_bd _
/-- What comes to the first filter. -/
def inT (h : List Int) : List Int := h.map (fun v => near16 v - baseT h)
theorem in_step (v : Int) (h : List Int) : inT (v :: h) = (near16 v - baseT (v :: h)) :: inT h := by
  unfold inT
  cases h with
  | nil => rfl
  | cons u h => rw [base_cons v (u :: h) (by simp)]; rfl
theorem in_length (h : List Int) : (inT h).length = h.length := by simp [inT]
/-- A filter's answers of all beginnings, the last one first. -/
def histT (F : List Int → Int) : List Int → List Int
  | [] => []
  | v :: h => F (v :: h) :: histT F h
section
variable (F : List Int → Int)
theorem hist_length : ∀ h, (histT F h).length = h.length
  | [] => rfl
  | v :: h => by simp [histT, hist_length h]
theorem hist_rev : ∀ h, (histT F h).reverse = outsT F [] h.reverse
  | [] => rfl
  | v :: h => by
    rw [List.reverse_cons, outs_append, ← hist_rev h]
    simp [histT, outsT]
theorem hist_mem : ∀ (h : List Int) (u : Int), u ∈ histT F h → ∃ y, u = F y
  | [], u, hu => by simp [histT] at hu
  | v :: h, u, hu => by
    rcases List.mem_cons.1 (show u ∈ F (v :: h) :: histT F h from hu) with rfl | hu
    · exact ⟨_, rfl⟩
    · exact hist_mem h u hu
theorem hist_drop : ∀ (k : Nat) (h : List Int), (histT F h).drop k = histT F (h.drop k)
  | 0, h => rfl
  | k + 1, [] => rfl
  | k + 1, v :: h => by simpa [histT] using hist_drop k h
theorem hist_at (h : List Int) (k : Nat) (hk : k < h.length) : (histT F h).getD k 0 = F (h.drop k) := by
  have h1 := hist_drop F k h
  have h2 : (histT F h).getD k 0 = ((histT F h).drop k).getD 0 0 := by simp [List.getD_eq_getElem?_getD, List.getElem?_drop]
  rw [h2, h1, List.drop_eq_getElem_cons hk]
  rfl
end
def nT (m : Nat) (h : List Int) : List Int := histT (notchT m) (inT h)
def lT (m : Nat) (h : List Int) : List Int := histT lowT (nT m h)
def hT (m : Nat) (h : List Int) : List Int := histT highT (lT m h)
def dT (m : Nat) (h : List Int) : List Int := histT slopeT (hT m h)
def eT (m : Nat) (h : List Int) : List Int := (dT m h).map squareT
/-- A wave: H, D, E, W. -/
abbrev Wave := Int × Int × Int × Int
def noWave : Wave := (0, 0, 0, 0)
/-- What all that came (the last sample first) comes to at last. -/
def waveT (m : Nat) (h : List Int) : Wave := ((hT m h).headD 0, (dT m h).headD 0, (eT m h).headD 0, winT (eT m h))
section
variable (m : Nat) (v : Int) (h : List Int)
theorem n_step : nT m (v :: h) = notchT m (inT (v :: h)) :: nT m h := by unfold nT; rw [in_step]; rfl
theorem l_step : lT m (v :: h) = lowT (nT m (v :: h)) :: lT m h := by unfold lT; rw [n_step]; rfl
theorem h_step : hT m (v :: h) = highT (lT m (v :: h)) :: hT m h := by unfold hT; rw [l_step]; rfl
theorem d_step : dT m (v :: h) = slopeT (hT m (v :: h)) :: dT m h := by unfold dT; rw [h_step]; rfl
theorem e_step : eT m (v :: h) = squareT (slopeT (hT m (v :: h))) :: eT m h := by unfold eT; rw [d_step]; rfl
theorem wave_step : waveT m (v :: h) = (highT (lT m (v :: h)), slopeT (hT m (v :: h)), squareT (slopeT (hT m (v :: h))), winT (eT m (v :: h))) := by
  have h1 : (hT m (v :: h)).headD 0 = highT (lT m (v :: h)) := by rw [h_step]; rfl
  have h2 : (dT m (v :: h)).headD 0 = slopeT (hT m (v :: h)) := by rw [d_step]; rfl
  have h3 : (eT m (v :: h)).headD 0 = squareT (slopeT (hT m (v :: h))) := by rw [e_step]; rfl
  unfold waveT
  rw [h1, h2, h3]
theorem n_length : (nT m h).length = h.length := by unfold nT; rw [hist_length, in_length]
theorem l_length : (lT m h).length = h.length := by unfold lT; rw [hist_length, n_length]
theorem h_length : (hT m h).length = h.length := by unfold hT; rw [hist_length, l_length]
theorem d_length : (dT m h).length = h.length := by unfold dT; rw [hist_length, h_length]
theorem e_length : (eT m h).length = h.length := by unfold eT; rw [List.length_map, d_length]
end
theorem d_fits (m : Nat) (h : List Int) (j : Nat) : -107136 ≤ (dT m h).reverse.getD j 0 ∧ (dT m h).reverse.getD j 0 ≤ 107136 := by
  rcases Nat.lt_or_ge j (dT m h).reverse.length with hj | hj
  · rw [List.getD_eq_getElem?_getD, List.getElem?_eq_getElem hj]
    obtain ⟨y, hy⟩ := hist_mem slopeT (hT m h) _ (List.mem_reverse.1 (List.getElem_mem hj))
    show -107136 ≤ (dT m h).reverse[j] ∧ (dT m h).reverse[j] ≤ 107136
    rw [hy]
    exact Slope.slope_bd y
  · rw [List.getD_eq_getElem?_getD, List.getElem?_eq_none hj]
    exact ⟨by decide, by decide⟩
/-- Nothing is beyond its bound. -/
theorem wave_bd (m : Nat) (v : Int) (h : List Int) : (-142847 ≤ (waveT m (v :: h)).1 ∧ (waveT m (v :: h)).1 ≤ 142847) ∧ (-107136 ≤ (waveT m (v :: h)).2.1 ∧ (waveT m (v :: h)).2.1 ≤ 107136) ∧
    (0 ≤ (waveT m (v :: h)).2.2.1 ∧ (waveT m (v :: h)).2.2.1 ≤ 67108864) ∧ (0 ≤ (waveT m (v :: h)).2.2.2 ∧ (waveT m (v :: h)).2.2.2 ≤ 62914560) := by
  rw [wave_step]
  exact ⟨High.high_bd _, Slope.slope_bd _, Slope.square_bd _, Win.win_bd _⟩
/-- The answers of many, one by one. -/
def wavesT (m : Nat) : List Int → List Int → List Wave
  | _, [] => []
  | h, y :: ys => waveT m (y :: h) :: wavesT m (y :: h) ys
theorem waves_len (m : Nat) : ∀ (h ys : List Int), (wavesT m h ys).length = ys.length
  | _, [] => rfl
  | h, y :: ys => by simp [wavesT, waves_len m (y :: h) ys]
theorem waves_append (m : Nat) : ∀ (h xs ys : List Int), wavesT m h (xs ++ ys) = wavesT m h xs ++ wavesT m (xs.reverse ++ h) ys
  | _, [], _ => rfl
  | h, x :: xs, ys => by simp [wavesT, waves_append m (x :: h) xs ys]
theorem waves_at (m : Nat) : ∀ (h ys : List Int) (i : Nat), i < ys.length → (wavesT m h ys).getD i noWave = waveT m ((ys.take (i + 1)).reverse ++ h)
  | _, [], i, hi => absurd hi (by simp)
  | h, y :: ys, 0, _ => by simp [wavesT]
  | h, y :: ys, i + 1, hi => by
    have := waves_at m (y :: h) ys i (by simpa using hi)
    simpa [wavesT] using this
theorem waves_step (m : Nat) (h ys : List Int) (j : Nat) (hj : j < ys.length) : wavesT m h (ys.take (j + 1)) = wavesT m h (ys.take j) ++ [waveT m ((ys.take (j + 1)).reverse ++ h)] := by
  rw [← came_step h ys j hj, List.take_succ_eq_append_getElem hj, waves_append, List.getD_eq_getElem?_getD, List.getElem?_eq_getElem hj]
  rfl
/-! ### As the reference tells it: filter by filter, over all -/
theorem in_ref (l : List Int) : (inT l.reverse).reverse = l.map (fun v => near16 v - near16 (l.getD 0 0)) := by
  unfold inT baseT
  rw [← List.map_reverse, List.reverse_reverse]
  congr 1
  funext v
  congr 2
  cases l with
  | nil => rfl
  | cons u l => simp
theorem n_ref (m : Nat) (l : List Int) : outsT (notchT m) [] (l.map (fun v => near16 v - near16 (l.getD 0 0))) = (nT m l.reverse).reverse := by
  unfold nT
  rw [hist_rev, in_ref]
theorem l_ref (m : Nat) (l : List Int) : outsT lowT [] (nT m l.reverse).reverse = (lT m l.reverse).reverse := by unfold lT; rw [hist_rev]
theorem h_ref (m : Nat) (l : List Int) : outsT highT [] (lT m l.reverse).reverse = (hT m l.reverse).reverse := by unfold hT; rw [hist_rev]
theorem d_ref (m : Nat) (l : List Int) : outsT slopeT [] (hT m l.reverse).reverse = (dT m l.reverse).reverse := by unfold dT; rw [hist_rev]
theorem e_ref (m : Nat) (l : List Int) : (dT m l.reverse).reverse.map squareT = (eT m l.reverse).reverse := by unfold eT; rw [List.map_reverse]
/-- What came up to a place is all that came, less what came behind it. -/
theorem up_to (l : List Int) (i : Nat) (hi : i < l.length) : (l.take (i + 1)).reverse = l.reverse.drop (l.length - 1 - i) := by
  rw [List.drop_reverse, show l.length - (l.length - 1 - i) = i + 1 by omega]
theorem in_drop (h : List Int) (k : Nat) (hk : k < h.length) : (inT h).drop k = inT (h.drop k) := by
  unfold inT baseT
  rw [List.getLast?_drop, if_neg (by omega), List.map_drop]
theorem n_drop (m : Nat) (h : List Int) (k : Nat) (hk : k < h.length) : (nT m h).drop k = nT m (h.drop k) := by unfold nT; rw [hist_drop, in_drop h k hk]
theorem l_drop (m : Nat) (h : List Int) (k : Nat) (hk : k < h.length) : (lT m h).drop k = lT m (h.drop k) := by unfold lT; rw [hist_drop, n_drop m h k hk]
theorem h_drop (m : Nat) (h : List Int) (k : Nat) (hk : k < h.length) : (hT m h).drop k = hT m (h.drop k) := by unfold hT; rw [hist_drop, l_drop m h k hk]
theorem d_drop (m : Nat) (h : List Int) (k : Nat) (hk : k < h.length) : (dT m h).drop k = dT m (h.drop k) := by unfold dT; rw [hist_drop, h_drop m h k hk]
theorem e_drop (m : Nat) (h : List Int) (k : Nat) (hk : k < h.length) : (eT m h).drop k = eT m (h.drop k) := by unfold eT; rw [← List.map_drop, d_drop m h k hk]
theorem rev_head (l : List Int) (n i : Nat) (hn : l.length = n) (hi : i < n) : l.reverse.getD i 0 = (l.drop (n - 1 - i)).headD 0 := by
  subst hn
  rw [List.getD_eq_getElem?_getD, List.getElem?_reverse hi, List.headD_eq_head?_getD, List.head?_drop]
/-- The reference's four lists at a place: the wave there. -/
theorem wave_at (m : Nat) (l : List Int) (i : Nat) (hi : i < l.length) :
    ((hT m l.reverse).reverse.getD i 0, (dT m l.reverse).reverse.getD i 0, (eT m l.reverse).reverse.getD i 0, (outsT winT [] (eT m l.reverse).reverse).getD i 0) = waveT m ((l.take (i + 1)).reverse) := by
  have hr : l.reverse.length = l.length := List.length_reverse
  have hk : l.length - 1 - i < l.reverse.length := by omega
  rw [rev_head _ l.length i (by rw [h_length, hr]) hi, rev_head _ l.length i (by rw [d_length, hr]) hi, rev_head _ l.length i (by rw [e_length, hr]) hi, ← hist_rev, rev_head _ l.length i (by rw [hist_length, e_length, hr]) hi,
    h_drop m _ _ hk, d_drop m _ _ hk, e_drop m _ _ hk, hist_drop, e_drop m _ _ hk, ← up_to l i hi]
  obtain ⟨v, h, he⟩ : ∃ v h, (l.take (i + 1)).reverse = v :: h := by
    cases hc : (l.take (i + 1)).reverse with
    | nil =>
      have := congrArg List.length hc
      rw [List.length_reverse, List.length_take, List.length_nil] at this
      omega
    | cons v h => exact ⟨v, h, rfl⟩
  rw [he]
  unfold waveT
  rw [e_step]
  rfl
/-! ### What is even -/
/-- The last so many that came are 0 (or nothing came). -/
def Z (n : Nat) (h : List Int) : Prop := ∀ k, k < n → h.getD k 0 = 0
theorem Z.less {n k : Nat} {h : List Int} (H : Z n h) (hk : k ≤ n) : Z k h := fun j hj => H j (by omega)
theorem Z.came {n : Nat} {h : List Int} (H : Z n h) (B : Int) (hB : 0 ≤ B) (k : Nat) (hk : k < n) : cameT B h k = 0 := by unfold cameT; rw [H k hk, nearTo_zero B hB]
theorem Z.hist {F : List Int → Int} (M : Nat) (hM : 1 ≤ M) (hF : ∀ y, Z M y → F y = 0) {n p : Nat} {h : List Int} (H : Z n h) (hp : p + M ≤ n + 1) : Z p (histT F h) := by
  intro k hk
  rcases Nat.lt_or_ge k h.length with hl | hl
  · rw [hist_at F h k hl]
    refine hF _ fun j hj => ?_
    have := H (k + j) (by omega)
    rwa [List.getD_eq_getElem?_getD, List.getElem?_drop, ← List.getD_eq_getElem?_getD]
  · rw [List.getD_eq_getElem?_getD, List.getElem?_eq_none (by rw [hist_length]; exact hl)]
    rfl
theorem notch_zero (m : Nat) (y : List Int) (H : Z 4 y) : notchT m y = 0 := by
  have c := H.came 65535 (by omega)
  unfold Notch.notchT Notch.sum50 Notch.sum60
  rw [c 0 (by omega), c 1 (by omega), c 2 (by omega), c 3 (by omega)]
  split
  · rfl
  · split <;> rfl
theorem low_zero (y : List Int) (H : Z 11 y) : lowT y = 0 := by
  have c := H.came 65535 (by omega)
  unfold Low.lowT
  rw [Low.sum_is, c 0 (by omega), c 1 (by omega), c 2 (by omega), c 3 (by omega), c 4 (by omega), c 5 (by omega), c 6 (by omega), c 7 (by omega), c 8 (by omega), c 9 (by omega), c 10 (by omega)]
  rfl
theorem high_zero (y : List Int) (H : Z 32 y) : highT y = 0 := by
  have c := H.came 73727 (by omega)
  have hs := High.sum_even y 0 (fun k hk => c k hk) 32 (by omega)
  unfold High.highT High.wholeT
  rw [hs, c 16 (by omega)]
  rfl
theorem slope_zero (y : List Int) (H : Z 5 y) : slopeT y = 0 := by
  have c := H.came 142847 (by omega)
  unfold Slope.slopeT Slope.sumT
  rw [c 0 (by omega), c 1 (by omega), c 3 (by omega), c 4 (by omega)]
  rfl
theorem win_zero (y : List Int) (H : Z 30 y) : winT y = 0 := by
  have hs : ∀ j, j ≤ 30 → Win.sumT y j = 0 := fun j hj => by
    induction j with
    | zero => exact Win.sum_none y
    | succ j ih =>
      rw [Win.sum_step, ih (by omega)]
      unfold Win.cameS
      rw [H j (by omega)]
      rfl
  unfold Win.winT
  rw [hs 30 (by omega)]
  rfl
theorem Z.square {n : Nat} {h : List Int} (H : Z n h) : Z n (h.map squareT) := by
  intro k hk
  have h1 := H k hk
  rw [List.getD_eq_getElem?_getD] at h1 ⊢
  rw [List.getElem?_map]
  cases hc : h[k]? with
  | none => rfl
  | some v =>
    rw [hc] at h1
    replace h1 : v = 0 := h1
    subst h1
    rfl
/-- Behind so many samples that are as the base nothing is left. -/
theorem wave_zero (m : Nat) (h : List Int) (H : Z 78 (inT h)) : waveT m h = noWave := by
  have h1 : Z 75 (nT m h) := H.hist 4 (by omega) (notch_zero m) (by omega)
  have h2 : Z 65 (lT m h) := h1.hist 11 (by omega) low_zero (by omega)
  have h3 : Z 34 (hT m h) := h2.hist 32 (by omega) high_zero (by omega)
  have h4 : Z 30 (dT m h) := h3.hist 5 (by omega) slope_zero (by omega)
  have h5 : Z 30 (eT m h) := h4.square
  have hd : ∀ l : List Int, Z 1 l → l.headD 0 = 0 := fun l hl => by
    have := hl 0 (by omega)
    cases l with
    | nil => rfl
    | cons v l => exact this
  unfold waveT noWave
  rw [hd _ (h3.less (by omega)), hd _ (h4.less (by omega)), hd _ (h5.less (by omega)), win_zero _ h5]
/-- Samples that are as the base, as they come in. -/
theorem in_same (n : Nat) (l h : List Int) (v : Int) (hl : n ≤ l.length) (hv : ∀ u ∈ l, near16 u = near16 v) (hb : baseT (l ++ h) = near16 v) : Z n (inT (l ++ h)) := by
  intro k hk
  unfold inT
  rw [List.getD_eq_getElem?_getD, List.getElem?_map, List.getElem?_append_left (by omega), List.getElem?_eq_getElem (by omega)]
  show near16 _ - _ = 0
  rw [hb, hv _ (List.getElem_mem _)]
  omega
/-- Samples that are all the same come to nothing. -/
theorem wave_even (m n : Nat) (v : Int) : waveT m (List.replicate n v) = noWave := by
  refine wave_zero m _ fun k hk => ?_
  rcases Nat.lt_or_ge k n with h1 | h1
  · unfold inT baseT
    rw [List.getD_eq_getElem?_getD, List.getElem?_map, List.getElem?_replicate, if_pos h1, List.getLast?_replicate, if_neg (by omega)]
    show near16 v - near16 v = 0
    omega
  · rw [List.getD_eq_getElem?_getD, List.getElem?_eq_none (by rw [in_length, List.length_replicate]; exact h1)]
    rfl
/-- Behind 78 that are as the first one nothing is left, whatever came between. -/
theorem wave_again (m n : Nat) (v : Int) (h : List Int) (hn : 78 ≤ n) : waveT m (List.replicate n v ++ (h ++ [v])) = noWave := by
  refine wave_zero m _ ((in_same n _ _ v (by simp) (fun u hu => by rw [(List.mem_replicate.1 hu).2]) ?_).less hn)
  unfold baseT
  rw [← List.append_assoc, List.getLast?_append]
  rfl
/-! ### What is lifted -/
/-- Samples that are all higher by the same come in the same, where all may be. -/
theorem in_lifted (h : List Int) (by_ : Int) (hh : ∀ u ∈ h, (-32768 ≤ u ∧ u ≤ 32767) ∧ (-32768 ≤ u + by_ ∧ u + by_ ≤ 32767)) : inT (h.map (· + by_)) = inT h := by
  cases h with
  | nil => rfl
  | cons v h =>
    unfold inT baseT
    rw [List.getLast?_map, List.map_map]
    have hl : (v :: h).getLast?.getD 0 = (v :: h).getLast (by simp) := by rw [List.getLast?_eq_some_getLast (by simp)]; rfl
    have h1 : (((v :: h).getLast?).map (· + by_)).getD 0 = (v :: h).getLast (by simp) + by_ := by rw [List.getLast?_eq_some_getLast (by simp)]; rfl
    have h2 := hh _ (List.getLast_mem (show v :: h ≠ [] by simp))
    refine List.map_congr_left fun u hu => ?_
    have h3 := hh u hu
    show near16 (u + by_) - near16 _ = near16 u - near16 _
    rw [h1, hl, near16_in _ h3.1, near16_in _ h3.2, near16_in _ h2.1, near16_in _ h2.2]
    omega
theorem wave_lifted (m : Nat) (h h' : List Int) (he : inT h = inT h') : waveT m h = waveT m h' := by
  unfold waveT eT dT hT lT nT
  rw [he]
end Go.Proofs.Ytejlhdmfcmhlaaa.Chain
end
section
/- Rows of elements of several cells each (structs), as lists: what reads so, rows of the call's own, appending. Of no program. -/
set_option linter.unusedSimpArgs false
set_option linter.unusedVariables false
namespace Go.Proofs.Ytejlhdmfcmhlaaa.Row
open Go.RowKit

/-- How an element lies: k cells. -/
structure Shape (α : Type) where
  k : Nat
  enc : α → List Value
  len : ∀ a, (enc a).length = k
  pos : 0 < k
  one : ∀ a, ∀ u ∈ enc a, u.oneCell' = true
section
variable {α : Type} {S : Shape α}
def flat (S : Shape α) (ys : List α) : List Value := ys.flatMap S.enc
theorem flat_nil : flat S [] = [] := rfl
theorem flat_append (xs ys : List α) : flat S (xs ++ ys) = flat S xs ++ flat S ys := List.flatMap_append
theorem flat_length (ys : List α) : (flat S ys).length = ys.length * S.k := by
  induction ys with
  | nil => simp [flat]
  | cons y ys ih => rw [show flat S (y :: ys) = S.enc y ++ flat S ys from rfl, List.length_append, S.len, ih, List.length_cons, Nat.add_mul, Nat.one_mul, Nat.add_comm]
theorem flat_one (ys : List α) : ∀ u ∈ flat S ys, u.oneCell' = true := by
  intro u hu
  obtain ⟨y, _, hy⟩ := List.mem_flatMap.1 hu
  exact S.one y u hy
theorem flat_get (ys : List α) (i m : Nat) (hi : i < ys.length) (hm : m < S.k) : (flat S ys)[i * S.k + m]? = (S.enc ys[i])[m]? := by
  induction ys generalizing i with
  | nil => simp at hi
  | cons y ys ih =>
    rw [show flat S (y :: ys) = S.enc y ++ flat S ys from rfl]
    cases i with
    | zero => rw [Nat.zero_mul, Nat.zero_add, List.getElem?_append_left (by rw [S.len]; exact hm)]; rfl
    | succ i =>
      rw [Nat.add_mul, Nat.one_mul, List.getElem?_append_right (by rw [S.len]; omega), S.len, show i * S.k + S.k + m - S.k = i * S.k + m by omega]
      exact ih i (by simpa using hi)
theorem flat_take (ys : List α) (n : Nat) : (flat S ys).take (n * S.k) = flat S (ys.take n) := by
  induction ys generalizing n with
  | nil => simp [flat]
  | cons y ys ih =>
    cases n with
    | zero => simp [flat]
    | succ n =>
      rw [show flat S (y :: ys) = S.enc y ++ flat S ys from rfl, List.take_succ_cons, show flat S (y :: ys.take n) = S.enc y ++ flat S (ys.take n) from rfl, ← ih n, List.take_append, S.len, Nat.add_mul, Nat.one_mul]
      rw [List.take_of_length_le (by rw [S.len]; omega), Nat.add_sub_cancel]

/-- The slice (a, len) reads as these elements. -/
structure Vals (S : Shape α) (w : World) (a : Option Addr) (len : Nat) (ys : List α) : Prop where
  len_ : ys.length = len
  cells : 0 < len → ∃ x, a = some x ∧ ∀ j u, (flat S ys)[j]? = some u → w.cell? (x.add j) = some u
theorem Vals.none_ (w : World) : Vals S w none 0 [] := ⟨rfl, fun h => absurd h (by omega)⟩
theorem Vals.same {w w' : World} {a : Option Addr} {len : Nat} {ys : List α} (h : Vals S w a len ys) (e : w'.heap = w.heap) : Vals S w' a len ys :=
  ⟨h.len_, fun hl => by
    obtain ⟨x, hx, hc⟩ := h.cells hl
    exact ⟨x, hx, fun j u hu => by have := hc j u hu; unfold World.cell? at *; rw [e]; exact this⟩⟩
theorem Vals.drewN {w : World} {a : Option Addr} {len : Nat} {ys : List α} (h : Vals S w a len ys) (k : Nat) : Vals S (w.drewN k) a len ys := h.same rfl
theorem Vals.below {w w' : World} {a : Option Addr} {len : Nat} {ys : List α} (h : Vals S w a len ys) (hb : Below w.heap.size w w') : Vals S w' a len ys :=
  ⟨h.len_, fun hl => by
    obtain ⟨x, hx, hc⟩ := h.cells hl
    exact ⟨x, hx, fun j u hu => (hb.cell (World.block_lt_of_cell? _ _ (hc j u hu))).trans (hc j u hu)⟩⟩
theorem Vals.alloc {w : World} {a : Option Addr} {len : Nat} {ys : List α} (h : Vals S w a len ys) (o : Obj) : Vals S (w.alloc o) a len ys := h.below ((Below.refl _ _).alloc (Nat.le_refl _) _)
theorem Vals.kept {w w' : World} {T : List Nat} {a : Option Addr} {len : Nat} {ys : List α} (h : Vals S w a len ys) (hb : Kept T w w') (h1 : 0 < len → ∀ x, a = some x → x.block ∉ T) : Vals S w' a len ys :=
  ⟨h.len_, fun hl => by
    obtain ⟨x, hx, hc⟩ := h.cells hl
    have hxb := h1 hl x hx
    exact ⟨x, hx, fun j u hu => (hb.cell (World.block_lt_of_cell? _ _ (hc j u hu)) (by rw [block_add]; exact hxb)).trans (hc j u hu)⟩⟩
/-- Cell m of element i. -/
theorem Vals.at_ {w : World} {x : Addr} {len : Nat} {ys : List α} (h : Vals S w (some x) len ys) (i m : Nat) (hi : i < ys.length) (u : Value) (hu : (S.enc ys[i])[m]? = some u) : w.cell? (x.add (i * S.k + m)) = some u := by
  have hm : m < S.k := by rw [← S.len ys[i]]; exact (List.getElem?_eq_some_iff.1 hu).1
  obtain ⟨y, hy, hc⟩ := h.cells (by have := h.len_; omega)
  injection hy with hy
  subst hy
  exact hc _ u (by rw [flat_get ys i m hi hm]; exact hu)
theorem Vals.take {w : World} {a : Option Addr} {len : Nat} {ys : List α} (h : Vals S w a len ys) (p : Nat) (hp : p ≤ len) : Vals S w a p (ys.take p) := by
  have hl := h.len_
  refine ⟨by rw [List.length_take]; omega, fun h0 => ?_⟩
  obtain ⟨x, hx, hc⟩ := h.cells (by omega)
  refine ⟨x, hx, fun j u hu => hc j u ?_⟩
  rw [← flat_take] at hu
  rw [List.getElem?_take] at hu
  split at hu
  · exact hu
  · cases hu
theorem Vals.has {w : World} {g : Nat} {t : TypeId} {ys : List α} {tl : List Value} (h : Has w g t (flat S ys ++ tl).toArray) : Vals S w (some ⟨g, 0, none⟩) ys.length ys :=
  ⟨rfl, fun _ => ⟨_, rfl, fun j u hu => by
    have hj : j < (flat S ys).length := (List.getElem?_eq_some_iff.1 hu).1
    have h9 := h.cell j
    rw [List.getElem?_toArray, List.getElem?_append_left hj, hu] at h9
    rwa [show (Addr.add ⟨g, 0, none⟩ j) = ⟨g, j, none⟩ by simp [Addr.add]; rintro rfl; rfl]⟩⟩
theorem Vals.own {w : World} {base : Nat} {t : TypeId} {v : Value} {n : Nat} {xs : List α} (h : w.ownsRow base t S.k v n (flat S xs)) : ∃ A c, v = .slice A n c ∧ n ≤ c ∧ c ≤ 9223372036854775807 ∧ Vals S w A n xs ∧ (∀ x, A = some x → base ≤ x.block ∧ x.block < w.heap.size) ∧ Value.ownBlock v = A.map (·.block) := by
  have hl : xs.length = n := by
    have := h.1
    rw [flat_length] at this
    exact Nat.eq_of_mul_eq_mul_right S.pos this
  rcases h.2 with ⟨rfl, rfl⟩ | ⟨g, cap, cur, rfl, hb, hh, h1, h2, h3, h4⟩
  · exact ⟨_, _, rfl, Nat.le_refl _, by omega, ⟨hl, fun h0 => absurd h0 (by omega)⟩, (fun x hx => by cases hx), rfl⟩
  · unfold maxLen at h2
    have hlt : g < w.heap.size := Has.lt (w := w) (b := g) hh
    refine ⟨_, _, rfl, h1, by omega, ⟨hl, fun _ => ⟨_, rfl, fun j u hu => ?_⟩⟩, (fun x hx => by injection hx with hx; subst hx; exact ⟨hb, hlt⟩), rfl⟩
    exact h.cells (g := g) rfl j u hu
theorem own_none (w : World) (base : Nat) (e : TypeId) : w.ownsRow base e S.k (.slice none 0 0) 0 (flat S ([] : List α)) := ⟨by simp [flat], .inl ⟨rfl, rfl⟩⟩
theorem own_empty (w : World) (e : TypeId) : World.ownsRow (w.alloc (.cells #[] e)) w.heap.size e S.k (.slice (some ⟨w.heap.size, 0, none⟩) 0 0) 0 (flat S ([] : List α)) :=
  ⟨by simp [flat], .inr ⟨_, 0, #[], rfl, Nat.le_refl _, Has.new w e #[], Nat.le_refl _, by unfold maxLen; omega, by simp, by simp [flat]⟩⟩
variable {P : Program} {w : World}
theorem run_append (base : Nat) (t ty e : TypeId) (z : Value) (bytes : Nat) (hby : bytes ≤ 64) (ht : P.underlying t = some (.slice e)) (hinfo : (P.info? e).map (fun i => (i.zero, i.size, i.bytes)) = some (some z, S.k, bytes)) (hzs : z.cells.size = S.k)
    (v : Value) (n : Nat) (xs : List α) (hown : w.ownsRow base e S.k v n (flat S xs)) (A : Option Addr) (m c : Nat) (ys : List α) (hr : Vals S w A m ys)
    (h63 : n + m ≤ 1048576) (hbase : base ≤ w.heap.size) :
    ∃ v' w', (Builtin.append_ #[t, t] ty #[v, .slice A m c]).run P w = .ok v' w' ∧ w'.ownsRow base e S.k v' (n + m) (flat S (xs ++ ys)) ∧ w.grownBy w' v.ownBlock ∧
      (v'.ownBlock = v.ownBlock ∨ v'.ownBlock = some w.heap.size) := by
  obtain ⟨i, hi, hz0, hz1, hz2⟩ := info_parts hinfo
  rcases A with _ | ad
  · have hm : m = 0 := by
      rcases Nat.eq_zero_or_pos m with h0 | h0
      · exact h0
      · obtain ⟨x, hx, _⟩ := hr.cells h0
        cases hx
    subst hm
    have hy : ys = [] := List.eq_nil_of_length_eq_zero hr.len_
    subst hy
    refine ⟨v, w, ?_, by simpa using hown, World.grownBy.refl w _, .inl rfl⟩
    rcases hown.2 with ⟨rfl, rfl⟩ | ⟨g, cap, cur, rfl, _, _, hnc, _⟩
    · simp [Builtin.append_, run_underlying ht, sizeOf, typeInfo, hi, Builtin.lenOf, Builtin.firstCells]
    · simp [Builtin.append_, run_underlying ht, sizeOf, typeInfo, hi, Builtin.lenOf, Builtin.firstCells, hnc, storeCells]
  · rcases Nat.eq_zero_or_pos m with h0 | h0
    · subst h0
      have hy : ys = [] := List.eq_nil_of_length_eq_zero hr.len_
      subst hy
      obtain ⟨v', w', hrun, h2, h3, _, h5⟩ := run_append_own_at (P := P) w base t ty e i z S.k bytes ht hi hz0 hz1 hz2 hzs S.pos v n (flat S xs) hown ad 0 c (flat S []) (by simp [flat]) (fun j u hu => by simp [flat] at hu) (flat_one _)
        (by simp only [maxLen]; omega) (by
          have : (n + 0) * bytes ≤ 1048576 * 64 := Nat.mul_le_mul h63 hby
          omega) hbase
      exact ⟨v', w', hrun, by rw [flat_append]; exact h2, h3, h5⟩
    · obtain ⟨x, hx, hc⟩ := hr.cells h0
      injection hx with hx
      subst hx
      obtain ⟨v', w', hrun, h2, h3, _, h5⟩ := run_append_own_at (P := P) w base t ty e i z S.k bytes ht hi hz0 hz1 hz2 hzs S.pos v n (flat S xs) hown ad m c (flat S ys) (by rw [flat_length, hr.len_]) hc (flat_one _)
        (by simp only [maxLen]; omega) (by
          have : (n + m) * bytes ≤ 1048576 * 64 := Nat.mul_le_mul h63 hby
          omega) hbase
      exact ⟨v', w', hrun, by rw [flat_append]; exact h2, h3, h5⟩
theorem wpList_append {ops : Array Oper} {rest : List Oper} {o : Oper} {a : Act} {Q : Exit → Act → World → Prop} (hgd : o.guard = none) (s x : Operand) (t : TypeId)
    (ho : o.op = .call { callee := .builtin .append, args := #[s, x], argTypes := #[t, t] })
    (base : Nat) (e : TypeId) (z : Value) (bytes : Nat) (hby : bytes ≤ 64) (ht : P.underlying t = some (.slice e)) (hinfo : (P.info? e).map (fun i => (i.zero, i.size, i.bytes)) = some (some z, S.k, bytes)) (hzs : z.cells.size = S.k)
    (v : Value) (n : Nat) (xs : List α) (hs : a.eval s = v) (hown : w.ownsRow base e S.k v n (flat S xs)) (A : Option Addr) (m c : Nat) (ys : List α) (hx : a.eval x = .slice A m c) (hr : Vals S w A m ys)
    (h63 : n + m ≤ 1048576) (hbase : base ≤ w.heap.size)
    (h : ∀ v' w', w'.ownsRow base e S.k v' (n + m) (flat S (xs ++ ys)) → w.grownBy w' v.ownBlock → (v'.ownBlock = v.ownBlock ∨ v'.ownBlock = some w.heap.size) → wpList P ops Q rest (a.put o.dst v') w') : wpList P ops Q (o :: rest) a w := by
  refine wpList_plain hgd fun _ hK => ?_
  obtain ⟨v', w', hrun, h2, h3, h4⟩ := run_append (P := P) base t o.type e z bytes hby ht hinfo hzs v n xs hown A m c ys hr h63 hbase
  unfold Oper.wp execOp
  simp only [ho, resolve, invoke, builtin, Sem.run_bind, Sem.run_pure, Result.andThen_ok, List.map_toArray, List.map_cons, List.map_nil, hs, hx, hrun]
  exact hK _ _ (h v' w' h2 h3 h4)
/-- The same as one operation, wherever it stands. -/
theorem wp_append {o : Oper} {a : Act} {K : Act → World → Prop} {Q : Exit → Act → World → Prop} (s x : Operand) (t : TypeId)
    (ho : o.op = .call { callee := .builtin .append, args := #[s, x], argTypes := #[t, t] })
    (base : Nat) (e : TypeId) (z : Value) (bytes : Nat) (hby : bytes ≤ 64) (ht : P.underlying t = some (.slice e)) (hinfo : (P.info? e).map (fun i => (i.zero, i.size, i.bytes)) = some (some z, S.k, bytes)) (hzs : z.cells.size = S.k)
    (v : Value) (n : Nat) (xs : List α) (hs : a.eval s = v) (hown : w.ownsRow base e S.k v n (flat S xs)) (A : Option Addr) (m c : Nat) (ys : List α) (hx : a.eval x = .slice A m c) (hr : Vals S w A m ys)
    (h63 : n + m ≤ 1048576) (hbase : base ≤ w.heap.size)
    (h : ∀ v' w', w'.ownsRow base e S.k v' (n + m) (flat S (xs ++ ys)) → w.grownBy w' v.ownBlock → (v'.ownBlock = v.ownBlock ∨ v'.ownBlock = some w.heap.size) → K (a.put o.dst v') w') : Oper.wp P o a w K Q := by
  obtain ⟨v', w', hrun, h2, h3, h4⟩ := run_append (P := P) base t o.type e z bytes hby ht hinfo hzs v n xs hown A m c ys hr h63 hbase
  unfold Oper.wp execOp
  simp only [ho, resolve, invoke, builtin, Sem.run_bind, Sem.run_pure, Result.andThen_ok, List.map_toArray, List.map_cons, List.map_nil, hs, hx, hrun]
  exact h v' w' h2 h3 h4
end
end Go.Proofs.Ytejlhdmfcmhlaaa.Row
end
section
/- A slice that reads as a list of int64 values; appending one to a row of the call's own. -/
set_option linter.unusedSimpArgs false
set_option linter.unusedVariables false
namespace Go.Proofs.Ytejlhdmfcmhlaaa.RI64
open Go.RowKit

/-- The slice (a, len) reads as these values. -/
structure Vals (w : World) (a : Option Addr) (len : Nat) (ys : List Int) : Prop where
  len_ : ys.length = len
  cells : 0 < len → ∃ x, a = some x ∧ ∀ i, i < len → w.cell? (x.add i) = some (.int .i64 (ys.getD i 0))
theorem Vals.none_ (w : World) : Vals w none 0 [] := ⟨rfl, fun h => absurd h (by omega)⟩
theorem Vals.same {w w' : World} {a : Option Addr} {len : Nat} {ys : List Int} (h : Vals w a len ys) (e : w'.heap = w.heap) : Vals w' a len ys :=
  ⟨h.len_, fun hl => by
    obtain ⟨x, hx, hc⟩ := h.cells hl
    exact ⟨x, hx, fun i hi => by have := hc i hi; unfold World.cell? at *; rw [e]; exact this⟩⟩
theorem Vals.below {w w' : World} {a : Option Addr} {len : Nat} {ys : List Int} (h : Vals w a len ys) (hb : Below w.heap.size w w') : Vals w' a len ys :=
  ⟨h.len_, fun hl => by
    obtain ⟨x, hx, hc⟩ := h.cells hl
    exact ⟨x, hx, fun i hi => (hb.cell (World.block_lt_of_cell? _ _ (hc i hi))).trans (hc i hi)⟩⟩
theorem Vals.turned {w w' : World} {b g : Nat} {a : Option Addr} {len : Nat} {ys : List Int} (h : Vals w a len ys) (hb : Turned b g w w') (h1 : 0 < len → ∀ x, a = some x → x.block ≠ b ∧ x.block ≠ g) : Vals w' a len ys :=
  ⟨h.len_, fun hl => by
    obtain ⟨x, hx, hc⟩ := h.cells hl
    have hxb := h1 hl x hx
    exact ⟨x, hx, fun i hi => (hb.cell (World.block_lt_of_cell? _ _ (hc i hi)) (by rw [block_add]; exact hxb.1) (by rw [block_add]; exact hxb.2)).trans (hc i hi)⟩⟩


def vals (xs : List Int) : List Value := xs.map fun (v : Int) => Value.int .i64 v
theorem vals_one (xs : List Int) : ∀ u ∈ vals xs, u.oneCell' = true := by
  intro u hu
  obtain ⟨n, _, rfl⟩ := List.mem_map.1 hu
  rfl
theorem vals_append (xs ys : List Int) : vals (xs ++ ys) = vals xs ++ vals ys := List.map_append
theorem Vals.get {w : World} {A : Addr} {m : Nat} {ys : List Int} (h : Vals w (some A) m ys) (j : Nat) (u : Value) (hu : (vals ys)[j]? = some u) : w.cell? (A.add j) = some u := by
  have hj : j < ys.length := by
    have := (List.getElem?_eq_some_iff.1 hu).1
    simpa [vals] using this
  obtain ⟨x, hx, hc⟩ := h.cells (by have := h.len_; omega)
  injection hx with hx
  subst hx
  rw [hc j (by have := h.len_; omega), ← hu]
  simp [vals, List.getD_eq_getElem?_getD, List.getElem?_eq_getElem hj]
theorem Vals.grown {w w' : World} {row : Option Nat} {a : Option Addr} {len : Nat} {ys : List Int} (h : Vals w a len ys) (hg : w.grownBy w' row) (h1 : 0 < len → ∀ x, a = some x → some x.block ≠ row) : Vals w' a len ys :=
  ⟨h.len_, fun hl => by
    obtain ⟨x, hx, hc⟩ := h.cells hl
    exact ⟨x, hx, fun i hi => (World.cell?_of_block (hg.block (x.add i).block (World.block_lt_of_cell? _ _ (hc i hi)) (by rw [block_add]; exact h1 hl x hx))).trans (hc i hi)⟩⟩
theorem Vals.has {w : World} {g : Nat} {t : TypeId} {ys : List Int} {tl : List Value} (h : Has w g t (vals ys ++ tl).toArray) : Vals w (some ⟨g, 0, none⟩) ys.length ys :=
  ⟨rfl, fun _ => ⟨_, rfl, fun i hi => by
    have h9 := h.cell i
    rw [List.getElem?_toArray, List.getElem?_append_left (by simpa [vals] using hi)] at h9
    rw [show (Addr.add ⟨g, 0, none⟩ i) = ⟨g, i, none⟩ by simp [Addr.add]; rintro rfl; rfl, h9]
    simp [vals, List.getD_eq_getElem?_getD, List.getElem?_eq_getElem hi]⟩⟩
theorem Vals.own {w : World} {base : Nat} {t : TypeId} {v : Value} {n : Nat} {xs : List Int} (h : w.ownsRow base t 1 v n (vals xs)) : ∃ A c, v = .slice A n c ∧ n ≤ c ∧ c ≤ 9223372036854775807 ∧ Vals w A n xs ∧ (∀ x, A = some x → base ≤ x.block ∧ x.block < w.heap.size) ∧ Value.ownBlock v = A.map (·.block) := by
  have hl : xs.length = n := by have := h.1; simpa [vals] using this
  rcases h.2 with ⟨rfl, rfl⟩ | ⟨g, cap, cur, rfl, hb, hh, h1, h2, h3, h4⟩
  · exact ⟨_, _, rfl, Nat.le_refl _, by omega, ⟨hl, fun h0 => absurd h0 (by omega)⟩, (fun x hx => by cases hx), rfl⟩
  · unfold maxLen at h2
    have hlt : g < w.heap.size := Has.lt (w := w) (b := g) hh
    refine ⟨_, _, rfl, h1, by omega, ⟨hl, fun _ => ⟨_, rfl, fun i hi => ?_⟩⟩, (fun x hx => by injection hx with hx; subst hx; exact ⟨hb, hlt⟩), rfl⟩
    have hc := h.cells (g := g) rfl
    refine hc i _ ?_
    have hi' : i < xs.length := by omega
    simp [vals, List.getD_eq_getElem?_getD, List.getElem?_eq_getElem hi']

section
variable {P : Program} {w : World}
theorem run_append_vals (base : Nat) (t ty e : TypeId) (bytes : Nat) (hby : bytes ≤ 16) (ht : P.underlying t = some (.slice e)) (hinfo : (P.info? e).map (fun i => (i.zero, i.size, i.bytes)) = some (some (.int .i64 0), 1, bytes))
    (v : Value) (n : Nat) (xs : List Int) (hown : w.ownsRow base e 1 v n (vals xs)) (A : Option Addr) (m c : Nat) (ys : List Int) (hr : Vals w A m ys)
    (h63 : n + m ≤ 1048576) (hbase : base ≤ w.heap.size) :
    ∃ v' w', (Builtin.append_ #[t, t] ty #[v, .slice A m c]).run P w = .ok v' w' ∧ w'.ownsRow base e 1 v' (n + m) (vals (xs ++ ys)) ∧ w.grownBy w' v.ownBlock ∧
      (v'.ownBlock = v.ownBlock ∨ v'.ownBlock = some w.heap.size) := by
  obtain ⟨i, hi, hz0, hz1, hz2⟩ := info_parts hinfo
  rcases A with _ | ad
  · have hm : m = 0 := by
      rcases Nat.eq_zero_or_pos m with h0 | h0
      · exact h0
      · obtain ⟨x, hx, _⟩ := hr.cells h0
        cases hx
    subst hm
    have hy : ys = [] := List.eq_nil_of_length_eq_zero hr.len_
    subst hy
    refine ⟨v, w, ?_, by simpa using hown, World.grownBy.refl w _, .inl rfl⟩
    rcases hown.2 with ⟨rfl, rfl⟩ | ⟨g, cap, cur, rfl, _, _, hnc, _⟩
    · simp [Builtin.append_, run_underlying ht, sizeOf, typeInfo, hi, Builtin.lenOf, Builtin.firstCells]
    · simp [Builtin.append_, run_underlying ht, sizeOf, typeInfo, hi, Builtin.lenOf, Builtin.firstCells, hnc, storeCells]
  · obtain ⟨v', w', hrun, h2, h3, _, h5⟩ := run_append_own_at (P := P) w base t ty e i _ 1 bytes ht hi hz0 hz1 hz2 rfl (by omega) v n (vals xs) hown ad m c (vals ys) (by simp [vals, hr.len_]) hr.get (vals_one ys)
      (by simp only [maxLen]; omega) (by
        have : (n + m) * bytes ≤ 1048576 * 16 := Nat.mul_le_mul h63 hby
        omega) hbase
    exact ⟨v', w', hrun, by rw [vals_append]; exact h2, h3, h5⟩
theorem wpList_append_vals {ops : Array Oper} {rest : List Oper} {o : Oper} {a : Act} {Q : Exit → Act → World → Prop} (hgd : o.guard = none) (s x : Operand) (t : TypeId)
    (ho : o.op = .call { callee := .builtin .append, args := #[s, x], argTypes := #[t, t] })
    (base : Nat) (e : TypeId) (bytes : Nat) (hby : bytes ≤ 16) (ht : P.underlying t = some (.slice e)) (hinfo : (P.info? e).map (fun i => (i.zero, i.size, i.bytes)) = some (some (.int .i64 0), 1, bytes))
    (v : Value) (n : Nat) (xs : List Int) (hs : a.eval s = v) (hown : w.ownsRow base e 1 v n (vals xs)) (A : Option Addr) (m c : Nat) (ys : List Int) (hx : a.eval x = .slice A m c) (hr : Vals w A m ys)
    (h63 : n + m ≤ 1048576) (hbase : base ≤ w.heap.size)
    (h : ∀ v' w', w'.ownsRow base e 1 v' (n + m) (vals (xs ++ ys)) → w.grownBy w' v.ownBlock → (v'.ownBlock = v.ownBlock ∨ v'.ownBlock = some w.heap.size) → wpList P ops Q rest (a.put o.dst v') w') : wpList P ops Q (o :: rest) a w := by
  refine wpList_plain hgd fun _ hK => ?_
  obtain ⟨v', w', hrun, h2, h3, h4⟩ := run_append_vals (P := P) base t o.type e bytes hby ht hinfo v n xs hown A m c ys hr h63 hbase
  unfold Oper.wp execOp
  simp only [ho, resolve, invoke, builtin, Sem.run_bind, Sem.run_pure, Result.andThen_ok, List.map_toArray, List.map_cons, List.map_nil, hs, hx, hrun]
  exact hK _ _ (h v' w' h2 h3 h4)
/-- An empty row that a literal made. -/
theorem own_empty (w : World) (e : TypeId) : World.ownsRow (w.alloc (.cells #[] e)) w.heap.size e 1 (.slice (some ⟨w.heap.size, 0, none⟩) 0 0) 0 (vals ([] : List Int)) :=
  ⟨rfl, .inr ⟨_, 0, #[], rfl, Nat.le_refl _, Has.new w e #[], Nat.le_refl _, by unfold maxLen; omega, rfl, rfl⟩⟩
end
end Go.Proofs.Ytejlhdmfcmhlaaa.RI64
end
section
/- A slice that reads as a list of int32 values; appending one to a row of the call's own. -/
set_option linter.unusedSimpArgs false
set_option linter.unusedVariables false
namespace Go.Proofs.Ytejlhdmfcmhlaaa.RI32
open Go.RowKit

/-- The slice (a, len) reads as these values. -/
structure Vals (w : World) (a : Option Addr) (len : Nat) (ys : List Int) : Prop where
  len_ : ys.length = len
  cells : 0 < len → ∃ x, a = some x ∧ ∀ i, i < len → w.cell? (x.add i) = some (.int .i32 (ys.getD i 0))
theorem Vals.none_ (w : World) : Vals w none 0 [] := ⟨rfl, fun h => absurd h (by omega)⟩
theorem Vals.same {w w' : World} {a : Option Addr} {len : Nat} {ys : List Int} (h : Vals w a len ys) (e : w'.heap = w.heap) : Vals w' a len ys :=
  ⟨h.len_, fun hl => by
    obtain ⟨x, hx, hc⟩ := h.cells hl
    exact ⟨x, hx, fun i hi => by have := hc i hi; unfold World.cell? at *; rw [e]; exact this⟩⟩
theorem Vals.below {w w' : World} {a : Option Addr} {len : Nat} {ys : List Int} (h : Vals w a len ys) (hb : Below w.heap.size w w') : Vals w' a len ys :=
  ⟨h.len_, fun hl => by
    obtain ⟨x, hx, hc⟩ := h.cells hl
    exact ⟨x, hx, fun i hi => (hb.cell (World.block_lt_of_cell? _ _ (hc i hi))).trans (hc i hi)⟩⟩
theorem Vals.turned {w w' : World} {b g : Nat} {a : Option Addr} {len : Nat} {ys : List Int} (h : Vals w a len ys) (hb : Turned b g w w') (h1 : 0 < len → ∀ x, a = some x → x.block ≠ b ∧ x.block ≠ g) : Vals w' a len ys :=
  ⟨h.len_, fun hl => by
    obtain ⟨x, hx, hc⟩ := h.cells hl
    have hxb := h1 hl x hx
    exact ⟨x, hx, fun i hi => (hb.cell (World.block_lt_of_cell? _ _ (hc i hi)) (by rw [block_add]; exact hxb.1) (by rw [block_add]; exact hxb.2)).trans (hc i hi)⟩⟩


def vals (xs : List Int) : List Value := xs.map fun (v : Int) => Value.int .i32 v
theorem vals_one (xs : List Int) : ∀ u ∈ vals xs, u.oneCell' = true := by
  intro u hu
  obtain ⟨n, _, rfl⟩ := List.mem_map.1 hu
  rfl
theorem vals_append (xs ys : List Int) : vals (xs ++ ys) = vals xs ++ vals ys := List.map_append
theorem Vals.get {w : World} {A : Addr} {m : Nat} {ys : List Int} (h : Vals w (some A) m ys) (j : Nat) (u : Value) (hu : (vals ys)[j]? = some u) : w.cell? (A.add j) = some u := by
  have hj : j < ys.length := by
    have := (List.getElem?_eq_some_iff.1 hu).1
    simpa [vals] using this
  obtain ⟨x, hx, hc⟩ := h.cells (by have := h.len_; omega)
  injection hx with hx
  subst hx
  rw [hc j (by have := h.len_; omega), ← hu]
  simp [vals, List.getD_eq_getElem?_getD, List.getElem?_eq_getElem hj]
theorem Vals.grown {w w' : World} {row : Option Nat} {a : Option Addr} {len : Nat} {ys : List Int} (h : Vals w a len ys) (hg : w.grownBy w' row) (h1 : 0 < len → ∀ x, a = some x → some x.block ≠ row) : Vals w' a len ys :=
  ⟨h.len_, fun hl => by
    obtain ⟨x, hx, hc⟩ := h.cells hl
    exact ⟨x, hx, fun i hi => (World.cell?_of_block (hg.block (x.add i).block (World.block_lt_of_cell? _ _ (hc i hi)) (by rw [block_add]; exact h1 hl x hx))).trans (hc i hi)⟩⟩
theorem Vals.has {w : World} {g : Nat} {t : TypeId} {ys : List Int} {tl : List Value} (h : Has w g t (vals ys ++ tl).toArray) : Vals w (some ⟨g, 0, none⟩) ys.length ys :=
  ⟨rfl, fun _ => ⟨_, rfl, fun i hi => by
    have h9 := h.cell i
    rw [List.getElem?_toArray, List.getElem?_append_left (by simpa [vals] using hi)] at h9
    rw [show (Addr.add ⟨g, 0, none⟩ i) = ⟨g, i, none⟩ by simp [Addr.add]; rintro rfl; rfl, h9]
    simp [vals, List.getD_eq_getElem?_getD, List.getElem?_eq_getElem hi]⟩⟩
theorem Vals.own {w : World} {base : Nat} {t : TypeId} {v : Value} {n : Nat} {xs : List Int} (h : w.ownsRow base t 1 v n (vals xs)) : ∃ A c, v = .slice A n c ∧ n ≤ c ∧ c ≤ 9223372036854775807 ∧ Vals w A n xs ∧ (∀ x, A = some x → base ≤ x.block ∧ x.block < w.heap.size) ∧ Value.ownBlock v = A.map (·.block) := by
  have hl : xs.length = n := by have := h.1; simpa [vals] using this
  rcases h.2 with ⟨rfl, rfl⟩ | ⟨g, cap, cur, rfl, hb, hh, h1, h2, h3, h4⟩
  · exact ⟨_, _, rfl, Nat.le_refl _, by omega, ⟨hl, fun h0 => absurd h0 (by omega)⟩, (fun x hx => by cases hx), rfl⟩
  · unfold maxLen at h2
    have hlt : g < w.heap.size := Has.lt (w := w) (b := g) hh
    refine ⟨_, _, rfl, h1, by omega, ⟨hl, fun _ => ⟨_, rfl, fun i hi => ?_⟩⟩, (fun x hx => by injection hx with hx; subst hx; exact ⟨hb, hlt⟩), rfl⟩
    have hc := h.cells (g := g) rfl
    refine hc i _ ?_
    have hi' : i < xs.length := by omega
    simp [vals, List.getD_eq_getElem?_getD, List.getElem?_eq_getElem hi']

section
variable {P : Program} {w : World}
theorem run_append_vals (base : Nat) (t ty e : TypeId) (bytes : Nat) (hby : bytes ≤ 16) (ht : P.underlying t = some (.slice e)) (hinfo : (P.info? e).map (fun i => (i.zero, i.size, i.bytes)) = some (some (.int .i32 0), 1, bytes))
    (v : Value) (n : Nat) (xs : List Int) (hown : w.ownsRow base e 1 v n (vals xs)) (A : Option Addr) (m c : Nat) (ys : List Int) (hr : Vals w A m ys)
    (h63 : n + m ≤ 1048576) (hbase : base ≤ w.heap.size) :
    ∃ v' w', (Builtin.append_ #[t, t] ty #[v, .slice A m c]).run P w = .ok v' w' ∧ w'.ownsRow base e 1 v' (n + m) (vals (xs ++ ys)) ∧ w.grownBy w' v.ownBlock ∧
      (v'.ownBlock = v.ownBlock ∨ v'.ownBlock = some w.heap.size) := by
  obtain ⟨i, hi, hz0, hz1, hz2⟩ := info_parts hinfo
  rcases A with _ | ad
  · have hm : m = 0 := by
      rcases Nat.eq_zero_or_pos m with h0 | h0
      · exact h0
      · obtain ⟨x, hx, _⟩ := hr.cells h0
        cases hx
    subst hm
    have hy : ys = [] := List.eq_nil_of_length_eq_zero hr.len_
    subst hy
    refine ⟨v, w, ?_, by simpa using hown, World.grownBy.refl w _, .inl rfl⟩
    rcases hown.2 with ⟨rfl, rfl⟩ | ⟨g, cap, cur, rfl, _, _, hnc, _⟩
    · simp [Builtin.append_, run_underlying ht, sizeOf, typeInfo, hi, Builtin.lenOf, Builtin.firstCells]
    · simp [Builtin.append_, run_underlying ht, sizeOf, typeInfo, hi, Builtin.lenOf, Builtin.firstCells, hnc, storeCells]
  · obtain ⟨v', w', hrun, h2, h3, _, h5⟩ := run_append_own_at (P := P) w base t ty e i _ 1 bytes ht hi hz0 hz1 hz2 rfl (by omega) v n (vals xs) hown ad m c (vals ys) (by simp [vals, hr.len_]) hr.get (vals_one ys)
      (by simp only [maxLen]; omega) (by
        have : (n + m) * bytes ≤ 1048576 * 16 := Nat.mul_le_mul h63 hby
        omega) hbase
    exact ⟨v', w', hrun, by rw [vals_append]; exact h2, h3, h5⟩
theorem wpList_append_vals {ops : Array Oper} {rest : List Oper} {o : Oper} {a : Act} {Q : Exit → Act → World → Prop} (hgd : o.guard = none) (s x : Operand) (t : TypeId)
    (ho : o.op = .call { callee := .builtin .append, args := #[s, x], argTypes := #[t, t] })
    (base : Nat) (e : TypeId) (bytes : Nat) (hby : bytes ≤ 16) (ht : P.underlying t = some (.slice e)) (hinfo : (P.info? e).map (fun i => (i.zero, i.size, i.bytes)) = some (some (.int .i32 0), 1, bytes))
    (v : Value) (n : Nat) (xs : List Int) (hs : a.eval s = v) (hown : w.ownsRow base e 1 v n (vals xs)) (A : Option Addr) (m c : Nat) (ys : List Int) (hx : a.eval x = .slice A m c) (hr : Vals w A m ys)
    (h63 : n + m ≤ 1048576) (hbase : base ≤ w.heap.size)
    (h : ∀ v' w', w'.ownsRow base e 1 v' (n + m) (vals (xs ++ ys)) → w.grownBy w' v.ownBlock → (v'.ownBlock = v.ownBlock ∨ v'.ownBlock = some w.heap.size) → wpList P ops Q rest (a.put o.dst v') w') : wpList P ops Q (o :: rest) a w := by
  refine wpList_plain hgd fun _ hK => ?_
  obtain ⟨v', w', hrun, h2, h3, h4⟩ := run_append_vals (P := P) base t o.type e bytes hby ht hinfo v n xs hown A m c ys hr h63 hbase
  unfold Oper.wp execOp
  simp only [ho, resolve, invoke, builtin, Sem.run_bind, Sem.run_pure, Result.andThen_ok, List.map_toArray, List.map_cons, List.map_nil, hs, hx, hrun]
  exact hK _ _ (h v' w' h2 h3 h4)
/-- An empty row that a literal made. -/
theorem own_empty (w : World) (e : TypeId) : World.ownsRow (w.alloc (.cells #[] e)) w.heap.size e 1 (.slice (some ⟨w.heap.size, 0, none⟩) 0 0) 0 (vals ([] : List Int)) :=
  ⟨rfl, .inr ⟨_, 0, #[], rfl, Nat.le_refl _, Has.new w e #[], Nat.le_refl _, by unfold maxLen; omega, rfl, rfl⟩⟩
end
end Go.Proofs.Ytejlhdmfcmhlaaa.RI32
end
section
/- A slice that reads as a list of int16 values; appending one to a row of the call's own. -/
set_option linter.unusedSimpArgs false
set_option linter.unusedVariables false
namespace Go.Proofs.Ytejlhdmfcmhlaaa.RI16
open Go.RowKit

/-- The slice (a, len) reads as these values. -/
structure Vals (w : World) (a : Option Addr) (len : Nat) (ys : List Int) : Prop where
  len_ : ys.length = len
  cells : 0 < len → ∃ x, a = some x ∧ ∀ i, i < len → w.cell? (x.add i) = some (.int .i16 (ys.getD i 0))
theorem Vals.none_ (w : World) : Vals w none 0 [] := ⟨rfl, fun h => absurd h (by omega)⟩
theorem Vals.same {w w' : World} {a : Option Addr} {len : Nat} {ys : List Int} (h : Vals w a len ys) (e : w'.heap = w.heap) : Vals w' a len ys :=
  ⟨h.len_, fun hl => by
    obtain ⟨x, hx, hc⟩ := h.cells hl
    exact ⟨x, hx, fun i hi => by have := hc i hi; unfold World.cell? at *; rw [e]; exact this⟩⟩
theorem Vals.below {w w' : World} {a : Option Addr} {len : Nat} {ys : List Int} (h : Vals w a len ys) (hb : Below w.heap.size w w') : Vals w' a len ys :=
  ⟨h.len_, fun hl => by
    obtain ⟨x, hx, hc⟩ := h.cells hl
    exact ⟨x, hx, fun i hi => (hb.cell (World.block_lt_of_cell? _ _ (hc i hi))).trans (hc i hi)⟩⟩
theorem Vals.turned {w w' : World} {b g : Nat} {a : Option Addr} {len : Nat} {ys : List Int} (h : Vals w a len ys) (hb : Turned b g w w') (h1 : 0 < len → ∀ x, a = some x → x.block ≠ b ∧ x.block ≠ g) : Vals w' a len ys :=
  ⟨h.len_, fun hl => by
    obtain ⟨x, hx, hc⟩ := h.cells hl
    have hxb := h1 hl x hx
    exact ⟨x, hx, fun i hi => (hb.cell (World.block_lt_of_cell? _ _ (hc i hi)) (by rw [block_add]; exact hxb.1) (by rw [block_add]; exact hxb.2)).trans (hc i hi)⟩⟩


def vals (xs : List Int) : List Value := xs.map fun (v : Int) => Value.int .i16 v
theorem vals_one (xs : List Int) : ∀ u ∈ vals xs, u.oneCell' = true := by
  intro u hu
  obtain ⟨n, _, rfl⟩ := List.mem_map.1 hu
  rfl
theorem vals_append (xs ys : List Int) : vals (xs ++ ys) = vals xs ++ vals ys := List.map_append
theorem Vals.get {w : World} {A : Addr} {m : Nat} {ys : List Int} (h : Vals w (some A) m ys) (j : Nat) (u : Value) (hu : (vals ys)[j]? = some u) : w.cell? (A.add j) = some u := by
  have hj : j < ys.length := by
    have := (List.getElem?_eq_some_iff.1 hu).1
    simpa [vals] using this
  obtain ⟨x, hx, hc⟩ := h.cells (by have := h.len_; omega)
  injection hx with hx
  subst hx
  rw [hc j (by have := h.len_; omega), ← hu]
  simp [vals, List.getD_eq_getElem?_getD, List.getElem?_eq_getElem hj]
theorem Vals.grown {w w' : World} {row : Option Nat} {a : Option Addr} {len : Nat} {ys : List Int} (h : Vals w a len ys) (hg : w.grownBy w' row) (h1 : 0 < len → ∀ x, a = some x → some x.block ≠ row) : Vals w' a len ys :=
  ⟨h.len_, fun hl => by
    obtain ⟨x, hx, hc⟩ := h.cells hl
    exact ⟨x, hx, fun i hi => (World.cell?_of_block (hg.block (x.add i).block (World.block_lt_of_cell? _ _ (hc i hi)) (by rw [block_add]; exact h1 hl x hx))).trans (hc i hi)⟩⟩
theorem Vals.has {w : World} {g : Nat} {t : TypeId} {ys : List Int} {tl : List Value} (h : Has w g t (vals ys ++ tl).toArray) : Vals w (some ⟨g, 0, none⟩) ys.length ys :=
  ⟨rfl, fun _ => ⟨_, rfl, fun i hi => by
    have h9 := h.cell i
    rw [List.getElem?_toArray, List.getElem?_append_left (by simpa [vals] using hi)] at h9
    rw [show (Addr.add ⟨g, 0, none⟩ i) = ⟨g, i, none⟩ by simp [Addr.add]; rintro rfl; rfl, h9]
    simp [vals, List.getD_eq_getElem?_getD, List.getElem?_eq_getElem hi]⟩⟩
theorem Vals.own {w : World} {base : Nat} {t : TypeId} {v : Value} {n : Nat} {xs : List Int} (h : w.ownsRow base t 1 v n (vals xs)) : ∃ A c, v = .slice A n c ∧ n ≤ c ∧ c ≤ 9223372036854775807 ∧ Vals w A n xs ∧ (∀ x, A = some x → base ≤ x.block ∧ x.block < w.heap.size) ∧ Value.ownBlock v = A.map (·.block) := by
  have hl : xs.length = n := by have := h.1; simpa [vals] using this
  rcases h.2 with ⟨rfl, rfl⟩ | ⟨g, cap, cur, rfl, hb, hh, h1, h2, h3, h4⟩
  · exact ⟨_, _, rfl, Nat.le_refl _, by omega, ⟨hl, fun h0 => absurd h0 (by omega)⟩, (fun x hx => by cases hx), rfl⟩
  · unfold maxLen at h2
    have hlt : g < w.heap.size := Has.lt (w := w) (b := g) hh
    refine ⟨_, _, rfl, h1, by omega, ⟨hl, fun _ => ⟨_, rfl, fun i hi => ?_⟩⟩, (fun x hx => by injection hx with hx; subst hx; exact ⟨hb, hlt⟩), rfl⟩
    have hc := h.cells (g := g) rfl
    refine hc i _ ?_
    have hi' : i < xs.length := by omega
    simp [vals, List.getD_eq_getElem?_getD, List.getElem?_eq_getElem hi']

section
variable {P : Program} {w : World}
theorem run_append_vals (base : Nat) (t ty e : TypeId) (bytes : Nat) (hby : bytes ≤ 16) (ht : P.underlying t = some (.slice e)) (hinfo : (P.info? e).map (fun i => (i.zero, i.size, i.bytes)) = some (some (.int .i16 0), 1, bytes))
    (v : Value) (n : Nat) (xs : List Int) (hown : w.ownsRow base e 1 v n (vals xs)) (A : Option Addr) (m c : Nat) (ys : List Int) (hr : Vals w A m ys)
    (h63 : n + m ≤ 1048576) (hbase : base ≤ w.heap.size) :
    ∃ v' w', (Builtin.append_ #[t, t] ty #[v, .slice A m c]).run P w = .ok v' w' ∧ w'.ownsRow base e 1 v' (n + m) (vals (xs ++ ys)) ∧ w.grownBy w' v.ownBlock ∧
      (v'.ownBlock = v.ownBlock ∨ v'.ownBlock = some w.heap.size) := by
  obtain ⟨i, hi, hz0, hz1, hz2⟩ := info_parts hinfo
  rcases A with _ | ad
  · have hm : m = 0 := by
      rcases Nat.eq_zero_or_pos m with h0 | h0
      · exact h0
      · obtain ⟨x, hx, _⟩ := hr.cells h0
        cases hx
    subst hm
    have hy : ys = [] := List.eq_nil_of_length_eq_zero hr.len_
    subst hy
    refine ⟨v, w, ?_, by simpa using hown, World.grownBy.refl w _, .inl rfl⟩
    rcases hown.2 with ⟨rfl, rfl⟩ | ⟨g, cap, cur, rfl, _, _, hnc, _⟩
    · simp [Builtin.append_, run_underlying ht, sizeOf, typeInfo, hi, Builtin.lenOf, Builtin.firstCells]
    · simp [Builtin.append_, run_underlying ht, sizeOf, typeInfo, hi, Builtin.lenOf, Builtin.firstCells, hnc, storeCells]
  · obtain ⟨v', w', hrun, h2, h3, _, h5⟩ := run_append_own_at (P := P) w base t ty e i _ 1 bytes ht hi hz0 hz1 hz2 rfl (by omega) v n (vals xs) hown ad m c (vals ys) (by simp [vals, hr.len_]) hr.get (vals_one ys)
      (by simp only [maxLen]; omega) (by
        have : (n + m) * bytes ≤ 1048576 * 16 := Nat.mul_le_mul h63 hby
        omega) hbase
    exact ⟨v', w', hrun, by rw [vals_append]; exact h2, h3, h5⟩
theorem wpList_append_vals {ops : Array Oper} {rest : List Oper} {o : Oper} {a : Act} {Q : Exit → Act → World → Prop} (hgd : o.guard = none) (s x : Operand) (t : TypeId)
    (ho : o.op = .call { callee := .builtin .append, args := #[s, x], argTypes := #[t, t] })
    (base : Nat) (e : TypeId) (bytes : Nat) (hby : bytes ≤ 16) (ht : P.underlying t = some (.slice e)) (hinfo : (P.info? e).map (fun i => (i.zero, i.size, i.bytes)) = some (some (.int .i16 0), 1, bytes))
    (v : Value) (n : Nat) (xs : List Int) (hs : a.eval s = v) (hown : w.ownsRow base e 1 v n (vals xs)) (A : Option Addr) (m c : Nat) (ys : List Int) (hx : a.eval x = .slice A m c) (hr : Vals w A m ys)
    (h63 : n + m ≤ 1048576) (hbase : base ≤ w.heap.size)
    (h : ∀ v' w', w'.ownsRow base e 1 v' (n + m) (vals (xs ++ ys)) → w.grownBy w' v.ownBlock → (v'.ownBlock = v.ownBlock ∨ v'.ownBlock = some w.heap.size) → wpList P ops Q rest (a.put o.dst v') w') : wpList P ops Q (o :: rest) a w := by
  refine wpList_plain hgd fun _ hK => ?_
  obtain ⟨v', w', hrun, h2, h3, h4⟩ := run_append_vals (P := P) base t o.type e bytes hby ht hinfo v n xs hown A m c ys hr h63 hbase
  unfold Oper.wp execOp
  simp only [ho, resolve, invoke, builtin, Sem.run_bind, Sem.run_pure, Result.andThen_ok, List.map_toArray, List.map_cons, List.map_nil, hs, hx, hrun]
  exact hK _ _ (h v' w' h2 h3 h4)
/-- An empty row that a literal made. -/
theorem own_empty (w : World) (e : TypeId) : World.ownsRow (w.alloc (.cells #[] e)) w.heap.size e 1 (.slice (some ⟨w.heap.size, 0, none⟩) 0 0) 0 (vals ([] : List Int)) :=
  ⟨rfl, .inr ⟨_, 0, #[], rfl, Nat.le_refl _, Has.new w e #[], Nat.le_refl _, by unfold maxLen; omega, rfl, rfl⟩⟩
end
end Go.Proofs.Ytejlhdmfcmhlaaa.RI16
end
section
/- Slices of int64 that came in, as lists; rows of the call's own. -/
set_option linter.unusedSimpArgs false
set_option linter.unusedVariables false
namespace Go.Proofs.Ytejlhdmfcmhlaaa.RI64
open Go.RowKit

theorem addr_add (x : Addr) (p i : Nat) : (x.add p).add i = x.add (p + i) := by
  unfold Addr.add
  by_cases h1 : p = 0 <;> by_cases h2 : i = 0 <;> simp [h1, h2, Nat.add_assoc]
theorem Vals.take {w : World} {a : Option Addr} {len : Nat} {ys : List Int} (h : Vals w a len ys) (p : Nat) (hp : p ≤ len) : Vals w a p (ys.take p) := by
  have hl := h.len_
  refine ⟨by rw [List.length_take]; omega, fun h0 => ?_⟩
  obtain ⟨x, hx, hc⟩ := h.cells (by omega)
  refine ⟨x, hx, fun i hi => ?_⟩
  rw [hc i (by omega)]
  simp [List.getD_eq_getElem?_getD, List.getElem?_take, hi]
theorem Vals.drop {w : World} {a : Option Addr} {len : Nat} {ys : List Int} (h : Vals w a len ys) (p : Nat) (hp : p ≤ len) : Vals w (a.map (·.add p)) (len - p) (ys.drop p) := by
  have hl := h.len_
  refine ⟨by rw [List.length_drop]; omega, fun h0 => ?_⟩
  obtain ⟨x, hx, hc⟩ := h.cells (by omega)
  refine ⟨x.add p, by rw [hx]; rfl, fun i hi => ?_⟩
  rw [show (x.add p).add i = x.add (p + i) from addr_add x p i, hc (p + i) (by omega)]
  simp [List.getD_eq_getElem?_getD, List.getElem?_drop]
theorem Vals.drewN {w : World} {a : Option Addr} {len : Nat} {ys : List Int} (h : Vals w a len ys) (k : Nat) : Vals (w.drewN k) a len ys := h.same rfl
theorem Vals.alloc {w : World} {a : Option Addr} {len : Nat} {ys : List Int} (h : Vals w a len ys) (o : Obj) : Vals (w.alloc o) a len ys := h.below ((Below.refl _ _).alloc (Nat.le_refl _) _)
theorem Vals.kept {w w' : World} {S : List Nat} {a : Option Addr} {len : Nat} {ys : List Int} (h : Vals w a len ys) (hb : Kept S w w') (h1 : 0 < len → ∀ x, a = some x → x.block ∉ S) : Vals w' a len ys :=
  ⟨h.len_, fun hl => by
    obtain ⟨x, hx, hc⟩ := h.cells hl
    have hxb := h1 hl x hx
    exact ⟨x, hx, fun i hi => (hb.cell (World.block_lt_of_cell? _ _ (hc i hi)) (by rw [block_add]; exact hxb)).trans (hc i hi)⟩⟩
theorem own_none (w : World) (base : Nat) (e : TypeId) : w.ownsRow base e 1 (.slice none 0 0) 0 (vals ([] : List Int)) := ⟨rfl, .inl ⟨rfl, rfl⟩⟩
theorem own_len {w : World} {base : Nat} {e : TypeId} {n : Nat} {v : Value} {xs : List Int} (h : w.ownsRow base e 1 v n (vals xs)) : xs.length = n := by have := h.1; simpa [vals] using this
/-- One element of an own row is set anew. -/
theorem own_set {w : World} {base : Nat} {e : TypeId} {n c : Nat} {A : Option Addr} {ys : List Int} (h : w.ownsRow base e 1 (.slice A n c) n (vals ys)) (i : Nat) (hi : i < n) :
    ∃ g, A = some ⟨g, 0, none⟩ ∧ base ≤ g ∧ g < w.heap.size ∧ w.cell? ⟨g, i, none⟩ = some (.int .i64 (ys.getD i 0)) ∧ w.frozen? ⟨g, i, none⟩ = false ∧
      ∀ y : Int, (w.setCell ⟨g, i, none⟩ (.int .i64 y)).ownsRow base e 1 (.slice A n c) n (vals (ys.set i y)) := by
  have hl : ys.length = n := own_len h
  rcases h.2 with ⟨_, h0⟩ | ⟨g, cap, cur, hv, hb, hh, h1, h2, h3, h4⟩
  · omega
  · injection hv with hv1 hv2 hv3
    subst hv1
    subst hv3
    have hH : Has w g e cur := hh
    refine ⟨g, rfl, hb, hH.lt, ?_, hH.frozen i, fun y => ⟨?_, .inr ⟨g, c, cur.setIfInBounds i (.int .i64 y), rfl, hb, hH.set_ i _, h1, h2, by simpa using h3, ?_⟩⟩⟩
    · rw [hH.cell i]
      have h5 : (cur.toList.take (n * 1))[i]? = (vals ys)[i]? := by rw [h4]
      rw [List.getElem?_take, if_pos (by omega)] at h5
      rw [← Array.getElem?_toList, h5]
      simp [vals, List.getD_eq_getElem?_getD, List.getElem?_eq_getElem (show i < ys.length by omega)]
    · simp [vals, hl]
    · rw [Array.toList_setIfInBounds, List.take_set, h4]
      simp [vals, List.map_set]
theorem row_vals {w : World} {a : Option Addr} {len cap : Nat} {zs : List Int} (h : IsRow .i64 w a len cap zs) (m : Nat) (hm : m ≤ len) :
    Vals w a m (zs.take m) ∧ len ≤ cap ∧ cap ≤ 9223372036854775807 ∧ ∀ x, 0 < m → a = some x → x.block < w.heap.size := by
  rcases h with ⟨rfl, rfl, rfl, rfl⟩ | ⟨x, rfl, h1, h2, h3, h4, h5⟩
  · obtain rfl : m = 0 := by omega
    exact ⟨⟨rfl, fun h => absurd h (by omega)⟩, by omega, by omega, fun x h => absurd h (by omega)⟩
  · unfold maxLen at h2
    refine ⟨⟨by rw [List.length_take]; omega, fun _ => ⟨x, rfl, fun i hi => ?_⟩⟩, h1, by omega, fun x h hx => ?_⟩
    · rw [h4 i (by omega)]
      simp [List.getD_eq_getElem?_getD, List.getElem?_take, hi]
    · injection hx with hx
      subst hx
      have := World.block_lt_of_cell? _ _ (h4 0 (by omega))
      rwa [block_add] at this
end Go.Proofs.Ytejlhdmfcmhlaaa.RI64
end
section
/- What a filter's calls answer, as the laws of layers 10 to 14 (and 15) use it: each filter's own text gives one of these. -/
set_option linter.unusedVariables false
namespace Go.Proofs.Ytejlhdmfcmhlaaa
open Go.RowKit RI64
/-- What a slice from p on reads as. -/
theorem vals_dropIf {w : World} {a : Option Addr} {len cap : Nat} {ys : List Int} (h : Vals w a len ys) (p : Nat) (hp : p ≤ len) (hc : len ≤ cap) : Vals w (if cap = p then a else a.map (fun x => x.add p)) (len - p) (ys.drop p) := by
  rcases Decidable.em (cap = p) with h1 | h1
  · rw [if_pos h1]
    exact ⟨by rw [List.length_drop, h.len_], fun h0 => absurd h0 (by omega)⟩
  · rw [if_neg h1]
    exact h.drop p hp
/-- What a Block answers: the answers, in memory of their own; of what was there only the filter's blocks turn. -/
def BlockIs (Fil : World → Nat → List Nat → List Int → Prop) (F : List Int → Int) (w : World) (b : Nat) (S : List Nat) (h ys : List Int) (e : Ending) (w' : World) : Prop :=
  ∃ B d, e = .returned (.slice B ys.length d) ∧ ys.length ≤ d ∧ d ≤ 9223372036854775807 ∧ Vals w' B ys.length (outsT F h ys) ∧ (∀ x, B = some x → w.heap.size ≤ x.block) ∧ Fil w' b S (ys.reverse ++ h) ∧ Kept S w w'
/-- A filter of this program, by its calls' numbers: what it answers of all that came (the last value first) is F of that. -/
structure FilterKit (push block reset : Nat) (F : List Int → Int) where
  /-- The filter in block b lies in the blocks S; this came (the last value first). -/
  Fil : World → Nat → List Nat → List Int → Prop
  lt : ∀ {w : World} {b : Nat} {S : List Nat} {h : List Int}, Fil w b S h → ∀ k ∈ S, k < w.heap.size
  kept : ∀ {w w' : World} {b : Nat} {S T : List Nat} {h : List Int}, Fil w b S h → Kept T w w' → (∀ k ∈ S, k ∉ T) → Fil w' b S h
  push_any : ∀ (b : Nat) (S : List Nat) (h : List Int) (v : Int) (w : World), Fil w b S h →
    Calls Try.prog push #[.pointer (some ⟨b, 0, none⟩), .int .i64 v] w fun e w' => e = .returned (.int .i64 (F (v :: h))) ∧ Fil w' b S (v :: h) ∧ Kept S w w'
  block_any : ∀ (b : Nat) (S : List Nat) (h : List Int) (A : Option Addr) (n c : Nat) (ys : List Int) (w : World), Fil w b S h → Vals w A n ys → n ≤ 100000 → n ≤ c → c ≤ 9223372036854775807 → (0 < n → ∀ x, A = some x → x.block ∉ S) →
    Calls Try.prog block #[.pointer (some ⟨b, 0, none⟩), .slice A n c] w (BlockIs Fil F w b S h ys)
  reset_any : ∀ (b : Nat) (S : List Nat) (h : List Int) (w : World), Fil w b S h → Calls Try.prog reset #[.pointer (some ⟨b, 0, none⟩)] w fun e w' => e = .returned (.tuple #[]) ∧ Fil w' b S [] ∧ Kept S w w'
  no_push : ∀ (v : Int) (w : World), Calls Try.prog push #[.pointer none, .int .i64 v] w fun e w' => e = .returned (.int .i64 0) ∧ w = w'
  no_block : ∀ (A : Option Addr) (n c : Nat) (w : World), Calls Try.prog block #[.pointer none, .slice A n c] w fun e w' => ∃ B d, e = .returned (.slice B 0 d) ∧ Below w.heap.size w w'
  no_reset : ∀ w : World, Calls Try.prog reset #[.pointer none] w fun e w' => e = .returned (.tuple #[]) ∧ w = w'
section
variable {push block reset : Nat} {F : List Int → Int} (K : FilterKit push block reset F) {w w' : World} {b : Nat} {S : List Nat} {h : List Int}
theorem FilterKit.below (hF : K.Fil w b S h) (hB : Below w.heap.size w w') : K.Fil w' b S h := K.kept hF (Kept.of_below (S := []) hB) (fun _ _ h => by cases h)
theorem FilterKit.drewN (hF : K.Fil w b S h) (n : Nat) : K.Fil (w.drewN n) b S h := K.kept hF ((Kept.refl [] w).drewN n) (fun _ _ h => by cases h)
end
/-- A filter by its Push and Reset alone, as the chain (layer 15) uses it. -/
structure FilterCore (push reset : Nat) (F : List Int → Int) where
  /-- The filter in block b lies in the blocks S; this came (the last value first). -/
  Fil : World → Nat → List Nat → List Int → Prop
  lt : ∀ {w : World} {b : Nat} {S : List Nat} {h : List Int}, Fil w b S h → ∀ k ∈ S, k < w.heap.size
  kept : ∀ {w w' : World} {b : Nat} {S T : List Nat} {h : List Int}, Fil w b S h → Kept T w w' → (∀ k ∈ S, k ∉ T) → Fil w' b S h
  push_any : ∀ (b : Nat) (S : List Nat) (h : List Int) (v : Int) (w : World), Fil w b S h →
    Calls Try.prog push #[.pointer (some ⟨b, 0, none⟩), .int .i64 v] w fun e w' => e = .returned (.int .i64 (F (v :: h))) ∧ Fil w' b S (v :: h) ∧ Kept S w w'
  reset_any : ∀ (b : Nat) (S : List Nat) (h : List Int) (w : World), Fil w b S h → Calls Try.prog reset #[.pointer (some ⟨b, 0, none⟩)] w fun e w' => e = .returned (.tuple #[]) ∧ Fil w' b S [] ∧ Kept S w w'
/-- What a New of a filter gives: it lies in new blocks, and nothing came to it. -/
def NewIs (Fil : World → Nat → List Nat → List Int → Prop) (w : World) (b : Nat) (S : List Nat) (w' : World) : Prop := Fil w' b S [] ∧ (∀ k ∈ S, w.heap.size ≤ k) ∧ Below w.heap.size w w'
end Go.Proofs.Ytejlhdmfcmhlaaa
end
section
/- Slices of int32 that came in, as lists; rows of the call's own. -/
set_option linter.unusedSimpArgs false
set_option linter.unusedVariables false
namespace Go.Proofs.Ytejlhdmfcmhlaaa.RI32
open Go.RowKit

theorem addr_add (x : Addr) (p i : Nat) : (x.add p).add i = x.add (p + i) := by
  unfold Addr.add
  by_cases h1 : p = 0 <;> by_cases h2 : i = 0 <;> simp [h1, h2, Nat.add_assoc]
theorem Vals.take {w : World} {a : Option Addr} {len : Nat} {ys : List Int} (h : Vals w a len ys) (p : Nat) (hp : p ≤ len) : Vals w a p (ys.take p) := by
  have hl := h.len_
  refine ⟨by rw [List.length_take]; omega, fun h0 => ?_⟩
  obtain ⟨x, hx, hc⟩ := h.cells (by omega)
  refine ⟨x, hx, fun i hi => ?_⟩
  rw [hc i (by omega)]
  simp [List.getD_eq_getElem?_getD, List.getElem?_take, hi]
theorem Vals.drop {w : World} {a : Option Addr} {len : Nat} {ys : List Int} (h : Vals w a len ys) (p : Nat) (hp : p ≤ len) : Vals w (a.map (·.add p)) (len - p) (ys.drop p) := by
  have hl := h.len_
  refine ⟨by rw [List.length_drop]; omega, fun h0 => ?_⟩
  obtain ⟨x, hx, hc⟩ := h.cells (by omega)
  refine ⟨x.add p, by rw [hx]; rfl, fun i hi => ?_⟩
  rw [show (x.add p).add i = x.add (p + i) from addr_add x p i, hc (p + i) (by omega)]
  simp [List.getD_eq_getElem?_getD, List.getElem?_drop]
theorem Vals.drewN {w : World} {a : Option Addr} {len : Nat} {ys : List Int} (h : Vals w a len ys) (k : Nat) : Vals (w.drewN k) a len ys := h.same rfl
theorem Vals.alloc {w : World} {a : Option Addr} {len : Nat} {ys : List Int} (h : Vals w a len ys) (o : Obj) : Vals (w.alloc o) a len ys := h.below ((Below.refl _ _).alloc (Nat.le_refl _) _)
theorem Vals.kept {w w' : World} {S : List Nat} {a : Option Addr} {len : Nat} {ys : List Int} (h : Vals w a len ys) (hb : Kept S w w') (h1 : 0 < len → ∀ x, a = some x → x.block ∉ S) : Vals w' a len ys :=
  ⟨h.len_, fun hl => by
    obtain ⟨x, hx, hc⟩ := h.cells hl
    have hxb := h1 hl x hx
    exact ⟨x, hx, fun i hi => (hb.cell (World.block_lt_of_cell? _ _ (hc i hi)) (by rw [block_add]; exact hxb)).trans (hc i hi)⟩⟩
theorem own_none (w : World) (base : Nat) (e : TypeId) : w.ownsRow base e 1 (.slice none 0 0) 0 (vals ([] : List Int)) := ⟨rfl, .inl ⟨rfl, rfl⟩⟩
theorem own_len {w : World} {base : Nat} {e : TypeId} {n : Nat} {v : Value} {xs : List Int} (h : w.ownsRow base e 1 v n (vals xs)) : xs.length = n := by have := h.1; simpa [vals] using this
/-- One element of an own row is set anew. -/
theorem own_set {w : World} {base : Nat} {e : TypeId} {n c : Nat} {A : Option Addr} {ys : List Int} (h : w.ownsRow base e 1 (.slice A n c) n (vals ys)) (i : Nat) (hi : i < n) :
    ∃ g, A = some ⟨g, 0, none⟩ ∧ base ≤ g ∧ g < w.heap.size ∧ w.cell? ⟨g, i, none⟩ = some (.int .i32 (ys.getD i 0)) ∧ w.frozen? ⟨g, i, none⟩ = false ∧
      ∀ y : Int, (w.setCell ⟨g, i, none⟩ (.int .i32 y)).ownsRow base e 1 (.slice A n c) n (vals (ys.set i y)) := by
  have hl : ys.length = n := own_len h
  rcases h.2 with ⟨_, h0⟩ | ⟨g, cap, cur, hv, hb, hh, h1, h2, h3, h4⟩
  · omega
  · injection hv with hv1 hv2 hv3
    subst hv1
    subst hv3
    have hH : Has w g e cur := hh
    refine ⟨g, rfl, hb, hH.lt, ?_, hH.frozen i, fun y => ⟨?_, .inr ⟨g, c, cur.setIfInBounds i (.int .i32 y), rfl, hb, hH.set_ i _, h1, h2, by simpa using h3, ?_⟩⟩⟩
    · rw [hH.cell i]
      have h5 : (cur.toList.take (n * 1))[i]? = (vals ys)[i]? := by rw [h4]
      rw [List.getElem?_take, if_pos (by omega)] at h5
      rw [← Array.getElem?_toList, h5]
      simp [vals, List.getD_eq_getElem?_getD, List.getElem?_eq_getElem (show i < ys.length by omega)]
    · simp [vals, hl]
    · rw [Array.toList_setIfInBounds, List.take_set, h4]
      simp [vals, List.map_set]
theorem row_vals {w : World} {a : Option Addr} {len cap : Nat} {zs : List Int} (h : IsRow .i32 w a len cap zs) (m : Nat) (hm : m ≤ len) :
    Vals w a m (zs.take m) ∧ len ≤ cap ∧ cap ≤ 9223372036854775807 ∧ ∀ x, 0 < m → a = some x → x.block < w.heap.size := by
  rcases h with ⟨rfl, rfl, rfl, rfl⟩ | ⟨x, rfl, h1, h2, h3, h4, h5⟩
  · obtain rfl : m = 0 := by omega
    exact ⟨⟨rfl, fun h => absurd h (by omega)⟩, by omega, by omega, fun x h => absurd h (by omega)⟩
  · unfold maxLen at h2
    refine ⟨⟨by rw [List.length_take]; omega, fun _ => ⟨x, rfl, fun i hi => ?_⟩⟩, h1, by omega, fun x h hx => ?_⟩
    · rw [h4 i (by omega)]
      simp [List.getD_eq_getElem?_getD, List.getElem?_take, hi]
    · injection hx with hx
      subst hx
      have := World.block_lt_of_cell? _ _ (h4 0 (by omega))
      rwa [block_add] at this
end Go.Proofs.Ytejlhdmfcmhlaaa.RI32
end
section
/- Slices of int16 that came in, as lists; rows of the call's own. -/
set_option linter.unusedSimpArgs false
set_option linter.unusedVariables false
namespace Go.Proofs.Ytejlhdmfcmhlaaa.RI16
open Go.RowKit

theorem addr_add (x : Addr) (p i : Nat) : (x.add p).add i = x.add (p + i) := by
  unfold Addr.add
  by_cases h1 : p = 0 <;> by_cases h2 : i = 0 <;> simp [h1, h2, Nat.add_assoc]
theorem Vals.take {w : World} {a : Option Addr} {len : Nat} {ys : List Int} (h : Vals w a len ys) (p : Nat) (hp : p ≤ len) : Vals w a p (ys.take p) := by
  have hl := h.len_
  refine ⟨by rw [List.length_take]; omega, fun h0 => ?_⟩
  obtain ⟨x, hx, hc⟩ := h.cells (by omega)
  refine ⟨x, hx, fun i hi => ?_⟩
  rw [hc i (by omega)]
  simp [List.getD_eq_getElem?_getD, List.getElem?_take, hi]
theorem Vals.drop {w : World} {a : Option Addr} {len : Nat} {ys : List Int} (h : Vals w a len ys) (p : Nat) (hp : p ≤ len) : Vals w (a.map (·.add p)) (len - p) (ys.drop p) := by
  have hl := h.len_
  refine ⟨by rw [List.length_drop]; omega, fun h0 => ?_⟩
  obtain ⟨x, hx, hc⟩ := h.cells (by omega)
  refine ⟨x.add p, by rw [hx]; rfl, fun i hi => ?_⟩
  rw [show (x.add p).add i = x.add (p + i) from addr_add x p i, hc (p + i) (by omega)]
  simp [List.getD_eq_getElem?_getD, List.getElem?_drop]
theorem Vals.drewN {w : World} {a : Option Addr} {len : Nat} {ys : List Int} (h : Vals w a len ys) (k : Nat) : Vals (w.drewN k) a len ys := h.same rfl
theorem Vals.alloc {w : World} {a : Option Addr} {len : Nat} {ys : List Int} (h : Vals w a len ys) (o : Obj) : Vals (w.alloc o) a len ys := h.below ((Below.refl _ _).alloc (Nat.le_refl _) _)
theorem Vals.kept {w w' : World} {S : List Nat} {a : Option Addr} {len : Nat} {ys : List Int} (h : Vals w a len ys) (hb : Kept S w w') (h1 : 0 < len → ∀ x, a = some x → x.block ∉ S) : Vals w' a len ys :=
  ⟨h.len_, fun hl => by
    obtain ⟨x, hx, hc⟩ := h.cells hl
    have hxb := h1 hl x hx
    exact ⟨x, hx, fun i hi => (hb.cell (World.block_lt_of_cell? _ _ (hc i hi)) (by rw [block_add]; exact hxb)).trans (hc i hi)⟩⟩
theorem own_none (w : World) (base : Nat) (e : TypeId) : w.ownsRow base e 1 (.slice none 0 0) 0 (vals ([] : List Int)) := ⟨rfl, .inl ⟨rfl, rfl⟩⟩
theorem own_len {w : World} {base : Nat} {e : TypeId} {n : Nat} {v : Value} {xs : List Int} (h : w.ownsRow base e 1 v n (vals xs)) : xs.length = n := by have := h.1; simpa [vals] using this
/-- One element of an own row is set anew. -/
theorem own_set {w : World} {base : Nat} {e : TypeId} {n c : Nat} {A : Option Addr} {ys : List Int} (h : w.ownsRow base e 1 (.slice A n c) n (vals ys)) (i : Nat) (hi : i < n) :
    ∃ g, A = some ⟨g, 0, none⟩ ∧ base ≤ g ∧ g < w.heap.size ∧ w.cell? ⟨g, i, none⟩ = some (.int .i16 (ys.getD i 0)) ∧ w.frozen? ⟨g, i, none⟩ = false ∧
      ∀ y : Int, (w.setCell ⟨g, i, none⟩ (.int .i16 y)).ownsRow base e 1 (.slice A n c) n (vals (ys.set i y)) := by
  have hl : ys.length = n := own_len h
  rcases h.2 with ⟨_, h0⟩ | ⟨g, cap, cur, hv, hb, hh, h1, h2, h3, h4⟩
  · omega
  · injection hv with hv1 hv2 hv3
    subst hv1
    subst hv3
    have hH : Has w g e cur := hh
    refine ⟨g, rfl, hb, hH.lt, ?_, hH.frozen i, fun y => ⟨?_, .inr ⟨g, c, cur.setIfInBounds i (.int .i16 y), rfl, hb, hH.set_ i _, h1, h2, by simpa using h3, ?_⟩⟩⟩
    · rw [hH.cell i]
      have h5 : (cur.toList.take (n * 1))[i]? = (vals ys)[i]? := by rw [h4]
      rw [List.getElem?_take, if_pos (by omega)] at h5
      rw [← Array.getElem?_toList, h5]
      simp [vals, List.getD_eq_getElem?_getD, List.getElem?_eq_getElem (show i < ys.length by omega)]
    · simp [vals, hl]
    · rw [Array.toList_setIfInBounds, List.take_set, h4]
      simp [vals, List.map_set]
theorem row_vals {w : World} {a : Option Addr} {len cap : Nat} {zs : List Int} (h : IsRow .i16 w a len cap zs) (m : Nat) (hm : m ≤ len) :
    Vals w a m (zs.take m) ∧ len ≤ cap ∧ cap ≤ 9223372036854775807 ∧ ∀ x, 0 < m → a = some x → x.block < w.heap.size := by
  rcases h with ⟨rfl, rfl, rfl, rfl⟩ | ⟨x, rfl, h1, h2, h3, h4, h5⟩
  · obtain rfl : m = 0 := by omega
    exact ⟨⟨rfl, fun h => absurd h (by omega)⟩, by omega, by omega, fun x h => absurd h (by omega)⟩
  · unfold maxLen at h2
    refine ⟨⟨by rw [List.length_take]; omega, fun _ => ⟨x, rfl, fun i hi => ?_⟩⟩, h1, by omega, fun x h hx => ?_⟩
    · rw [h4 i (by omega)]
      simp [List.getD_eq_getElem?_getD, List.getElem?_take, hi]
    · injection hx with hx
      subst hx
      have := World.block_lt_of_cell? _ _ (h4 0 (by omega))
      rwa [block_add] at this
end Go.Proofs.Ytejlhdmfcmhlaaa.RI16
end
section
/- Two more moves of a walk through a drawn region: two operations may come up; an append to a row of 64-bit values. -/
set_option linter.unusedVariables false
namespace Go.Proofs.Ytejlhdmfcmhlaaa.Reg
open Go.RowKit
/-- Two operations may come up: each is walked. -/
theorem both {P : Program} {md : Region.Mode} {l : List Oper} {Q : Exit → Act → World → Prop} {S : World → Prop} {i j : Nat} {oi oj : Oper} {fuel : Nat} {listed : Array Bool} {a : Act} {w : World} (hi : l[i]? = some oi) (hj : l[j]? = some oj) (hr : Region.ready md l.toArray listed = [i, j]) (hwi : Region.wanted oi (yielded l.toArray a.tmps) = true) (hwj : Region.wanted oj (yielded l.toArray a.tmps) = true)
    (h : ∀ K : Act → World → Prop, Shut (∀ a w, S w → (S w → wpAnyH P md l.toArray Q S fuel (listed.setIfInBounds i true) a w) → K a w) → Oper.wp P oi a w K Q)
    (h' : ∀ K : Act → World → Prop, Shut (∀ a w, S w → (S w → wpAnyH P md l.toArray Q S fuel (listed.setIfInBounds j true) a w) → K a w) → Oper.wp P oj a w K Q) : wpAnyH P md l.toArray Q S (fuel + 1) listed a w :=
  wpAnyH_ready hr (by simp) (AllReadyH.cons (o := oi) (by rw [List.getElem?_toArray]; exact hi) (fun K hK => by rw [if_pos hwi]; exact h K hK) (AllReadyH.cons (o := oj) (by rw [List.getElem?_toArray]; exact hj) (fun K hK => by rw [if_pos hwj]; exact h' K hK) AllReadyH.nil))
end Go.Proofs.Ytejlhdmfcmhlaaa.Reg
namespace Go.Proofs.Ytejlhdmfcmhlaaa.RI64
open Go.RowKit
/-- An append, as one operation, wherever it stands. -/
theorem wp_append_one {P : Program} {w : World} {o : Oper} {a : Act} {K : Act → World → Prop} {Q : Exit → Act → World → Prop} (s x : Operand) (t : TypeId)
    (ho : o.op = .call { callee := .builtin .append, args := #[s, x], argTypes := #[t, t] })
    (base : Nat) (e : TypeId) (bytes : Nat) (hby : bytes ≤ 16) (ht : P.underlying t = some (.slice e)) (hinfo : (P.info? e).map (fun i => (i.zero, i.size, i.bytes)) = some (some (.int .i64 0), 1, bytes))
    (v : Value) (n : Nat) (xs : List Int) (hs : a.eval s = v) (hown : w.ownsRow base e 1 v n (vals xs)) (A : Option Addr) (m c : Nat) (ys : List Int) (hx : a.eval x = .slice A m c) (hr : Vals w A m ys)
    (h63 : n + m ≤ 1048576) (hbase : base ≤ w.heap.size)
    (h : ∀ v' w', w'.ownsRow base e 1 v' (n + m) (vals (xs ++ ys)) → w.grownBy w' v.ownBlock → (v'.ownBlock = v.ownBlock ∨ v'.ownBlock = some w.heap.size) → K (a.put o.dst v') w') : Oper.wp P o a w K Q := by
  obtain ⟨v', w', hrun, h2, h3, h4⟩ := run_append_vals (P := P) base t o.type e bytes hby ht hinfo v n xs hown A m c ys hr h63 hbase
  unfold Oper.wp execOp
  simp only [ho, resolve, invoke, builtin, Sem.run_bind, Sem.run_pure, Result.andThen_ok, List.map_toArray, List.map_cons, List.map_nil, hs, hx, hrun]
  exact h v' w' h2 h3 h4
end Go.Proofs.Ytejlhdmfcmhlaaa.RI64
end
