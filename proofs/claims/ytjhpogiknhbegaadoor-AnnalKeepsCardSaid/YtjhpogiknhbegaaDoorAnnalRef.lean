/- The document's answer for layer 25: Kept, Last, Count. -/
import Derived.Test.YtjhpogiknhbegaaDoorChecked
import Derived.Test.YtjhpogiknhbegaaDoorAnnalMath
import Derived.Test.YtjhpogiknhbegaaDoorShape
import Derived.ProofKit
import Derived.Handy
import Derived.Deep.QuietTactic
import Derived.BigQuiet
import Derived.Lib.Hide
import Derived.Lib.MinMax
set_option linter.unusedSimpArgs false
set_option linter.unusedVariables false
namespace Go.Proofs.YtjhpogiknhbegaaDoor.Annal
open Go.RowKit
open Alarm (Ot otS noOt ot_cells)
theorem vals_dropIf {α : Type} {S : Row.Shape α} {w : World} {a : Option Addr} {len cap : Nat} {ys : List α} (h : Row.Vals S w a len ys) (p : Nat) (hp : p ≤ len) (hc : len ≤ cap) : Row.Vals S w (if cap = p then a else a.map (fun x => x.add (p * S.k))) (len - p) (ys.drop p) := by
  have hl := h.len_
  refine ⟨by rw [List.length_drop]; omega, fun h0 => ?_⟩
  obtain ⟨x, hx, hc⟩ := h.cells (by omega)
  subst hx
  rw [if_neg (by omega)]
  refine ⟨x.add (p * S.k), rfl, fun j u hu => ?_⟩
  rw [show (x.add (p * S.k)).add j = x.add (p * S.k + j) by
    unfold Addr.add
    by_cases h1 : p * S.k = 0 <;> by_cases h2 : j = 0 <;> simp [h1, h2, Nat.add_assoc]]
  refine hc _ u ?_
  have hf : Row.flat S ys = Row.flat S (ys.take p) ++ Row.flat S (ys.drop p) := by rw [← Row.flat_append, List.take_append_drop]
  rw [hf, List.getElem?_append_right (by rw [Row.flat_length, List.length_take, Nat.min_eq_left (by omega)]; omega), Row.flat_length, List.length_take, Nat.min_eq_left (by omega), Nat.add_sub_cancel_left]
  exact hu
/-- A slice from an element on. -/
theorem slice_on (A : Option Addr) (n c q : Nat) (hq : q ≤ n) (hn : n ≤ c) : ∃ E, (∀ (W : World) (D : List Ot), Row.Vals otS W A n D → Row.Vals otS W E (n - q) (D.drop q)) ∧ (∀ x, E = some x → ∃ y, A = some y ∧ x.block = y.block) ∧ ∀ W, (Instr.sliceAt 25 (.slice A n c) (some (.int .i64 (q : Nat))) none none).run Tryd.prog W = .ok (.slice E (n - q) (c - q)) W := by
  have hu : Tryd.prog.underlying 25 = some (.slice 28) := Tryd.underlying25
  have he : Tryd.prog.elem 25 = 28 := by kernel_rfl
  have hz : ∀ W, (sizeOf 28).run Tryd.prog W = .ok 4 W := fun W => by kernel_rfl
  refine ⟨_, fun W D h => vals_dropIf h q hq hn, fun x hx => ?_, fun W => ?_⟩
  · split at hx
    · exact ⟨x, hx, rfl⟩
    · cases A with
      | none => cases hx
      | some y => injection hx with hx; subst hx; exact ⟨y, rfl, by unfold Addr.add; split <;> rfl⟩
  rw [run_sliceAt_slice _ _ _ _ _ _ (by rw [he]; exact hu), run_slice_l W _ _ _ _ (by rw [he]; exact hu) .i64 (q : Int) (by omega) (by omega), he, hz]
  simp only [Result.andThen_ok, sliced, Int.toNat_natCast]
  rfl
/-- A part of a row that is answered. -/
def PartIs (w : World) (A : Option Addr) (ys : List Ot) (e : Ending) (w' : World) : Prop :=
  ∃ E c, e = .returned (.slice E ys.length c) ∧ ys.length ≤ c ∧ c ≤ 9223372036854775807 ∧ Row.Vals otS w E ys.length ys ∧ (∀ x, E = some x → ∃ y, A = some y ∧ x.block = y.block) ∧ w' = w
theorem refkept_any (A : Option Addr) (n c : Nat) (l : List Ot) (w : World) (hv : Row.Vals otS w A n l) (hn : n ≤ c) (hc : c ≤ 9223372036854775807) :
    Calls Tryd.prog 8 #[.slice A n c] w (PartIs w A (keptA l)) := by
  have hl := hv.len_
  obtain ⟨q, hq⟩ : ∃ q, n - 64 = q := ⟨_, rfl⟩
  have hmax : max (0 : Int) ((n : Int) - 64) = (q : Int) := by omega
  obtain ⟨E, h1, h2, h3⟩ := slice_on A n c q (by omega) hn
  have hV := h1 w l hv
  have hk : keptA l = l.drop q := by unfold keptA; rw [hl, hq]
  have hkl : (keptA l).length = n - q := by rw [hk, List.length_drop, hl]
  have HK := Lib.hid hk
  have HL := Lib.hid hkl
  have HV := Lib.hid hV
  have H2 := Lib.hid h2
  have hq2 : (q : Int) ≤ (n : Int) := by omega
  clear hk hkl h1 h2 hv hl hV
  go_enter Tryd.func8, Tryd.ntmps8
  go_wp2
  go_ret
  exact ⟨E, c - q, by rw [HL.out]; rfl, by rw [HL.out]; omega, by omega, by rw [HL.out, HK.out]; exact HV.out, H2.out, rfl⟩
theorem reflast_any (A : Option Addr) (n c : Nat) (l : List Ot) (i : Int) (w : World) (hv : Row.Vals otS w A n l) (hn : n ≤ c) (hc : c ≤ 9223372036854775807) (hn2 : n ≤ 100000) (hi : -9223372036854775808 ≤ i ∧ i ≤ 9223372036854775807) :
    Calls Tryd.prog 14 #[.slice A n c, .int .i64 i] w (PartIs w A (lastA l i)) := by
  have hkp := refkept_any A n c l w hv hn hc
  unfold PartIs at hkp
  have hkl := kept_len l
  by_cases h0 : i < 1
  · rw [last_none l i h0]
    clear hkl
    go_enter Tryd.func14, Tryd.ntmps14
    go_wp2_with (go_at_call 8; ((with_reducible refine hkp.mono ?_); rintro e W1 ⟨E, d, rfl, -, -, -, -, rfl⟩))
    go_ret
    exact ⟨none, 0, rfl, by simp, by omega, Row.Vals.none_ _, fun x hx => by (cases hx), rfl⟩
  · have hkn : (keptA l).length ≤ 64 := by omega
    have hla : lastA l i = (keptA l).drop ((keptA l).length - i.toNat) := rfl
    rw [hla]
    clear hla
    generalize keptA l = ks at *
    obtain ⟨m, hm⟩ : ∃ m, ks.length = m := ⟨_, rfl⟩
    rw [hm] at hkp hkn ⊢
    obtain ⟨q, hq⟩ : ∃ q, m - i.toNat = q := ⟨_, rfl⟩
    have hmax : max (0 : Int) ((m : Int) - i) = (q : Int) := by omega
    have hqm : (q : Int) ≤ (m : Int) := by omega
    rw [hq]
    have HDL := Lib.hid (show (ks.drop q).length = m - q by rw [List.length_drop, hm])
    have hmz : (m : Int) ≤ 64 := by omega
    have hsl := fun E d (hd : m ≤ d) => slice_on E m d q (by omega) hd
    have HSL := Lib.hid hsl
    clear hkl hm hq hsl hkn
    have hwr : IntKind.i64.wrap ((m : Int) - i) = (m : Int) - i := by rw [IntKind.wrap_i64]; omega
    go_enter Tryd.func14, Tryd.ntmps14
    go_wp2_with (go_at_call 8; ((with_reducible refine hkp.mono ?_); rintro e W1 ⟨E, d, rfl, hd1, hd2, hVE, hfE, rfl⟩; obtain ⟨E2, g1, g2, g3⟩ := HSL.out E d hd1; have G1 := Lib.hid g1; have G2 := Lib.hid g2; clear g1 g2))
    go_ret
    exact ⟨E2, d - q, by rw [HDL.out]; rfl, by rw [HDL.out]; omega, by omega, by rw [HDL.out]; exact G1.out _ _ hVE, fun x hx => by
      obtain ⟨y, hy, he⟩ := G2.out x hx
      obtain ⟨y2, hy2, he2⟩ := hfE y hy
      exact ⟨y2, hy2, he.trans he2⟩, rfl⟩
theorem refcount_any (A : Option Addr) (n c : Nat) (l : List Ot) (k : Int) (w : World) (hv : Row.Vals otS w A n l) (hn2 : n ≤ 100000) :
    Calls Tryd.prog 16 #[.slice A n c, .int .i64 k] w fun e w' => e = .returned (.int .i64 (countA l k : Nat)) ∧ w' = w := by
  have hl := hv.len_
  have HLT := Lib.hid (show l.take n = l from List.take_of_length_le (by omega))
  go_enter Tryd.func16, Tryd.ntmps16
  go_wp2
  go_loop [5, 6] (fun s i => ∃ j : Nat, j ≤ n ∧ i = .int .i64 (j : Nat) ∧ s = .int .i64 (countA (l.take j) k : Nat)) (fun _ i => n - (intOf i).toNat)
  case atStart => exact ⟨0, by omega, rfl, by rw [List.take_zero]; unfold countA; split <;> rfl⟩
  case round =>
    obtain ⟨j, hj, rfl, rfl⟩ := hrel
    by_cases hlt : j < n
    · obtain ⟨x, rfl, -⟩ := hv.cells (by omega)
      obtain ⟨x0, -, -, -⟩ := ot_cells hv j hlt
      have hsn : countA (l.take (j + 1)) k = if (l.getD j noOt).1 = k ∧ 0 ≤ k ∧ k ≤ 9 then countA (l.take j) k + 1 else countA (l.take j) k := by
        have e : l.take (j + 1) = l.take j ++ [l.getD j noOt] := by rw [List.take_succ_eq_append_getElem (by omega), List.getD_eq_getElem?_getD, List.getElem?_eq_getElem (by omega), Option.getD_some]
        rw [e, count_snoc]
      have hcl : countA (l.take j) k ≤ 100000 := by have := count_le (l.take j) k; rw [List.length_take] at this; omega
      generalize countA (l.take j) k = s at *
      generalize (l.getD j noOt).1 = a at *
      have hjz : (j : Int) < (n : Int) := by omega
      have hsz : (s : Int) ≤ 100000 := by omega
      have HS := Lib.hid hsn
      clear hsn
      by_cases h : a = k ∧ 0 ≤ k ∧ k ≤ 9
      · obtain ⟨rfl, h1, h2⟩ := h
        go_wp2
        go_round
        case rel => exact ⟨j + 1, by omega, by go_num, by rw [HS.out, if_pos ⟨rfl, h1, h2⟩]; go_num⟩
        case measure => simp [intOf]; omega
      · have HH := Lib.hid h
        by_cases h1 : a = k
        · subst h1
          by_cases h2 : 0 ≤ a
          · have h3 : ¬ a ≤ 9 := fun h3 => h ⟨rfl, h2, h3⟩
            clear h
            go_wp2
            go_round
            case rel => exact ⟨j + 1, by omega, by go_num, by rw [HS.out, if_neg HH.out]⟩
            case measure => simp [intOf]; omega
          · clear h
            go_wp2
            go_round
            case rel => exact ⟨j + 1, by omega, by go_num, by rw [HS.out, if_neg HH.out]⟩
            case measure => simp [intOf]; omega
        · have h1z : (a == k) = false := by simpa using h1
          clear h
          go_wp2
          go_round
          case rel => exact ⟨j + 1, by omega, by go_num, by rw [HS.out, if_neg HH.out]⟩
          case measure => simp [intOf]; omega
    · obtain rfl : j = n := by omega
      go_wp2
      go_ret
      exact ⟨by rw [HLT.out]; rfl, rfl⟩
end Go.Proofs.YtjhpogiknhbegaaDoor.Annal
