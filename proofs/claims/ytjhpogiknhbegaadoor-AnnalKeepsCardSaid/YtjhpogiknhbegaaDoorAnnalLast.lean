/- The landed annal: Last. -/
import Derived.Test.YtjhpogiknhbegaaDoorAnnalLook
import Derived.Lib.MinMax
set_option linter.unusedSimpArgs false
set_option linter.unusedVariables false
namespace Go.Proofs.YtjhpogiknhbegaaDoor.Annal
open Go.RowKit
open Alarm (Ot otS noOt ot_cells)
open RingO (Ring Became otV)
theorem flat_cells {w : World} {x : Nat} {t : TypeId} {ys : List Ot} (h : Has w x t (Row.flat otS ys).toArray) (k : Nat) (hk : k < ys.length) : w.cell? ⟨x, k * 4, none⟩ = some (.int .i64 (ys.getD k noOt).1) ∧ w.cell? ⟨x, k * 4 + 1, none⟩ = some (.int .i64 (ys.getD k noOt).2.1) ∧ w.cell? ⟨x, k * 4 + 2, none⟩ = some (.int .i64 (ys.getD k noOt).2.2.1) ∧ w.cell? ⟨x, k * 4 + 3, none⟩ = some (.int .i64 (ys.getD k noOt).2.2.2) := by
  have hg : ys.getD k noOt = ys[k]'hk := by rw [List.getD_eq_getElem?_getD, List.getElem?_eq_getElem hk, Option.getD_some]
  have hc : ∀ m, (hm : m < 4) → w.cell? ⟨x, k * 4 + m, none⟩ = (otS.enc (ys.getD k noOt))[m]? := fun m hm => by
    have h9 := Row.flat_get (S := otS) ys k m hk hm
    rw [h.cell (k * 4 + m), List.getElem?_toArray, hg]
    exact h9
  exact ⟨hc 0 (by omega), hc 1 (by omega), hc 2 (by omega), hc 3 (by omega)⟩
/-- Where Last's loop stands: k of the m are laid in the row in block x. -/
def Lasting (w : World) (x m : Nat) (ls : List Ot) (i : Value) (wr : World) : Prop :=
  ∃ k, k ≤ m ∧ i = .int .i64 (k : Nat) ∧ Below w.heap.size w wr ∧ ∃ ys : List Ot, ys.length = m ∧ Has wr x 28 (Row.flat otS ys).toArray ∧ ∀ j, j < k → ys.getD j noOt = ls.getD j noOt
theorem last_k (w : World) (b : Nat) (S : List Nat) (all : List Ot) (n : Int) (h : Ann w b S all) (hn : -9223372036854775808 ≤ n ∧ n ≤ 9223372036854775807) : Calls Tryd.prog 13 #[.pointer (some ⟨b, 0, none⟩), .int .i64 n] w fun e w' => ∃ A c, e = .returned (.slice A (lastA all n).length c) ∧ Row.Vals otS w' A (lastA all n).length (lastA all n) ∧ (∀ x, A = some x → w.heap.size ≤ x.block ∧ x.block < w'.heap.size) ∧ Below w.heap.size w w' := by
  have hln := len_k w b S all h
  obtain ⟨r, g, q, f, cs, rfl, hM, hl⟩ := h
  have hkl := kept_len all
  by_cases hn1 : min n ((keptA all).length : Int) < 1
  · rw [show lastA all n = [] by unfold lastA; rw [List.drop_of_length_le (by omega)]]
    generalize hmm : min n ((keptA all).length : Int) = mm at *
    clear hM hkl
    go_enter Tryd.func13, Tryd.ntmps13
    go_wp2_with (first
      | (go_at_call 10; ((with_reducible refine hln.mono ?_); rintro e W1 ⟨rfl, z, rfl⟩)))
    go_ret
    exact ⟨none, 0, rfl, Row.Vals.none_ _, fun x hx => (by cases hx), below_drewN (Below.refl _ _) z⟩
  · obtain ⟨m, hm⟩ : ∃ m, min n.toNat (keptA all).length = m := ⟨_, rfl⟩
    have hmn : min n ((keptA all).length : Int) = (m : Int) := by omega
    have hm1 : 1 ≤ m := by omega
    have hmk : m ≤ (keptA all).length := by omega
    have hm64 : m ≤ 64 := by omega
    have hll : (lastA all n).length = m := by rw [last_len, hm]
    have hlg : ∀ i, i < m → (lastA all n).getD i noOt = (keptA all).getD ((keptA all).length - 1 - (m - 1 - i)) noOt := fun i hi => by
      have h1 : lastA all n = lastA all (m : Nat) := by
        unfold lastA
        rw [Int.toNat_natCast, ← hm]
        congr 1
        omega
      rw [h1, last_get all m i (by omega) hi]
      congr 1
      omega
    have hbk := fun (j : Nat) (hj : j < (keptA all).length) (W : World) (hW : Mid W b r g q f cs (keptA all) (all.length - (keptA all).length) (fun k => countA all (k : Nat))) => RingO.back_yes r g 64 q f cs (keptA all) j W hW.ring hj
    rw [hll]
    rw [hmn] at hn1
    clear hm hkl
    generalize hlss : lastA all n = ls at *
    generalize (keptA all).length = K at *
    have hmz : ¬ (m : Int) < 1 := by omega
    clear hn1
    have hmk := fun W => RingO.make_run m (by omega) W
    go_enter Tryd.func13, Tryd.ntmps13
    go_wp2_with (first
      | (go_at_call 10; ((with_reducible refine hln.mono ?_); rintro e W1 ⟨rfl, z, rfl⟩)))
    have hX0 := Has.new (w.drewN z) 28 (Row.flat otS (List.replicate m noOt)).toArray
    have hB0 := (below_drewN (Below.refl w.heap.size w) z).alloc (Nat.le_refl _) (.cells (Row.flat otS (List.replicate m noOt)).toArray 28)
    have hx0 : (w.drewN z).heap.size = w.heap.size := rfl
    rw [hx0] at *
    go_loopw [17] (fun i wr => Lasting w w.heap.size m ls i wr) (fun i _ => m - (intOf i).toNat)
    case atStart => exact ⟨0, by omega, rfl, hB0, _, by simp, hX0, fun j hj => absurd hj (by omega)⟩
    case round =>
      clear hX0 hB0 hx0 hln hmk
      obtain ⟨k, hk, rfl, hB, ys, hyl, hX, hat⟩ := hrel
      by_cases hkm : k < m
      · have hb := hbk (m - 1 - k) (by omega) wr (hM.below hB)
        rw [show ((m - 1 - k : Nat) : Int) = (m : Int) - 1 - (k : Int) by omega, ← hlg k hkm] at hb
        have c0 := (hM.below hB).cells.1
        generalize hv : ls.getD k noOt = v at hb
        obtain ⟨v0, v1, v2, v3⟩ := v
        dsimp only [otV] at hb
        clear hbk hlg
        go_wp2_with (first
          | (go_at_call 24; ((with_reducible refine hb.mono ?_); rintro e W2 ⟨rfl, hB2⟩; have hX2 := hX.below hB2 hX.lt; obtain ⟨z0, z1, z2, z3⟩ := flat_cells hX2 k (by omega); have f0 := hX2.frozen (k * 4); have f1 := hX2.frozen (k * 4 + 1); have f2 := hX2.frozen (k * 4 + 2); have f3 := hX2.frozen (k * 4 + 3))))
        go_roundw
        case rel =>
          refine ⟨k + 1, by omega, by go_num, ((((hB.trans (hB2.mono hB.size)).setCell (p := ⟨w.heap.size, k * 4, none⟩) (Nat.le_refl _) _).setCell (p := ⟨w.heap.size, k * 4 + 1, none⟩) (Nat.le_refl _) _).setCell (p := ⟨w.heap.size, k * 4 + 2, none⟩) (Nat.le_refl _) _).setCell (p := ⟨w.heap.size, k * 4 + 3, none⟩) (Nat.le_refl _) _, ys.set k (v0, v1, v2, v3), by rw [List.length_set]; exact hyl, ?_, fun j hj => ?_⟩
          · have h9 := (((hX2.set_ (k * 4) (.int .i64 v0)).set_ (k * 4 + 1) (.int .i64 v1)).set_ (k * 4 + 2) (.int .i64 v2)).set_ (k * 4 + 3) (.int .i64 v3)
            have h8 := RingO.flat_set4 ys [] k (by omega) (v0, v1, v2, v3)
            rw [List.append_nil, List.append_nil] at h8
            rwa [List.setIfInBounds_toArray, List.setIfInBounds_toArray, List.setIfInBounds_toArray, List.setIfInBounds_toArray, h8] at h9
          · rw [getD_set _ _ _ _ _ (by omega)]
            by_cases e : j = k
            · rw [if_pos e.symm, e, hv]
            · rw [if_neg (fun e2 => e e2.symm)]; exact hat j (by omega)
        case measure => simp [intOf]; omega
      · obtain rfl : k = m := by omega
        have hys : ys = ls := List.ext_getElem (by omega) (fun i h1 h2 => by
          have := hat i (by omega)
          rw [List.getD_eq_getElem?_getD, List.getD_eq_getElem?_getD, List.getElem?_eq_getElem h1, List.getElem?_eq_getElem h2] at this
          exact this)
        subst hys
        have hV := Row.Vals.has (S := otS) (ys := ys) (tl := []) (by rw [List.append_nil]; exact hX)
        rw [hyl] at hV
        have hXl := hX.lt
        clear hbk hlg hat
        go_wp2
        go_ret
        exact ⟨_, _, rfl, hV, fun x hx => (by injection hx with hx; subst hx; exact ⟨Nat.le_refl _, hXl⟩), hB⟩
end Go.Proofs.YtjhpogiknhbegaaDoor.Annal
