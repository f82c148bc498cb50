/- What text's Join answers. -/
import Derived.Test.YtmefdgmbpihdfaaDoorTextRefSplit
import Derived.Test.YtmefdgmbpihdfaaDoorTextNumCode
import Derived.Test.YtmefdgmbpihdfaaDoorShelfBuild
set_option linter.unusedSimpArgs false
set_option linter.unusedVariables false
namespace Go.Proofs.YtmefdgmbpihdfaaDoor.Txt
open Go.RowKit RU8
theorem join_bytes (ps : List (List Nat)) : Lib.join (ps.map (·.map UInt8.ofNat)) [32] = (joinT ps).map UInt8.ofNat := by
  cases ps with
  | nil => rfl
  | cons p r =>
    rw [List.map_cons, Lib.join_cons]
    induction r generalizing p with
    | nil => simp [Lib.joinTail, joinT]
    | cons q r ih =>
      have h := ih q
      rw [joinT, List.map_append, List.map_cons, List.map_cons, ← h]
      simp [Lib.joinTail]
theorem join_any (A : Option Addr) (n c : Nat) (ps : List (List Nat)) (w : World) (hv : RStr.Vals w A n (texts ps)) (hps : ∀ p ∈ ps, Bytes p) (hn : n ≤ 100001) (hl : (joinT ps).length ≤ 1000000) (hc : n ≤ c) (hc2 : c ≤ 9223372036854775807) :
    Calls Tryd.prog 27 #[.slice A n c] w fun e w' => e = .returned (.string (str (joinT ps))) ∧ Below w.heap.size w w' := by
  have hlen : ps.length = n := by have := hv.len_; rwa [texts_length] at this
  have hj : Calls Tryd.prog 37 #[.slice A n c, .string ⟨#[32]⟩] w fun e w' => e = .returned (.string (str (joinT ps))) ∧ Below w.heap.size w w' := by
    rcases Nat.eq_zero_or_pos n with h0 | h0
    · subst h0
      obtain rfl : ps = [] := List.eq_nil_of_length_eq_zero hlen
      refine (Tryd.joinNone A c ⟨#[32]⟩ w).mono ?_
      rintro e w' ⟨rfl, rfl⟩
      exact ⟨rfl, Below.refl _ _⟩
    · obtain ⟨⟨bk, o, sp⟩, rfl, hx⟩ := hv.cells h0
      have hx0 := hx 0 h0
      have hbk := World.block_lt_of_cell? _ _ hx0
      have hsp : sp = none := by
        cases sp with
        | none => rfl
        | some s => exfalso; revert hx0; unfold World.cell? Addr.add; split <;> simp
      subst hsp
      have e1 : (texts ps).map (fun s => s.data.toList) = ps.map (·.map UInt8.ofNat) := by
        unfold texts
        rw [List.map_map]
        exact List.map_congr_left fun p _ => str_data p
      have e2 : Lib.join ((texts ps).map (fun s => s.data.toList)) (⟨#[32]⟩ : ByteArray).data.toList = (joinT ps).map UInt8.ofNat := by rw [e1]; exact join_bytes ps
      have h := Tryd.joinSome bk o c (texts ps) ⟨#[32]⟩ w (fun j x hjx => by
        have hjn : j < n := by
          have := (List.getElem?_eq_some_iff.1 hjx).1
          rw [texts_length] at this
          omega
        have h1 := hx j hjn
        rw [List.getD_eq_getElem?_getD, hjx] at h1
        rcases Nat.eq_zero_or_pos j with hj0 | hj0
        · subst hj0; simpa [Addr.add] using h1
        · rw [Addr.add, if_neg (by omega)] at h1
          simpa using h1) (by simpa [Addr.add] using hbk) (by rw [texts_length]; omega) (by rw [texts_length]; omega) (by rw [e2, List.length_map]; omega)
      rw [e2, str_mk2, texts_length, hlen] at h
      exact h
  go_enter Tryd.func27, Tryd.ntmps27
  go_wp2_with (go_at_call 37; ((with_reducible refine hj.mono ?_); rintro e w' ⟨rfl, hB⟩))
  go_ret
  exact ⟨rfl, hB⟩
end Go.Proofs.YtmefdgmbpihdfaaDoor.Txt
