/- The reference's pieces of a text: apart and together, and whether two lists are the same. -/
import Derived.Test.YtmefdgmbpihdfaaDoorTextRef
import Derived.Test.YtmefdgmbpihdfaaDoorTextSplit
import Derived.Test.YtmefdgmbpihdfaaDoorTextRead
import Derived.Test.YtmefdgmbpihdfaaDoorArgsS
import Derived.Test.YtmefdgmbpihdfaaDoorLawKit
set_option linter.unusedSimpArgs false
set_option linter.unusedVariables false
namespace Go.Proofs.YtmefdgmbpihdfaaDoor.Txt
open Go.RowKit RU8
attribute [local go_sem] str_size str_isEmpty str_isNil str_extract

def texts (ps : List (List Nat)) : List ByteArray := ps.map str
theorem texts_length (ps : List (List Nat)) : (texts ps).length = ps.length := by simp [texts]
theorem texts_getD (ps : List (List Nat)) (j : Nat) (h : j < ps.length) : (texts ps).getD j ByteArray.empty = str (ps.getD j []) := by
  simp [texts, List.getD_eq_getElem?_getD, List.getElem?_eq_getElem h]
/-- The texts of a slice that came in. -/
theorem row_texts {w : World} {a : Option Addr} {len cap : Nat} {ss : List ByteArray} (h : IsTexts w a len cap ss) : ∃ ps : List (List Nat), RStr.Vals w a len (texts ps) ∧ (∀ p ∈ ps, Bytes p) ∧ len ≤ cap ∧ cap ≤ 9223372036854775807 := by
  refine ⟨(ss.take len).map bytesOf, ?_⟩
  have e : texts ((ss.take len).map bytesOf) = ss.take len := by
    unfold texts
    rw [List.map_map]
    refine (List.map_congr_left (g := id) fun s _ => ?_).trans (List.map_id _)
    exact str_bytesOf s
  have hbs : ∀ p ∈ (ss.take len).map bytesOf, Bytes p := fun p hp => by
    obtain ⟨s, _, rfl⟩ := List.mem_map.1 hp
    exact bytesOf_bytes s
  rw [e]
  rcases h with ⟨rfl, rfl, rfl, rfl⟩ | ⟨x, rfl, h1, h2, h3, h4⟩
  · exact ⟨⟨rfl, fun h => absurd h (by omega)⟩, hbs, by omega, by omega⟩
  · unfold maxLen at h2
    refine ⟨⟨by rw [List.length_take]; omega, fun _ => ⟨x, rfl, fun i hi => ?_⟩⟩, hbs, h1, by omega⟩
    rw [h4 i (by omega)]
    simp [List.getD_eq_getElem?_getD, List.getElem?_take, hi]
theorem join_bound (ps : List (List Nat)) (h : ∀ k, k < ps.length → (ps.getD k []).length ≤ 200) : (joinT ps).length ≤ 201 * ps.length := by
  have key : ∀ j, j ≤ ps.length → (joinT (ps.take j)).length ≤ 201 * j := fun j => by
    induction j with
    | zero => intro _; simp [joinT]
    | succ j ih =>
      intro hj
      have h1 := ih (by omega)
      have h2 := h j (by omega)
      rw [join_take_step ps j (by omega)]
      split <;> simp only [List.length_append, List.length_singleton] <;> omega
  have := key ps.length (Nat.le_refl _)
  rwa [List.take_length] at this
theorem wordsT_bytes {l : List Nat} (h : Bytes l) : ∀ p ∈ wordsT l, Bytes p := by
  unfold wordsT
  split
  · intro p hp; cases hp
  · exact splitT_bytes 32 h
/-- What a cutting answers: a new list of these pieces. -/
def PiecesIs (w : World) (ps : List (List Nat)) (e : Ending) (w' : World) : Prop :=
  ∃ A n c, e = .returned (.slice A n c) ∧ n ≤ c ∧ c ≤ 9223372036854775807 ∧ RStr.Vals w' A n (texts ps) ∧ n ≤ 100001 ∧ Below w.heap.size w w'
theorem refsplit_any (l : List Nat) (hb : Bytes l) (hl : l.length ≤ 100000) (c : Nat) (hc : c < 256) (w : World) : Calls Tryd.prog 43 #[.string (str l), .int .u8 c] w (PiecesIs w (splitT c l)) := by
  have hget : ∀ (k : Nat) (h : k < (str l).size), ((str l)[k]'h).toNat = l.getD k 0 := fun k h => str_get hb k h
  have hInfo : (Tryd.prog.info? 9).map (fun i => (i.zero, i.size, i.bytes)) = some (some (.string ByteArray.empty), 1, 16) := by kernel_rfl
  have HInfo := Lib.hid hInfo
  clear hInfo
  obtain ⟨L, hL⟩ : ∃ L, l.length = L := ⟨_, rfl⟩
  have HL := Lib.hid hL
  have hst := Lib.hid (parted_start c l)
  rw [hL] at hl
  go_enter Tryd.func43, Tryd.ntmps43
  go_wp2
  go_loopw [5, 6, 7] (fun v f i wr => ∃ (k fr m : Nat) (ds : List (List Nat)), i = .int .i64 (k : Nat) ∧ f = .int .i64 (fr : Nat) ∧ Parted c l k fr ds ∧ m = ds.length ∧ wr.ownsRow w.heap.size 9 1 v m (RStr.vals (texts ds)) ∧ Below w.heap.size w wr) (fun _ _ i _ => L - (intOf i).toNat)
  case atStart => exact ⟨0, 0, 0, [], rfl, rfl, hst.out, rfl, RStr.own_none _ _ _, Below.refl _ _⟩
  case round =>
    obtain ⟨k, fr, m, ds, rfl, rfl, hP, hm, hO, hB⟩ := hrel
    have hkl := hP.2.2.2.1
    have hfk := hP.2.2.1
    have hdl := hP.2.2.2.2
    rw [← hm] at hdl
    rw [hL] at hkl
    have HP := Lib.hid hP
    have HM := Lib.hid hm
    clear hP hm
    by_cases hkL : k < L
    · have hks : k < (str l).size := by rw [str_size, hL]; exact hkL
      have hga := hget k hks
      obtain ⟨a, ha⟩ : ∃ a, l.getD k 0 = a := ⟨_, rfl⟩
      rw [ha] at hga
      have HA := Lib.hid ha
      clear ha hget
      by_cases hac : a = c
      · have hn := Lib.hid (parted_cut HP.out (by rw [HL.out]; exact hkL) (by rw [HA.out]; exact hac))
        have hexz : (str l).extract fr k = str ((l.drop fr).take (k - fr)) := str_extract l fr k
        generalize (l.drop fr).take (k - fr) = p at *
        have hfkz : (fr : Int) ≤ (k : Int) := by omega
        have hOa := own_kept hO ((Kept.refl [] wr).alloc (.cells #[.string (str p)] 9)) (by simp)
        have hBa := hB.alloc hB.size (.cells #[.string (str p)] 9)
        have hVn : RStr.Vals (wr.alloc (.cells #[.string (str p)] 9)) (some ⟨wr.heap.size, 0, none⟩) 1 [str p] := RStr.Vals.has (ys := [str p]) (tl := []) (Has.new wr _ _)
        have hjm : m + 1 ≤ 1048576 := by omega
        subst hac
        go_wp2_with (at_builtin; refine RStr.wpList_append_vals rfl (.tmp 19) (.tmp 24) _ rfl w.heap.size 9 16 (by omega) Tryd.underlying65 HInfo.out u5 m (texts ds) rfl (by exact hOa) _ 1 1 [str p] rfl (by exact hVn) (by exact hjm) (by exact hBa.size) ?_; intro v1 W1 hO1 hg1 hat1; have hK1 := Kept.of_grown hg1; have hB1 := below_kept hBa hK1 hBa.size (own_in hOa))
        go_roundw
        case rel => exact ⟨k + 1, k + 1, m + 1, ds ++ [p], by go_num, by go_num, hn.out, by rw [HM.out]; simp, by rw [show texts (ds ++ [p]) = texts ds ++ [str p] by simp [texts]]; exact hO1, hB1⟩
        case measure => simp [intOf]; omega
      · have hn := Lib.hid (parted_same HP.out (by rw [HL.out]; exact hkL) (by rw [HA.out]; exact hac))
        have hacz : ((a : Int) == (c : Int)) = false := by simp; omega
        have HAC := Lib.hid hac
        clear hac
        go_wp2
        go_roundw
        case rel => exact ⟨k + 1, fr, m, ds, by go_num, rfl, hn.out, HM.out, hO, hB⟩
        case measure => simp [intOf]; omega
    · have hkL2 : k = L := by omega
      subst hkL2
      have hfin := Lib.hid (parted_end (by rw [hL]; exact HP.out))
      have hexz : (str l).extract fr k = str (l.drop fr) := by rw [str_extract, List.take_of_length_le (by rw [List.length_drop]; omega)]
      generalize l.drop fr = p at *
      have hfkz : (fr : Int) ≤ (k : Int) := by omega
      have hOa := own_kept hO ((Kept.refl [] wr).alloc (.cells #[.string (str p)] 9)) (by simp)
      have hBa := hB.alloc hB.size (.cells #[.string (str p)] 9)
      have hVn : RStr.Vals (wr.alloc (.cells #[.string (str p)] 9)) (some ⟨wr.heap.size, 0, none⟩) 1 [str p] := RStr.Vals.has (ys := [str p]) (tl := []) (Has.new wr _ _)
      have hjm : m + 1 ≤ 1048576 := by omega
      have hmk : m + 1 ≤ 100001 := by omega
      clear hst hget
      go_wp2_with (at_builtin; refine RStr.wpList_append_vals rfl (.tmp 28) (.tmp 32) _ rfl w.heap.size 9 16 (by omega) Tryd.underlying65 HInfo.out u5 m (texts ds) rfl (by exact hOa) _ 1 1 [str p] rfl (by exact hVn) (by exact hjm) (by exact hBa.size) ?_; intro v1 W1 hO1 hg1 hat1; have hK1 := Kept.of_grown hg1; have hB1 := below_kept hBa hK1 hBa.size (own_in hOa); rw [show texts ds ++ [str p] = texts (splitT c l) by rw [hfin.out]; simp [texts]] at hO1; obtain ⟨A9, c9, rfl, e1, e2, hV9, e3⟩ := RStr.Vals.own hO1)
      go_ret
      exact ⟨A9, m + 1, c9, rfl, e1, e2, hV9, hmk, hB1⟩
theorem refwords_any (l : List Nat) (hb : Bytes l) (hl : l.length ≤ 100000) (w : World) : Calls Tryd.prog 32 #[.string (str l)] w (PiecesIs w (wordsT l)) := by
  by_cases h : l = []
  · subst h
    go_enter Tryd.func32, Tryd.ntmps32
    go_wp2
    go_ret
    exact ⟨none, 0, 0, rfl, by omega, by omega, RStr.Vals.none_ _, by omega, Below.refl _ _⟩
  · have hs : Calls Tryd.prog 43 #[.string (str l), .int .u8 32] w (PiecesIs w (splitT 32 l)) := refsplit_any l hb hl 32 (by omega) w
    have hw : wordsT l = splitT 32 l := by unfold wordsT; rw [if_neg h]
    rw [hw]
    have he : l.isEmpty = false := by cases l with
      | nil => exact absurd rfl h
      | cons => rfl
    clear hw
    go_enter Tryd.func32, Tryd.ntmps32
    go_wp2_with (go_at_call 43; ((with_reducible refine hs.mono ?_); rintro e w' ⟨A, n, c, rfl, h1, h2, h3, h4, h5⟩))
    go_ret
    exact ⟨A, n, c, rfl, h1, h2, h3, h4, h5⟩
theorem last_getD (s : List (List Nat)) (m : Nat) (h : s.length = m + 1) : s.getLastD [] = s.getD m [] := by
  rw [List.getLastD_eq_getLast?, List.getLast?_eq_getElem?, h, Nat.add_sub_cancel, List.getD_eq_getElem?_getD]
theorem texts_take (ps : List (List Nat)) (n : Nat) : texts (ps.take n) = (texts ps).take n := by simp [texts, List.map_take]
theorem ba_beq (x y : ByteArray) : (x.toList == y.toList) = decide (x = y) := by
  rw [Bool.eq_iff_iff, beq_iff_eq, decide_eq_true_iff, ByteArray.toList_eq, ByteArray.toList_eq]
  exact ⟨ext, fun h => by rw [h]⟩
theorem same_step {xs ys : List ByteArray} {j : Nat} (hx : j < xs.length) (hy : j < ys.length) (h : xs.take j = ys.take j) : (xs.getD j ByteArray.empty = ys.getD j ByteArray.empty → xs.take (j + 1) = ys.take (j + 1)) ∧ (xs.getD j ByteArray.empty ≠ ys.getD j ByteArray.empty → xs ≠ ys) := by
  constructor
  · intro he
    rw [List.take_succ_eq_append_getElem hx, List.take_succ_eq_append_getElem hy, h]
    rw [List.getD_eq_getElem?_getD, List.getD_eq_getElem?_getD, List.getElem?_eq_getElem hx, List.getElem?_eq_getElem hy] at he
    simp at he
    rw [he]
  · rintro hne rfl; exact hne rfl
end Go.Proofs.YtmefdgmbpihdfaaDoor.Txt
