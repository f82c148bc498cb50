/- What text's calls over pieces answer: Words, Lines and Join. -/
import Derived.Test.YtmefdgmbpihdfaaDoorTextRefSplit
import Derived.Test.YtmefdgmbpihdfaaDoorShelfStr
import Derived.Test.YtmefdgmbpihdfaaDoorShelfBuild
set_option linter.unusedSimpArgs false
set_option linter.unusedVariables false
namespace Go.Proofs.YtmefdgmbpihdfaaDoor.Txt
open Go.RowKit RU8
attribute [local go_sem] str_size str_isEmpty str_isNil str_extract

theorem clone_any (s : ByteArray) (hs : s.size ≤ 281474976710656) (w : World) : Calls Tryd.prog 51 #[.string s] w fun e w' => e = .returned (.string s) ∧ Below w.heap.size w w' := by
  have hc := Tryd.cloneLite s w hs
  go_enter Tryd.func51, Tryd.ntmps51
  go_wp2_with (go_at_call 61; ((with_reducible refine hc.mono ?_); rintro e w' ⟨rfl, hB⟩))
  go_ret
  exact ⟨rfl, hB⟩
theorem sign_yes (c g : Nat) (w : World) (hg : w.cell? ⟨g, 0, none⟩ = some (.int .u8 (c : Nat))) : Calls Tryd.prog 52 #[.int .u8 (c : Nat), .pointer (some ⟨g, 0, none⟩)] w fun e w' => e = .returned (.bool true) ∧ w' = w := by
  go_enter Tryd.func52, Tryd.ntmps52
  go_wp2
  go_ret
  exact ⟨rfl, rfl⟩
theorem sign_no (a c g : Nat) (hac : a ≠ c) (w : World) (hg : w.cell? ⟨g, 0, none⟩ = some (.int .u8 (c : Nat))) : Calls Tryd.prog 52 #[.int .u8 (a : Nat), .pointer (some ⟨g, 0, none⟩)] w fun e w' => e = .returned (.bool false) ∧ w' = w := by
  have hacz : ((a : Int) == (c : Int)) = false := by simp; omega
  go_enter Tryd.func52, Tryd.ntmps52
  go_wp2
  go_ret
  exact ⟨rfl, rfl⟩
theorem is_any (c : Nat) (w : World) : Calls Tryd.prog 42 #[.int .u8 (c : Nat)] w fun e w' => e = .returned (.func (.func 52) #[] #[.pointer (some ⟨w.heap.size, 0, none⟩)]) ∧ w' = w.alloc (.cells #[.int .u8 (c : Nat)] 5) := by
  have hmf : ∀ (fn : Fn) (first cap : Array Value) (W : World), (Instr.makeFunc fn first cap).run Tryd.prog W = .ok (.func fn first cap) W := fun _ _ _ _ => rfl
  go_enter Tryd.func42, Tryd.ntmps42
  go_wp2
  go_ret
  exact ⟨rfl, rfl⟩
theorem pieces_any (l : List Nat) (hb : Bytes l) (hl : l.length ≤ 100000) (c : Nat) (hc : c < 256) (g : Nat) (w : World) (hgl : g < w.heap.size) (hg : w.cell? ⟨g, 0, none⟩ = some (.int .u8 (c : Nat))) :
    Calls Tryd.prog 41 #[.string (str l), .func (.func 52) #[] #[.pointer (some ⟨g, 0, none⟩)]] w (PiecesIs w (splitT c l)) := by
  have hget : ∀ (k : Nat) (h : k < (str l).size), ((str l)[k]'h).toNat = l.getD k 0 := fun k h => str_get hb k h
  have hInfo : (Tryd.prog.info? 9).map (fun i => (i.zero, i.size, i.bytes)) = some (some (.string ByteArray.empty), 1, 16) := by kernel_rfl
  have HInfo := Lib.hid hInfo
  clear hInfo
  obtain ⟨L, hL⟩ : ∃ L, l.length = L := ⟨_, rfl⟩
  have HL := Lib.hid hL
  have hst := Lib.hid (parted_start c l)
  have HG := Lib.hid hg
  rw [hL] at hl
  clear hg
  go_enter Tryd.func41, Tryd.ntmps41
  go_wp2
  go_loopw [5, 6, 10] (fun v f i wr => ∃ (k fr m : Nat) (ds : List (List Nat)), i = .int .i64 (k : Nat) ∧ f = .int .i64 (fr : Nat) ∧ Parted c l k fr ds ∧ m = ds.length ∧ wr.ownsRow w.heap.size 9 1 v m (RStr.vals (texts ds)) ∧ Below w.heap.size w wr) (fun _ _ i _ => L - (intOf i).toNat)
  case atStart => exact ⟨0, 0, 0, [], rfl, rfl, hst.out, rfl, RStr.own_none _ _ _, Below.refl _ _⟩
  case round =>
    obtain ⟨k, fr, m, ds, rfl, rfl, hP, hm, hO, hB⟩ := hrel
    have hkl := hP.2.2.2.1
    have hfk := hP.2.2.1
    have hdl := hP.2.2.2.2
    rw [← hm] at hdl
    rw [hL] at hkl
    have HP := Lib.hid hP
    have HM := Lib.hid hm
    have hgw : wr.cell? ⟨g, 0, none⟩ = some (.int .u8 (c : Nat)) := by rw [hB.cell hgl]; exact HG.out
    clear hP hm
    by_cases hkL : k < L
    · have hks : k < (str l).size := by rw [str_size, hL]; exact hkL
      have hga := hget k hks
      obtain ⟨a, ha⟩ : ∃ a, l.getD k 0 = a := ⟨_, rfl⟩
      rw [ha] at hga
      have HA := Lib.hid ha
      clear ha hget
      by_cases hac : a = c
      · have hn := Lib.hid (parted_cut HP.out (by rw [HL.out]; exact hkL) (by rw [HA.out]; exact hac))
        have hexz : (str l).extract fr k = str ((l.drop fr).take (k - fr)) := str_extract l fr k
        have hpl : (str ((l.drop fr).take (k - fr))).size ≤ 281474976710656 := by rw [str_size, List.length_take]; omega
        generalize (l.drop fr).take (k - fr) = p at *
        have hfkz : (fr : Int) ≤ (k : Int) := by omega
        have hjm : m + 1 ≤ 1048576 := by omega
        have hcl := fun W => clone_any (str p) hpl W
        subst hac
        have hsy := sign_yes a g wr hgw
        go_wp2_with (first
          | (go_at_call 52; ((with_reducible refine hsy.mono ?_); rintro e w1 ⟨rfl, rfl⟩))
          | (go_at_call 51; ((with_reducible refine (hcl _).mono ?_); rintro e w1 ⟨rfl, hBc⟩; have hO0 := own_kept hO (Kept.of_below (S := []) hBc) (by simp); have hB0 := hB.trans (hBc.mono hB.size); have hOa := own_kept hO0 ((Kept.refl [] w1).alloc (.cells #[.string (str p)] 9)) (by simp); have hBa := hB0.alloc hB0.size (.cells #[.string (str p)] 9); have hVn : RStr.Vals (w1.alloc (.cells #[.string (str p)] 9)) (some ⟨w1.heap.size, 0, none⟩) 1 [str p] := RStr.Vals.has (ys := [str p]) (tl := []) (Has.new w1 _ _)))
          | (at_builtin; refine RStr.wpList_append_vals rfl (.tmp 18) (.tmp 24) _ rfl w.heap.size 9 16 (by omega) Tryd.underlying65 HInfo.out u5 m (texts ds) rfl (by exact hOa) _ 1 1 [str p] rfl (by exact hVn) (by exact hjm) (by exact hBa.size) ?_; intro v1 W1 hO1 hg1 hat1; have hK1 := Kept.of_grown hg1; have hB1 := below_kept hBa hK1 hBa.size (own_in hOa)))
        go_roundw
        case rel => exact ⟨k + 1, k + 1, m + 1, ds ++ [p], by go_num, by go_num, hn.out, by rw [HM.out]; simp, by rw [show texts (ds ++ [p]) = texts ds ++ [str p] by simp [texts]]; exact hO1, hB1⟩
        case measure => simp [intOf]; omega
      · have hn := Lib.hid (parted_same HP.out (by rw [HL.out]; exact hkL) (by rw [HA.out]; exact hac))
        have hsn := sign_no a c g hac wr hgw
        go_wp2_with (go_at_call 52; ((with_reducible refine hsn.mono ?_); rintro e w1 ⟨rfl, rfl⟩))
        go_roundw
        case rel => exact ⟨k + 1, fr, m, ds, by go_num, rfl, hn.out, HM.out, hO, hB⟩
        case measure => simp [intOf]; omega
    · have hkL2 : k = L := by omega
      subst hkL2
      have hfin := Lib.hid (parted_end (by rw [hL]; exact HP.out))
      have hexz : (str l).extract fr k = str (l.drop fr) := by rw [str_extract, List.take_of_length_le (by rw [List.length_drop]; omega)]
      have hpl : (str (l.drop fr)).size ≤ 281474976710656 := by rw [str_size, List.length_drop]; omega
      generalize l.drop fr = p at *
      have hfkz : (fr : Int) ≤ (k : Int) := by omega
      have hjm : m + 1 ≤ 1048576 := by omega
      have hmk : m + 1 ≤ 100001 := by omega
      have hcl := fun W => clone_any (str p) hpl W
      clear hst hget
      go_wp2_with (first
        | (go_at_call 51; ((with_reducible refine (hcl _).mono ?_); rintro e w1 ⟨rfl, hBc⟩; have hO0 := own_kept hO (Kept.of_below (S := []) hBc) (by simp); have hB0 := hB.trans (hBc.mono hB.size); have hOa := own_kept hO0 ((Kept.refl [] w1).alloc (.cells #[.string (str p)] 9)) (by simp); have hBa := hB0.alloc hB0.size (.cells #[.string (str p)] 9); have hVn : RStr.Vals (w1.alloc (.cells #[.string (str p)] 9)) (some ⟨w1.heap.size, 0, none⟩) 1 [str p] := RStr.Vals.has (ys := [str p]) (tl := []) (Has.new w1 _ _)))
        | (at_builtin; refine RStr.wpList_append_vals rfl (.tmp 29) (.tmp 34) _ rfl w.heap.size 9 16 (by omega) Tryd.underlying65 HInfo.out u5 m (texts ds) rfl (by exact hOa) _ 1 1 [str p] rfl (by exact hVn) (by exact hjm) (by exact hBa.size) ?_; intro v1 W1 hO1 hg1 hat1; have hK1 := Kept.of_grown hg1; have hB1 := below_kept hBa hK1 hBa.size (own_in hOa); rw [show texts ds ++ [str p] = texts (splitT c l) by rw [hfin.out]; simp [texts]] at hO1; obtain ⟨A9, c9, rfl, e1, e2, hV9, e3⟩ := RStr.Vals.own hO1))
      go_ret
      exact ⟨A9, m + 1, c9, rfl, e1, e2, hV9, hmk, hB1⟩
/-- What a cutting at one sign leaves, made of its two calls. -/
theorem cut_any (l : List Nat) (hb : Bytes l) (hl : l.length ≤ 100000) (c : Nat) (hc : c < 256) (w : World) :
    Calls Tryd.prog 41 #[.string (str l), .func (.func 52) #[] #[.pointer (some ⟨w.heap.size, 0, none⟩)]] (w.alloc (.cells #[.int .u8 (c : Nat)] 5)) (PiecesIs w (splitT c l)) := by
  refine (pieces_any l hb hl c hc w.heap.size (w.alloc (.cells #[.int .u8 (c : Nat)] 5)) (by simp) (by rw [World.cell?_alloc_at _ _ _ _ rfl]; rfl)).mono ?_
  rintro e w' ⟨A, n, d, h1, h2, h3, h4, h5, h6⟩
  exact ⟨A, n, d, h1, h2, h3, h4, h5, ((Below.refl w.heap.size w).alloc (Nat.le_refl _) _).trans (h6.mono (by simp))⟩
theorem words_any (l : List Nat) (hb : Bytes l) (hl : l.length ≤ 100000) (w : World) : Calls Tryd.prog 31 #[.string (str l)] w (PiecesIs w (wordsT l)) := by
  by_cases h : l = []
  · subst h
    go_enter Tryd.func31, Tryd.ntmps31
    go_wp2
    go_ret
    exact ⟨none, 0, 0, rfl, by omega, by omega, RStr.Vals.none_ _, by omega, Below.refl _ _⟩
  · have hs : Calls Tryd.prog 41 #[.string (str l), .func (.func 52) #[] #[.pointer (some ⟨w.heap.size, 0, none⟩)]] (w.alloc (.cells #[.int .u8 32] 5)) (PiecesIs w (splitT 32 l)) := cut_any l hb hl 32 (by omega) w
    have hi : Calls Tryd.prog 42 #[.int .u8 32] w fun e w' => e = .returned (.func (.func 52) #[] #[.pointer (some ⟨w.heap.size, 0, none⟩)]) ∧ w' = w.alloc (.cells #[.int .u8 32] 5) := is_any 32 w
    have hw : wordsT l = splitT 32 l := by unfold wordsT; rw [if_neg h]
    rw [hw]
    have he : l.isEmpty = false := by cases l with
      | nil => exact absurd rfl h
      | cons => rfl
    clear hw
    go_enter Tryd.func31, Tryd.ntmps31
    go_wp2_with (first
      | (go_at_call 42; ((with_reducible refine hi.mono ?_); rintro e w' ⟨rfl, rfl⟩))
      | (go_at_call 41; ((with_reducible refine hs.mono ?_); rintro e w' ⟨A, n, c, rfl, h1, h2, h3, h4, h5⟩)))
    go_ret
    exact ⟨A, n, c, rfl, h1, h2, h3, h4, h5⟩
end Go.Proofs.YtmefdgmbpihdfaaDoor.Txt
