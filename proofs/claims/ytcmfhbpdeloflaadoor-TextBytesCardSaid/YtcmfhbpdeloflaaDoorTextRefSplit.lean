/- The reference's pieces of a text: apart and together, and whether two lists are the same. -/
import Derived.Test.YtcmfhbpdeloflaaDoorTextRef
import Derived.Test.YtcmfhbpdeloflaaDoorTextSplit
import Derived.Test.YtcmfhbpdeloflaaDoorTextRead
import Derived.Test.YtcmfhbpdeloflaaDoorArgsS
import Derived.Test.YtcmfhbpdeloflaaDoorLawKit
set_option linter.unusedSimpArgs false
set_option linter.unusedVariables false
namespace Go.Proofs.YtcmfhbpdeloflaaDoor.Txt
open Go.RowKit RU8
attribute [local go_sem] str_size str_isEmpty str_isNil str_extract

def texts (ps : List (List Nat)) : List ByteArray := ps.map str
theorem texts_length (ps : List (List Nat)) : (texts ps).length = ps.length := by simp [texts]
theorem texts_getD (ps : List (List Nat)) (j : Nat) (h : j < ps.length) : (texts ps).getD j ByteArray.empty = str (ps.getD j []) := by
  simp [texts, List.getD_eq_getElem?_getD, List.getElem?_eq_getElem h]
/-- The texts of a slice that came in. -/
theorem row_texts {w : World} {a : Option Addr} {len cap : Nat} {ss : List ByteArray} (h : IsTexts w a len cap ss) : ∃ ps : List (List Nat), RStr.Vals w a len (texts ps) ∧ (∀ p ∈ ps, Bytes p) ∧ len ≤ cap ∧ cap ≤ 9223372036854775807 := by
  refine ⟨(ss.take len).map bytesOf, ?_⟩
  have e : texts ((ss.take len).map bytesOf) = ss.take len := by
    unfold texts
    rw [List.map_map]
    refine (List.map_congr_left (g := id) fun s _ => ?_).trans (List.map_id _)
    exact str_bytesOf s
  have hbs : ∀ p ∈ (ss.take len).map bytesOf, Bytes p := fun p hp => by
    obtain ⟨s, _, rfl⟩ := List.mem_map.1 hp
    exact bytesOf_bytes s
  rw [e]
  rcases h with ⟨rfl, rfl, rfl, rfl⟩ | ⟨x, rfl, h1, h2, h3, h4⟩
  · exact ⟨⟨rfl, fun h => absurd h (by omega)⟩, hbs, by omega, by omega⟩
  · unfold maxLen at h2
    refine ⟨⟨by rw [List.length_take]; omega, fun _ => ⟨x, rfl, fun i hi => ?_⟩⟩, hbs, h1, by omega⟩
    rw [h4 i (by omega)]
    simp [List.getD_eq_getElem?_getD, List.getElem?_take, hi]
theorem join_bound (ps : List (List Nat)) (h : ∀ k, k < ps.length → (ps.getD k []).length ≤ 200) : (joinT ps).length ≤ 201 * ps.length := by
  have key : ∀ j, j ≤ ps.length → (joinT (ps.take j)).length ≤ 201 * j := fun j => by
    induction j with
    | zero => intro _; simp [joinT]
    | succ j ih =>
      intro hj
      have h1 := ih (by omega)
      have h2 := h j (by omega)
      rw [join_take_step ps j (by omega)]
      split <;> simp only [List.length_append, List.length_singleton] <;> omega
  have := key ps.length (Nat.le_refl _)
  rwa [List.take_length] at this
theorem wordsT_bytes {l : List Nat} (h : Bytes l) : ∀ p ∈ wordsT l, Bytes p := by
  unfold wordsT
  split
  · intro p hp; cases hp
  · exact splitT_bytes 32 h
theorem refjoin_any (A : Option Addr) (n c : Nat) (ps : List (List Nat)) (w : World) (hv : RStr.Vals w A n (texts ps)) (hn : n ≤ 100001) (hl : (joinT ps).length ≤ 1000000) :
    Calls Tryd.prog 22 #[.slice A n c] w fun e w' => e = .returned (.string (str (joinT ps))) ∧ w = w' := by
  have hlen : ps.length = n := by have := hv.len_; rwa [texts_length] at this
  have hend : joinT (ps.take n) = joinT ps := by rw [List.take_of_length_le (by omega)]
  have h0 : (⟨#[]⟩ : ByteArray) = str (joinT (ps.take 0)) := rfl
  have HE := Lib.hid hend
  have H0 := Lib.hid h0
  clear hend h0
  go_enter Tryd.func22, Tryd.ntmps22
  go_wp2
  go_loop [3, 4] (fun s i => ∃ j : Nat, j ≤ n ∧ i = .int .i64 (j : Nat) ∧ s = .string (str (joinT (ps.take j)))) (fun _ i => n - (intOf i).toNat)
  case atStart => exact ⟨0, by omega, rfl, by rw [← H0.out]⟩
  case round =>
    obtain ⟨j, hj, rfl, rfl⟩ := hrel
    by_cases hjn : j < n
    · obtain ⟨x, rfl, hx⟩ := hv.cells (by omega)
      have hc1 := hx j hjn
      rw [texts_getD ps j (by omega)] at hc1
      have hst := join_take_step ps j (by omega)
      have hp := join_prefix ps (j + 1)
      rw [hst] at hp
      have HST := Lib.hid hst
      clear hst hx
      generalize joinT (ps.take j) = S at *
      generalize ps.getD j [] = p at *
      have hpl : S.length + p.length + 1 ≤ 1000002 := by split at hp <;> simp at hp <;> omega
      by_cases hj0 : j = 0
      · have ha1 : ∀ W, (Op.stringOp .add (str S) (str p)).run Tryd.prog W = .ok (.string (str (S ++ p))) W := fun W => run_add _ _ W (by omega)
        have HJ := Lib.hid hj0
        subst hj0
        have hc0 : w.cell? x = some (.string (str p)) := by simpa [Addr.add] using hc1
        clear hp hc1
        go_wp2
        go_round
        case rel => exact ⟨1, by omega, rfl, by rw [HST.out]; rfl⟩
        case measure => simp [intOf]; omega
      · have hjp : (0 : Int) < (j : Int) := by omega
        have ha1 : ∀ W, (Op.stringOp .add (str S) (⟨#[32]⟩ : ByteArray)).run Tryd.prog W = .ok (.string (str (S ++ [32]))) W := fun W => run_add S [32] W (by simp; omega)
        have ha2 : ∀ W, (Op.stringOp .add (str (S ++ [32])) (str p)).run Tryd.prog W = .ok (.string (str (S ++ [32] ++ p))) W := fun W => run_add _ _ W (by simp; omega)
        have HJ := Lib.hid hj0
        clear hp hj0
        go_wp2
        go_round
        case rel => exact ⟨j + 1, by omega, by go_num, by rw [HST.out, if_neg HJ.out, List.append_assoc]; rfl⟩
        case measure => simp [intOf]; omega
    · obtain rfl : j = n := by omega
      go_wp2
      go_ret
      exact ⟨by rw [← HE.out]; rfl, rfl⟩
/-- What a cutting answers: a new list of these pieces. -/
def PiecesIs (w : World) (ps : List (List Nat)) (e : Ending) (w' : World) : Prop :=
  ∃ A n c, e = .returned (.slice A n c) ∧ n ≤ c ∧ c ≤ 9223372036854775807 ∧ RStr.Vals w' A n (texts ps) ∧ n ≤ 100001 ∧ Below w.heap.size w w'
theorem refsplit_any (l : List Nat) (hb : Bytes l) (hl : l.length ≤ 100000) (c : Nat) (hc : c < 256) (w : World) : Calls Tryd.prog 34 #[.string (str l), .int .u8 c] w (PiecesIs w (splitT c l)) := by
  have hget : ∀ (k : Nat) (h : k < (str l).size), ((str l)[k]'h).toNat = l.getD k 0 := fun k h => str_get hb k h
  have hInfo : (Tryd.prog.info? 9).map (fun i => (i.zero, i.size, i.bytes)) = some (some (.string ByteArray.empty), 1, 16) := by kernel_rfl
  have HInfo := Lib.hid hInfo
  clear hInfo
  obtain ⟨L, hL⟩ : ∃ L, l.length = L := ⟨_, rfl⟩
  have HL := Lib.hid hL
  have hst := Lib.hid (parted_start c l)
  rw [hL] at hl
  go_enter Tryd.func34, Tryd.ntmps34
  go_wp2
  go_loopw [5, 6, 7] (fun v f i wr => ∃ (k fr m : Nat) (ds : List (List Nat)), i = .int .i64 (k : Nat) ∧ f = .int .i64 (fr : Nat) ∧ Parted c l k fr ds ∧ m = ds.length ∧ wr.ownsRow w.heap.size 9 1 v m (RStr.vals (texts ds)) ∧ Below w.heap.size w wr) (fun _ _ i _ => L - (intOf i).toNat)
  case atStart => exact ⟨0, 0, 0, [], rfl, rfl, hst.out, rfl, RStr.own_none _ _ _, Below.refl _ _⟩
  case round =>
    obtain ⟨k, fr, m, ds, rfl, rfl, hP, hm, hO, hB⟩ := hrel
    have hkl := hP.2.2.2.1
    have hfk := hP.2.2.1
    have hdl := hP.2.2.2.2
    rw [← hm] at hdl
    rw [hL] at hkl
    have HP := Lib.hid hP
    have HM := Lib.hid hm
    clear hP hm
    by_cases hkL : k < L
    · have hks : k < (str l).size := by rw [str_size, hL]; exact hkL
      have hga := hget k hks
      obtain ⟨a, ha⟩ : ∃ a, l.getD k 0 = a := ⟨_, rfl⟩
      rw [ha] at hga
      have HA := Lib.hid ha
      clear ha hget
      by_cases hac : a = c
      · have hn := Lib.hid (parted_cut HP.out (by rw [HL.out]; exact hkL) (by rw [HA.out]; exact hac))
        have hexz : (str l).extract fr k = str ((l.drop fr).take (k - fr)) := str_extract l fr k
        generalize (l.drop fr).take (k - fr) = p at *
        have hfkz : (fr : Int) ≤ (k : Int) := by omega
        have hOa := own_kept hO ((Kept.refl [] wr).alloc (.cells #[.string (str p)] 9)) (by simp)
        have hBa := hB.alloc hB.size (.cells #[.string (str p)] 9)
        have hVn : RStr.Vals (wr.alloc (.cells #[.string (str p)] 9)) (some ⟨wr.heap.size, 0, none⟩) 1 [str p] := RStr.Vals.has (ys := [str p]) (tl := []) (Has.new wr _ _)
        have hjm : m + 1 ≤ 1048576 := by omega
        subst hac
        go_wp2_with (at_builtin; refine RStr.wpList_append_vals rfl (.tmp 19) (.tmp 24) _ rfl w.heap.size 9 16 (by omega) Tryd.underlying38 HInfo.out u5 m (texts ds) rfl (by exact hOa) _ 1 1 [str p] rfl (by exact hVn) (by exact hjm) (by exact hBa.size) ?_; intro v1 W1 hO1 hg1 hat1; have hK1 := Kept.of_grown hg1; have hB1 := below_kept hBa hK1 hBa.size (own_in hOa))
        go_roundw
        case rel => exact ⟨k + 1, k + 1, m + 1, ds ++ [p], by go_num, by go_num, hn.out, by rw [HM.out]; simp, by rw [show texts (ds ++ [p]) = texts ds ++ [str p] by simp [texts]]; exact hO1, hB1⟩
        case measure => simp [intOf]; omega
      · have hn := Lib.hid (parted_same HP.out (by rw [HL.out]; exact hkL) (by rw [HA.out]; exact hac))
        have hacz : ((a : Int) == (c : Int)) = false := by simp; omega
        have HAC := Lib.hid hac
        clear hac
        go_wp2
        go_roundw
        case rel => exact ⟨k + 1, fr, m, ds, by go_num, rfl, hn.out, HM.out, hO, hB⟩
        case measure => simp [intOf]; omega
    · have hkL2 : k = L := by omega
      subst hkL2
      have hfin := Lib.hid (parted_end (by rw [hL]; exact HP.out))
      have hexz : (str l).extract fr k = str (l.drop fr) := by rw [str_extract, List.take_of_length_le (by rw [List.length_drop]; omega)]
      generalize l.drop fr = p at *
      have hfkz : (fr : Int) ≤ (k : Int) := by omega
      have hOa := own_kept hO ((Kept.refl [] wr).alloc (.cells #[.string (str p)] 9)) (by simp)
      have hBa := hB.alloc hB.size (.cells #[.string (str p)] 9)
      have hVn : RStr.Vals (wr.alloc (.cells #[.string (str p)] 9)) (some ⟨wr.heap.size, 0, none⟩) 1 [str p] := RStr.Vals.has (ys := [str p]) (tl := []) (Has.new wr _ _)
      have hjm : m + 1 ≤ 1048576 := by omega
      have hmk : m + 1 ≤ 100001 := by omega
      clear hst hget
      go_wp2_with (at_builtin; refine RStr.wpList_append_vals rfl (.tmp 28) (.tmp 32) _ rfl w.heap.size 9 16 (by omega) Tryd.underlying38 HInfo.out u5 m (texts ds) rfl (by exact hOa) _ 1 1 [str p] rfl (by exact hVn) (by exact hjm) (by exact hBa.size) ?_; intro v1 W1 hO1 hg1 hat1; have hK1 := Kept.of_grown hg1; have hB1 := below_kept hBa hK1 hBa.size (own_in hOa); rw [show texts ds ++ [str p] = texts (splitT c l) by rw [hfin.out]; simp [texts]] at hO1; obtain ⟨A9, c9, rfl, e1, e2, hV9, e3⟩ := RStr.Vals.own hO1)
      go_ret
      exact ⟨A9, m + 1, c9, rfl, e1, e2, hV9, hmk, hB1⟩
theorem refwords_any (l : List Nat) (hb : Bytes l) (hl : l.length ≤ 100000) (w : World) : Calls Tryd.prog 18 #[.string (str l)] w (PiecesIs w (wordsT l)) := by
  by_cases h : l = []
  · subst h
    go_enter Tryd.func18, Tryd.ntmps18
    go_wp2
    go_ret
    exact ⟨none, 0, 0, rfl, by omega, by omega, RStr.Vals.none_ _, by omega, Below.refl _ _⟩
  · have hs : Calls Tryd.prog 34 #[.string (str l), .int .u8 32] w (PiecesIs w (splitT 32 l)) := refsplit_any l hb hl 32 (by omega) w
    have hw : wordsT l = splitT 32 l := by unfold wordsT; rw [if_neg h]
    rw [hw]
    have he : l.isEmpty = false := by cases l with
      | nil => exact absurd rfl h
      | cons => rfl
    clear hw
    go_enter Tryd.func18, Tryd.ntmps18
    go_wp2_with (go_at_call 34; ((with_reducible refine hs.mono ?_); rintro e w' ⟨A, n, c, rfl, h1, h2, h3, h4, h5⟩))
    go_ret
    exact ⟨A, n, c, rfl, h1, h2, h3, h4, h5⟩
theorem last_getD (s : List (List Nat)) (m : Nat) (h : s.length = m + 1) : s.getLastD [] = s.getD m [] := by
  rw [List.getLastD_eq_getLast?, List.getLast?_eq_getElem?, h, Nat.add_sub_cancel, List.getD_eq_getElem?_getD]
theorem texts_take (ps : List (List Nat)) (n : Nat) : texts (ps.take n) = (texts ps).take n := by simp [texts, List.map_take]
theorem reflines_any (l : List Nat) (hb : Bytes l) (hl : l.length ≤ 100000) (w : World) : Calls Tryd.prog 20 #[.string (str l)] w (PiecesIs w (linesT l)) := by
  have hs : Calls Tryd.prog 34 #[.string (str l), .int .u8 10] w (PiecesIs w (splitT 10 l)) := refsplit_any l hb hl 10 (by omega) w
  obtain ⟨m, hm⟩ : ∃ m, (splitT 10 l).length = m + 1 := ⟨(splitT 10 l).length - 1, by have := splitT_pos 10 l; omega⟩
  have hlast := last_getD (splitT 10 l) m hm
  have hlines : linesT l = if (splitT 10 l).getD m [] = [] then (splitT 10 l).dropLast else splitT 10 l := by unfold linesT; rw [hlast]
  have hdrop : (splitT 10 l).dropLast = (splitT 10 l).take m := by rw [List.dropLast_eq_take, hm, Nat.add_sub_cancel]
  have HM := Lib.hid hm
  generalize hS : splitT 10 l = S at *
  have hgd := fun h => texts_getD S m h
  obtain ⟨p, hp⟩ : ∃ p, S.getD m [] = p := ⟨_, rfl⟩
  rw [hp] at hlines hgd
  have hn1 : ∀ (n : Nat) (A : Option Addr) (W : World), RStr.Vals W A n (texts S) → n = m + 1 := fun n A W hv => by have := hv.len_; rw [texts_length, HM.out] at this; omega
  have hc1 : ∀ (x : Addr) (W : World), RStr.Vals W (some x) (m + 1) (texts S) → W.cell? (x.add m) = some (.string (str p)) := fun x W hv => by
    obtain ⟨y, hy, hc⟩ := hv.cells (by omega)
    injection hy with hy
    subst hy
    rw [hc m (by omega), hgd (by rw [HM.out]; omega)]
  have hmz : ((m + 1 : Nat) : Int) - 1 = (m : Int) := by omega
  have hmz2 : (m : Int) + 1 - 1 = (m : Int) := by omega
  have hwm : ∀ c : Nat, m + 1 ≤ c → (m : Int) ≤ (c : Int) := by omega
  by_cases hpe : p = []
  · rw [if_pos hpe, hdrop] at hlines
    rw [hlines]
    have hpi : p.isEmpty = true := by rw [hpe]; rfl
    clear hlast hdrop hp hlines hgd
    go_enter Tryd.func20, Tryd.ntmps20
    go_wp2_with (go_at_call 34; ((with_reducible refine hs.mono ?_); rintro e w' ⟨A, n, c, rfl, h1, h2, h3, h4, h5⟩; have hn := hn1 _ _ _ h3; subst hn; obtain ⟨x, rfl, _⟩ := h3.cells (by omega); have hcx := hc1 x w' h3; have hmc := hwm c h1))
    go_ret
    exact ⟨some x, m, c, rfl, by omega, h2, by rw [texts_take]; exact RStr.Vals.take h3 m (by omega), by omega, h5⟩
  · rw [if_neg hpe] at hlines
    rw [hlines]
    have hpi : p.isEmpty = false := by cases p with
      | nil => exact absurd rfl hpe
      | cons => rfl
    have HPE := Lib.hid hpe
    clear hlast hdrop hp hlines hgd hpe
    go_enter Tryd.func20, Tryd.ntmps20
    go_wp2_with (go_at_call 34; ((with_reducible refine hs.mono ?_); rintro e w' ⟨A, n, c, rfl, h1, h2, h3, h4, h5⟩; have hn := hn1 _ _ _ h3; subst hn; obtain ⟨x, rfl, _⟩ := h3.cells (by omega); have hcx := hc1 x w' h3; have hmc := hwm c h1))
    go_ret
    exact ⟨some x, m + 1, c, rfl, h1, h2, h3, h4, h5⟩
theorem ba_beq (x y : ByteArray) : (x.toList == y.toList) = decide (x = y) := by
  rw [Bool.eq_iff_iff, beq_iff_eq, decide_eq_true_iff, ByteArray.toList_eq, ByteArray.toList_eq]
  exact ⟨ext, fun h => by rw [h]⟩
theorem same_step {xs ys : List ByteArray} {j : Nat} (hx : j < xs.length) (hy : j < ys.length) (h : xs.take j = ys.take j) : (xs.getD j ByteArray.empty = ys.getD j ByteArray.empty → xs.take (j + 1) = ys.take (j + 1)) ∧ (xs.getD j ByteArray.empty ≠ ys.getD j ByteArray.empty → xs ≠ ys) := by
  constructor
  · intro he
    rw [List.take_succ_eq_append_getElem hx, List.take_succ_eq_append_getElem hy, h]
    rw [List.getD_eq_getElem?_getD, List.getD_eq_getElem?_getD, List.getElem?_eq_getElem hx, List.getElem?_eq_getElem hy] at he
    simp at he
    rw [he]
  · rintro hne rfl; exact hne rfl
theorem same_any (A : Option Addr) (n c : Nat) (xs : List ByteArray) (B : Option Addr) (m d : Nat) (ys : List ByteArray) (w : World) (hv : RStr.Vals w A n xs) (hu : RStr.Vals w B m ys) (hn : n ≤ 200000) (hm : m ≤ 200000) :
    Calls Tryd.prog 16 #[.slice A n c, .slice B m d] w fun e w' => e = .returned (.bool (decide (xs = ys))) ∧ ∃ k, w' = w.drewN k := by
  have hl1 := hv.len_
  have hl2 := hu.len_
  by_cases hnm : n = m
  · subst hnm
    go_enter Tryd.func16, Tryd.ntmps16
    go_wp2
    go_loopw [5] (fun i wr => (∃ j : Nat, j ≤ n ∧ i = .int .i64 (j : Nat) ∧ xs.take j = ys.take j) ∧ ∃ k, wr = w.drewN k) (fun i _ => n - (intOf i).toNat)
    case atStart => exact ⟨⟨0, by omega, rfl, rfl⟩, 0, rfl⟩
    case round =>
      obtain ⟨⟨j, hj, rfl, hT⟩, k, rfl⟩ := hrel
      have HT := Lib.hid hT
      clear hT
      by_cases hjn : j < n
      · obtain ⟨x, rfl, hx⟩ := hv.cells (by omega)
        obtain ⟨y, rfl, hy⟩ := hu.cells (by omega)
        have hc1 := hx j hjn
        have hc2 := hy j hjn
        have hst := Lib.hid (same_step (by omega) (by omega) HT.out (xs := xs) (ys := ys) (j := j))
        generalize xs.getD j ByteArray.empty = a at *
        generalize ys.getD j ByteArray.empty = b at *
        have hab := ba_beq a b
        clear hx hy
        by_cases he : a = b
        · subst he
          have ht := Lib.hid (hst.out.1 rfl)
          go_wp2
          go_quiet (fail)
          go_wp2
          go_roundw
          case rel => exact ⟨⟨j + 1, by omega, by go_num, ht.out⟩, _, rfl⟩
          case measure => simp [intOf]; omega
        · have hr : decide (xs = ys) = false := decide_eq_false (hst.out.2 he)
          have HR := Lib.hid hr
          rw [decide_eq_false he] at hab
          have HE := Lib.hid he
          clear hr he
          go_wp2
          go_quiet (fail)
          go_wp2
          go_ret
          exact ⟨by rw [HR.out]; rfl, k + nq, World.drewN_drewN _ _ _⟩
      · have hjn2 : j = n := by omega
        have hr : decide (xs = ys) = true := by
          have := HT.out
          rw [hjn2, List.take_of_length_le (by omega), List.take_of_length_le (by omega)] at this
          exact decide_eq_true this
        have HR := Lib.hid hr
        clear hr
        subst hjn2
        go_wp2
        go_ret
        exact ⟨by rw [HR.out]; rfl, k, rfl⟩
  · have hr : decide (xs = ys) = false := decide_eq_false (by rintro rfl; omega)
    rw [hr]
    have hz : ((n : Int) == (m : Int)) = false := by simp; omega
    have HN := Lib.hid hnm
    clear hnm
    go_enter Tryd.func16, Tryd.ntmps16
    go_wp2
    go_ret
    exact ⟨rfl, 0, rfl⟩
end Go.Proofs.YtcmfhbpdeloflaaDoor.Txt
