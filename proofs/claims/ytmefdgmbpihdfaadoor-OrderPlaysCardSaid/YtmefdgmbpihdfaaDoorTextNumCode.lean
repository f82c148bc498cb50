/- What text's calls over numbers answer: Num and Read. -/
import Derived.Test.YtmefdgmbpihdfaaDoorTextRead
import Derived.Test.YtmefdgmbpihdfaaDoorTextRef
import Derived.Test.YtmefdgmbpihdfaaDoorShelfNum
import Derived.Test.YtmefdgmbpihdfaaDoorShelfStr
set_option linter.unusedSimpArgs false
set_option linter.unusedVariables false
namespace Go.Proofs.YtmefdgmbpihdfaaDoor.Txt
open Go.RowKit RU8
attribute [local go_sem] str_size str_isEmpty str_isNil str_extract

/-- What two variables of the library hold. -/
structure Laid (w : World) : Prop where
  tab : Lib.TabIs Tryd.prog w "internal/strconv.uint64pow10" .u64 Lib.pow10Tab
  err : ∃ te pe, w.cell? ⟨5, 0, none⟩ = some (.iface te pe)
theorem pow_global : Tryd.prog.globalNamed "internal/strconv.uint64pow10" = some 0 := by kernel_rfl
theorem Laid.below {w w' : World} (h : Laid w) (hB : Below w.heap.size w w') : Laid w' := by
  refine ⟨?_, ?_⟩
  · have h1 := h.tab
    have hlt : 0 < w.heap.size := World.block_lt_of_cell? _ _ (h1.cell pow_global 0 (by rw [Lib.pow10Tab_length]; omega))
    unfold Lib.TabIs World.var? at h1 ⊢
    rw [pow_global] at h1 ⊢
    simp only [Option.bind_some] at h1 ⊢
    rw [hB.block _ hlt]
    exact h1
  · obtain ⟨te, pe, h1⟩ := h.err
    exact ⟨te, pe, by rw [hB.cell (World.block_lt_of_cell? _ _ h1)]; exact h1⟩
/-- The powers of ten alone: a law that reads no number lists no more. -/
def Pows (w : World) : Prop := Lib.TabIs Tryd.prog w "internal/strconv.uint64pow10" .u64 Lib.pow10Tab
theorem Pows.below {w w' : World} (h : Pows w) (hB : Below w.heap.size w w') : Pows w' := by
  have h1 : Lib.TabIs Tryd.prog w "internal/strconv.uint64pow10" .u64 Lib.pow10Tab := h
  have hlt : 0 < w.heap.size := World.block_lt_of_cell? _ _ (h1.cell pow_global 0 (by rw [Lib.pow10Tab_length]; omega))
  unfold Pows Lib.TabIs World.var? at *
  rw [pow_global] at h1 ⊢
  simp only [Option.bind_some] at h1 ⊢
  rw [hB.block _ hlt]
  exact h1
theorem Laid.pows {w : World} (h : Laid w) : Pows w := h.tab
theorem below_grown (w : World) (k : Nat) (os : Array Obj) : Below w.heap.size w (Sort.grow (w.drewN k) os) :=
  ⟨rfl, rfl, rfl, by show w.heap.size ≤ (w.heap ++ os).size; simp, fun i hi => by
    show (w.heap ++ os)[i]? = _
    rw [Array.getElem?_append, if_pos hi]⟩
theorem str_mk2 (l : List Nat) : (⟨(l.map UInt8.ofNat).toArray⟩ : ByteArray) = str l := ext (by rw [str_data])
theorem dec_digs (u : Nat) : Lib.decDigits u = (digs u).map UInt8.ofNat := by
  induction u using digs.induct with
  | case1 u h => rw [Lib.decDigits, dif_pos h, digs_low h]; rfl
  | case2 u h ih => rw [Lib.decDigits, dif_neg h, digs_high (by omega), ih, List.map_append]; rfl
theorem itoa_num (n : Int) : Lib.itoa n = (numT n).map UInt8.ofNat := by
  unfold Lib.itoa numT
  split
  · rw [List.map_cons, dec_digs]; rfl
  · rw [dec_digs, show n.toNat = n.natAbs by omega]
theorem num_pows (n : Int) (h : -9223372036854775808 ≤ n ∧ n ≤ 9223372036854775807) (w : World) (hw : Pows w) : Calls Tryd.prog 28 #[.int .i64 n] w fun e w' => e = .returned (.string (str (numT n))) ∧ Below w.heap.size w w' := by
  have hf := Tryd.formatInt n h.1 h.2 w hw
  rw [itoa_num, str_mk2] at hf
  go_enter Tryd.func28, Tryd.ntmps28
  go_wp2_with (go_at_call 38; ((with_reducible refine hf.mono ?_); rintro e w' ⟨rfl, k, os, rfl⟩))
  go_ret
  exact ⟨rfl, below_grown w k os⟩
theorem num_any (n : Int) (h : -9223372036854775808 ≤ n ∧ n ≤ 9223372036854775807) (w : World) (hw : Laid w) : Calls Tryd.prog 28 #[.int .i64 n] w fun e w' => e = .returned (.string (str (numT n))) ∧ Below w.heap.size w w' := num_pows n h w hw.pows

/-! ### A text of a number's form, as the library reads it -/
def valFrom (acc : Nat) (d : List Nat) : Nat := d.foldl (fun u c => 10 * u + (c - 48)) acc
theorem valFrom_ge (acc : Nat) (d : List Nat) : acc ≤ valFrom acc d := by
  induction d generalizing acc with
  | nil => exact Nat.le_refl _
  | cons c d ih => exact Nat.le_trans (by omega) (ih (10 * acc + (c - 48)))
theorem uint_digits (d : List Nat) (hd : ∀ c ∈ d, Digit c) (acc : Nat) (ha : acc < 18446744073709551616) :
    Lib.parseUintM (2 ^ 64 - 1) acc (d.map UInt8.ofNat) = if 18446744073709551616 ≤ valFrom acc d then .range else .ok (valFrom acc d) := by
  induction d generalizing acc with
  | nil =>
    rw [if_neg (by simp [valFrom]; omega)]
    rfl
  | cons c d ih =>
    have hc : Digit c := hd c (by simp)
    unfold Digit at hc
    have hcn : (UInt8.ofNat c).toNat = c := by simp; omega
    have hge := valFrom_ge (10 * acc + (c - 48)) d
    have e : valFrom acc (c :: d) = valFrom (10 * acc + (c - 48)) d := rfl
    rw [List.map_cons, Lib.parseUintM, hcn, if_pos hc, e]
    by_cases h1 : 1844674407370955162 ≤ acc
    · rw [if_pos h1, if_pos (by omega)]
    · rw [if_neg h1]
      by_cases h2 : 18446744073709551616 ≤ 10 * acc + (c - 48)
      · rw [if_pos (by omega), if_pos (by omega)]
      · rw [if_neg (by omega), Nat.mul_comm acc 10]
        exact ih (fun x hx => hd x (by simp [hx])) _ (by omega)
theorem uint_fine (d : List Nat) (hd : ∀ c ∈ d, Digit c) (hne : d ≠ []) : Lib.parseUintB 64 (d.map UInt8.ofNat) = if 18446744073709551616 ≤ valT d then .range else .ok (valT d) := by
  unfold Lib.parseUintB
  rw [if_neg (by simpa using hne)]
  exact uint_digits d hd 0 (by omega)
theorem parse_neg (d : List Nat) (hF : Fine true d) (hd : ∀ c ∈ d, Digit c) :
    (tailT true d = (0, 9) ∧ Lib.parseIntB 64 ((45 :: d).map UInt8.ofNat) = .range) ∨ ∃ v, tailT true d = (v, 0) ∧ Lib.parseIntB 64 ((45 :: d).map UInt8.ofNat) = .ok v := by
  have hp := uint_fine d hd hF.ne
  have e1 : Lib.parseUintB 64 (d.map UInt8.ofNat) = .range → Lib.parseIntB 64 ((45 :: d).map UInt8.ofNat) = .range := fun h => by
    rw [List.map_cons]
    unfold Lib.parseIntB
    simp [h]
  have e2 : ∀ u, Lib.parseUintB 64 (d.map UInt8.ofNat) = .ok u → Lib.parseIntB 64 ((45 :: d).map UInt8.ofNat) = if 9223372036854775808 < u then .range else .ok (-(u : Int)) := fun u h => by
    rw [List.map_cons]
    unfold Lib.parseIntB
    simp [h]
  rw [fine_end hF hd]
  by_cases h1 : 18446744073709551616 ≤ valT d
  · left
    rw [if_pos h1] at hp
    rw [if_pos (.inl (by omega))]
    exact ⟨rfl, e1 hp⟩
  · rw [if_neg h1] at hp
    rw [e2 _ hp]
    by_cases h2 : 9223372036854775808 < valT d
    · left
      rw [if_pos (.inl h2)]
      exact ⟨rfl, if_pos h2⟩
    · right
      rw [if_neg (by rintro (h | h); exact h2 h; exact absurd h.2 (by decide))]
      exact ⟨_, rfl, if_neg h2⟩
theorem parse_pos (d : List Nat) (hF : Fine false d) (hd : ∀ c ∈ d, Digit c) :
    (tailT false d = (0, 9) ∧ Lib.parseIntB 64 (d.map UInt8.ofNat) = .range) ∨ ∃ v, tailT false d = (v, 0) ∧ Lib.parseIntB 64 (d.map UInt8.ofNat) = .ok v := by
  have hp := uint_fine d hd hF.ne
  have e1 : Lib.parseUintB 64 (d.map UInt8.ofNat) = .range → Lib.parseIntB 64 (d.map UInt8.ofNat) = .range := fun h => by
    cases d with
    | nil => exact absurd rfl hF.ne
    | cons c r =>
      have hc : Digit c := hd c (by simp)
      unfold Digit at hc
      have hcn : (UInt8.ofNat c).toNat = c := by simp; omega
      have h43 : ¬ c = 43 := by omega
      have h45 : ¬ c = 45 := by omega
      rw [List.map_cons] at h ⊢
      unfold Lib.parseIntB
      simp [hcn, h43, h45, h]
  have e2 : ∀ u, Lib.parseUintB 64 (d.map UInt8.ofNat) = .ok u → Lib.parseIntB 64 (d.map UInt8.ofNat) = if 9223372036854775808 ≤ u then .range else .ok (u : Int) := fun u h => by
    cases d with
    | nil => exact absurd rfl hF.ne
    | cons c r =>
      have hc : Digit c := hd c (by simp)
      unfold Digit at hc
      have hcn : (UInt8.ofNat c).toNat = c := by simp; omega
      have h43 : ¬ c = 43 := by omega
      have h45 : ¬ c = 45 := by omega
      rw [List.map_cons] at h ⊢
      unfold Lib.parseIntB
      simp [hcn, h43, h45, h]
  rw [fine_end hF hd]
  by_cases h1 : 18446744073709551616 ≤ valT d
  · left
    rw [if_pos h1] at hp
    rw [if_pos (.inl (by omega))]
    exact ⟨rfl, e1 hp⟩
  · rw [if_neg h1] at hp
    rw [e2 _ hp]
    by_cases h2 : 9223372036854775808 ≤ valT d
    · left
      rw [if_pos (by by_cases h3 : valT d = 9223372036854775808; exact .inr ⟨h3, rfl⟩; exact .inl (by omega))]
      exact ⟨rfl, if_pos h2⟩
    · right
      rw [if_neg (by rintro (h | h); omega; omega)]
      exact ⟨_, rfl, if_neg h2⟩
/-- A text's sign, and what stands behind it. -/
def restT (l : List Nat) : List Nat := if l.getD 0 0 = 45 then l.drop 1 else l
theorem rest_cases (l : List Nat) : (l = 45 :: restT l ∧ readT l = tailT true (restT l)) ∨ (l.getD 0 0 ≠ 45 ∧ restT l = l ∧ readT l = tailT false (restT l)) := by
  by_cases h : l.getD 0 0 = 45
  · left
    cases l with
    | nil => simp at h
    | cons c l =>
      simp at h
      subst h
      refine ⟨by simp [restT], ?_⟩
      rw [readT_neg]
      simp [restT]
  · right
    have e : restT l = l := by unfold restT; rw [if_neg h]
    rw [e]
    exact ⟨h, rfl, readT_pos l h⟩
theorem zero_read : readT [48] = (0, 0) := by decide
theorem zero_parse : Lib.parseIntB 64 ([48].map UInt8.ofNat) = .ok 0 := by decide
/-- A text of the form is read as the library reads it. -/
theorem read_parse (l : List Nat) (h : (readT l).2 ≠ 8) : (readT l = (0, 9) ∧ Lib.parseIntB 64 (l.map UInt8.ofNat) = .range) ∨ ∃ v, readT l = (v, 0) ∧ Lib.parseIntB 64 (l.map UInt8.ofNat) = .ok v := by
  have key : ∀ neg d, (tailT neg d).2 ≠ 8 → Fine neg d ∧ (∀ c ∈ d, Digit c) := fun neg d hn => by
    by_cases hbad : d = [] ∨ (d.getD 0 0 = 48 ∧ (1 < d.length ∨ neg = true)) ∨ ¬ (∀ c ∈ d, Digit c)
    · rw [tail_bad hbad] at hn
      exact absurd rfl hn
    · exact ⟨⟨fun e => hbad (.inl e), fun e => hbad (.inr (.inl e))⟩, Classical.byContradiction fun e => hbad (.inr (.inr e))⟩
  rcases rest_cases l with ⟨h1, h2⟩ | ⟨h1, h2, h3⟩
  · rw [h2] at h ⊢
    obtain ⟨hF, hd⟩ := key _ _ h
    rw [h1, show restT (45 :: restT l) = restT l by rw [← h1]]
    exact parse_neg _ hF hd
  · rw [h3] at h ⊢
    obtain ⟨hF, hd⟩ := key _ _ h
    have hp := parse_pos _ hF hd
    rw [h2] at hp ⊢
    exact hp
theorem trim_any (l : List Nat) (hb : Bytes l) (w : World) : Calls Tryd.prog 69 #[.string (str l), .string ⟨#[45]⟩] w fun e w' => e = .returned (.string (str (restT l))) ∧ w' = w := by
  have h := Tryd.trimPrefix (str l) ⟨#[45]⟩ w
  have e : Lib.trimPrefix (str l).data.toList (⟨#[45]⟩ : ByteArray).data.toList = (restT l).map UInt8.ofNat := by
    rw [str_data]
    unfold Lib.trimPrefix Lib.hasPrefix restT
    cases l with
    | nil => rfl
    | cons c r =>
      have hc := hb c (by simp)
      by_cases h45 : c = 45
      · subst h45
        simp
      · have : ¬ (45 : UInt8) = UInt8.ofNat c := fun h => h45 (by have := congrArg UInt8.toNat h; simp at this; omega)
        simp [h45, List.isPrefixOf, this]
  rw [e, str_mk2] at h
  exact h
theorem read_bad (l : List Nat) (h : (readT l).2 = 8) : readT l = (0, 8) := by
  have key : ∀ neg d, (tailT neg d).2 = 8 → tailT neg d = (0, 8) := fun neg d hn => by
    unfold tailT at hn ⊢
    split
    · rfl
    · rename_i h1
      rw [if_neg h1] at hn
      split at hn <;> simp at hn
  rcases rest_cases l with ⟨_, h2⟩ | ⟨_, _, h2⟩
  · rw [h2] at h ⊢; exact key _ _ h
  · rw [h2] at h ⊢; exact key _ _ h
theorem str_is0 {l : List Nat} (hb : Bytes l) : ((str l).toList == [48]) = decide (l = [48]) := by
  have h := str_beq (b := [48]) hb (by intro y hy; simp at hy; omega)
  rwa [show (str [48]).toList = [48] by rw [ByteArray.toList_eq]; rfl] at h
theorem numeral_any (l : List Nat) (hb : Bytes l) (hl : l.length ≤ 100000) (w : World) : Calls Tryd.prog 59 #[.string (str l)] w fun e w' => e = .returned (.bool (decide ((readT l).2 ≠ 8))) ∧ w' = w := by
  have hz := str_is0 hb
  by_cases h0 : l = [48]
  · have hr : decide ((readT l).2 ≠ 8) = true := by rw [h0, zero_read]; rfl
    rw [hr]
    rw [decide_eq_true h0] at hz
    clear hr h0
    go_enter Tryd.func59, Tryd.ntmps59
    go_wp2
    go_ret
    exact ⟨rfl, rfl⟩
  · rw [decide_eq_false h0] at hz
    have htr := trim_any l hb w
    obtain ⟨neg, hrd, hpos⟩ : ∃ neg, readT l = tailT neg (restT l) ∧ (neg = false → restT l = l) := by
      rcases rest_cases l with ⟨_, h2⟩ | ⟨_, h1, h2⟩
      · exact ⟨true, h2, fun h => absurd h (by decide)⟩
      · exact ⟨false, h2, fun _ => h1⟩
    have hbd : Bytes (restT l) := by
      unfold restT
      split
      · exact fun y hy => hb y (List.mem_of_mem_drop hy)
      · exact hb
    have hld : (restT l).length ≤ 100000 := by
      unfold restT
      split
      · rw [List.length_drop]; omega
      · exact hl
    have h48 : (restT l).getD 0 0 = 48 → restT l ≠ [] → 1 < (restT l).length ∨ neg = true := fun h1 h2 => by
      cases neg with
      | true => exact .inr rfl
      | false =>
        left
        rw [hpos rfl] at h1 h2 ⊢
        cases l with
        | nil => exact absurd rfl h2
        | cons c r =>
          cases r with
          | nil => simp at h1; exact absurd (by rw [h1]) h0
          | cons => simp
    rw [hrd]
    generalize restT l = d at *
    clear hrd hpos hb hl
    have H0 := Lib.hid h0
    clear h0
    have hno : ∀ (h : (tailT neg d).2 = 8), decide ((tailT neg d).2 ≠ 8) = false := fun h => decide_eq_false (by rw [h]; simp)
    by_cases hne : d = []
    · rw [hno (by rw [tail_bad (.inl hne)])]
      subst hne
      clear h48 hno
      go_enter Tryd.func59, Tryd.ntmps59
      go_wp2_with (go_at_call 69; ((with_reducible refine htr.mono ?_); rintro e w1 ⟨rfl, rfl⟩))
      go_ret
      exact ⟨rfl, rfl⟩
    · have hget : ∀ (k : Nat) (h : k < (str d).size), ((str d)[k]'h).toNat = d.getD k 0 := fun k h => str_get hbd k h
      have hie : d.isEmpty = false := by cases d with
        | nil => exact absurd rfl hne
        | cons => rfl
      obtain ⟨D, hD⟩ : ∃ D, d.length = D := ⟨_, rfl⟩
      have hD0 : 0 < D := by
        rw [← hD]
        exact List.length_pos_iff.2 hne
      have hsz : (str d).size = D := by rw [str_size, hD]
      have hg0 := hget 0 (by rw [hsz]; exact hD0)
      by_cases hf : d.getD 0 0 = 48
      · rw [hno (by rw [tail_bad (.inr (.inl ⟨hf, h48 hf hne⟩))])]
        rw [hf] at hg0
        have HNE := Lib.hid hne
        have HF := Lib.hid hf
        clear h48 hno hget hf hne hD
        go_enter Tryd.func59, Tryd.ntmps59
        go_wp2_with (go_at_call 69; ((with_reducible refine htr.mono ?_); rintro e w1 ⟨rfl, rfl⟩))
        go_ret
        exact ⟨rfl, rfl⟩
      · obtain ⟨a0, ha0⟩ : ∃ a, d.getD 0 0 = a := ⟨_, rfl⟩
        rw [ha0] at hg0
        have hz0 : ((a0 : Int) == 48) = false := by simp; omega
        have hyes : (∀ c ∈ d, Digit c) → decide ((tailT neg d).2 ≠ 8) = true := fun h => by
          rw [fine_end ⟨hne, fun h1 => hf h1.1⟩ h]
          split <;> rfl
        have hbad : ∀ j, j < D → ¬ Digit (d.getD j 0) → decide ((tailT neg d).2 ≠ 8) = false := fun j hj hc => hno (by
          rw [fine_bad ⟨hne, fun h1 => hf h1.1⟩ (by rw [hD]; exact hj) hc])
        have HY := Lib.hid hyes
        have HB := Lib.hid hbad
        have HD := Lib.hid hD
        have HG := Lib.hid hget
        have HBD := Lib.hid hbd
        have HNE := Lib.hid hne
        have HF := Lib.hid hf
        rw [hD] at hld
        clear hyes hbad hget h48 hno ha0 hne hf hD hbd
        generalize decide ((tailT neg d).2 ≠ 8) = B at *
        go_enter Tryd.func59, Tryd.ntmps59
        go_wp2_with (go_at_call 69; ((with_reducible refine htr.mono ?_); rintro e w1 ⟨rfl, rfl⟩))
        go_loop [18] (fun i => ∃ j : Nat, j ≤ D ∧ i = .int .i64 (j : Nat) ∧ ∀ k, k < j → Digit (d.getD k 0)) (fun i => D - (intOf i).toNat)
        case atStart => exact ⟨0, by omega, rfl, fun k h => absurd h (by omega)⟩
        case round =>
          obtain ⟨j, hj, rfl, hA⟩ := hrel
          have HA := Lib.hid hA
          clear hA
          by_cases hjD : j < D
          · have hjs : j < (str d).size := by rw [hsz]; exact hjD
            have hga := HG.out j hjs
            have hab := HBD.out.at_ j
            have hcd := HB.out j hjD
            have hgo : Digit (d.getD j 0) → ∀ k, k < j + 1 → Digit (d.getD k 0) := fun h k hk => by
              rcases Nat.lt_or_ge k j with h1 | h1
              · exact HA.out k h1
              · rw [show k = j by omega]; exact h
            generalize d.getD j 0 = a at *
            have HCD := Lib.hid hcd
            have HGO := Lib.hid hgo
            clear hcd hgo
            by_cases h1 : a < 48
            · have hr := HCD.out (by unfold Digit; omega)
              subst hr
              go_wp2
              go_ret
              exact ⟨rfl, rfl⟩
            · by_cases h2 : 57 < a
              · have hr := HCD.out (by unfold Digit; omega)
                subst hr
                go_wp2
                go_ret
                exact ⟨rfl, rfl⟩
              · have hdg : Digit a := by unfold Digit; omega
                have HDG := Lib.hid hdg
                clear hdg
                go_wp2
                go_round
                case rel => exact ⟨j + 1, by omega, by go_num, HGO.out HDG.out⟩
                case measure => simp [intOf]; omega
          · have hjD2 : j = D := by omega
            have hr := HY.out (fun c hc => by
              obtain ⟨k, hk, rfl⟩ := List.getElem_of_mem hc
              have := HA.out k (by rw [HD.out] at hk; omega)
              rwa [List.getD_eq_getElem?_getD, List.getElem?_eq_getElem hk] at this)
            subst hr
            subst hjD2
            go_wp2
            go_ret
            exact ⟨rfl, rfl⟩
theorem below_conv {w w1 : World} {e : TypeId} (h : w1 = w ∨ ∃ t, w1 = Lib.bytesWorld w e t) : Below w.heap.size w w1 := by
  rcases h with rfl | ⟨t, rfl⟩
  · exact Below.refl _ _
  · exact Lib.bytesWorld_below w _ t
theorem read_any (l : List Nat) (hb : Bytes l) (hl : l.length ≤ 100000) (w : World) (hw : Laid w) : Calls Tryd.prog 50 #[.string (str l)] w fun e w' => e = .returned (.tuple #[.int .i64 (readT l).1, .int .i64 (readT l).2]) ∧ Below w.heap.size w w' := by
  have hn := numeral_any l hb hl w
  by_cases h8 : (readT l).2 = 8
  · rw [decide_eq_false (by simp [h8])] at hn
    rw [read_bad l h8]
    clear h8
    go_enter Tryd.func50, Tryd.ntmps50
    go_wp2_with (go_at_call 59; ((with_reducible refine hn.mono ?_); rintro e w1 ⟨rfl, rfl⟩))
    go_ret2
    exact ⟨rfl, Below.refl _ _⟩
  · rw [decide_eq_true h8] at hn
    have hsz : (str l).size ≤ 281474976710656 := by rw [str_size]; omega
    rcases read_parse l h8 with ⟨h1, h2⟩ | ⟨v, h1, h2⟩
    · obtain ⟨te, pe, hv⟩ := hw.err
      have hp := Tryd.parseInt_range (str l) hsz (by rw [str_data]; exact h2) (.iface te pe) w hv (.inr ⟨te, pe, rfl⟩)
      rw [h1]
      clear h1 h2 h8 hv
      generalize Lib.intSat 64 (str l).data.toList = z at *
      go_enter Tryd.func50, Tryd.ntmps50
      go_wp2_with (first
        | (go_at_call 59; ((with_reducible refine hn.mono ?_); rintro e w1 ⟨rfl, rfl⟩))
        | (go_at_call 60; ((with_reducible refine hp.mono ?_); rintro e w1 ⟨N, rfl, hN, hcell, hB⟩)))
      go_ret2
      exact ⟨rfl, hB⟩
    · have hp := Tryd.parseInt_ok (str l) (by omega) v (by rw [str_data]; exact h2) w
      rw [h1]
      clear h1 h2 h8
      go_enter Tryd.func50, Tryd.ntmps50
      go_wp2_with (first
        | (go_at_call 59; ((with_reducible refine hn.mono ?_); rintro e w1 ⟨rfl, rfl⟩))
        | (go_at_call 60; ((with_reducible refine hp.mono ?_); rintro e w1 ⟨rfl, hB0⟩; have hB := below_conv hB0; clear hB0)))
      go_ret2
      exact ⟨rfl, hB⟩
end Go.Proofs.YtmefdgmbpihdfaaDoor.Txt
