/- The reference's Read answers what a text says as a number. -/
import Derived.Test.YtmefdgmbpihdfaaDoorTextRead
set_option linter.unusedSimpArgs false
set_option linter.unusedVariables false
namespace Go.Proofs.YtmefdgmbpihdfaaDoor.Txt
open Go.RowKit RU8
attribute [local go_sem] str_size str_isEmpty str_isNil str_extract

theorem ret_two {k l : IntKind} {a b c d : Int} (h : a = b) (h' : c = d) : Ending.returned (.tuple #[.int k a, .int l c]) = .returned (.tuple #[.int k b, .int l d]) := by rw [h, h']
theorem neg_back (v : Int) (h : 0 ≤ v ∧ v ≤ 9223372036854775808) : wrap64 (IntKind.u64.wrap (-v)) = -v := by unfold wrap64; rw [IntKind.wrap_u64]; omega
set_option maxHeartbeats 1000000 in
theorem refread_any (l : List Nat) (hb : Bytes l) (hl : l.length ≤ 100000) (w : World) :
    Calls Tryd.prog 33 #[.string (str l)] w fun e w' => e = .returned (.tuple #[.int .i64 (readT l).1, .int .i64 (readT l).2]) ∧ w = w' := by
  have hget : ∀ (k : Nat) (h : k < (str l).size), ((str l)[k]'h).toNat = l.getD k 0 := fun k h => str_get hb k h
  rcases l with _ | ⟨c, l⟩
  · rw [show readT [] = (0, 8) by decide]
    go_enter Tryd.func33, Tryd.ntmps33
    go_wp2
    go_ret2
    exact ⟨rfl, rfl⟩
  · have hg0 : ∀ h : 0 < (str (c :: l)).size, ((str (c :: l))[0]'h).toNat = c := fun h => hget 0 h
    have hb' : Bytes l := fun y hy => hb y (by simp [hy])
    have hl' : l.length ≤ 100000 := by simp at hl; omega
    have hget' : ∀ (k : Nat) (h : k < (str l).size), ((str l)[k]'h).toNat = l.getD k 0 := fun k h => str_get hb' k h
    by_cases hc : c = 45
    · subst hc
      rw [readT_neg]
      rcases l with _ | ⟨x, d⟩
      · rw [tail_bad (.inl rfl)]
        go_enter Tryd.func33, Tryd.ntmps33
        go_wp2
        go_ret2
        exact ⟨rfl, rfl⟩
      · have hg1 : ∀ h : 0 < (str (x :: d)).size, ((str (x :: d))[0]'h).toNat = x := fun h => hget' 0 h
        by_cases hx : x = 48
        · subst hx
          rw [tail_bad (.inr (.inl ⟨rfl, .inr rfl⟩))]
          have hcx : 0 < d.length ∨ d.length = 0 := by omega
          go_enter Tryd.func33, Tryd.ntmps33
          rcases hcx with hcx | hcx
          all_goals
            go_wp2
            go_ret2
            exact ⟨rfl, rfl⟩
        · have hF : Fine true (x :: d) := ⟨by simp, by rintro ⟨h, _⟩; exact hx h⟩
          obtain ⟨D, hD⟩ : ∃ D, x :: d = D := ⟨_, rfl⟩
          have hbD : Bytes D := hD ▸ hb'
          have hlD : D.length ≤ 100000 := hD ▸ hl'
          have hgD : ∀ h : 0 < (str D).size, ((str D)[0]'h).toNat = x := hD ▸ hg1
          rw [hD] at hF hg0 ⊢
          clear hD hb' hl' hget' hb hl hget hg1
          have hDe : D.isEmpty = false := by cases D with
            | nil => exact absurd rfl hF.ne
            | cons => rfl
          have hDn : ¬ D = [] := hF.ne
          have hpos : 0 < D.length := List.length_pos_iff.2 hF.ne
          obtain ⟨L, hL⟩ : ∃ L, D.length = L := ⟨_, rfl⟩
          rw [hL] at hpos hlD
          (try rw [hL] at hone)
          have htk : D.take L = D := by rw [← hL]; exact List.take_length
          have hLD := Lib.hid hL
          have HF := Lib.hid hF
          have HD := Lib.hid hDn
          clear hF hDn
          have h0L : SoFar D 0 0 := ⟨by omega, fun k hk => by omega, by split <;> rfl⟩
          go_enter Tryd.func33, Tryd.ntmps33
          go_wp2
          clear hgD
          (try clear hone)
          go_loop [6, 8] (fun u i => ∃ (j : Nat) (v : Int), i = .int .i64 (j : Nat) ∧ u = .int .u64 v ∧ SoFar D j v) (fun _ i => L - (intOf i).toNat)
          case atStart => exact ⟨0, 0, rfl, rfl, h0L⟩
          case round =>
            obtain ⟨j, v, rfl, rfl, hS⟩ := hrel
            have hSj := hS.1
            rw [hLD.out] at hSj
            obtain ⟨hv0, hv19, hv18⟩ := sofar_bound hS
            rw [hLD.out] at hv18
            have HS := Lib.hid hS
            clear hS h0L
            by_cases hjL : j < L
            · have hv := hv18 hjL
              have hjs : j < (str D).size := by rw [str_size, hLD.out]; exact hjL
              have hcb := hbD.at_ j
              have hgc := str_get hbD j hjs
              obtain ⟨c, hc⟩ : ∃ c, D.getD j 0 = c := ⟨_, rfl⟩
              rw [hc] at hgc hcb
              have HC := Lib.hid hc
              clear hc hv18 hv19
              by_cases hlo : c < 48
              · have hres := Lib.hid (fine_bad HF.out (j := j) (by rw [hLD.out]; exact hjL) (by rw [HC.out]; unfold Digit; omega))
                go_wp2
                go_ret2
                exact ⟨by rw [hres.out]; rfl, rfl⟩
              · by_cases hhi : 57 < c
                · have hres := Lib.hid (fine_bad HF.out (j := j) (by rw [hLD.out]; exact hjL) (by rw [HC.out]; unfold Digit; omega))
                  go_wp2
                  go_ret2
                  exact ⟨by rw [hres.out]; rfl, rfl⟩
                · have hdig : Digit (D.getD j 0) := by rw [HC.out]; unfold Digit; omega
                  have HDig := Lib.hid hdig
                  clear hdig
                  by_cases ho : 19 < L
                  · have hob : decide (19 < (L : Int)) = true := decide_eq_true (by omega)
                    go_wp2
                    go_round
                    case rel => exact ⟨_, _, _, _, ⟨j + 1, by go_num, v, rfl, sofar_over HS.out (by rw [hLD.out]; exact hjL) HDig.out (by rw [hLD.out]; exact ho)⟩, rfl, rfl, rfl, rfl⟩
                    case measure => simp [intOf]; omega
                  · have hob : decide (19 < (L : Int)) = false := decide_eq_false (by omega)
                    have hv0' : v ≤ 1000000000000000000 := by omega
                    have hc8 : IntKind.u8.wrap ((c : Int) - 48) = (c : Int) - 48 := by rw [IntKind.wrap_u8]; omega
                    go_wp2
                    go_round
                    case rel => exact ⟨_, _, _, _, ⟨j + 1, by go_num, 10 * v + ((c : Int) - 48), rfl, by rw [← HC.out]; exact sofar_step HS.out (by rw [hLD.out]; exact hjL) HDig.out (by rw [hLD.out]; exact ho)⟩, rfl, rfl, rfl, rfl⟩
                    case measure => simp [intOf]; omega
            · obtain rfl : j = L := by omega
              have hall := sofar_all (by rw [hLD.out]; exact HS.out)
              have hv := hall.2
              by_cases ho : 19 < j
              · have hob : decide (19 < (j : Int)) = true := decide_eq_true (by omega)
                have hres := Lib.hid (fine_over HF.out hall.1 (by rw [hLD.out]; exact ho))
                clear hall hv
                go_wp2
                go_ret2
                exact ⟨by rw [hres.out]; rfl, rfl⟩
              · rw [hLD.out, if_neg ho] at hv
                have hend := fine_end HF.out hall.1
                clear hall
                by_cases hov : 9223372036854775808 < v
                · have hob : decide (19 < (j : Int)) = false := decide_eq_false (by omega)
                  rw [if_pos (.inl (by omega))] at hend
                  have hres := Lib.hid hend
                  clear hend hv
                  go_wp2
                  go_ret2
                  exact ⟨by rw [hres.out]; rfl, rfl⟩
                · skip
                  have hw1 : IntKind.i64.wrap (IntKind.u64.wrap (-v)) = -v := by rw [IntKind.wrap_i64, IntKind.wrap_u64]; omega
                  rw [if_neg (by rintro (h1 | ⟨_, h1⟩); omega; cases h1), if_pos rfl, ← hv] at hend
                  have hres := Lib.hid hend
                  have hob : decide (19 < (j : Int)) = false := decide_eq_false (by omega)
                  have hgt : ¬ 9223372036854775808 < v := hov
                  clear hend hv hov
                  by_cases heq : v = 9223372036854775808
                  · subst heq
                    go_wp2
                    go_ret2
                    exact ⟨by rw [hres.out]; first | rfl | exact ret_two (neg_back _ (by omega)) rfl, rfl⟩
                  · go_wp2
                    go_ret2
                    exact ⟨by rw [hres.out]; first | rfl | exact ret_two (neg_back _ (by omega)) rfl, rfl⟩
    · rw [readT_pos (c :: l) (by simpa using hc)]
      have hmin : ¬ (c : Int) = 45 := by omega
      by_cases hx : c = 48
      · subst hx
        rcases l with _ | ⟨y, l⟩
        · have hF : Fine false [48] := ⟨by simp, by rintro ⟨_, h | h⟩; simp at h; cases h⟩
          obtain ⟨D, hD⟩ : ∃ D, [48] = D := ⟨_, rfl⟩
          have hone : ¬ 1 < (D.length : Int) := by rw [← hD]; decide
          have hbD : Bytes D := hD ▸ hb
          have hlD : D.length ≤ 100000 := hD ▸ hl
          have hgD : ∀ h : 0 < (str D).size, ((str D)[0]'h).toNat = 48 := hD ▸ hg0
          rw [hD] at hF ⊢
          clear hD hb' hl' hget' hb hl hget hg0
          have hDe : D.isEmpty = false := by cases D with
            | nil => exact absurd rfl hF.ne
            | cons => rfl
          have hDn : ¬ D = [] := hF.ne
          have hpos : 0 < D.length := List.length_pos_iff.2 hF.ne
          obtain ⟨L, hL⟩ : ∃ L, D.length = L := ⟨_, rfl⟩
          rw [hL] at hpos hlD
          (try rw [hL] at hone)
          have htk : D.take L = D := by rw [← hL]; exact List.take_length
          have hLD := Lib.hid hL
          have HF := Lib.hid hF
          have HD := Lib.hid hDn
          clear hF hDn
          have h0L : SoFar D 0 0 := ⟨by omega, fun k hk => by omega, by split <;> rfl⟩
          go_enter Tryd.func33, Tryd.ntmps33
          go_wp2
          clear hgD
          (try clear hone)
          go_loop [6, 8] (fun u i => ∃ (j : Nat) (v : Int), i = .int .i64 (j : Nat) ∧ u = .int .u64 v ∧ SoFar D j v) (fun _ i => L - (intOf i).toNat)
          case atStart => exact ⟨0, 0, rfl, rfl, h0L⟩
          case round =>
            obtain ⟨j, v, rfl, rfl, hS⟩ := hrel
            have hSj := hS.1
            rw [hLD.out] at hSj
            obtain ⟨hv0, hv19, hv18⟩ := sofar_bound hS
            rw [hLD.out] at hv18
            have HS := Lib.hid hS
            clear hS h0L
            by_cases hjL : j < L
            · have hv := hv18 hjL
              have hjs : j < (str D).size := by rw [str_size, hLD.out]; exact hjL
              have hcb := hbD.at_ j
              have hgc := str_get hbD j hjs
              obtain ⟨c, hc⟩ : ∃ c, D.getD j 0 = c := ⟨_, rfl⟩
              rw [hc] at hgc hcb
              have HC := Lib.hid hc
              clear hc hv18 hv19
              by_cases hlo : c < 48
              · have hres := Lib.hid (fine_bad HF.out (j := j) (by rw [hLD.out]; exact hjL) (by rw [HC.out]; unfold Digit; omega))
                go_wp2
                go_ret2
                exact ⟨by rw [hres.out]; rfl, rfl⟩
              · by_cases hhi : 57 < c
                · have hres := Lib.hid (fine_bad HF.out (j := j) (by rw [hLD.out]; exact hjL) (by rw [HC.out]; unfold Digit; omega))
                  go_wp2
                  go_ret2
                  exact ⟨by rw [hres.out]; rfl, rfl⟩
                · have hdig : Digit (D.getD j 0) := by rw [HC.out]; unfold Digit; omega
                  have HDig := Lib.hid hdig
                  clear hdig
                  by_cases ho : 19 < L
                  · have hob : decide (19 < (L : Int)) = true := decide_eq_true (by omega)
                    go_wp2
                    go_round
                    case rel => exact ⟨_, _, _, _, ⟨j + 1, by go_num, v, rfl, sofar_over HS.out (by rw [hLD.out]; exact hjL) HDig.out (by rw [hLD.out]; exact ho)⟩, rfl, rfl, rfl, rfl⟩
                    case measure => simp [intOf]; omega
                  · have hob : decide (19 < (L : Int)) = false := decide_eq_false (by omega)
                    have hv0' : v ≤ 1000000000000000000 := by omega
                    have hc8 : IntKind.u8.wrap ((c : Int) - 48) = (c : Int) - 48 := by rw [IntKind.wrap_u8]; omega
                    go_wp2
                    go_round
                    case rel => exact ⟨_, _, _, _, ⟨j + 1, by go_num, 10 * v + ((c : Int) - 48), rfl, by rw [← HC.out]; exact sofar_step HS.out (by rw [hLD.out]; exact hjL) HDig.out (by rw [hLD.out]; exact ho)⟩, rfl, rfl, rfl, rfl⟩
                    case measure => simp [intOf]; omega
            · obtain rfl : j = L := by omega
              have hall := sofar_all (by rw [hLD.out]; exact HS.out)
              have hv := hall.2
              by_cases ho : 19 < j
              · have hob : decide (19 < (j : Int)) = true := decide_eq_true (by omega)
                have hres := Lib.hid (fine_over HF.out hall.1 (by rw [hLD.out]; exact ho))
                clear hall hv
                go_wp2
                go_ret2
                exact ⟨by rw [hres.out]; rfl, rfl⟩
              · rw [hLD.out, if_neg ho] at hv
                have hend := fine_end HF.out hall.1
                clear hall
                by_cases hov : 9223372036854775808 < v
                · have hob : decide (19 < (j : Int)) = false := decide_eq_false (by omega)
                  rw [if_pos (.inl (by omega))] at hend
                  have hres := Lib.hid hend
                  clear hend hv
                  go_wp2
                  go_ret2
                  exact ⟨by rw [hres.out]; rfl, rfl⟩
                · skip
                  have hob : decide (19 < (j : Int)) = false := decide_eq_false (by omega)
                  by_cases heq : v = 9223372036854775808
                  · rw [if_pos (.inr ⟨by omega, rfl⟩)] at hend
                    have hres := Lib.hid hend
                    clear hend hv
                    go_wp2
                    go_ret2
                    exact ⟨by rw [hres.out]; rfl, rfl⟩
                  · rw [if_neg (by rintro (h1 | ⟨h1, _⟩) <;> omega), if_neg (by decide), ← hv] at hend
                    have hres := Lib.hid hend
                    have hw1 : IntKind.i64.wrap v = v := by rw [IntKind.wrap_i64]; omega
                    clear hend hv
                    go_wp2
                    go_ret2
                    exact ⟨by rw [hres.out]; rfl, rfl⟩
        · rw [tail_bad (.inr (.inl ⟨rfl, .inl (by simp)⟩))]
          go_enter Tryd.func33, Tryd.ntmps33
          go_wp2
          go_ret2
          exact ⟨rfl, rfl⟩
      · have hF : Fine false (c :: l) := ⟨by simp, by rintro ⟨h, _⟩; exact hx h⟩
        obtain ⟨D, hD⟩ : ∃ D, c :: l = D := ⟨_, rfl⟩
        have hbD : Bytes D := hD ▸ hb
        have hlD : D.length ≤ 100000 := hD ▸ hl
        have hgD : ∀ h : 0 < (str D).size, ((str D)[0]'h).toNat = c := hD ▸ hg0
        rw [hD] at hF ⊢
        clear hD hb' hl' hget' hb hl hget hg0
        have hDe : D.isEmpty = false := by cases D with
          | nil => exact absurd rfl hF.ne
          | cons => rfl
        have hDn : ¬ D = [] := hF.ne
        have hpos : 0 < D.length := List.length_pos_iff.2 hF.ne
        obtain ⟨L, hL⟩ : ∃ L, D.length = L := ⟨_, rfl⟩
        rw [hL] at hpos hlD
        (try rw [hL] at hone)
        have htk : D.take L = D := by rw [← hL]; exact List.take_length
        have hLD := Lib.hid hL
        have HF := Lib.hid hF
        have HD := Lib.hid hDn
        clear hF hDn
        have h0L : SoFar D 0 0 := ⟨by omega, fun k hk => by omega, by split <;> rfl⟩
        go_enter Tryd.func33, Tryd.ntmps33
        go_wp2
        clear hgD
        (try clear hone)
        go_loop [6, 8] (fun u i => ∃ (j : Nat) (v : Int), i = .int .i64 (j : Nat) ∧ u = .int .u64 v ∧ SoFar D j v) (fun _ i => L - (intOf i).toNat)
        case atStart => exact ⟨0, 0, rfl, rfl, h0L⟩
        case round =>
          obtain ⟨j, v, rfl, rfl, hS⟩ := hrel
          have hSj := hS.1
          rw [hLD.out] at hSj
          obtain ⟨hv0, hv19, hv18⟩ := sofar_bound hS
          rw [hLD.out] at hv18
          have HS := Lib.hid hS
          clear hS h0L
          by_cases hjL : j < L
          · have hv := hv18 hjL
            have hjs : j < (str D).size := by rw [str_size, hLD.out]; exact hjL
            have hcb := hbD.at_ j
            have hgc := str_get hbD j hjs
            obtain ⟨c, hc⟩ : ∃ c, D.getD j 0 = c := ⟨_, rfl⟩
            rw [hc] at hgc hcb
            have HC := Lib.hid hc
            clear hc hv18 hv19
            by_cases hlo : c < 48
            · have hres := Lib.hid (fine_bad HF.out (j := j) (by rw [hLD.out]; exact hjL) (by rw [HC.out]; unfold Digit; omega))
              go_wp2
              go_ret2
              exact ⟨by rw [hres.out]; rfl, rfl⟩
            · by_cases hhi : 57 < c
              · have hres := Lib.hid (fine_bad HF.out (j := j) (by rw [hLD.out]; exact hjL) (by rw [HC.out]; unfold Digit; omega))
                go_wp2
                go_ret2
                exact ⟨by rw [hres.out]; rfl, rfl⟩
              · have hdig : Digit (D.getD j 0) := by rw [HC.out]; unfold Digit; omega
                have HDig := Lib.hid hdig
                clear hdig
                by_cases ho : 19 < L
                · have hob : decide (19 < (L : Int)) = true := decide_eq_true (by omega)
                  go_wp2
                  go_round
                  case rel => exact ⟨_, _, _, _, ⟨j + 1, by go_num, v, rfl, sofar_over HS.out (by rw [hLD.out]; exact hjL) HDig.out (by rw [hLD.out]; exact ho)⟩, rfl, rfl, rfl, rfl⟩
                  case measure => simp [intOf]; omega
                · have hob : decide (19 < (L : Int)) = false := decide_eq_false (by omega)
                  have hv0' : v ≤ 1000000000000000000 := by omega
                  have hc8 : IntKind.u8.wrap ((c : Int) - 48) = (c : Int) - 48 := by rw [IntKind.wrap_u8]; omega
                  go_wp2
                  go_round
                  case rel => exact ⟨_, _, _, _, ⟨j + 1, by go_num, 10 * v + ((c : Int) - 48), rfl, by rw [← HC.out]; exact sofar_step HS.out (by rw [hLD.out]; exact hjL) HDig.out (by rw [hLD.out]; exact ho)⟩, rfl, rfl, rfl, rfl⟩
                  case measure => simp [intOf]; omega
          · obtain rfl : j = L := by omega
            have hall := sofar_all (by rw [hLD.out]; exact HS.out)
            have hv := hall.2
            by_cases ho : 19 < j
            · have hob : decide (19 < (j : Int)) = true := decide_eq_true (by omega)
              have hres := Lib.hid (fine_over HF.out hall.1 (by rw [hLD.out]; exact ho))
              clear hall hv
              go_wp2
              go_ret2
              exact ⟨by rw [hres.out]; rfl, rfl⟩
            · rw [hLD.out, if_neg ho] at hv
              have hend := fine_end HF.out hall.1
              clear hall
              by_cases hov : 9223372036854775808 < v
              · have hob : decide (19 < (j : Int)) = false := decide_eq_false (by omega)
                rw [if_pos (.inl (by omega))] at hend
                have hres := Lib.hid hend
                clear hend hv
                go_wp2
                go_ret2
                exact ⟨by rw [hres.out]; rfl, rfl⟩
              · skip
                have hob : decide (19 < (j : Int)) = false := decide_eq_false (by omega)
                by_cases heq : v = 9223372036854775808
                · rw [if_pos (.inr ⟨by omega, rfl⟩)] at hend
                  have hres := Lib.hid hend
                  clear hend hv
                  go_wp2
                  go_ret2
                  exact ⟨by rw [hres.out]; rfl, rfl⟩
                · rw [if_neg (by rintro (h1 | ⟨h1, _⟩) <;> omega), if_neg (by decide), ← hv] at hend
                  have hres := Lib.hid hend
                  have hw1 : IntKind.i64.wrap v = v := by rw [IntKind.wrap_i64]; omega
                  clear hend hv
                  go_wp2
                  go_ret2
                  exact ⟨by rw [hres.out]; rfl, rfl⟩
end Go.Proofs.YtmefdgmbpihdfaaDoor.Txt
