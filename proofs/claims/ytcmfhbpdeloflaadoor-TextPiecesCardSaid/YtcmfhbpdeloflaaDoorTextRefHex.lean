/- The reference's bytes as texts, and texts as bytes. -/
import Derived.Test.YtcmfhbpdeloflaaDoorTextRef
import Derived.Test.YtcmfhbpdeloflaaDoorTextHex
set_option linter.unusedSimpArgs false
set_option linter.unusedVariables false
namespace Go.Proofs.YtcmfhbpdeloflaaDoor.Txt
open Go.RowKit RU8
def signs : ByteArray := ⟨#[48, 49, 50, 51, 52, 53, 54, 55, 56, 57, 97, 98, 99, 100, 101, 102]⟩
theorem signs_get (n : Nat) (h : n < signs.size) : (signs[n]'h).toNat = hexD n := by
  have hn : n < 16 := h
  rcases (by omega : n = 0 ∨ n = 1 ∨ n = 2 ∨ n = 3 ∨ n = 4 ∨ n = 5 ∨ n = 6 ∨ n = 7 ∨ n = 8 ∨ n = 9 ∨ n = 10 ∨ n = 11 ∨ n = 12 ∨ n = 13 ∨ n = 14 ∨ n = 15) with rfl | rfl | rfl | rfl | rfl | rfl | rfl | rfl | rfl | rfl | rfl | rfl | rfl | rfl | rfl | rfl <;> rfl
theorem signs_one (n : Nat) (h : n < 16) : signs.extract n (n + 1) = str [hexD n] := by
  rcases (by omega : n = 0 ∨ n = 1 ∨ n = 2 ∨ n = 3 ∨ n = 4 ∨ n = 5 ∨ n = 6 ∨ n = 7 ∨ n = 8 ∨ n = 9 ∨ n = 10 ∨ n = 11 ∨ n = 12 ∨ n = 13 ∨ n = 14 ∨ n = 15) with rfl | rfl | rfl | rfl | rfl | rfl | rfl | rfl | rfl | rfl | rfl | rfl | rfl | rfl | rfl | rfl <;> rfl
theorem sign_lt (c n : Nat) (h : n < signT c) (hc : n < 16) : hexD n ≠ c := by
  unfold signT at h
  unfold hexD
  split <;> split at h <;> (try split at h) <;> omega
theorem refsign_any (c : Nat) (hc : c < 256) (w : World) :
    Calls Tryd.prog 28 #[.int .u8 c] w fun e w' => e = .returned (.int .i64 (signT c : Nat)) ∧ w = w' := by
  have hs16 : signT c ≤ 16 := by unfold signT; split <;> (try split) <;> omega
  go_enter Tryd.func28, Tryd.ntmps28
  go_wp2
  go_loop [3] (fun i => ∃ j : Nat, j ≤ signT c ∧ i = .int .i64 (j : Nat)) (fun i => 16 - (intOf i).toNat)
  case atStart => exact ⟨0, by omega, rfl⟩
  case round =>
    obtain ⟨j, hj, rfl⟩ := hrel
    by_cases h16 : j < 16
    · have hg : ∀ h, ((⟨#[48, 49, 50, 51, 52, 53, 54, 55, 56, 57, 97, 98, 99, 100, 101, 102]⟩ : ByteArray)[j]'h).toNat = hexD j := fun h => signs_get j h
      obtain ⟨D, hD⟩ : ∃ D, hexD j = D := ⟨_, rfl⟩
      rw [hD] at hg
      by_cases hc2 : D = c
      · have he : signT c = j := by rw [← hc2, ← hD]; exact sign_hex j h16
        have HE := Lib.hid he
        clear he hj hD
        subst hc2
        go_wp2
        go_ret
        exact ⟨by rw [HE.out]; rfl, rfl⟩
      · have hne : ¬ (D : Int) = (c : Int) := by omega
        have hlt : j < signT c := by
          rcases Nat.lt_or_ge j (signT c) with h1 | h1
          · exact h1
          · have h2 : j = signT c := by omega
            exact absurd ((hD.symm.trans (by rw [h2])).trans (hex_sign c (by omega)).1) hc2
        have HL := Lib.hid hlt
        clear hlt hD hj
        go_wp2
        go_round
        case rel => exact ⟨j + 1, HL.out, by go_num⟩
        case measure => simp [intOf]; omega
    · have he : signT c = 16 := by omega
      have hj16 : j = 16 := by omega
      subst hj16
      have HE := Lib.hid he
      clear he hj
      go_wp2
      go_ret
      exact ⟨by rw [HE.out]; rfl, rfl⟩
theorem hex_step (l : List Nat) (j : Nat) (hj : j < l.length) : hexT (l.take (j + 1)) = hexT (l.take j) ++ [hexD (l.getD j 0 / 16)] ++ [hexD (l.getD j 0 % 16)] := by
  rw [List.take_succ_eq_append_getElem hj, hexT_append, List.getD_eq_getElem?_getD, List.getElem?_eq_getElem hj, List.append_assoc]
  simp [hexT]
theorem refhex_any (A : Option Addr) (n c : Nat) (ys : List Nat) (w : World) (hv : Vals w A n ys) (hb : Bytes ys) (hn : n ≤ 100000) :
    Calls Tryd.prog 15 #[.slice A n c] w fun e w' => e = .returned (.string (str (hexT ys))) ∧ ∃ k, w' = w.drewN k := by
  have hlen := hv.len_
  have hend : hexT (ys.take n) = hexT ys := by rw [List.take_of_length_le (by omega)]
  have h0 : (⟨#[]⟩ : ByteArray) = str (hexT (ys.take 0)) := rfl
  have HE := Lib.hid hend
  have H0 := Lib.hid h0
  clear hend h0
  go_enter Tryd.func15, Tryd.ntmps15
  go_wp2
  go_loopw [3, 4] (fun s i wr => (∃ j : Nat, j ≤ n ∧ i = .int .i64 (j : Nat) ∧ s = .string (str (hexT (ys.take j)))) ∧ ∃ k, wr = w.drewN k) (fun _ i _ => n - (intOf i).toNat)
  case atStart => exact ⟨⟨0, by omega, rfl, by rw [← H0.out]⟩, 0, rfl⟩
  case round =>
    obtain ⟨⟨j, hj, rfl, rfl⟩, k, rfl⟩ := hrel
    by_cases hjn : j < n
    · obtain ⟨x, rfl, hx⟩ := hv.cells (by omega)
      have hc1 : w.cell? (x.add j) = some (.int .u8 (ys.getD j 0 : Nat)) := hx j hjn
      have hst := hex_step ys j (by omega)
      have hyb := hb.at_ j
      have hl1 : (hexT (ys.take j)).length ≤ 200000 := by rw [hexT_length, List.length_take]; omega
      obtain ⟨hi, hhi⟩ : ∃ hi, ys.getD j 0 / 16 = hi := ⟨_, rfl⟩
      obtain ⟨lo, hlo⟩ : ∃ lo, ys.getD j 0 % 16 = lo := ⟨_, rfl⟩
      rw [hhi, hlo] at hst
      generalize ys.getD j 0 = y at *
      have hhiz : (y : Int) / 16 = (hi : Int) := by omega
      have hloz : (y : Int) % 16 = (lo : Int) := by omega
      have hhi16 : hi < 16 := by omega
      have hlo16 : lo < 16 := by omega
      obtain ⟨hi1, hi1e⟩ : ∃ k, hi + 1 = k := ⟨_, rfl⟩
      obtain ⟨lo1, lo1e⟩ : ∃ k, lo + 1 = k := ⟨_, rfl⟩
      have hw1 : IntKind.u8.wrap ((hi : Int) + 1) = (hi1 : Int) := by rw [IntKind.wrap_u8]; omega
      have hw2 : IntKind.u8.wrap ((lo : Int) + 1) = (lo1 : Int) := by rw [IntKind.wrap_u8]; omega
      have hb1 : (hi : Int) ≤ (hi1 : Int) ∧ (hi1 : Int) ≤ 16 ∧ hi ≤ hi1 ∧ hi1 ≤ 16 := by omega
      have hb2 : (lo : Int) ≤ (lo1 : Int) ∧ (lo1 : Int) ≤ 16 ∧ lo ≤ lo1 ∧ lo1 ≤ 16 := by omega
      have hx1 : (⟨#[48, 49, 50, 51, 52, 53, 54, 55, 56, 57, 97, 98, 99, 100, 101, 102]⟩ : ByteArray).extract hi hi1 = str [hexD hi] := hi1e ▸ signs_one hi hhi16
      have hx2 : (⟨#[48, 49, 50, 51, 52, 53, 54, 55, 56, 57, 97, 98, 99, 100, 101, 102]⟩ : ByteArray).extract lo lo1 = str [hexD lo] := lo1e ▸ signs_one lo hlo16
      have HST := Lib.hid hst
      clear hst hhi hlo hx hi1e lo1e
      generalize hexT (ys.take j) = S at *
      have ha1 : ∀ W, (Op.stringOp .add (str S) (str [hexD hi])).run Tryd.prog W = .ok (.string (str (S ++ [hexD hi]))) W := fun W => run_add _ _ W (by simp; omega)
      have ha2 : ∀ W, (Op.stringOp .add (str (S ++ [hexD hi])) (str [hexD lo])).run Tryd.prog W = .ok (.string (str (S ++ [hexD hi] ++ [hexD lo]))) W := fun W => run_add _ _ W (by simp; omega)
      go_wp2
      go_quiet (fail)
      go_wp2
      go_quiet (fail)
      go_wp2
      go_roundw
      case rel => exact ⟨⟨j + 1, by omega, by go_num, by rw [HST.out, List.append_assoc]; rfl⟩, _, rfl⟩
      case measure => simp [intOf]; omega
    · obtain rfl : j = n := by omega
      go_wp2
      go_ret
      exact ⟨by rw [← HE.out]; rfl, k, rfl⟩
/-- What an Unhex answers: new bytes, and the error's number. -/
def UnhexIs (w : World) (l : List Nat) (e : Ending) (w' : World) : Prop :=
  ∃ A n c, e = .returned (.tuple #[.slice A n c, .int .i64 (unhexE l)]) ∧ n ≤ c ∧ c ≤ 9223372036854775807 ∧ Vals w' A n (unhexB l) ∧ n ≤ 100000 ∧ Below w.heap.size w w'
theorem unhex_none {l : List Nat} (h : unhexT l = none) : unhexE l = 8 ∧ unhexB l = [] := by unfold unhexE unhexB; rw [h]; exact ⟨rfl, rfl⟩
theorem unhex_some {l a : List Nat} (h : unhexT l = some a) : unhexE l = 0 ∧ unhexB l = a := by unfold unhexE unhexB; rw [h]; exact ⟨rfl, rfl⟩
set_option maxHeartbeats 1000000 in
theorem refunhex_any (l : List Nat) (hb : Bytes l) (hl : l.length ≤ 100000) (w : World) : Calls Tryd.prog 13 #[.string (str l)] w (UnhexIs w l) := by
  have hget : ∀ (k : Nat) (h : k < (str l).size), ((str l)[k]'h).toNat = l.getD k 0 := fun k h => str_get hb k h
  have hInfo : (Tryd.prog.info? 5).map (fun i => (i.zero, i.size, i.bytes)) = some (some (.int .u8 0), 1, 1) := by kernel_rfl
  have HInfo := Lib.hid hInfo
  clear hInfo
  obtain ⟨L, hL⟩ : ∃ L, l.length = L := ⟨_, rfl⟩
  have hsz : (str l).size = L := by rw [str_size, hL]
  have HL := Lib.hid hL
  rw [hL] at hl
  clear hL
  by_cases hodd : L % 2 = 1
  · have hz := unhex_none (unhex_odd l (by rw [HL.out]; exact hodd))
    have hz1 := Lib.hid hz.1
    have hz2 := Lib.hid hz.2
    have ho : (L : Int) % 2 = 1 := by omega
    clear hz hget
    go_enter Tryd.func13, Tryd.ntmps13
    go_wp2
    go_ret2
    exact ⟨_, _, _, by rw [hz1.out]; rfl, by omega, by omega, by rw [hz2.out]; exact Vals.none_ _, by omega, Below.refl _ _⟩
  · have hev : (L : Int) % 2 = 0 := by omega
    have HEV := Lib.hid hodd
    have hst := Lib.hid (read2_start l)
    clear hodd
    go_enter Tryd.func13, Tryd.ntmps13
    go_wp2
    clear hev
    go_loopw [4, 5] (fun v i wr => ∃ (j k : Nat) (ds : List Nat), i = .int .i64 (k : Nat) ∧ k = 2 * j ∧ Read2 l j ds ∧ wr.ownsRow w.heap.size 5 1 v j (vals ds) ∧ Below w.heap.size w wr) (fun _ i _ => L - (intOf i).toNat)
    case atStart => exact ⟨0, 0, [], rfl, rfl, hst.out, own_none _ _ _, Below.refl _ _⟩
    case round =>
      obtain ⟨j, k, ds, rfl, hkj, hR, hO, hB⟩ := hrel
      have HKJ := Lib.hid hkj
      have HR := Lib.hid hR
      have hRl := hR.2.2
      rw [HL.out] at hRl
      clear hR
      by_cases hkL : k < L
      · have hev := HEV.out
        obtain ⟨k1, hk1⟩ : ∃ k1, k + 1 = k1 := ⟨_, rfl⟩
        have hk1L : k1 < L := by omega
        have hj2 : 2 * j + 2 ≤ L := by omega
        have hk1z : (k : Int) + 1 = (k1 : Int) := by omega
        have hks : k < (str l).size := by rw [hsz]; exact hkL
        have hk1s : k1 < (str l).size := by rw [hsz]; exact hk1L
        have hga := hget k hks
        have hgb := hget k1 hk1s
        have hab := hb.at_ k
        have hbb := hb.at_ k1
        obtain ⟨a, ha⟩ : ∃ a, l.getD k 0 = a := ⟨_, rfl⟩
        obtain ⟨b, hbe⟩ : ∃ b, l.getD k1 0 = b := ⟨_, rfl⟩
        rw [ha] at hga hab
        rw [hbe] at hgb hbb
        have hA2 : l.getD (2 * j) 0 = a := by rw [← hkj]; exact ha
        have hB2 : l.getD (2 * j + 1) 0 = b := by rw [← hkj, hk1]; exact hbe
        have hbad := read2_bad HR.out (by rw [HL.out]; exact hj2)
        have hgood := read2_step HR.out (by rw [HL.out]; exact hj2)
        rw [hA2, hB2] at hbad hgood
        have hsa : ∀ W, Calls Tryd.prog 28 #[.int .u8 a] W fun e w' => e = .returned (.int .i64 (signT a : Nat)) ∧ w' = W := fun W => (refsign_any a hab W).mono fun e w' ⟨h1, h2⟩ => ⟨h1, h2.symm⟩
        have hsb : ∀ W, Calls Tryd.prog 28 #[.int .u8 b] W fun e w' => e = .returned (.int .i64 (signT b : Nat)) ∧ w' = W := fun W => (refsign_any b hbb W).mono fun e w' ⟨h1, h2⟩ => ⟨h1, h2.symm⟩
        obtain ⟨sa, hsae⟩ : ∃ s, signT a = s := ⟨_, rfl⟩
        obtain ⟨sb, hsbe⟩ : ∃ s, signT b = s := ⟨_, rfl⟩
        have ha16 : sa ≤ 16 := by rw [← hsae]; unfold signT; split <;> (try split) <;> omega
        have hb16 : sb ≤ 16 := by rw [← hsbe]; unfold signT; split <;> (try split) <;> omega
        rw [hsae] at hsa hbad hgood
        rw [hsbe] at hsb hbad hgood
        have HBAD := Lib.hid hbad
        have HGOOD := Lib.hid hgood
        have HJ2 := Lib.hid hj2
        clear hget hbad hgood hA2 hB2 ha hbe hsae hsbe hj2 hk1 hev hkj hRl
        by_cases h1 : sa = 16
        · have hz := unhex_none (HBAD.out (.inl h1))
          have hz1 := Lib.hid hz.1
          have hz2 := Lib.hid hz.2
          clear hz
          subst h1
          go_wp2
          go_quiet (first
            | (go_at_call 28; with_reducible exact Calls.quiet_of_same (hsa _))
            | (go_at_call 28; with_reducible exact Calls.quiet_of_same (hsb _)))
          go_wp2
          go_ret2
          exact ⟨none, 0, 0, by rw [hz1.out]; rfl, by omega, by omega, by rw [hz2.out]; exact Vals.none_ _, by omega, below_drewN hB _⟩
        · have h1z : ((sa : Int) == 16) = false := by simp; omega
          by_cases h2 : sb = 16
          · have hz := unhex_none (HBAD.out (.inr h2))
            have hz1 := Lib.hid hz.1
            have hz2 := Lib.hid hz.2
            clear hz
            subst h2
            have H1 := Lib.hid h1
            clear h1
            go_wp2
            go_quiet (first
              | (go_at_call 28; with_reducible exact Calls.quiet_of_same (hsa _))
              | (go_at_call 28; with_reducible exact Calls.quiet_of_same (hsb _)))
            go_wp2
            go_ret2
            exact ⟨none, 0, 0, by rw [hz1.out]; rfl, by omega, by omega, by rw [hz2.out]; exact Vals.none_ _, by omega, below_drewN hB _⟩
          · have h2z : ((sb : Int) == 16) = false := by simp; omega
            have hgd := HGOOD.out (by rintro (h | h); exact h1 h; exact h2 h)
            obtain ⟨D, hD⟩ : ∃ D, 16 * sa + sb = D := ⟨_, rfl⟩
            have hDz : 16 * (sa : Int) + (sb : Int) = (D : Int) := by omega
            have hD8 : IntKind.u8.wrap (D : Int) = (D : Int) := by rw [IntKind.wrap_u8]; omega
            rw [hD] at hgd
            have HGD := Lib.hid hgd
            have H1 := Lib.hid h1
            have H2 := Lib.hid h2
            have hjm : j + 1 ≤ 1048576 := by have := HJ2.out; omega
            have hOa := own_kept hO ((Kept.refl [] wr).alloc (.cells #[.int .u8 D] 5)) (by simp)
            have hBa := hB.alloc hB.size (.cells #[.int .u8 D] 5)
            have hVn : ∀ n, Vals ((wr.alloc (.cells #[.int .u8 D] 5)).drewN n) (some ⟨wr.heap.size, 0, none⟩) 1 [D] := fun n => Vals.has (ys := [D]) (tl := []) ((Has.new wr _ _).drewN n)
            clear hgd h1 h2 hD
            go_wp2
            go_quiet (first
              | (go_at_call 28; with_reducible exact Calls.quiet_of_same (hsa _))
              | (go_at_call 28; with_reducible exact Calls.quiet_of_same (hsb _)))
            go_wp2_with (at_builtin; refine wpList_append_vals rfl (.tmp 33) (.tmp 39) _ rfl w.heap.size 5 1 (by omega) Tryd.underlying30 HInfo.out u4 j ds rfl (by exact hOa) _ 1 1 [D] rfl (by exact hVn _) (by exact hjm) (by exact hBa.size) ?_; intro v1 W1 hO1 hg1 hat1; have hK1 := Kept.of_grown hg1; have hB1 := below_kept (below_drewN hBa _) hK1 hBa.size (own_in hOa))
            go_roundw
            case rel => exact ⟨j + 1, k + 2, ds ++ [D], by go_num, by have := HKJ.out; omega, HGD.out, hO1, hB1⟩
            case measure => simp [intOf]; omega
      · have hkL2 : k = L := by omega
        have hz := unhex_some (read2_end HR.out (by rw [HL.out]; omega))
        have hz1 := Lib.hid hz.1
        have hz2 := Lib.hid hz.2
        have hjl : j ≤ 100000 := by omega
        subst hkL2
        clear hz hkj
        obtain ⟨A9, c9, rfl, e1, e2, hV9, e3⟩ := Vals.own hO
        go_wp2
        go_ret2
        exact ⟨A9, j, c9, by rw [hz1.out]; rfl, e1, e2, by rw [hz2.out]; exact hV9, hjl, hB⟩
end Go.Proofs.YtcmfhbpdeloflaaDoor.Txt
