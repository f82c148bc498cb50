/- What text's calls over bytes answer: Hex and Unhex. -/
import Derived.Test.YtcmfhbpdeloflaaDoorTextRefHex
import Derived.Test.YtcmfhbpdeloflaaDoorKept
import Derived.Test.YtcmfhbpdeloflaaDoorShelfStr
import Derived.Test.YtcmfhbpdeloflaaDoorShelfBuild
import Derived.Laws.BitsLemmas
set_option linter.unusedSimpArgs false
set_option linter.unusedVariables false
namespace Go.Proofs.YtcmfhbpdeloflaaDoor.Txt
open Go.RowKit RU8

theorem str_mk (l : List Nat) : (⟨(l.map UInt8.ofNat).toArray⟩ : ByteArray) = str l := ext (by rw [str_data])
theorem vals_cells {l : List Nat} (h : Bytes l) : vals l = Lib.byteCells (l.map UInt8.ofNat) := by
  unfold vals Lib.byteCells
  rw [List.map_map]
  refine List.map_congr_left fun y hy => ?_
  have := h y hy
  simp [Function.comp]
  omega
theorem low_four (y : Nat) (hy : y < 256) : bits .and .u8 (y : Int) 15 = ((y % 16 : Nat) : Int) := by
  have h := bits_mask .u8 8 (by decide) (fun n h0 h1 => wraps_u8 n h0 (by omega)) 4 (by omega) (y : Int) (by omega) (by omega)
  rw [show ((2 : Int) ^ 4 - 1) = 15 by decide] at h
  rw [h]
  simp
theorem hex_any (A : Option Addr) (n c : Nat) (ys : List Nat) (w : World) (hv : Vals w A n ys) (hb : Bytes ys) (hn : n ≤ 100000) (hc : n ≤ c) (hc2 : c ≤ 9223372036854775807) :
    Calls Tryd.prog 14 #[.slice A n c] w fun e w' => e = .returned (.string (str (hexT ys))) ∧ Below w.heap.size w w' := by
  have hlen := hv.len_
  have hgrow := Tryd.buildGrow w.heap.size w.heap.size (2 * n) (w.alloc (.cells #[.pointer none, .slice none 0 0] 58)) (Nat.le_refl _) (Has.new w _ _) (by simp) (by omega)
  have hend : hexT (ys.take n) = hexT ys := by rw [List.take_of_length_le (by omega)]
  have HE := Lib.hid hend
  have hfin := fun W h0 h1 => Tryd.buildString w.heap.size w.heap.size ((hexT ys).map UInt8.ofNat) W h0 h1
  rw [str_mk] at hfin
  have HF := Lib.hid hfin
  obtain ⟨n2, hn2⟩ : ∃ m, 2 * n = m := ⟨_, rfl⟩
  have h2n : (2 : Int) * (n : Int) = (n2 : Int) := by omega
  rw [hn2] at hgrow
  clear hn2
  clear hend hfin
  go_enter Tryd.func14, Tryd.ntmps14
  go_wp2_with (go_at_call 29; ((with_reducible refine hgrow.mono ?_); rintro e w1 ⟨rfl, hA1, hB1⟩; have hBW := ((Below.refl w.heap.size w).alloc (Nat.le_refl _) _).trans hB1))
  go_loopw [12] (fun i wr => ∃ j : Nat, j ≤ n ∧ i = .int .i64 (j : Nat) ∧ Lib.IsBuilder 58 5 w.heap.size w.heap.size (vals (hexT (ys.take j))) wr ∧ Below w.heap.size w wr) (fun i _ => n - (intOf i).toNat)
  case atStart => exact ⟨0, by omega, rfl, .inr hA1, hBW⟩
  case round =>
    obtain ⟨j, hj, rfl, hI, hB⟩ := hrel
    by_cases hjn : j < n
    · obtain ⟨x, rfl, hx⟩ := (hv.below hB).cells (by omega)
      have hc1 : wr.cell? (x.add j) = some (.int .u8 (ys.getD j 0 : Nat)) := hx j hjn
      have hst := hex_step ys j (by omega)
      have hyb := hb.at_ j
      have hl1 : (hexT (ys.take j)).length ≤ 200000 := by rw [hexT_length, List.length_take]; omega
      have hlow := low_four (ys.getD j 0) hyb
      obtain ⟨hi, hhi⟩ : ∃ hi, ys.getD j 0 / 16 = hi := ⟨_, rfl⟩
      obtain ⟨lo, hlo⟩ : ∃ lo, ys.getD j 0 % 16 = lo := ⟨_, rfl⟩
      rw [hhi, hlo] at hst
      rw [hlo] at hlow
      generalize ys.getD j 0 = y at *
      have hhiz : (y : Int) / 16 = (hi : Int) := by omega
      have hhi16 : hi < 16 := by omega
      have hlo16 : lo < 16 := by omega
      have hg1 : ∀ h, ((⟨#[48, 49, 50, 51, 52, 53, 54, 55, 56, 57, 97, 98, 99, 100, 101, 102]⟩ : ByteArray)[hi]'h).toNat = hexD hi := fun h => signs_get hi h
      have hg2 : ∀ h, ((⟨#[48, 49, 50, 51, 52, 53, 54, 55, 56, 57, 97, 98, 99, 100, 101, 102]⟩ : ByteArray)[lo]'h).toNat = hexD lo := fun h => signs_get lo h
      have HST := Lib.hid hst
      generalize hexT (ys.take j) = S at *
      have hw1 := fun W (h : Lib.IsBuilder 58 5 w.heap.size w.heap.size (vals S) W) h2 => Tryd.buildByte w.heap.size w.heap.size (vals S) (hexD hi : Nat) W h (by simp [vals]; omega) h2
      have hw2 := fun W (h : Lib.IsBuilder 58 5 w.heap.size w.heap.size (vals (S ++ [hexD hi])) W) h2 => Tryd.buildByte w.heap.size w.heap.size (vals (S ++ [hexD hi])) (hexD lo : Nat) W h (by simp [vals]; omega) h2
      have HW1 := Lib.hid hw1
      have HW2 := Lib.hid hw2
      have hbsz := hB.size
      clear hst hhi hlo hx hw1 hw2 hgrow
      go_wp2_with (first
        | (go_at_call 30; ((with_reducible refine (HW1.out _ hI hB.size).mono ?_); rintro e w2 ⟨rfl, hA2, hB2⟩; have hC2 := hB.trans hB2; have hI2 : Lib.IsBuilder 58 5 w.heap.size w.heap.size (vals (S ++ [hexD hi])) w2 := .inr (by rw [vals_append]; exact hA2)))
        | (go_at_call 30; ((with_reducible refine (HW2.out _ hI2 hC2.size).mono ?_); rintro e w3 ⟨rfl, hA3, hB3⟩; have hC3 := hC2.trans hB3)))
      go_roundw
      case rel => exact ⟨j + 1, by omega, by go_num, by rw [HST.out, vals_append]; exact .inr hA3, hC3⟩
      case measure => simp [intOf]; omega
    · obtain rfl : j = n := by omega
      have hf := HF.out wr (by rw [← vals_cells (hexT_bytes hb), ← HE.out]; exact hI) hB.size
      go_wp2_with (go_at_call 31; ((with_reducible refine hf.mono ?_); rintro e w2 ⟨rfl, hB2⟩))
      go_ret
      exact ⟨rfl, hB.trans hB2⟩
set_option maxRecDepth 100000 in
/-- A new row of zeros. -/
theorem make_bytes (m : Nat) (hm : m ≤ 100000) (W : World) : (Instr.makeSlice 30 (.int .i64 (m : Int)) (.int .i64 (m : Int))).run Tryd.prog W =
    .ok (.slice (some ⟨W.heap.size, 0, none⟩) m m) (W.alloc (.cells (vals (List.replicate m 0)).toArray 5)) := by
  obtain ⟨i, hi, hz, h1, h2⟩ : ∃ i, Tryd.prog.info? 5 = some i ∧ i.zero = some (Value.int .u8 0) ∧ i.size = 1 ∧ i.bytes ≤ 16 := by
    refine ⟨_, rfl, ?_, ?_, ?_⟩ <;> first | rfl | decide
  have hr := run_make (P := Tryd.prog) W 30 5 i _ Tryd.underlying30 hi hz .i64 .i64 (m : Int) (m : Int) (by omega) (by omega) (by
    have : (i.bytes : Int) * (m : Int) ≤ 16 * 100000 := Int.mul_le_mul (by omega) (by omega) (by omega) (by omega)
    omega) (by omega)
  simp only [Int.toNat_natCast, h1] at hr
  rw [show (Value.int .u8 0).cells = #[Value.int .u8 0] from rfl] at hr
  rw [hr]
  congr 3
  apply Array.ext
  · simp [madeCells, vals]
  · intro i h1 h2
    simp [madeCells, Nat.mod_one, vals]
def signI (a : Nat) : Int := if signT a = 16 then -1 else (signT a : Int)
theorem index_sign (a : Nat) (h : a < 256) : Lib.indexByte [48, 49, 50, 51, 52, 53, 54, 55, 56, 57, 97, 98, 99, 100, 101, 102] a.toUInt8 = signI a := by
  have key : ∀ b : Fin 256, Lib.indexByte [48, 49, 50, 51, 52, 53, 54, 55, 56, 57, 97, 98, 99, 100, 101, 102] b.val.toUInt8 = signI b.val := by decide +kernel
  exact key ⟨a, h⟩
theorem index_any (a : Nat) (h : a < 256) (w : World) : Calls Tryd.prog 27 #[.string ⟨#[48, 49, 50, 51, 52, 53, 54, 55, 56, 57, 97, 98, 99, 100, 101, 102]⟩, .int .u8 (a : Nat)] w fun e w' => e = .returned (.int .i64 (signI a)) ∧ w' = w := by
  have := Tryd.indexByte ⟨#[48, 49, 50, 51, 52, 53, 54, 55, 56, 57, 97, 98, 99, 100, 101, 102]⟩ (a : Nat) w
  rwa [Int.toNat_natCast, index_sign a h] at this
theorem set_take {zs : List Nat} {j v : Nat} (h : j < zs.length) : (zs.set j v).take (j + 1) = zs.take j ++ [v] := by
  rw [List.take_succ_eq_append_getElem (by simpa using h), List.take_set, List.set_eq_of_length_le (by rw [List.length_take]; omega)]
  simp
theorem join_four (a b : Nat) (ha : a < 16) (hb : b < 16) : bits .or .i64 ((a : Int) * 16) (b : Int) = ((16 * a + b : Nat) : Int) := by
  have h := bits_join .i64 63 (by decide) (fun n h0 h1 => IntWalk.i64_in n (by omega)) 4 ((a : Int) * 16) (b : Int) (by omega) (by omega) (by omega) (by omega) (by omega) (by omega)
  rw [h]
  omega
set_option maxHeartbeats 1000000 in
theorem unhex_any (l : List Nat) (hb : Bytes l) (hl : l.length ≤ 100000) (w : World) : Calls Tryd.prog 12 #[.string (str l)] w (UnhexIs w l) := by
  have hget : ∀ (k : Nat) (h : k < (str l).size), ((str l)[k]'h).toNat = l.getD k 0 := fun k h => str_get hb k h
  obtain ⟨L, hL⟩ : ∃ L, l.length = L := ⟨_, rfl⟩
  have hsz : (str l).size = L := by rw [str_size, hL]
  have HL := Lib.hid hL
  rw [hL] at hl
  clear hL
  by_cases hodd : L % 2 = 1
  · have hz := unhex_none (unhex_odd l (by rw [HL.out]; exact hodd))
    have hz1 := Lib.hid hz.1
    have hz2 := Lib.hid hz.2
    have ho : (L : Int) % 2 = 1 := by omega
    clear hz hget
    go_enter Tryd.func12, Tryd.ntmps12
    go_wp2
    go_ret2
    exact ⟨_, _, _, by rw [hz1.out]; rfl, by omega, by omega, by rw [hz2.out]; exact Vals.none_ _, by omega, Below.refl _ _⟩
  · have hev : (L : Int) % 2 = 0 := by omega
    obtain ⟨H, hH⟩ : ∃ H, L / 2 = H := ⟨_, rfl⟩
    have hHz : (L : Int) / 2 = (H : Int) := by omega
    have hLH : L = 2 * H := by omega
    have HLH := Lib.hid hLH
    have hst := Lib.hid (read2_start l)
    have hmk := fun W => make_bytes H (by omega) W
    have hHl : H ≤ 50000 := by omega
    have hnew := Lib.hid (Has.new w 5 (vals (List.replicate H 0)).toArray)
    have hnewB := (Below.refl w.heap.size w).alloc (Nat.le_refl _) (.cells (vals (List.replicate H 0)).toArray 5)
    clear hodd hLH hH
    go_enter Tryd.func12, Tryd.ntmps12
    go_wp2
    clear hev
    go_loopw [18] (fun i wr => ∃ (j : Nat) (zs : List Nat), i = .int .i64 (j : Nat) ∧ j ≤ H ∧ zs.length = H ∧ Read2 l j (zs.take j) ∧ Has wr w.heap.size 5 (vals zs).toArray ∧ Below w.heap.size w wr) (fun i _ => H - (intOf i).toNat)
    case atStart => exact ⟨0, List.replicate H 0, rfl, by omega, by simp, hst.out, hnew.out, hnewB⟩
    case round =>
      obtain ⟨j, zs, rfl, hjH, hzl, hR, hO, hB⟩ := hrel
      have HR := Lib.hid hR
      have HZ := Lib.hid hzl
      clear hR hnewB hmk
      by_cases hjlt : j < H
      · have hLH := HLH.out
        obtain ⟨k, hk⟩ : ∃ k, 2 * j = k := ⟨_, rfl⟩
        obtain ⟨k1, hk1⟩ : ∃ k1, k + 1 = k1 := ⟨_, rfl⟩
        have hkL : k < L := by omega
        have hk1L : k1 < L := by omega
        have hkz : 2 * (j : Int) = (k : Int) := by omega
        have hk1z : (k : Int) + 1 = (k1 : Int) := by omega
        have hks : k < (str l).size := by rw [hsz]; exact hkL
        have hk1s : k1 < (str l).size := by rw [hsz]; exact hk1L
        have hga := hget k hks
        have hgb := hget k1 hk1s
        have hab := hb.at_ k
        have hbb := hb.at_ k1
        have hbad := read2_bad HR.out (by rw [HL.out]; omega)
        have hgood := read2_step HR.out (by rw [HL.out]; omega)
        rw [hk, hk1] at hbad hgood
        obtain ⟨a, ha⟩ : ∃ a, l.getD k 0 = a := ⟨_, rfl⟩
        obtain ⟨b, hbe⟩ : ∃ b, l.getD k1 0 = b := ⟨_, rfl⟩
        rw [ha] at hga hab hbad hgood
        rw [hbe] at hgb hbb hbad hgood
        have hsa := fun W => index_any a hab W
        have hsb := fun W => index_any b hbb W
        have hda : signI a = if signT a = 16 then -1 else (signT a : Int) := rfl
        have hdb : signI b = if signT b = 16 then -1 else (signT b : Int) := rfl
        obtain ⟨sa, hsae⟩ : ∃ s, signT a = s := ⟨_, rfl⟩
        obtain ⟨sb, hsbe⟩ : ∃ s, signT b = s := ⟨_, rfl⟩
        have ha16 : sa ≤ 16 := by rw [← hsae]; unfold signT; split <;> (try split) <;> omega
        have hb16 : sb ≤ 16 := by rw [← hsbe]; unfold signT; split <;> (try split) <;> omega
        rw [hsae] at hda hbad hgood
        rw [hsbe] at hdb hbad hgood
        generalize signI a = ia at *
        generalize signI b = ib at *
        have HBAD := Lib.hid hbad
        have HGOOD := Lib.hid hgood
        clear hget hbad hgood ha hbe hsae hsbe hk hk1 hLH
        by_cases h1 : sa = 16
        · have hz := unhex_none (HBAD.out (.inl h1))
          have hz1 := Lib.hid hz.1
          have hz2 := Lib.hid hz.2
          rw [if_pos h1] at hda
          clear hz hdb
          subst hda
          go_wp2_with (first
            | (go_at_call 27; ((with_reducible refine (hsa _).mono ?_); rintro e w1 ⟨rfl, rfl⟩))
            | (go_at_call 27; ((with_reducible refine (hsb _).mono ?_); rintro e w1 ⟨rfl, rfl⟩)))
          go_ret2
          exact ⟨none, 0, 0, by rw [hz1.out]; rfl, by omega, by omega, by rw [hz2.out]; exact Vals.none_ _, by omega, hB⟩
        · rw [if_neg h1] at hda
          by_cases h2 : sb = 16
          · have hz := unhex_none (HBAD.out (.inr h2))
            have hz1 := Lib.hid hz.1
            have hz2 := Lib.hid hz.2
            rw [if_pos h2] at hdb
            clear hz
            subst hda hdb
            have H1 := Lib.hid h1
            clear h1
            go_wp2_with (first
              | (go_at_call 27; ((with_reducible refine (hsa _).mono ?_); rintro e w1 ⟨rfl, rfl⟩))
              | (go_at_call 27; ((with_reducible refine (hsb _).mono ?_); rintro e w1 ⟨rfl, rfl⟩)))
            go_ret2
            exact ⟨none, 0, 0, by rw [hz1.out]; rfl, by omega, by omega, by rw [hz2.out]; exact Vals.none_ _, by omega, hB⟩
          · rw [if_neg h2] at hdb
            have hgd := HGOOD.out (by rintro (h | h); exact h1 h; exact h2 h)
            have hor := join_four sa sb (by omega) (by omega)
            obtain ⟨D, hD⟩ : ∃ D, 16 * sa + sb = D := ⟨_, rfl⟩
            have hD8 : IntKind.u8.wrap (D : Int) = (D : Int) := by rw [IntKind.wrap_u8]; omega
            rw [hD] at hgd hor
            have hfz := hO.frozen j
            have hset := hO.set_ j (.int .u8 D)
            have hBs := hB.setCell (p := ⟨w.heap.size, j, none⟩) (Nat.le_refl _) (.int .u8 D)
            have hcell : wr.cell? ⟨w.heap.size, j, none⟩ = some (.int .u8 (zs.getD j 0 : Nat)) := by
              rw [hO.cell j]
              simp [vals, List.getD_eq_getElem?_getD, List.getElem?_eq_getElem (show j < zs.length by rw [HZ.out]; exact hjlt)]
            have HGD := Lib.hid hgd
            have H1 := Lib.hid h1
            have H2 := Lib.hid h2
            have HS := Lib.hid hset
            clear hgd h1 h2 hD hset
            subst hda hdb
            go_wp2_with (first
              | (go_at_call 27; ((with_reducible refine (hsa _).mono ?_); rintro e w1 ⟨rfl, rfl⟩))
              | (go_at_call 27; ((with_reducible refine (hsb _).mono ?_); rintro e w1 ⟨rfl, rfl⟩)))
            go_roundw
            case rel => exact ⟨j + 1, zs.set j D, by go_num, hjlt, by simp [HZ.out], by rw [set_take (by rw [HZ.out]; exact hjlt)]; exact HGD.out, by rw [show (vals (zs.set j D)).toArray = (vals zs).toArray.setIfInBounds j (.int .u8 D) by simp [vals, List.map_set]]; exact HS.out, hBs⟩
            case measure => simp [intOf]; omega
      · have hjH2 : j = H := by omega
        subst hjH2
        have hr := HR.out
        rw [List.take_of_length_le (by rw [HZ.out]; omega)] at hr
        have hz := unhex_some (read2_end hr (by rw [HL.out, HLH.out]))
        have hz1 := Lib.hid hz.1
        have hz2 := Lib.hid hz.2
        have hV : Vals wr (some ⟨w.heap.size, 0, none⟩) j zs := by
          have := Vals.has (ys := zs) (tl := []) (by rw [List.append_nil]; exact hO)
          rwa [HZ.out] at this
        clear hz hr hget
        go_wp2
        go_ret2
        exact ⟨_, j, j, by rw [hz1.out]; rfl, by omega, by omega, by rw [hz2.out]; exact hV, by omega, hB⟩
end Go.Proofs.YtcmfhbpdeloflaaDoor.Txt
