/- OrderWhenever over the kit. -/
import Derived.Test.YtmefdgmbpihdfaaDoorOrderWhen
import Derived.Test.YtmefdgmbpihdfaaDoorOrderLive
set_option linter.unusedSimpArgs false
set_option linter.unusedVariables false
namespace Go.Proofs.YtmefdgmbpihdfaaDoor.Order
open Go.RowKit RU8
open Alarm (Or orS noOr or_cells)
open Txt
set_option maxRecDepth 100000 in
set_option maxHeartbeats 4000000 in
theorem whenever_k {Que : World → Nat → St → Prop} (K : QueKit Que) (a0 : Option Addr) (len0 cap0 : Nat) (ys : List Nat) (st : Nat) (hst : st < 256) (w : World) (hv : RU8.Vals w a0 len0 ys) (hb : Bytes ys) (hc0 : len0 ≤ cap0) (hc1 : cap0 ≤ 9223372036854775807) (hLd : Pows w) :
    Calls Tryd.prog 6 #[.slice a0 len0 cap0, .int .u8 (st : Nat)] w fun e w' => e = .returned (.bool true) ∧ Below w.heap.size w w' := by
  have hInfo : (Tryd.prog.info? 23).map (fun i => (i.zero, i.size, i.bytes)) = some (some (.agg #[.int .i64 0, .int .i64 0, .int .i64 0]), 3, 24) := by kernel_rfl
  have HInfo := Lib.hid hInfo
  have hyl := hv.len_
  obtain ⟨m, hm⟩ : ∃ m, min len0 20 = m := ⟨_, rfl⟩
  have hm1 : m ≤ 20 ∧ m ≤ len0 := by omega
  have hm2 : min (len0 : Int) 20 = (m : Int) := by omega
  have hgl : (ys.take m).length = m := by rw [List.length_take]; omega
  have hgb : ∀ g ∈ ys.take m, g < 256 := fun g hg => hb g (List.mem_of_mem_take hg)
  have hna := K.new_any w
  have HGL := Lib.hid hgl
  have HGB := Lib.hid hgb
  have HYL := Lib.hid hyl
  clear hInfo hm hgl hgb hyl
  go_enter Tryd.func6, Tryd.ntmps6
  go_wp2_with (first
    | (go_at_call 15; ((with_reducible refine hna.mono ?_); rintro e W1 ⟨a, rfl, hQa, hfa, hB1⟩; have hMa : Mr Que w a st0 W1 := ⟨hQa, hB1, hfa⟩; have hnb := K.new_any W1; have haW := K.lt hQa; clear hna hQa hfa hB1))
    | (go_at_call 15; ((with_reducible refine hnb.mono ?_); rintro e W2 ⟨b, rfl, hQb, hfb, hB2⟩; have hMa2 := hMa.later K hB2; have hMb : Mr Que w b st0 W2 := ⟨hQb, hMa.below.trans (hB2.mono hMa.below.size), Nat.le_trans hMa.below.size hfb⟩; have hab : a ≠ b := (by omega); clear hnb hMa hQb hfb hB2 haW)))
  have hL0 : Wh Que w a b st0 st0 (.slice none 0 0) (.slice none 0 0) [] [] W2.heap.size none 0 [] W2 :=
    ⟨hMa2, hMb, hab, Row.own_none (S := orS) _ _ _, Row.own_none (S := orS) _ _ _, (fun k hk => by cases hk), K.lt hMa2.que, K.lt hMb.que, Nat.le_refl _, Row.Vals.none_ _, (fun x hx => by cases hx), hMb.below.size⟩
  have hwl := hMb.below
  generalize hbs : W2.heap.size = base at *
  clear hMa2 hMb hab hbs
  go_loopw [7, 8, 26] (fun v at_ i wr => ∃ k : Nat, k ≤ m ∧ i = .int .i64 (k : Nat) ∧ at_ = .int .i64 ((atFrom 0 (ys.take k) : Nat) : Int) ∧ Wh Que w a b st0 st0 v (.slice none 0 0) (upFrom 0 (ys.take k)) [] base none 0 [] wr) (fun _ _ i _ => m - (intOf i).toNat)
  case atStart => exact ⟨0, by omega, rfl, by rw [List.take_zero]; rfl, by rw [List.take_zero]; exact hL0⟩
  case round =>
    clear hL0
    obtain ⟨k, hk, rfl, rfl, hL⟩ := hrel
    by_cases hkm : k < m
    · obtain ⟨x, rfl, hx⟩ := (hv.below hL.ma.below).cells (by omega)
      have hc := hx k (by omega)
      obtain ⟨g, hg⟩ : ∃ g, ys.getD k 0 = g := ⟨_, rfl⟩
      rw [hg] at hc
      have hkl : k < ys.length := by rw [HYL.out]; omega
      have htk : ys.take (k + 1) = ys.take k ++ [g] := by rw [List.take_succ_eq_append_getElem hkl, ← hg, List.getD_eq_getElem?_getD, List.getElem?_eq_getElem hkl, Option.getD_some]
      have hgb : g < 256 := by
        refine hb g ?_
        rw [← hg, List.getD_eq_getElem?_getD, List.getElem?_eq_getElem hkl]
        exact List.getElem_mem _
      have hul : (upFrom 0 (ys.take k)).length = k := by rw [up_len, List.length_take]; omega
      have hbd := (at_bd 0 (ys.take k) (fun g hg => hb g (List.mem_of_mem_take hg))).2
      rw [List.length_take, show min k ys.length = k by omega] at hbd
      have hup := up_snoc 0 (ys.take k) g
      have hat := at_snoc 0 (ys.take k) g
      rw [← htk] at hup hat
      have HUP := Lib.hid hup
      have HAT := Lib.hid hat
      obtain ⟨c, hc1⟩ : ∃ c, 1 + g = c := ⟨_, rfl⟩
      obtain ⟨s, hs1⟩ : ∃ s, atFrom 0 (ys.take k) = s := ⟨_, rfl⟩
      obtain ⟨t, ht1⟩ : ∃ t, s + 1 + g = t := ⟨_, rfl⟩
      rw [hs1] at hbd ⊢
      have hs2 : (s : Int) ≤ 6000 := by omega
      have hwg : IntKind.i64.wrap (g : Int) = (g : Int) := by rw [IntKind.wrap_i64]; omega
      have hz1 : (1 : Int) + (g : Int) = (c : Int) := by omega
      have hz2 : (s : Int) + (c : Int) = (t : Int) := by omega
      have hgz : (g : Int) < 256 := by omega
      have hcz : (c : Int) ≤ 256 := by omega
      have HS := Lib.hid hs1
      have HT := Lib.hid ht1
      have HC1 := Lib.hid hc1
      have hkz : (k : Int) < (m : Int) := by omega
      have hLa := hL.alloc K (.cells #[.int .i64 (t : Nat), .int .i64 2, .int .i64 (c : Nat)] 23)
      have hVn := or_new wr 23 ((t : Nat), 2, (c : Nat))
      have hbase := hLa.hi
      have HK := Lib.hid hul
      clear hL hx hg hkl htk hgb hul hbd hup hat hc1 hs1 ht1
      generalize upFrom 0 (ys.take k) = us at *
      go_wp2_with (first
        | (at_builtin; refine Row.wpList_append (S := orS) rfl (.tmp 35) (.tmp 41) _ rfl base 23 _ 24 (by omega) Tryd.underlying39 HInfo.out (by kernel_rfl) _ us.length us rfl hLa.o1 (some ⟨wr.heap.size, 0, none⟩) 1 1 [((t : Nat), 2, (c : Nat))] rfl hVn (by have := HK.out; omega) hbase ?_; intro V4 W4 hO4 hg4 hat4; have hL4 := hLa.grow1 K (zs := [((t : Nat), 2, (c : Nat))]) (by rw [List.length_append]; exact hO4) hg4 hat4; clear hLa hVn hO4 hg4 hat4 hbase))
      go_roundw
      case rel => exact ⟨k + 1, by omega, by go_num, by rw [HAT.out, HS.out, HT.out], by
        rw [HUP.out, HS.out, HT.out, HC1.out]
        exact hL4⟩
      case measure => simp [intOf]; omega
    · have hkm2 : k = m := by omega
      rw [hkm2] at hL ⊢
      have hrise := up_rise 0 (ys.take m)
      have hmay := up_may 0 (ys.take m) HGB.out (by rw [HGL.out]; omega)
      have hul : (upFrom 0 (ys.take m)).length = m := by rw [up_len, HGL.out]
      have hbd := (at_bd 0 (ys.take m) HGB.out).2
      rw [HGL.out] at hbd
      obtain ⟨at_, hat⟩ : ∃ at_, atFrom 0 (ys.take m) = at_ := ⟨_, rfl⟩
      rw [hat] at hbd ⊢
      obtain ⟨l, hl⟩ : ∃ l, upFrom 0 (ys.take m) = l := ⟨_, rfl⟩
      rw [hl] at hrise hmay hul hL
      have hat2 : at_ ≤ 6000 := by omega
      have hm20 : m ≤ 20 := by omega
      obtain ⟨A, c, hVA, -, -, -, -, -⟩ := Row.Vals.own hL.o1
      have hW := hL.start (B := A) (c := c) hVA
      rw [hul] at hVA hW
      subst hVA
      have hkz : ¬ (m : Int) < (m : Int) := by omega
      clear hL hv hb hkm hkm2 hk hm1 hm2 hbd hat hl HGB HGL HYL
      generalize wr.heap.size = base2 at *
      go_wp2
      clear hkz
      obtain ⟨W9, hW9⟩ : ∃ z : World, z = wr := ⟨_, rfl⟩
      rw [← hW9] at hW ⊢
      clear hW9
      have HM := Lib.hid hmay
      have HR := Lib.hid hrise
      have HU := Lib.hid hul
      clear hmay hrise hul
      go_loopw [46] (fun i wr => ∃ k : Nat, k ≤ m ∧ i = .int .i64 (k : Nat) ∧ Wh Que w a b ⟨l.drop (m - k), 0⟩ st0 (.slice none 0 0) (.slice none 0 0) [] [] base2 A m l wr) (fun i _ => m - (intOf i).toNat)
      case atStart => exact ⟨0, by omega, rfl, by rw [Nat.sub_zero, List.drop_of_length_le (by rw [HU.out]; exact Nat.le_refl _)]; exact hW⟩
      case round =>
        clear hW
        obtain ⟨k, hk, rfl, hW⟩ := hrel
        by_cases hkm : k < m
        · obtain ⟨x, rfl, -⟩ := hW.lv.cells (by omega)
          obtain ⟨q, hq⟩ : ∃ q, m - 1 - k = q := ⟨_, rfl⟩
          obtain ⟨m1, hm1⟩ : ∃ m1, m - 1 = m1 := ⟨_, rfl⟩
          have hqm : q < m := by omega
          obtain ⟨x0, x1, x2⟩ := or_cells hW.lv q hqm
          have hpf := put_front HR.out HM.out (by rw [HU.out]; exact hm20) q (by rw [HU.out]; exact hqm)
          have hz1 : (m : Int) - 1 = (m1 : Int) := by omega
          have hz2 : (m1 : Int) - (k : Int) = (q : Int) := by omega
          have hqz : (q : Int) < (m : Int) := by omega
          have hkz : (k : Int) < (m : Int) := by omega
          rw [show m - k = q + 1 by omega] at hW
          generalize l.getD q noOr = o at *
          obtain ⟨o1, o2, o3⟩ := o
          dsimp only at x0 x1 x2
          have hp := hW.ma.put_one K (o1, o2, o3) 1
          rw [hpf] at hp
          dsimp only at hp
          have hWa := hW.alloc K (.cells #[.int .i64 o1, .int .i64 o2, .int .i64 o3] 23)
          have HQ := Lib.hid (show m - (k + 1) = q by omega)
          clear hpf hq hm1 hWa
          go_wp2_with (go_at_call 17; ((with_reducible refine hp.mono ?_); rintro e W5 ⟨rfl, hM5, hK5⟩; have hW5 := hW.step_a K hM5 hK5))
          go_roundw
          case rel => exact ⟨k + 1, by omega, by go_num, by rw [HQ.out]; exact hW5⟩
          case measure => simp [intOf]; omega
        · have hkm2 : k = m := by omega
          rw [hkm2, Nat.sub_self, List.drop_zero] at hW
          have hkz : ¬ (m : Int) < (m : Int) := by omega
          rw [hkm2]
          clear hkm hkm2 hk
          go_wp2
          obtain ⟨W9, hW9⟩ : ∃ z : World, z = wr := ⟨_, rfl⟩
          rw [← hW9] at hW ⊢
          clear hW9 hkz
          have hstz : IntKind.i64.wrap (st : Int) = (st : Int) := by rw [IntKind.wrap_i64]; omega
          obtain ⟨en, hen⟩ : ∃ en, at_ + st = en := ⟨_, rfl⟩
          obtain ⟨r1, hr1⟩ : ∃ r1, 1 + st % 7 = r1 := ⟨_, rfl⟩
          have hst2 : (st : Int) < 256 := by omega
          have hez : (at_ : Int) + (st : Int) = (en : Int) := by omega
          have hen2 : en ≤ 6300 := by omega
          have hr2 : 1 ≤ r1 ∧ r1 ≤ 7 := by omega
          have hrz : (st : Int).tmod 7 = ((st % 7 : Nat) : Int) := by rw [Int.tmod_eq_emod_of_nonneg (by omega)]; omega
          obtain ⟨r, hr⟩ : ∃ r, st % 7 = r := ⟨_, rfl⟩
          rw [hr] at hrz
          have hrz1 : (1 : Int) + (r : Int) = (r1 : Int) := by omega
          have hrr : (r : Int) ≤ 6 := by omega
          clear hen hr1 hr
          go_loopw [12, 13, 14, 15] (fun v1 v2 ks now wr => ∃ (j k t : Nat) (F : Int), ks = .int .i64 (k : Nat) ∧ now = .int .i64 (t : Nat) ∧ j ≤ k ∧ k ≤ m ∧ F ≤ (t : Int) ∧ (k < m → F ≤ (l.getD k noOr).1) ∧ j ≤ due (t : Int) l ∧ t ≤ 6400 ∧ Wh Que w a b ⟨l.drop j, F⟩ ⟨(l.take k).drop j, F⟩ v1 v2 (l.take j) (l.take j) base2 A m l wr) (fun _ _ _ now _ => 7000 - (intOf now).toNat)
          case atStart => exact ⟨0, 0, 0, 0, rfl, rfl, by omega, by omega, by omega, fun h => by have := (HM.out _ (get_mem (by rw [HU.out]; exact h))).1; omega, by omega, by omega, by simpa [st0] using hW⟩
          case round =>
            clear hW
            obtain ⟨j, k0, t, F, rfl, rfl, hjk, hk0, hF, hFk, hjd, ht, hW⟩ := hrel
            have htz : (t : Int) ≤ 6400 := by omega
            by_cases hte : t ≤ en
            · have htez : (t : Int) ≤ (en : Int) := by omega
              obtain ⟨t7, ht7⟩ : ∃ t7, t + 7 = t7 := ⟨_, rfl⟩
              have ht7z : (t : Int) + 7 = (t7 : Int) := by omega
              obtain ⟨t2, ht2⟩ : ∃ t2, t + r1 = t2 := ⟨_, rfl⟩
              have ht2z : (t : Int) + (r1 : Int) = (t2 : Int) := by omega
              have HT7 := Lib.hid ht7
              have HT2 := Lib.hid ht2
              clear ht7 ht2
              go_wp2
              obtain ⟨W3, hW3⟩ : ∃ z : World, z = wr := ⟨_, rfl⟩
              rw [← hW3] at hW ⊢
              clear hW3
              go_loopw [14] (fun ks wr => ∃ k : Nat, k0 ≤ k ∧ k ≤ m ∧ ks = .int .i64 (k : Nat) ∧ (k < m → F ≤ (l.getD k noOr).1) ∧ Wh Que w a b ⟨l.drop j, F⟩ ⟨(l.take k).drop j, F⟩ u12 u13 (l.take j) (l.take j) base2 A m l wr) (fun ks _ => m - (intOf ks).toNat)
              case atStart => exact ⟨k0, by omega, by omega, rfl, hFk, hW⟩
              case round =>
                clear hW hFk
                obtain ⟨k, hkk, hk, rfl, hFk, hW⟩ := hrel
                by_cases hkm : k < m
                · have hkz : (k : Int) < (m : Int) := by omega
                  obtain ⟨x, rfl, -⟩ := hW.lv.cells (by omega)
                  obtain ⟨x0, x1, x2⟩ := or_cells hW.lv k hkm
                  have hF1 := hFk hkm
                  by_cases ho : (l.getD k noOr).1 ≤ (t7 : Int)
                  · have hpb := put_back HR.out HM.out (by rw [HU.out]; exact hm20) j k (by omega) (by rw [HU.out]; exact hkm) F hF1
                    have hrn : k + 1 < m → F ≤ (l.getD (k + 1) noOr).1 := fun h => by have := rise_get HR.out k (k + 1) (by omega) (by rw [HU.out]; exact h); omega
                    have HRN := Lib.hid hrn
                    clear hFk hF1 hrn
                    generalize l.getD k noOr = o at *
                    obtain ⟨o1, o2, o3⟩ := o
                    dsimp only at x0 x1 x2 ho
                    have hp := hW.mb.put_one K (o1, o2, o3) 1
                    rw [hpb] at hp
                    dsimp only at hp
                    clear hpb
                    go_wp2_with (go_at_call 17; ((with_reducible refine hp.mono ?_); rintro e W5 ⟨rfl, hM5, hK5⟩; have hW5 := hW.step_b K hM5 hK5))
                    go_roundw
                    case rel => exact ⟨k + 1, by omega, by omega, by go_num, HRN.out, hW5⟩
                    case measure => simp [intOf]; omega
                  · have hdi := due_in l k (t : Int) (fun _ => by have := HT7.out; omega) (by rw [HU.out]; exact hk)
                    have HNX := Lib.hid (show k < m → (t : Int) + 1 ≤ (l.getD k noOr).1 from fun _ => by have := HT7.out; omega)
                    clear hFk hF1
                    generalize (l.getD k noOr).1 = o1 at x0 ho
                    clear x1 x2
                    have hd1 := due_early HR.out j k (t : Int) F hjd hdi ⟨by omega, by omega⟩ hF
                    have hd2 := due_late HR.out j k (t : Int) F hjd hdi ⟨by omega, by omega⟩ hF
                    have hnx := due_next l j (t : Int) hjd
                    have hda := hW.ma.due K (t : Int)
                    rw [hd1] at hda
                    dsimp only at hda
                    have hdm := due_mono l (t : Int) (t2 : Int) (by omega)
                    have hdl := due_le (t : Int) l
                    rw [HU.out] at hdl
                    have HD2 := Lib.hid hd2
                    have HNE := Lib.hid hnx
                    have HDI := Lib.hid hdi
                    have HDM := Lib.hid hdm
                    have hDl : ((l.drop j).take (due (t : Int) l - j)).length ≤ 20 := by rw [List.length_take, List.length_drop, HU.out]; omega
                    have hXl : (l.take j).length ≤ 20 := by rw [List.length_take, HU.out]; omega
                    have hX2 : (l.take (due (t : Int) l)).length ≤ 20 := by rw [List.length_take, HU.out]; omega
                    clear hd1 hd2 hnx hdi hdm hdl hjd
                    generalize due (t : Int) l = j2 at *
                    generalize (l.drop j).take (j2 - j) = D at *
                    obtain ⟨X2, hXe⟩ : ∃ X2, l.take j2 = X2 := ⟨_, rfl⟩
                    rw [hXe] at HNE hX2
                    have HXE := Lib.hid hXe
                    clear hXe
                    have HDL := Lib.hid hDl
                    have HXL := Lib.hid hXl
                    have HX2 := Lib.hid hX2
                    clear hDl hXl hX2
                    go_wp2_with (first
                      | (go_at_call 20; ((with_reducible refine hda.mono ?_); rintro e W5 ⟨A5, c5, rfl, hV5, -, -, -, hM5, hK5⟩; have hW5 := hW.step_a K hM5 hK5; have hb5 := hW5.hi; clear hda hM5 hK5))
                      | (at_builtin; refine Row.wpList_append (S := orS) rfl (.tmp 105) (.tmp 108) _ rfl base2 23 _ 24 (by omega) Tryd.underlying39 HInfo.out (by kernel_rfl) _ (l.take j).length (l.take j) rfl hW5.o1 A5 D.length c5 D rfl hV5 (by have := HXL.out; have := HDL.out; omega) hb5 ?_; intro V6 W6 hO6 hg6 hat6; have hW6 := hW5.grow1 K (zs := D) (by rw [List.length_append]; exact hO6) hg6 hat6; rw [HNE.out] at hW6; have hdb := hW6.mb.due K (t : Int); rw [HD2.out] at hdb; dsimp only at hdb; obtain ⟨A6, c6, rfl, -, -, -, -, -⟩ := Row.Vals.own hW6.o1; clear hW5 hV5 hO6 hg6 hat6 hb5)
                      | (go_at_call 20; ((with_reducible refine hdb.mono ?_); rintro e W7 ⟨A7, c7, rfl, hV7, -, -, -, hM7, hK7⟩; have hW7 := hW6.step_b K hM7 hK7; have hb7 := hW7.hi; clear hdb hM7 hK7 hW6))
                      | (at_builtin; refine Row.wpList_append (S := orS) rfl (.tmp 110) (.tmp 113) _ rfl base2 23 _ 24 (by omega) Tryd.underlying39 HInfo.out (by kernel_rfl) _ (l.take j).length (l.take j) rfl hW7.o2 A7 D.length c7 D rfl hV7 (by have := HXL.out; have := HDL.out; omega) hb7 ?_; intro V8 W8 hO8 hg8 hat8; have hW8 := hW7.grow2 K (zs := D) (by rw [List.length_append]; exact hO8) hg8 hat8; rw [HNE.out] at hW8; obtain ⟨A8, c8, rfl, -, -, hV8, -, -⟩ := Row.Vals.own hW8.o2; obtain ⟨A9, c9, he9, -, -, hV9, -, -⟩ := Row.Vals.own hW8.o1; injection he9 with he1 he2 he3; rw [← he1] at hV9; have hsm := same_yes A6 A8 X2.length c6 c8 X2 W8 hV9 hV8 (by have := HX2.out; omega); clear hW7 hV7 hO8 hg8 hat8 hb7 hV8 hV9 he1 he2 he3)
                      | (go_at_call 19; ((with_reducible refine hsm.mono ?_); rintro e W10 ⟨rfl, z, rfl⟩; have hW10 := hW8.later K (below_drewN (Below.refl _ _) z); clear hsm hW8)))
                    go_roundw
                    case rel => exact ⟨j2, k, t2, (t : Int) + 1, rfl, by go_num, HDI.out, hk, by omega, HNX.out, HDM.out, by omega, by rw [HXE.out]; exact hW10⟩
                    case measure => simp [intOf]; omega
                · have hkz : ¬ (k : Int) < (m : Int) := by omega
                  have hdi := due_in l k (t : Int) (fun h => absurd h (by rw [HU.out]; omega)) (by rw [HU.out]; exact hk)
                  have HNX := Lib.hid (show k < m → (t : Int) + 1 ≤ (l.getD k noOr).1 from fun h => absurd h hkm)
                  clear hFk
                  have hd1 := due_early HR.out j k (t : Int) F hjd hdi ⟨by omega, by omega⟩ hF
                  have hd2 := due_late HR.out j k (t : Int) F hjd hdi ⟨by omega, by omega⟩ hF
                  have hnx := due_next l j (t : Int) hjd
                  have hda := hW.ma.due K (t : Int)
                  rw [hd1] at hda
                  dsimp only at hda
                  have hdm := due_mono l (t : Int) (t2 : Int) (by omega)
                  have hdl := due_le (t : Int) l
                  rw [HU.out] at hdl
                  have HD2 := Lib.hid hd2
                  have HNE := Lib.hid hnx
                  have HDI := Lib.hid hdi
                  have HDM := Lib.hid hdm
                  have hDl : ((l.drop j).take (due (t : Int) l - j)).length ≤ 20 := by rw [List.length_take, List.length_drop, HU.out]; omega
                  have hXl : (l.take j).length ≤ 20 := by rw [List.length_take, HU.out]; omega
                  have hX2 : (l.take (due (t : Int) l)).length ≤ 20 := by rw [List.length_take, HU.out]; omega
                  clear hd1 hd2 hnx hdi hdm hdl hjd
                  generalize due (t : Int) l = j2 at *
                  generalize (l.drop j).take (j2 - j) = D at *
                  obtain ⟨X2, hXe⟩ : ∃ X2, l.take j2 = X2 := ⟨_, rfl⟩
                  rw [hXe] at HNE hX2
                  have HXE := Lib.hid hXe
                  clear hXe
                  have HDL := Lib.hid hDl
                  have HXL := Lib.hid hXl
                  have HX2 := Lib.hid hX2
                  clear hDl hXl hX2
                  go_wp2_with (first
                    | (go_at_call 20; ((with_reducible refine hda.mono ?_); rintro e W5 ⟨A5, c5, rfl, hV5, -, -, -, hM5, hK5⟩; have hW5 := hW.step_a K hM5 hK5; have hb5 := hW5.hi; clear hda hM5 hK5))
                    | (at_builtin; refine Row.wpList_append (S := orS) rfl (.tmp 105) (.tmp 108) _ rfl base2 23 _ 24 (by omega) Tryd.underlying39 HInfo.out (by kernel_rfl) _ (l.take j).length (l.take j) rfl hW5.o1 A5 D.length c5 D rfl hV5 (by have := HXL.out; have := HDL.out; omega) hb5 ?_; intro V6 W6 hO6 hg6 hat6; have hW6 := hW5.grow1 K (zs := D) (by rw [List.length_append]; exact hO6) hg6 hat6; rw [HNE.out] at hW6; have hdb := hW6.mb.due K (t : Int); rw [HD2.out] at hdb; dsimp only at hdb; obtain ⟨A6, c6, rfl, -, -, -, -, -⟩ := Row.Vals.own hW6.o1; clear hW5 hV5 hO6 hg6 hat6 hb5)
                    | (go_at_call 20; ((with_reducible refine hdb.mono ?_); rintro e W7 ⟨A7, c7, rfl, hV7, -, -, -, hM7, hK7⟩; have hW7 := hW6.step_b K hM7 hK7; have hb7 := hW7.hi; clear hdb hM7 hK7 hW6))
                    | (at_builtin; refine Row.wpList_append (S := orS) rfl (.tmp 110) (.tmp 113) _ rfl base2 23 _ 24 (by omega) Tryd.underlying39 HInfo.out (by kernel_rfl) _ (l.take j).length (l.take j) rfl hW7.o2 A7 D.length c7 D rfl hV7 (by have := HXL.out; have := HDL.out; omega) hb7 ?_; intro V8 W8 hO8 hg8 hat8; have hW8 := hW7.grow2 K (zs := D) (by rw [List.length_append]; exact hO8) hg8 hat8; rw [HNE.out] at hW8; obtain ⟨A8, c8, rfl, -, -, hV8, -, -⟩ := Row.Vals.own hW8.o2; obtain ⟨A9, c9, he9, -, -, hV9, -, -⟩ := Row.Vals.own hW8.o1; injection he9 with he1 he2 he3; rw [← he1] at hV9; have hsm := same_yes A6 A8 X2.length c6 c8 X2 W8 hV9 hV8 (by have := HX2.out; omega); clear hW7 hV7 hO8 hg8 hat8 hb7 hV8 hV9 he1 he2 he3)
                    | (go_at_call 19; ((with_reducible refine hsm.mono ?_); rintro e W10 ⟨rfl, z, rfl⟩; have hW10 := hW8.later K (below_drewN (Below.refl _ _) z); clear hsm hW8)))
                  go_roundw
                  case rel => exact ⟨j2, k, t2, (t : Int) + 1, rfl, by go_num, HDI.out, hk, by omega, HNX.out, HDM.out, by omega, by rw [HXE.out]; exact hW10⟩
                  case measure => simp [intOf]; omega
            · have htez : ¬ (t : Int) ≤ (en : Int) := by omega
              have hlive := live_k K wr (hLd.below hW.ma.below)
              have hB := hW.ma.below
              clear hFk hW
              go_wp2_with (go_at_call 8; ((with_reducible refine hlive.mono ?_); rintro e W9 ⟨rfl, hB9⟩; have hB10 := hB.trans (hB9.mono hB.size)))
              go_ret
              exact ⟨rfl, hB10⟩
end Go.Proofs.YtmefdgmbpihdfaaDoor.Order
