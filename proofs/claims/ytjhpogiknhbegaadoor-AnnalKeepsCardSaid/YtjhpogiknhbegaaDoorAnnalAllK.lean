/- AnnalAll over the kit. -/
import Derived.Test.YtjhpogiknhbegaaDoorAnnalLive
import Derived.Test.YtjhpogiknhbegaaDoorAnnalRef
import Derived.Test.YtjhpogiknhbegaaDoorOutSame
import Derived.Test.YtjhpogiknhbegaaDoorEventIn
import Derived.Test.YtjhpogiknhbegaaDoorFlat
import Derived.Test.YtjhpogiknhbegaaDoorRegionMore
import Derived.Lib.MinMax
set_option linter.unusedSimpArgs false
set_option linter.unusedVariables false
namespace Go.Proofs.YtjhpogiknhbegaaDoor.Annal
open Go.RowKit Go.ChangeShapes
open Alarm (Ot otS noOt ot_cells)
/-- Numbers of 64 bits. -/
def OtOk (o : Ot) : Prop := (-9223372036854775808 ≤ o.1 ∧ o.1 ≤ 9223372036854775807) ∧ (-9223372036854775808 ≤ o.2.1 ∧ o.2.1 ≤ 9223372036854775807) ∧ (-9223372036854775808 ≤ o.2.2.1 ∧ o.2.2.1 ≤ 9223372036854775807) ∧ (-9223372036854775808 ≤ o.2.2.2 ∧ o.2.2.2 ≤ 9223372036854775807)
theorem ot_dec (vs : List Value) (h : Row.Oks [.int .i64, .int .i64, .int .i64, .int .i64] vs) : ∃ z : Ot, otS.enc z = vs ∧ OtOk z := by
  obtain ⟨v1, r1, rfl, ⟨n1, rfl, w1⟩, h1⟩ := Row.oks_cons h
  obtain ⟨v2, r2, rfl, ⟨n2, rfl, w2⟩, h2⟩ := Row.oks_cons h1
  obtain ⟨v3, r3, rfl, ⟨n3, rfl, w3⟩, h3⟩ := Row.oks_cons h2
  obtain ⟨v4, r4, rfl, ⟨n4, rfl, w4⟩, h4⟩ := Row.oks_cons h3
  obtain rfl := Row.oks_nil h4
  exact ⟨(n1, n2, n3, n4), rfl, bounds_i64 w1, bounds_i64 w2, bounds_i64 w3, bounds_i64 w4⟩
theorem take_next {l : List Ot} {k : Nat} (h : k < l.length) : l.take (k + 1) = l.take k ++ [l.getD k noOt] := by
  rw [List.take_succ_eq_append_getElem h, List.getD_eq_getElem?_getD, List.getElem?_eq_getElem h, Option.getD_some]
theorem last_end (l : List Ot) (n : Nat) (h : n ≤ (keptA l).length) : lastA l n = l.drop (l.length - n) ∧ (lastA l n).length = n := by
  have h1 := kept_len l
  refine ⟨?_, by rw [last_len, Int.toNat_natCast]; omega⟩
  unfold lastA
  rw [h1, Int.toNat_natCast]
  unfold keptA
  rw [List.drop_drop, show l.length - 64 + (min l.length 64 - n) = l.length - n by omega]
set_option maxRecDepth 100000 in
set_option maxHeartbeats 4000000 in
theorem all_k {Ann : World → Nat → List Nat → List Ot → Prop} (K : AnnalKit Ann) (a0 : Option Addr) (len0 cap0 : Nat) (z0 : List Ot) (ct : Nat) (hct : ct < 256) (w : World) (hTb : Tab w) (hF : Row.IsFlat otS OtOk w a0 len0 cap0 z0) :
    Calls Tryd.prog 4 #[.slice a0 len0 cap0, .int .u8 (ct : Nat)] w fun e w' => e = .returned (.bool true) ∧ Below w.heap.size w w' := by
  have hli := fun W (hB : Below w.heap.size w W) => live_k K W (hTb.below hB)
  have hle := hF.le
  have hmx := hF.max
  obtain ⟨m, hm⟩ : ∃ m, min len0 300 = m := ⟨_, rfl⟩
  have hm1 : m ≤ 300 ∧ m ≤ len0 ∧ m ≤ cap0 := by omega
  have hmin : min (len0 : Int) 300 = (m : Int) := by omega
  have hmz : (m : Int) ≤ (cap0 : Int) ∧ (m : Int) ≤ 300 := by omega
  have hv := hF.row.take m hm1.2.1
  have hfar : 0 < m → ∀ x, a0 = some x → x.block < w.heap.size := fun h0 x hx => hF.far (by omega) x hx
  obtain ⟨L, hLe⟩ : ∃ L, z0.take m = L := ⟨_, rfl⟩
  rw [hLe] at hv
  have hlen := hv.len_
  have hna := K.new_any w hTb
  have hnb' := fun W (hB : Below w.heap.size w W) => K.new_any W (hTb.below hB)
  clear hTb
  have HLN := Lib.hid hlen
  have HF := Lib.hid hfar
  clear hm hLe hF hlen hfar
  go_enter Tryd.func4, Tryd.ntmps4
  go_wp2_with (first
    | (go_at_call 5; ((with_reducible refine hna.mono ?_); rintro e W1 ⟨b, S, rfl, hA1, hf1, hB1⟩; have hM1 : Ma Ann w b S [] W1 := ⟨hA1, hB1, hf1⟩; have hnb := hnb' W1 hB1; have hSl := (K.lt hA1).2; clear hna hnb'))
    | (go_at_call 5; ((with_reducible refine hnb.mono ?_); rintro e W2 ⟨c, T, rfl, hA2, hf2, hB2⟩; have hM2 := hM1.later K hB2; have hN2 : Ma Ann w c T [] W2 := ⟨hA2, hM1.below.trans (hB2.mono hM1.below.size), fun k hk => Nat.le_trans hM1.below.size (hf2 k hk)⟩; have hST : ∀ k ∈ S, k ∉ T := (fun k hk hk2 => by have h1 := hSl k hk; have h2 := hf2 k hk2; omega); have had := K.add_any W2 b S [] a0 m cap0 L hM2.ann (hv.below hM2.below) hm1.2.2 hmx (by simp; omega) (fun h0 x hx hk => by have h1 := HF.out h0 x hx; have h2 := hM2.far _ hk; omega); clear hnb hM1 hA1 hf1 hA2 hf2 hB1 hSl))
    | (go_at_call 6; ((with_reducible refine had.mono ?_); rintro e W3 ⟨rfl, hA3, hK3⟩; have hM3 := hM2.kept hA3 hK3; have hN3 := hN2.beside K hK3 hM2.far (fun k hk hk2 => hST k hk2 hk); clear hM2 hN2 had hA3 hK3)))
  rw [List.nil_append] at hM3
  go_loopw [23] (fun i wr => ∃ k : Nat, k ≤ m ∧ i = .int .i64 (k : Nat) ∧ Ma Ann w b S L wr ∧ Ma Ann w c T (L.take k) wr) (fun i _ => m - (intOf i).toNat)
  case atStart => exact ⟨0, by omega, rfl, hM3, by rw [List.take_zero]; exact hN3⟩
  case round =>
    clear hM3 hN3
    obtain ⟨k, hk, rfl, hM, hN⟩ := hrel
    by_cases hkm : k < m
    · obtain ⟨x, rfl, -⟩ := hv.cells (by omega)
      obtain ⟨x0, x1, x2, x3⟩ := ot_cells (hv.below hM.below) k hkm
      have hnx := take_next (l := L) (k := k) (by rw [HLN.out]; exact hkm)
      have htl : (L.take k).length = k := by rw [List.length_take, HLN.out]; omega
      have hkp := kept_len (L.take k ++ [L.getD k noOt])
      have htl2 : (L.take k ++ [L.getD k noOt]).length = k + 1 := by rw [List.length_append, htl]; rfl
      generalize L.getD k noOt = o at *
      obtain ⟨o0, o1, o2, o3⟩ := o
      dsimp only at x0 x1 x2 x3
      have hMa := hM.alloc K (.cells #[.int .i64 o0, .int .i64 o1, .int .i64 o2, .int .i64 o3] 28)
      have hNa := hN.alloc K (.cells #[.int .i64 o0, .int .i64 o1, .int .i64 o2, .int .i64 o3] 28)
      have hX := Has.new wr 28 #[.int .i64 o0, .int .i64 o1, .int .i64 o2, .int .i64 o3]
      have had := hNa.add_one K (o0, o1, o2, o3) 1 (by omega) (by omega) (by rw [htl]; omega)
      dsimp only at had
      have hln := fun W h => K.len_any W c T (L.take k ++ [(o0, o1, o2, o3)]) h
      have hdr := fun W h => K.dropped_any W c T (L.take k ++ [(o0, o1, o2, o3)]) h
      rw [htl2] at hdr hkp
      generalize (keptA (L.take k ++ [(o0, o1, o2, o3)])).length = pp at *
      obtain ⟨qq, hqq⟩ : ∃ qq, k + 1 - pp = qq := ⟨_, rfl⟩
      rw [hqq] at hdr
      have hsum : (pp : Int) + (qq : Int) = (k : Int) + 1 := by omega
      have hpz : (pp : Int) ≤ 64 ∧ (qq : Int) ≤ 400 := by omega
      have hkz : (k : Int) < (m : Int) := by omega
      have HNX := Lib.hid hnx
      clear hM hN hnx htl hkp htl2 hqq
      generalize L.take k ++ [(o0, o1, o2, o3)] = L2 at *
      have hs8 : (wr.alloc (.cells #[.int .i64 o0, .int .i64 o1, .int .i64 o2, .int .i64 o3] 28)).heap.size = wr.heap.size + 1 := World.size_alloc _ _
      rw [hs8] at had
      go_wp2_with (first
        | (go_at_call 6; ((with_reducible refine had.mono ?_); rintro e W4 ⟨rfl, hN4, hK4⟩; have hM4 := hMa.beside K hK4 hNa.far hST; clear hMa hNa had hK4))
        | (go_at_call 10; ((with_reducible refine (hln _ hN4.ann).mono ?_); rintro e W5 ⟨rfl, hz5⟩; have hN5 : Ma Ann w c T L2 W5 := hN4.later K (by obtain ⟨z, rfl⟩ := hz5; exact below_drewN (Below.refl _ _) z); have hM5 : Ma Ann w b S L W5 := hM4.later K (by obtain ⟨z, rfl⟩ := hz5; exact below_drewN (Below.refl _ _) z); clear hz5 hM4 hN4))
        | (go_at_call 11; ((with_reducible refine (hdr _ hN5.ann).mono ?_); rintro e W6 ⟨rfl, hz6⟩; have hN6 : Ma Ann w c T L2 W6 := hN5.later K (by obtain ⟨z, rfl⟩ := hz6; exact below_drewN (Below.refl _ _) z); have hM6 : Ma Ann w b S L W6 := hM5.later K (by obtain ⟨z, rfl⟩ := hz6; exact below_drewN (Below.refl _ _) z); clear hz6 hM5 hN5)))
      go_roundw
      case rel => exact ⟨k + 1, by omega, by go_num, hM6, by rw [HNX.out]; exact hN6⟩
      case measure => simp [intOf]; omega
    · obtain rfl : k = m := by omega
      rw [List.take_of_length_le (by rw [HLN.out]; exact Nat.le_refl _)] at hN
      have hkz : ¬ (k : Int) < (k : Int) := by omega
      obtain ⟨kl, hkl⟩ : ∃ kl, min k 64 = kl := ⟨_, rfl⟩
      have hkp : (keptA L).length = kl := by rw [kept_len, HLN.out, hkl]
      have hkm1 : min (k : Int) 64 = (kl : Int) := by omega
      have hl1 := last_end L kl (by omega)
      rw [HLN.out] at hl1
      have hls := fun W B U h => K.last_any W B U L (kl : Int) h ⟨by omega, by omega⟩
      rw [hl1.2, hl1.1] at hls
      obtain ⟨qq, hqq⟩ : ∃ qq, k - kl = qq := ⟨_, rfl⟩
      rw [hqq] at hls hl1
      have hqz : (k : Int) - (kl : Int) = (qq : Int) := by omega
      have hqw : IntKind.i64.wrap (qq : Int) = (qq : Int) := by rw [IntKind.wrap_i64]; omega
      obtain ⟨E, hE1, hE2, hE3⟩ := slice_on a0 k cap0 qq (by omega) (by omega)
      have hEv := hE1 w L hv
      rw [show k - qq = kl by omega] at hEv hE3
      have hln := fun W h => K.len_any W b S L h
      rw [hkp] at hln
      have hkb : kl ≤ 64 ∧ kl ≤ k := by omega
      have hkbz : (kl : Int) ≤ 64 := by omega
      clear hkl hqq hE1 hE2 hl1
      go_wp2_with (first
        | (go_at_call 10; ((with_reducible refine (hln _ hM.ann).mono ?_); rintro e W5 ⟨rfl, hz5⟩; have hN5 : Ma Ann w c T L W5 := hN.later K (by obtain ⟨z, rfl⟩ := hz5; exact below_drewN (Below.refl _ _) z); have hM5 : Ma Ann w b S L W5 := hM.later K (by obtain ⟨z, rfl⟩ := hz5; exact below_drewN (Below.refl _ _) z); clear hz5 hM hN)))
      refine Reg.begin_ (S := fun _ => True) (by kernel_rfl) (by trivial) (fun hHeld => ?_)
      have hMd : Ma Ann w b S L W5.drew := hM5.later K (below_drewN (Below.refl _ _) 1)
      have hNd : Ma Ann w c T L W5.drew := hN5.later K (below_drewN (Below.refl _ _) 1)
      clear hM5 hN5
      generalize W5.drew = Wd at *
      refine Reg.take (i := 0) (v := ?v1) rfl (by kernel_rfl) (by kernel_rfl) (by kernel_rfl) (by rfl) ?hv1 (by assumption) ?rest1
      case hv1 => first | (intro w hSw; (try dsimp only at hSw); go_simp; done) | (intro w hSw; (try dsimp only at hSw); go_simp; with_reducible rfl)
      (try simp only [Act.put, List.setIfInBounds_toArray, List.set_cons_zero, List.set_cons_succ])
      refine Reg.take (i := 1) (v := ?v2) rfl (by kernel_rfl) (by kernel_rfl) (by kernel_rfl) (by rfl) ?hv2 (by assumption) ?rest2
      case hv2 => first | (intro w hSw; (try dsimp only at hSw); go_simp; done) | (intro w hSw; (try dsimp only at hSw); go_simp; with_reducible rfl)
      (try simp only [Act.put, List.setIfInBounds_toArray, List.set_cons_zero, List.set_cons_succ])
      refine Reg.take (i := 2) (v := ?v3) rfl (by kernel_rfl) (by kernel_rfl) (by kernel_rfl) (by rfl) ?hv3 (by assumption) ?rest3
      case hv3 => first | (intro w hSw; (try dsimp only at hSw); go_simp; done) | (intro w hSw; (try dsimp only at hSw); go_simp; with_reducible rfl)
      (try simp only [Act.put, List.setIfInBounds_toArray, List.set_cons_zero, List.set_cons_succ])
      refine Reg.take (i := 3) (v := ?v4) rfl (by kernel_rfl) (by kernel_rfl) (by kernel_rfl) (by rfl) ?hv4 (by assumption) ?rest4
      case hv4 => first | (intro w hSw; (try dsimp only at hSw); go_simp; done) | (intro w hSw; (try dsimp only at hSw); go_simp; with_reducible rfl)
      (try simp only [Act.put, List.setIfInBounds_toArray, List.set_cons_zero, List.set_cons_succ])
      refine Reg.take (i := 4) (v := ?v5) rfl (by kernel_rfl) (by kernel_rfl) (by kernel_rfl) (by rfl) ?hv5 (by assumption) ?rest5
      case hv5 => first | (intro w hSw; (try dsimp only at hSw); go_simp; done) | (intro w hSw; (try dsimp only at hSw); go_simp; with_reducible rfl)
      (try simp only [Act.put, List.setIfInBounds_toArray, List.set_cons_zero, List.set_cons_succ])
      refine Reg.take (i := 5) (v := ?v6) rfl (by kernel_rfl) (by kernel_rfl) (by kernel_rfl) (by rfl) ?hv6 (by assumption) ?rest6
      case hv6 => first | (intro w hSw; (try dsimp only at hSw); go_simp; done) | (intro w hSw; (try dsimp only at hSw); go_simp; with_reducible rfl)
      (try simp only [Act.put, List.setIfInBounds_toArray, List.set_cons_zero, List.set_cons_succ])
      refine Reg.take (i := 6) (v := ?v7) rfl (by kernel_rfl) (by kernel_rfl) (by kernel_rfl) (by rfl) ?hv7 (by assumption) ?rest7
      case hv7 => first | (intro w hSw; (try dsimp only at hSw); go_simp; done) | (intro w hSw; (try dsimp only at hSw); go_simp; with_reducible rfl)
      (try simp only [Act.put, List.setIfInBounds_toArray, List.set_cons_zero, List.set_cons_succ])
      refine Reg.take (i := 7) (v := ?v8) rfl (by kernel_rfl) (by kernel_rfl) (by kernel_rfl) (by rfl) ?hv8 (by assumption) ?rest8
      case hv8 => first | (intro w hSw; (try dsimp only at hSw); go_simp; done) | (intro w hSw; (try dsimp only at hSw); go_simp; with_reducible rfl)
      (try simp only [Act.put, List.setIfInBounds_toArray, List.set_cons_zero, List.set_cons_succ])
      refine Reg.take (i := 9) (v := ?v9) rfl (by kernel_rfl) (by kernel_rfl) (by kernel_rfl) (by rfl) ?hv9 (by assumption) ?rest9
      case hv9 => first | (intro w hSw; (try dsimp only at hSw); go_simp; done) | (intro w hSw; (try dsimp only at hSw); go_simp; with_reducible rfl)
      (try simp only [Act.put, List.setIfInBounds_toArray, List.set_cons_zero, List.set_cons_succ])
      refine Reg.take (i := 10) (v := ?v10) rfl (by kernel_rfl) (by kernel_rfl) (by kernel_rfl) (by rfl) ?hv10 (by assumption) ?rest10
      case hv10 => first | (intro w hSw; (try dsimp only at hSw); go_simp; done) | (intro w hSw; (try dsimp only at hSw); go_simp; with_reducible rfl)
      (try simp only [Act.put, List.setIfInBounds_toArray, List.set_cons_zero, List.set_cons_succ])
      refine Reg.take (i := 11) (v := ?v11) rfl (by kernel_rfl) (by kernel_rfl) (by kernel_rfl) (by rfl) ?hv11 (by assumption) ?rest11
      case hv11 => first | (intro w hSw; (try dsimp only at hSw); go_simp; done) | (intro w hSw; (try dsimp only at hSw); go_simp; with_reducible rfl)
      (try simp only [Act.put, List.setIfInBounds_toArray, List.set_cons_zero, List.set_cons_succ])
      refine Reg.take (i := 12) (v := ?v12) rfl (by kernel_rfl) (by kernel_rfl) (by kernel_rfl) (by rfl) ?hv12 (by assumption) ?rest12
      case hv12 => first | (intro w hSw; (try dsimp only at hSw); go_simp; done) | (intro w hSw; (try dsimp only at hSw); go_simp; with_reducible rfl)
      (try simp only [Act.put, List.setIfInBounds_toArray, List.set_cons_zero, List.set_cons_succ])
      refine Reg.take (i := 13) (v := ?v13) rfl (by kernel_rfl) (by kernel_rfl) (by kernel_rfl) (by rfl) ?hv13 (by assumption) ?rest13
      case hv13 => first | (intro w hSw; (try dsimp only at hSw); go_simp; done) | (intro w hSw; (try dsimp only at hSw); go_simp; with_reducible rfl)
      (try simp only [Act.put, List.setIfInBounds_toArray, List.set_cons_zero, List.set_cons_succ])
      refine Reg.take (i := 14) (v := ?v14) rfl (by kernel_rfl) (by kernel_rfl) (by kernel_rfl) (by rfl) ?hv14 (by assumption) ?rest14
      case hv14 => first | (intro w hSw; (try dsimp only at hSw); go_simp; done) | (intro w hSw; (try dsimp only at hSw); go_simp; with_reducible rfl)
      (try simp only [Act.put, List.setIfInBounds_toArray, List.set_cons_zero, List.set_cons_succ])
      refine Reg.call (i := 8) rfl (by kernel_rfl) (by rfl) ?_
      intro K' hK
      go_simp
      go_at_call 13
      (with_reducible refine (hls Wd b S hMd.ann).mono ?_)
      rintro e Wa ⟨A7, c7, rfl, hV7, hf7, hB7⟩
      have hMa := hMd.later K hB7
      have hNa := hNd.later K hB7
      refine hK.out _ _ (by trivial) (fun hHeld => ?_)
      clear hK K'
      (try simp only [Act.put, List.setIfInBounds_toArray, List.set_cons_zero, List.set_cons_succ])
      clear hMd hNd hB7
      have hsm := Alarm.same_yes A7 E kl c7 (cap0 - qq) (L.drop qq) Wa hV7 (hEv.below hMa.below) (by omega)
      refine Reg.call (i := 15) rfl (by kernel_rfl) (by rfl) ?_
      intro K' hK
      go_simp
      go_at_call 12
      (with_reducible refine hsm.mono ?_)
      rintro e Wb ⟨rfl, zz, rfl⟩
      have hMb := hMa.later K (below_drewN (Below.refl _ _) zz)
      have hNb := hNa.later K (below_drewN (Below.refl _ _) zz)
      refine hK.out _ _ (by trivial) (fun hHeld => ?_)
      clear hK K'
      (try simp only [Act.put, List.setIfInBounds_toArray, List.set_cons_zero, List.set_cons_succ])
      clear hMa hNa hV7 hf7 hsm
      generalize Wa.drewN zz = Wb at *
      refine Reg.take (i := 16) (v := ?v15) rfl (by kernel_rfl) (by kernel_rfl) (by kernel_rfl) (by rfl) ?hv15 (by assumption) ?rest15
      case hv15 => first | (intro w hSw; (try dsimp only at hSw); go_simp; done) | (intro w hSw; (try dsimp only at hSw); go_simp; with_reducible rfl)
      (try simp only [Act.put, List.setIfInBounds_toArray, List.set_cons_zero, List.set_cons_succ])
      refine Reg.take (i := 17) (v := ?v16) rfl (by kernel_rfl) (by kernel_rfl) (by kernel_rfl) (by rfl) ?hv16 (by assumption) ?rest16
      case hv16 => first | (intro w hSw; (try dsimp only at hSw); go_simp; done) | (intro w hSw; (try dsimp only at hSw); go_simp; with_reducible rfl)
      (try simp only [Act.put, List.setIfInBounds_toArray, List.set_cons_zero, List.set_cons_succ])
      refine Reg.take (i := 18) (v := ?v17) rfl (by kernel_rfl) (by kernel_rfl) (by kernel_rfl) (by rfl) ?hv17 (by assumption) ?rest17
      case hv17 => first | (intro w hSw; (try dsimp only at hSw); go_simp; done) | (intro w hSw; (try dsimp only at hSw); go_simp; with_reducible rfl)
      (try simp only [Act.put, List.setIfInBounds_toArray, List.set_cons_zero, List.set_cons_succ])
      refine Reg.take (i := 19) (v := ?v18) rfl (by kernel_rfl) (by kernel_rfl) (by kernel_rfl) (by rfl) ?hv18 (by assumption) ?rest18
      case hv18 => first | (intro w hSw; (try dsimp only at hSw); go_simp; done) | (intro w hSw; (try dsimp only at hSw); go_simp; with_reducible rfl)
      (try simp only [Act.put, List.setIfInBounds_toArray, List.set_cons_zero, List.set_cons_succ])
      refine Reg.take (i := 20) (v := ?v19) rfl (by kernel_rfl) (by kernel_rfl) (by kernel_rfl) (by rfl) ?hv19 (by assumption) ?rest19
      case hv19 => first | (intro w hSw; (try dsimp only at hSw); go_simp; done) | (intro w hSw; (try dsimp only at hSw); go_simp; with_reducible rfl)
      (try simp only [Act.put, List.setIfInBounds_toArray, List.set_cons_zero, List.set_cons_succ])
      refine Reg.take (i := 22) (v := ?v20) rfl (by kernel_rfl) (by kernel_rfl) (by kernel_rfl) (by rfl) ?hv20 (by assumption) ?rest20
      case hv20 => first | (intro w hSw; (try dsimp only at hSw); go_simp; done) | (intro w hSw; (try dsimp only at hSw); go_simp; with_reducible rfl)
      (try simp only [Act.put, List.setIfInBounds_toArray, List.set_cons_zero, List.set_cons_succ])
      refine Reg.take (i := 23) (v := ?v21) rfl (by kernel_rfl) (by kernel_rfl) (by kernel_rfl) (by rfl) ?hv21 (by assumption) ?rest21
      case hv21 => first | (intro w hSw; (try dsimp only at hSw); go_simp; done) | (intro w hSw; (try dsimp only at hSw); go_simp; with_reducible rfl)
      (try simp only [Act.put, List.setIfInBounds_toArray, List.set_cons_zero, List.set_cons_succ])
      refine Reg.take (i := 24) (v := ?v22) rfl (by kernel_rfl) (by kernel_rfl) (by kernel_rfl) (by rfl) ?hv22 (by assumption) ?rest22
      case hv22 => first | (intro w hSw; (try dsimp only at hSw); go_simp; done) | (intro w hSw; (try dsimp only at hSw); go_simp; with_reducible rfl)
      (try simp only [Act.put, List.setIfInBounds_toArray, List.set_cons_zero, List.set_cons_succ])
      refine Reg.take (i := 25) (v := ?v23) rfl (by kernel_rfl) (by kernel_rfl) (by kernel_rfl) (by rfl) ?hv23 (by assumption) ?rest23
      case hv23 => first | (intro w hSw; (try dsimp only at hSw); go_simp; done) | (intro w hSw; (try dsimp only at hSw); go_simp; with_reducible rfl)
      (try simp only [Act.put, List.setIfInBounds_toArray, List.set_cons_zero, List.set_cons_succ])
      refine Reg.take (i := 26) (v := ?v24) rfl (by kernel_rfl) (by kernel_rfl) (by kernel_rfl) (by rfl) ?hv24 (by assumption) ?rest24
      case hv24 => first | (intro w hSw; (try dsimp only at hSw); go_simp; done) | (intro w hSw; (try dsimp only at hSw); go_simp; with_reducible rfl)
      (try simp only [Act.put, List.setIfInBounds_toArray, List.set_cons_zero, List.set_cons_succ])
      refine Reg.take (i := 27) (v := ?v25) rfl (by kernel_rfl) (by kernel_rfl) (by kernel_rfl) (by rfl) ?hv25 (by assumption) ?rest25
      case hv25 => first | (intro w hSw; (try dsimp only at hSw); go_simp; done) | (intro w hSw; (try dsimp only at hSw); go_simp; with_reducible rfl)
      (try simp only [Act.put, List.setIfInBounds_toArray, List.set_cons_zero, List.set_cons_succ])
      refine Reg.call (i := 21) rfl (by kernel_rfl) (by rfl) ?_
      intro K' hK
      go_simp
      go_at_call 13
      (with_reducible refine (hls Wb c T hNb.ann).mono ?_)
      rintro e Wc ⟨A8, c8, rfl, hV8, hf8, hB8⟩
      have hMc := hMb.later K hB8
      refine hK.out _ _ (by trivial) (fun hHeld => ?_)
      clear hK K'
      (try simp only [Act.put, List.setIfInBounds_toArray, List.set_cons_zero, List.set_cons_succ])
      clear hMb hNb hB8
      have hsm := Alarm.same_yes A8 E kl c8 (cap0 - qq) (L.drop qq) Wc hV8 (hEv.below hMc.below) (by omega)
      refine Reg.call (i := 28) rfl (by kernel_rfl) (by rfl) ?_
      intro K' hK
      go_simp
      go_at_call 12
      (with_reducible refine hsm.mono ?_)
      rintro e We ⟨rfl, zz, rfl⟩
      have hMe := hMc.later K (below_drewN (Below.refl _ _) zz)
      refine hK.out _ _ (by trivial) (fun hHeld => ?_)
      clear hK K'
      (try simp only [Act.put, List.setIfInBounds_toArray, List.set_cons_zero, List.set_cons_succ])
      clear hMc hV8 hf8 hsm hls hEv hE3
      generalize Wc.drewN zz = We at *
      refine Reg.take (i := 29) (v := ?v26) rfl (by kernel_rfl) (by kernel_rfl) (by kernel_rfl) (by rfl) ?hv26 (by assumption) ?rest26
      case hv26 => first | (intro w hSw; (try dsimp only at hSw); go_simp; done) | (intro w hSw; (try dsimp only at hSw); go_simp; with_reducible rfl)
      (try simp only [Act.put, List.setIfInBounds_toArray, List.set_cons_zero, List.set_cons_succ])
      refine Reg.take (i := 30) (v := ?v27) rfl (by kernel_rfl) (by kernel_rfl) (by kernel_rfl) (by rfl) ?hv27 (by assumption) ?rest27
      case hv27 => first | (intro w hSw; (try dsimp only at hSw); go_simp; done) | (intro w hSw; (try dsimp only at hSw); go_simp; with_reducible rfl)
      (try simp only [Act.put, List.setIfInBounds_toArray, List.set_cons_zero, List.set_cons_succ])
      refine Reg.done (by kernel_rfl) ?_ _
      clear hHeld
      obtain ⟨nn, hnn⟩ : ∃ nn, min ct kl = nn := ⟨_, rfl⟩
      have hmn : min (ct : Int) (kl : Int) = (nn : Int) := by omega
      have hl1 := last_end L nn (by omega)
      rw [HLN.out] at hl1
      have hls := fun W h => K.last_any W b S L (nn : Int) h ⟨by omega, by omega⟩
      rw [hl1.2, hl1.1] at hls
      obtain ⟨q2, hq2⟩ : ∃ q2, k - nn = q2 := ⟨_, rfl⟩
      rw [hq2] at hls hl1
      have hq2z : (k : Int) - (nn : Int) = (q2 : Int) := by omega
      have hq2w : IntKind.i64.wrap (q2 : Int) = (q2 : Int) := by rw [IntKind.wrap_i64]; omega
      obtain ⟨E2, hE1, hE2, hE3⟩ := slice_on a0 k cap0 q2 (by omega) (by omega)
      have hEv := hE1 w L hv
      rw [show k - q2 = nn by omega] at hEv hE3
      have hnz : nn ≤ 64 := by omega
      have hctz : (ct : Int) < 256 := by omega
      have hwc : IntKind.i64.wrap (ct : Int) = (ct : Int) := by rw [IntKind.wrap_i64]; omega
      clear hnn hq2 hE1 hE2 hl1 hqz hkm1
      go_wp2
      refine Reg.begin_ (S := fun _ => True) (by kernel_rfl) (by trivial) (fun hHeld => ?_)
      have hMd : Ma Ann w b S L We.drew := hMe.later K (below_drewN (Below.refl _ _) 1)
      clear hMe
      generalize We.drew = Wd2 at *
      refine Reg.take (i := 0) (v := ?v28) rfl (by kernel_rfl) (by kernel_rfl) (by kernel_rfl) (by rfl) ?hv28 (by assumption) ?rest28
      case hv28 => first | (intro w hSw; (try dsimp only at hSw); go_simp; done) | (intro w hSw; (try dsimp only at hSw); go_simp; with_reducible rfl)
      (try simp only [Act.put, List.setIfInBounds_toArray, List.set_cons_zero, List.set_cons_succ])
      refine Reg.take (i := 1) (v := ?v29) rfl (by kernel_rfl) (by kernel_rfl) (by kernel_rfl) (by rfl) ?hv29 (by assumption) ?rest29
      case hv29 => first | (intro w hSw; (try dsimp only at hSw); go_simp; done) | (intro w hSw; (try dsimp only at hSw); go_simp; with_reducible rfl)
      (try simp only [Act.put, List.setIfInBounds_toArray, List.set_cons_zero, List.set_cons_succ])
      refine Reg.take (i := 3) (v := ?v30) rfl (by kernel_rfl) (by kernel_rfl) (by kernel_rfl) (by rfl) ?hv30 (by assumption) ?rest30
      case hv30 => first | (intro w hSw; (try dsimp only at hSw); go_simp; done) | (intro w hSw; (try dsimp only at hSw); go_simp; with_reducible rfl)
      (try simp only [Act.put, List.setIfInBounds_toArray, List.set_cons_zero, List.set_cons_succ])
      refine Reg.take (i := 4) (v := ?v31) rfl (by kernel_rfl) (by kernel_rfl) (by kernel_rfl) (by rfl) ?hv31 (by assumption) ?rest31
      case hv31 => first | (intro w hSw; (try dsimp only at hSw); go_simp; done) | (intro w hSw; (try dsimp only at hSw); go_simp; with_reducible rfl)
      (try simp only [Act.put, List.setIfInBounds_toArray, List.set_cons_zero, List.set_cons_succ])
      refine Reg.take (i := 5) (v := ?v32) rfl (by kernel_rfl) (by kernel_rfl) (by kernel_rfl) (by rfl) ?hv32 (by assumption) ?rest32
      case hv32 => first | (intro w hSw; (try dsimp only at hSw); go_simp; done) | (intro w hSw; (try dsimp only at hSw); go_simp; with_reducible rfl)
      (try simp only [Act.put, List.setIfInBounds_toArray, List.set_cons_zero, List.set_cons_succ])
      refine Reg.take (i := 6) (v := ?v33) rfl (by kernel_rfl) (by kernel_rfl) (by kernel_rfl) (by rfl) ?hv33 (by assumption) ?rest33
      case hv33 => first | (intro w hSw; (try dsimp only at hSw); go_simp; done) | (intro w hSw; (try dsimp only at hSw); go_simp; with_reducible rfl)
      (try simp only [Act.put, List.setIfInBounds_toArray, List.set_cons_zero, List.set_cons_succ])
      refine Reg.take (i := 7) (v := ?v34) rfl (by kernel_rfl) (by kernel_rfl) (by kernel_rfl) (by rfl) ?hv34 (by assumption) ?rest34
      case hv34 => first | (intro w hSw; (try dsimp only at hSw); go_simp; done) | (intro w hSw; (try dsimp only at hSw); go_simp; with_reducible rfl)
      (try simp only [Act.put, List.setIfInBounds_toArray, List.set_cons_zero, List.set_cons_succ])
      refine Reg.take (i := 8) (v := ?v35) rfl (by kernel_rfl) (by kernel_rfl) (by kernel_rfl) (by rfl) ?hv35 (by assumption) ?rest35
      case hv35 => first | (intro w hSw; (try dsimp only at hSw); go_simp; done) | (intro w hSw; (try dsimp only at hSw); go_simp; with_reducible rfl)
      (try simp only [Act.put, List.setIfInBounds_toArray, List.set_cons_zero, List.set_cons_succ])
      refine Reg.call (i := 2) rfl (by kernel_rfl) (by rfl) ?_
      intro K' hK
      go_simp
      go_at_call 13
      (with_reducible refine (hls Wd2 hMd.ann).mono ?_)
      rintro e Wa2 ⟨A9, c9, rfl, hV9, hf9, hB9⟩
      have hMa := hMd.later K hB9
      refine hK.out _ _ (by trivial) (fun hHeld => ?_)
      clear hK K'
      (try simp only [Act.put, List.setIfInBounds_toArray, List.set_cons_zero, List.set_cons_succ])
      clear hMd hB9
      have hsm := Alarm.same_yes A9 E2 nn c9 (cap0 - q2) (L.drop q2) Wa2 hV9 (hEv.below hMa.below) (by omega)
      refine Reg.call (i := 9) rfl (by kernel_rfl) (by rfl) ?_
      intro K' hK
      go_simp
      go_at_call 12
      (with_reducible refine hsm.mono ?_)
      rintro e Wf ⟨rfl, zz, rfl⟩
      have hMf := hMa.later K (below_drewN (Below.refl _ _) zz)
      refine hK.out _ _ (by trivial) (fun hHeld => ?_)
      clear hK K'
      (try simp only [Act.put, List.setIfInBounds_toArray, List.set_cons_zero, List.set_cons_succ])
      clear hMa hV9 hf9 hsm hls hEv hE3
      generalize Wa2.drewN zz = Wf at *
      refine Reg.take (i := 10) (v := ?v36) rfl (by kernel_rfl) (by kernel_rfl) (by kernel_rfl) (by rfl) ?hv36 (by assumption) ?rest36
      case hv36 => first | (intro w hSw; (try dsimp only at hSw); go_simp; done) | (intro w hSw; (try dsimp only at hSw); go_simp; with_reducible rfl)
      (try simp only [Act.put, List.setIfInBounds_toArray, List.set_cons_zero, List.set_cons_succ])
      refine Reg.call (i := 11) rfl (by kernel_rfl) (by rfl) ?_
      intro K' hK
      go_simp
      go_at_call 17
      (with_reducible refine (hli Wf hMf.below).mono ?_)
      rintro e Wg ⟨rfl, hBg⟩
      have hMg := hMf.later K hBg
      refine hK.out _ _ (by trivial) (fun hHeld => ?_)
      clear hK K'
      (try simp only [Act.put, List.setIfInBounds_toArray, List.set_cons_zero, List.set_cons_succ])
      refine Reg.take (i := 12) (v := ?v37) rfl (by kernel_rfl) (by kernel_rfl) (by kernel_rfl) (by rfl) ?hv37 (by assumption) ?rest37
      case hv37 => first | (intro w hSw; (try dsimp only at hSw); go_simp; done) | (intro w hSw; (try dsimp only at hSw); go_simp; with_reducible rfl)
      (try simp only [Act.put, List.setIfInBounds_toArray, List.set_cons_zero, List.set_cons_succ])
      refine Reg.take (i := 13) (v := ?v38) rfl (by kernel_rfl) (by kernel_rfl) (by kernel_rfl) (by rfl) ?hv38 (by assumption) ?rest38
      case hv38 => first | (intro w hSw; (try dsimp only at hSw); go_simp; done) | (intro w hSw; (try dsimp only at hSw); go_simp; with_reducible rfl)
      (try simp only [Act.put, List.setIfInBounds_toArray, List.set_cons_zero, List.set_cons_succ])
      refine Reg.done (by kernel_rfl) ?_ _
      clear hHeld
      go_wp2
      go_ret
      exact ⟨rfl, hMg.below⟩
end Go.Proofs.YtjhpogiknhbegaaDoor.Annal
