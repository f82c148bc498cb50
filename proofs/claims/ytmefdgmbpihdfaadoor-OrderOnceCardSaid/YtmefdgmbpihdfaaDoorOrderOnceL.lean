/- OrderOnce over the kit. -/
import Derived.Test.YtmefdgmbpihdfaaDoorOrderOnceK
import Derived.Test.YtmefdgmbpihdfaaDoorOrderArgs
import Derived.Test.YtmefdgmbpihdfaaDoorOrderLive
import Derived.Test.YtmefdgmbpihdfaaDoorRowPut
import Derived.Test.YtmefdgmbpihdfaaDoorRegionMore
set_option linter.unusedSimpArgs false
set_option linter.unusedVariables false
namespace Go.Proofs.YtmefdgmbpihdfaaDoor.Order
open Go.RowKit
open Alarm (Or orS noOr or_cells)
open Txt
def boS : Row.Shape Bool := ⟨1, fun b => [.bool b], fun _ => rfl, by decide, fun p u hu => by
  simp at hu; subst hu; rfl⟩
theorem flat_bool (hd : List Bool) : Row.flat boS hd = hd.map Value.bool := by
  induction hd with
  | nil => rfl
  | cons x hd ih => rw [List.map_cons, ← ih]; rfl
theorem had_start (l : List Or) (h : ∀ o ∈ l, May o) : hadT l (-1) = List.replicate l.length false := by
  unfold hadT
  induction l with
  | nil => rfl
  | cons x l ih =>
    rw [List.map_cons, ih (fun o ho => h o (by simp [ho])), List.length_cons, List.replicate_succ, decide_eq_false (by have := (h x (by simp)).1; omega)]
set_option maxRecDepth 100000 in
set_option maxHeartbeats 4000000 in
theorem once_k {Que : World → Nat → St → Prop} (K : QueKit Que) (a0 : Option Addr) (len0 cap0 : Nat) (z0 : List Or) (a1 : Option Addr) (len1 cap1 : Nat) (ys : List Nat) (w : World) (hF : Row.IsFlat orS OrOk w a0 len0 cap0 z0) (hv1 : RU8.Vals w a1 len1 ys) (hb1 : RU8.Bytes ys) (hc1 : len1 ≤ cap1) (hc2 : cap1 ≤ 9223372036854775807) (hLd : Pows w) :
    Calls Tryd.prog 5 #[.slice a0 len0 cap0, .slice a1 len1 cap1] w fun e w' => e = .returned (.bool true) ∧ Below w.heap.size w w' := by
  have hmf : ∀ (fn : Fn) (first cap : Array Value) (W : World), (Instr.makeFunc fn first cap).run Tryd.prog W = .ok (.func fn first cap) W := fun _ _ _ _ => rfl
  have hv := hF.row
  have hle := hF.le
  have hmx := hF.max
  have hzl := hv.len_
  obtain ⟨m, hm⟩ : ∃ m, min len0 32 = m := ⟨_, rfl⟩
  have hm1 : m ≤ 32 ∧ m ≤ len0 := by omega
  have hm2 : min (len0 : Int) 32 = (m : Int) := by omega
  obtain ⟨m1, hmm⟩ : ∃ m1, min len1 100 = m1 := ⟨_, rfl⟩
  have hm3 : m1 ≤ 100 ∧ m1 ≤ len1 := by omega
  have hm4 : min (len1 : Int) 100 = (m1 : Int) := by omega
  have hnew := K.new_any (w.alloc (.cells #[.slice a0 len0 cap0] 39))
  have hfar := hF.far
  have hP2 := Has.new w 39 #[.slice a0 len0 cap0]
  have hB0 := (Below.refl w.heap.size w).alloc (Nat.le_refl _) (.cells #[.slice a0 len0 cap0] 39)
  clear hm hmm hF
  go_enter Tryd.func5, Tryd.ntmps5
  go_wp2_with (go_at_call 15; ((with_reducible refine hnew.mono ?_); rintro e W2 ⟨b, rfl, hQ, hfb, hB2⟩; have hP3 := hP2.below hB2 hP2.lt; have hB3 := hB0.trans (hB2.mono hB0.size); have hqb := hP2.lt; have hQl := K.lt hQ; have hP4 := hP3.alloc (.cells #[.pointer (some ⟨b, 0, none⟩)] 37); have hM : Mr Que w b st0 W2 := ⟨hQ, hB3, Nat.le_trans hB0.size hfb⟩; have hM4 := hM.alloc K (.cells #[.pointer (some ⟨b, 0, none⟩)] 37); have hP5 := Has.new W2 37 #[.pointer (some ⟨b, 0, none⟩)]; clear hnew hP2 hP3 hB0 hB2 hQ hM))
  have hmc : m ≤ cap0 := by omega
  have hbf := hM4.far
  have hS : w.heap.size ≠ W2.heap.size := by have := hP4.lt; have := hB3.size; have := World.size_alloc w (.cells #[.slice a0 len0 cap0] 39); omega
  have hwb : b ≠ w.heap.size := by have := World.size_alloc w (.cells #[.slice a0 len0 cap0] 39); omega
  have hp4 := hP4.cell 0
  have hp5 := hP5.cell 0
  refine Reg.begin_ (S := fun W => W.cell? ⟨W2.heap.size, 0, none⟩ = some (.pointer (some ⟨b, 0, none⟩)) ∧ W.cell? ⟨w.heap.size, 0, none⟩ = some (.slice a0 len0 cap0)) (by kernel_rfl) (by exact ⟨hp5, hp4⟩) (fun hHeld => ?_)
  have hM5 := hM4.later K (below_drewN (Below.refl _ _) 1)
  have hP6 := hP4.drewN 1
  have hP7 := hP5.drewN 1
  change Mr Que w b st0 (W2.alloc (.cells #[.pointer (some ⟨b, 0, none⟩)] 37)).drew at hM5
  change Has (W2.alloc (.cells #[.pointer (some ⟨b, 0, none⟩)] 37)).drew w.heap.size _ _ at hP6
  change Has (W2.alloc (.cells #[.pointer (some ⟨b, 0, none⟩)] 37)).drew W2.heap.size _ _ at hP7
  clear hM4 hP4 hP5 hp4 hp5 hB3
  generalize (W2.alloc (.cells #[.pointer (some ⟨b, 0, none⟩)] 37)).drew = W4 at *
  generalize hq5 : W2.heap.size = q5 at *
  have hbq5 : b ≠ q5 := by omega
  clear hq5 W2
  have hva : Row.Vals orS W4 a0 m (z0.take m) := (hv.take m hm1.2).below hM5.below
  have hput := K.put_any W4 b st0 a0 m cap0 (z0.take m) hM5.que hva (by omega) (fun h0 x hx => by have := hfar (by omega) x hx; omega)
  refine Reg.take (i := 0) (v := ?v1) rfl (by kernel_rfl) (by kernel_rfl) (by kernel_rfl) (by rfl) ?hv1 (by assumption) ?rest1
  case hv1 => first | (intro w hSw; (try dsimp only at hSw); go_simp; done) | (intro w hSw; (try dsimp only at hSw); go_simp; with_reducible rfl)
  (try simp only [Act.put, List.setIfInBounds_toArray, List.set_cons_zero, List.set_cons_succ])
  refine Reg.take (i := 1) (v := ?v2) rfl (by kernel_rfl) (by kernel_rfl) (by kernel_rfl) (by rfl) ?hv2 (by assumption) ?rest2
  case hv2 => first | (intro w hSw; (try dsimp only at hSw); go_simp; done) | (intro w hSw; (try dsimp only at hSw); go_simp; with_reducible rfl)
  (try simp only [Act.put, List.setIfInBounds_toArray, List.set_cons_zero, List.set_cons_succ])
  refine Reg.take (i := 2) (v := ?v3) rfl (by kernel_rfl) (by kernel_rfl) (by kernel_rfl) (by rfl) ?hv3 (by assumption) ?rest3
  case hv3 => first | (intro w hSw; (try dsimp only at hSw); go_simp; done) | (intro w hSw; (try dsimp only at hSw); go_simp; with_reducible rfl)
  (try simp only [Act.put, List.setIfInBounds_toArray, List.set_cons_zero, List.set_cons_succ])
  refine Reg.take (i := 3) (v := ?v4) rfl (by kernel_rfl) (by kernel_rfl) (by kernel_rfl) (by rfl) ?hv4 (by assumption) ?rest4
  case hv4 => first | (intro w hSw; (try dsimp only at hSw); go_simp; done) | (intro w hSw; (try dsimp only at hSw); go_simp; with_reducible rfl)
  (try simp only [Act.put, List.setIfInBounds_toArray, List.set_cons_zero, List.set_cons_succ])
  refine Reg.take (i := 4) (v := ?v5) rfl (by kernel_rfl) (by kernel_rfl) (by kernel_rfl) (by rfl) ?hv5 (by assumption) ?rest5
  case hv5 => first | (intro w hSw; (try dsimp only at hSw); go_simp; done) | (intro w hSw; (try dsimp only at hSw); go_simp; with_reducible rfl)
  (try simp only [Act.put, List.setIfInBounds_toArray, List.set_cons_zero, List.set_cons_succ])
  refine Reg.take (i := 5) (v := ?v6) rfl (by kernel_rfl) (by kernel_rfl) (by kernel_rfl) (by rfl) ?hv6 (by assumption) ?rest6
  case hv6 => first | (intro w hSw; (try dsimp only at hSw); go_simp; done) | (intro w hSw; (try dsimp only at hSw); go_simp; with_reducible rfl)
  (try simp only [Act.put, List.setIfInBounds_toArray, List.set_cons_zero, List.set_cons_succ])
  refine Reg.call (i := 6) rfl (by kernel_rfl) (by rfl) ?_
  intro K' hK
  go_simp
  go_at_call 17
  (with_reducible refine hput.mono ?_)
  rintro e W5 ⟨rfl, hQ5, hK5⟩
  have hM6 := hM5.kept hQ5 hK5
  have hP8 := hK5.has hP6 (by simp; exact Ne.symm hwb)
  have hP9 := hK5.has hP7 (by simp; exact Ne.symm hbq5)
  have hps := (puts_sorted [] (z0.take m))
  have hst0 : (⟨sortT [], 0⟩ : St) = st0 := rfl
  rw [hst0, List.nil_append] at hps
  obtain ⟨hps1, hps2⟩ := hps
  have hpl := puts_len (s := st0) (xs := z0.take m)
  have hpa := puts_all (s := st0) (xs := z0.take m)
  have hpb := puts_lt (s := st0) (xs := z0.take m)
  have hzm : (z0.take m).length = m := by rw [List.length_take]; omega
  rw [hzm] at hpl hpa hpb
  rw [hps1] at hM6
  generalize (putsT st0 (z0.take m)).2.1 = nn at *
  generalize (putsT st0 (z0.take m)).2.2 = er at *
  rw [List.take_take, Nat.min_eq_left hpl] at hM6 hps2
  clear hput hva hM5 hP6 hP7 hQ5 hK5 hps1 hst0 hzm
  refine hK.out _ _ (by exact ⟨hP9.cell 0, hP8.cell 0⟩) (fun hHeld => ?_)
  clear hK K'
  (try simp only [Act.put, List.setIfInBounds_toArray, List.set_cons_zero, List.set_cons_succ])
  refine Reg.take (i := 7) (v := ?v7) rfl (by kernel_rfl) (by kernel_rfl) (by kernel_rfl) (by rfl) ?hv7 (by assumption) ?rest7
  case hv7 => first | (intro w hSw; (try dsimp only at hSw); go_simp; done) | (intro w hSw; (try dsimp only at hSw); go_simp; with_reducible rfl)
  (try simp only [Act.put, List.setIfInBounds_toArray, List.set_cons_zero, List.set_cons_succ])
  refine Reg.take (i := 8) (v := ?v8) rfl (by kernel_rfl) (by kernel_rfl) (by kernel_rfl) (by rfl) ?hv8 (by assumption) ?rest8
  case hv8 => first | (intro w hSw; (try dsimp only at hSw); go_simp; done) | (intro w hSw; (try dsimp only at hSw); go_simp; with_reducible rfl)
  (try simp only [Act.put, List.setIfInBounds_toArray, List.set_cons_zero, List.set_cons_succ])
  refine Reg.take (i := 9) (v := ?v9) rfl (by kernel_rfl) (by kernel_rfl) (by kernel_rfl) (by rfl) ?hv9 (by assumption) ?rest9
  case hv9 => first | (intro w hSw; (try dsimp only at hSw); go_simp; done) | (intro w hSw; (try dsimp only at hSw); go_simp; with_reducible rfl)
  (try simp only [Act.put, List.setIfInBounds_toArray, List.set_cons_zero, List.set_cons_succ])
  refine Reg.take (i := 10) (v := ?v10) rfl (by kernel_rfl) (by kernel_rfl) (by kernel_rfl) (by rfl) ?hv10 (by assumption) ?rest10
  case hv10 => first | (intro w hSw; (try dsimp only at hSw); go_simp; done) | (intro w hSw; (try dsimp only at hSw); go_simp; with_reducible rfl)
  (try simp only [Act.put, List.setIfInBounds_toArray, List.set_cons_zero, List.set_cons_succ])
  refine Reg.take (i := 11) (v := ?v11) rfl (by kernel_rfl) (by kernel_rfl) (by kernel_rfl) (by rfl) ?hv11 (by assumption) ?rest11
  case hv11 => first | (intro w hSw; (try dsimp only at hSw); go_simp; done) | (intro w hSw; (try dsimp only at hSw); go_simp; with_reducible rfl)
  (try simp only [Act.put, List.setIfInBounds_toArray, List.set_cons_zero, List.set_cons_succ])
  refine Reg.done (by kernel_rfl) ?_ _
  clear hHeld
  obtain ⟨q, hq1⟩ : ∃ q, (er == 0) = q := ⟨_, rfl⟩
  have hq2 : ((nn : Int) == (m : Int)) = q := by
    rw [← hq1]
    by_cases h0 : er = 0
    · rw [hpa h0, h0]; simp
    · have := hpb h0
      have e1 : (er == 0) = false := by simpa using h0
      rw [e1]
      simp
      omega
  have hqq : (q != q) = false := by simp
  have hn0 : ¬ (nn : Int) < 0 := by omega
  have hn1 : ¬ (len0 : Int) < (nn : Int) := by omega
  have hn2 : (nn : Int) ≤ (cap0 : Int) := by omega
  have hn3 : nn ≤ cap0 := by omega
  have hmk := Row.run_make_of (S := boS) (P := Tryd.prog) false 56 4 (.bool false) 1 Tryd.underlying56 (by kernel_rfl) rfl (by omega) nn (by omega)
  rw [flat_bool] at hmk
  have p8 := hP8.cell 0
  have f8 := hP8.frozen 0
  clear hpa hpb
  go_wp2
  have hvn := hv.take nn (by omega)
  have hOn := On.start K (c := cap0) hM6 hP9 hP8 hvn (fun h0 x hx => hfar (by omega) x hx) hbq5 hwb hS (Nat.le_refl _)
  have hL0 : (z0.take nn).length = nn := hvn.len_
  rw [← hL0, ← had_start (z0.take nn) hps2, hL0] at hOn
  have hra := rest_all (z0.take nn) hps2
  have hrz := rest_none (z0.take nn) hps2
  obtain ⟨L, hLe⟩ : ∃ L, z0.take nn = L := ⟨_, rfl⟩
  rw [hLe] at hOn hra hrz
  have hO0 := (show ∀ W, On Que w q5 (W5.heap.size + 1 + 1) w.heap.size (W5.heap.size + 1) W5.heap.size b a0 nn cap0 L (-1) ⟨sortT L, 0⟩ (hadT L (-1)) W → On Que w q5 (W5.heap.size + 1 + 1) w.heap.size (W5.heap.size + 1) W5.heap.size b a0 nn cap0 L (-1) ⟨sortT (restT (-1) L), 0⟩ (hadT L (-1)) W from fun W h => by rw [hra]; exact h) _ hOn
  have hn32 : nn ≤ 32 := by omega
  have hyl := hv1.len_
  clear hOn hra hLe hL0 hvn hps2 hmk p8 f8 hP8 hP9 hM6 hq1 hq2 hqq hn0 hn1 hn2 hn3 hfar hv hle hmx hzl hm1 hm2 hmc hpl
  generalize (((W5.setCell ⟨w.heap.size, 0, none⟩ (.slice a0 nn cap0)).alloc (.cells (Array.replicate nn (.bool false)) 4)).alloc (.cells #[.slice (some ⟨W5.heap.size, 0, none⟩) nn nn] 56)).alloc (.cells #[.int .i64 (-1)] 2) = W9 at *
  generalize W5.heap.size + 1 + 1 = q9 at *
  generalize W5.heap.size + 1 = q8 at *
  generalize W5.heap.size = g at *
  go_loopw [11, 55] (fun at_ i wr => ∃ (k t : Nat) (last f : Int), k ≤ m1 ∧ i = .int .i64 (k : Nat) ∧ at_ = .int .i64 (t : Nat) ∧ last ≤ (t : Int) ∧ t ≤ 256 * k ∧ On Que w q5 q9 w.heap.size q8 g b a0 nn cap0 L last ⟨sortT (restT last L), f⟩ (hadT L last) wr) (fun _ i _ => m1 - (intOf i).toNat)
  case atStart => exact ⟨0, 0, -1, 0, by omega, rfl, rfl, by omega, by omega, hO0⟩
  case round =>
    clear hO0
    obtain ⟨k, t, last, f, hk, rfl, rfl, hlt, ht, hO⟩ := hrel
    by_cases hkm : k < m1
    · obtain ⟨x, rfl, hx⟩ := (hv1.below hO.mq.below).cells (by omega)
      have hc := hx k (by omega)
      obtain ⟨s, hs⟩ : ∃ s, ys.getD k 0 = s := ⟨_, rfl⟩
      rw [hs] at hc
      have hkl : k < ys.length := by omega
      have hsb : s < 256 := by
        refine hb1 s ?_
        rw [← hs, List.getD_eq_getElem?_getD, List.getElem?_eq_getElem hkl]
        exact List.getElem_mem _
      obtain ⟨s1, hs1⟩ : ∃ s1, 1 + s = s1 := ⟨_, rfl⟩
      obtain ⟨t2, ht2⟩ : ∃ t2, t + s1 = t2 := ⟨_, rfl⟩
      have hwg : IntKind.i64.wrap (s : Int) = (s : Int) := by rw [IntKind.wrap_i64]; omega
      have hz1 : (1 : Int) + (s : Int) = (s1 : Int) := by omega
      have hz2 : (t : Int) + (s1 : Int) = (t2 : Int) := by omega
      have hcl := once_c K (t2 : Int) hn32 (by omega) (by omega) hO
      have hkz : (k : Int) < (m1 : Int) := by omega
      have hsz : (s : Int) < 256 := by omega
      have hs1z : (s1 : Int) ≤ 256 := by omega
      have htz : (t : Int) ≤ 30000 := by omega
      have HT := Lib.hid (show t2 ≤ 256 * (k + 1) by omega)
      clear hx hs hkl hsb hs1 ht2 hO
      go_wp2_with (go_at_call 24; ((with_reducible refine hcl.mono ?_); rintro e W6 ⟨rfl, hO6⟩))
      go_roundw
      case rel => exact ⟨k + 1, t2, (t2 : Int), _, by omega, by go_num, by go_num, by omega, HT.out, hO6⟩
      case measure => simp [intOf]; omega
    · have hkz : ¬ (k : Int) < (m1 : Int) := by omega
      have hcl := once_c K 1099511627776 hn32 (by omega) (by omega) hO
      rw [hrz] at hcl
      clear hO
      go_wp2_with (first
        | (go_at_call 24; ((with_reducible refine hcl.mono ?_); rintro e W6 ⟨rfl, hO6⟩; have p5 := hO6.p5.cell 0; have hln := K.len_any W6 b _ hO6.mq.que; have hB6 := hO6.mq.below; have hlv := live_k K W6 (hLd.below hB6)))
        | (go_at_call 22; ((with_reducible refine hln.mono ?_); rintro e W7 ⟨rfl, rfl⟩))
        | (go_at_call 8; ((with_reducible refine hlv.mono ?_); rintro e W8 ⟨rfl, hB8⟩; have hB9 := hB6.trans (hB8.mono hB6.size))))
      go_ret
      exact ⟨rfl, hB9⟩
end Go.Proofs.YtmefdgmbpihdfaaDoor.Order
