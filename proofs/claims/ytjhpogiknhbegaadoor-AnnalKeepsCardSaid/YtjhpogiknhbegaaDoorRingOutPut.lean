/- A ring of outs: putting things behind the others. -/
import Derived.Test.YtjhpogiknhbegaaDoorRingOutDrop
import Derived.Test.YtjhpogiknhbegaaDoorKept
import Derived.Lib.MinMax
set_option linter.unusedSimpArgs false
set_option linter.unusedVariables false
namespace Go.Proofs.YtjhpogiknhbegaaDoor.RingO
open Go.RowKit
open Alarm (Ot otS noOt ot_cells)
def Putting (w : World) (b g n q f : Nat) (xs ys : List Ot) (m : Nat) (i : Value) (wr : World) : Prop :=
  ∃ k, k ≤ m ∧ i = .int .i64 (k : Nat) ∧ Turned b g w wr ∧ ∃ cs, Core wr b g n q f xs.length cs ∧ ∀ i, i < xs.length + k → cs.getD ((f + i) % n) noOt = (xs ++ ys).getD i noOt
set_option maxHeartbeats 2000000 in
theorem put_any (b g n q f : Nat) (cs xs : List Ot) (a : Option Addr) (len cap : Nat) (ys : List Ot) (w : World) (h : Ring w b g n q f cs xs) (hv : Row.Vals otS w a len ys) (hl : len ≤ cap) (hcap : cap ≤ 9223372036854775807) (hfar : 0 < len → ∀ x, a = some x → x.block ≠ b ∧ x.block ≠ g) :
    Calls Tryd.prog 30 #[.pointer (some ⟨b, 0, none⟩), .slice a len cap] w fun e w' => e = .returned (.int .i64 (min len (n - xs.length) : Nat)) ∧ Became w b g n q f (xs ++ ys.take (n - xs.length)) w' := by
  have hn := h.core.le
  have hq := h.core.cap
  have hr := h.core.room
  have hT := Turned.refl b g w
  have hy := hv.len_
  obtain ⟨r, hrr⟩ : ∃ r, n - xs.length = r := ⟨_, rfl⟩
  have hroom := fun W (hW : Ring W b g n q f cs xs) => room_nat b g n q f cs xs r W hW hrr
  obtain ⟨m, hm⟩ : ∃ m, min len r = m := ⟨_, rfl⟩
  have HM := Lib.hid (show ((min len (n - xs.length) : Nat) : Int) = (m : Int) by omega)
  have HT := Lib.hid (show xs ++ ys.take (n - xs.length) = xs ++ ys.take m by
    rw [← hm, hrr]
    rcases Nat.le_total len r with h1 | h1
    · rw [Nat.min_eq_left h1, List.take_of_length_le (by omega), List.take_of_length_le (by omega)]
    · rw [Nat.min_eq_right h1])
  rw [HM.out]
  rw [HT.out]
  have hmy : m ≤ ys.length := by omega
  have hmr : xs.length + m ≤ n := by omega
  have hmin : min (len : Int) (r : Int) = (m : Int) := by omega
  have hml : (m : Int) ≤ (len : Int) ∧ (m : Int) ≤ (cap : Int) := by omega
  have hmc : m ≤ cap ∧ m ≤ len := by omega
  have HL := Lib.hid (show (xs ++ ys.take m).length = xs.length + m by rw [List.length_append, List.length_take]; omega)
  clear hm hrr hy
  go_enter Tryd.func30, Tryd.ntmps30
  go_wp2_with (go_at_call 28; refine (hroom _ (by exact h.same rfl)).mono ?_; rintro e W2 ⟨rfl, kk, rfl⟩)
  have hD := h.core.same (w' := w.drewN kk) rfl
  have hT2 := hT.drewN kk
  generalize hwk : w.drewN kk = w2 at *
  go_loopw [19] (fun i wr => Putting w b g n q f xs ys m i wr) (fun i _ => m - (intOf i).toNat)
  case atStart => exact ⟨0, by omega, rfl, hT2, cs, hD, fun i hi => by rw [h.at_ i (by omega), getD_left _ _ _ _ (by omega)]⟩
  case round =>
    clear hT2 hD hwk
    obtain ⟨k, hk, rfl, hTr, cs', hC, hat⟩ := hrel
    obtain ⟨c0, c1, c2⟩ := hC.cells
    obtain ⟨z1, z2⟩ := hC.froz
    have hf := hC.first
    by_cases hlt : k < m
    · have hj : (f + (xs.length + k)) % n < n := Nat.mod_lt _ (by omega)
      obtain ⟨x, rfl, -⟩ := hv.cells (by omega)
      obtain ⟨x0, x1, x2, x3⟩ := ot_cells (hv.kept (Kept.of_turned hTr) (fun h0 x hx => by have := hfar h0 x hx; simp; exact this)) k (by omega)
      have hs := fun W (hW : Core W b g n q f xs.length cs') => slot_any b g n q f _ cs' (xs.length + k) W hW (by omega)
      rw [Int.natCast_add] at hs
      have hat' : ∀ i, i < xs.length + (k + 1) → (cs'.set ((f + (xs.length + k)) % n) (ys.getD k noOt)).getD ((f + i) % n) noOt = (xs ++ ys).getD i noOt := fun i h1 => by
        rw [getD_set _ _ _ _ _ (by rw [hC.size]; exact hj)]
        by_cases he : i = xs.length + k
        · subst he
          rw [if_pos rfl, getD_right]
        · rw [if_neg (rot_ne (by omega) (by omega) (by omega))]
          exact hat i (by omega)
      clear hat
      generalize (f + (xs.length + k)) % n = p at *
      generalize ys.getD k noOt = v at *
      obtain ⟨v0, v1, v2, v3⟩ := v
      dsimp only at x0 x1 x2 x3
      have HAT := Lib.hid hat'
      clear hat'
      have hwr : IntKind.i64.wrap ((xs.length : Int) + (k : Int)) = (xs.length : Int) + (k : Int) := IntWalk.i64_in _ (by omega)
      have hkz : (k : Int) < (m : Int) := by omega
      have hCa := hC.alloc (.cells #[.int .i64 v0, .int .i64 v1, .int .i64 v2, .int .i64 v3] 28)
      have hTa := hTr.alloc (.cells #[.int .i64 v0, .int .i64 v1, .int .i64 v2, .int .i64 v3] 28)
      have hXa := Has.new wr 28 #[.int .i64 v0, .int .i64 v1, .int .i64 v2, .int .i64 v3]
      obtain ⟨e0, -, e2⟩ := hCa.cells
      go_wp2
      clear c0 c1 c2 z1 z2 x0 x1 x2 x3 hC hTr
      refine Till.begin_ (T := [14]) (S := fun W => W.cell? ⟨b, 0, none⟩ = some (.slice (some ⟨g, 0, none⟩) n q) ∧ W.cell? ⟨b, 2, none⟩ = some (.int .i64 (xs.length : Nat)) ∧ W.cell? ⟨wr.heap.size, 0, none⟩ = some (.int .i64 v0) ∧ W.cell? ⟨wr.heap.size, 1, none⟩ = some (.int .i64 v1) ∧ W.cell? ⟨wr.heap.size, 2, none⟩ = some (.int .i64 v2) ∧ W.cell? ⟨wr.heap.size, 3, none⟩ = some (.int .i64 v3)) (by kernel_rfl) (by exact ⟨e0, e2, hXa.cell 0, hXa.cell 1, hXa.cell 2, hXa.cell 3⟩) (fun hHeld => ?_)
      have hCd : Core (wr.alloc (.cells #[.int .i64 v0, .int .i64 v1, .int .i64 v2, .int .i64 v3] 28)).drew b g n q f xs.length cs' := hCa.same rfl
      have hXd : Has (wr.alloc (.cells #[.int .i64 v0, .int .i64 v1, .int .i64 v2, .int .i64 v3] 28)).drew wr.heap.size 28 #[.int .i64 v0, .int .i64 v1, .int .i64 v2, .int .i64 v3] := hXa
      have hTd : Turned b g w (wr.alloc (.cells #[.int .i64 v0, .int .i64 v1, .int .i64 v2, .int .i64 v3] 28)).drew := hTa.drewN 1
      clear hCa hXa hTa e0 e2
      generalize (wr.alloc (.cells #[.int .i64 v0, .int .i64 v1, .int .i64 v2, .int .i64 v3] 28)).drew = Wd at *
      generalize wr.heap.size = z at *
      refine Till.take (i := 0) (v := ?v1) rfl (by kernel_rfl) (by kernel_rfl) (by kernel_rfl) (by kernel_rfl) (by rfl) ?hv1 (by assumption) ?rest1
      case hv1 => first | (intro w hSw; (try dsimp only at hSw); go_simp; done) | (intro w hSw; (try dsimp only at hSw); go_simp; with_reducible rfl)
      (try simp only [Act.put, List.setIfInBounds_toArray, List.set_cons_zero, List.set_cons_succ])
      refine Till.take (i := 1) (v := ?v2) rfl (by kernel_rfl) (by kernel_rfl) (by kernel_rfl) (by kernel_rfl) (by rfl) ?hv2 (by assumption) ?rest2
      case hv2 => first | (intro w hSw; (try dsimp only at hSw); go_simp; done) | (intro w hSw; (try dsimp only at hSw); go_simp; with_reducible rfl)
      (try simp only [Act.put, List.setIfInBounds_toArray, List.set_cons_zero, List.set_cons_succ])
      refine Till.take (i := 2) (v := ?v3) rfl (by kernel_rfl) (by kernel_rfl) (by kernel_rfl) (by kernel_rfl) (by rfl) ?hv3 (by assumption) ?rest3
      case hv3 => first | (intro w hSw; (try dsimp only at hSw); go_simp; done) | (intro w hSw; (try dsimp only at hSw); go_simp; with_reducible rfl)
      (try simp only [Act.put, List.setIfInBounds_toArray, List.set_cons_zero, List.set_cons_succ])
      refine Till.take (i := 3) (v := ?v4) rfl (by kernel_rfl) (by kernel_rfl) (by kernel_rfl) (by kernel_rfl) (by rfl) ?hv4 (by assumption) ?rest4
      case hv4 => first | (intro w hSw; (try dsimp only at hSw); go_simp; done) | (intro w hSw; (try dsimp only at hSw); go_simp; with_reducible rfl)
      (try simp only [Act.put, List.setIfInBounds_toArray, List.set_cons_zero, List.set_cons_succ])
      refine Till.take (i := 4) (v := ?v5) rfl (by kernel_rfl) (by kernel_rfl) (by kernel_rfl) (by kernel_rfl) (by rfl) ?hv5 (by assumption) ?rest5
      case hv5 => first | (intro w hSw; (try dsimp only at hSw); go_simp; done) | (intro w hSw; (try dsimp only at hSw); go_simp; with_reducible rfl)
      (try simp only [Act.put, List.setIfInBounds_toArray, List.set_cons_zero, List.set_cons_succ])
      refine Till.take (i := 5) (v := ?v6) rfl (by kernel_rfl) (by kernel_rfl) (by kernel_rfl) (by kernel_rfl) (by rfl) ?hv6 (by assumption) ?rest6
      case hv6 => first | (intro w hSw; (try dsimp only at hSw); go_simp; done) | (intro w hSw; (try dsimp only at hSw); go_simp; with_reducible rfl)
      (try simp only [Act.put, List.setIfInBounds_toArray, List.set_cons_zero, List.set_cons_succ])
      refine Till.take (i := 6) (v := ?v7) rfl (by kernel_rfl) (by kernel_rfl) (by kernel_rfl) (by kernel_rfl) (by rfl) ?hv7 (by assumption) ?rest7
      case hv7 => first | (intro w hSw; (try dsimp only at hSw); go_simp; done) | (intro w hSw; (try dsimp only at hSw); go_simp; with_reducible rfl)
      (try simp only [Act.put, List.setIfInBounds_toArray, List.set_cons_zero, List.set_cons_succ])
      refine Till.take (i := 7) (v := ?v8) rfl (by kernel_rfl) (by kernel_rfl) (by kernel_rfl) (by kernel_rfl) (by rfl) ?hv8 (by assumption) ?rest8
      case hv8 => first | (intro w hSw; (try dsimp only at hSw); go_simp; done) | (intro w hSw; (try dsimp only at hSw); go_simp; with_reducible rfl)
      (try simp only [Act.put, List.setIfInBounds_toArray, List.set_cons_zero, List.set_cons_succ])
      refine Till.take (i := 8) (v := ?v9) rfl (by kernel_rfl) (by kernel_rfl) (by kernel_rfl) (by kernel_rfl) (by rfl) ?hv9 (by assumption) ?rest9
      case hv9 => first | (intro w hSw; (try dsimp only at hSw); go_simp; done) | (intro w hSw; (try dsimp only at hSw); go_simp; with_reducible rfl)
      (try simp only [Act.put, List.setIfInBounds_toArray, List.set_cons_zero, List.set_cons_succ])
      refine Till.take (i := 9) (v := ?v10) rfl (by kernel_rfl) (by kernel_rfl) (by kernel_rfl) (by kernel_rfl) (by rfl) ?hv10 (by assumption) ?rest10
      case hv10 => first | (intro w hSw; (try dsimp only at hSw); go_simp; done) | (intro w hSw; (try dsimp only at hSw); go_simp; with_reducible rfl)
      (try simp only [Act.put, List.setIfInBounds_toArray, List.set_cons_zero, List.set_cons_succ])
      refine Till.take (i := 10) (v := ?v11) rfl (by kernel_rfl) (by kernel_rfl) (by kernel_rfl) (by kernel_rfl) (by rfl) ?hv11 (by assumption) ?rest11
      case hv11 => first | (intro w hSw; (try dsimp only at hSw); go_simp; done) | (intro w hSw; (try dsimp only at hSw); go_simp; with_reducible rfl)
      (try simp only [Act.put, List.setIfInBounds_toArray, List.set_cons_zero, List.set_cons_succ])
      refine Till.both (i := 11) (j := 12) rfl rfl (by kernel_rfl) (by rfl) (by rfl) ?_ ?_
      · intro K hK
        go_simp
        go_at_call 32
        (with_reducible refine (hs Wd hCd).mono ?_)
        rintro e W2 ⟨rfl, kk, rfl⟩
        refine hK.out _ _ (by exact hHeld) (fun hHeld => ?_)
        clear hK K
        (try simp only [Act.put, List.setIfInBounds_toArray, List.set_cons_zero, List.set_cons_succ])
        refine Till.take (i := 12) (v := ?v12) rfl (by kernel_rfl) (by kernel_rfl) (by kernel_rfl) (by kernel_rfl) (by rfl) ?hv12 (by assumption) ?rest12
        case hv12 => first | (intro w hSw; (try dsimp only at hSw); go_simp; done) | (intro w hSw; (try dsimp only at hSw); go_simp; with_reducible rfl)
        (try simp only [Act.put, List.setIfInBounds_toArray, List.set_cons_zero, List.set_cons_succ])
        refine Till.take (i := 13) (v := ?v13) rfl (by kernel_rfl) (by kernel_rfl) (by kernel_rfl) (by kernel_rfl) (by rfl) ?hv13 (by assumption) ?rest13
        case hv13 => first | (intro w hSw; (try dsimp only at hSw); go_simp; done) | (intro w hSw; (try dsimp only at hSw); go_simp; with_reducible rfl)
        (try simp only [Act.put, List.setIfInBounds_toArray, List.set_cons_zero, List.set_cons_succ])
        have hC2 : Core (Wd.drewN kk) b g n q f xs.length cs' := hCd.same rfl
        have hT2 := hTd.drewN kk
        clear hCd hXd hTd hHeld hs
        generalize Wd.drewN kk = W3 at *
        obtain ⟨s0, s1, s2, s3⟩ := hC2.slot_ p hj
        have f0 := hC2.slotz (p * 4)
        have f1 := hC2.slotz (p * 4 + 1)
        have f2 := hC2.slotz (p * 4 + 2)
        have f3 := hC2.slotz (p * 4 + 3)
        refine Till.put (i := 14) rfl (by kernel_rfl) (by rfl) (by rfl) ?_
        intro K hK
        go_simp
        refine hK.out _ _ ?_
        clear hK K
        (try simp only [Act.put, List.setIfInBounds_toArray, List.set_cons_zero, List.set_cons_succ])
        refine Till.done (by kernel_rfl) ?_ _
        have hC4 := hC2.lay p hj v0 v1 v2 v3
        have hT4 := turned_lay hT2 p v0 v1 v2 v3
        clear hC2 hT2 s0 s1 s2 s3 f0 f1 f2 f3
        go_wp2
        go_roundw
        case rel => exact ⟨k + 1, by omega, by go_num, hT4, _, hC4, HAT.out⟩
        case measure => simp [intOf]; omega
      · intro K hK
        go_simp
        refine hK.out _ _ (by exact hHeld) (fun hHeld => ?_)
        clear hK K
        (try simp only [Act.put, List.setIfInBounds_toArray, List.set_cons_zero, List.set_cons_succ])
        refine Till.call (i := 11) rfl (by kernel_rfl) (by rfl) ?_
        intro K hK
        go_simp
        go_at_call 32
        (with_reducible refine (hs Wd hCd).mono ?_)
        rintro e W2 ⟨rfl, kk, rfl⟩
        refine hK.out _ _ (by exact hHeld) (fun hHeld => ?_)
        clear hK K
        (try simp only [Act.put, List.setIfInBounds_toArray, List.set_cons_zero, List.set_cons_succ])
        refine Till.take (i := 13) (v := ?v14) rfl (by kernel_rfl) (by kernel_rfl) (by kernel_rfl) (by kernel_rfl) (by rfl) ?hv14 (by assumption) ?rest14
        case hv14 => first | (intro w hSw; (try dsimp only at hSw); go_simp; done) | (intro w hSw; (try dsimp only at hSw); go_simp; with_reducible rfl)
        (try simp only [Act.put, List.setIfInBounds_toArray, List.set_cons_zero, List.set_cons_succ])
        have hC2 : Core (Wd.drewN kk) b g n q f xs.length cs' := hCd.same rfl
        have hT2 := hTd.drewN kk
        clear hCd hXd hTd hHeld hs
        generalize Wd.drewN kk = W3 at *
        obtain ⟨s0, s1, s2, s3⟩ := hC2.slot_ p hj
        have f0 := hC2.slotz (p * 4)
        have f1 := hC2.slotz (p * 4 + 1)
        have f2 := hC2.slotz (p * 4 + 2)
        have f3 := hC2.slotz (p * 4 + 3)
        refine Till.put (i := 14) rfl (by kernel_rfl) (by rfl) (by rfl) ?_
        intro K hK
        go_simp
        refine hK.out _ _ ?_
        clear hK K
        (try simp only [Act.put, List.setIfInBounds_toArray, List.set_cons_zero, List.set_cons_succ])
        refine Till.done (by kernel_rfl) ?_ _
        have hC4 := hC2.lay p hj v0 v1 v2 v3
        have hT4 := turned_lay hT2 p v0 v1 v2 v3
        clear hC2 hT2 s0 s1 s2 s3 f0 f1 f2 f3
        go_wp2
        go_roundw
        case rel => exact ⟨k + 1, by omega, by go_num, hT4, _, hC4, HAT.out⟩
        case measure => simp [intOf]; omega
    · have hk' : k = m := by omega
      subst hk'
      have hkz : ¬ (k : Int) < (k : Int) := by omega
      have hat' : ∀ i, i < (xs ++ ys.take k).length → cs'.getD ((f + i) % n) noOt = (xs ++ ys.take k).getD i noOt := fun i hi => by
        rw [HL.out] at hi
        rw [hat i hi, getD_take _ _ _ _ _ hi]
      have HAT := Lib.hid hat'
      clear hat hat'
      have hC2 : Core (wr.setCell ⟨b, 2, none⟩ (.int .i64 ((xs.length : Int) + (k : Int)))) b g n q f (xs ++ ys.take k).length cs' := by
        have h9 := hC.count_ (xs.length + k) (by omega)
        rw [Int.natCast_add] at h9
        rw [HL.out]
        exact h9
      have HC2 := Lib.hid hC2
      clear hC2
      go_wp2
      go_ret
      exact ⟨rfl, cs', ⟨HC2.out.same rfl, HAT.out⟩, (hTr.setCell (p := ⟨b, 2, none⟩) (.inl rfl) _).like rfl rfl rfl rfl⟩
end Go.Proofs.YtjhpogiknhbegaaDoor.RingO
