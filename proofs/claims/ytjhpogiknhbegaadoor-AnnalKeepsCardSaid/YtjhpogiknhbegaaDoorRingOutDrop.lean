/- A ring of outs: letting the first things go. -/
import Derived.Test.YtjhpogiknhbegaaDoorRingOut
set_option linter.unusedSimpArgs false
set_option linter.unusedVariables false
namespace Go.Proofs.YtjhpogiknhbegaaDoor.RingO
open Go.RowKit
open Alarm (Ot otS noOt ot_cells)
theorem Core.lay {w : World} {b g n q f c : Nat} {cs : List Ot} (h : Core w b g n q f c cs) (j : Nat) (hj : j < n) (v0 v1 v2 v3 : Int) : Core ((((w.setCell ⟨g, j * 4, none⟩ (.int .i64 v0)).setCell ⟨g, j * 4 + 1, none⟩ (.int .i64 v1)).setCell ⟨g, j * 4 + 2, none⟩ (.int .i64 v2)).setCell ⟨g, j * 4 + 3, none⟩ (.int .i64 v3)) b g n q f c (cs.set j (v0, v1, v2, v3)) := h.put j hj (v0, v1, v2, v3)
theorem turned_lay {b g : Nat} {w w' : World} (h : Turned b g w w') (j : Nat) (v0 v1 v2 v3 : Int) : Turned b g w ((((w'.setCell ⟨g, j * 4, none⟩ (.int .i64 v0)).setCell ⟨g, j * 4 + 1, none⟩ (.int .i64 v1)).setCell ⟨g, j * 4 + 2, none⟩ (.int .i64 v2)).setCell ⟨g, j * 4 + 3, none⟩ (.int .i64 v3)) :=
  (((h.setCell (p := ⟨g, j * 4, none⟩) (.inr (.inl rfl)) _).setCell (p := ⟨g, j * 4 + 1, none⟩) (.inr (.inl rfl)) _).setCell (p := ⟨g, j * 4 + 2, none⟩) (.inr (.inl rfl)) _).setCell (p := ⟨g, j * 4 + 3, none⟩) (.inr (.inl rfl)) _
theorem has_lay {x g : Nat} {w : World} {t : TypeId} {cs : Array Value} (h : Has w x t cs) (hx : x ≠ g) (j : Nat) (v0 v1 v2 v3 : Int) : Has ((((w.setCell ⟨g, j * 4, none⟩ (.int .i64 v0)).setCell ⟨g, j * 4 + 1, none⟩ (.int .i64 v1)).setCell ⟨g, j * 4 + 2, none⟩ (.int .i64 v2)).setCell ⟨g, j * 4 + 3, none⟩ (.int .i64 v3)) x t cs :=
  (((h.far (p := ⟨g, j * 4, none⟩) hx _).far (p := ⟨g, j * 4 + 1, none⟩) hx _).far (p := ⟨g, j * 4 + 2, none⟩) hx _).far (p := ⟨g, j * 4 + 3, none⟩) hx _
def Dropping (w : World) (x b g n q f : Nat) (xs : List Ot) (m : Nat) (i : Value) (wr : World) : Prop :=
  ∃ k, k ≤ m ∧ i = .int .i64 (k : Nat) ∧ Turned b g w wr ∧ Has wr x 28 #[.int .i64 0, .int .i64 0, .int .i64 0, .int .i64 0] ∧ ∃ cs, Core wr b g n q f xs.length cs ∧ ∀ i, k ≤ i → i < xs.length → cs.getD ((f + i) % n) noOt = xs.getD i noOt
set_option maxHeartbeats 1000000 in
theorem drop_any (b g n q f : Nat) (cs xs : List Ot) (m : Nat) (w : World) (h : Ring w b g n q f cs xs) (hm : m ≤ xs.length) :
    Calls Tryd.prog 33 #[.pointer (some ⟨b, 0, none⟩), .int .i64 m] w fun e w' => e = .returned (.tuple #[]) ∧ Became w b g n q ((f + m) % n) (xs.drop m) w' := by
  have hn := h.core.le
  have hq := h.core.cap
  have hr := h.core.room
  have hT := (Turned.refl b g w).alloc (.cells #[.int .i64 0, .int .i64 0, .int .i64 0, .int .i64 0] 28)
  have hX := Has.new w 28 #[.int .i64 0, .int .i64 0, .int .i64 0, .int .i64 0]
  have hR := h.alloc (.cells #[.int .i64 0, .int .i64 0, .int .i64 0, .int .i64 0] 28)
  have hxb : w.heap.size ≠ b ∧ w.heap.size ≠ g := by have := h.core.lt_; omega
  clear h
  go_enter Tryd.func33, Tryd.ntmps33
  go_wp2
  generalize w.alloc (.cells #[.int .i64 0, .int .i64 0, .int .i64 0, .int .i64 0] 28) = w1 at *
  generalize w.heap.size = x at *
  go_loopw [7] (fun i wr => Dropping w x b g n q f xs m i wr) (fun i _ => m - (intOf i).toNat)
  case atStart => exact ⟨0, by omega, rfl, hT, hX, cs, hR.core, fun i _ hi => hR.at_ i hi⟩
  case round =>
    clear hR hT hX
    obtain ⟨k, hk, rfl, hT, hX, cs', hC, hat⟩ := hrel
    obtain ⟨c0, c1, c2⟩ := hC.cells
    obtain ⟨z1, z2⟩ := hC.froz
    have hf := hC.first
    by_cases hlt : k < m
    · have hj : (f + k) % n < n := Nat.mod_lt _ (by omega)
      have hs := fun W (hW : Core W b g n q f xs.length cs') => slot_any b g n q f _ cs' k W hW (by omega)
      have hat' : ∀ i, k + 1 ≤ i → i < xs.length → (cs'.set ((f + k) % n) (0, 0, 0, 0)).getD ((f + i) % n) noOt = xs.getD i noOt := fun i h1 h2 => by
        rw [getD_set _ _ _ _ _ (by rw [hC.size]; exact hj), if_neg (rot_ne (by omega) (by omega) (by omega))]
        exact hat i (by omega) h2
      have HAT := Lib.hid hat'
      clear hat hat'
      generalize (f + k) % n = p at *
      go_wp2
      refine Till.begin_ (T := [9]) (S := fun W => W.cell? ⟨b, 0, none⟩ = some (.slice (some ⟨g, 0, none⟩) n q) ∧ W.cell? ⟨x, 0, none⟩ = some (.int .i64 0) ∧ W.cell? ⟨x, 1, none⟩ = some (.int .i64 0) ∧ W.cell? ⟨x, 2, none⟩ = some (.int .i64 0) ∧ W.cell? ⟨x, 3, none⟩ = some (.int .i64 0)) (by kernel_rfl) (by exact ⟨c0, hX.cell 0, hX.cell 1, hX.cell 2, hX.cell 3⟩) (fun hHeld => ?_)
      have hCd : Core wr.drew b g n q f xs.length cs' := hC.same rfl
      have hXd : Has wr.drew x 28 #[.int .i64 0, .int .i64 0, .int .i64 0, .int .i64 0] := hX
      have hTd : Turned b g w wr.drew := hT.drewN 1
      clear hC hX hT c0 c1 c2 z1 z2
      generalize wr.drew = Wd at *
      refine Till.take (i := 0) (v := ?v1) rfl (by kernel_rfl) (by kernel_rfl) (by kernel_rfl) (by kernel_rfl) (by rfl) ?hv1 (by assumption) ?rest1
      case hv1 => first | (intro w hSw; (try dsimp only at hSw); go_simp; done) | (intro w hSw; (try dsimp only at hSw); go_simp; with_reducible rfl)
      (try simp only [Act.put, List.setIfInBounds_toArray, List.set_cons_zero, List.set_cons_succ])
      refine Till.take (i := 1) (v := ?v2) rfl (by kernel_rfl) (by kernel_rfl) (by kernel_rfl) (by kernel_rfl) (by rfl) ?hv2 (by assumption) ?rest2
      case hv2 => first | (intro w hSw; (try dsimp only at hSw); go_simp; done) | (intro w hSw; (try dsimp only at hSw); go_simp; with_reducible rfl)
      (try simp only [Act.put, List.setIfInBounds_toArray, List.set_cons_zero, List.set_cons_succ])
      refine Till.take (i := 2) (v := ?v3) rfl (by kernel_rfl) (by kernel_rfl) (by kernel_rfl) (by kernel_rfl) (by rfl) ?hv3 (by assumption) ?rest3
      case hv3 => first | (intro w hSw; (try dsimp only at hSw); go_simp; done) | (intro w hSw; (try dsimp only at hSw); go_simp; with_reducible rfl)
      (try simp only [Act.put, List.setIfInBounds_toArray, List.set_cons_zero, List.set_cons_succ])
      refine Till.take (i := 3) (v := ?v4) rfl (by kernel_rfl) (by kernel_rfl) (by kernel_rfl) (by kernel_rfl) (by rfl) ?hv4 (by assumption) ?rest4
      case hv4 => first | (intro w hSw; (try dsimp only at hSw); go_simp; done) | (intro w hSw; (try dsimp only at hSw); go_simp; with_reducible rfl)
      (try simp only [Act.put, List.setIfInBounds_toArray, List.set_cons_zero, List.set_cons_succ])
      refine Till.take (i := 4) (v := ?v5) rfl (by kernel_rfl) (by kernel_rfl) (by kernel_rfl) (by kernel_rfl) (by rfl) ?hv5 (by assumption) ?rest5
      case hv5 => first | (intro w hSw; (try dsimp only at hSw); go_simp; done) | (intro w hSw; (try dsimp only at hSw); go_simp; with_reducible rfl)
      (try simp only [Act.put, List.setIfInBounds_toArray, List.set_cons_zero, List.set_cons_succ])
      refine Till.take (i := 5) (v := ?v6) rfl (by kernel_rfl) (by kernel_rfl) (by kernel_rfl) (by kernel_rfl) (by rfl) ?hv6 (by assumption) ?rest6
      case hv6 => first | (intro w hSw; (try dsimp only at hSw); go_simp; done) | (intro w hSw; (try dsimp only at hSw); go_simp; with_reducible rfl)
      (try simp only [Act.put, List.setIfInBounds_toArray, List.set_cons_zero, List.set_cons_succ])
      refine Till.both (i := 6) (j := 7) rfl rfl (by kernel_rfl) (by rfl) (by rfl) ?_ ?_
      · intro K hK
        go_simp
        go_at_call 32
        (with_reducible refine (hs Wd hCd).mono ?_)
        rintro e W2 ⟨rfl, kk, rfl⟩
        refine hK.out _ _ (by exact hHeld) (fun hHeld => ?_)
        clear hK K
        (try simp only [Act.put, List.setIfInBounds_toArray, List.set_cons_zero, List.set_cons_succ])
        refine Till.take (i := 7) (v := ?v7) rfl (by kernel_rfl) (by kernel_rfl) (by kernel_rfl) (by kernel_rfl) (by rfl) ?hv7 (by assumption) ?rest7
        case hv7 => first | (intro w hSw; (try dsimp only at hSw); go_simp; done) | (intro w hSw; (try dsimp only at hSw); go_simp; with_reducible rfl)
        (try simp only [Act.put, List.setIfInBounds_toArray, List.set_cons_zero, List.set_cons_succ])
        refine Till.take (i := 8) (v := ?v8) rfl (by kernel_rfl) (by kernel_rfl) (by kernel_rfl) (by kernel_rfl) (by rfl) ?hv8 (by assumption) ?rest8
        case hv8 => first | (intro w hSw; (try dsimp only at hSw); go_simp; done) | (intro w hSw; (try dsimp only at hSw); go_simp; with_reducible rfl)
        (try simp only [Act.put, List.setIfInBounds_toArray, List.set_cons_zero, List.set_cons_succ])
        have hC2 : Core (Wd.drewN kk) b g n q f xs.length cs' := hCd.same rfl
        have hX2 := hXd.drewN kk
        have hT2 := hTd.drewN kk
        clear hCd hXd hTd hHeld hs
        generalize Wd.drewN kk = W3 at *
        obtain ⟨s0, s1, s2, s3⟩ := hC2.slot_ p hj
        have f0 := hC2.slotz (p * 4)
        have f1 := hC2.slotz (p * 4 + 1)
        have f2 := hC2.slotz (p * 4 + 2)
        have f3 := hC2.slotz (p * 4 + 3)
        refine Till.put (i := 9) rfl (by kernel_rfl) (by rfl) (by rfl) ?_
        intro K hK
        go_simp
        refine hK.out _ _ ?_
        clear hK K
        (try simp only [Act.put, List.setIfInBounds_toArray, List.set_cons_zero, List.set_cons_succ])
        refine Till.done (by kernel_rfl) ?_ _
        have hC4 := hC2.lay p hj 0 0 0 0
        have hX4 := has_lay hX2 hxb.2 p 0 0 0 0
        have hT4 := turned_lay hT2 p 0 0 0 0
        clear hC2 hX2 hT2 s0 s1 s2 s3 f0 f1 f2 f3
        go_wp2
        go_roundw
        case rel => exact ⟨k + 1, by omega, by go_num, hT4, hX4, _, hC4, HAT.out⟩
        case measure => simp [intOf]; omega
      · intro K hK
        go_simp
        refine hK.out _ _ (by exact hHeld) (fun hHeld => ?_)
        clear hK K
        (try simp only [Act.put, List.setIfInBounds_toArray, List.set_cons_zero, List.set_cons_succ])
        refine Till.call (i := 6) rfl (by kernel_rfl) (by rfl) ?_
        intro K hK
        go_simp
        go_at_call 32
        (with_reducible refine (hs Wd hCd).mono ?_)
        rintro e W2 ⟨rfl, kk, rfl⟩
        refine hK.out _ _ (by exact hHeld) (fun hHeld => ?_)
        clear hK K
        (try simp only [Act.put, List.setIfInBounds_toArray, List.set_cons_zero, List.set_cons_succ])
        refine Till.take (i := 8) (v := ?v9) rfl (by kernel_rfl) (by kernel_rfl) (by kernel_rfl) (by kernel_rfl) (by rfl) ?hv9 (by assumption) ?rest9
        case hv9 => first | (intro w hSw; (try dsimp only at hSw); go_simp; done) | (intro w hSw; (try dsimp only at hSw); go_simp; with_reducible rfl)
        (try simp only [Act.put, List.setIfInBounds_toArray, List.set_cons_zero, List.set_cons_succ])
        have hC2 : Core (Wd.drewN kk) b g n q f xs.length cs' := hCd.same rfl
        have hX2 := hXd.drewN kk
        have hT2 := hTd.drewN kk
        clear hCd hXd hTd hHeld hs
        generalize Wd.drewN kk = W3 at *
        obtain ⟨s0, s1, s2, s3⟩ := hC2.slot_ p hj
        have f0 := hC2.slotz (p * 4)
        have f1 := hC2.slotz (p * 4 + 1)
        have f2 := hC2.slotz (p * 4 + 2)
        have f3 := hC2.slotz (p * 4 + 3)
        refine Till.put (i := 9) rfl (by kernel_rfl) (by rfl) (by rfl) ?_
        intro K hK
        go_simp
        refine hK.out _ _ ?_
        clear hK K
        (try simp only [Act.put, List.setIfInBounds_toArray, List.set_cons_zero, List.set_cons_succ])
        refine Till.done (by kernel_rfl) ?_ _
        have hC4 := hC2.lay p hj 0 0 0 0
        have hX4 := has_lay hX2 hxb.2 p 0 0 0 0
        have hT4 := turned_lay hT2 p 0 0 0 0
        clear hC2 hX2 hT2 s0 s1 s2 s3 f0 f1 f2 f3
        go_wp2
        go_roundw
        case rel => exact ⟨k + 1, by omega, by go_num, hT4, hX4, _, hC4, HAT.out⟩
        case measure => simp [intOf]; omega
    · have hk' : k = m := by omega
      subst hk'
      have hj : (f + k) % n < n := Nat.mod_lt _ (by omega)
      have hs := fun W (hW : Core W b g n q f xs.length cs') => slot_any b g n q f _ cs' k W hW (by omega)
      have hat' : ∀ i, i < (xs.drop k).length → cs'.getD (((f + k) % n + i) % n) noOt = (xs.drop k).getD i noOt := fun i hi => by
        rw [rot_add, getD_drop]
        rw [List.length_drop] at hi
        exact hat (k + i) (by omega) (by omega)
      have HL := Lib.hid (show (xs.drop k).length = xs.length - k from List.length_drop)
      have HAT := Lib.hid hat'
      clear hat hat' hX
      generalize hp : (f + k) % n = p at *
      generalize hys : xs.drop k = ys at *
      generalize hc : xs.length = c at *
      have HP := Lib.hid hp
      have HY := Lib.hid hys
      have HC := Lib.hid hc
      clear hp hys hc
      go_wp2_with (go_at_call 32; refine (hs _ (by exact hC.same rfl)).mono ?_; rintro e W2 ⟨rfl, kk, rfl⟩)
      go_end0
      refine ⟨rfl, cs', ?_, ?_⟩
      · rw [HP.out, HY.out]
        refine ⟨?_, HAT.out⟩
        have hC2 := ((hC.first_ p hj).count_ (c - k) (by omega))
        rw [HL.out, show ((c - k : Nat) : Int) = (c : Int) - (k : Int) by omega] at *
        exact hC2.same rfl
      · exact ((hT.setCell (p := ⟨b, 1, none⟩) (.inl rfl) _).setCell (p := ⟨b, 2, none⟩) (.inl rfl) _).like rfl rfl rfl rfl
end Go.Proofs.YtjhpogiknhbegaaDoor.RingO
