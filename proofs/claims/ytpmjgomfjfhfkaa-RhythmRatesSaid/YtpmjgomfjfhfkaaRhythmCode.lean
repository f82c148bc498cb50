/- The landed rhythm: what its memory holds; New, anew, now. -/
import Derived.Test.YtpmjgomfjfhfkaaRhythmKit
import Derived.Test.YtpmjgomfjfhfkaaTallyBeat
import Derived.Test.YtpmjgomfjfhfkaaFibCode
set_option linter.unusedSimpArgs false
set_option linter.unusedVariables false
namespace Go.Proofs.Ytpmjgomfjfhfkaa.Rhythm
open Go.RowKit
open Tally (Lim May mayT limV limC Tal)
/-- A rhythm's cells. -/
def cellsR (t c : Nat) (d : Bool) (o : On5) : Array Value := #[.pointer (some ⟨t, 0, none⟩), .pointer (some ⟨c, 0, none⟩), .bool d, .bool false, .bool o.o1, .bool o.o2, .bool o.o3, .bool o.o4, .bool o.o5]
/-- The rhythm in block b stands so: its tally in block t, its counter in block c, which lies in the blocks Sc. -/
structure RhyIs (w : World) (b t c : Nat) (Sc : List Nat) (l : Lim) (s : St) : Prop where
  head : Has w b 67 (cellsR t c s.dark s.on)
  tal : Tal w t l s.t
  cnt : Fib.Cnt w c Sc l.fib s.h
  bt : b ≠ t
  bc : b ∉ Sc
  tc : t ∉ Sc
def Rhy (w : World) (b : Nat) (S : List Nat) (l : Lim) (s : St) : Prop := ∃ t c Sc, S = b :: t :: Sc ∧ RhyIs w b t c Sc l s
section
variable {w w' : World} {b t c : Nat} {Sc T : List Nat} {l : Lim} {s : St}
theorem RhyIs.lt (h : RhyIs w b t c Sc l s) : b < w.heap.size ∧ t < w.heap.size ∧ ∀ k ∈ Sc, k < w.heap.size := ⟨h.head.lt, h.tal.lt, (Fib.kit.lt h.cnt).2⟩
theorem RhyIs.kept (h : RhyIs w b t c Sc l s) (hK : Kept T w w') (h1 : b ∉ T) (h2 : t ∉ T) (h3 : ∀ k ∈ Sc, k ∉ T) : RhyIs w' b t c Sc l s :=
  ⟨hK.has h.head h1, h.tal.kept hK h2, Fib.kit.kept h.cnt hK h3, h.bt, h.bc, h.tc⟩
theorem RhyIs.below (h : RhyIs w b t c Sc l s) (hB : Below w.heap.size w w') : RhyIs w' b t c Sc l s := h.kept (Kept.of_below (S := []) hB) (by simp) (by simp) (by simp)
theorem RhyIs.alloc (h : RhyIs w b t c Sc l s) (o : Obj) : RhyIs (w.alloc o) b t c Sc l s := h.below ((Below.refl _ w).alloc (Nat.le_refl _) o)
theorem RhyIs.drew (h : RhyIs w b t c Sc l s) : RhyIs w.drew b t c Sc l s := h.below (below_drewN (Below.refl _ w) 1)
/-- Its tally turned. -/
theorem RhyIs.tally (h : RhyIs w b t c Sc l s) (hK : Kept [t] w w') {x : Tally.St} (hT : Tal w' t l x) : RhyIs w' b t c Sc l { s with t := x } :=
  ⟨hK.has h.head (by simp; exact h.bt), hT, Fib.kit.kept h.cnt hK (fun k hk hkt => by simp at hkt; exact h.tc (hkt ▸ hk)), h.bt, h.bc, h.tc⟩
/-- Its counter turned. -/
theorem RhyIs.count (h : RhyIs w b t c Sc l s) (hK : Kept Sc w w') {x : List Int} (hC : Fib.Cnt w' c Sc l.fib x) : RhyIs w' b t c Sc l { s with h := x } :=
  ⟨hK.has h.head h.bc, h.tal.kept hK h.tc, hC, h.bt, h.bc, h.tc⟩
/-- Its own cells turned. -/
theorem RhyIs.cells (h : RhyIs w b t c Sc l s) (hK : Kept [b] w w') {d : Bool} {o : On5} (hH : Has w' b 67 (cellsR t c d o)) : RhyIs w' b t c Sc l ⟨d, s.t, s.h, o⟩ :=
  ⟨hH, h.tal.kept hK (by simp; exact fun e => h.bt e.symm), Fib.kit.kept h.cnt hK (fun k hk hkb => by simp at hkb; exact h.bc (hkb ▸ hk)), h.bt, h.bc, h.tc⟩
end
theorem new_no (w : World) (l : Lim) (hm : mayT l = false) : Calls Try.prog 8 #[limV l] w fun e w' => e = .returned (.tuple #[.pointer none, .int .i64 200]) ∧ Below w.heap.size w w' := by
  have hnw := fun W => Tally.new_no l W hm
  have hB := (Below.refl w.heap.size w).alloc (Nat.le_refl _) (.cells (limC l) 23)
  clear hm
  obtain ⟨l0, l1, l2, l3, l4, l5, l6, l7, l8⟩ := l
  unfold limV at hnw ⊢
  unfold limC at hB
  dsimp only at hnw hB ⊢
  go_enter Try.func8, Try.ntmps8
  go_wp2_with (go_at_call 19; ((with_reducible refine (hnw _).mono ?_); rintro e w1 ⟨rfl, hB1⟩; have hB2 := hB.trans (hB1.mono hB.size)))
  go_ret2
  exact ⟨rfl, hB2⟩
theorem new_yes (w : World) (l : Lim) (hm : mayT l = true) : Calls Try.prog 8 #[limV l] w fun e w' => ∃ b S, e = .returned (.tuple #[.pointer (some ⟨b, 0, none⟩), .int .i64 0]) ∧ Rhy w' b S l noSt ∧ (∀ k ∈ S, w.heap.size ≤ k) ∧ Below w.heap.size w w' := by
  have hnw := fun W => Tally.new_yes l W hm
  have hfb := fun W => Fib.kit.new_yes W l.fib (Tally.may_of hm).fib
  have hend : ∀ W b t c Sc, Has W b 67 (cellsR t c false off5) → Tal W t l Tally.st0 → Fib.Cnt W c Sc l.fib [] → b ≠ t → b ∉ Sc → t ∉ Sc → Rhy W b (b :: t :: Sc) l noSt :=
    fun W b t c Sc h1 h2 h3 h4 h5 h6 => ⟨t, c, Sc, rfl, h1, h2, h3, h4, h5, h6⟩
  have hB := (Below.refl w.heap.size w).alloc (Nat.le_refl _) (.cells (limC l) 23)
  have hH := Has.new w 23 (limC l)
  clear hm
  generalize hl : l = ll at *
  obtain ⟨l0, l1, l2, l3, l4, l5, l6, l7, l8⟩ := l
  subst hl
  unfold limV at hnw ⊢
  unfold limC at hB hH
  dsimp only at hnw hB hH hfb ⊢
  go_enter Try.func8, Try.ntmps8
  go_wp2_with (first
    | (go_at_call 19; ((with_reducible refine (hnw _).mono ?_); rintro e w1 ⟨t, rfl, hT1, ht1, hB1⟩; have hB2 := hB.trans (hB1.mono hB.size); have hH1 := hH.below hB1 hH.lt; have c6 := hH1.cell 6))
    | (go_at_call 20; ((with_reducible refine (hfb _).mono ?_); rintro e w2 ⟨c, Sc, rfl, hC2, hc2, hB3⟩; have hT2 := hT1.below hB3; have hB4 := hB2.trans (hB3.mono hB2.size))))
  go_ret2
  have e1 := hB2.size
  have e2 := hB4.size
  have e3 := hB3.size
  simp at ht1
  have e4 := hT1.lt
  refine ⟨_, _, rfl, hend _ w2.heap.size t c Sc (Has.new w2 _ _) (hT2.below ((Below.refl _ w2).alloc (Nat.le_refl _) _)) (Fib.kit.alloc hC2 _) (by omega) (fun hk => Nat.lt_irrefl _ ((Fib.kit.lt hC2).2 _ hk)) (fun hk => by have := hc2 t hk; omega), fun k hk => ?_, hB4.alloc hB4.size _⟩
  simp at hk
  rcases hk with rfl | rfl | hk
  · omega
  · omega
  · have := hc2 k hk; omega
theorem anew_k (b t c : Nat) (Sc : List Nat) (l : Lim) (s : St) (w : World) (h : RhyIs w b t c Sc l s) : Calls Try.prog 34 #[.pointer (some ⟨b, 0, none⟩)] w fun e w' => e = .returned (.tuple #[]) ∧ RhyIs w' b t c Sc l ⟨s.dark, Tally.st0, [], s.on⟩ ∧ Kept (b :: t :: Sc) w w' := by
  have c0 : w.cell? ⟨b, 0, none⟩ = some (.pointer (some ⟨t, 0, none⟩)) := h.head.cell 0
  have hr1 := Tally.reset_k t l s.t w h.tal
  have hr2 := fun W hW => Fib.kit.reset_any W c Sc l.fib s.h hW
  go_enter Try.func34, Try.ntmps34
  go_wp2_with (first
    | (go_at_call 42; ((with_reducible refine hr1.mono ?_); rintro e w1 ⟨rfl, hT1, hK1⟩; have h1 := h.tally hK1 hT1; have c1 : w1.cell? ⟨b, 1, none⟩ = some (.pointer (some ⟨c, 0, none⟩)) := h1.head.cell 1))
    | (go_at_call 43; ((with_reducible refine (hr2 _ h1.cnt).mono ?_); rintro e w2 ⟨rfl, hC2, hK2⟩; have h2 := h1.count hK2 hC2)))
  go_end0
  exact ⟨rfl, h2, (hK1.wide (T := b :: t :: Sc) (fun k hk _ => by simp at hk; simp [hk])).trans (hK2.wide (fun k hk _ => by simp [hk]))⟩
set_option maxHeartbeats 2000000 in
theorem now_k (b t c : Nat) (Sc : List Nat) (l : Lim) (s : St) (a : Int) (w : World) (h : RhyIs w b t c Sc l s) : Calls Try.prog 38 #[.pointer (some ⟨b, 0, none⟩), .int .i64 a] w fun e w' => e = .returned (.agg #[.bool false, .bool (nowT l s.dark s.t s.h a).o1, .bool (nowT l s.dark s.t s.h a).o2, .bool (nowT l s.dark s.t s.h a).o3, .bool (nowT l s.dark s.t s.h a).o4, .bool (nowT l s.dark s.t s.h a).o5]) ∧ Below w.heap.size w w' := by
  have hst := fun W hW => Tally.still_k t l s.t a W hW
  have hct := fun W hW => Fib.kit.count_any W c Sc l.fib s.h hW
  have hta := fun W hW => Tally.tach_k t l s.t W hW
  have hbr := fun W hW => Tally.brad_k t l s.t W hW
  unfold nowT
  dsimp only
  have h1 := (h.alloc (.cells #[.bool false, .bool false, .bool false, .bool false, .bool false, .bool false] 65)).drew
  have hN := (Has.new w 65 #[.bool false, .bool false, .bool false, .bool false, .bool false, .bool false]).drew
  have hB : Below w.heap.size w (w.alloc (.cells #[.bool false, .bool false, .bool false, .bool false, .bool false, .bool false] 65)).drew := below_drewN ((Below.refl _ w).alloc (Nat.le_refl _) _) 1
  have HS := Lib.hid (show ∀ W, RhyIs W b t c Sc l s → W.cell? ⟨b, 0, none⟩ = some (.pointer (some ⟨t, 0, none⟩)) ∧ W.cell? ⟨b, 1, none⟩ = some (.pointer (some ⟨c, 0, none⟩)) ∧ W.cell? ⟨b, 2, none⟩ = some (.bool s.dark) ∧ W.cell? ⟨t, 7, none⟩ = some (.int .i64 l.fibN) from fun W hW => ⟨hW.head.cell 0, hW.head.cell 1, hW.head.cell 2, hW.tal.head.cell 7⟩)
  generalize Tally.stillT l s.t a = x2 at *
  generalize Fib.countT l.fib s.h = x3 at *
  generalize Tally.tachT l s.t.rs = x4 at *
  generalize Tally.bradT l s.t.rs = x5 at *
  clear h
  go_enter Try.func38, Try.ntmps38
  go_wp2
  refine Till.begin_ (T := [35]) (S := fun W => W.cell? ⟨b, 0, none⟩ = some (.pointer (some ⟨t, 0, none⟩)) ∧ W.cell? ⟨b, 1, none⟩ = some (.pointer (some ⟨c, 0, none⟩)) ∧ W.cell? ⟨b, 2, none⟩ = some (.bool s.dark) ∧ W.cell? ⟨t, 7, none⟩ = some (.int .i64 l.fibN)) (by kernel_rfl) (by exact HS.out _ h1) (fun hHeld => ?_)
  refine Till.take (i := 0) (v := ?v1) rfl (by kernel_rfl) (by kernel_rfl) (by kernel_rfl) (by kernel_rfl) (by rfl) ?hv1 (by assumption) ?rest1
  case hv1 => first | (intro w hSw; (try dsimp only at hSw); go_simp; done) | (intro w hSw; (try dsimp only at hSw); go_simp; with_reducible rfl)
  (try simp only [Act.put, List.setIfInBounds_toArray, List.set_cons_zero, List.set_cons_succ])
  refine Till.take (i := 1) (v := ?v2) rfl (by kernel_rfl) (by kernel_rfl) (by kernel_rfl) (by kernel_rfl) (by rfl) ?hv2 (by assumption) ?rest2
  case hv2 => first | (intro w hSw; (try dsimp only at hSw); go_simp; done) | (intro w hSw; (try dsimp only at hSw); go_simp; with_reducible rfl)
  (try simp only [Act.put, List.setIfInBounds_toArray, List.set_cons_zero, List.set_cons_succ])
  refine Till.take (i := 2) (v := ?v3) rfl (by kernel_rfl) (by kernel_rfl) (by kernel_rfl) (by kernel_rfl) (by rfl) ?hv3 (by assumption) ?rest3
  case hv3 => first | (intro w hSw; (try dsimp only at hSw); go_simp; done) | (intro w hSw; (try dsimp only at hSw); go_simp; with_reducible rfl)
  (try simp only [Act.put, List.setIfInBounds_toArray, List.set_cons_zero, List.set_cons_succ])
  refine Till.take (i := 3) (v := ?v4) rfl (by kernel_rfl) (by kernel_rfl) (by kernel_rfl) (by kernel_rfl) (by rfl) ?hv4 (by assumption) ?rest4
  case hv4 => first | (intro w hSw; (try dsimp only at hSw); go_simp; done) | (intro w hSw; (try dsimp only at hSw); go_simp; with_reducible rfl)
  (try simp only [Act.put, List.setIfInBounds_toArray, List.set_cons_zero, List.set_cons_succ])
  refine Till.take (i := 4) (v := ?v5) rfl (by kernel_rfl) (by kernel_rfl) (by kernel_rfl) (by kernel_rfl) (by rfl) ?hv5 (by assumption) ?rest5
  case hv5 => first | (intro w hSw; (try dsimp only at hSw); go_simp; done) | (intro w hSw; (try dsimp only at hSw); go_simp; with_reducible rfl)
  (try simp only [Act.put, List.setIfInBounds_toArray, List.set_cons_zero, List.set_cons_succ])
  refine Till.take (i := 5) (v := ?v6) rfl (by kernel_rfl) (by kernel_rfl) (by kernel_rfl) (by kernel_rfl) (by rfl) ?hv6 (by assumption) ?rest6
  case hv6 => first | (intro w hSw; (try dsimp only at hSw); go_simp; done) | (intro w hSw; (try dsimp only at hSw); go_simp; with_reducible rfl)
  (try simp only [Act.put, List.setIfInBounds_toArray, List.set_cons_zero, List.set_cons_succ])
  refine Till.take (i := 6) (v := ?v7) rfl (by kernel_rfl) (by kernel_rfl) (by kernel_rfl) (by kernel_rfl) (by rfl) ?hv7 (by assumption) ?rest7
  case hv7 => first | (intro w hSw; (try dsimp only at hSw); go_simp; done) | (intro w hSw; (try dsimp only at hSw); go_simp; with_reducible rfl)
  (try simp only [Act.put, List.setIfInBounds_toArray, List.set_cons_zero, List.set_cons_succ])
  refine Till.take (i := 7) (v := ?v8) rfl (by kernel_rfl) (by kernel_rfl) (by kernel_rfl) (by kernel_rfl) (by rfl) ?hv8 (by assumption) ?rest8
  case hv8 => first | (intro w hSw; (try dsimp only at hSw); go_simp; done) | (intro w hSw; (try dsimp only at hSw); go_simp; with_reducible rfl)
  (try simp only [Act.put, List.setIfInBounds_toArray, List.set_cons_zero, List.set_cons_succ])
  refine Till.take (i := 8) (v := ?v9) rfl (by kernel_rfl) (by kernel_rfl) (by kernel_rfl) (by kernel_rfl) (by rfl) ?hv9 (by assumption) ?rest9
  case hv9 => first | (intro w hSw; (try dsimp only at hSw); go_simp; done) | (intro w hSw; (try dsimp only at hSw); go_simp; with_reducible rfl)
  (try simp only [Act.put, List.setIfInBounds_toArray, List.set_cons_zero, List.set_cons_succ])
  refine Till.take (i := 10) (v := ?v10) rfl (by kernel_rfl) (by kernel_rfl) (by kernel_rfl) (by kernel_rfl) (by rfl) ?hv10 (by assumption) ?rest10
  case hv10 => first | (intro w hSw; (try dsimp only at hSw); go_simp; done) | (intro w hSw; (try dsimp only at hSw); go_simp; with_reducible rfl)
  (try simp only [Act.put, List.setIfInBounds_toArray, List.set_cons_zero, List.set_cons_succ])
  refine Till.take (i := 11) (v := ?v11) rfl (by kernel_rfl) (by kernel_rfl) (by kernel_rfl) (by kernel_rfl) (by rfl) ?hv11 (by assumption) ?rest11
  case hv11 => first | (intro w hSw; (try dsimp only at hSw); go_simp; done) | (intro w hSw; (try dsimp only at hSw); go_simp; with_reducible rfl)
  (try simp only [Act.put, List.setIfInBounds_toArray, List.set_cons_zero, List.set_cons_succ])
  refine Till.take (i := 12) (v := ?v12) rfl (by kernel_rfl) (by kernel_rfl) (by kernel_rfl) (by kernel_rfl) (by rfl) ?hv12 (by assumption) ?rest12
  case hv12 => first | (intro w hSw; (try dsimp only at hSw); go_simp; done) | (intro w hSw; (try dsimp only at hSw); go_simp; with_reducible rfl)
  (try simp only [Act.put, List.setIfInBounds_toArray, List.set_cons_zero, List.set_cons_succ])
  refine Till.take (i := 13) (v := ?v13) rfl (by kernel_rfl) (by kernel_rfl) (by kernel_rfl) (by kernel_rfl) (by rfl) ?hv13 (by assumption) ?rest13
  case hv13 => first | (intro w hSw; (try dsimp only at hSw); go_simp; done) | (intro w hSw; (try dsimp only at hSw); go_simp; with_reducible rfl)
  (try simp only [Act.put, List.setIfInBounds_toArray, List.set_cons_zero, List.set_cons_succ])
  refine Till.take (i := 15) (v := ?v14) rfl (by kernel_rfl) (by kernel_rfl) (by kernel_rfl) (by kernel_rfl) (by rfl) ?hv14 (by assumption) ?rest14
  case hv14 => first | (intro w hSw; (try dsimp only at hSw); go_simp; done) | (intro w hSw; (try dsimp only at hSw); go_simp; with_reducible rfl)
  (try simp only [Act.put, List.setIfInBounds_toArray, List.set_cons_zero, List.set_cons_succ])
  refine Till.take (i := 16) (v := ?v15) rfl (by kernel_rfl) (by kernel_rfl) (by kernel_rfl) (by kernel_rfl) (by rfl) ?hv15 (by assumption) ?rest15
  case hv15 => first | (intro w hSw; (try dsimp only at hSw); go_simp; done) | (intro w hSw; (try dsimp only at hSw); go_simp; with_reducible rfl)
  (try simp only [Act.put, List.setIfInBounds_toArray, List.set_cons_zero, List.set_cons_succ])
  refine Till.take (i := 17) (v := ?v16) rfl (by kernel_rfl) (by kernel_rfl) (by kernel_rfl) (by kernel_rfl) (by rfl) ?hv16 (by assumption) ?rest16
  case hv16 => first | (intro w hSw; (try dsimp only at hSw); go_simp; done) | (intro w hSw; (try dsimp only at hSw); go_simp; with_reducible rfl)
  (try simp only [Act.put, List.setIfInBounds_toArray, List.set_cons_zero, List.set_cons_succ])
  refine Till.take (i := 18) (v := ?v17) rfl (by kernel_rfl) (by kernel_rfl) (by kernel_rfl) (by kernel_rfl) (by rfl) ?hv17 (by assumption) ?rest17
  case hv17 => first | (intro w hSw; (try dsimp only at hSw); go_simp; done) | (intro w hSw; (try dsimp only at hSw); go_simp; with_reducible rfl)
  (try simp only [Act.put, List.setIfInBounds_toArray, List.set_cons_zero, List.set_cons_succ])
  refine Till.take (i := 19) (v := ?v18) rfl (by kernel_rfl) (by kernel_rfl) (by kernel_rfl) (by kernel_rfl) (by rfl) ?hv18 (by assumption) ?rest18
  case hv18 => first | (intro w hSw; (try dsimp only at hSw); go_simp; done) | (intro w hSw; (try dsimp only at hSw); go_simp; with_reducible rfl)
  (try simp only [Act.put, List.setIfInBounds_toArray, List.set_cons_zero, List.set_cons_succ])
  refine Till.take (i := 20) (v := ?v19) rfl (by kernel_rfl) (by kernel_rfl) (by kernel_rfl) (by kernel_rfl) (by rfl) ?hv19 (by assumption) ?rest19
  case hv19 => first | (intro w hSw; (try dsimp only at hSw); go_simp; done) | (intro w hSw; (try dsimp only at hSw); go_simp; with_reducible rfl)
  (try simp only [Act.put, List.setIfInBounds_toArray, List.set_cons_zero, List.set_cons_succ])
  refine Till.take (i := 21) (v := ?v20) rfl (by kernel_rfl) (by kernel_rfl) (by kernel_rfl) (by kernel_rfl) (by rfl) ?hv20 (by assumption) ?rest20
  case hv20 => first | (intro w hSw; (try dsimp only at hSw); go_simp; done) | (intro w hSw; (try dsimp only at hSw); go_simp; with_reducible rfl)
  (try simp only [Act.put, List.setIfInBounds_toArray, List.set_cons_zero, List.set_cons_succ])
  refine Till.take (i := 22) (v := ?v21) rfl (by kernel_rfl) (by kernel_rfl) (by kernel_rfl) (by kernel_rfl) (by rfl) ?hv21 (by assumption) ?rest21
  case hv21 => first | (intro w hSw; (try dsimp only at hSw); go_simp; done) | (intro w hSw; (try dsimp only at hSw); go_simp; with_reducible rfl)
  (try simp only [Act.put, List.setIfInBounds_toArray, List.set_cons_zero, List.set_cons_succ])
  refine Till.take (i := 24) (v := ?v22) rfl (by kernel_rfl) (by kernel_rfl) (by kernel_rfl) (by kernel_rfl) (by rfl) ?hv22 (by assumption) ?rest22
  case hv22 => first | (intro w hSw; (try dsimp only at hSw); go_simp; done) | (intro w hSw; (try dsimp only at hSw); go_simp; with_reducible rfl)
  (try simp only [Act.put, List.setIfInBounds_toArray, List.set_cons_zero, List.set_cons_succ])
  refine Till.take (i := 25) (v := ?v23) rfl (by kernel_rfl) (by kernel_rfl) (by kernel_rfl) (by kernel_rfl) (by rfl) ?hv23 (by assumption) ?rest23
  case hv23 => first | (intro w hSw; (try dsimp only at hSw); go_simp; done) | (intro w hSw; (try dsimp only at hSw); go_simp; with_reducible rfl)
  (try simp only [Act.put, List.setIfInBounds_toArray, List.set_cons_zero, List.set_cons_succ])
  refine Till.take (i := 26) (v := ?v24) rfl (by kernel_rfl) (by kernel_rfl) (by kernel_rfl) (by kernel_rfl) (by rfl) ?hv24 (by assumption) ?rest24
  case hv24 => first | (intro w hSw; (try dsimp only at hSw); go_simp; done) | (intro w hSw; (try dsimp only at hSw); go_simp; with_reducible rfl)
  (try simp only [Act.put, List.setIfInBounds_toArray, List.set_cons_zero, List.set_cons_succ])
  refine Till.take (i := 27) (v := ?v25) rfl (by kernel_rfl) (by kernel_rfl) (by kernel_rfl) (by kernel_rfl) (by rfl) ?hv25 (by assumption) ?rest25
  case hv25 => first | (intro w hSw; (try dsimp only at hSw); go_simp; done) | (intro w hSw; (try dsimp only at hSw); go_simp; with_reducible rfl)
  (try simp only [Act.put, List.setIfInBounds_toArray, List.set_cons_zero, List.set_cons_succ])
  refine Till.take (i := 29) (v := ?v26) rfl (by kernel_rfl) (by kernel_rfl) (by kernel_rfl) (by kernel_rfl) (by rfl) ?hv26 (by assumption) ?rest26
  case hv26 => first | (intro w hSw; (try dsimp only at hSw); go_simp; done) | (intro w hSw; (try dsimp only at hSw); go_simp; with_reducible rfl)
  (try simp only [Act.put, List.setIfInBounds_toArray, List.set_cons_zero, List.set_cons_succ])
  refine Till.take (i := 30) (v := ?v27) rfl (by kernel_rfl) (by kernel_rfl) (by kernel_rfl) (by kernel_rfl) (by rfl) ?hv27 (by assumption) ?rest27
  case hv27 => first | (intro w hSw; (try dsimp only at hSw); go_simp; done) | (intro w hSw; (try dsimp only at hSw); go_simp; with_reducible rfl)
  (try simp only [Act.put, List.setIfInBounds_toArray, List.set_cons_zero, List.set_cons_succ])
  refine Till.take (i := 31) (v := ?v28) rfl (by kernel_rfl) (by kernel_rfl) (by kernel_rfl) (by kernel_rfl) (by rfl) ?hv28 (by assumption) ?rest28
  case hv28 => first | (intro w hSw; (try dsimp only at hSw); go_simp; done) | (intro w hSw; (try dsimp only at hSw); go_simp; with_reducible rfl)
  (try simp only [Act.put, List.setIfInBounds_toArray, List.set_cons_zero, List.set_cons_succ])
  refine Till.take (i := 32) (v := ?v29) rfl (by kernel_rfl) (by kernel_rfl) (by kernel_rfl) (by kernel_rfl) (by rfl) ?hv29 (by assumption) ?rest29
  case hv29 => first | (intro w hSw; (try dsimp only at hSw); go_simp; done) | (intro w hSw; (try dsimp only at hSw); go_simp; with_reducible rfl)
  (try simp only [Act.put, List.setIfInBounds_toArray, List.set_cons_zero, List.set_cons_succ])
  generalize ((w.alloc (.cells #[.bool false, .bool false, .bool false, .bool false, .bool false, .bool false] 65)).drew) = W1 at *
  refine Till.call (i := 9) rfl (by kernel_rfl) (by rfl) ?_
  intro K hK
  go_simp
  go_at_call 48
  (refine Calls.mono (by exact hst W1 h1.tal) ?_)
  rintro e W2 ⟨rfl, hB2⟩
  have h2 := h1.below hB2
  clear hHeld
  refine hK.out _ _ (by exact (HS.out _ h2)) (fun hHeld => ?_)
  clear hK K
  (try simp only [Act.put, List.setIfInBounds_toArray, List.set_cons_zero, List.set_cons_succ])
  refine Till.call (i := 14) rfl (by kernel_rfl) (by rfl) ?_
  intro K hK
  go_simp
  go_at_call 49
  (refine Calls.mono (by exact hct W2 h2.cnt) ?_)
  rintro e W3 ⟨rfl, hB3⟩
  have h3 := h2.below hB3
  clear hHeld
  refine hK.out _ _ (by exact (HS.out _ h3)) (fun hHeld => ?_)
  clear hK K
  (try simp only [Act.put, List.setIfInBounds_toArray, List.set_cons_zero, List.set_cons_succ])
  refine Till.take (i := 23) (v := ?v30) rfl (by kernel_rfl) (by kernel_rfl) (by kernel_rfl) (by kernel_rfl) (by rfl) ?hv30 (by assumption) ?rest30
  case hv30 => first | (intro w hSw; (try dsimp only at hSw); go_simp; done) | (intro w hSw; (try dsimp only at hSw); go_simp; with_reducible rfl)
  (try simp only [Act.put, List.setIfInBounds_toArray, List.set_cons_zero, List.set_cons_succ])
  refine Till.call (i := 28) rfl (by kernel_rfl) (by rfl) ?_
  intro K hK
  go_simp
  go_at_call 50
  (refine Calls.mono (by exact hta W3 h3.tal) ?_)
  rintro e W4 ⟨rfl, hB4⟩
  have h4 := h3.below hB4
  clear hHeld
  refine hK.out _ _ (by exact (HS.out _ h4)) (fun hHeld => ?_)
  clear hK K
  (try simp only [Act.put, List.setIfInBounds_toArray, List.set_cons_zero, List.set_cons_succ])
  refine Till.call (i := 33) rfl (by kernel_rfl) (by rfl) ?_
  intro K hK
  go_simp
  go_at_call 51
  (refine Calls.mono (by exact hbr W4 h4.tal) ?_)
  rintro e W5 ⟨rfl, hB5⟩
  have h5 := h4.below hB5
  clear hHeld
  refine hK.out _ _ (by exact (HS.out _ h5)) (fun hHeld => ?_)
  clear hK K
  (try simp only [Act.put, List.setIfInBounds_toArray, List.set_cons_zero, List.set_cons_succ])
  refine Till.take (i := 34) (v := ?v31) rfl (by kernel_rfl) (by kernel_rfl) (by kernel_rfl) (by kernel_rfl) (by rfl) ?hv31 (by assumption) ?rest31
  case hv31 => first | (intro w hSw; (try dsimp only at hSw); go_simp; done) | (intro w hSw; (try dsimp only at hSw); go_simp; with_reducible rfl)
  (try simp only [Act.put, List.setIfInBounds_toArray, List.set_cons_zero, List.set_cons_succ])
  have hB6 := hB2.trans ((hB3.trans ((hB4.trans (hB5.mono hB4.size)).mono hB3.size)).mono hB2.size)
  have hN5 := hN.below hB6 hN.lt
  have hB7 := hB.trans (hB6.mono hB.size)
  clear hHeld hB hB6 hB5 hB4 hB3 hB2 h5 h4 h3 h2 h1 hst hct hta hbr hN
  have f0 := hN5.frozen 0
  have f1 := hN5.frozen 1
  have f2 := hN5.frozen 2
  have f3 := hN5.frozen 3
  have f4 := hN5.frozen 4
  have f5 := hN5.frozen 5
  have d0 := hN5.cell 0
  have d1 := hN5.cell 1
  have d2 := hN5.cell 2
  have d3 := hN5.cell 3
  have d4 := hN5.cell 4
  have d5 := hN5.cell 5
  refine Till.put (i := 35) rfl (by kernel_rfl) (by rfl) (by rfl) ?_
  intro K hK
  go_simp
  refine hK.out _ _ ?_
  clear hK K
  (try simp only [Act.put, List.setIfInBounds_toArray, List.set_cons_zero, List.set_cons_succ])
  refine Till.done (by kernel_rfl) ?_ _
  clear f0 f1 f2 f3 f4 f5 d0 d1 d2 d3 d4 d5
  have hN6 := (((((hN5.set_ 0 (.bool false)).set_ 1 (.bool s.dark)).set_ 2 (.bool x2)).set_ 3 (.bool (decide (l.fibN ≤ x3)))).set_ 4 (.bool x4)).set_ 5 (.bool x5)
  have hK6 := ((((((Kept.refl [w.heap.size] W5).setCell (p := ⟨w.heap.size, 0, none⟩) (.inl (by simp)) (.bool false)).setCell (p := ⟨w.heap.size, 1, none⟩) (.inl (by simp)) (.bool s.dark)).setCell (p := ⟨w.heap.size, 2, none⟩) (.inl (by simp)) (.bool x2)).setCell (p := ⟨w.heap.size, 3, none⟩) (.inl (by simp)) (.bool (decide (l.fibN ≤ x3)))).setCell (p := ⟨w.heap.size, 4, none⟩) (.inl (by simp)) (.bool x4)).setCell (p := ⟨w.heap.size, 5, none⟩) (.inl (by simp)) (.bool x5)
  have hB8 := below_kept hB7 hK6 hB7.size (fun k hk => by simp at hk; omega)
  have c0 := hN6.cell 0
  have c1 := hN6.cell 1
  have c2 := hN6.cell 2
  have c3 := hN6.cell 3
  have c4 := hN6.cell 4
  have c5 := hN6.cell 5
  clear hK6 hN6 hN5 hB7 HS
  generalize ((((((W5.setCell ⟨w.heap.size, 0, none⟩ (.bool false)).setCell ⟨w.heap.size, 1, none⟩ (.bool s.dark)).setCell ⟨w.heap.size, 2, none⟩ (.bool x2)).setCell ⟨w.heap.size, 3, none⟩ (.bool (decide (l.fibN ≤ x3)))).setCell ⟨w.heap.size, 4, none⟩ (.bool x4)).setCell ⟨w.heap.size, 5, none⟩ (.bool x5)) = W6 at *
  go_wp2
  refine bodyPost_ret (v := .agg #[.bool false, .bool s.dark, .bool x2, .bool (decide (l.fibN ≤ x3)), .bool x4, .bool x5]) (by simp [results, Try.results38, go_sem, c0, c1, c2, c3, c4, c5]) rfl ⟨rfl, hB8⟩
end Go.Proofs.Ytpmjgomfjfhfkaa.Rhythm
