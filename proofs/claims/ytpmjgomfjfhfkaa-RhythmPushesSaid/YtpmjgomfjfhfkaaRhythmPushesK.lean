/- RhythmPushes, over whatever a rhythm's calls answer. -/
import Derived.Test.YtpmjgomfjfhfkaaRhythmMarks
import Derived.Test.YtpmjgomfjfhfkaaRhythmArgs
import Derived.Test.YtpmjgomfjfhfkaaRhythmRef3
import Derived.Test.YtpmjgomfjfhfkaaTallyLim
import Derived.Test.YtpmjgomfjfhfkaaRegion
set_option linter.unusedSimpArgs false
set_option linter.unusedVariables false
namespace Go.Proofs.Ytpmjgomfjfhfkaa.Rhythm
open Go.RowKit
open Tally (Lim May mayT limV limC stV)
theorem row_dropIf {α : Type} {S : Row.Shape α} {w : World} {a : Option Addr} {len cap : Nat} {ys : List α} (h : Row.Vals S w a len ys) (p : Nat) (hp : p ≤ len) (hc : len ≤ cap) : Row.Vals S w (if cap = p then a else a.map (fun x => x.add (p * S.k))) (len - p) (ys.drop p) := by
  have hl := h.len_
  refine ⟨by rw [List.length_drop]; omega, fun h0 => ?_⟩
  obtain ⟨x, hx, hc⟩ := h.cells (by omega)
  subst hx
  rw [if_neg (by omega)]
  refine ⟨x.add (p * S.k), rfl, fun j u hu => ?_⟩
  rw [show (x.add (p * S.k)).add j = x.add (p * S.k + j) by
    unfold Addr.add
    by_cases h1 : p * S.k = 0 <;> by_cases h2 : j = 0 <;> simp [h1, h2, Nat.add_assoc]]
  refine hc _ u ?_
  have hf : Row.flat S ys = Row.flat S (ys.take p) ++ Row.flat S (ys.drop p) := by rw [← Row.flat_append, List.take_append_drop]
  rw [hf, List.getElem?_append_right (by rw [Row.flat_length, List.length_take, Nat.min_eq_left (by omega)]; omega), Row.flat_length, List.length_take, Nat.min_eq_left (by omega), Nat.add_sub_cancel_left]
  exact hu
set_option maxHeartbeats 1000000 in
theorem same_yes (A B : Option Addr) (n c d : Nat) (ys : List Cd) (w : World) (hv : Row.Vals cdS w A n ys) (hu : Row.Vals cdS w B n ys) (hn : n ≤ 1000000) :
    Calls Try.prog 14 #[.slice A n c, .slice B n d] w fun e w' => e = .returned (.bool true) ∧ ∃ z, w' = w.drewN z := by
  go_enter Try.func14, Try.ntmps14
  go_wp2
  go_loopw [5] (fun i wr => (∃ k : Nat, k ≤ n ∧ i = .int .i64 (k : Nat)) ∧ ∃ z, wr = w.drewN z) (fun i _ => n - (intOf i).toNat)
  case atStart => exact ⟨⟨0, by omega, rfl⟩, 0, rfl⟩
  case round =>
    obtain ⟨⟨k, hk, rfl⟩, z, rfl⟩ := hrel
    by_cases hlt : k < n
    · obtain ⟨x, rfl, _⟩ := hv.cells (by omega)
      obtain ⟨y, rfl, _⟩ := hu.cells (by omega)
      obtain ⟨x0, x1, x2⟩ := cd_cells hv k hlt
      obtain ⟨y0, y1, y2⟩ := cd_cells hu k hlt
      generalize (ys.getD k noCd).1 = a at *
      generalize (ys.getD k noCd).2.1 = b at *
      generalize (ys.getD k noCd).2.2 = q at *
      have hg := fun (W : World) (x y : Operand) => guard_neq W x y a b a b q q
      have hc : ∀ W : World, (binOp .neq 52 (.agg #[.int .i64 a, .int .i64 b, .bool q]) (.agg #[.int .i64 a, .int .i64 b, .bool q])).run Try.prog W = .ok (.bool false) W := fun W => by rw [neq_cd]; simp
      clear hu hv
      go_wp2
      go_quiet (fail)
      go_wp2
      go_roundw
      case rel => exact ⟨⟨k + 1, by omega, by go_num⟩, _, by first | rfl | rw [World.drewN_drewN]⟩
      case measure => simp [intOf]; omega
    · obtain rfl : k = n := by omega
      clear hu hv
      go_wp2
      go_ret
      exact ⟨rfl, z, rfl⟩
theorem step_h (l : Lim) (s : St) (m : Mk) : (stepT l s m).h.length ≤ s.h.length + 1 := by
  unfold stepT takeT
  split
  · split
    · simp
    split
    · simp
    split
    · simp
    split
    · simp
    · simp
  · omega
theorem run_h (l : Lim) : ∀ (ms : List Mk) (s : St), (runT l s ms).h.length ≤ s.h.length + ms.length
  | [], s => by simp [runT]
  | m :: ms, s => by
    have h1 := step_h l s m
    have h2 := run_h l ms (stepT l s m)
    show (runT l (stepT l s m) ms).h.length ≤ s.h.length + (ms.length + 1)
    omega
theorem take_more (ms : List Mk) (k : Nat) (hk : k < ms.length) : ms.take (k + 1) = ms.take k ++ [ms.getD k noMk] := by
  rw [List.take_succ_eq_append_getElem hk, List.getD_eq_getElem?_getD, List.getElem?_eq_getElem hk]
  rfl
/-- Where the loops stand: the limits' box is the first new block, the reference's state lies in gs. -/
structure Pu (Rhy : World → Nat → List Nat → Lim → St → Prop) (w : World) (b : Nat) (S : List Nat) (l : Lim) (base gs : Nat) (AM : Option Addr) (M : List Mk) (sr s : St) (E : List Cd) (A : Option Addr) (ca : Nat) (B : Option Addr) (cb : Nat) (C : Option Addr) (cc : Nat) (W : World) : Prop where
  mr : Mr Rhy w b S l sr W
  lim : Has W w.heap.size 23 (limC l)
  box : Has W gs 41 (refC l s A ca B cb C E.length cc)
  R : RfIs W base s E A ca B cb C cc
  row : Row.Vals mkS W AM M.length M
  aL : ∀ x, AM = some x → x.block ≠ gs ∧ x.block ∉ S
  gL : w.heap.size < gs ∧ gs < base
  gS : gs ∉ S
  lS : w.heap.size ∉ S
  sL : ∀ k ∈ S, k < base
  base_ : base ≤ W.heap.size
section
variable {Rhy : World → Nat → List Nat → Lim → St → Prop} (K : RhyKit Rhy) {w W W' : World} {b base gs : Nat} {S : List Nat} {l : Lim} {AM A B C A' B' C' : Option Addr} {M : List Mk} {sr s sr' s' : St} {E E' : List Cd} {ca cb cc ca' cb' cc' : Nat}
include K
theorem Pu.grow (h : Pu Rhy w b S l base gs AM M sr s E A ca B cb C cc W) (hB : Below W.heap.size W W') : Pu Rhy w b S l base gs AM M sr s E A ca B cb C cc W' :=
  ⟨Mr.grow K h.mr hB, h.lim.below hB h.lim.lt, h.box.below hB h.box.lt, h.R.below hB, h.row.below hB, h.aL, h.gL, h.gS, h.lS, h.sL, Nat.le_trans h.base_ hB.size⟩
omit K in
theorem Pu.pushed (h : Pu Rhy w b S l base gs AM M sr s E A ca B cb C cc W) (hM : Mr Rhy w b S l sr' W') (hK : Kept S W W') : Pu Rhy w b S l base gs AM M sr' s E A ca B cb C cc W' :=
  ⟨hM, hK.has h.lim h.lS, hK.has h.box h.gS, h.R.kept hK h.sL, h.row.kept hK (fun _ x hx => (h.aL x hx).2), h.aL, h.gL, h.gS, h.lS, h.sL, Nat.le_trans h.base_ hK.size⟩
theorem Pu.stored (h : Pu Rhy w b S l base gs AM M sr s E A ca B cb C cc W) (hB : Below W.heap.size W W') (hR : RfIs W' base s' E' A' ca' B' cb' C' cc') : Pu Rhy w b S l base gs AM M sr s' E' A' ca' B' cb' C' cc' (W'.setRow gs (refC l s' A' ca' B' cb' C' E'.length cc')) := by
  have hg := Pu.grow K h hB
  have hK := kept_row W' gs (refC l s' A' ca' B' cb' C' E'.length cc')
  exact ⟨Mr.late K hg.mr hK (fun k hk => by simp at hk; subst hk; exact ⟨by have := h.gL; omega, h.gS⟩), hg.lim.farRow (by have := h.gL; omega) _, hg.box.row _, hR.kept hK (fun k hk => by simp at hk; subst hk; exact h.gL.2), hg.row.kept hK (fun _ x hx hk => (h.aL x hx).1 (by simpa using hk)), h.aL, h.gL, h.gS, h.lS, h.sL, Nat.le_trans hg.base_ hK.size⟩
end
set_option maxRecDepth 100000 in
set_option maxHeartbeats 8000000 in
theorem pushes_k {Rhy : World → Nat → List Nat → Lim → St → Prop} (K : RhyKit Rhy) (l : Lim) (a1 : Int) (a2 : Option Addr) (len2 cap2 : Nat) (z2 : List Rn) (a3 : Option Addr) (len3 cap3 : Nat) (z3 : List Mk) (w : World) (w1 : 0 ≤ a1 ∧ a1 ≤ 65535) (w2 : Row.IsFlat rnS RnOk w a2 len2 cap2 z2) (w3 : Row.IsFlat mkS MkOk w a3 len3 cap3 z3) :
    Calls Try.prog 3 #[limV l, .int .u16 a1, .slice a2 len2 cap2, .slice a3 len3 cap3] w fun e w' => e = .returned (.bool true) ∧ Below w.heap.size w w' := by
  have hli := fun W => live_k K W
  have hrc := fun W => Tally.refcheck_any l W
  have hH0 := Has.new w 23 (limC l)
  have hB0 := (Below.refl w.heap.size w).alloc (Nat.le_refl _) (.cells (limC l) 23)
  obtain ⟨p, hp⟩ : ∃ p, min len3 40 = p := ⟨_, rfl⟩
  have hp1 : p ≤ len3 := by omega
  have hp2 : p ≤ 40 := by omega
  have hminA : (if (40 : Int) < (len3 : Int) then (40 : Int) else (len3 : Int)) = (p : Int) := by split <;> omega
  have hp3 : p ≤ cap3 := by have := w3.le; omega
  clear hp
  cases hm : mayT l with
  | false =>
    have hnw := fun W => K.new_no W l hm
    have hall := fun W => K.all_no W l a3 p cap3 hm
    rw [hm] at hrc
    clear hm w2 w3
    obtain ⟨l0, l1, l2, l3, l4, l5, l6, l7, l8⟩ := l
    unfold limV at hnw hrc hall ⊢
    unfold limC at hB0 hH0
    dsimp only at hnw hB0 hH0 hrc hall ⊢
    go_enter Try.func3, Try.ntmps3
    go_wp2_with (go_at_call 8; ((with_reducible refine (hnw _).mono ?_); rintro e W1 ⟨rfl, hB1⟩; have hB2 := hB0.trans (hB1.mono hB0.size); have hH1 := hH0.below hB1 hH0.lt))
    have hHd := hH1.drew
    have hBd := below_drewN hB2 1
    change Below w.heap.size w W1.drew at hBd
    have HC := Lib.hid (show ∀ W, Has W w.heap.size 23 #[.int .i64 l0, .int .i64 l1, .int .i64 l2, .int .i64 l3, .int .i64 l4, .int .i64 l5, .int .i64 l6, .int .i64 l7, .int .i64 l8] → W.cell? ⟨w.heap.size, 0, none⟩ = some (.int .i64 l0) ∧ W.cell? ⟨w.heap.size, 1, none⟩ = some (.int .i64 l1) ∧ W.cell? ⟨w.heap.size, 2, none⟩ = some (.int .i64 l2) ∧ W.cell? ⟨w.heap.size, 3, none⟩ = some (.int .i64 l3) ∧ W.cell? ⟨w.heap.size, 4, none⟩ = some (.int .i64 l4) ∧ W.cell? ⟨w.heap.size, 5, none⟩ = some (.int .i64 l5) ∧ W.cell? ⟨w.heap.size, 6, none⟩ = some (.int .i64 l6) ∧ W.cell? ⟨w.heap.size, 7, none⟩ = some (.int .i64 l7) ∧ W.cell? ⟨w.heap.size, 8, none⟩ = some (.int .i64 l8) from fun W hW => ⟨hW.cell 0, hW.cell 1, hW.cell 2, hW.cell 3, hW.cell 4, hW.cell 5, hW.cell 6, hW.cell 7, hW.cell 8⟩)
    clear hB0 hH0 hB1 hB2 hH1 hnw
    refine Reg.begin_ (S := fun W => W.cell? ⟨w.heap.size, 0, none⟩ = some (.int .i64 l0) ∧ W.cell? ⟨w.heap.size, 1, none⟩ = some (.int .i64 l1) ∧ W.cell? ⟨w.heap.size, 2, none⟩ = some (.int .i64 l2) ∧ W.cell? ⟨w.heap.size, 3, none⟩ = some (.int .i64 l3) ∧ W.cell? ⟨w.heap.size, 4, none⟩ = some (.int .i64 l4) ∧ W.cell? ⟨w.heap.size, 5, none⟩ = some (.int .i64 l5) ∧ W.cell? ⟨w.heap.size, 6, none⟩ = some (.int .i64 l6) ∧ W.cell? ⟨w.heap.size, 7, none⟩ = some (.int .i64 l7) ∧ W.cell? ⟨w.heap.size, 8, none⟩ = some (.int .i64 l8)) (by kernel_rfl) (by exact HC.out _ hHd) (fun hHeld => ?_)
    generalize W1.drew = W2 at *
    refine Reg.take (i := 0) (v := ?v1) rfl (by kernel_rfl) (by kernel_rfl) (by kernel_rfl) (by rfl) ?hv1 (by assumption) ?rest1
    case hv1 => first | (intro w hSw; (try dsimp only at hSw); go_simp; done) | (intro w hSw; (try dsimp only at hSw); go_simp; with_reducible rfl)
    (try simp only [Act.put, List.setIfInBounds_toArray, List.set_cons_zero, List.set_cons_succ])
    refine Reg.call (i := 1) rfl (by kernel_rfl) (by rfl) ?_
    intro K1 hK1
    go_simp
    go_at_call 9
    (with_reducible refine (hrc _).mono ?_)
    rintro e W3 ⟨rfl, hB3⟩
    have hH3 := hHd.below hB3 hHd.lt
    have hB4 := hBd.trans (hB3.mono hBd.size)
    clear hHeld
    refine hK1.out _ _ (by exact (HC.out _ hH3)) (fun hHeld => ?_)
    clear hK1 K1
    (try simp only [Act.put, List.setIfInBounds_toArray, List.set_cons_zero, List.set_cons_succ])
    refine Reg.take (i := 2) (v := ?v2) rfl (by kernel_rfl) (by kernel_rfl) (by kernel_rfl) (by rfl) ?hv2 (by assumption) ?rest2
    case hv2 => first | (intro w hSw; (try dsimp only at hSw); go_simp; done) | (intro w hSw; (try dsimp only at hSw); go_simp; with_reducible rfl)
    (try simp only [Act.put, List.setIfInBounds_toArray, List.set_cons_zero, List.set_cons_succ])
    refine Reg.take (i := 3) (v := ?v3) rfl (by kernel_rfl) (by kernel_rfl) (by kernel_rfl) (by rfl) ?hv3 (by assumption) ?rest3
    case hv3 => first | (intro w hSw; (try dsimp only at hSw); go_simp; done) | (intro w hSw; (try dsimp only at hSw); go_simp; with_reducible rfl)
    (try simp only [Act.put, List.setIfInBounds_toArray, List.set_cons_zero, List.set_cons_succ])
    refine Reg.take (i := 4) (v := ?v4) rfl (by kernel_rfl) (by kernel_rfl) (by kernel_rfl) (by rfl) ?hv4 (by assumption) ?rest4
    case hv4 => first | (intro w hSw; (try dsimp only at hSw); go_simp; done) | (intro w hSw; (try dsimp only at hSw); go_simp; with_reducible rfl)
    (try simp only [Act.put, List.setIfInBounds_toArray, List.set_cons_zero, List.set_cons_succ])
    refine Reg.take (i := 5) (v := ?v5) rfl (by kernel_rfl) (by kernel_rfl) (by kernel_rfl) (by rfl) ?hv5 (by assumption) ?rest5
    case hv5 => first | (intro w hSw; (try dsimp only at hSw); go_simp; done) | (intro w hSw; (try dsimp only at hSw); go_simp; with_reducible rfl)
    (try simp only [Act.put, List.setIfInBounds_toArray, List.set_cons_zero, List.set_cons_succ])
    refine Reg.take (i := 6) (v := ?v6) rfl (by kernel_rfl) (by kernel_rfl) (by kernel_rfl) (by rfl) ?hv6 (by assumption) ?rest6
    case hv6 => first | (intro w hSw; (try dsimp only at hSw); go_simp; done) | (intro w hSw; (try dsimp only at hSw); go_simp; with_reducible rfl)
    (try simp only [Act.put, List.setIfInBounds_toArray, List.set_cons_zero, List.set_cons_succ])
    refine Reg.take (i := 7) (v := ?v7) rfl (by kernel_rfl) (by kernel_rfl) (by kernel_rfl) (by rfl) ?hv7 (by assumption) ?rest7
    case hv7 => first | (intro w hSw; (try dsimp only at hSw); go_simp; done) | (intro w hSw; (try dsimp only at hSw); go_simp; with_reducible rfl)
    (try simp only [Act.put, List.setIfInBounds_toArray, List.set_cons_zero, List.set_cons_succ])
    refine Reg.take (i := 8) (v := ?v8) rfl (by kernel_rfl) (by kernel_rfl) (by kernel_rfl) (by rfl) ?hv8 (by assumption) ?rest8
    case hv8 => first | (intro w hSw; (try dsimp only at hSw); go_simp; done) | (intro w hSw; (try dsimp only at hSw); go_simp; with_reducible rfl)
    (try simp only [Act.put, List.setIfInBounds_toArray, List.set_cons_zero, List.set_cons_succ])
    refine Reg.take (i := 9) (v := ?v9) rfl (by kernel_rfl) (by kernel_rfl) (by kernel_rfl) (by rfl) ?hv9 (by assumption) ?rest9
    case hv9 => first | (intro w hSw; (try dsimp only at hSw); go_simp; done) | (intro w hSw; (try dsimp only at hSw); go_simp; with_reducible rfl)
    (try simp only [Act.put, List.setIfInBounds_toArray, List.set_cons_zero, List.set_cons_succ])
    refine Reg.take (i := 10) (v := ?v10) rfl (by kernel_rfl) (by kernel_rfl) (by kernel_rfl) (by rfl) ?hv10 (by assumption) ?rest10
    case hv10 => first | (intro w hSw; (try dsimp only at hSw); go_simp; done) | (intro w hSw; (try dsimp only at hSw); go_simp; with_reducible rfl)
    (try simp only [Act.put, List.setIfInBounds_toArray, List.set_cons_zero, List.set_cons_succ])
    refine Reg.take (i := 11) (v := ?v11) rfl (by kernel_rfl) (by kernel_rfl) (by kernel_rfl) (by rfl) ?hv11 (by assumption) ?rest11
    case hv11 => first | (intro w hSw; (try dsimp only at hSw); go_simp; done) | (intro w hSw; (try dsimp only at hSw); go_simp; with_reducible rfl)
    (try simp only [Act.put, List.setIfInBounds_toArray, List.set_cons_zero, List.set_cons_succ])
    refine Reg.take (i := 12) (v := ?v12) rfl (by kernel_rfl) (by kernel_rfl) (by kernel_rfl) (by rfl) ?hv12 (by assumption) ?rest12
    case hv12 => first | (intro w hSw; (try dsimp only at hSw); go_simp; done) | (intro w hSw; (try dsimp only at hSw); go_simp; with_reducible rfl)
    (try simp only [Act.put, List.setIfInBounds_toArray, List.set_cons_zero, List.set_cons_succ])
    refine Reg.take (i := 13) (v := ?v13) rfl (by kernel_rfl) (by kernel_rfl) (by kernel_rfl) (by rfl) ?hv13 (by assumption) ?rest13
    case hv13 => first | (intro w hSw; (try dsimp only at hSw); go_simp; done) | (intro w hSw; (try dsimp only at hSw); go_simp; with_reducible rfl)
    (try simp only [Act.put, List.setIfInBounds_toArray, List.set_cons_zero, List.set_cons_succ])
    refine Reg.take (i := 14) (v := ?v14) rfl (by kernel_rfl) (by kernel_rfl) (by kernel_rfl) (by rfl) ?hv14 (by assumption) ?rest14
    case hv14 => first | (intro w hSw; (try dsimp only at hSw); go_simp; done) | (intro w hSw; (try dsimp only at hSw); go_simp; with_reducible rfl)
    (try simp only [Act.put, List.setIfInBounds_toArray, List.set_cons_zero, List.set_cons_succ])
    refine Reg.take (i := 15) (v := ?v15) rfl (by kernel_rfl) (by kernel_rfl) (by kernel_rfl) (by rfl) ?hv15 (by assumption) ?rest15
    case hv15 => first | (intro w hSw; (try dsimp only at hSw); go_simp; done) | (intro w hSw; (try dsimp only at hSw); go_simp; with_reducible rfl)
    (try simp only [Act.put, List.setIfInBounds_toArray, List.set_cons_zero, List.set_cons_succ])
    refine Reg.take (i := 16) (v := ?v16) rfl (by kernel_rfl) (by kernel_rfl) (by kernel_rfl) (by rfl) ?hv16 (by assumption) ?rest16
    case hv16 => first | (intro w hSw; (try dsimp only at hSw); go_simp; done) | (intro w hSw; (try dsimp only at hSw); go_simp; with_reducible rfl)
    (try simp only [Act.put, List.setIfInBounds_toArray, List.set_cons_zero, List.set_cons_succ])
    refine Reg.take (i := 17) (v := ?v17) rfl (by kernel_rfl) (by kernel_rfl) (by kernel_rfl) (by rfl) ?hv17 (by assumption) ?rest17
    case hv17 => first | (intro w hSw; (try dsimp only at hSw); go_simp; done) | (intro w hSw; (try dsimp only at hSw); go_simp; with_reducible rfl)
    (try simp only [Act.put, List.setIfInBounds_toArray, List.set_cons_zero, List.set_cons_succ])
    refine Reg.call (i := 18) rfl (by kernel_rfl) (by rfl) ?_
    intro K1 hK1
    go_simp
    go_at_call 10
    (with_reducible refine (hall _).mono ?_)
    rintro e W5 ⟨B5, d5, rfl, hB5⟩
    have hH5 := hH3.below hB5 hH3.lt
    have hB6 := hB4.trans (hB5.mono hB4.size)
    clear hHeld
    refine hK1.out _ _ (by exact (HC.out _ hH5)) (fun hHeld => ?_)
    clear hK1 K1
    (try simp only [Act.put, List.setIfInBounds_toArray, List.set_cons_zero, List.set_cons_succ])
    refine Reg.take (i := 19) (v := ?v18) rfl (by kernel_rfl) (by kernel_rfl) (by kernel_rfl) (by rfl) ?hv18 (by assumption) ?rest18
    case hv18 => first | (intro w hSw; (try dsimp only at hSw); go_simp; done) | (intro w hSw; (try dsimp only at hSw); go_simp; with_reducible rfl)
    (try simp only [Act.put, List.setIfInBounds_toArray, List.set_cons_zero, List.set_cons_succ])
    refine Reg.take (i := 20) (v := ?v19) rfl (by kernel_rfl) (by kernel_rfl) (by kernel_rfl) (by rfl) ?hv19 (by assumption) ?rest19
    case hv19 => first | (intro w hSw; (try dsimp only at hSw); go_simp; done) | (intro w hSw; (try dsimp only at hSw); go_simp; with_reducible rfl)
    (try simp only [Act.put, List.setIfInBounds_toArray, List.set_cons_zero, List.set_cons_succ])
    refine Reg.take (i := 21) (v := ?v20) rfl (by kernel_rfl) (by kernel_rfl) (by kernel_rfl) (by rfl) ?hv20 (by assumption) ?rest20
    case hv20 => first | (intro w hSw; (try dsimp only at hSw); go_simp; done) | (intro w hSw; (try dsimp only at hSw); go_simp; with_reducible rfl)
    (try simp only [Act.put, List.setIfInBounds_toArray, List.set_cons_zero, List.set_cons_succ])
    refine Reg.take (i := 22) (v := ?v21) rfl (by kernel_rfl) (by kernel_rfl) (by kernel_rfl) (by rfl) ?hv21 (by assumption) ?rest21
    case hv21 => first | (intro w hSw; (try dsimp only at hSw); go_simp; done) | (intro w hSw; (try dsimp only at hSw); go_simp; with_reducible rfl)
    (try simp only [Act.put, List.setIfInBounds_toArray, List.set_cons_zero, List.set_cons_succ])
    refine Reg.call (i := 23) rfl (by kernel_rfl) (by rfl) ?_
    intro K1 hK1
    go_simp
    go_at_call 11
    (with_reducible refine (hli _).mono ?_)
    rintro e W7 ⟨rfl, hB7⟩
    have hH7 := hH5.below hB7 hH5.lt
    have hB8 := hB6.trans (hB7.mono hB6.size)
    clear hHeld
    refine hK1.out _ _ (by exact (HC.out _ hH7)) (fun hHeld => ?_)
    clear hK1 K1
    (try simp only [Act.put, List.setIfInBounds_toArray, List.set_cons_zero, List.set_cons_succ])
    refine Reg.take (i := 24) (v := ?v22) rfl (by kernel_rfl) (by kernel_rfl) (by kernel_rfl) (by rfl) ?hv22 (by assumption) ?rest22
    case hv22 => first | (intro w hSw; (try dsimp only at hSw); go_simp; done) | (intro w hSw; (try dsimp only at hSw); go_simp; with_reducible rfl)
    (try simp only [Act.put, List.setIfInBounds_toArray, List.set_cons_zero, List.set_cons_succ])
    refine Reg.take (i := 25) (v := ?v23) rfl (by kernel_rfl) (by kernel_rfl) (by kernel_rfl) (by rfl) ?hv23 (by assumption) ?rest23
    case hv23 => first | (intro w hSw; (try dsimp only at hSw); go_simp; done) | (intro w hSw; (try dsimp only at hSw); go_simp; with_reducible rfl)
    (try simp only [Act.put, List.setIfInBounds_toArray, List.set_cons_zero, List.set_cons_succ])
    refine Reg.done (by kernel_rfl) ?_ _
    go_wp2
    go_ret
    exact ⟨rfl, hB8⟩
  | true =>
    have hnw := fun W => K.new_yes W l hm
    have hmay := Tally.may_of hm
    have hmk := fun W hV => marks_any a1 a2 len2 cap2 z2 W w1 hV w2.each w2.le w2.max
    have hV2 := w2.row
    have hV3 := (w3.row).take p hp1
    have hLm := marks_len w2.each a1 (min len2 20)
    have hall := fun W A n c ms hV hn => K.all_yes W l A n c ms hm hV hn
    rw [hm] at hrc
    have hfar3 := w3.far
    clear hm w2 w3
    obtain ⟨M1, hM1⟩ : ∃ M1, marksK a1 z2 (min len2 20) = M1 := ⟨_, rfl⟩
    rw [hM1] at hLm
    simp only [hM1] at hmk
    have HL1 := Lib.hid (show M1.length ≤ 5120 by omega)
    clear hLm hM1
    obtain ⟨M, hM⟩ : ∃ M, M1 ++ z3.take p = M := ⟨_, rfl⟩
    have hMl : M1.length + p = M.length := by rw [← hM, List.length_append, hV3.len_]
    have HMl := Lib.hid hMl
    have HM := Lib.hid hM
    clear hMl hM
    have HInfo := Lib.hid (show (Try.prog.info? 45).map (fun i => (i.zero, i.size, i.bytes)) = some (some (.agg #[.int .i64 0, .int .i64 0, .int .i64 0, .int .i64 0, .int .i64 0, .int .i64 0, .bool false]), 7, 56) by kernel_rfl)
    have hwr1 : IntKind.i64.wrap a1 = a1 := by rw [IntKind.wrap_i64]; omega
    have hnw1 := hnw
    unfold limV at hnw1 ⊢
    have hB0' := hB0
    unfold limC at hB0'
    go_enter Try.func3, Try.ntmps3
    go_wp2_with (go_at_call 8; ((with_reducible refine (hnw1 _).mono ?_); rintro e W1 ⟨b, S, rfl, hP, hfar, hB1⟩))
    have hB2 := hB0.trans (hB1.mono hB0.size)
    have hH1 := hH0.below hB1 hH0.lt
    have hSS : ∀ k ∈ S, w.heap.size < k ∧ k < W1.heap.size := fun k hk => ⟨by have := hfar k hk; simp [limC] at this; omega, (K.lt hP).2 k hk⟩
    clear hnw hnw1 hH0 hB0 hB0' hfar hB1
    have hHd : Has W1.drew w.heap.size 23 (limC l) := hH1
    have hPd : Rhy W1.drew b S l noSt := K.below hP (below_drewN (Below.refl _ W1) 1)
    have hBd : Below w.heap.size w W1.drew := below_drewN hB2 1
    have hSd : ∀ k ∈ S, w.heap.size < k ∧ k < W1.drew.heap.size := hSS
    have hgl : w.heap.size < W1.drew.heap.size := hHd.lt
    clear hH1 hP hB2 hSS
    refine Reg.begin_ (S := fun W => True) (by kernel_rfl) trivial (fun hHeld => ?_)
    generalize W1.drew = W2 at *
    refine Reg.take (i := 0) (v := ?v24) rfl (by kernel_rfl) (by kernel_rfl) (by kernel_rfl) (by rfl) ?hv24 (by assumption) ?rest24
    case hv24 => first | (intro w hSw; (try dsimp only at hSw); go_simp; done) | (intro w hSw; (try dsimp only at hSw); go_simp; with_reducible rfl)
    (try simp only [Act.put, List.setIfInBounds_toArray, List.set_cons_zero, List.set_cons_succ])
    refine Reg.take (i := 1) (v := ?v25) rfl (by kernel_rfl) (by kernel_rfl) (by kernel_rfl) (by rfl) ?hv25 (by assumption) ?rest25
    case hv25 => first | (intro w hSw; (try dsimp only at hSw); go_simp; done) | (intro w hSw; (try dsimp only at hSw); go_simp; with_reducible rfl)
    (try simp only [Act.put, List.setIfInBounds_toArray, List.set_cons_zero, List.set_cons_succ])
    refine Reg.take (i := 2) (v := ?v26) rfl (by kernel_rfl) (by kernel_rfl) (by kernel_rfl) (by rfl) ?hv26 (by assumption) ?rest26
    case hv26 => first | (intro w hSw; (try dsimp only at hSw); go_simp; done) | (intro w hSw; (try dsimp only at hSw); go_simp; with_reducible rfl)
    (try simp only [Act.put, List.setIfInBounds_toArray, List.set_cons_zero, List.set_cons_succ])
    refine Reg.take (i := 4) (v := ?v27) rfl (by kernel_rfl) (by kernel_rfl) (by kernel_rfl) (by rfl) ?hv27 (by assumption) ?rest27
    case hv27 => first | (intro w hSw; (try dsimp only at hSw); go_simp; done) | (intro w hSw; (try dsimp only at hSw); go_simp; with_reducible rfl)
    (try simp only [Act.put, List.setIfInBounds_toArray, List.set_cons_zero, List.set_cons_succ])
    refine Reg.take (i := 5) (v := ?v28) rfl (by kernel_rfl) (by kernel_rfl) (by kernel_rfl) (by rfl) ?hv28 (by assumption) ?rest28
    case hv28 => first | (intro w hSw; (try dsimp only at hSw); go_simp; done) | (intro w hSw; (try dsimp only at hSw); go_simp; with_reducible rfl)
    (try simp only [Act.put, List.setIfInBounds_toArray, List.set_cons_zero, List.set_cons_succ])
    refine Reg.take (i := 6) (v := ?v29) rfl (by kernel_rfl) (by kernel_rfl) (by kernel_rfl) (by rfl) ?hv29 (by assumption) ?rest29
    case hv29 => first | (intro w hSw; (try dsimp only at hSw); go_simp; done) | (intro w hSw; (try dsimp only at hSw); go_simp; with_reducible rfl)
    (try simp only [Act.put, List.setIfInBounds_toArray, List.set_cons_zero, List.set_cons_succ])
    refine Reg.take (i := 7) (v := ?v30) rfl (by kernel_rfl) (by kernel_rfl) (by kernel_rfl) (by rfl) ?hv30 (by assumption) ?rest30
    case hv30 => first | (intro w hSw; (try dsimp only at hSw); go_simp; done) | (intro w hSw; (try dsimp only at hSw); go_simp; with_reducible rfl)
    (try simp only [Act.put, List.setIfInBounds_toArray, List.set_cons_zero, List.set_cons_succ])
    refine Reg.take (i := 8) (v := ?v31) rfl (by kernel_rfl) (by kernel_rfl) (by kernel_rfl) (by rfl) ?hv31 (by assumption) ?rest31
    case hv31 => first | (intro w hSw; (try dsimp only at hSw); go_simp; done) | (intro w hSw; (try dsimp only at hSw); go_simp; with_reducible rfl)
    (try simp only [Act.put, List.setIfInBounds_toArray, List.set_cons_zero, List.set_cons_succ])
    refine Reg.call (i := 3) rfl (by kernel_rfl) (by rfl) ?_
    intro K1 hK1
    go_simp
    go_at_call 12
    (refine Calls.mono (by exact hmk _ (hV2.below hBd)) ?_)
    rintro e W3 ⟨V3, rfl, hO3, hB3⟩
    have hH3 := hHd.below hB3 hHd.lt
    have hP3 := K.below hPd hB3
    have hB4 := hBd.trans (hB3.mono hBd.size)
    refine hK1.out _ _ (by exact trivial) (fun hHeld => ?_)
    clear hK1 K1
    (try simp only [Act.put, List.setIfInBounds_toArray, List.set_cons_zero, List.set_cons_succ])
    refine Reg.call (i := 9) rfl (by kernel_rfl) (by rfl) ?_
    intro K1 hK1
    refine Row.wp_append (S := mkS) (.tmp 52) (.tmp 57) _ rfl W2.heap.size 45 _ 56 (by omega) Try.underlying26 HInfo.out (by kernel_rfl) V3 _ M1 rfl hO3 a3 p cap3 (z3.take p) rfl (hV3.below hB4) (by have := HL1.out; omega) hB3.size ?_
    intro V4 W4 hO4 hg4 hat4
    rw [HMl.out, HM.out] at hO4
    have hH4 := (Kept.of_grown hg4).has hH3 (fun hk => by have := own_in hO3 _ hk; omega)
    have hP4 : Rhy W4 b S l noSt := K.kept hP3 (Kept.of_grown hg4) (fun k hk hk2 => by have := own_in hO3 _ hk2; have := hSd k hk; omega)
    have hB5 := below_kept hB4 (Kept.of_grown hg4) hB4.size (fun x hx => by have := own_in hO3 _ hx; omega)
    have hz4 : W2.heap.size ≤ W4.heap.size := Nat.le_trans hB3.size (Kept.of_grown hg4).size
    obtain ⟨AM, cM, rfl, e1, e2, hVM, hfM, _⟩ := Row.Vals.own hO4
    clear hO3 hB3 hH3 hP3 hB4 hHd hPd hBd hO4 hg4 hat4 hV2 hV3 hmk
    refine hK1.out _ _ (by exact trivial) (fun hHeld => ?_)
    clear hK1 K1
    (try simp only [Act.put, List.setIfInBounds_toArray, List.set_cons_zero, List.set_cons_succ])
    refine Reg.take (i := 10) (v := ?v32) rfl (by kernel_rfl) (by kernel_rfl) (by kernel_rfl) (by rfl) ?hv32 (by assumption) ?rest32
    case hv32 => first | (intro w hSw; (try dsimp only at hSw); go_simp; done) | (intro w hSw; (try dsimp only at hSw); go_simp; with_reducible rfl)
    (try simp only [Act.put, List.setIfInBounds_toArray, List.set_cons_zero, List.set_cons_succ])
    refine Reg.done (by kernel_rfl) ?_ _
    clear hHeld
    have c0 : W4.cell? ⟨w.heap.size, 0, none⟩ = some (.int .i64 l.mains) := hH4.cell 0
    have c1 : W4.cell? ⟨w.heap.size, 1, none⟩ = some (.int .i64 l.asys) := hH4.cell 1
    have c2 : W4.cell? ⟨w.heap.size, 2, none⟩ = some (.int .i64 l.tach) := hH4.cell 2
    have c3 : W4.cell? ⟨w.heap.size, 3, none⟩ = some (.int .i64 l.tachN) := hH4.cell 3
    have c4 : W4.cell? ⟨w.heap.size, 4, none⟩ = some (.int .i64 l.brad) := hH4.cell 4
    have c5 : W4.cell? ⟨w.heap.size, 5, none⟩ = some (.int .i64 l.bradN) := hH4.cell 5
    have c6 : W4.cell? ⟨w.heap.size, 6, none⟩ = some (.int .i64 l.fib) := hH4.cell 6
    have c7 : W4.cell? ⟨w.heap.size, 7, none⟩ = some (.int .i64 l.fibN) := hH4.cell 7
    have c8 : W4.cell? ⟨w.heap.size, 8, none⟩ = some (.int .i64 l.escape) := hH4.cell 8
    have hPu : Pu Rhy w b S l (W4.heap.size + 1) W4.heap.size AM M noSt noSt [] none 0 none 0 none 0 ((W4.alloc (.cells zeroC 41)).setRow W4.heap.size (refC l noSt none 0 none 0 none 0 0)) :=
      have hZ := Has.new W4 41 zeroC
      have hKZ : Kept [W4.heap.size] W4 ((W4.alloc (.cells zeroC 41)).setRow W4.heap.size (refC l noSt none 0 none 0 none 0 0)) := ((Kept.refl [W4.heap.size] W4).alloc _).trans (kept_row _ _ _)
      ⟨⟨K.kept hP4 hKZ (fun k hk hk2 => by have := hSd k hk; simp at hk2; omega), below_kept hB5 hKZ hB5.size (fun x hx => by simp at hx; have := hB5.size; omega), fun k hk => by have := hSd k hk; omega⟩, hKZ.has hH4 (by simp; omega), hZ.row _,
       ⟨⟨rfl, fun h0 => absurd h0 (by simp [noSt, Tally.st0])⟩, ⟨rfl, fun h0 => absurd h0 (by simp [noSt])⟩, Row.Vals.none_ _, (by show (0 : Int) ≤ 0 ∧ (0 : Int) ≤ 1099511627776; omega), (fun x hx => by cases hx), (fun x hx => by cases hx), (fun x hx => by cases hx), (by simp)⟩,
       hVM.kept hKZ (fun _ x hx hk => by have := (hfM x hx).2; simp at hk; omega), fun x hx => by
         have := hfM x hx
         exact ⟨by omega, fun hk => by have := hSd _ hk; omega⟩, by omega, fun hk => by have := hSd _ hk; omega, fun hk => by have := hSd _ hk; omega, fun k hk => by have := hSd k hk; omega, by simp⟩
    have hZ : Has (W4.alloc (.cells zeroC 41)) W4.heap.size 41 zeroC := Has.new W4 _ _
    clear hP4 hH4 hB5 hVM hfM hSd hgl
    obtain ⟨W5, hW5⟩ : ∃ W5, (W4.alloc (.cells zeroC 41)).setRow W4.heap.size (refC l noSt none 0 none 0 none 0 0) = W5 := ⟨_, rfl⟩
    rw [hW5] at hPu
    unfold zeroC at hW5
    go_upto_region 6 with (refine ref_st rfl _ _ rfl W4.heap.size (refC l noSt none 0 none 0 none 0 0) rfl rfl hZ (ref_size _ _ _ _ _ _ _ _ _) rfl (ref_one _ _ _ _ _ _ _ _ _) ?_)
    (try simp only [Act.put])
    (try rw [hW5])
    clear hW5 hZ c0 c1 c2 c3 c4 c5 c6 c7 c8 hz4 hwr1
    have HML := Lib.hid (show M.length ≤ 5160 by have := HMl.out; have := HL1.out; omega)
    clear HMl HL1 HM HInfo
    generalize W4.heap.size = gs at *
    go_wp2
    go_loopw [63] (fun i wr => ∃ (k : Nat) (A : Option Addr) (ca : Nat) (B : Option Addr) (cb : Nat) (C : Option Addr) (cc : Nat), k ≤ M.length ∧ i = .int .i64 (k : Nat) ∧ Pu Rhy w b S l (gs + 1) gs AM M (runT l noSt (M.take k)) (runT l noSt (M.take k)) (toldT l noSt (M.take k)) A ca B cb C cc wr) (fun i _ => M.length - (intOf i).toNat)
    case atStart => exact ⟨0, none, 0, none, 0, none, 0, by omega, rfl, hPu⟩
    case round =>
      clear hPu
      obtain ⟨k, A, ca, B, cb, C, cc, hk, rfl, hR⟩ := hrel
      by_cases hkM : k < M.length
      · obtain ⟨x, rfl, _⟩ := hR.row.cells (by omega)
        obtain ⟨d0, d1, d2, d3, d4, d5, d6⟩ := mk_cells hR.row k hkM
        have hml := HML.out
        have hrs : (runT l noSt (M.take k)).t.rs.length ≤ 5160 := by have := run_rs l (M.take k) noSt; rw [List.length_take] at this; simp only [show noSt.t.rs.length = 0 from rfl] at this; omega
        have hhs : (runT l noSt (M.take k)).h.length ≤ 5160 := by have := run_h l (M.take k) noSt; rw [List.length_take] at this; simp only [show noSt.h.length = 0 from rfl] at this; omega
        have hEl : (toldT l noSt (M.take k)).length ≤ 25800 := by have := told_len l (M.take k) noSt; rw [List.length_take] at this; omega
        have hnx := take_more M k hkM
        have HN := Lib.hid (show runT l noSt (M.take (k + 1)) = stepT l (runT l noSt (M.take k)) (M.getD k noMk) ∧ toldT l noSt (M.take (k + 1)) = toldT l noSt (M.take k) ++ saysT l (runT l noSt (M.take k)) (M.getD k noMk) from by rw [hnx, run_snoc, told_snoc]; exact ⟨rfl, rfl⟩)
        clear hnx
        obtain ⟨m, hm⟩ : ∃ m, M.getD k noMk = m := ⟨_, rfl⟩
        obtain ⟨s, hs⟩ : ∃ s, runT l noSt (M.take k) = s := ⟨_, rfl⟩
        obtain ⟨E, hE⟩ : ∃ E, toldT l noSt (M.take k) = E := ⟨_, rfl⟩
        rw [hm] at d0 d1 d2 d3 d4 d5 d6 HN
        rw [hs] at hR hrs hhs HN
        rw [hE] at hR hEl HN
        have hcsl := says_len l s m
        clear hm hs hE
        have hkz : (k : Int) < (M.length : Int) := by omega
        have hR1 := hR.grow K ((Below.refl _ wr).alloc (Nat.le_refl _) (.cells (mkC m) 45))
        have hG1 := Has.new wr 45 (mkC m)
        have hgm : gs < wr.heap.size := hR.box.lt
        have hgS : wr.heap.size ∉ S := fun hk => by have := hR.sL _ hk; have := hR.base_; omega
        have HB := Lib.hid (And.intro hrs (And.intro hhs (And.intro hEl (And.intro hkM hml))))
        have hpu := refpush_any l s E A ca B cb C cc (gs + 1) m (wr.alloc (.cells (mkC m) 45)) hmay hR1.R hR1.base_ (by omega) (by omega) (by omega)
        unfold RPushIs at hpu
        have x20 : (wr.alloc (.cells (mkC m) 45)).cell? ⟨gs, 20, none⟩ = some (.slice C E.length cc) := hR1.box.cell 20
        clear hR hrs hhs hEl hkM hml
        have hmk9 : mkC m = #[.int .i64 m.kind, .int .i64 m.at_, .int .i64 m.h, .int .i64 m.bat, .int .i64 m.seen, .int .i64 m.rr, .bool m.back] := rfl
        rw [hmk9] at hpu x20 hR1 hG1
        go_upto_region 11 with (first
          | (refine ref_ld rfl _ rfl _ rfl hR1.box (ref_size _ _ _ _ _ _ _ _ _) ?_)
          | (go_at_call 13; (refine Calls.mono (by exact hpu) ?_); rintro e W6 ⟨A6, ca6, B6, cb6, C6, cc6, E6, hE6, rfl, hR6, hB6⟩; have HE6 := Lib.hid hE6; clear hE6)
          | (refine ref_st rfl _ _ rfl _ _ rfl rfl (hR1.grow K hB6).box (ref_size _ _ _ _ _ _ _ _ _) (ref_size _ _ _ _ _ _ _ _ _) (ref_one _ _ _ _ _ _ _ _ _) ?_))
        (try simp only [Act.put])
        have hR7 := hR1.stored K hB6 hR6
        have hG7 := (hG1.below hB6 hG1.lt).farRow (show wr.heap.size ≠ gs by omega) (refC l (stepT l s m) A6 ca6 B6 cb6 C6 E6.length cc6)
        clear hR1 hG1 hR6 hB6 hpu x20 d0 d1 d2 d3 d4 d5 d6
        generalize W6.setRow gs (refC l (stepT l s m) A6 ca6 B6 cb6 C6 E6.length cc6) = W7 at *
        generalize wr.heap.size = gm at *
        have hdr : E6.drop E.length = saysT l s m := by rw [HE6.out, List.drop_left]
        have hnn : E6.length - E.length = (saysT l s m).length := by rw [HE6.out, List.length_append]; omega
        have hle : E.length ≤ E6.length := by rw [HE6.out, List.length_append]; omega
        have hlz : (E.length : Int) ≤ (E6.length : Int) := by omega
        obtain ⟨hcap, hcap2⟩ := hR7.R.cap
        have hRd : Pu Rhy w b S l (gs + 1) gs (some x) M s (stepT l s m) E6 A6 ca6 B6 cb6 C6 cc6 W7.drew := hR7.grow K (below_drewN (Below.refl _ W7) 1)
        have hGd : Has W7.drew gm 45 #[.int .i64 m.kind, .int .i64 m.at_, .int .i64 m.h, .int .i64 m.bat, .int .i64 m.seen, .int .i64 m.rr, .bool m.back] := hG7
        have HC := Lib.hid (show ∀ (W : World) (sr : St), Pu Rhy w b S l (gs + 1) gs (some x) M sr (stepT l s m) E6 A6 ca6 B6 cb6 C6 cc6 W → Has W gm 45 #[.int .i64 m.kind, .int .i64 m.at_, .int .i64 m.h, .int .i64 m.bat, .int .i64 m.seen, .int .i64 m.rr, .bool m.back] → W.cell? ⟨gm, 0, none⟩ = some (.int .i64 m.kind) ∧ W.cell? ⟨gm, 1, none⟩ = some (.int .i64 m.at_) ∧ W.cell? ⟨gm, 2, none⟩ = some (.int .i64 m.h) ∧ W.cell? ⟨gm, 3, none⟩ = some (.int .i64 m.bat) ∧ W.cell? ⟨gm, 4, none⟩ = some (.int .i64 m.seen) ∧ W.cell? ⟨gm, 5, none⟩ = some (.int .i64 m.rr) ∧ W.cell? ⟨gm, 6, none⟩ = some (.bool m.back) ∧ W.cell? ⟨gs, 20, none⟩ = some (.slice C6 E6.length cc6) ∧ W.cell? ⟨gs, 13, none⟩ = some (.bool (stepT l s m).dark) from fun W sr hW hG => ⟨hG.cell 0, hG.cell 1, hG.cell 2, hG.cell 3, hG.cell 4, hG.cell 5, hG.cell 6, hW.box.cell 20, hW.box.cell 13⟩)
        have hq : (!((stepT l s m).dark == (stepT l s m).dark)) = false := by simp
        clear hR7 hG7
        refine Reg.begin_ (S := fun W => W.cell? ⟨gm, 0, none⟩ = some (.int .i64 m.kind) ∧ W.cell? ⟨gm, 1, none⟩ = some (.int .i64 m.at_) ∧ W.cell? ⟨gm, 2, none⟩ = some (.int .i64 m.h) ∧ W.cell? ⟨gm, 3, none⟩ = some (.int .i64 m.bat) ∧ W.cell? ⟨gm, 4, none⟩ = some (.int .i64 m.seen) ∧ W.cell? ⟨gm, 5, none⟩ = some (.int .i64 m.rr) ∧ W.cell? ⟨gm, 6, none⟩ = some (.bool m.back) ∧ W.cell? ⟨gs, 20, none⟩ = some (.slice C6 E6.length cc6) ∧ W.cell? ⟨gs, 13, none⟩ = some (.bool (stepT l s m).dark)) (by kernel_rfl) (by exact HC.out _ _ hRd hGd) (fun hHeld => ?_)
        generalize W7.drew = Wd at *
        refine Reg.take (i := 0) (v := ?v33) rfl (by kernel_rfl) (by kernel_rfl) (by kernel_rfl) (by rfl) ?hv33 (by assumption) ?rest33
        case hv33 => first | (intro w hSw; (try dsimp only at hSw); go_simp; done) | (intro w hSw; (try dsimp only at hSw); go_simp; with_reducible rfl)
        (try simp only [Act.put, List.setIfInBounds_toArray, List.set_cons_zero, List.set_cons_succ])
        refine Reg.take (i := 1) (v := ?v34) rfl (by kernel_rfl) (by kernel_rfl) (by kernel_rfl) (by rfl) ?hv34 (by assumption) ?rest34
        case hv34 => first | (intro w hSw; (try dsimp only at hSw); go_simp; done) | (intro w hSw; (try dsimp only at hSw); go_simp; with_reducible rfl)
        (try simp only [Act.put, List.setIfInBounds_toArray, List.set_cons_zero, List.set_cons_succ])
        refine Reg.take (i := 4) (v := ?v35) rfl (by kernel_rfl) (by kernel_rfl) (by kernel_rfl) (by rfl) ?hv35 (by assumption) ?rest35
        case hv35 => first | (intro w hSw; (try dsimp only at hSw); go_simp; done) | (intro w hSw; (try dsimp only at hSw); go_simp; with_reducible rfl)
        (try simp only [Act.put, List.setIfInBounds_toArray, List.set_cons_zero, List.set_cons_succ])
        refine Reg.take (i := 5) (v := ?v36) rfl (by kernel_rfl) (by kernel_rfl) (by kernel_rfl) (by rfl) ?hv36 (by assumption) ?rest36
        case hv36 => first | (intro w hSw; (try dsimp only at hSw); go_simp; done) | (intro w hSw; (try dsimp only at hSw); go_simp; with_reducible rfl)
        (try simp only [Act.put, List.setIfInBounds_toArray, List.set_cons_zero, List.set_cons_succ])
        refine Reg.take (i := 6) (v := ?v37) rfl (by kernel_rfl) (by kernel_rfl) (by kernel_rfl) (by rfl) ?hv37 (by assumption) ?rest37
        case hv37 => first | (intro w hSw; (try dsimp only at hSw); go_simp; done) | (intro w hSw; (try dsimp only at hSw); go_simp; with_reducible rfl)
        (try simp only [Act.put, List.setIfInBounds_toArray, List.set_cons_zero, List.set_cons_succ])
        refine Reg.take (i := 7) (v := ?v38) rfl (by kernel_rfl) (by kernel_rfl) (by kernel_rfl) (by rfl) ?hv38 (by assumption) ?rest38
        case hv38 => first | (intro w hSw; (try dsimp only at hSw); go_simp; done) | (intro w hSw; (try dsimp only at hSw); go_simp; with_reducible rfl)
        (try simp only [Act.put, List.setIfInBounds_toArray, List.set_cons_zero, List.set_cons_succ])
        refine Reg.call (i := 2) rfl (by kernel_rfl) (by rfl) ?_
        intro K1 hK1
        go_simp
        have hRa := hRd.grow K ((Below.refl _ Wd).alloc (Nat.le_refl _) (.cells #[.int .i64 m.kind, .int .i64 m.at_, .int .i64 m.h, .int .i64 m.bat, .int .i64 m.seen, .int .i64 m.rr, .bool m.back] 45))
        have hGa := hGd.alloc (.cells #[.int .i64 m.kind, .int .i64 m.at_, .int .i64 m.h, .int .i64 m.bat, .int .i64 m.seen, .int .i64 m.rr, .bool m.back] 45)
        clear hHeld
        refine hK1.out _ _ (by exact (HC.out _ _ hRa hGa)) (fun hHeld => ?_)
        clear hK1 K1
        (try simp only [Act.put, List.setIfInBounds_toArray, List.set_cons_zero, List.set_cons_succ])
        refine Reg.call (i := 3) rfl (by kernel_rfl) (by rfl) ?_
        intro K1 hK1
        go_simp
        go_at_call 15
        (refine Calls.mono (by exact Mr.push_one K hRd.mr 45 m 1 (by have := HB.out.1; omega)) ?_)
        rintro e W8 ⟨B8, d8, rfl, g1, g2, hV8, hf8, hM8, hK8⟩
        have hR8 := hRd.pushed hM8 hK8
        have hG8 := hK8.has hGd hgS
        clear hHeld hRa hGa hRd hGd hM8 hK8 hf8
        refine hK1.out _ _ (by exact (HC.out _ _ hR8 hG8)) (fun hHeld => ?_)
        clear hK1 K1
        (try simp only [Act.put, List.setIfInBounds_toArray, List.set_cons_zero, List.set_cons_succ])
        refine Reg.call (i := 8) rfl (by kernel_rfl) (by rfl) ?_
        intro K1 hK1
        go_simp
        go_at_call 14
        have hV9 := row_dropIf hR8.R.es E.length hle hcap
        rw [hdr, hnn] at hV9
        (try rw [hnn])
        (refine Calls.mono (by exact same_yes B8 _ _ d8 (cc6 - E.length) _ W8 hV8 hV9 (by omega)) ?_)
        rintro e W9 ⟨rfl, z9, rfl⟩
        have hR9 := hR8.grow K (below_drewN (Below.refl _ W8) z9)
        have hG9 := hG8.below (below_drewN (Below.refl _ W8) z9) hG8.lt
        clear hHeld hR8 hG8 hV8 hV9
        refine hK1.out _ _ (by exact (HC.out _ _ hR9 hG9)) (fun hHeld => ?_)
        clear hK1 K1
        (try simp only [Act.put, List.setIfInBounds_toArray, List.set_cons_zero, List.set_cons_succ])
        refine Reg.take (i := 9) (v := ?v39) rfl (by kernel_rfl) (by kernel_rfl) (by kernel_rfl) (by rfl) ?hv39 (by assumption) ?rest39
        case hv39 => first | (intro w hSw; (try dsimp only at hSw); go_simp; done) | (intro w hSw; (try dsimp only at hSw); go_simp; with_reducible rfl)
        (try simp only [Act.put, List.setIfInBounds_toArray, List.set_cons_zero, List.set_cons_succ])
        refine Reg.take (i := 10) (v := ?v40) rfl (by kernel_rfl) (by kernel_rfl) (by kernel_rfl) (by rfl) ?hv40 (by assumption) ?rest40
        case hv40 => first | (intro w hSw; (try dsimp only at hSw); go_simp; done) | (intro w hSw; (try dsimp only at hSw); go_simp; with_reducible rfl)
        (try simp only [Act.put, List.setIfInBounds_toArray, List.set_cons_zero, List.set_cons_succ])
        refine Reg.take (i := 11) (v := ?v41) rfl (by kernel_rfl) (by kernel_rfl) (by kernel_rfl) (by rfl) ?hv41 (by assumption) ?rest41
        case hv41 => first | (intro w hSw; (try dsimp only at hSw); go_simp; done) | (intro w hSw; (try dsimp only at hSw); go_simp; with_reducible rfl)
        (try simp only [Act.put, List.setIfInBounds_toArray, List.set_cons_zero, List.set_cons_succ])
        refine Reg.take (i := 13) (v := ?v42) rfl (by kernel_rfl) (by kernel_rfl) (by kernel_rfl) (by rfl) ?hv42 (by assumption) ?rest42
        case hv42 => first | (intro w hSw; (try dsimp only at hSw); go_simp; done) | (intro w hSw; (try dsimp only at hSw); go_simp; with_reducible rfl)
        (try simp only [Act.put, List.setIfInBounds_toArray, List.set_cons_zero, List.set_cons_succ])
        refine Reg.take (i := 14) (v := ?v43) rfl (by kernel_rfl) (by kernel_rfl) (by kernel_rfl) (by rfl) ?hv43 (by assumption) ?rest43
        case hv43 => first | (intro w hSw; (try dsimp only at hSw); go_simp; done) | (intro w hSw; (try dsimp only at hSw); go_simp; with_reducible rfl)
        (try simp only [Act.put, List.setIfInBounds_toArray, List.set_cons_zero, List.set_cons_succ])
        refine Reg.call (i := 12) rfl (by kernel_rfl) (by rfl) ?_
        intro K1 hK1
        go_simp
        go_at_call 16
        (refine Calls.mono (by exact K.off_any _ b S l _ hR9.mr.rhy) ?_)
        rintro e W10 ⟨rfl, hB10⟩
        have hR10 := hR9.grow K hB10
        have hG10 := hG9.below hB10 hG9.lt
        clear hHeld hR9 hG9 hB10
        refine hK1.out _ _ (by exact (HC.out _ _ hR10 hG10)) (fun hHeld => ?_)
        clear hK1 K1
        (try simp only [Act.put, List.setIfInBounds_toArray, List.set_cons_zero, List.set_cons_succ])
        refine Reg.take (i := 15) (v := ?v44) rfl (by kernel_rfl) (by kernel_rfl) (by kernel_rfl) (by rfl) ?hv44 (by assumption) ?rest44
        case hv44 => first | (intro w hSw; (try dsimp only at hSw); go_simp; done) | (intro w hSw; (try dsimp only at hSw); go_simp; with_reducible rfl)
        (try simp only [Act.put, List.setIfInBounds_toArray, List.set_cons_zero, List.set_cons_succ])
        refine Reg.take (i := 16) (v := ?v45) rfl (by kernel_rfl) (by kernel_rfl) (by kernel_rfl) (by rfl) ?hv45 (by assumption) ?rest45
        case hv45 => first | (intro w hSw; (try dsimp only at hSw); go_simp; done) | (intro w hSw; (try dsimp only at hSw); go_simp; with_reducible rfl)
        (try simp only [Act.put, List.setIfInBounds_toArray, List.set_cons_zero, List.set_cons_succ])
        refine Reg.done (by kernel_rfl) ?_ _
        clear hHeld HC hdr hnn hle hlz hcap hcap2 hG10
        go_wp2
        go_roundw
        case rel => exact ⟨k + 1, A6, ca6, B6, cb6, C6, cc6, by have := HB.out.2.2.2.1; omega, by go_num, by rw [HN.out.1, HN.out.2, ← HE6.out]; exact hR10⟩
        case measure => have := HB.out.2.2.2.1; simp [intOf]; omega
      · obtain rfl : k = M.length := by omega
        rw [List.take_of_length_le (Nat.le_refl _)] at hR
        have hEl : (toldT l noSt M).length ≤ 25800 := by have := told_len l M noSt; have := HML.out; omega
        have HEl := Lib.hid hEl
        have HMM := Lib.hid (show toldT l noSt M = toldT l noSt M from rfl)
        clear hk hkM hEl
        generalize runT l noSt M = s at *
        generalize hE : toldT l noSt M = E at *
        have HE := Lib.hid hE
        clear hE HMM
        go_wp2
        go_loopw [16] (fun i wr2 => ∃ z : Nat, z ≤ 9 ∧ i = .int .i64 ((z : Int) - 1) ∧ Pu Rhy w b S l (gs + 1) gs AM M s s E A ca B cb C cc wr2) (fun i _ => (8 - intOf i).toNat)
        case atStart => exact ⟨0, by omega, by rfl, hR⟩
        case round =>
          clear hR
          obtain ⟨z, hz, rfl, hR⟩ := hrel
          by_cases hlt : z < 9
          · have hcs : z = 0 ∨ z = 1 ∨ z = 2 ∨ z = 3 ∨ z = 4 ∨ z = 5 ∨ z = 6 ∨ z = 7 ∨ z = 8 := by omega
            clear hz hlt
            rcases hcs with rfl | rfl | rfl | rfl | rfl | rfl | rfl | rfl | rfl
            · skip
              rw [show ((0 : Nat) : Int) - 1 = (-1) from rfl]
              have hon := K.on_any wr b S l s (-1) hR.mr.rhy
              rw [show s.on.get (-1) = false from rfl] at hon
              go_wp2_with (go_at_call 17; ((with_reducible refine hon.mono ?_); rintro e W5 ⟨rfl, hB5⟩; have hR5 := hR.grow K hB5))
              go_roundw
              case rel => exact ⟨1, by omega, by rfl, hR5⟩
              case measure => simp [intOf]
            · skip
              rw [show ((1 : Nat) : Int) - 1 = 0 from rfl]
              have hon := K.on_any wr b S l s 0 hR.mr.rhy
              rw [show s.on.get 0 = false from rfl] at hon
              go_wp2_with (go_at_call 17; ((with_reducible refine hon.mono ?_); rintro e W5 ⟨rfl, hB5⟩; have hR5 := hR.grow K hB5))
              go_roundw
              case rel => exact ⟨2, by omega, by rfl, hR5⟩
              case measure => simp [intOf]
            · skip
              rw [show ((2 : Nat) : Int) - 1 = 1 from rfl]
              have hon := K.on_any wr b S l s 1 hR.mr.rhy
              rw [show s.on.get 1 = s.on.o1 from rfl] at hon
              have hq : (!(s.on.o1 == s.on.o1)) = false := by simp
              go_wp2_with (go_at_call 17; ((with_reducible refine hon.mono ?_); rintro e W5 ⟨rfl, hB5⟩; have hR5 := hR.grow K hB5; have y : W5.cell? ⟨gs, 15, none⟩ = some (.bool s.on.o1) := hR5.box.cell 15))
              go_roundw
              case rel => exact ⟨3, by omega, by rfl, hR5⟩
              case measure => simp [intOf]
            · skip
              rw [show ((3 : Nat) : Int) - 1 = 2 from rfl]
              have hon := K.on_any wr b S l s 2 hR.mr.rhy
              rw [show s.on.get 2 = s.on.o2 from rfl] at hon
              have hq : (!(s.on.o2 == s.on.o2)) = false := by simp
              go_wp2_with (go_at_call 17; ((with_reducible refine hon.mono ?_); rintro e W5 ⟨rfl, hB5⟩; have hR5 := hR.grow K hB5; have y : W5.cell? ⟨gs, 16, none⟩ = some (.bool s.on.o2) := hR5.box.cell 16))
              go_roundw
              case rel => exact ⟨4, by omega, by rfl, hR5⟩
              case measure => simp [intOf]
            · skip
              rw [show ((4 : Nat) : Int) - 1 = 3 from rfl]
              have hon := K.on_any wr b S l s 3 hR.mr.rhy
              rw [show s.on.get 3 = s.on.o3 from rfl] at hon
              have hq : (!(s.on.o3 == s.on.o3)) = false := by simp
              go_wp2_with (go_at_call 17; ((with_reducible refine hon.mono ?_); rintro e W5 ⟨rfl, hB5⟩; have hR5 := hR.grow K hB5; have y : W5.cell? ⟨gs, 17, none⟩ = some (.bool s.on.o3) := hR5.box.cell 17))
              go_roundw
              case rel => exact ⟨5, by omega, by rfl, hR5⟩
              case measure => simp [intOf]
            · skip
              rw [show ((5 : Nat) : Int) - 1 = 4 from rfl]
              have hon := K.on_any wr b S l s 4 hR.mr.rhy
              rw [show s.on.get 4 = s.on.o4 from rfl] at hon
              have hq : (!(s.on.o4 == s.on.o4)) = false := by simp
              go_wp2_with (go_at_call 17; ((with_reducible refine hon.mono ?_); rintro e W5 ⟨rfl, hB5⟩; have hR5 := hR.grow K hB5; have y : W5.cell? ⟨gs, 18, none⟩ = some (.bool s.on.o4) := hR5.box.cell 18))
              go_roundw
              case rel => exact ⟨6, by omega, by rfl, hR5⟩
              case measure => simp [intOf]
            · skip
              rw [show ((6 : Nat) : Int) - 1 = 5 from rfl]
              have hon := K.on_any wr b S l s 5 hR.mr.rhy
              rw [show s.on.get 5 = s.on.o5 from rfl] at hon
              have hq : (!(s.on.o5 == s.on.o5)) = false := by simp
              go_wp2_with (go_at_call 17; ((with_reducible refine hon.mono ?_); rintro e W5 ⟨rfl, hB5⟩; have hR5 := hR.grow K hB5; have y : W5.cell? ⟨gs, 19, none⟩ = some (.bool s.on.o5) := hR5.box.cell 19))
              go_roundw
              case rel => exact ⟨7, by omega, by rfl, hR5⟩
              case measure => simp [intOf]
            · skip
              rw [show ((7 : Nat) : Int) - 1 = 6 from rfl]
              have hon := K.on_any wr b S l s 6 hR.mr.rhy
              rw [show s.on.get 6 = false from rfl] at hon
              go_wp2_with (go_at_call 17; ((with_reducible refine hon.mono ?_); rintro e W5 ⟨rfl, hB5⟩; have hR5 := hR.grow K hB5))
              go_roundw
              case rel => exact ⟨8, by omega, by rfl, hR5⟩
              case measure => simp [intOf]
            · skip
              rw [show ((8 : Nat) : Int) - 1 = 7 from rfl]
              have hon := K.on_any wr b S l s 7 hR.mr.rhy
              rw [show s.on.get 7 = false from rfl] at hon
              go_wp2_with (go_at_call 17; ((with_reducible refine hon.mono ?_); rintro e W5 ⟨rfl, hB5⟩; have hR5 := hR.grow K hB5))
              go_roundw
              case rel => exact ⟨9, by omega, by rfl, hR5⟩
              case measure => simp [intOf]
          · obtain rfl : z = 9 := by omega
            clear hlt hz
            rw [show ((9 : Nat) : Int) - 1 = 8 from rfl]
            go_wp2
            have hRd : Pu Rhy w b S l (gs + 1) gs AM M s s E A ca B cb C cc wr.drew := hR.grow K (below_drewN (Below.refl _ wr) 1)
            have HC := Lib.hid (show ∀ W : World, Pu Rhy w b S l (gs + 1) gs AM M s s E A ca B cb C cc W → W.cell? ⟨w.heap.size, 0, none⟩ = some (.int .i64 l.mains) ∧ W.cell? ⟨w.heap.size, 1, none⟩ = some (.int .i64 l.asys) ∧ W.cell? ⟨w.heap.size, 2, none⟩ = some (.int .i64 l.tach) ∧ W.cell? ⟨w.heap.size, 3, none⟩ = some (.int .i64 l.tachN) ∧ W.cell? ⟨w.heap.size, 4, none⟩ = some (.int .i64 l.brad) ∧ W.cell? ⟨w.heap.size, 5, none⟩ = some (.int .i64 l.bradN) ∧ W.cell? ⟨w.heap.size, 6, none⟩ = some (.int .i64 l.fib) ∧ W.cell? ⟨w.heap.size, 7, none⟩ = some (.int .i64 l.fibN) ∧ W.cell? ⟨w.heap.size, 8, none⟩ = some (.int .i64 l.escape) ∧ W.cell? ⟨gs, 20, none⟩ = some (.slice C E.length cc) from fun W hW => ⟨hW.lim.cell 0, hW.lim.cell 1, hW.lim.cell 2, hW.lim.cell 3, hW.lim.cell 4, hW.lim.cell 5, hW.lim.cell 6, hW.lim.cell 7, hW.lim.cell 8, hW.box.cell 20⟩)
            clear hR
            unfold limV at hrc hall
            refine Reg.begin_ (S := fun W => W.cell? ⟨w.heap.size, 0, none⟩ = some (.int .i64 l.mains) ∧ W.cell? ⟨w.heap.size, 1, none⟩ = some (.int .i64 l.asys) ∧ W.cell? ⟨w.heap.size, 2, none⟩ = some (.int .i64 l.tach) ∧ W.cell? ⟨w.heap.size, 3, none⟩ = some (.int .i64 l.tachN) ∧ W.cell? ⟨w.heap.size, 4, none⟩ = some (.int .i64 l.brad) ∧ W.cell? ⟨w.heap.size, 5, none⟩ = some (.int .i64 l.bradN) ∧ W.cell? ⟨w.heap.size, 6, none⟩ = some (.int .i64 l.fib) ∧ W.cell? ⟨w.heap.size, 7, none⟩ = some (.int .i64 l.fibN) ∧ W.cell? ⟨w.heap.size, 8, none⟩ = some (.int .i64 l.escape) ∧ W.cell? ⟨gs, 20, none⟩ = some (.slice C E.length cc)) (by kernel_rfl) (by exact HC.out _ hRd) (fun hHeld => ?_)
            generalize wr.drew = Wd at *
            refine Reg.take (i := 0) (v := ?v46) rfl (by kernel_rfl) (by kernel_rfl) (by kernel_rfl) (by rfl) ?hv46 (by assumption) ?rest46
            case hv46 => first | (intro w hSw; (try dsimp only at hSw); go_simp; done) | (intro w hSw; (try dsimp only at hSw); go_simp; with_reducible rfl)
            (try simp only [Act.put, List.setIfInBounds_toArray, List.set_cons_zero, List.set_cons_succ])
            refine Reg.call (i := 1) rfl (by kernel_rfl) (by rfl) ?_
            intro K1 hK1
            go_simp
            go_at_call 9
            (refine Calls.mono (by exact hrc _) ?_)
            rintro e W3 ⟨rfl, hB3⟩
            have hR3 := hRd.grow K hB3
            clear hHeld hRd hB3
            refine hK1.out _ _ (by exact (HC.out _ hR3)) (fun hHeld => ?_)
            clear hK1 K1
            (try simp only [Act.put, List.setIfInBounds_toArray, List.set_cons_zero, List.set_cons_succ])
            refine Reg.take (i := 2) (v := ?v47) rfl (by kernel_rfl) (by kernel_rfl) (by kernel_rfl) (by rfl) ?hv47 (by assumption) ?rest47
            case hv47 => first | (intro w hSw; (try dsimp only at hSw); go_simp; done) | (intro w hSw; (try dsimp only at hSw); go_simp; with_reducible rfl)
            (try simp only [Act.put, List.setIfInBounds_toArray, List.set_cons_zero, List.set_cons_succ])
            refine Reg.take (i := 3) (v := ?v48) rfl (by kernel_rfl) (by kernel_rfl) (by kernel_rfl) (by rfl) ?hv48 (by assumption) ?rest48
            case hv48 => first | (intro w hSw; (try dsimp only at hSw); go_simp; done) | (intro w hSw; (try dsimp only at hSw); go_simp; with_reducible rfl)
            (try simp only [Act.put, List.setIfInBounds_toArray, List.set_cons_zero, List.set_cons_succ])
            refine Reg.take (i := 4) (v := ?v49) rfl (by kernel_rfl) (by kernel_rfl) (by kernel_rfl) (by rfl) ?hv49 (by assumption) ?rest49
            case hv49 => first | (intro w hSw; (try dsimp only at hSw); go_simp; done) | (intro w hSw; (try dsimp only at hSw); go_simp; with_reducible rfl)
            (try simp only [Act.put, List.setIfInBounds_toArray, List.set_cons_zero, List.set_cons_succ])
            refine Reg.take (i := 6) (v := ?v50) rfl (by kernel_rfl) (by kernel_rfl) (by kernel_rfl) (by rfl) ?hv50 (by assumption) ?rest50
            case hv50 => first | (intro w hSw; (try dsimp only at hSw); go_simp; done) | (intro w hSw; (try dsimp only at hSw); go_simp; with_reducible rfl)
            (try simp only [Act.put, List.setIfInBounds_toArray, List.set_cons_zero, List.set_cons_succ])
            refine Reg.take (i := 7) (v := ?v51) rfl (by kernel_rfl) (by kernel_rfl) (by kernel_rfl) (by rfl) ?hv51 (by assumption) ?rest51
            case hv51 => first | (intro w hSw; (try dsimp only at hSw); go_simp; done) | (intro w hSw; (try dsimp only at hSw); go_simp; with_reducible rfl)
            (try simp only [Act.put, List.setIfInBounds_toArray, List.set_cons_zero, List.set_cons_succ])
            refine Reg.call (i := 5) rfl (by kernel_rfl) (by rfl) ?_
            intro K1 hK1
            go_simp
            go_at_call 10
            (refine Calls.mono (by exact hall _ AM M.length cM M hR3.row (by have := HML.out; omega)) ?_)
            rintro e W4 ⟨B4, d4, rfl, hV4, hf4, hB4⟩
            have hR4 := hR3.grow K hB4
            clear hHeld hR3 hB4 hf4
            refine hK1.out _ _ (by exact (HC.out _ hR4)) (fun hHeld => ?_)
            clear hK1 K1
            (try simp only [Act.put, List.setIfInBounds_toArray, List.set_cons_zero, List.set_cons_succ])
            refine Reg.call (i := 8) rfl (by kernel_rfl) (by rfl) ?_
            intro K1 hK1
            go_simp
            go_at_call 14
            have hES := hR4.R.es
            rw [HE.out] at hV4
            rw [HE.out]
            (refine Calls.mono (by exact same_yes B4 C _ d4 cc _ W4 hV4 hES (by have := HEl.out; omega)) ?_)
            rintro e W5 ⟨rfl, z5, rfl⟩
            have hR5 := hR4.grow K (below_drewN (Below.refl _ W4) z5)
            clear hHeld hR4 hV4 hES
            refine hK1.out _ _ (by exact (HC.out _ hR5)) (fun hHeld => ?_)
            clear hK1 K1
            (try simp only [Act.put, List.setIfInBounds_toArray, List.set_cons_zero, List.set_cons_succ])
            refine Reg.take (i := 9) (v := ?v52) rfl (by kernel_rfl) (by kernel_rfl) (by kernel_rfl) (by rfl) ?hv52 (by assumption) ?rest52
            case hv52 => first | (intro w hSw; (try dsimp only at hSw); go_simp; done) | (intro w hSw; (try dsimp only at hSw); go_simp; with_reducible rfl)
            (try simp only [Act.put, List.setIfInBounds_toArray, List.set_cons_zero, List.set_cons_succ])
            refine Reg.take (i := 10) (v := ?v53) rfl (by kernel_rfl) (by kernel_rfl) (by kernel_rfl) (by rfl) ?hv53 (by assumption) ?rest53
            case hv53 => first | (intro w hSw; (try dsimp only at hSw); go_simp; done) | (intro w hSw; (try dsimp only at hSw); go_simp; with_reducible rfl)
            (try simp only [Act.put, List.setIfInBounds_toArray, List.set_cons_zero, List.set_cons_succ])
            refine Reg.call (i := 11) rfl (by kernel_rfl) (by rfl) ?_
            intro K1 hK1
            go_simp
            go_at_call 11
            (refine Calls.mono (by exact hli _) ?_)
            rintro e W6 ⟨rfl, hB6⟩
            have hR6 := hR5.grow K hB6
            clear hHeld hR5 hB6
            refine hK1.out _ _ (by exact (HC.out _ hR6)) (fun hHeld => ?_)
            clear hK1 K1
            (try simp only [Act.put, List.setIfInBounds_toArray, List.set_cons_zero, List.set_cons_succ])
            refine Reg.take (i := 12) (v := ?v54) rfl (by kernel_rfl) (by kernel_rfl) (by kernel_rfl) (by rfl) ?hv54 (by assumption) ?rest54
            case hv54 => first | (intro w hSw; (try dsimp only at hSw); go_simp; done) | (intro w hSw; (try dsimp only at hSw); go_simp; with_reducible rfl)
            (try simp only [Act.put, List.setIfInBounds_toArray, List.set_cons_zero, List.set_cons_succ])
            refine Reg.take (i := 13) (v := ?v55) rfl (by kernel_rfl) (by kernel_rfl) (by kernel_rfl) (by rfl) ?hv55 (by assumption) ?rest55
            case hv55 => first | (intro w hSw; (try dsimp only at hSw); go_simp; done) | (intro w hSw; (try dsimp only at hSw); go_simp; with_reducible rfl)
            (try simp only [Act.put, List.setIfInBounds_toArray, List.set_cons_zero, List.set_cons_succ])
            refine Reg.done (by kernel_rfl) ?_ _
            go_wp2
            go_ret
            exact ⟨rfl, hR6.mr.below⟩
end Go.Proofs.Ytpmjgomfjfhfkaa.Rhythm
