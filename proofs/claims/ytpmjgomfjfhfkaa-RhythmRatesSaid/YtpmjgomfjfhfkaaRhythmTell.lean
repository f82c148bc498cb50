/- The landed rhythm: what it tells behind a mark. -/
import Derived.Test.YtpmjgomfjfhfkaaRhythmCode
set_option linter.unusedSimpArgs false
set_option linter.unusedVariables false
namespace Go.Proofs.Ytpmjgomfjfhfkaa.Rhythm
open Go.RowKit
open Tally (Lim May mayT limV limC Tal)
/-- Where a Push stands: the rhythm stands so; V is a row of its own, with what was told; all else is as it was in w0. -/
structure Mid (w0 : World) (b t c : Nat) (Sc : List Nat) (l : Lim) (W : World) (s : St) (V : Value) (E : List Cd) : Prop where
  rhy : RhyIs W b t c Sc l s
  own : W.ownsRow w0.heap.size 52 3 V E.length (Row.flat cdS E)
  kept : Kept (b :: t :: Sc) w0 W
  lo : ∀ k ∈ b :: t :: Sc, k < w0.heap.size
section
variable {w0 W W' : World} {b t c : Nat} {Sc : List Nat} {l : Lim} {s s' : St} {V V' : Value} {E : List Cd}
theorem Mid.turn (h : Mid w0 b t c Sc l W s V E) (hr : RhyIs W' b t c Sc l s') (hk : Kept (b :: t :: Sc) W W') : Mid w0 b t c Sc l W' s' V E :=
  ⟨hr, own_kept h.own hk h.lo, h.kept.trans hk, h.lo⟩
theorem Mid.below (h : Mid w0 b t c Sc l W s V E) (hB : Below W.heap.size W W') : Mid w0 b t c Sc l W' s V E := h.turn (h.rhy.below hB) (Kept.of_below hB)
theorem Mid.alloc (h : Mid w0 b t c Sc l W s V E) (o : Obj) : Mid w0 b t c Sc l (W.alloc o) s V E := h.below ((Below.refl _ W).alloc (Nat.le_refl _) o)
/-- Behind an append. -/
theorem Mid.grown {x : Cd} (h : Mid w0 b t c Sc l W s V E) (ho : W'.ownsRow w0.heap.size 52 3 V' (E.length + 1) (Row.flat cdS (E ++ [x]))) (hg : W.grownBy W' V.ownBlock) : Mid w0 b t c Sc l W' s V' (E ++ [x]) :=
  ⟨h.rhy.kept (Kept.of_grown hg) (own_apart h.own (h.lo b (by simp))) (own_apart h.own (h.lo t (by simp))) (fun k hk => own_apart h.own (h.lo k (by simp [hk]))), by rw [List.length_append]; exact ho, h.kept.grown hg (fun k hk => .inr (own_block h.own k hk).1), h.lo⟩
end
theorem cd_new (W : World) (t : TypeId) (m : Nat) (hm : W.heap.size = m) (k a : Int) (d : Bool) : Row.Vals cdS (W.alloc (.cells #[.int .i64 k, .int .i64 a, .bool d] t)) (some ⟨m, 0, none⟩) 1 [(k, a, d)] := by
  subst hm
  exact Row.Vals.has (S := cdS) (ys := [(k, a, d)]) (tl := []) (Has.new W t _)
/-- What is told of the first so many kinds. -/
def tellK (a : Int) (o n : On5) : Nat → List Cd
  | 0 => []
  | k + 1 => tellK a o n k ++ turnT k a (o.get k) (n.get k)
theorem tell_all (a : Int) (o n : On5) : tellK a o n 6 = tellT a o n := by
  simp only [tellK, tellT, List.nil_append, List.append_assoc]
  rfl
theorem tellK_len (a : Int) (o n : On5) : ∀ k : Nat, (tellK a o n k).length ≤ k
  | 0 => by simp [tellK]
  | k + 1 => by
    have h1 := tellK_len a o n k
    have h2 := turn_len k a (o.get k) (n.get k)
    show (tellK a o n k ++ _).length ≤ k + 1
    rw [List.length_append]
    omega
/-- The loop: behind k kinds. -/
structure Telling (w0 : World) (b t c : Nat) (Sc : List Nat) (l : Lim) (s : St) (E : List Cd) (a : Int) (g : Nat) (n : On5) (k : Nat) (V : Value) (W : World) : Prop where
  mid : Mid w0 b t c Sc l W s V (E ++ tellK a s.on n k)
  box : Has W g 65 #[.bool false, .bool n.o1, .bool n.o2, .bool n.o3, .bool n.o4, .bool n.o5]
  far : g ∉ V.ownBlock.toList
theorem Telling.same {w0 W : World} {b t c g k : Nat} {Sc : List Nat} {l : Lim} {s : St} {E : List Cd} {a : Int} {n : On5} {V : Value} (h : Telling w0 b t c Sc l s E a g n k V W) (he : s.on.get k = n.get k) : Telling w0 b t c Sc l s E a g n (k + 1) V W :=
  ⟨by have h9 := h.mid; rwa [show tellK a s.on n (k + 1) = tellK a s.on n k from by simp only [tellK]; rw [turnT, if_pos he, List.append_nil]], h.box, h.far⟩
theorem Telling.more {w0 W W' : World} {b t c g k : Nat} {Sc : List Nat} {l : Lim} {s : St} {E : List Cd} {a : Int} {n : On5} {V V' : Value} {d : Bool} {o : Obj} {q : Int} (h : Telling w0 b t c Sc l s E a g n k V W) (hd : n.get k = d) (hq : (k : Int) = q) (he : ¬ s.on.get k = d)
    (ho : W'.ownsRow w0.heap.size 52 3 V' ((E ++ tellK a s.on n k).length + 1) (Row.flat cdS ((E ++ tellK a s.on n k) ++ [(q, a, d)]))) (hg : (W.alloc o).grownBy W' V.ownBlock) (hb : V'.ownBlock = V.ownBlock ∨ V'.ownBlock = some (W.alloc o).heap.size) : Telling w0 b t c Sc l s E a g n (k + 1) V' W' := by
  subst hd
  subst hq
  have h1 := h.mid.alloc o
  have h2 := h1.grown ho hg
  have hx := h.box.lt
  refine ⟨by rwa [show tellK a s.on n (k + 1) = tellK a s.on n k ++ [((k : Int), a, n.get k)] from by simp only [tellK]; rw [turnT, if_neg he], ← List.append_assoc], (Kept.of_grown hg).has (h.box.alloc o) h.far, ?_⟩
  rcases hb with hb | hb
  · rw [hb]; exact h.far
  · rw [hb]
    simp
    omega
set_option maxRecDepth 100000 in
set_option maxHeartbeats 2000000 in
theorem tell_k (w0 : World) (b t c : Nat) (Sc : List Nat) (l : Lim) (s : St) (a : Int) (V : Value) (E : List Cd) (w : World) (h : Mid w0 b t c Sc l w s V E) (hE : E.length ≤ 600000) :
    Calls Try.prog 25 #[.pointer (some ⟨b, 0, none⟩), V, .int .i64 a] w fun e w' => ∃ V', e = .returned V' ∧ Mid w0 b t c Sc l w' ⟨s.dark, s.t, s.h, nowT l s.dark s.t s.h a⟩ V' (E ++ tellT a s.on (nowT l s.dark s.t s.h a)) := by
  have hInfo : (Try.prog.info? 52).map (fun i => (i.zero, i.size, i.bytes)) = some (some (.agg #[.int .i64 0, .int .i64 0, .bool false]), 3, 24) := by kernel_rfl
  have HInfo := Lib.hid hInfo
  clear hInfo
  have HE := Lib.hid hE
  clear hE
  have hnw := now_k b t c Sc l s a w h.rhy
  generalize nowT l s.dark s.t s.h a = n at *
  go_enter Try.func25, Try.ntmps25
  go_wp2_with (go_at_call 38; ((with_reducible refine hnw.mono ?_); rintro e W1 ⟨rfl, hB1⟩))
  have hT0 : Telling w0 b t c Sc l s E a W1.heap.size n 0 V (W1.alloc (.cells #[.bool false, .bool n.o1, .bool n.o2, .bool n.o3, .bool n.o4, .bool n.o5] 65)) :=
    ⟨by rw [show E ++ tellK a s.on n 0 = E from List.append_nil E]; exact (h.below hB1).alloc _, Has.new W1 _ _, fun hk => by have := (own_block (h.below hB1).own _ (by simpa using hk)).2; omega⟩
  generalize W1.alloc (.cells #[.bool false, .bool n.o1, .bool n.o2, .bool n.o3, .bool n.o4, .bool n.o5] 65) = W2 at *
  generalize W1.heap.size = g at *
  clear h hnw hB1
  go_loopw [1, 14] (fun v i wr => ∃ k : Nat, k ≤ 6 ∧ i = .int .i64 (k : Nat) ∧ Telling w0 b t c Sc l s E a g n k v wr) (fun _ i _ => 6 - (intOf i).toNat)
  case atStart => exact ⟨0, by omega, rfl, hT0⟩
  case round =>
    clear hT0
    obtain ⟨k, hk, rfl, hT⟩ := hrel
    have hL := Lib.hid (show (E ++ tellK a s.on n k).length ≤ 600006 by have := tellK_len a s.on n k; have := HE.out; rw [List.length_append]; omega)
    by_cases hlt : k < 6
    · have hcs : k = 0 ∨ k = 1 ∨ k = 2 ∨ k = 3 ∨ k = 4 ∨ k = 5 := by omega
      clear hk hlt
      rcases hcs with rfl | rfl | rfl | rfl | rfl | rfl
      · rw [show ((0 : Nat) : Int) = 0 from rfl]
        have hix : ∀ W : World, (Instr.index 65 (.agg #[.bool false, .bool n.o1, .bool n.o2, .bool n.o3, .bool n.o4, .bool n.o5]) (.int .i64 0)).run Try.prog W = .ok (.bool (false)) W := fun _ => by kernel_rfl
        have ck : wr.cell? ⟨b, 3, none⟩ = some (.bool false) := hT.mid.rhy.head.cell 3
        have hT2 := hT.same (show s.on.get ((0 : Nat) : Int) = n.get ((0 : Nat) : Int) from rfl)
        clear hT hL
        go_wp2
        go_roundw
        case rel => exact ⟨1, by omega, by go_num, hT2⟩
        case measure => simp [intOf]
      · skip
        rw [show ((1 : Nat) : Int) = 1 from rfl]
        have hix : ∀ W : World, (Instr.index 65 (.agg #[.bool false, .bool n.o1, .bool n.o2, .bool n.o3, .bool n.o4, .bool n.o5]) (.int .i64 1)).run Try.prog W = .ok (.bool (n.o1)) W := fun _ => by kernel_rfl
        have ck : wr.cell? ⟨b, 4, none⟩ = some (.bool s.on.o1) := hT.mid.rhy.head.cell 4
        by_cases hx : n.o1 = s.on.o1
        · have hq : (!(n.o1 == s.on.o1)) = false := by simp [hx]
          have hT2 := hT.same (show s.on.get ((1 : Nat) : Int) = n.get ((1 : Nat) : Int) from hx.symm)
          clear hT hL hx
          go_wp2
          go_roundw
          case rel => exact ⟨2, by omega, by go_num, hT2⟩
          case measure => simp [intOf]
        · have hq : (!(n.o1 == s.on.o1)) = true := by simpa using hx
          go_wp2_with (at_builtin; refine Row.wpList_append (S := cdS) rfl (.tmp 26) (.tmp 31) _ rfl w0.heap.size 52 _ 24 (by omega) Try.underlying32 HInfo.out (by kernel_rfl) _ _ _ rfl (hT.mid.alloc _).own _ 1 1 [(1, a, n.o1)] rfl (cd_new _ _ _ rfl _ _ _) (by have := hL.out; omega) (hT.mid.alloc _).kept.size ?_; intro V3 W3 hO3 hg3 hat3; have hT2 := hT.more (k := 1) (show n.get ((1 : Nat) : Int) = n.o1 from rfl) rfl (fun he => hx he.symm) hO3 hg3 hat3; clear hT hL hO3 hg3 hat3)
          go_roundw
          case rel => exact ⟨2, by omega, by go_num, hT2⟩
          case measure => simp [intOf]
      · skip
        rw [show ((2 : Nat) : Int) = 2 from rfl]
        have hix : ∀ W : World, (Instr.index 65 (.agg #[.bool false, .bool n.o1, .bool n.o2, .bool n.o3, .bool n.o4, .bool n.o5]) (.int .i64 2)).run Try.prog W = .ok (.bool (n.o2)) W := fun _ => by kernel_rfl
        have ck : wr.cell? ⟨b, 5, none⟩ = some (.bool s.on.o2) := hT.mid.rhy.head.cell 5
        by_cases hx : n.o2 = s.on.o2
        · have hq : (!(n.o2 == s.on.o2)) = false := by simp [hx]
          have hT2 := hT.same (show s.on.get ((2 : Nat) : Int) = n.get ((2 : Nat) : Int) from hx.symm)
          clear hT hL hx
          go_wp2
          go_roundw
          case rel => exact ⟨3, by omega, by go_num, hT2⟩
          case measure => simp [intOf]
        · have hq : (!(n.o2 == s.on.o2)) = true := by simpa using hx
          go_wp2_with (at_builtin; refine Row.wpList_append (S := cdS) rfl (.tmp 26) (.tmp 31) _ rfl w0.heap.size 52 _ 24 (by omega) Try.underlying32 HInfo.out (by kernel_rfl) _ _ _ rfl (hT.mid.alloc _).own _ 1 1 [(2, a, n.o2)] rfl (cd_new _ _ _ rfl _ _ _) (by have := hL.out; omega) (hT.mid.alloc _).kept.size ?_; intro V3 W3 hO3 hg3 hat3; have hT2 := hT.more (k := 2) (show n.get ((2 : Nat) : Int) = n.o2 from rfl) rfl (fun he => hx he.symm) hO3 hg3 hat3; clear hT hL hO3 hg3 hat3)
          go_roundw
          case rel => exact ⟨3, by omega, by go_num, hT2⟩
          case measure => simp [intOf]
      · skip
        rw [show ((3 : Nat) : Int) = 3 from rfl]
        have hix : ∀ W : World, (Instr.index 65 (.agg #[.bool false, .bool n.o1, .bool n.o2, .bool n.o3, .bool n.o4, .bool n.o5]) (.int .i64 3)).run Try.prog W = .ok (.bool (n.o3)) W := fun _ => by kernel_rfl
        have ck : wr.cell? ⟨b, 6, none⟩ = some (.bool s.on.o3) := hT.mid.rhy.head.cell 6
        by_cases hx : n.o3 = s.on.o3
        · have hq : (!(n.o3 == s.on.o3)) = false := by simp [hx]
          have hT2 := hT.same (show s.on.get ((3 : Nat) : Int) = n.get ((3 : Nat) : Int) from hx.symm)
          clear hT hL hx
          go_wp2
          go_roundw
          case rel => exact ⟨4, by omega, by go_num, hT2⟩
          case measure => simp [intOf]
        · have hq : (!(n.o3 == s.on.o3)) = true := by simpa using hx
          go_wp2_with (at_builtin; refine Row.wpList_append (S := cdS) rfl (.tmp 26) (.tmp 31) _ rfl w0.heap.size 52 _ 24 (by omega) Try.underlying32 HInfo.out (by kernel_rfl) _ _ _ rfl (hT.mid.alloc _).own _ 1 1 [(3, a, n.o3)] rfl (cd_new _ _ _ rfl _ _ _) (by have := hL.out; omega) (hT.mid.alloc _).kept.size ?_; intro V3 W3 hO3 hg3 hat3; have hT2 := hT.more (k := 3) (show n.get ((3 : Nat) : Int) = n.o3 from rfl) rfl (fun he => hx he.symm) hO3 hg3 hat3; clear hT hL hO3 hg3 hat3)
          go_roundw
          case rel => exact ⟨4, by omega, by go_num, hT2⟩
          case measure => simp [intOf]
      · skip
        rw [show ((4 : Nat) : Int) = 4 from rfl]
        have hix : ∀ W : World, (Instr.index 65 (.agg #[.bool false, .bool n.o1, .bool n.o2, .bool n.o3, .bool n.o4, .bool n.o5]) (.int .i64 4)).run Try.prog W = .ok (.bool (n.o4)) W := fun _ => by kernel_rfl
        have ck : wr.cell? ⟨b, 7, none⟩ = some (.bool s.on.o4) := hT.mid.rhy.head.cell 7
        by_cases hx : n.o4 = s.on.o4
        · have hq : (!(n.o4 == s.on.o4)) = false := by simp [hx]
          have hT2 := hT.same (show s.on.get ((4 : Nat) : Int) = n.get ((4 : Nat) : Int) from hx.symm)
          clear hT hL hx
          go_wp2
          go_roundw
          case rel => exact ⟨5, by omega, by go_num, hT2⟩
          case measure => simp [intOf]
        · have hq : (!(n.o4 == s.on.o4)) = true := by simpa using hx
          go_wp2_with (at_builtin; refine Row.wpList_append (S := cdS) rfl (.tmp 26) (.tmp 31) _ rfl w0.heap.size 52 _ 24 (by omega) Try.underlying32 HInfo.out (by kernel_rfl) _ _ _ rfl (hT.mid.alloc _).own _ 1 1 [(4, a, n.o4)] rfl (cd_new _ _ _ rfl _ _ _) (by have := hL.out; omega) (hT.mid.alloc _).kept.size ?_; intro V3 W3 hO3 hg3 hat3; have hT2 := hT.more (k := 4) (show n.get ((4 : Nat) : Int) = n.o4 from rfl) rfl (fun he => hx he.symm) hO3 hg3 hat3; clear hT hL hO3 hg3 hat3)
          go_roundw
          case rel => exact ⟨5, by omega, by go_num, hT2⟩
          case measure => simp [intOf]
      · skip
        rw [show ((5 : Nat) : Int) = 5 from rfl]
        have hix : ∀ W : World, (Instr.index 65 (.agg #[.bool false, .bool n.o1, .bool n.o2, .bool n.o3, .bool n.o4, .bool n.o5]) (.int .i64 5)).run Try.prog W = .ok (.bool (n.o5)) W := fun _ => by kernel_rfl
        have ck : wr.cell? ⟨b, 8, none⟩ = some (.bool s.on.o5) := hT.mid.rhy.head.cell 8
        by_cases hx : n.o5 = s.on.o5
        · have hq : (!(n.o5 == s.on.o5)) = false := by simp [hx]
          have hT2 := hT.same (show s.on.get ((5 : Nat) : Int) = n.get ((5 : Nat) : Int) from hx.symm)
          clear hT hL hx
          go_wp2
          go_roundw
          case rel => exact ⟨6, by omega, by go_num, hT2⟩
          case measure => simp [intOf]
        · have hq : (!(n.o5 == s.on.o5)) = true := by simpa using hx
          go_wp2_with (at_builtin; refine Row.wpList_append (S := cdS) rfl (.tmp 26) (.tmp 31) _ rfl w0.heap.size 52 _ 24 (by omega) Try.underlying32 HInfo.out (by kernel_rfl) _ _ _ rfl (hT.mid.alloc _).own _ 1 1 [(5, a, n.o5)] rfl (cd_new _ _ _ rfl _ _ _) (by have := hL.out; omega) (hT.mid.alloc _).kept.size ?_; intro V3 W3 hO3 hg3 hat3; have hT2 := hT.more (k := 5) (show n.get ((5 : Nat) : Int) = n.o5 from rfl) rfl (fun he => hx he.symm) hO3 hg3 hat3; clear hT hL hO3 hg3 hat3)
          go_roundw
          case rel => exact ⟨6, by omega, by go_num, hT2⟩
          case measure => simp [intOf]
    · obtain rfl : k = 6 := by omega
      have hM := hT.mid
      have hX := hT.box
      clear hT hL
      rw [tell_all] at hM
      have x0 := hX.cell 0
      have x1 := hX.cell 1
      have x2 := hX.cell 2
      have x3 := hX.cell 3
      have x4 := hX.cell 4
      have x5 := hX.cell 5
      have hH := hM.rhy.head
      have c0 : wr.cell? ⟨b, 0, none⟩ = some (.pointer (some ⟨t, 0, none⟩)) := hH.cell 0
      have f3 := hH.frozen 3
      have f4 := hH.frozen 4
      have f5 := hH.frozen 5
      have f6 := hH.frozen 6
      have f7 := hH.frozen 7
      have f8 := hH.frozen 8
      have c3 : wr.cell? ⟨b, 3, none⟩ = some (.bool false) := hH.cell 3
      have c4 : wr.cell? ⟨b, 4, none⟩ = some (.bool s.on.o1) := hH.cell 4
      have c5 : wr.cell? ⟨b, 5, none⟩ = some (.bool s.on.o2) := hH.cell 5
      have c6 : wr.cell? ⟨b, 6, none⟩ = some (.bool s.on.o3) := hH.cell 6
      have c7 : wr.cell? ⟨b, 7, none⟩ = some (.bool s.on.o4) := hH.cell 7
      have c8 : wr.cell? ⟨b, 8, none⟩ = some (.bool s.on.o5) := hH.cell 8
      have hH6 := (((((hH.set_ 3 (.bool false)).set_ 4 (.bool n.o1)).set_ 5 (.bool n.o2)).set_ 6 (.bool n.o3)).set_ 7 (.bool n.o4)).set_ 8 (.bool n.o5)
      have hK6 := ((((((Kept.refl [b] wr).setCell (p := ⟨b, 3, none⟩) (.inl (by simp)) (.bool false)).setCell (p := ⟨b, 4, none⟩) (.inl (by simp)) (.bool n.o1)).setCell (p := ⟨b, 5, none⟩) (.inl (by simp)) (.bool n.o2)).setCell (p := ⟨b, 6, none⟩) (.inl (by simp)) (.bool n.o3)).setCell (p := ⟨b, 7, none⟩) (.inl (by simp)) (.bool n.o4)).setCell (p := ⟨b, 8, none⟩) (.inl (by simp)) (.bool n.o5)
      have hM6 := hM.turn (s' := ⟨s.dark, s.t, s.h, n⟩) (hM.rhy.cells hK6 (by simpa [cellsR] using hH6)) (hK6.wide (fun k hk _ => by simp at hk; simp [hk]))
      clear hK6 hH6 hM hX hH
      go_wp2
      go_ret
      exact ⟨_, rfl, hM6⟩
end Go.Proofs.Ytpmjgomfjfhfkaa.Rhythm
