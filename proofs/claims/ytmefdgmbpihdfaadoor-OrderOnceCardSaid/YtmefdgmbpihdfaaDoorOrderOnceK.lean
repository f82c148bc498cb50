/- OrderOnce over the kit: its closure. -/
import Derived.Test.YtmefdgmbpihdfaaDoorOrderOnce
import Derived.Test.YtmefdgmbpihdfaaDoorOrderSame
import Derived.Deep.DeepMust
import Derived.Deep.DeepCutAuto
set_option linter.unusedSimpArgs false
set_option linter.unusedVariables false
namespace Go.Proofs.YtmefdgmbpihdfaaDoor.Order
open Go.RowKit
open Alarm (Or orS noOr or_cells)
set_option maxRecDepth 100000 in
set_option maxHeartbeats 4000000 in
theorem once_c {Que : World → Nat → St → Prop} (K : QueKit Que) {w W : World} {q5 q9 q2 q8 g b : Nat} {A : Option Addr} {n c : Nat} {l : List Or} {last f : Int} (at_ : Int) (hn : n ≤ 32) (hla : last < at_) (ha : -1 ≤ at_ ∧ at_ ≤ 1099511627776)
    (h : On Que w q5 q9 q2 q8 g b A n c l last ⟨sortT (restT last l), f⟩ (hadT l last) W) :
    Calls Tryd.prog 24 #[.int .i64 at_, .pointer (some ⟨q5, 0, none⟩), .pointer (some ⟨q9, 0, none⟩), .pointer (some ⟨q2, 0, none⟩), .pointer (some ⟨q8, 0, none⟩)] W fun e w' => e = .returned (.bool true) ∧ On Que w q5 q9 q2 q8 g b A n c l at_ ⟨sortT (restT at_ l), maxT f at_⟩ (hadT l at_) w' := by
  have hd := h.mq.due K at_
  rw [due_once l last at_ f (by omega) ha] at hd
  dsimp only at hd
  have hM0 := marks_0 l last at_ (by omega)
  have hnl := now_len l last at_
  have hll := h.lv.len_
  have hmem := now_mem l last at_
  have hnext := fun k hd (h : Marks l last at_ k hd) => marks_next h
  have hend := fun hd (h : Marks l last at_ (dueNow l last at_).length hd) => marks_end h
  have hfind := fun k hd (h : Marks l last at_ k hd) => marks_find h
  generalize dueNow l last at_ = D at *
  generalize hadT l last = hd0 at *
  generalize sortT (restT at_ l) = R at *
  generalize maxT f at_ = F at *
  obtain ⟨m, hm⟩ : ∃ m, D.length = m := ⟨_, rfl⟩
  rw [hm] at hd hnl hmem hnext hend hfind
  rw [hll] at hfind hnext hnl
  have p5 := h.p5.cell 0
  have HN := Lib.hid hnl
  have HM := Lib.hid hmem
  have HX := Lib.hid hnext
  have HE := Lib.hid hend
  have HF := Lib.hid hfind
  have HL := Lib.hid hll
  clear hnl hmem hnext hend hfind hll hm
  go_enter Tryd.func24, Tryd.ntmps24
  go_wp2_with (go_at_call 20; ((with_reducible refine hd.mono ?_); rintro e W5 ⟨A5, c5, rfl, hV5, -, -, hf5, hM5, hK5⟩; have hO := h.due hM5 hK5; have hgW := h.pg.lt; clear hd hK5))
  have hf6 : ∀ x, A5 = some x → x.block ≠ g := fun x hx => by have := (hf5 x hx).1; omega
  clear hf5 hM5 p5 h hgW
  go_loopw [18] (fun i wr => ∃ k : Nat, k ≤ m ∧ i = .int .i64 (k : Nat) ∧ ∃ hd, Marks l last at_ k hd ∧ On Que w q5 q9 q2 q8 g b A n c l last ⟨R, F⟩ hd wr ∧ Row.Vals orS wr A5 m D) (fun i _ => m - (intOf i).toNat)
  case atStart => exact ⟨0, by omega, rfl, hd0, hM0, hO, hV5⟩
  case round =>
    clear hM0 hO hV5
    obtain ⟨k, hk, rfl, hd, hMk, hO, hV⟩ := hrel
    have HMK := Lib.hid hMk
    by_cases hkm : k < m
    · obtain ⟨x, rfl, -⟩ := hV.cells (by omega)
      obtain ⟨x0, x1, x2⟩ := or_cells hV k hkm
      have hmk := HM.out k hkm
      have hfk := HF.out k hd hMk hkm
      have hxk := HX.out k hd hMk hkm
      generalize D.getD k noOr = o at *
      obtain ⟨o1, o2, o3⟩ := o
      dsimp only at x0 x1 x2 hmk
      have HFK := Lib.hid hfk
      have HXK := Lib.hid hxk
      have hOa := hO.alloc K (.cells #[.int .i64 o1, .int .i64 o2, .int .i64 o3] 23)
      have hVa := hV.alloc (.cells #[.int .i64 o1, .int .i64 o2, .int .i64 o3] 23)
      have hXa := Has.new wr 23 #[.int .i64 o1, .int .i64 o2, .int .i64 o3]
      have hgw := hO.pg.lt
      have p9 := hOa.p9.cell 0
      have p2 := hOa.p2.cell 0
      have e0 := hXa.cell 0
      have hgt1 : ¬ at_ < o1 := by omega
      have hgt2 : ¬ o1 ≤ last := by omega
      have hkz : (k : Int) < (m : Int) := by omega
      have hnl := HN.out
      clear hfk hxk hMk hmk hO hV
      go_wp2
      generalize wr.heap.size = z at *
      have hzg : z ≠ g := Ne.symm (Nat.ne_of_lt hgw)
      obtain ⟨W3, hW3⟩ : ∃ z : World, z = wr.alloc (.cells #[.int .i64 o1, .int .i64 o2, .int .i64 o3] 23) := ⟨_, rfl⟩
      rw [← hW3] at hOa hVa hXa ⊢
      clear hW3 p9 p2 e0 hgw hgt1 hgt2
      go_loopw [9, 34] (fun fd i wr => ∃ j : Nat, j ≤ n ∧ i = .int .i64 (j : Nat) ∧ ∃ (h2 : List Bool) (fo : Bool), fd = .bool fo ∧
        ((fo = false ∧ h2 = hd ∧ ∀ i, i < j → l.getD i noOr = (o1, o2, o3) → hd.getD i true = true) ∨ (fo = true ∧ ∃ p, p < n ∧ l.getD p noOr = (o1, o2, o3) ∧ hd.getD p true = false ∧ h2 = hd.set p true)) ∧
        On Que w q5 q9 q2 q8 g b A n c l last ⟨R, F⟩ h2 wr ∧ Row.Vals orS wr (some x) m D ∧ Has wr z 23 #[.int .i64 o1, .int .i64 o2, .int .i64 o3]) (fun _ i _ => n - (intOf i).toNat)
      case atStart => exact ⟨0, by omega, rfl, hd, false, rfl, .inl ⟨rfl, rfl, fun i hi => absurd hi (by omega)⟩, hOa, hVa, hXa⟩
      case round =>
        clear hOa hVa hXa
        obtain ⟨j, hj, rfl, h2, fo, rfl, hcs, hO, hV, hX⟩ := hrel
        by_cases hjn : j < n
        · obtain ⟨y, rfl, -⟩ := hO.lv.cells (by omega)
          obtain ⟨y0, y1, y2⟩ := or_cells hO.lv j hjn
          have hgl : h2.length = n := hO.hl
          have hgc : wr.cell? ⟨g, j, none⟩ = some (.bool (h2.getD j true)) := by
            rw [hO.pg.cell j, List.getElem?_toArray, List.getElem?_map, List.getD_eq_getElem?_getD, List.getElem?_eq_getElem (by omega)]
            rfl
          obtain ⟨lj, hlj⟩ : ∃ lj, l.getD j noOr = lj := ⟨_, rfl⟩
          rw [hlj] at y0 y1 y2
          obtain ⟨l1, l2, l3⟩ := lj
          dsimp only at y0 y1 y2
          have hOa := hO.alloc K (.cells #[.int .i64 l1, .int .i64 l2, .int .i64 l3] 23)
          have hVa := hV.alloc (.cells #[.int .i64 l1, .int .i64 l2, .int .i64 l3] 23)
          have hXa := hX.alloc (.cells #[.int .i64 l1, .int .i64 l2, .int .i64 l3] 23)
          have hYa := Has.new wr 23 #[.int .i64 l1, .int .i64 l2, .int .i64 l3]
          have z0 := hXa.cell 0
          have z1 := hXa.cell 1
          have z2 := hXa.cell 2
          have v0 := hYa.cell 0
          have v1 := hYa.cell 1
          have v2 := hYa.cell 2
          have p8 := hOa.p8.cell 0
          have hgc2 := (show (wr.alloc (.cells #[.int .i64 l1, .int .i64 l2, .int .i64 l3] 23)).cell? ⟨g, j, none⟩ = some (.bool (h2.getD j true)) from by rw [← hgc]; exact ((Below.refl wr.heap.size wr).alloc (Nat.le_refl _) _).cell hO.pg.lt)
          have hgu := fun (W : World) (x y : Operand) => guard_eql W x y l1 l2 l3 o1 o2 o3
          have hjz : (j : Int) < (n : Int) := by omega
          have HLJ := Lib.hid hlj
          clear hO hV hX hgl hgc hlj
          by_cases heq : (l1, l2, l3) = (o1, o2, o3)
          · have he : ∀ W : World, (binOp .eql 23 (.agg #[.int .i64 l1, .int .i64 l2, .int .i64 l3]) (.agg #[.int .i64 o1, .int .i64 o2, .int .i64 o3])).run Tryd.prog W = .ok (.bool true) W := fun W => by
              rw [eql_or]
              simp only [Prod.mk.injEq] at heq
              rw [decide_eq_true heq]
            have HEQ := Lib.hid heq
            have HCS := Lib.hid hcs
            obtain ⟨hb, hhb⟩ : ∃ hb, h2.getD j true = hb := ⟨_, rfl⟩
            rw [hhb] at hgc2
            have HHB := Lib.hid hhb
            clear hcs heq hhb
            cases hb with
            | true =>
              go_wp2
              go_roundw
              case rel => exact ⟨j + 1, by omega, by go_num, h2, fo, rfl, HCS.out.imp (fun ⟨h1, h2, h3⟩ => ⟨h1, h2, fun i hi he => by
                rcases (by omega : i < j ∨ i = j) with h4 | h4
                · exact h3 i h4 he
                · rw [h4, ← h2]; exact HHB.out⟩) id, hOa, hVa, hXa⟩
              case measure => simp [intOf]; omega
            | false =>
              cases fo with
              | true =>
                go_wp2
                go_roundw
                case rel => exact ⟨j + 1, by omega, by go_num, h2, true, rfl, .inr (HCS.out.resolve_left (fun h => by cases h.1)), hOa, hVa, hXa⟩
                case measure => simp [intOf]; omega
              | false =>
                have hOm := hOa.mark K j
                have hgf := hOa.pg.frozen j
                have hVm := hVa.kept ((Kept.refl [g] _).setCell (p := ⟨g, j, none⟩) (.inl (by simp)) (.bool true)) (fun _ y hy => by simp; exact hf6 y hy)
                have hXm := hXa.far (p := ⟨g, j, none⟩) (by exact hzg) (.bool true)
                clear hOa hVa hXa
                go_wp2
                go_roundw
                case rel => exact ⟨j + 1, by omega, by go_num, h2.set j true, true, rfl, .inr ⟨rfl, j, by omega, by rw [HLJ.out]; exact HEQ.out, by
                  obtain ⟨-, h5, -⟩ := HCS.out.resolve_right (fun h => by cases h.1)
                  rw [← h5]; exact HHB.out, by
                  obtain ⟨-, h5, -⟩ := HCS.out.resolve_right (fun h => by cases h.1)
                  rw [h5]⟩, hOm, hVm, hXm⟩
                case measure => simp [intOf]; omega
          · have he : ∀ W : World, (binOp .eql 23 (.agg #[.int .i64 l1, .int .i64 l2, .int .i64 l3]) (.agg #[.int .i64 o1, .int .i64 o2, .int .i64 o3])).run Tryd.prog W = .ok (.bool false) W := fun W => by
              rw [eql_or]
              simp only [Prod.mk.injEq] at heq
              rw [decide_eq_false heq]
            have HCS := Lib.hid hcs
            have HEQ := Lib.hid heq
            clear hcs heq
            go_wp2
            go_roundw
            case rel => exact ⟨j + 1, by omega, by go_num, h2, fo, rfl, HCS.out.imp (fun ⟨h1, h2, h3⟩ => ⟨h1, h2, fun i hi he => by
              rcases (by omega : i < j ∨ i = j) with h4 | h4
              · exact h3 i h4 he
              · rw [h4, HLJ.out] at he; exact absurd he HEQ.out⟩) id, hOa, hVa, hXa⟩
            case measure => simp [intOf]; omega
        · have hjz : ¬ (j : Int) < (n : Int) := by omega
          have hfo : fo = true ∧ ∃ p, p < n ∧ l.getD p noOr = (o1, o2, o3) ∧ hd.getD p true = false ∧ h2 = hd.set p true := by
            rcases hcs with ⟨-, -, h3⟩ | h
            · obtain ⟨i, hi, h4, h5⟩ := HFK.out
              have := h3 i (by omega) h4
              rw [this] at h5
              cases h5
            · exact h
          obtain ⟨rfl, p, hp, h4, h5, h6⟩ := hfo
          have hmn := HXK.out p hp h4 h5
          rw [← h6] at hmn
          have HMN := Lib.hid hmn
          clear hcs h4 h5 h6 hmn
          go_wp2
          go_roundw
          case rel => exact ⟨k + 1, by omega, by go_num, h2, HMN.out, hO, hV⟩
          case measure => simp [intOf]; omega
    · have hkm2 : k = m := by omega
      have hkz : ¬ (k : Int) < (m : Int) := by omega
      rw [hkm2] at hMk
      have hfin := HE.out hd hMk
      rw [hfin] at hO
      have p2 := hO.p2.cell 0
      have p9 := hO.p9.cell 0
      have f9 := hO.p9.frozen 0
      have hOt := hO.told K at_
      have p2t := hOt.p2.cell 0
      clear hMk HMK hfin hO hV hkm2
      go_wp2
      generalize wr.setCell ⟨q9, 0, none⟩ (.int .i64 at_) = W9 at *
      clear p2 p9 f9 p2t
      go_loopw [63] (fun i wr => ∃ j : Nat, j ≤ n ∧ i = .int .i64 (j : Nat) ∧ On Que w q5 q9 q2 q8 g b A n c l at_ ⟨R, F⟩ (hadT l at_) wr) (fun i _ => n - (intOf i).toNat)
      case atStart => exact ⟨0, by omega, rfl, hOt⟩
      case round =>
        clear hOt
        obtain ⟨j, hj, rfl, hO⟩ := hrel
        by_cases hjn : j < n
        · obtain ⟨y, rfl, -⟩ := hO.lv.cells (by omega)
          obtain ⟨y0, y1, y2⟩ := or_cells hO.lv j hjn
          have hgl : (hadT l at_).length = n := hO.hl
          have hgc : wr.cell? ⟨g, j, none⟩ = some (.bool (decide ((l.getD j noOr).1 ≤ at_))) := by
            rw [← had_get l at_ j (by rw [HL.out]; exact hjn), hO.pg.cell j, List.getElem?_toArray, List.getElem?_map, List.getD_eq_getElem?_getD, List.getElem?_eq_getElem (by omega)]
            rfl
          generalize l.getD j noOr = lj at *
          obtain ⟨l1, l2, l3⟩ := lj
          dsimp only at y0 y1 y2 hgc
          have hOa := hO.alloc K (.cells #[.int .i64 l1, .int .i64 l2, .int .i64 l3] 23)
          have hYa := Has.new wr 23 #[.int .i64 l1, .int .i64 l2, .int .i64 l3]
          have v0 := hYa.cell 0
          have p8 := hOa.p8.cell 0
          have hgc2 := (show (wr.alloc (.cells #[.int .i64 l1, .int .i64 l2, .int .i64 l3] 23)).cell? ⟨g, j, none⟩ = some (.bool (decide (l1 ≤ at_))) from by rw [← hgc]; exact ((Below.refl wr.heap.size wr).alloc (Nat.le_refl _) _).cell hO.pg.lt)
          have hjz : (j : Int) < (n : Int) := by omega
          clear hO hgl hgc
          by_cases hle : l1 ≤ at_
          · rw [decide_eq_true hle] at hgc2
            go_wp2
            go_quiet (fail)
            go_wp2
            go_roundw
            case rel => exact ⟨j + 1, by omega, by go_num, hOa.later K (below_drewN (Below.refl _ _) _)⟩
            case measure => simp [intOf]; omega
          · rw [decide_eq_false hle] at hgc2
            go_wp2
            go_quiet (fail)
            go_wp2
            go_roundw
            case rel => exact ⟨j + 1, by omega, by go_num, hOa.later K (below_drewN (Below.refl _ _) _)⟩
            case measure => simp [intOf]; omega
        · have hjz : ¬ (j : Int) < (n : Int) := by omega
          go_wp2
          go_ret
          exact ⟨rfl, hO⟩
end Go.Proofs.YtmefdgmbpihdfaaDoor.Order
