/- The landed queue of orders: Put of one. -/
import Derived.Test.YtmefdgmbpihdfaaDoorOrderCode
set_option linter.unusedSimpArgs false
set_option linter.unusedVariables false
namespace Go.Proofs.YtmefdgmbpihdfaaDoor.Order
open Go.RowKit
open Alarm (Or orS noOr or_cells)
set_option maxHeartbeats 2000000 in
theorem put_k (b : Nat) (s : St) (hO : Ok s) (o : Or) (w : World) (h : Has w b 73 (cellsQ s)) :
    Calls Tryd.prog 34 #[.pointer (some ⟨b, 0, none⟩), orV o] w fun e w' => e = .returned (.int .i64 (putT s o).2) ∧ Has w' b 73 (cellsQ (putT s o).1) ∧ Kept [b] w w' := by
  have hck := fun W => check_k o W
  have hX := Has.new w 23 #[.int .i64 o.1, .int .i64 o.2.1, .int .i64 o.2.2]
  have hQ := h.alloc (.cells #[.int .i64 o.1, .int .i64 o.2.1, .int .i64 o.2.2] 23)
  have hK := (Kept.refl [b] w).alloc (.cells #[.int .i64 o.1, .int .i64 o.2.1, .int .i64 o.2.2] 23)
  have hbx : b ≠ w.heap.size := Nat.ne_of_lt h.lt
  by_cases hm : May o
  · by_cases hf : o.1 < s.frm
    · rw [show putT s o = (s, 240) from by unfold putT; rw [if_neg (fun h => h hm), if_pos hf]]
      have e : errT o = 0 := if_pos hm
      rw [e] at hck
      have hbx' : w.heap.size ≠ b := Ne.symm hbx
      clear e h
      go_enter Tryd.func34, Tryd.ntmps34
      go_wp2_with (go_at_call 9; ((with_reducible refine (hck _).mono ?_); rintro e W1 ⟨rfl, hB1⟩))
      have hQ1 := hQ.below hB1 hQ.lt
      have hX1 := hX.below hB1 hX.lt
      have hK1 := hK.trans (Kept.of_below hB1)
      clear hX hQ hK hB1 hck
      generalize w.heap.size = x at *
      refine Reg.begin_ (S := fun W => W.cell? ⟨x, 0, none⟩ = some (.int .i64 o.1) ∧ W.cell? ⟨b, 1, none⟩ = some (.int .i64 s.frm)) (by kernel_rfl) (by exact ⟨hX1.cell 0, hQ1.cell 1⟩) (fun hHeld => ?_)
      have hQ2 : Has W1.drew b 73 (cellsQ s) := hQ1
      have hX2 : Has W1.drew x 23 #[.int .i64 o.1, .int .i64 o.2.1, .int .i64 o.2.2] := hX1
      have hK2 : Kept [b] w W1.drew := hK1.drewN 1
      clear hQ1 hX1 hK1
      generalize W1.drew = W2 at *
      refine Reg.take (i := 0) (v := ?v1) rfl (by kernel_rfl) (by kernel_rfl) (by kernel_rfl) (by rfl) ?hv1 (by assumption) ?rest1
      case hv1 => first | (intro w hSw; (try dsimp only at hSw); go_simp; done) | (intro w hSw; (try dsimp only at hSw); go_simp; with_reducible rfl)
      (try simp only [Act.put, List.setIfInBounds_toArray, List.set_cons_zero, List.set_cons_succ])
      refine Reg.take (i := 1) (v := ?v2) rfl (by kernel_rfl) (by kernel_rfl) (by kernel_rfl) (by rfl) ?hv2 (by assumption) ?rest2
      case hv2 => first | (intro w hSw; (try dsimp only at hSw); go_simp; done) | (intro w hSw; (try dsimp only at hSw); go_simp; with_reducible rfl)
      (try simp only [Act.put, List.setIfInBounds_toArray, List.set_cons_zero, List.set_cons_succ])
      refine Reg.take (i := 2) (v := ?v3) rfl (by kernel_rfl) (by kernel_rfl) (by kernel_rfl) (by rfl) ?hv3 (by assumption) ?rest3
      case hv3 => first | (intro w hSw; (try dsimp only at hSw); go_simp; done) | (intro w hSw; (try dsimp only at hSw); go_simp; with_reducible rfl)
      (try simp only [Act.put, List.setIfInBounds_toArray, List.set_cons_zero, List.set_cons_succ])
      refine Reg.take (i := 3) (v := ?v4) rfl (by kernel_rfl) (by kernel_rfl) (by kernel_rfl) (by rfl) ?hv4 (by assumption) ?rest4
      case hv4 => first | (intro w hSw; (try dsimp only at hSw); go_simp; done) | (intro w hSw; (try dsimp only at hSw); go_simp; with_reducible rfl)
      (try simp only [Act.put, List.setIfInBounds_toArray, List.set_cons_zero, List.set_cons_succ])
      refine Reg.take (i := 4) (v := ?v5) rfl (by kernel_rfl) (by kernel_rfl) (by kernel_rfl) (by rfl) ?hv5 (by assumption) ?rest5
      case hv5 => first | (intro w hSw; (try dsimp only at hSw); go_simp; done) | (intro w hSw; (try dsimp only at hSw); go_simp; with_reducible rfl)
      (try simp only [Act.put, List.setIfInBounds_toArray, List.set_cons_zero, List.set_cons_succ])
      refine Reg.take (i := 5) (v := ?v6) rfl (by kernel_rfl) (by kernel_rfl) (by kernel_rfl) (by rfl) ?hv6 (by assumption) ?rest6
      case hv6 => first | (intro w hSw; (try dsimp only at hSw); go_simp; done) | (intro w hSw; (try dsimp only at hSw); go_simp; with_reducible rfl)
      (try simp only [Act.put, List.setIfInBounds_toArray, List.set_cons_zero, List.set_cons_succ])
      refine Reg.take (i := 6) (v := ?v7) rfl (by kernel_rfl) (by kernel_rfl) (by kernel_rfl) (by rfl) ?hv7 (by assumption) ?rest7
      case hv7 => first | (intro w hSw; (try dsimp only at hSw); go_simp; done) | (intro w hSw; (try dsimp only at hSw); go_simp; with_reducible rfl)
      (try simp only [Act.put, List.setIfInBounds_toArray, List.set_cons_zero, List.set_cons_succ])
      refine Reg.take (i := 7) (v := ?v8) rfl (by kernel_rfl) (by kernel_rfl) (by kernel_rfl) (by rfl) ?hv8 (by assumption) ?rest8
      case hv8 => first | (intro w hSw; (try dsimp only at hSw); go_simp; done) | (intro w hSw; (try dsimp only at hSw); go_simp; with_reducible rfl)
      (try simp only [Act.put, List.setIfInBounds_toArray, List.set_cons_zero, List.set_cons_succ])
      refine Reg.done (by kernel_rfl) ?_ _
      clear hHeld
      go_wp2
      go_ret
      exact ⟨rfl, hQ2, hK2⟩
    · by_cases hl : s.l.length = 32
      · rw [show putT s o = (s, 5) from by unfold putT; rw [if_neg (fun h => h hm), if_neg hf, if_pos hl]]
        have e : errT o = 0 := if_pos hm
        rw [e] at hck
        have hbx' : w.heap.size ≠ b := Ne.symm hbx
        clear e h
        go_enter Tryd.func34, Tryd.ntmps34
        go_wp2_with (go_at_call 9; ((with_reducible refine (hck _).mono ?_); rintro e W1 ⟨rfl, hB1⟩))
        have hQ1 := hQ.below hB1 hQ.lt
        have hX1 := hX.below hB1 hX.lt
        have hK1 := hK.trans (Kept.of_below hB1)
        clear hX hQ hK hB1 hck
        generalize w.heap.size = x at *
        refine Reg.begin_ (S := fun W => W.cell? ⟨x, 0, none⟩ = some (.int .i64 o.1) ∧ W.cell? ⟨b, 1, none⟩ = some (.int .i64 s.frm)) (by kernel_rfl) (by exact ⟨hX1.cell 0, hQ1.cell 1⟩) (fun hHeld => ?_)
        have hQ2 : Has W1.drew b 73 (cellsQ s) := hQ1
        have hX2 : Has W1.drew x 23 #[.int .i64 o.1, .int .i64 o.2.1, .int .i64 o.2.2] := hX1
        have hK2 : Kept [b] w W1.drew := hK1.drewN 1
        clear hQ1 hX1 hK1
        generalize W1.drew = W2 at *
        refine Reg.take (i := 0) (v := ?v9) rfl (by kernel_rfl) (by kernel_rfl) (by kernel_rfl) (by rfl) ?hv9 (by assumption) ?rest9
        case hv9 => first | (intro w hSw; (try dsimp only at hSw); go_simp; done) | (intro w hSw; (try dsimp only at hSw); go_simp; with_reducible rfl)
        (try simp only [Act.put, List.setIfInBounds_toArray, List.set_cons_zero, List.set_cons_succ])
        refine Reg.take (i := 1) (v := ?v10) rfl (by kernel_rfl) (by kernel_rfl) (by kernel_rfl) (by rfl) ?hv10 (by assumption) ?rest10
        case hv10 => first | (intro w hSw; (try dsimp only at hSw); go_simp; done) | (intro w hSw; (try dsimp only at hSw); go_simp; with_reducible rfl)
        (try simp only [Act.put, List.setIfInBounds_toArray, List.set_cons_zero, List.set_cons_succ])
        refine Reg.take (i := 2) (v := ?v11) rfl (by kernel_rfl) (by kernel_rfl) (by kernel_rfl) (by rfl) ?hv11 (by assumption) ?rest11
        case hv11 => first | (intro w hSw; (try dsimp only at hSw); go_simp; done) | (intro w hSw; (try dsimp only at hSw); go_simp; with_reducible rfl)
        (try simp only [Act.put, List.setIfInBounds_toArray, List.set_cons_zero, List.set_cons_succ])
        refine Reg.take (i := 3) (v := ?v12) rfl (by kernel_rfl) (by kernel_rfl) (by kernel_rfl) (by rfl) ?hv12 (by assumption) ?rest12
        case hv12 => first | (intro w hSw; (try dsimp only at hSw); go_simp; done) | (intro w hSw; (try dsimp only at hSw); go_simp; with_reducible rfl)
        (try simp only [Act.put, List.setIfInBounds_toArray, List.set_cons_zero, List.set_cons_succ])
        refine Reg.take (i := 4) (v := ?v13) rfl (by kernel_rfl) (by kernel_rfl) (by kernel_rfl) (by rfl) ?hv13 (by assumption) ?rest13
        case hv13 => first | (intro w hSw; (try dsimp only at hSw); go_simp; done) | (intro w hSw; (try dsimp only at hSw); go_simp; with_reducible rfl)
        (try simp only [Act.put, List.setIfInBounds_toArray, List.set_cons_zero, List.set_cons_succ])
        refine Reg.take (i := 5) (v := ?v14) rfl (by kernel_rfl) (by kernel_rfl) (by kernel_rfl) (by rfl) ?hv14 (by assumption) ?rest14
        case hv14 => first | (intro w hSw; (try dsimp only at hSw); go_simp; done) | (intro w hSw; (try dsimp only at hSw); go_simp; with_reducible rfl)
        (try simp only [Act.put, List.setIfInBounds_toArray, List.set_cons_zero, List.set_cons_succ])
        refine Reg.take (i := 6) (v := ?v15) rfl (by kernel_rfl) (by kernel_rfl) (by kernel_rfl) (by rfl) ?hv15 (by assumption) ?rest15
        case hv15 => first | (intro w hSw; (try dsimp only at hSw); go_simp; done) | (intro w hSw; (try dsimp only at hSw); go_simp; with_reducible rfl)
        (try simp only [Act.put, List.setIfInBounds_toArray, List.set_cons_zero, List.set_cons_succ])
        refine Reg.take (i := 7) (v := ?v16) rfl (by kernel_rfl) (by kernel_rfl) (by kernel_rfl) (by rfl) ?hv16 (by assumption) ?rest16
        case hv16 => first | (intro w hSw; (try dsimp only at hSw); go_simp; done) | (intro w hSw; (try dsimp only at hSw); go_simp; with_reducible rfl)
        (try simp only [Act.put, List.setIfInBounds_toArray, List.set_cons_zero, List.set_cons_succ])
        refine Reg.done (by kernel_rfl) ?_ _
        clear hHeld
        have c0 : W2.cell? ⟨b, 0, none⟩ = some (.int .i64 32) := by rw [hQ2.cell 0, cellsQ, hl]; rfl
        clear hl
        go_wp2
        go_ret
        exact ⟨rfl, hQ2, hK2⟩
      · rw [show putT s o = (⟨insT o s.l, s.frm⟩, 0) from by unfold putT; rw [if_neg (fun h => h hm), if_neg hf, if_neg hl]]
        have hup := fun W => upTo_k o.1 W
        have hah := fun g W hW hg => ahead_k b s hO.len o.1 g W hW hg
        have hdl := due_le o.1 s.l
        have hpp := put_places s.l o (by have := hO.len; omega)
        have hpl := pad_len s.l hO.len
        have hil := ins_len o s.l
        obtain ⟨m, hm2⟩ : ∃ m, s.l.length = m := ⟨_, rfl⟩
        have hm31 : m ≤ 31 := by have := hO.len; omega
        rw [hm2] at hdl hpp hil
        have e9 : cellsQ s = (cellsL m s.frm (padT s.l)).toArray := by unfold cellsQ; rw [hm2]
        rw [e9] at hah hQ
        have e8 : cellsQ ⟨insT o s.l, s.frm⟩ = (cellsL (m + 1) s.frm (padT (insT o s.l))).toArray := by unfold cellsQ; rw [hil]
        rw [e8, ← hpp]
        clear e8 e9 hpp hil hl hm2
        generalize hys : padT s.l = ys at *
        generalize due o.1 s.l = p at *
        have e : errT o = 0 := if_pos hm
        rw [e] at hck
        have hbx' : w.heap.size ≠ b := Ne.symm hbx
        clear e h
        go_enter Tryd.func34, Tryd.ntmps34
        go_wp2_with (go_at_call 9; ((with_reducible refine (hck _).mono ?_); rintro e W1 ⟨rfl, hB1⟩))
        have hQ1 := hQ.below hB1 hQ.lt
        have hX1 := hX.below hB1 hX.lt
        have hK1 := hK.trans (Kept.of_below hB1)
        clear hX hQ hK hB1 hck
        generalize w.heap.size = x at *
        refine Reg.begin_ (S := fun W => W.cell? ⟨x, 0, none⟩ = some (.int .i64 o.1) ∧ W.cell? ⟨b, 1, none⟩ = some (.int .i64 s.frm)) (by kernel_rfl) (by exact ⟨hX1.cell 0, hQ1.cell 1⟩) (fun hHeld => ?_)
        have hQ2 : Has W1.drew b 73 (cellsL m s.frm ys).toArray := hQ1
        have hX2 : Has W1.drew x 23 #[.int .i64 o.1, .int .i64 o.2.1, .int .i64 o.2.2] := hX1
        have hK2 : Kept [b] w W1.drew := hK1.drewN 1
        clear hQ1 hX1 hK1
        generalize W1.drew = W2 at *
        refine Reg.take (i := 0) (v := ?v17) rfl (by kernel_rfl) (by kernel_rfl) (by kernel_rfl) (by rfl) ?hv17 (by assumption) ?rest17
        case hv17 => first | (intro w hSw; (try dsimp only at hSw); go_simp; done) | (intro w hSw; (try dsimp only at hSw); go_simp; with_reducible rfl)
        (try simp only [Act.put, List.setIfInBounds_toArray, List.set_cons_zero, List.set_cons_succ])
        refine Reg.take (i := 1) (v := ?v18) rfl (by kernel_rfl) (by kernel_rfl) (by kernel_rfl) (by rfl) ?hv18 (by assumption) ?rest18
        case hv18 => first | (intro w hSw; (try dsimp only at hSw); go_simp; done) | (intro w hSw; (try dsimp only at hSw); go_simp; with_reducible rfl)
        (try simp only [Act.put, List.setIfInBounds_toArray, List.set_cons_zero, List.set_cons_succ])
        refine Reg.take (i := 2) (v := ?v19) rfl (by kernel_rfl) (by kernel_rfl) (by kernel_rfl) (by rfl) ?hv19 (by assumption) ?rest19
        case hv19 => first | (intro w hSw; (try dsimp only at hSw); go_simp; done) | (intro w hSw; (try dsimp only at hSw); go_simp; with_reducible rfl)
        (try simp only [Act.put, List.setIfInBounds_toArray, List.set_cons_zero, List.set_cons_succ])
        refine Reg.take (i := 3) (v := ?v20) rfl (by kernel_rfl) (by kernel_rfl) (by kernel_rfl) (by rfl) ?hv20 (by assumption) ?rest20
        case hv20 => first | (intro w hSw; (try dsimp only at hSw); go_simp; done) | (intro w hSw; (try dsimp only at hSw); go_simp; with_reducible rfl)
        (try simp only [Act.put, List.setIfInBounds_toArray, List.set_cons_zero, List.set_cons_succ])
        refine Reg.take (i := 4) (v := ?v21) rfl (by kernel_rfl) (by kernel_rfl) (by kernel_rfl) (by rfl) ?hv21 (by assumption) ?rest21
        case hv21 => first | (intro w hSw; (try dsimp only at hSw); go_simp; done) | (intro w hSw; (try dsimp only at hSw); go_simp; with_reducible rfl)
        (try simp only [Act.put, List.setIfInBounds_toArray, List.set_cons_zero, List.set_cons_succ])
        refine Reg.take (i := 5) (v := ?v22) rfl (by kernel_rfl) (by kernel_rfl) (by kernel_rfl) (by rfl) ?hv22 (by assumption) ?rest22
        case hv22 => first | (intro w hSw; (try dsimp only at hSw); go_simp; done) | (intro w hSw; (try dsimp only at hSw); go_simp; with_reducible rfl)
        (try simp only [Act.put, List.setIfInBounds_toArray, List.set_cons_zero, List.set_cons_succ])
        refine Reg.take (i := 6) (v := ?v23) rfl (by kernel_rfl) (by kernel_rfl) (by kernel_rfl) (by rfl) ?hv23 (by assumption) ?rest23
        case hv23 => first | (intro w hSw; (try dsimp only at hSw); go_simp; done) | (intro w hSw; (try dsimp only at hSw); go_simp; with_reducible rfl)
        (try simp only [Act.put, List.setIfInBounds_toArray, List.set_cons_zero, List.set_cons_succ])
        refine Reg.take (i := 7) (v := ?v24) rfl (by kernel_rfl) (by kernel_rfl) (by kernel_rfl) (by rfl) ?hv24 (by assumption) ?rest24
        case hv24 => first | (intro w hSw; (try dsimp only at hSw); go_simp; done) | (intro w hSw; (try dsimp only at hSw); go_simp; with_reducible rfl)
        (try simp only [Act.put, List.setIfInBounds_toArray, List.set_cons_zero, List.set_cons_succ])
        refine Reg.done (by kernel_rfl) ?_ _
        clear hHeld
        have c0 : W2.cell? ⟨b, 0, none⟩ = some (.int .i64 (m : Nat)) := by rw [hQ2.cell 0]; rfl
        have x0 : W2.cell? ⟨x, 0, none⟩ = some (.int .i64 o.1) := by rw [hX2.cell 0]; rfl
        have hm31z : (m : Int) ≤ 31 := by omega
        clear hm
        have hQ3 := hQ2.alloc (.cells #[.int .i64 o.1] 2)
        have hX3 := hX2.alloc (.cells #[.int .i64 o.1] 2)
        have hK3 := hK2.alloc (.cells #[.int .i64 o.1] 2)
        have hah3 := hah W2.heap.size (W2.alloc (.cells #[.int .i64 o.1] 2)) hQ3 (by rw [World.cell?_alloc_at _ _ _ _ rfl]; rfl)
        clear hah
        go_wp2_with (first
          | (go_at_call 36; ((with_reducible refine (hup _).mono ?_); rintro e W3 ⟨rfl, rfl⟩))
          | (go_at_call 44; ((with_reducible refine hah3.mono ?_); rintro e W4 ⟨rfl, hB4⟩; have hQ4 := hQ3.below hB4 hQ3.lt; have hX4 := hX3.below hB4 hX3.lt; have hK4 := hK3.trans (Kept.of_below hB4); clear hQ2 hX2 hK2 hQ3 hX3 hK3 hup c0 x0)))
        have e1z : IntKind.i64.wrap ((p : Int) + 1) = ((p + 1 : Nat) : Int) := by rw [IntKind.wrap_i64]; omega
        obtain ⟨p1, hp1⟩ : ∃ p1, p + 1 = p1 := ⟨_, rfl⟩
        rw [hp1] at e1z
        have HP1 := Lib.hid hp1
        have hp1b : p1 ≤ m + 1 ∧ 1 ≤ p1 := by omega
        have hpp1 : p1 - 1 = p := by omega
        have HPP1 := Lib.hid hpp1
        clear hp1 hpp1
        refine Reg.begin_ (S := fun W => W.cell? ⟨b, 0, none⟩ = some (.int .i64 (m : Nat))) (by kernel_rfl) (by exact hQ4.cell 0) (fun hHeld => ?_)
        have hQ5 : Has W4.drew b 73 (cellsL m s.frm ys).toArray := hQ4
        have hX5 : Has W4.drew x 23 #[.int .i64 o.1, .int .i64 o.2.1, .int .i64 o.2.2] := hX4
        have hK5 : Kept [b] w W4.drew := hK4.drewN 1
        clear hQ4 hX4 hK4
        generalize W4.drew = W5 at *
        have hpz : (p : Int) ≤ (m : Int) := by omega
        obtain ⟨D1, hD1, hs1⟩ := slice_l b p1 (by omega)
        obtain ⟨D2, hD2, hs2⟩ := slice_lh b p m hdl (by omega)
        have HD1 := Lib.hid hD1
        have HD2 := Lib.hid hD2
        clear hD1 hD2
        refine Reg.take (i := 0) (v := ?v25) rfl (by kernel_rfl) (by kernel_rfl) (by kernel_rfl) (by rfl) ?hv25 (by assumption) ?rest25
        case hv25 => first | (intro w hSw; (try dsimp only at hSw); go_simp; done) | (intro w hSw; (try dsimp only at hSw); go_simp; with_reducible rfl)
        (try simp only [Act.put, List.setIfInBounds_toArray, List.set_cons_zero, List.set_cons_succ])
        refine Reg.take (i := 1) (v := ?v26) rfl (by kernel_rfl) (by kernel_rfl) (by kernel_rfl) (by rfl) ?hv26 (by assumption) ?rest26
        case hv26 => first | (intro w hSw; (try dsimp only at hSw); go_simp; done) | (intro w hSw; (try dsimp only at hSw); go_simp; with_reducible rfl)
        (try simp only [Act.put, List.setIfInBounds_toArray, List.set_cons_zero, List.set_cons_succ])
        refine Reg.take (i := 2) (v := ?v27) rfl (by kernel_rfl) (by kernel_rfl) (by kernel_rfl) (by rfl) ?hv27 (by assumption) ?rest27
        case hv27 => first | (intro w hSw; (try dsimp only at hSw); go_simp; done) | (intro w hSw; (try dsimp only at hSw); go_simp; with_reducible rfl)
        (try simp only [Act.put, List.setIfInBounds_toArray, List.set_cons_zero, List.set_cons_succ])
        refine Reg.take (i := 3) (v := ?v28) rfl (by kernel_rfl) (by kernel_rfl) (by kernel_rfl) (by rfl) ?hv28 (by assumption) ?rest28
        case hv28 => first | (intro w hSw; (try dsimp only at hSw); go_simp; done) | (intro w hSw; (try dsimp only at hSw); go_simp; with_reducible rfl)
        (try simp only [Act.put, List.setIfInBounds_toArray, List.set_cons_zero, List.set_cons_succ])
        refine Reg.take (i := 4) (v := ?v29) rfl (by kernel_rfl) (by kernel_rfl) (by kernel_rfl) (by rfl) ?hv29 (by assumption) ?rest29
        case hv29 => first | (intro w hSw; (try dsimp only at hSw); go_simp; done) | (intro w hSw; (try dsimp only at hSw); go_simp; with_reducible rfl)
        (try simp only [Act.put, List.setIfInBounds_toArray, List.set_cons_zero, List.set_cons_succ])
        refine Reg.take (i := 5) (v := ?v30) rfl (by kernel_rfl) (by kernel_rfl) (by kernel_rfl) (by rfl) ?hv30 (by assumption) ?rest30
        case hv30 => first | (intro w hSw; (try dsimp only at hSw); go_simp; done) | (intro w hSw; (try dsimp only at hSw); go_simp; with_reducible rfl)
        (try simp only [Act.put, List.setIfInBounds_toArray, List.set_cons_zero, List.set_cons_succ])
        refine Reg.take (i := 6) (v := ?v31) rfl (by kernel_rfl) (by kernel_rfl) (by kernel_rfl) (by rfl) ?hv31 (by assumption) ?rest31
        case hv31 => first | (intro w hSw; (try dsimp only at hSw); go_simp; done) | (intro w hSw; (try dsimp only at hSw); go_simp; with_reducible rfl)
        (try simp only [Act.put, List.setIfInBounds_toArray, List.set_cons_zero, List.set_cons_succ])
        refine Reg.take (i := 7) (v := ?v32) rfl (by kernel_rfl) (by kernel_rfl) (by kernel_rfl) (by rfl) ?hv32 (by assumption) ?rest32
        case hv32 => first | (intro w hSw; (try dsimp only at hSw); go_simp; done) | (intro w hSw; (try dsimp only at hSw); go_simp; with_reducible rfl)
        (try simp only [Act.put, List.setIfInBounds_toArray, List.set_cons_zero, List.set_cons_succ])
        refine Reg.take (i := 8) (v := ?v33) rfl (by kernel_rfl) (by kernel_rfl) (by kernel_rfl) (by rfl) ?hv33 (by assumption) ?rest33
        case hv33 => first | (intro w hSw; (try dsimp only at hSw); go_simp; done) | (intro w hSw; (try dsimp only at hSw); go_simp; with_reducible rfl)
        (try simp only [Act.put, List.setIfInBounds_toArray, List.set_cons_zero, List.set_cons_succ])
        refine Reg.take (i := 9) (v := ?v34) rfl (by kernel_rfl) (by kernel_rfl) (by kernel_rfl) (by rfl) ?hv34 (by assumption) ?rest34
        case hv34 => first | (intro w hSw; (try dsimp only at hSw); go_simp; done) | (intro w hSw; (try dsimp only at hSw); go_simp; with_reducible rfl)
        (try simp only [Act.put, List.setIfInBounds_toArray, List.set_cons_zero, List.set_cons_succ])
        refine Reg.take (i := 10) (v := ?v35) rfl (by kernel_rfl) (by kernel_rfl) (by kernel_rfl) (by rfl) ?hv35 (by assumption) ?rest35
        case hv35 => first | (intro w hSw; (try dsimp only at hSw); go_simp; done) | (intro w hSw; (try dsimp only at hSw); go_simp; with_reducible rfl)
        (try simp only [Act.put, List.setIfInBounds_toArray, List.set_cons_zero, List.set_cons_succ])
        refine Reg.take (i := 11) (v := ?v36) rfl (by kernel_rfl) (by kernel_rfl) (by kernel_rfl) (by rfl) ?hv36 (by assumption) ?rest36
        case hv36 => first | (intro w hSw; (try dsimp only at hSw); go_simp; done) | (intro w hSw; (try dsimp only at hSw); go_simp; with_reducible rfl)
        (try simp only [Act.put, List.setIfInBounds_toArray, List.set_cons_zero, List.set_cons_succ])
        refine Reg.take (i := 12) (v := ?v37) rfl (by kernel_rfl) (by kernel_rfl) (by kernel_rfl) (by rfl) ?hv37 (by assumption) ?rest37
        case hv37 => first | (intro w hSw; (try dsimp only at hSw); go_simp; done) | (intro w hSw; (try dsimp only at hSw); go_simp; with_reducible rfl)
        (try simp only [Act.put, List.setIfInBounds_toArray, List.set_cons_zero, List.set_cons_succ])
        refine Reg.take (i := 13) (v := ?v38) rfl (by kernel_rfl) (by kernel_rfl) (by kernel_rfl) (by rfl) ?hv38 (by assumption) ?rest38
        case hv38 => first | (intro w hSw; (try dsimp only at hSw); go_simp; done) | (intro w hSw; (try dsimp only at hSw); go_simp; with_reducible rfl)
        (try simp only [Act.put, List.setIfInBounds_toArray, List.set_cons_zero, List.set_cons_succ])
        refine Reg.take (i := 14) (v := ?v39) rfl (by kernel_rfl) (by kernel_rfl) (by kernel_rfl) (by rfl) ?hv39 (by assumption) ?rest39
        case hv39 => first | (intro w hSw; (try dsimp only at hSw); go_simp; done) | (intro w hSw; (try dsimp only at hSw); go_simp; with_reducible rfl)
        (try simp only [Act.put, List.setIfInBounds_toArray, List.set_cons_zero, List.set_cons_succ])
        refine Reg.take (i := 15) (v := ?v40) rfl (by kernel_rfl) (by kernel_rfl) (by kernel_rfl) (by rfl) ?hv40 (by assumption) ?rest40
        case hv40 => first | (intro w hSw; (try dsimp only at hSw); go_simp; done) | (intro w hSw; (try dsimp only at hSw); go_simp; with_reducible rfl)
        (try simp only [Act.put, List.setIfInBounds_toArray, List.set_cons_zero, List.set_cons_succ])
        clear hs1 hs2
        have hV : Row.Vals orS W5 (some D2) (m - p) ((ys.drop p).take (m - p)) := by
          rcases Nat.lt_or_ge p m with h1 | h1
          · rw [HD2.out h1]; exact places_vals hQ5 p (m - p) (by omega)
          · exact ⟨by simp; omega, fun h0 => absurd h0 (by omega)⟩
        have hp9 := HP1.out
        have hmn : Nat.min (m - p) (32 - p1) = m - p := Nat.min_eq_left (by omega)
        have hdd : 0 < m - p → some D1 = some (⟨b, 2 + p1 * 3, none⟩ : Addr) ∧ 2 + p1 * 3 + (m - p) * 3 ≤ (cellsL m s.frm ys).length := fun h0 => ⟨by rw [HD1.out (by omega)], by rw [cells_len]; omega⟩
        have hmv := moved_is m s.frm ys p1 p (m - p) (by omega) (by omega)
        refine Reg.call (i := 16) rfl (by kernel_rfl) (by rfl) ?_
        intro K hK
        refine Row.wp_copy_into (S := orS) (.tmp 36) (.tmp 46) _ _ rfl 23 Tryd.underlying39 ok_info b 73 (cellsL m s.frm ys) hQ5 (some D1) (2 + p1 * 3) (32 - p1) (32 - p1) rfl (some D2) (m - p) (32 - p) rfl _ hV (m - p) hmn hdd ?_
        intro W6 hQ6 hK6
        rw [List.take_take, Nat.min_self, hmv] at hQ6
        have hX6 := hK6.has hX5 (by simp; exact hbx')
        have hK7 := hK5.trans hK6
        clear hQ5 hX5 hK5 hK6 hV hmn hdd hmv
        clear hp9
        refine hK.out _ _ (by exact (hQ6.cell 0)) (fun hHeld => ?_)
        clear hK K
        (try simp only [Act.put, List.setIfInBounds_toArray, List.set_cons_zero, List.set_cons_succ])
        refine Reg.done (by kernel_rfl) ?_ _
        clear hHeld HD1 HD2
        have hml := moved_len ys p1 p (m - p) (by have := HP1.out; omega) (by omega)
        have HE := Lib.hid (show (movedT ys p1 p (m - p)).set p o = (movedT ys (p + 1) p (m - p)).set p o from by rw [HP1.out])
        generalize movedT ys p1 p (m - p) = zs at *
        go_wp2
        refine Reg.begin_ (S := fun W => W.cell? ⟨x, 0, none⟩ = some (.int .i64 o.1) ∧ W.cell? ⟨x, 1, none⟩ = some (.int .i64 o.2.1) ∧ W.cell? ⟨x, 2, none⟩ = some (.int .i64 o.2.2)) (by kernel_rfl) (by exact ⟨hX6.cell 0, hX6.cell 1, hX6.cell 2⟩) (fun hHeld => ?_)
        have hQ7 : Has W6.drew b 73 (cellsL m s.frm zs).toArray := hQ6
        have hK8 : Kept [b] w W6.drew := hK7.drewN 1
        have hX7 : Has W6.drew x 23 #[.int .i64 o.1, .int .i64 o.2.1, .int .i64 o.2.2] := hX6
        clear hQ6 hX6 hK7
        generalize W6.drew = W7 at *
        have hpz : (p : Int) < 32 := by omega
        refine Reg.take (i := 0) (v := ?v41) rfl (by kernel_rfl) (by kernel_rfl) (by kernel_rfl) (by rfl) ?hv41 (by assumption) ?rest41
        case hv41 => first | (intro w hSw; (try dsimp only at hSw); go_simp; done) | (intro w hSw; (try dsimp only at hSw); go_simp; with_reducible rfl)
        (try simp only [Act.put, List.setIfInBounds_toArray, List.set_cons_zero, List.set_cons_succ])
        refine Reg.take (i := 1) (v := ?v42) rfl (by kernel_rfl) (by kernel_rfl) (by kernel_rfl) (by rfl) ?hv42 (by assumption) ?rest42
        case hv42 => first | (intro w hSw; (try dsimp only at hSw); go_simp; done) | (intro w hSw; (try dsimp only at hSw); go_simp; with_reducible rfl)
        (try simp only [Act.put, List.setIfInBounds_toArray, List.set_cons_zero, List.set_cons_succ])
        refine Reg.take (i := 2) (v := ?v43) rfl (by kernel_rfl) (by kernel_rfl) (by kernel_rfl) (by rfl) ?hv43 (by assumption) ?rest43
        case hv43 => first | (intro w hSw; (try dsimp only at hSw); go_simp; done) | (intro w hSw; (try dsimp only at hSw); go_simp; with_reducible rfl)
        (try simp only [Act.put, List.setIfInBounds_toArray, List.set_cons_zero, List.set_cons_succ])
        refine Reg.take (i := 3) (v := ?v44) rfl (by kernel_rfl) (by kernel_rfl) (by kernel_rfl) (by rfl) ?hv44 (by assumption) ?rest44
        case hv44 => first | (intro w hSw; (try dsimp only at hSw); go_simp; done) | (intro w hSw; (try dsimp only at hSw); go_simp; with_reducible rfl)
        (try simp only [Act.put, List.setIfInBounds_toArray, List.set_cons_zero, List.set_cons_succ])
        refine Reg.take (i := 4) (v := ?v45) rfl (by kernel_rfl) (by kernel_rfl) (by kernel_rfl) (by rfl) ?hv45 (by assumption) ?rest45
        case hv45 => first | (intro w hSw; (try dsimp only at hSw); go_simp; done) | (intro w hSw; (try dsimp only at hSw); go_simp; with_reducible rfl)
        (try simp only [Act.put, List.setIfInBounds_toArray, List.set_cons_zero, List.set_cons_succ])
        refine Reg.take (i := 5) (v := ?v46) rfl (by kernel_rfl) (by kernel_rfl) (by kernel_rfl) (by rfl) ?hv46 (by assumption) ?rest46
        case hv46 => first | (intro w hSw; (try dsimp only at hSw); go_simp; done) | (intro w hSw; (try dsimp only at hSw); go_simp; with_reducible rfl)
        (try simp only [Act.put, List.setIfInBounds_toArray, List.set_cons_zero, List.set_cons_succ])
        have hpl2 : p < zs.length := by omega
        obtain ⟨q0, q1, q2⟩ := place hQ7 p hpl2
        have f0 := hQ7.frozen (2 + p * 3)
        have f1 := hQ7.frozen (2 + p * 3 + 1)
        have f2 := hQ7.frozen (2 + p * 3 + 2)
        have hQ8 := set_place hQ7 p hpl2 o
        have hX8 := ((hX7.far (p := ⟨b, 2 + p * 3, none⟩) (by exact hbx') (.int .i64 o.1)).far (p := ⟨b, 2 + p * 3 + 1, none⟩) (by exact hbx') (.int .i64 o.2.1)).far (p := ⟨b, 2 + p * 3 + 2, none⟩) (by exact hbx') (.int .i64 o.2.2)
        have hK9 := ((hK8.setCell (p := ⟨b, 2 + p * 3, none⟩) (.inl (by simp)) (.int .i64 o.1)).setCell (p := ⟨b, 2 + p * 3 + 1, none⟩) (.inl (by simp)) (.int .i64 o.2.1)).setCell (p := ⟨b, 2 + p * 3 + 2, none⟩) (.inl (by simp)) (.int .i64 o.2.2)
        refine Reg.call (i := 6) rfl (by kernel_rfl) (by rfl) ?_
        intro K hK
        go_simp
        generalize ((W7.setCell ⟨b, 2 + p * 3, none⟩ (.int .i64 o.1)).setCell ⟨b, 2 + p * 3 + 1, none⟩ (.int .i64 o.2.1)).setCell ⟨b, 2 + p * 3 + 2, none⟩ (.int .i64 o.2.2) = W8 at *
        clear q0 q1 q2 f0 f1 f2 hQ7 hX7 hK8
        refine hK.out _ _ (by exact ⟨hX8.cell 0, hX8.cell 1, hX8.cell 2⟩) (fun hHeld => ?_)
        clear hK K
        (try simp only [Act.put, List.setIfInBounds_toArray, List.set_cons_zero, List.set_cons_succ])
        refine Reg.done (by kernel_rfl) ?_ _
        clear hHeld hX8
        have hsl : (zs.set p o).length = 32 := by rw [List.length_set]; omega
        rw [HE.out] at hQ8
        clear HE hf
        obtain ⟨us, hus⟩ : ∃ us, (movedT ys (p + 1) p (m - p)).set p o = us := ⟨_, rfl⟩
        rw [hus] at hQ8
        have HUS := Lib.hid hus
        clear hus
        have c0 : W8.cell? ⟨b, 0, none⟩ = some (.int .i64 (m : Nat)) := by rw [hQ8.cell 0]; rfl
        have f0 := hQ8.frozen 0
        have hQ9 := hQ8.set_ 0 (.int .i64 ((m + 1 : Nat) : Int))
        have hK10 := hK9.setCell (p := ⟨b, 0, none⟩) (.inl (by simp)) (.int .i64 ((m + 1 : Nat) : Int))
        have hse : (cellsL m s.frm us).toArray.setIfInBounds 0 (.int .i64 ((m + 1 : Nat) : Int)) = (cellsL (m + 1) s.frm us).toArray := by
          rw [List.setIfInBounds_toArray]; rfl
        rw [hse] at hQ9
        obtain ⟨m1, hm1⟩ : ∃ m1, m + 1 = m1 := ⟨_, rfl⟩
        rw [hm1] at hQ9 hK10
        have HM1 := Lib.hid hm1
        have hm1z : (m : Int) + 1 = (m1 : Int) := by omega
        clear hm1 hse hQ8 hK9
        go_wp2
        go_ret
        exact ⟨rfl, by rw [HM1.out, HUS.out]; exact hQ9, hK10⟩
  · have e : errT o = 1 := if_neg hm
    have e2 : putT s o = (s, 1) := if_pos hm
    rw [e] at hck
    rw [e2]
    clear e e2
    go_enter Tryd.func34, Tryd.ntmps34
    go_wp2_with (go_at_call 9; ((with_reducible refine (hck _).mono ?_); rintro e W1 ⟨rfl, hB1⟩))
    go_ret
    exact ⟨rfl, hQ.below hB1 hQ.lt, hK.trans (Kept.of_below hB1)⟩
end Go.Proofs.YtmefdgmbpihdfaaDoor.Order
