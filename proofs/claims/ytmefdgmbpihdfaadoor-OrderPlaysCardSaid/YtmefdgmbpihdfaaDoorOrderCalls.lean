/- The landed queue of orders: New, Put, Len, From, Clone; what a queue that no call made answers; `kit`. -/
import Derived.Test.YtmefdgmbpihdfaaDoorOrderKit
import Derived.Test.YtmefdgmbpihdfaaDoorOrderPut
import Derived.Test.YtmefdgmbpihdfaaDoorOrderTake
set_option linter.unusedSimpArgs false
set_option linter.unusedVariables false
namespace Go.Proofs.YtmefdgmbpihdfaaDoor.Order
open Go.RowKit
open Alarm (Or orS noOr or_cells)
def Que (w : World) (b : Nat) (s : St) : Prop := Has w b 73 (cellsQ s) ∧ Ok s
def zeroQ : Array Value := cellsQ st0
theorem new_k (w : World) : Calls Tryd.prog 15 #[] w fun e w' => ∃ b, e = .returned (.pointer (some ⟨b, 0, none⟩)) ∧ Que w' b st0 ∧ w.heap.size ≤ b ∧ Below w.heap.size w w' := by
  have hQ : Que (w.alloc (.cells (cellsQ st0) 73)) w.heap.size st0 := ⟨Has.new w _ _, ok_0⟩
  have hB := (Below.refl w.heap.size w).alloc (Nat.le_refl _) (.cells (cellsQ st0) 73)
  go_enter Tryd.func15, Tryd.ntmps15
  go_wp2
  go_ret
  exact ⟨_, rfl, hQ, Nat.le_refl _, hB⟩
theorem len_k (w : World) (b : Nat) (s : St) (h : Has w b 73 (cellsQ s)) : Calls Tryd.prog 22 #[.pointer (some ⟨b, 0, none⟩)] w fun e w' => e = .returned (.int .i64 (s.l.length : Nat)) ∧ w' = w := by
  have c0 : w.cell? ⟨b, 0, none⟩ = some (.int .i64 (s.l.length : Nat)) := by rw [h.cell 0]; rfl
  generalize s.l.length = m at *
  go_enter Tryd.func22, Tryd.ntmps22
  go_wp2
  go_ret
  exact ⟨rfl, rfl⟩
theorem from_k (w : World) (b : Nat) (s : St) (h : Has w b 73 (cellsQ s)) : Calls Tryd.prog 23 #[.pointer (some ⟨b, 0, none⟩)] w fun e w' => e = .returned (.int .i64 s.frm) ∧ w' = w := by
  have c1 : w.cell? ⟨b, 1, none⟩ = some (.int .i64 s.frm) := by rw [h.cell 1]; rfl
  go_enter Tryd.func23, Tryd.ntmps23
  go_wp2
  go_ret
  exact ⟨rfl, rfl⟩
theorem no_put (w : World) (A : Option Addr) (n c : Nat) : Calls Tryd.prog 17 #[.pointer none, .slice A n c] w fun e w' => e = .returned (.tuple #[.int .i64 0, .int .i64 2]) ∧ w' = w := by
  go_enter Tryd.func17, Tryd.ntmps17
  go_wp2
  go_ret2
  exact ⟨rfl, rfl⟩
theorem no_due (w : World) (a : Int) : Calls Tryd.prog 20 #[.pointer none, .int .i64 a] w fun e w' => e = .returned (.slice none 0 0) ∧ w' = w := by
  go_enter Tryd.func20, Tryd.ntmps20
  go_wp2
  go_ret
  exact ⟨rfl, rfl⟩
theorem no_len (w : World) : Calls Tryd.prog 22 #[.pointer none] w fun e w' => e = .returned (.int .i64 0) ∧ w' = w := by
  go_enter Tryd.func22, Tryd.ntmps22
  go_wp2
  go_ret
  exact ⟨rfl, rfl⟩
theorem no_from (w : World) : Calls Tryd.prog 23 #[.pointer none] w fun e w' => e = .returned (.int .i64 0) ∧ w' = w := by
  go_enter Tryd.func23, Tryd.ntmps23
  go_wp2
  go_ret
  exact ⟨rfl, rfl⟩
theorem no_clone (w : World) : Calls Tryd.prog 21 #[.pointer none] w fun e w' => e = .returned (.pointer none) ∧ w' = w := by
  go_enter Tryd.func21, Tryd.ntmps21
  go_wp2
  go_ret
  exact ⟨rfl, rfl⟩
theorem cells_one (s : St) : (cellsQ s).all (·.oneCell') = true := by
  unfold cellsQ cellsL
  rw [List.all_toArray, List.all_eq_true]
  intro x hx
  rcases List.mem_cons.1 hx with rfl | hx
  · rfl
  · rcases List.mem_cons.1 hx with rfl | hx
    · rfl
    · exact Row.flat_one _ x hx
theorem cells_size (s : St) (h : s.l.length ≤ 32) : (cellsQ s).size = 98 := by unfold cellsQ; rw [List.size_toArray, cells_len, pad_len s.l h]
theorem que_info : (Tryd.prog.info? 73).map (·.size) = some 98 := by kernel_rfl
theorem que_ld {ops : Array Oper} {rest : List Oper} {op : Oper} {a : Act} {w : World} {Q : Exit → Act → World → Prop} (hgd : op.guard = none) (x : Operand) (ho : op.op = .load 73 x) (g : Nat) (hx : a.eval x = .pointer (some ⟨g, 0, none⟩)) {cs : Array Value}
    (h : Has w g 73 cs) (hs : cs.size = 98) (hk : wpList Tryd.prog ops Q rest (a.put op.dst (.agg cs)) w) : wpList Tryd.prog ops Q (op :: rest) a w :=
  wpList_plain hgd fun _ hK => wp_load_row 73 x ho g hx 73 cs (0, 0) (.struct (Tryd.prog.fieldsOf 73)) h (by kernel_rfl) rfl (by rw [hs]; exact que_info) (hK _ _ hk)
theorem que_st {ops : Array Oper} {rest : List Oper} {op : Oper} {a : Act} {w : World} {Q : Exit → Act → World → Prop} (hgd : op.guard = none) (x y : Operand) (ho : op.op = .store 73 x y) (g : Nat) (cs : Array Value) (hx : a.eval x = .pointer (some ⟨g, 0, none⟩)) (hy : a.eval y = .agg cs) {old : Array Value}
    (h : Has w g 73 old) (hs : cs.size = 98) (hos : old.size = 98) (h1 : cs.all (·.oneCell') = true) (hk : wpList Tryd.prog ops Q rest (a.put op.dst undef) (w.setRow g cs)) : wpList Tryd.prog ops Q (op :: rest) a w :=
  wpList_plain hgd fun _ hK => wp_store_row 73 x y ho g cs hx hy 73 old h (by rw [hs]; exact que_info) (by rw [hs, hos]) h1 (hK _ _ hk)
theorem clone_k (w : World) (b : Nat) (s : St) (h : Has w b 73 (cellsQ s)) (hO : Ok s) : Calls Tryd.prog 21 #[.pointer (some ⟨b, 0, none⟩)] w fun e w' => ∃ c, e = .returned (.pointer (some ⟨c, 0, none⟩)) ∧ Que w' c s ∧ w.heap.size ≤ c ∧ Below w.heap.size w w' := by
  have hY : Has (w.alloc (.cells (cellsQ st0) 73)) w.heap.size 73 (cellsQ st0) := Has.new w _ _
  have hB : Below w.heap.size w (w.alloc (.cells (cellsQ st0) 73)) := (Below.refl w.heap.size w).alloc (Nat.le_refl _) _
  have hs := cells_size s hO.len
  have hs0 := cells_size st0 (by decide)
  have h1 := cells_one s
  obtain ⟨cs, hcs⟩ : ∃ cs, cellsQ s = cs := ⟨_, rfl⟩
  rw [hcs] at h hs h1
  have HC := Lib.hid hcs
  clear hcs
  go_enter Tryd.func21, Tryd.ntmps21
  go_wp2_with (first
    | (with_reducible refine que_ld rfl _ rfl b rfl h hs ?_)
    | (refine que_st rfl _ _ rfl w.heap.size cs rfl rfl hY hs hs0 h1 ?_))
  go_ret
  exact ⟨_, rfl, ⟨by rw [HC.out]; exact hY.row _, hO⟩, Nat.le_refl _, below_kept hB (kept_row _ w.heap.size cs) hB.size (fun x hx => by simp at hx; omega)⟩
theorem os_next (os : List Or) (k : Nat) (hk : k < os.length) : os.take (k + 1) = os.take k ++ [os.getD k noOr] := by
  rw [List.take_succ_eq_append_getElem hk, List.getD_eq_getElem?_getD, List.getElem?_eq_getElem hk, Option.getD_some]
set_option maxHeartbeats 2000000 in
theorem put_any (w : World) (b : Nat) (s : St) (A : Option Addr) (n c : Nat) (os : List Or) (hq : Que w b s) (hv : Row.Vals orS w A n os) (hn : n ≤ 10000) (hfar : 0 < n → ∀ x, A = some x → x.block ≠ b) :
    Calls Tryd.prog 17 #[.pointer (some ⟨b, 0, none⟩), .slice A n c] w fun e w' => e = .returned (.tuple #[.int .i64 ((putsT s os).2.1 : Nat), .int .i64 (putsT s os).2.2]) ∧ Que w' b (putsT s os).1 ∧ Kept [b] w w' := by
  have hlen := hv.len_
  have hK0 := Kept.refl [b] w
  go_enter Tryd.func17, Tryd.ntmps17
  go_wp2
  go_loopw [13] (fun i wr => ∃ k : Nat, k ≤ n ∧ i = .int .i64 (k : Nat) ∧ (putsT s (os.take k)).2.2 = 0 ∧ Que wr b (putsT s (os.take k)).1 ∧ Kept [b] w wr) (fun i _ => n - (intOf i).toNat)
  case atStart => exact ⟨0, by omega, rfl, by rw [List.take_zero]; rfl, by rw [List.take_zero]; exact hq, hK0⟩
  case round =>
    clear hq hK0
    obtain ⟨k, hk, rfl, he, hQ, hK⟩ := hrel
    by_cases hkn : k < n
    · obtain ⟨x, rfl, _⟩ := hv.cells (by omega)
      obtain ⟨c0, c1, c2⟩ := or_cells (hv.kept hK (fun h0 y hy => by simp; exact hfar h0 y hy)) k hkn
      have hkz : (k : Int) < (n : Int) := by omega
      have hgo := puts_go (o := os.getD k noOr) he
      rw [← os_next os k (by omega)] at hgo
      have hall := puts_all he
      rw [List.length_take, show min k os.length = k by omega] at hall
      rw [hall] at hgo
      have hst : (putsT s (os.take (k + 1))).2.2 ≠ 0 → putsT s os = putsT s (os.take (k + 1)) := fun h => by
        have := puts_stop (ys := os.drop (k + 1)) h
        rwa [List.take_append_drop] at this
      generalize (putsT s (os.take k)).1 = s1 at *
      generalize os.getD k noOr = o at *
      have hpk := fun W hW => put_k b s1 hQ.2 o W hW
      have hok := ok_put hQ.2 o
      obtain ⟨o1, o2, o3⟩ := o
      dsimp only at c0 c1 c2
      have hQ1 := hQ.1.alloc (.cells #[.int .i64 o1, .int .i64 o2, .int .i64 o3] 23)
      have hX := Has.new wr 23 #[.int .i64 o1, .int .i64 o2, .int .i64 o3]
      have hK1 := hK.alloc (.cells #[.int .i64 o1, .int .i64 o2, .int .i64 o3] 23)
      have hpk1 := hpk _ hQ1
      unfold orV at hpk1
      dsimp only at hpk1
      by_cases h0 : (putT s1 (o1, o2, o3)).2 = 0
      · rw [if_pos h0] at hgo
        have HG := Lib.hid hgo
        rw [h0] at hpk1
        have HO := Lib.hid hok
        clear hv hfar hlen hgo hst hall he hQ hK hQ1 hpk h0 hok hX
        go_wp2_with (go_at_call 34; ((with_reducible refine hpk1.mono ?_); rintro e W5 ⟨rfl, hQ5, hK5⟩; have hK6 := hK1.trans hK5))
        go_roundw
        case rel => exact ⟨k + 1, by omega, by go_num, by rw [HG.out], by rw [HG.out]; exact ⟨hQ5, HO.out⟩, hK6⟩
        case measure => simp [intOf]; omega
      · rw [if_neg h0] at hgo
        have hst1 := hst (by rw [hgo]; exact h0)
        rw [hgo] at hst1
        have hst2 : (putsT s os).2.1 = k := by rw [hst1]
        have hst3 : (putsT s os).2.2 = (putT s1 (o1, o2, o3)).2 := by rw [hst1]
        have hst4 : (putsT s os).1 = (putT s1 (o1, o2, o3)).1 := by rw [hst1]
        have hbd := put_bd s1 (o1, o2, o3)
        have H2 := Lib.hid hst2
        have H3 := Lib.hid hst3
        have H4 := Lib.hid hst4
        have HO := Lib.hid hok
        obtain ⟨er, her⟩ : ∃ er, (putT s1 (o1, o2, o3)).2 = er := ⟨_, rfl⟩
        rw [her] at hpk1 h0 hbd
        have HE := Lib.hid her
        have h0z : (er == 0) = false := by simp; exact h0
        clear hv hfar hlen hgo hst hall he hQ hK hQ1 hpk hok hX hst1 hst2 hst3 hst4 her
        go_wp2_with (go_at_call 34; ((with_reducible refine hpk1.mono ?_); rintro e W5 ⟨rfl, hQ5, hK5⟩; have hK6 := hK1.trans hK5))
        go_ret2
        exact ⟨by rw [H2.out, H3.out, HE.out]; rfl, by rw [H4.out]; exact ⟨hQ5, HO.out⟩, hK6⟩
    · have hkn2 : k = n := by omega
      rw [List.take_of_length_le (by omega)] at he hQ
      have hall := puts_all he
      have HA := Lib.hid hall
      have HE := Lib.hid he
      have HL := Lib.hid hlen
      subst hkn2
      clear hv hfar hall he hlen
      go_wp2
      go_ret2
      exact ⟨by rw [HA.out, HE.out, HL.out]; rfl, hQ, hK⟩
/-- What the landed queue answers. -/
theorem kit : QueKit Que where
  lt := fun h => h.1.lt
  ok := fun h => h.2
  kept := fun h hK hb => ⟨hK.has h.1 hb, h.2⟩
  new_any := new_k
  put_any := put_any
  due_any := fun w b s a h => (due_k b s h.2 a w h.1).mono fun e w' ⟨V, h1, h2, h3, h4⟩ => ⟨V, h1, h2, ⟨h3, ok_due h.2 a⟩, h4⟩
  len_any := fun w b s h => len_k w b s h.1
  from_any := fun w b s h => from_k w b s h.1
  clone_any := fun w b s h => clone_k w b s h.1 h.2
  no_put := no_put
  no_due := no_due
  no_len := no_len
  no_from := no_from
  no_clone := no_clone
end Go.Proofs.YtmefdgmbpihdfaaDoor.Order
