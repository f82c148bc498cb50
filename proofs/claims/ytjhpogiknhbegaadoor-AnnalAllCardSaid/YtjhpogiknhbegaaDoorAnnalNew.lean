/- The landed annal: New, and a copy of it. -/
import Derived.Test.YtjhpogiknhbegaaDoorAnnalIs
import Derived.Test.YtjhpogiknhbegaaDoorRingOutNew
import Derived.Test.YtjhpogiknhbegaaDoorRingOutClone
set_option linter.unusedSimpArgs false
set_option linter.unusedVariables false
namespace Go.Proofs.YtjhpogiknhbegaaDoor.Annal
open Go.RowKit
open Alarm (Ot otS noOt ot_cells)
open RingO (Ring Became)
theorem tz64_kept (w : World) (h : Tab w) : Calls Tryd.prog 27 #[.int .u64 64] w fun e w' => e = .returned (.int .i64 6) ∧ w = w' := by
  unfold Tab at h
  have key : IntKind.u64.wrap (bits BinOp.and IntKind.u64 64 (IntKind.u64.wrap (-64)) * 285870213051353865) / 288230376151711744 = 63 := by kernel_rfl
  go_enter Tryd.func27, Tryd.ntmps27
  go_wp2
  go_ret
  exact ⟨rfl, rfl⟩
theorem tz_kept (w : World) (h : Tab w) : Calls Tryd.prog 19 #[.int .u64 64] w fun e w' => e = .returned (.int .i64 6) ∧ w = w' := by
  have h1 := tz64_kept w h
  go_enter Tryd.func19, Tryd.ntmps19
  go_wp2_with (go_at_call 27; ((with_reducible refine h1.mono ?_); rintro e w' ⟨rfl, rfl⟩))
  go_ret
  exact ⟨rfl, rfl⟩
theorem new_k (w : World) (h : Tab w) : Calls Tryd.prog 5 #[] w fun e w' => ∃ b S, e = .returned (.pointer (some ⟨b, 0, none⟩)) ∧ Ann w' b S [] ∧ (∀ k ∈ S, w.heap.size ≤ k) ∧ Below w.heap.size w w' := by
  have h1 := tz_kept w h
  have h2 := RingO.new_yes 6 (by omega) w
  rw [show ((6 : Nat) : Int) = 6 from rfl, show 2 ^ 6 = 64 from rfl] at h2
  go_enter Tryd.func5, Tryd.ntmps5
  go_wp2_with (first
    | (go_at_call 19; ((with_reducible refine h1.mono ?_); rintro e w' ⟨rfl, rfl⟩))
    | (go_at_call 18; ((with_reducible refine h2.mono ?_); rintro e W2 ⟨rfl, hR2, hB2, hs2⟩)))
  go_ret
  have h9 := Has.new W2 50 (cellsA (w.heap.size + 1) 0 (fun _ => 0))
  rw [hs2] at h9
  refine ⟨w.heap.size + 2, _, rfl, ⟨w.heap.size + 1, w.heap.size, 64, 0, _, rfl, ⟨?_, hR2.alloc _, by omega⟩, by simp⟩, fun k hk => by simp at hk; omega, hB2.alloc hB2.size _⟩
  rw [cellsA_congr (w.heap.size + 1) _ (c := fun k => countA [] (k : Nat)) (c' := fun _ => 0) (fun k hk => by unfold countA; split <;> rfl)]
  exact h9
theorem ann_ld {ops : Array Oper} {rest : List Oper} {op : Oper} {a : Act} {w : World} {Q : Exit → Act → World → Prop} (hgd : op.guard = none) (x : Operand) (ho : op.op = .load 50 x) (g : Nat) (hx : a.eval x = .pointer (some ⟨g, 0, none⟩)) {cs : Array Value}
    (h : Has w g 50 cs) (hs : cs.size = 12) (hk : wpList Tryd.prog ops Q rest (a.put op.dst (.agg cs)) w) : wpList Tryd.prog ops Q (op :: rest) a w :=
  wpList_plain hgd fun _ hK => wp_load_row 50 x ho g hx 50 cs (0, 0) (.struct (Tryd.prog.fieldsOf 50)) h (by kernel_rfl) rfl (by rw [hs]; kernel_rfl) (hK _ _ hk)
theorem ann_st {ops : Array Oper} {rest : List Oper} {op : Oper} {a : Act} {w : World} {Q : Exit → Act → World → Prop} (hgd : op.guard = none) (x y : Operand) (ho : op.op = .store 50 x y) (g : Nat) (cs : Array Value) (hx : a.eval x = .pointer (some ⟨g, 0, none⟩)) (hy : a.eval y = .agg cs) {old : Array Value}
    (h : Has w g 50 old) (hs : cs.size = 12) (hos : old.size = 12) (h1 : cs.all (·.oneCell') = true) (hk : wpList Tryd.prog ops Q rest (a.put op.dst undef) (w.setRow g cs)) : wpList Tryd.prog ops Q (op :: rest) a w :=
  wpList_plain hgd fun _ hK => wp_store_row 50 x y ho g cs hx hy 50 old h (by rw [hs]; kernel_rfl) (by rw [hs, hos]) h1 (hK _ _ hk)
def zeroA : Array Value := #[.pointer none, .int .i64 0, .int .i64 0, .int .i64 0, .int .i64 0, .int .i64 0, .int .i64 0, .int .i64 0, .int .i64 0, .int .i64 0, .int .i64 0, .int .i64 0]
theorem clone_k (w : World) (b : Nat) (S : List Nat) (all : List Ot) (h : Ann w b S all) : Calls Tryd.prog 7 #[.pointer (some ⟨b, 0, none⟩)] w fun e w' => ∃ c S', e = .returned (.pointer (some ⟨c, 0, none⟩)) ∧ Ann w' c S' all ∧ (∀ k ∈ S', w.heap.size ≤ k) ∧ Below w.heap.size w w' := by
  obtain ⟨r, g, q, f, cs, rfl, hM, hl⟩ := h
  have hH := hM.head
  have hY := Has.new w 50 zeroA
  have hM1 := (hM.alloc (.cells zeroA 50)).kept (kept_row _ w.heap.size (cellsA r (all.length - (keptA all).length) (fun k => countA all (k : Nat)))) (by have := hM.lt_; simp; omega) (by have := hM.lt_; simp; omega) (by have := hM.lt_; simp; omega)
  have hZ := hY.row (cellsA r (all.length - (keptA all).length) (fun k => countA all (k : Nat)))
  have hK := below_kept ((Below.refl w.heap.size w).alloc (Nat.le_refl _) (.cells zeroA 50)) (kept_row (w.alloc (.cells zeroA 50)) w.heap.size (cellsA r (all.length - (keptA all).length) (fun k => countA all (k : Nat)))) (by simp) (by simp)
  have hcl := RingO.clone_any r g 64 q f cs (keptA all) _ hM1.ring
  have c0 := hM1.cells.1
  have hlt := hM.lt_
  unfold zeroA at hY
  generalize hcs : cellsA r (all.length - (keptA all).length) (fun k => countA all (k : Nat)) = cA at *
  have hsz : cA.size = 12 := by rw [← hcs]; exact cellsA_size _ _ _
  have hc0 : cA[0]? = some (.pointer (some ⟨r, 0, none⟩)) := by rw [← hcs]; rfl
  have hone : cA.all (·.oneCell') = true := by rw [← hcs]; exact cellsA_one _ _ _
  generalize hW1 : (w.alloc (.cells zeroA 50)).setRow w.heap.size cA = W1 at *
  unfold zeroA at hW1
  go_enter Tryd.func7, Tryd.ntmps7
  go_wp2_with (first
    | (refine ann_ld rfl _ rfl _ rfl hH hsz ?_)
    | (refine ann_st rfl _ _ rfl _ _ rfl rfl hY hsz rfl hone ?_; rw [hW1])
    | (go_at_call 21; ((with_reducible refine hcl.mono ?_); rintro e W2 ⟨b', g', q', rfl, hR2, hb', hg', hB2⟩; have hZ2 := hZ.below hB2 hZ.lt; have f0 := hZ2.frozen 0; have y0 := (hZ2.cell 0).trans hc0)))
  go_ret
  have hs1 := hK.size
  have hs2 := hB2.size
  have hl1 := hZ.lt
  refine ⟨_, _, rfl, ⟨b', g', q', f, cs, rfl, ⟨?_, ring_kept hR2 ((Kept.refl [w.heap.size] W2).setCell (p := ⟨w.heap.size, 0, none⟩) (.inl (by simp)) _) (by simp; omega) (by simp; omega), by omega⟩, hl⟩, fun k hk => by simp at hk; omega, (hK.trans (hB2.mono hs1)).setCell (p := ⟨w.heap.size, 0, none⟩) (Nat.le_refl _) _⟩
  have h9 := hZ2.set_ 0 (.pointer (some ⟨b', 0, none⟩))
  rw [← hcs, cellsA_ring] at h9
  exact h9
end Go.Proofs.YtjhpogiknhbegaaDoor.Annal
