/- slices.Grow of nil and slices.Concat of rows of bytes: a row of the call's own that reads as all of them. -/
import Derived.Test.YtokgcbdpmbjagaaChecked
import Derived.Test.YtokgcbdpmbjagaaArgsB
import Derived.Test.YtokgcbdpmbjagaaOwn
import Derived.Lib.Hide
import Derived.Lib.AppendZeros
import Derived.Deep.QuietTactic
import Derived.BigQuiet
set_option linter.unusedSimpArgs false
set_option linter.unusedVariables false
namespace Go.Proofs.Ytokgcbdpmbjagaa.RU8
open Go.RowKit

theorem own_base {w : World} {base base' n : Nat} {e : TypeId} {v : Value} {xs : List Value} (h : w.ownsRow base e 1 v n xs) (hb : base' ≤ base) : w.ownsRow base' e 1 v n xs :=
  ⟨h.1, h.2.elim .inl (fun ⟨g, cap, cur, hv, hg, r⟩ => .inr ⟨g, cap, cur, hv, Nat.le_trans hb hg, r⟩)⟩
theorem own_room (w : World) (e : TypeId) (cs : Array Value) (h : cs.size ≤ maxLen) : (w.alloc (.cells cs e)).ownsRow w.heap.size e 1 (.slice (some ⟨w.heap.size, 0, none⟩) 0 cs.size) 0 (vals ([] : List Nat)) :=
  ⟨rfl, .inr ⟨_, cs.size, cs, rfl, Nat.le_refl _, Has.new w e cs, by omega, h, by omega, by simp [vals]⟩⟩
theorem grow_any (n : Nat) (w : World) (hn : n ≤ 1048576) :
    Calls Try.prog 32 #[.slice none 0 0, .int .i64 n] w fun e w' => ∃ v, e = .returned v ∧ w'.ownsRow w.heap.size 5 1 v 0 (vals ([] : List Nat)) ∧ Below w.heap.size w w' := by
  rcases Nat.eq_zero_or_pos n with h0 | h0
  · subst h0
    go_enter Try.func32, Try.ntmps32
    go_wp2
    go_ret
    exact ⟨_, rfl, own_none _ _ _, Below.refl _ _⟩
  · obtain ⟨i, hi, hz0, hz1, hz2⟩ := info_parts (P := Try.prog) (e := 5) (z := .int .u8 0) (size := 1) (bytes := 1) (by kernel_rfl)
    have hrun := Lib.run_append_nil_zeros (P := Try.prog) w 24 3 24 5 i (.int .u8 0) .i64 .i64 Try.underlying24 Try.underlying3 hi hz0 n h0 (by omega) (by omega) (by rw [hz2]; omega)
    have hge := grownCap_ge w n 0 5
    have hle := grownCap_le_maxLen w n 0 5 (by unfold maxLen; omega)
    have hsz : ∀ k, (Builtin.zeroCells (Value.int .u8 0).cells k).size = k := fun k => by simp [Builtin.zeroCells, Value.cells]
    obtain ⟨cs, hcs⟩ : ∃ cs, cs = Builtin.zeroCells (Value.int .u8 0).cells n ++ Builtin.zeroCells (Value.int .u8 0).cells (grownCap w n 0 5 - n) := ⟨_, rfl⟩
    have hcz : cs.size = grownCap w n 0 5 := by rw [hcs, Array.size_append, hsz, hsz]; omega
    rw [← hcs, ← hcz] at hrun
    rw [← hcz] at hge hle
    have hown := own_room w.drew 5 cs hle
    have hown2 : ((w.alloc (.cells cs 5)).drew).ownsRow w.heap.size 5 1 (.slice (some ⟨w.heap.size, 0, none⟩) 0 cs.size) 0 (vals ([] : List Nat)) := hown
    have hB : Below w.heap.size w ((w.alloc (.cells cs 5)).drew) := below_drewN ((Below.refl w.heap.size w).alloc (Nat.le_refl _) _) 1
    generalize cs.size = cap at *
    unfold maxLen at hle
    clear hcs hcz hsz hown hz0 hz1 hz2 hi
    have Hrun := Lib.hid hrun
    clear hrun
    go_enter Try.func32, Try.ntmps32
    go_wp2_with (at_builtin; refine Lib.wpList_append_run _ rfl (.tmp 20) (.tmp 21) 24 3 rfl _ _ rfl rfl _ _ Hrun.out ?_)
    go_ret
    exact ⟨_, rfl, hown2, hB⟩
/-- How long, and what, the first j rows are together. -/
def tot (L : Nat → Nat) : Nat → Nat
  | 0 => 0
  | j + 1 => tot L j + L j
def cat (Y : Nat → List Nat) : Nat → List Nat
  | 0 => []
  | j + 1 => cat Y j ++ Y j
theorem tot_le (L : Nat → Nat) {i j : Nat} (h : i ≤ j) : tot L i ≤ tot L j := by
  induction j with
  | zero => obtain rfl : i = 0 := by omega
            exact Nat.le_refl _
  | succ j ih =>
    rcases (by omega : i = j + 1 ∨ i ≤ j) with rfl | h1
    · exact Nat.le_refl _
    · have := ih h1
      have e : tot L (j + 1) = tot L j + L j := rfl
      omega
theorem concat_any (x : Addr) (m c : Nat) (A : Nat → Option Addr) (L C : Nat → Nat) (Y : Nat → List Nat) (w : World)
    (hp : ∀ j, j < m → w.cell? (x.add j) = some (.slice (A j) (L j) (C j)) ∧ Vals w (A j) (L j) (Y j)) (hm : tot L m ≤ 1048576) (hm2 : m ≤ 1048576) :
    Calls Try.prog 28 #[.slice (some x) m c] w fun e w' => ∃ v, e = .returned v ∧ w'.ownsRow w.heap.size 5 1 v (tot L m) (vals (cat Y m)) ∧ Below w.heap.size w w' := by
  have hInfo : (Try.prog.info? 5).map (fun i => (i.zero, i.size, i.bytes)) = some (some (.int .u8 0), 1, 1) := by kernel_rfl
  have HInfo := Lib.hid hInfo
  clear hInfo
  have hgrow := grow_any (tot L m) w hm
  have htot : ∀ j, j < m → tot L j + L j = tot L (j + 1) := fun j _ => rfl
  have hle : ∀ j, j ≤ m → tot L j ≤ 1048576 := fun j hj => Nat.le_trans (tot_le L hj) hm
  have hcat : ∀ j, cat Y j ++ Y j = cat Y (j + 1) := fun j => rfl
  have h0 : tot L 0 = 0 := rfl
  have hc0 : cat Y 0 = [] := rfl
  have hT : ∀ j, tot L j + L j = tot L (j + 1) := fun j => rfl
  generalize tot L = T at *
  have HT := Lib.hid hT
  clear hT
  generalize cat Y = Z at *
  have HC0 := Lib.hid hc0
  have HCat := Lib.hid hcat
  have H0 := Lib.hid h0
  clear hcat hc0 h0
  go_enter Try.func28, Try.ntmps28
  go_wp2
  go_loop [3, 11] (fun s i => ∃ j : Nat, j ≤ m ∧ i = .int .i64 (j : Nat) ∧ s = .int .i64 (T j : Nat)) (fun _ i => m - (intOf i).toNat)
  case atStart => exact ⟨0, by omega, rfl, by rw [H0.out]; rfl⟩
  case round =>
    obtain ⟨j, hj, rfl, rfl⟩ := hrel
    by_cases h9 : j < m
    · obtain ⟨hcell, _⟩ := hp j h9
      have ht := htot j h9
      have hl := hle (j + 1) (by omega)
      have htz : (T j : Int) + (L j : Int) = (T (j + 1) : Nat) := by omega
      clear ht hp htot hle hgrow
      generalize hT1 : T (j + 1) = t1 at *
      have HT1 := Lib.hid hT1
      clear hT1
      go_wp2
      go_round
      case rel => exact ⟨j + 1, by omega, by go_num, by rw [HT1.out]⟩
      case measure => simp [intOf]; omega
    · obtain rfl : j = m := by omega
      clear htot
      go_wp2_with (go_at_call 32; ((with_reducible refine hgrow.mono ?_); rintro e W1 ⟨v, rfl, hO, hB⟩))
      clear hgrow
      go_loopw [6, 27] (fun v i wr => ∃ k : Nat, k ≤ j ∧ i = .int .i64 (k : Nat) ∧ wr.ownsRow w.heap.size 5 1 v (T k) (vals (Z k)) ∧ Below w.heap.size w wr) (fun _ i _ => j - (intOf i).toNat)
      case atStart => exact ⟨0, by omega, rfl, by rw [H0.out, HC0.out]; exact hO, hB⟩
      case round =>
        clear hO hB
        obtain ⟨k, hk, rfl, hO, hB⟩ := hrel
        by_cases h8 : k < j
        · obtain ⟨hcell0, hv0⟩ := hp k h8
          have hcell := (hB.cell (World.block_lt_of_cell? _ _ hcell0)).trans hcell0
          have hv := hv0.below hB
          have hl := hle (k + 1) (by omega)
          have ht : T k + L k = T (k + 1) := HT.out k
          have hl2 : T k + L k ≤ 1048576 := by omega
          have HTk := Lib.hid ht
          clear hcell0 hv0 hp hle ht hl
          go_wp2_with (at_builtin; refine wpList_append_vals rfl (.tmp 31) (.tmp 32) _ rfl w.heap.size 5 1 (by omega) Try.underlying24 HInfo.out u6 (T k) (Z k) rfl (by exact hO) (A k) (L k) (C k) (Y k) rfl (by exact hv) (by exact hl2) (by exact hB.size) ?_; intro v2 W2 hO2 hg2 hat2; have hK2 := Kept.of_grown hg2; have hB2 := below_kept hB hK2 hB.size (own_in hO))
          go_roundw
          case rel => exact ⟨k + 1, by omega, by go_num, by rw [← HCat.out, ← HTk.out]; exact hO2, hB2⟩
          case measure => simp [intOf]; omega
        · obtain rfl : k = j := by omega
          go_wp2
          go_ret
          exact ⟨_, rfl, hO, hB⟩
end Go.Proofs.Ytokgcbdpmbjagaa.RU8
