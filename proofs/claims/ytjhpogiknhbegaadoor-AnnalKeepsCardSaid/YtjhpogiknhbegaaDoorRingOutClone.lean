/- A ring of outs: a copy of it. -/
import Derived.Test.YtjhpogiknhbegaaDoorRingOut
import Derived.Deep.RegionWith
import Derived.Deep.RegionHeld3
import Derived.Lib.SliceRun
set_option linter.unusedSimpArgs false
set_option linter.unusedVariables false
namespace Go.Proofs.YtjhpogiknhbegaaDoor.RingO
open Go.RowKit
open Alarm (Ot otS noOt ot_cells)
def SCloned (w : World) (n : Nat) (cs : List Ot) (e : Ending) (w' : World) : Prop :=
  ∃ g' q', e = .returned (.slice (some ⟨g', 0, none⟩) n q') ∧ w.heap.size ≤ g' ∧ n ≤ q' ∧ q' ≤ 9223372036854775807 ∧ (∃ tl, Has w' g' 28 (Row.flat otS cs ++ tl).toArray) ∧ Below w.heap.size w w'
theorem sclone_any (g n q : Nat) (cs : List Ot) (w : World) (hv : Row.Vals otS w (some ⟨g, 0, none⟩) n cs) (hn : 0 < n) (hm : n ≤ 65536) :
    Calls Tryd.prog 31 #[.slice (some ⟨g, 0, none⟩) n q] w (SCloned w n cs) := by
  have hO := Row.own_empty (S := otS) w 28
  have hV := hv.below ((Below.refl w.heap.size w).alloc (Nat.le_refl _) (.cells #[] 28))
  have hInfo : (Tryd.prog.info? 28).map (fun i => (i.zero, i.size, i.bytes)) = some (some (.agg #[.int .i64 0, .int .i64 0, .int .i64 0, .int .i64 0]), 4, 32) := by kernel_rfl
  have HInfo := Lib.hid hInfo
  clear hInfo
  have heq : ∀ W : World, (binOp .eql 25 (.slice (some ⟨g, 0, none⟩) n q) (.slice none 0 0)).run Tryd.prog W = .ok (.bool false) W := fun W => Lib.run_eql_slice_nil W _ 28 (some ⟨g, 0, none⟩) n q 0 0 Tryd.underlying25
  go_enter Tryd.func31, Tryd.ntmps31
  go_wp2_with (at_builtin; refine Row.wpList_append (S := otS) rfl (.tmp 5) (.tmp 6) _ rfl w.heap.size 28 _ 32 (by omega) Tryd.underlying25 HInfo.out (by kernel_rfl) _ 0 [] rfl hO (some ⟨g, 0, none⟩) n q cs rfl hV (by omega) (by simp) ?_; intro v1 w1 hO1 hg1 hat1)
  go_ret
  simp only [Nat.zero_add, List.nil_append] at hO1
  have hB := ((Below.refl w.heap.size w).alloc (Nat.le_refl _) (.cells #[] 28)).grown hg1 (by simp) (fun k hk => by cases hk; exact Nat.le_refl _)
  rcases hO1.2 with ⟨_, h0⟩ | ⟨g', cap, cur, rfl, hb, hh, h1, h2, h3, h4⟩
  · omega
  · unfold maxLen at h2
    refine ⟨g', cap, rfl, hb, h1, by omega, ⟨cur.toList.drop (n * 4), ?_⟩, hB⟩
    have h5 : cur.toList.take (n * 4) = Row.flat otS cs := h4
    rw [← h5, List.take_append_drop]
    exact hh
def Cloned (w : World) (n f : Nat) (cs xs : List Ot) (e : Ending) (w' : World) : Prop :=
  ∃ b' g' q', e = .returned (.pointer (some ⟨b', 0, none⟩)) ∧ Ring w' b' g' n q' f cs xs ∧ w.heap.size ≤ b' ∧ w.heap.size ≤ g' ∧ Below w.heap.size w w'
set_option maxHeartbeats 4000000 in
theorem clone_any (b g n q f : Nat) (cs xs : List Ot) (w : World) (h : Ring w b g n q f cs xs) :
    Calls Tryd.prog 21 #[.pointer (some ⟨b, 0, none⟩)] w (Cloned w n f cs xs) := by
  obtain ⟨c0, c1, c2⟩ := h.core.cells
  have hn := h.core.le
  have hf := h.core.first
  have hbl := h.core.lt_.1
  have hV := h.core.vals
  have hsc := fun W (hW : Row.Vals otS W (some ⟨g, 0, none⟩) n cs) => sclone_any g n q cs W hW (by omega) hn
  have hH := Lib.hid h
  clear h
  go_enter Tryd.func21, Tryd.ntmps21
  go_wp2
  go_region_held3 (fun W' => W'.cell? ⟨b, 0, none⟩ = some (.slice (some ⟨g, 0, none⟩) n q) ∧ W'.cell? ⟨b, 1, none⟩ = some (.int .i64 f) ∧ W'.cell? ⟨b, 2, none⟩ = some (.int .i64 xs.length)) (first | exact ⟨k0, k1, k2⟩ | go_keep)
    (first | (go_at_call 31; ((with_reducible refine (hsc _ (by exact hV.same rfl)).mono ?_); rintro e W2 ⟨g', q', rfl, hg, hq1, hq2, hsl, hB⟩; have hBw : Below w.heap.size w W2 := ⟨hB.os, hB.tape, hB.output, hB.size, hB.block⟩; have k0 := (hBw.cell (p := ⟨b, 0, none⟩) hbl).trans c0; have k1 := (hBw.cell (p := ⟨b, 1, none⟩) hbl).trans c1; have k2 := (hBw.cell (p := ⟨b, 2, none⟩) hbl).trans c2)))
  all_goals
    go_wp2
    go_ret
    obtain ⟨tl, hsl⟩ := hsl
    have hO := hH.out
    exact ⟨W2.heap.size, g', q', rfl, ⟨⟨Has.new W2 _ _, ⟨tl, hsl.alloc _⟩, hO.core.size, hO.core.first, hO.core.room, hO.core.pow, hq1, hq2⟩, hO.at_⟩, hBw.size, hg, hBw.alloc hBw.size _⟩
end Go.Proofs.YtjhpogiknhbegaaDoor.RingO
