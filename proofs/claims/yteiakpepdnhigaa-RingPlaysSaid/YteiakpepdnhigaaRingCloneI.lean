/- A ring of int: a copy of it. -/
import Derived.Test.YteiakpepdnhigaaRingI
import Derived.Test.YteiakpepdnhigaaValsI
import Derived.Deep.RegionWith
import Derived.Deep.RegionHeld3
import Derived.Lib.SliceRun
set_option linter.unusedSimpArgs false
set_option linter.unusedVariables false
namespace Go.Proofs.Yteiakpepdnhigaa.RInt
open Go.RowKit

def SCloned (w : World) (n : Nat) (cs : List Int) (e : Ending) (w' : World) : Prop :=
  ∃ g' q', e = .returned (.slice (some ⟨g', 0, none⟩) n q') ∧ w.heap.size ≤ g' ∧ n ≤ q' ∧ q' ≤ 9223372036854775807 ∧ (∃ tl, Has w' g' 3 (vals cs ++ tl).toArray) ∧ Below w.heap.size w w'
theorem sclone_any (g n q : Nat) (cs : List Int) (w : World) (hv : Vals w (some ⟨g, 0, none⟩) n cs) (hn : 0 < n) (hm : n ≤ 65536) :
    Calls Try.prog 28 #[.slice (some ⟨g, 0, none⟩) n q] w (SCloned w n cs) := by
  have hO := own_empty w 3
  have hV := hv.below ((Below.refl w.heap.size w).alloc (Nat.le_refl _) (.cells #[] 3))
  have hInfo : (Try.prog.info? 3).map (fun i => (i.zero, i.size, i.bytes)) = some (some (.int .i64 0), 1, 8) := by kernel_rfl
  have HInfo := Lib.hid hInfo
  clear hInfo
  have heq : ∀ W : World, (binOp .eql 27 (.slice (some ⟨g, 0, none⟩) n q) (.slice none 0 0)).run Try.prog W = .ok (.bool false) W := fun W => Lib.run_eql_slice_nil W _ 3 (some ⟨g, 0, none⟩) n q 0 0 Try.underlying27
  go_enter Try.func28, Try.ntmps28
  go_wp2_with (at_builtin; refine wpList_append_vals rfl (.tmp 5) (.tmp 6) _ rfl w.heap.size 3 8 (by omega) Try.underlying27 HInfo.out _ 0 [] rfl hO (some ⟨g, 0, none⟩) n q cs rfl hV (by omega) (by simp) ?_; intro v1 w1 hO1 hg1 hat1)
  go_ret
  simp only [Nat.zero_add, List.nil_append] at hO1
  have hB := ((Below.refl w.heap.size w).alloc (Nat.le_refl _) (.cells #[] 3)).grown hg1 (by simp) (fun k hk => by cases hk; exact Nat.le_refl _)
  rcases hO1.2 with ⟨_, h0⟩ | ⟨g', cap, cur, rfl, hb, hh, h1, h2, h3, h4⟩
  · omega
  · unfold maxLen at h2
    refine ⟨g', cap, rfl, hb, h1, by omega, ⟨cur.toList.drop n, ?_⟩, hB⟩
    rw [← h4, Nat.mul_one, List.take_append_drop]
    exact hh

def Cloned (w : World) (n f : Nat) (cs xs : List Int) (e : Ending) (w' : World) : Prop :=
  ∃ b' g' q', e = .returned (.pointer (some ⟨b', 0, none⟩)) ∧ Ring w' b' g' n q' f cs xs ∧ w.heap.size ≤ b' ∧ w.heap.size ≤ g' ∧ Below w.heap.size w w'
set_option maxHeartbeats 4000000 in
theorem clone_any (b g n q f : Nat) (cs xs : List Int) (w : World) (h : Ring w b g n q f cs xs) :
    Calls Try.prog 17 #[.pointer (some ⟨b, 0, none⟩)] w (Cloned w n f cs xs) := by
  obtain ⟨c0, c1, c2⟩ := h.core.cells
  have hn := h.core.le
  have hf := h.core.first
  have hbl := h.core.lt_.1
  have hV : Vals w (some ⟨g, 0, none⟩) n cs := by
    obtain ⟨tl, h4⟩ := h.core.slots
    have := Vals.has (ys := cs) h4
    rwa [h.core.size] at this
  have hsc := fun W (hW : Vals W (some ⟨g, 0, none⟩) n cs) => sclone_any g n q cs W hW (by omega) hn
  have hH := Lib.hid h
  clear h
  go_enter Try.func17, Try.ntmps17
  go_wp2
  go_region_held3 (fun W' => W'.cell? ⟨b, 0, none⟩ = some (.slice (some ⟨g, 0, none⟩) n q) ∧ W'.cell? ⟨b, 1, none⟩ = some (.int .i64 f) ∧ W'.cell? ⟨b, 2, none⟩ = some (.int .i64 xs.length)) (first | exact ⟨k0, k1, k2⟩ | go_keep)
    (first | (go_at_call 28; ((with_reducible refine (hsc _ (by exact hV.same rfl)).mono ?_); rintro e W2 ⟨g', q', rfl, hg, hq1, hq2, hsl, hB⟩; have hBw : Below w.heap.size w W2 := ⟨hB.os, hB.tape, hB.output, hB.size, hB.block⟩; have k0 := (hBw.cell (p := ⟨b, 0, none⟩) hbl).trans c0; have k1 := (hBw.cell (p := ⟨b, 1, none⟩) hbl).trans c1; have k2 := (hBw.cell (p := ⟨b, 2, none⟩) hbl).trans c2)))
  all_goals
    go_wp2
    go_ret
    obtain ⟨tl, hsl⟩ := hsl
    have hO := hH.out
    exact ⟨W2.heap.size, g', q', rfl, ⟨⟨Has.new W2 _ _, ⟨tl, hsl.alloc _⟩, hO.core.size, hO.core.first, hO.core.room, hO.core.pow, hq1, hq2⟩, hO.at_⟩, hBw.size, hg, hBw.alloc hBw.size _⟩
end Go.Proofs.Yteiakpepdnhigaa.RInt
