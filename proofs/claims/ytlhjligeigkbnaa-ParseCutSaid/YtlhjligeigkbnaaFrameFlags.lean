/- frame's flagFault: is a sample's first byte neither 0 nor 1? -/
import Derived.Test.YtlhjligeigkbnaaChunk
import Derived.Test.YtlhjligeigkbnaaFrameLookMath
set_option linter.unusedSimpArgs false
set_option linter.unusedVariables false
namespace Go.Proofs.Ytlhjligeigkbnaa.Frm
open Go.RowKit Go.Shelf RU8 Chunk

attribute [local go_sem] Oper.semAt_some

/-- Does the chunk with this number begin with a byte that is no flag? -/
def BadAt (ys : List Nat) (k : Nat) : Prop := 1 < ys.getD (3 * k) 0
open Classical in
noncomputable def flagsE (ys : List Nat) : Int := if ∃ k, k < chunks ys.length ∧ BadAt ys k then 62 else 0
theorem chunk_pos {len : Nat} (k : Fin (chunks len)) : 3 * k.1 < len ∧ 0 < size len k.1 ∧ size len k.1 ≤ 3 := by
  have := k.2
  unfold chunks at this
  unfold size
  omega
set_option maxRecDepth 100000 in
set_option maxHeartbeats 2000000 in
theorem flags_any (A : Option Addr) (len cap : Nat) (ys : List Nat) (w : World) (hv : Vals w A len ys) (hlc : len ≤ cap) (hbig : cap ≤ 9223372036854775807) (hl : len ≤ 1000) :
    Calls Try.prog 33 #[.slice A len cap] w fun e w' => e = .returned (.int .i64 (flagsE ys)) ∧ Below w.heap.size w w' := by
  have hlen := hv.len_
  have hA : 0 < len → ∃ x, A = some x := fun h => by obtain ⟨x, hx, _⟩ := hv.cells h; exact ⟨x, hx⟩
  have hbad : ∀ k : Fin (chunks len), BadAt ys k.1 → flagsE ys = 62 := fun k hk => by unfold flagsE; rw [if_pos ⟨k.1, by rw [hlen]; exact k.2, hk⟩]
  have hgood : (∀ k : Fin (chunks len), ¬ BadAt ys k.1) → flagsE ys = 0 := fun h => by
    unfold flagsE
    rw [if_neg]
    rintro ⟨k, hk, hb⟩
    exact h ⟨k, by rw [← hlen]; exact hk⟩ hb
  have HBad := Lib.hid hbad
  have HGood := Lib.hid hgood
  clear hbad hgood
  refine (callsIn_wide (n := 3)).1 ?_
  refine callsIn_of_wp_marks Try.func33 rfl trivial ?_ rfl
  simp only [Try.ntmps33, List.size_toArray, List.length_cons, List.length_nil, Nat.reduceAdd, Nat.reduceSub, Array.replicate_succ, Array.replicate_zero, List.push_toArray, List.append_toArray, List.nil_append, List.cons_append]
  gi_wp2_with (refine ⟨trivial, ?_⟩; gi_at_call 37; refine (Chunk.chunk_in _ _ _ _ _).mono ?_; rintro e w' ⟨rfl, rfl⟩)
  have bR := Boxed.new w 45 (.int .i64 0)
  have bS := Boxed.new (w.alloc (.cells #[.int .i64 0] 45)) 22 (.slice A len cap)
  have bN := Boxed.new ((w.alloc (.cells #[.int .i64 0] 45)).alloc (.cells #[.slice A len cap] 22)) 3 (.int .i64 3)
  simp only [World.size_alloc] at bS bN
  have hB0 : Below w.heap.size w (((w.alloc (.cells #[.int .i64 0] 45)).alloc (.cells #[.slice A len cap] 22)).alloc (.cells #[.int .i64 3] 3)) := (((Below.refl _ w).alloc (Nat.le_refl _) _).alloc (by simp) _).alloc (by simp; omega) _
  have h12 : 1 ≤ 3 := by decide
  refine wpIn_rangeFunc_ownG (α := Fin (chunks len)) (n := 3) rfl h12 (gf := 40) (lb := #[.pointer (some ⟨w.heap.size + 1, 0, none⟩), .pointer (some ⟨w.heap.size + 1 + 1, 0, none⟩)]) rfl trivial (enters_of Try.func40 (by kernel_rfl) rfl)
    (Chunk.chunk_stops 2 (by decide) (w.heap.size + 1) (w.heap.size + 1 + 1) (w.heap.size + 3) [w.heap.size] A len cap hA hlc hbig (by omega) _ (by omega) (by simp) (by omega) (by simp; omega) (by simp) (by simp) ((bS.alloc _).cell) bN.cell) KeptTo.trans (keptTo_b (by simp)) (Below.refl _ _) (fun _ => rfl)
    (fun (pre : List (Fin (chunks len))) W => ((∀ k ∈ pre, ¬ BadAt ys k.1) ∧ W.cell? ⟨w.heap.size, 0, none⟩ = some (.int .i64 0) ∧ W.frozen? ⟨w.heap.size, 0, none⟩ = false) ∧ Below w.heap.size w W)
    (fun c (pre : List (Fin (chunks len))) W => (c = .ret ∧ flagsE ys = 62 ∧ W.cell? ⟨w.heap.size, 0, none⟩ = some (.int .i64 62)) ∧ Below w.heap.size w W)
    (OwnFrom.and (Own.from (fun s A B row hs hg hr => ⟨hs.1, cell_kept hs.2.1 hg hr, (frozen_kept hs.2.1 hg hr).trans hs.2.2⟩) _) (ownFrom_below (Nat.le_refl _) (by simp; omega)))
    (fun c => OwnFrom.and (Own.from (fun s A B row hs hg hr => ⟨hs.1, hs.2.1, cell_kept hs.2.2 hg hr⟩) _) (ownFrom_below (Nat.le_refl _) (by simp; omega)))
    ⟨⟨by simp, ((bR.alloc _).alloc _).cell, ((bR.alloc _).alloc _).frozen⟩, hB0⟩
    (fun (k : Fin (chunks len)) => { tmps := #[.slice A len cap, undef, .pointer (some ⟨w.heap.size, 0, none⟩), chunk A len k.1, .slice A len cap, .func (.func 40) #[] #[.pointer (some ⟨w.heap.size + 1, 0, none⟩), .pointer (some ⟨w.heap.size + 1 + 1, 0, none⟩)], chunk A len k.1, undef, undef, undef, undef], defers := [] }) ?assign ?body ?done ?stop
  case assign =>
    intro l x W K hK
    gi_wp2
    exact hK
  case body =>
    rintro l pre k W ⟨⟨hp, hcr, hfr⟩, hB⟩ _
    obtain ⟨hk1, hk2, hk3⟩ := chunk_pos k
    obtain ⟨x, rfl⟩ := hA (by omega)
    obtain ⟨y, hy, hcs⟩ := (hv.below hB).cells (by omega)
    injection hy with hy
    subst hy
    have hc0 := hcs (3 * k.1) hk1
    have hbk : ∀ v, ys.getD (3 * k.1) 0 = v → (BadAt ys k.1 ↔ 1 < v) := fun v hv => by unfold BadAt; rw [hv]
    unfold chunk
    rw [Option.map_some]
    generalize 3 * k.1 = j at *
    generalize size len k.1 = e at *
    obtain ⟨v, hv0⟩ : ∃ v, ys.getD j 0 = v := ⟨_, rfl⟩
    rw [hv0] at hc0
    have hbk2 := Lib.hid (hbk v hv0)
    clear hbk hcs hv0
    rcases Nat.lt_or_ge 1 v with h1 | h1
    · gi_wp2
      exact ⟨(KeepsOthers.setCell _ _ _).from _, ⟨rfl, HBad.out k (hbk2.out.2 h1), World.cell?_setCell_same' _ _ _ (by rw [hcr]; rfl)⟩, hB.setCell (p := ⟨w.heap.size, 0, none⟩) (Nat.le_refl _) _⟩
    · gi_wp2
      refine ⟨KeepsFrom.refl _ _, KeptTo.refl _ _ _, ⟨fun i hi => ?_, hcr, hfr⟩, hB⟩
      rcases List.mem_append.1 hi with h2 | h2
      · exact hp i h2
      · obtain rfl : i = k := by simpa using h2
        exact fun h3 => by have := hbk2.out.1 h3; omega
  case done =>
    rintro D xs W hD rfl ⟨⟨hne, hcr, hfr⟩, hB⟩ hK
    have hres := Lib.hid (HGood.out fun k => hne k (List.mem_finRange k))
    gi_wp2
    have hK' := (KeepsOthers.setCell W ⟨w.heap.size, 0, none⟩ (.int .i64 0)).same D _ hK rfl
    refine ⟨by simp, .inl ⟨_, _, rfl, run_takeDeferred hK', ?_⟩⟩
    have hc5 := cell_kept (World.cell?_setCell_same' W ⟨w.heap.size, 0, none⟩ (.int .i64 0) (by rw [hcr]; rfl)) (grownBy_putObj' _ D (.deferred none)) (fun r e => by cases e; exact ⟨_, hK', rfl⟩)
    refine ⟨.int .i64 0, ?_, by rw [hres.out], (hB.setCell (p := ⟨w.heap.size, 0, none⟩) (Nat.le_refl _) _).trans (belowK_b (w := w) (Nat.le_refl _) _ D _ _ (by simp at hD; omega) hK' rfl rfl)⟩
    simp [results, Try.results33, go_sem, hc5]
  case stop =>
    rintro D c pre W hD _ ⟨⟨rfl, h62, hcr⟩, hB⟩ hK
    have hres := Lib.hid h62
    clear h62
    gi_wp2
    refine ⟨by simp, .inl ⟨_, _, rfl, run_takeDeferred hK, ?_⟩⟩
    have hc5 := cell_kept hcr (grownBy_putObj' _ D (.deferred none)) (fun r e => by cases e; exact ⟨_, hK, rfl⟩)
    refine ⟨.int .i64 62, ?_, by rw [hres.out], hB.trans (belowK_b (w := w) (Nat.le_refl _) W D _ _ (by simp at hD; omega) hK rfl rfl)⟩
    simp [results, Try.results33, go_sem, hc5]
end Go.Proofs.Ytlhjligeigkbnaa.Frm
