/- The landed code: what order a line says. -/
import Derived.Test.YtmefdgmbpihdfaaDoorOrderLine
import Derived.Test.YtmefdgmbpihdfaaDoorTextPieceCode
set_option linter.unusedSimpArgs false
set_option linter.unusedVariables false
namespace Go.Proofs.YtmefdgmbpihdfaaDoor.Order
open Go.RowKit RU8
open Alarm (Or orS noOr or_cells)
open Txt
theorem number_k (l : List Nat) (hb : Bytes l) (hl : l.length ≤ 100000) (w : World) (hLd : Laid w) : Calls Tryd.prog 40 #[.string (str l)] w fun e w' => e = .returned (.int .i64 (readT l).1) ∧ Below w.heap.size w w' := by
  have hr := read_any l hb hl w hLd
  go_enter Tryd.func40, Tryd.ntmps40
  go_wp2_with (go_at_call 50; ((with_reducible refine hr.mono ?_); rintro e w' ⟨rfl, hB⟩))
  go_ret
  exact ⟨rfl, hB⟩
theorem str_same {a b : List Nat} (ha : Bytes a) (hb : Bytes b) : ((str a).toList == (str b).toList) = decide (a = b) := str_beq ha hb
theorem str_ack {a : List Nat} (ha : Bytes a) : ((str a).toList == [97, 99, 107]) = decide (a = ackT) := by
  have := str_beq ha ack_bytes
  rwa [show (str ackT).toList = [97, 99, 107] by rw [ByteArray.toList_eq]; rfl] at this
theorem str_sil {a : List Nat} (ha : Bytes a) : ((str a).toList == [115, 105, 108, 101, 110, 99, 101]) = decide (a = silT) := by
  have := str_beq ha sil_bytes
  rwa [show (str silT).toList = [115, 105, 108, 101, 110, 99, 101] by rw [ByteArray.toList_eq]; rfl] at this
theorem put3 {W : World} {b : Nat} {t : TypeId} {u v x : Value} (h : Has W b t #[u, v, x]) (a c d : Value) : Has (((W.setCell ⟨b, 0, none⟩ a).setCell ⟨b, 1, none⟩ c).setCell ⟨b, 2, none⟩ d) b t #[a, c, d] := ((h.set_ 0 a).set_ 1 c).set_ 2 d
theorem below_put3 {B : Nat} {w W : World} {b : Nat} (h : Below B w W) (hb : B ≤ b) (a c d : Value) : Below B w (((W.setCell ⟨b, 0, none⟩ a).setCell ⟨b, 1, none⟩ c).setCell ⟨b, 2, none⟩ d) := ((h.setCell (p := ⟨b, 0, none⟩) hb a).setCell (p := ⟨b, 1, none⟩) hb c).setCell (p := ⟨b, 2, none⟩) hb d
set_option maxHeartbeats 2000000 in
theorem guess_k (A : Option Addr) (n c : Nat) (ps : List (List Nat)) (w : World) (hLd : Laid w) (hv : RStr.Vals w A n (texts ps)) (hb : ∀ p ∈ ps, Bytes p) (hl : ∀ p ∈ ps, p.length ≤ 100000) (hn : n ≤ 200000) :
    Calls Tryd.prog 30 #[.slice A n c] w fun e w' => e = .returned (.agg #[.int .i64 (codeG ps).1, .int .i64 (codeG ps).2.1, .int .i64 (codeG ps).2.2]) ∧ Below w.heap.size w w' := by
  have hlen : ps.length = n := by have := hv.len_; rwa [texts_length] at this
  have hB0 := (Below.refl w.heap.size w).alloc (Nat.le_refl _) (.cells #[.int .i64 0, .int .i64 0, .int .i64 0] 23)
  have hX0 := Has.new w 23 #[.int .i64 0, .int .i64 0, .int .i64 0]
  have hv0 := hv.below hB0
  have hf0 := hX0.frozen 0
  have hf1 := hX0.frozen 1
  have hf2 := hX0.frozen 2
  have hX1 := ((hX0.set_ 0 (.int .i64 0)).set_ 1 (.int .i64 0)).set_ 2 (.int .i64 0)
  by_cases h2 : n = 2
  · subst h2
    obtain ⟨x, rfl, hx⟩ := hv0.cells (by omega)
    have c0 := hx 0 (by omega)
    have c1 := hx 1 (by omega)
    rw [texts_getD ps 0 (by omega)] at c0
    rw [texts_getD ps 1 (by omega)] at c1
    have hm0 : ps.getD 0 [] ∈ ps := by rw [List.getD_eq_getElem?_getD, List.getElem?_eq_getElem (by omega)]; exact List.getElem_mem _
    have hm1 : ps.getD 1 [] ∈ ps := by rw [List.getD_eq_getElem?_getD, List.getElem?_eq_getElem (by omega)]; exact List.getElem_mem _
    have ha := str_ack (hb _ hm1)
    have hnu := fun W hW => number_k (ps.getD 0 []) (hb _ hm0) (hl _ hm0) W hW
    have hg : codeG ps = if ps.getD 1 [] = ackT then ((readT (ps.getD 0 [])).1, 1, 0) else noOr := by
      unfold codeG
      by_cases h : ps.getD 1 [] = ackT
      · rw [if_pos ⟨hlen, h⟩, if_pos h]
      · rw [if_neg (fun h9 => h h9.2), if_neg (fun h9 => by omega), if_neg h]
    rw [hg]
    clear hg hx hm0 hm1 hb hl hv hv0 hlen
    generalize ps.getD 0 [] = p0 at *
    generalize ps.getD 1 [] = p1 at *
    replace c0 : (w.alloc (.cells #[.int .i64 0, .int .i64 0, .int .i64 0] 23)).cell? x = some (.string (str p0)) := by simpa [Addr.add] using c0
    replace c1 : (w.alloc (.cells #[.int .i64 0, .int .i64 0, .int .i64 0] 23)).cell? ⟨x.block, x.off + 1, none⟩ = some (.string (str p1)) := by rw [← c1]; rfl
    by_cases h1 : p1 = ackT
    · rw [if_pos h1]
      rw [decide_eq_true h1] at ha
      have hnu1 := hnu _ (hLd.below hB0)
      generalize (readT p0).1 = r at *
      clear h1 hnu
      go_enter Tryd.func30, Tryd.ntmps30
      go_wp2_with (go_at_call 40; ((with_reducible refine hnu1.mono ?_); rintro e W1 ⟨rfl, hB1⟩; have hX2 := hX0.below hB1 hX0.lt; have hB2 := hB0.trans (hB1.mono hB0.size); have e0 := hX2.cell 0; have e1 := hX2.cell 1; have e2 := hX2.cell 2; have g0 := hX2.frozen 0; have g1 := hX2.frozen 1; have g2 := hX2.frozen 2))
      exact bodyPost_ret (results_cell_row rfl _ _ w.heap.size 23 _ (0, 0) (.struct (Tryd.prog.fieldsOf 23)) rfl (put3 hX2 _ _ _) (by kernel_rfl) rfl (by kernel_rfl)) rfl ⟨rfl, (below_put3 hB2 (Nat.le_refl _) _ _ _)⟩
    · rw [if_neg h1]
      rw [decide_eq_false h1] at ha
      clear h1 hnu
      go_enter Tryd.func30, Tryd.ntmps30
      go_wp2
      exact bodyPost_ret (results_cell_row rfl _ _ w.heap.size 23 _ (0, 0) (.struct (Tryd.prog.fieldsOf 23)) rfl hX0 (by kernel_rfl) rfl (by kernel_rfl)) rfl ⟨rfl, hB0⟩
  · by_cases h3 : n = 3
    · subst h3
      obtain ⟨x, rfl, hx⟩ := hv0.cells (by omega)
      have c0 := hx 0 (by omega)
      have c1 := hx 1 (by omega)
      have c2 := hx 2 (by omega)
      rw [texts_getD ps 0 (by omega)] at c0
      rw [texts_getD ps 1 (by omega)] at c1
      rw [texts_getD ps 2 (by omega)] at c2
      have hm0 : ps.getD 0 [] ∈ ps := by rw [List.getD_eq_getElem?_getD, List.getElem?_eq_getElem (by omega)]; exact List.getElem_mem _
      have hm1 : ps.getD 1 [] ∈ ps := by rw [List.getD_eq_getElem?_getD, List.getElem?_eq_getElem (by omega)]; exact List.getElem_mem _
      have hm2 : ps.getD 2 [] ∈ ps := by rw [List.getD_eq_getElem?_getD, List.getElem?_eq_getElem (by omega)]; exact List.getElem_mem _
      have hxw : x.block < w.heap.size := by
        obtain ⟨x', he, hx'⟩ := hv.cells (by omega)
        injection he with he
        subst he
        have := World.block_lt_of_cell? _ _ (hx' 0 (by omega))
        rwa [block_add] at this
      have ha := str_sil (hb _ hm1)
      have hn0 := fun W hW => number_k (ps.getD 0 []) (hb _ hm0) (hl _ hm0) W hW
      have hn2 := fun W hW => number_k (ps.getD 2 []) (hb _ hm2) (hl _ hm2) W hW
      have hg : codeG ps = if ps.getD 1 [] = silT then ((readT (ps.getD 0 [])).1, 2, (readT (ps.getD 2 [])).1) else noOr := by
        unfold codeG
        rw [if_neg (fun h9 => by omega)]
        by_cases h : ps.getD 1 [] = silT
        · rw [if_pos ⟨hlen, h⟩, if_pos h]
        · rw [if_neg (fun h9 => h h9.2), if_neg h]
      rw [hg]
      clear hg hx hm0 hm1 hm2 hb hl hv hv0 hlen h2
      generalize ps.getD 0 [] = p0 at *
      generalize ps.getD 1 [] = p1 at *
      generalize ps.getD 2 [] = p2 at *
      replace c0 : (w.alloc (.cells #[.int .i64 0, .int .i64 0, .int .i64 0] 23)).cell? x = some (.string (str p0)) := by simpa [Addr.add] using c0
      replace c1 : (w.alloc (.cells #[.int .i64 0, .int .i64 0, .int .i64 0] 23)).cell? ⟨x.block, x.off + 1, none⟩ = some (.string (str p1)) := by rw [← c1]; rfl
      replace c2 : (w.alloc (.cells #[.int .i64 0, .int .i64 0, .int .i64 0] 23)).cell? ⟨x.block, x.off + 2, none⟩ = some (.string (str p2)) := by rw [← c2]; rfl
      by_cases h1 : p1 = silT
      · rw [if_pos h1]
        rw [decide_eq_true h1] at ha
        generalize (readT p0).1 = r at *
        generalize (readT p2).1 = r2 at *
        clear h1
        go_enter Tryd.func30, Tryd.ntmps30
        go_wp2
        refine Reg.begin_ (S := fun W => W.cell? x = some (.string (str p0)) ∧ W.cell? ⟨x.block, x.off + 2, none⟩ = some (.string (str p2))) (by kernel_rfl) (by exact ⟨c0, c2⟩) (fun hHeld => ?_)
        have hXd : Has (w.alloc (.cells #[.int .i64 0, .int .i64 0, .int .i64 0] 23)).drew w.heap.size 23 #[.int .i64 0, .int .i64 0, .int .i64 0] := hX0
        have hBd : Below w.heap.size w (w.alloc (.cells #[.int .i64 0, .int .i64 0, .int .i64 0] 23)).drew := below_drewN hB0 1
        clear hX0 hB0 hf0 hf1 hf2 hX1 ha c1
        generalize (w.alloc (.cells #[.int .i64 0, .int .i64 0, .int .i64 0] 23)).drew = Wd at *
        obtain ⟨k0, k2⟩ := hHeld
        have hl0 := World.block_lt_of_cell? _ _ k0
        have hl2 := World.block_lt_of_cell? _ _ k2
        have hHeld : Wd.cell? x = some (.string (str p0)) ∧ Wd.cell? ⟨x.block, x.off + 2, none⟩ = some (.string (str p2)) := ⟨k0, k2⟩
        refine Reg.take (i := 0) (v := ?v1) rfl (by kernel_rfl) (by kernel_rfl) (by kernel_rfl) (by rfl) ?hv1 (by assumption) ?rest1
        case hv1 => first | (intro w hSw; (try dsimp only at hSw); go_simp; done) | (intro w hSw; (try dsimp only at hSw); go_simp; with_reducible rfl)
        (try simp only [Act.put, List.setIfInBounds_toArray, List.set_cons_zero, List.set_cons_succ])
        refine Reg.take (i := 1) (v := ?v2) rfl (by kernel_rfl) (by kernel_rfl) (by kernel_rfl) (by rfl) ?hv2 (by assumption) ?rest2
        case hv2 => first | (intro w hSw; (try dsimp only at hSw); go_simp; done) | (intro w hSw; (try dsimp only at hSw); go_simp; with_reducible rfl)
        (try simp only [Act.put, List.setIfInBounds_toArray, List.set_cons_zero, List.set_cons_succ])
        refine Reg.take (i := 2) (v := ?v3) rfl (by kernel_rfl) (by kernel_rfl) (by kernel_rfl) (by rfl) ?hv3 (by assumption) ?rest3
        case hv3 => first | (intro w hSw; (try dsimp only at hSw); go_simp; done) | (intro w hSw; (try dsimp only at hSw); go_simp; with_reducible rfl)
        (try simp only [Act.put, List.setIfInBounds_toArray, List.set_cons_zero, List.set_cons_succ])
        refine Reg.take (i := 4) (v := ?v4) rfl (by kernel_rfl) (by kernel_rfl) (by kernel_rfl) (by rfl) ?hv4 (by assumption) ?rest4
        case hv4 => first | (intro w hSw; (try dsimp only at hSw); go_simp; done) | (intro w hSw; (try dsimp only at hSw); go_simp; with_reducible rfl)
        (try simp only [Act.put, List.setIfInBounds_toArray, List.set_cons_zero, List.set_cons_succ])
        refine Reg.take (i := 5) (v := ?v5) rfl (by kernel_rfl) (by kernel_rfl) (by kernel_rfl) (by rfl) ?hv5 (by assumption) ?rest5
        case hv5 => first | (intro w hSw; (try dsimp only at hSw); go_simp; done) | (intro w hSw; (try dsimp only at hSw); go_simp; with_reducible rfl)
        (try simp only [Act.put, List.setIfInBounds_toArray, List.set_cons_zero, List.set_cons_succ])
        refine Reg.take (i := 6) (v := ?v6) rfl (by kernel_rfl) (by kernel_rfl) (by kernel_rfl) (by rfl) ?hv6 (by assumption) ?rest6
        case hv6 => first | (intro w hSw; (try dsimp only at hSw); go_simp; done) | (intro w hSw; (try dsimp only at hSw); go_simp; with_reducible rfl)
        (try simp only [Act.put, List.setIfInBounds_toArray, List.set_cons_zero, List.set_cons_succ])
        refine Reg.call (i := 3) rfl (by kernel_rfl) (by rfl) ?_
        intro K hK
        go_simp
        go_at_call 40
        (with_reducible refine (hn0 Wd (hLd.below hBd)).mono ?_)
        rintro e W1 ⟨rfl, hB1⟩
        refine hK.out _ _ (by exact ⟨by rw [hB1.cell hl0]; exact k0, by rw [hB1.cell hl2]; exact k2⟩) (fun hHeld => ?_)
        clear hK K
        (try simp only [Act.put, List.setIfInBounds_toArray, List.set_cons_zero, List.set_cons_succ])
        have hB2 := hBd.trans (hB1.mono hBd.size)
        have hX2 := hXd.below hB1 hXd.lt
        refine Reg.call (i := 7) rfl (by kernel_rfl) (by rfl) ?_
        intro K hK
        go_simp
        go_at_call 40
        (with_reducible refine (hn2 W1 (hLd.below hB2)).mono ?_)
        rintro e W2 ⟨rfl, hB3⟩
        refine hK.out _ _ (by exact ⟨by rw [hB3.cell (Nat.lt_of_lt_of_le hl0 hB1.size), hB1.cell hl0]; exact k0, by rw [hB3.cell (Nat.lt_of_lt_of_le hl2 hB1.size), hB1.cell hl2]; exact k2⟩) (fun hHeld => ?_)
        clear hK K
        (try simp only [Act.put, List.setIfInBounds_toArray, List.set_cons_zero, List.set_cons_succ])
        have hB4 := hB2.trans (hB3.mono hB2.size)
        have hX3 := hX2.below hB3 hX2.lt
        have e0 := hX3.cell 0
        have e1 := hX3.cell 1
        have e2 := hX3.cell 2
        have g0 := hX3.frozen 0
        have g1 := hX3.frozen 1
        have g2 := hX3.frozen 2
        refine Reg.take (i := 8) (v := ?v7) rfl (by kernel_rfl) (by kernel_rfl) (by kernel_rfl) (by rfl) ?hv7 (by assumption) ?rest7
        case hv7 => first | (intro w hSw; (try dsimp only at hSw); go_simp; done) | (intro w hSw; (try dsimp only at hSw); go_simp; with_reducible rfl)
        (try simp only [Act.put, List.setIfInBounds_toArray, List.set_cons_zero, List.set_cons_succ])
        refine Reg.call (i := 9) rfl (by kernel_rfl) (by rfl) ?_
        intro K hK
        go_simp
        have hXf := put3 hX3 (.int .i64 r) (.int .i64 2) (.int .i64 r2)
        have hBf := below_put3 hB4 (Nat.le_refl _) (.int .i64 r) (.int .i64 2) (.int .i64 r2)
        have hKf := (((Kept.refl [w.heap.size] W2).setCell (p := ⟨w.heap.size, 0, none⟩) (.inl (by simp)) (.int .i64 r)).setCell (p := ⟨w.heap.size, 1, none⟩) (.inl (by simp)) (.int .i64 2)).setCell (p := ⟨w.heap.size, 2, none⟩) (.inl (by simp)) (.int .i64 r2)
        have hxn : x.block ∉ [w.heap.size] := by simp; omega
        have hHf := (⟨by rw [hKf.cell (World.block_lt_of_cell? _ _ hHeld.1) hxn]; exact hHeld.1, by rw [hKf.cell (p := ⟨x.block, x.off + 2, none⟩) (World.block_lt_of_cell? _ _ hHeld.2) hxn]; exact hHeld.2⟩ : (((W2.setCell ⟨w.heap.size, 0, none⟩ (.int .i64 r)).setCell ⟨w.heap.size, 1, none⟩ (.int .i64 2)).setCell ⟨w.heap.size, 2, none⟩ (.int .i64 r2)).cell? x = some (.string (str p0)) ∧ (((W2.setCell ⟨w.heap.size, 0, none⟩ (.int .i64 r)).setCell ⟨w.heap.size, 1, none⟩ (.int .i64 2)).setCell ⟨w.heap.size, 2, none⟩ (.int .i64 r2)).cell? ⟨x.block, x.off + 2, none⟩ = some (.string (str p2)))
        refine hK.out _ _ (by exact hHf) (fun hHeld => ?_)
        clear hK K
        (try simp only [Act.put, List.setIfInBounds_toArray, List.set_cons_zero, List.set_cons_succ])
        refine Reg.done (by kernel_rfl) ?_ _
        clear hHeld hHf hKf e0 e1 e2 g0 g1 g2 hX3
        generalize ((W2.setCell ⟨w.heap.size, 0, none⟩ (.int .i64 r)).setCell ⟨w.heap.size, 1, none⟩ (.int .i64 2)).setCell ⟨w.heap.size, 2, none⟩ (.int .i64 r2) = Wf at *
        go_wp2
        exact bodyPost_ret (results_cell_row rfl _ _ w.heap.size 23 _ (0, 0) (.struct (Tryd.prog.fieldsOf 23)) rfl hXf (by kernel_rfl) rfl (by kernel_rfl)) rfl ⟨rfl, hBf⟩
      · rw [if_neg h1]
        rw [decide_eq_false h1] at ha
        clear h1 hn0 hn2
        go_enter Tryd.func30, Tryd.ntmps30
        go_wp2
        exact bodyPost_ret (results_cell_row rfl _ _ w.heap.size 23 _ (0, 0) (.struct (Tryd.prog.fieldsOf 23)) rfl hX0 (by kernel_rfl) rfl (by kernel_rfl)) rfl ⟨rfl, hB0⟩
    · have hg : codeG ps = noOr := by
        unfold codeG
        rw [if_neg (fun h9 => by omega), if_neg (fun h9 => by omega)]
      rw [hg]
      have h2z : ((n : Int) == 2) = false := by simp; omega
      have h3z : ((n : Int) == 3) = false := by simp; omega
      clear hg hv hv0 hb hl hlen
      go_enter Tryd.func30, Tryd.ntmps30
      go_wp2
      exact bodyPost_ret (results_cell_row rfl _ _ w.heap.size 23 _ (0, 0) (.struct (Tryd.prog.fieldsOf 23)) rfl hX0 (by kernel_rfl) rfl (by kernel_rfl)) rfl ⟨rfl, hB0⟩
end Go.Proofs.YtmefdgmbpihdfaaDoor.Order
