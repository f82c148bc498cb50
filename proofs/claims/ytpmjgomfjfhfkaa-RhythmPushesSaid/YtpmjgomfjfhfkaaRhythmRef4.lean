/- The reference of layer 22: Push of a sample. -/
import Derived.Test.YtpmjgomfjfhfkaaRhythmRefP
import Derived.Test.YtpmjgomfjfhfkaaRegionMore
set_option linter.unusedSimpArgs false
set_option linter.unusedVariables false
namespace Go.Proofs.Ytpmjgomfjfhfkaa.Rhythm
open Go.RowKit
open Tally (Lim May mayT limV limC stV)
theorem own_from (w : World) (e : TypeId) (base : Nat) (hb : base ≤ w.heap.size) : World.ownsRow (w.alloc (.cells #[] e)) base e 1 (.slice (some ⟨w.heap.size, 0, none⟩) 0 0) 0 (RI64.vals ([] : List Int)) :=
  ⟨rfl, .inr ⟨_, 0, #[], rfl, hb, Has.new w e #[], Nat.le_refl _, by unfold maxLen; omega, rfl, rfl⟩⟩
set_option maxRecDepth 100000 in
set_option maxHeartbeats 4000000 in
theorem refpush_four (l : Lim) (s : St) (E : List Cd) (A : Option Addr) (ca : Nat) (B : Option Addr) (cb : Nat) (C : Option Addr) (cc base : Nat) (a v b1 b2 rr : Int) (bk : Bool) (w : World) (hm : May l) (hR : RfIs w base s E A ca B cb C cc) (hb : base ≤ w.heap.size) (hE : E.length ≤ 90000) (hrs : s.t.rs.length ≤ 400000) (hhs : s.h.length ≤ 90000) (hd : s.dark = false) :
    Calls Try.prog 13 #[refV l s A ca B cb C E.length cc, mkV ⟨4, a, v, b1, b2, rr, bk⟩] w (RPushIs w base l s E ⟨4, a, v, b1, b2, rr, bk⟩) := by
  unfold mkV
  dsimp only
  have hX1 := Has.new w 41 (refC l s A ca B cb C E.length cc)
  have hM1 : Has ((w.alloc (.cells (refC l s A ca B cb C E.length cc) 41)).alloc (.cells (mkC ⟨4, a, v, b1, b2, rr, bk⟩) 45)) (w.heap.size + 1) 45 (mkC ⟨4, a, v, b1, b2, rr, bk⟩) := by simpa using Has.new (w.alloc (.cells (refC l s A ca B cb C E.length cc) 41)) 45 (mkC ⟨4, a, v, b1, b2, rr, bk⟩)
  have hY : Has (((w.alloc (.cells (refC l s A ca B cb C E.length cc) 41)).alloc (.cells (mkC ⟨4, a, v, b1, b2, rr, bk⟩) 45)).alloc (.cells zeroC 41)) (w.heap.size + 1 + 1) 41 zeroC := by simpa using Has.new ((w.alloc (.cells (refC l s A ca B cb C E.length cc) 41)).alloc (.cells (mkC ⟨4, a, v, b1, b2, rr, bk⟩) 45)) 41 zeroC
  have hB : Below w.heap.size w (((w.alloc (.cells (refC l s A ca B cb C E.length cc) 41)).alloc (.cells (mkC ⟨4, a, v, b1, b2, rr, bk⟩) 45)).alloc (.cells zeroC 41)) := (((Below.refl w.heap.size w).alloc (Nat.le_refl _) _).alloc (by simp) _).alloc (by simp; omega) _
  have hX := (hX1.alloc (.cells (mkC ⟨4, a, v, b1, b2, rr, bk⟩) 45)).alloc (.cells zeroC 41)
  have hM := hM1.alloc (.cells zeroC 41)
  obtain ⟨W2, hW2⟩ : ∃ W2, ((w.alloc (.cells (refC l s A ca B cb C E.length cc) 41)).alloc (.cells (mkC ⟨4, a, v, b1, b2, rr, bk⟩) 45)).alloc (.cells zeroC 41) = W2 := ⟨_, rfl⟩
  rw [hW2] at hX hM hY hB
  have hP : Ps w base l ⟨4, a, v, b1, b2, rr, bk⟩ s E A ca B cb C cc W2 := ⟨hX, hM, hY, hR.below hB, hB, fun x hx => .inl (hR.fa x hx).2, fun x hx => .inl (hR.fb x hx).2, fun x hx => (hR.fc x hx).2⟩
  unfold zeroC mkC at hW2
  have HE := Lib.hid hE
  have HH := Lib.hid (And.intro hrs hhs)
  clear hX1 hM1 hX hM hY hB hR hE hrs hhs
  have m0 : W2.cell? ⟨w.heap.size + 1, 0, none⟩ = some (.int .i64 4) := hP.M.cell 0
  have m1 : W2.cell? ⟨w.heap.size + 1, 1, none⟩ = some (.int .i64 a) := hP.M.cell 1
  have x9 : W2.cell? ⟨w.heap.size, 9, none⟩ = some (.bool s.t.begun) := hP.X.cell 9
  have x10 : W2.cell? ⟨w.heap.size, 10, none⟩ = some (.int .i64 s.t.last) := hP.X.cell 10
  have x11 : W2.cell? ⟨w.heap.size, 11, none⟩ = some (.slice A s.t.rs.length ca) := hP.X.cell 11
  have x12 : W2.cell? ⟨w.heap.size, 12, none⟩ = some (.slice B s.h.length cb) := hP.X.cell 12
  have x13 : W2.cell? ⟨w.heap.size, 13, none⟩ = some (.bool s.dark) := hP.X.cell 13
  have f9 := hP.X.frozen 9
  have f10 := hP.X.frozen 10
  have f11 := hP.X.frozen 11
  have f12 := hP.X.frozen 12
  have f13 := hP.X.frozen 13
  have hbg := fun W => Tally.refbegin_any a W
  rw [show stV (Tally.beginT a) none 0 = .agg #[.bool true, .int .i64 (Tally.nearA a), .slice none 0 0] from rfl] at hbg
  unfold refV
  have hc : counts s ⟨4, a, v, b1, b2, rr, bk⟩ = true := by simp [counts, hd]
  have hs1' : stepT l s ⟨4, a, v, b1, b2, rr, bk⟩ = ⟨s.dark, if s.t.begun then s.t else Tally.beginT a, v :: s.h, lookT l s.dark (if s.t.begun then s.t else Tally.beginT a) (v :: s.h) a⟩ := by
    have h1 := look_now hm s ⟨4, a, v, b1, b2, rr, bk⟩ hc
    have ht : takeT s ⟨4, a, v, b1, b2, rr, bk⟩ = ⟨s.dark, if s.t.begun then s.t else Tally.beginT a, v :: s.h, s.on⟩ := by simp [takeT]
    unfold stepT
    rw [if_pos hc, ← h1, ht]
  have hs2' : saysT l s ⟨4, a, v, b1, b2, rr, bk⟩ = tellT a s.on (lookT l s.dark (if s.t.begun then s.t else Tally.beginT a) (v :: s.h) a) := by
    have h1 := look_now hm s ⟨4, a, v, b1, b2, rr, bk⟩ hc
    have ht : takeT s ⟨4, a, v, b1, b2, rr, bk⟩ = ⟨s.dark, if s.t.begun then s.t else Tally.beginT a, v :: s.h, s.on⟩ := by simp [takeT]
    unfold saysT
    rw [if_pos hc, ← h1, ht]
  have ht := True.intro
  have HInfo := Lib.hid (show (Try.prog.info? 2).map (fun i => (i.zero, i.size, i.bytes)) = some (some (.int .i64 0), 1, 8) by kernel_rfl)
  rw [hd] at x13
  clear hd
  cases hbn : s.t.begun with
  | true =>
    rw [hbn, if_pos rfl] at hs1' hs2'
    rw [hbn] at x9
    clear hbn
    have HT := Lib.hid (And.intro hs1' hs2')
    clear hs1' hs2' ht hc
    go_enter Try.func13, Try.ntmps13
    go_upto_region 1 with (fail)
    clear hW2
    go_upto_region 12 with (fail)
    clear m0 m1 x9 x10 x11 x12 x13 f9 f10 f11 f12 f13
    have hrT : s.t.rs.length ≤ 1000000 := by have := HH.out.1; omega
    have hPd : Ps w base l ⟨4, a, v, b1, b2, rr, bk⟩ ⟨s.dark, s.t, s.h, s.on⟩ E A ca B cb C cc W2.drew := hP.grow (below_drewN (Below.refl _ W2) 1)
    clear hP
    refine Till.begin_ (T := [9]) (S := fun W => W.cell? ⟨w.heap.size, 12, none⟩ = some (.slice B s.h.length cb) ∧ W.cell? ⟨w.heap.size + 1, 2, none⟩ = some (.int .i64 v)) (by kernel_rfl) (by exact ⟨hPd.X.cell 12, hPd.M.cell 2⟩) (fun hHeld => ?_)
    generalize W2.drew = Wb at *
    refine Till.take (i := 1) (v := ?v1) rfl (by kernel_rfl) (by kernel_rfl) (by kernel_rfl) (by kernel_rfl) (by rfl) ?hv1 (by assumption) ?rest1
    case hv1 => first | (intro w hSw; (try dsimp only at hSw); go_simp; done) | (intro w hSw; (try dsimp only at hSw); go_simp; with_reducible rfl)
    (try simp only [Act.put, List.setIfInBounds_toArray, List.set_cons_zero, List.set_cons_succ])
    refine Till.take (i := 2) (v := ?v2) rfl (by kernel_rfl) (by kernel_rfl) (by kernel_rfl) (by kernel_rfl) (by rfl) ?hv2 (by assumption) ?rest2
    case hv2 => first | (intro w hSw; (try dsimp only at hSw); go_simp; done) | (intro w hSw; (try dsimp only at hSw); go_simp; with_reducible rfl)
    (try simp only [Act.put, List.setIfInBounds_toArray, List.set_cons_zero, List.set_cons_succ])
    refine Till.take (i := 4) (v := ?v3) rfl (by kernel_rfl) (by kernel_rfl) (by kernel_rfl) (by kernel_rfl) (by rfl) ?hv3 (by assumption) ?rest3
    case hv3 => first | (intro w hSw; (try dsimp only at hSw); go_simp; done) | (intro w hSw; (try dsimp only at hSw); go_simp; with_reducible rfl)
    (try simp only [Act.put, List.setIfInBounds_toArray, List.set_cons_zero, List.set_cons_succ])
    refine Till.take (i := 5) (v := ?v4) rfl (by kernel_rfl) (by kernel_rfl) (by kernel_rfl) (by kernel_rfl) (by rfl) ?hv4 (by assumption) ?rest4
    case hv4 => first | (intro w hSw; (try dsimp only at hSw); go_simp; done) | (intro w hSw; (try dsimp only at hSw); go_simp; with_reducible rfl)
    (try simp only [Act.put, List.setIfInBounds_toArray, List.set_cons_zero, List.set_cons_succ])
    have hB0 : Below Wb.heap.size Wb Wb := Below.refl _ _
    have hhl : s.h.reverse.length = s.h.length := by simp
    have hgl : w.heap.size + 1 + 1 < Wb.heap.size := hPd.Y.lt
    refine Till.both (i := 0) (j := 6) rfl rfl (by kernel_rfl) (by rfl) (by rfl) ?_ ?_
    · intro K hK
      go_simp
      have hB1 := hB0.alloc (Nat.le_refl _) (.cells #[] 2)
      have hP1 := hPd.grow hB1
      have hO1 := own_from Wb 2 Wb.heap.size (Nat.le_refl _)
      refine hK.out _ _ (by exact ⟨hP1.X.cell 12, hP1.M.cell 2⟩) (fun hHeld => ?_)
      clear hK K
      (try simp only [Act.put, List.setIfInBounds_toArray, List.set_cons_zero, List.set_cons_succ])
      refine Till.both (i := 3) (j := 6) rfl rfl (by kernel_rfl) (by rfl) (by rfl) ?_ ?_
      · intro K hK
        refine RI64.wp_append_one (.tmp 71) (.tmp 73) _ rfl Wb.heap.size 2 8 (by omega) Try.underlying36 HInfo.out _ 0 [] rfl hO1 B s.h.length cb s.h.reverse rfl hP1.R.hs (by have := HH.out.2; omega) hB1.size ?_
        intro V3 W3 hO3 hg3 hat3
        rw [Nat.zero_add, List.nil_append] at hO3
        have hB3 := below_kept hB1 (Kept.of_grown hg3) hB1.size (own_in hO1)
        have hP3 := hPd.grow hB3
        refine hK.out _ _ (by exact ⟨hP3.X.cell 12, hP3.M.cell 2⟩) (fun hHeld => ?_)
        clear hK K
        (try simp only [Act.put, List.setIfInBounds_toArray, List.set_cons_zero, List.set_cons_succ])
        refine Till.call (i := 6) rfl (by kernel_rfl) (by rfl) ?_
        intro K hK
        go_simp
        have hB4 := hB3.alloc hB3.size (.cells #[.int .i64 v] 2)
        have hP4 := hPd.grow hB4
        have hO4 := own_kept hO3 ((Kept.refl [] W3).alloc (.cells #[.int .i64 v] 2)) (by simp)
        have hV4 : RI64.Vals (W3.alloc (.cells #[.int .i64 v] 2)) (some ⟨W3.heap.size, 0, none⟩) 1 [v] := RI64.Vals.has (ys := [v]) (tl := []) (Has.new W3 _ _)
        refine hK.out _ _ (by exact ⟨hP4.X.cell 12, hP4.M.cell 2⟩) (fun hHeld => ?_)
        clear hK K
        (try simp only [Act.put, List.setIfInBounds_toArray, List.set_cons_zero, List.set_cons_succ])
        refine Till.call (i := 7) rfl (by kernel_rfl) (by rfl) ?_
        intro K hK
        refine RI64.wp_append_one (.tmp 74) (.tmp 77) _ rfl Wb.heap.size 2 8 (by omega) Try.underlying36 HInfo.out _ s.h.length s.h.reverse rfl hO4 _ 1 1 [v] rfl hV4 (by have := HH.out.2; omega) hB4.size ?_
        intro V7 W7 hO7 hg7 hat7
        have hB7 := below_kept hB4 (Kept.of_grown hg7) hB4.size (own_in hO4)
        have hP7 := hPd.grow hB7
        obtain ⟨B7, c7, rfl, e1, e2, hV7, hf7, _⟩ := RI64.Vals.own hO7
        refine hK.out _ _ (by exact ⟨hP7.X.cell 12, hP7.M.cell 2⟩) (fun hHeld => ?_)
        clear hK K
        (try simp only [Act.put, List.setIfInBounds_toArray, List.set_cons_zero, List.set_cons_succ])
        refine Till.take (i := 8) (v := ?v5) rfl (by kernel_rfl) (by kernel_rfl) (by kernel_rfl) (by kernel_rfl) (by rfl) ?hv5 (by assumption) ?rest5
        case hv5 => first | (intro w hSw; (try dsimp only at hSw); go_simp; done) | (intro w hSw; (try dsimp only at hSw); go_simp; with_reducible rfl)
        (try simp only [Act.put, List.setIfInBounds_toArray, List.set_cons_zero, List.set_cons_succ])
        have f12 := hP7.X.frozen 12
        have x12 : W7.cell? ⟨w.heap.size, 12, none⟩ = some (.slice B s.h.length cb) := hP7.X.cell 12
        refine Till.put (i := 9) rfl (by kernel_rfl) (by rfl) (by rfl) ?_
        intro K hK
        go_simp
        refine hK.out _ _ ?_
        clear hK K hHeld
        (try simp only [Act.put, List.setIfInBounds_toArray, List.set_cons_zero, List.set_cons_succ])
        refine Till.done (by kernel_rfl) ?_ _
        have hX8 : Has (W7.setCell ⟨w.heap.size, 12, none⟩ (.slice B7 (s.h.length + 1) c7)) w.heap.size 41 (refC l ⟨s.dark, s.t, v :: s.h, s.on⟩ A ca B7 c7 C E.length cc) := hP7.X.set_ 12 (.slice B7 (s.h.length + 1) c7)
        have hK8 := (Kept.refl [w.heap.size] W7).setCell (p := ⟨w.heap.size, 12, none⟩) (.inl (by simp)) (.slice B7 (s.h.length + 1) c7)
        have hP := hP7.turn (s' := ⟨s.dark, s.t, v :: s.h, s.on⟩) (B' := B7) (cb' := c7) hX8 hK8 hP7.R.rs (by show RI64.Vals W7 B7 (s.h.length + 1) (v :: s.h).reverse; rw [List.reverse_cons]; exact hV7) hP7.R.la hP7.R.fa (fun x hx => ⟨by have := (hf7 x hx).1; omega, (hf7 x hx).2⟩) hP7.oa (fun x hx => .inr (by have := (hf7 x hx).1; omega))
        generalize W7.setCell ⟨w.heap.size, 12, none⟩ (.slice B7 (s.h.length + 1) c7) = Wp at *
        clear hX8 hK8 hP7 hV7 hf7 f12 x12 hO7 hg7 hat7 hB7 hO4 hV4 hB4 hP4
        have m0 : Wp.cell? ⟨w.heap.size + 1, 0, none⟩ = some (.int .i64 4) := hP.M.cell 0
        go_upto_region 15 with (fail)
        have y1 : Wp.cell? ⟨w.heap.size + 1, 1, none⟩ = some (.int .i64 a) := hP.M.cell 1
        go_wp2_with (first
          | (refine ref_ld rfl _ rfl _ rfl hP.X (ref_size _ _ _ _ _ _ _ _ _) ?_)
          | (go_at_call 23; (refine Calls.mono (by exact reflook_any l _ _ _ _ _ _ _ _ E _ _ _ _ C cc base a _ hm hP.R (Nat.le_trans hb hP.low.size) (by have := HE.out; omega) ((by have h2 := HH.out.1; have h3 := hrT; omega)) ((by have h2 := HH.out.2; show s.h.length + 1 ≤ 100000; omega))) ?_); rintro e W9 ⟨C9, c9, E9, hE9, rfl, hR9, hn9, hB9⟩; have HE9 := Lib.hid hE9; clear hE9; have hP9 := hP.grow hB9)
          | (refine ref_st rfl _ _ rfl _ _ rfl rfl hP9.Y (ref_size _ _ _ _ _ _ _ _ _) rfl (ref_one _ _ _ _ _ _ _ _ _) ?_))
        have hwp : w.heap.size + 1 + 1 < Wp.heap.size := hP.Y.lt
        have hK9 := fun xs => kept_row W9 (w.heap.size + 1 + 1) xs
        have hfin := HT.out
        refine ref_ret rfl (w.heap.size + 1 + 1) rfl _ (hP9.Y.row _) (ref_size _ _ _ _ _ _ _ _ _) rfl ⟨_, _, _, _, C9, c9, E9, by rw [HE9.out, hfin.2]; rfl, by rw [hfin.1]; rfl, ?_, below_kept hP9.low (hK9 _) hP9.low.size (fun x hx => by simp at hx; omega)⟩
        rw [hfin.1]
        exact rf_row hR9 (hK9 _) (fun x hx hk => by have := hP.oa x hx; simp at hk; omega) (fun x hx hk => by have := hP.ob x hx; simp at hk; omega) (fun x hx hk => by
          simp at hk
          rcases hn9 x hx with h8 | h8
          · have := hP.oc x h8; omega
          · omega)
      · intro K hK
        go_simp
        have hB2 := hB1.alloc hB1.size (.cells #[.int .i64 v] 2)
        have hP2 := hPd.grow hB2
        have hO2 := own_kept hO1 ((Kept.refl [] _).alloc (.cells #[.int .i64 v] 2)) (by simp)
        have hV2 : RI64.Vals ((Wb.alloc (.cells #[] 2)).alloc (.cells #[.int .i64 v] 2)) (some ⟨Wb.heap.size + 1, 0, none⟩) 1 [v] := by simpa using RI64.Vals.has (ys := [v]) (tl := []) (Has.new (Wb.alloc (.cells #[] 2)) 2 #[.int .i64 v])
        refine hK.out _ _ (by exact ⟨hP2.X.cell 12, hP2.M.cell 2⟩) (fun hHeld => ?_)
        clear hK K
        (try simp only [Act.put, List.setIfInBounds_toArray, List.set_cons_zero, List.set_cons_succ])
        refine Till.call (i := 3) rfl (by kernel_rfl) (by rfl) ?_
        intro K hK
        refine RI64.wp_append_one (.tmp 71) (.tmp 73) _ rfl Wb.heap.size 2 8 (by omega) Try.underlying36 HInfo.out (.slice (some ⟨Wb.heap.size, 0, none⟩) 0 0) 0 [] rfl hO2 B s.h.length cb s.h.reverse rfl hP2.R.hs (by have := HH.out.2; omega) hB2.size ?_
        intro V3 W3 hO4 hg3 hat3
        rw [Nat.zero_add, List.nil_append] at hO4
        have hB4 := below_kept hB2 (Kept.of_grown hg3) hB2.size (own_in hO2)
        have hP4 := hPd.grow hB4
        have hV4 := hV2.kept (Kept.of_grown hg3) (fun _ x hx hk => by injection hx with hx; subst hx; simp [Value.ownBlock] at hk)
        refine hK.out _ _ (by exact ⟨hP4.X.cell 12, hP4.M.cell 2⟩) (fun hHeld => ?_)
        clear hK K
        (try simp only [Act.put, List.setIfInBounds_toArray, List.set_cons_zero, List.set_cons_succ])
        refine Till.call (i := 7) rfl (by kernel_rfl) (by rfl) ?_
        intro K hK
        refine RI64.wp_append_one (.tmp 74) (.tmp 77) _ rfl Wb.heap.size 2 8 (by omega) Try.underlying36 HInfo.out _ s.h.length s.h.reverse rfl hO4 _ 1 1 [v] rfl hV4 (by have := HH.out.2; omega) hB4.size ?_
        intro V7 W7 hO7 hg7 hat7
        have hB7 := below_kept hB4 (Kept.of_grown hg7) hB4.size (own_in hO4)
        have hP7 := hPd.grow hB7
        obtain ⟨B7, c7, rfl, e1, e2, hV7, hf7, _⟩ := RI64.Vals.own hO7
        refine hK.out _ _ (by exact ⟨hP7.X.cell 12, hP7.M.cell 2⟩) (fun hHeld => ?_)
        clear hK K
        (try simp only [Act.put, List.setIfInBounds_toArray, List.set_cons_zero, List.set_cons_succ])
        refine Till.take (i := 8) (v := ?v6) rfl (by kernel_rfl) (by kernel_rfl) (by kernel_rfl) (by kernel_rfl) (by rfl) ?hv6 (by assumption) ?rest6
        case hv6 => first | (intro w hSw; (try dsimp only at hSw); go_simp; done) | (intro w hSw; (try dsimp only at hSw); go_simp; with_reducible rfl)
        (try simp only [Act.put, List.setIfInBounds_toArray, List.set_cons_zero, List.set_cons_succ])
        have f12 := hP7.X.frozen 12
        have x12 : W7.cell? ⟨w.heap.size, 12, none⟩ = some (.slice B s.h.length cb) := hP7.X.cell 12
        refine Till.put (i := 9) rfl (by kernel_rfl) (by rfl) (by rfl) ?_
        intro K hK
        go_simp
        refine hK.out _ _ ?_
        clear hK K hHeld
        (try simp only [Act.put, List.setIfInBounds_toArray, List.set_cons_zero, List.set_cons_succ])
        refine Till.done (by kernel_rfl) ?_ _
        have hX8 : Has (W7.setCell ⟨w.heap.size, 12, none⟩ (.slice B7 (s.h.length + 1) c7)) w.heap.size 41 (refC l ⟨s.dark, s.t, v :: s.h, s.on⟩ A ca B7 c7 C E.length cc) := hP7.X.set_ 12 (.slice B7 (s.h.length + 1) c7)
        have hK8 := (Kept.refl [w.heap.size] W7).setCell (p := ⟨w.heap.size, 12, none⟩) (.inl (by simp)) (.slice B7 (s.h.length + 1) c7)
        have hP := hP7.turn (s' := ⟨s.dark, s.t, v :: s.h, s.on⟩) (B' := B7) (cb' := c7) hX8 hK8 hP7.R.rs (by show RI64.Vals W7 B7 (s.h.length + 1) (v :: s.h).reverse; rw [List.reverse_cons]; exact hV7) hP7.R.la hP7.R.fa (fun x hx => ⟨by have := (hf7 x hx).1; omega, (hf7 x hx).2⟩) hP7.oa (fun x hx => .inr (by have := (hf7 x hx).1; omega))
        generalize W7.setCell ⟨w.heap.size, 12, none⟩ (.slice B7 (s.h.length + 1) c7) = Wp at *
        clear hX8 hK8 hP7 hV7 hf7 f12 x12 hO7 hg7 hat7 hB7 hO4 hV4 hB4 hP4
        have m0 : Wp.cell? ⟨w.heap.size + 1, 0, none⟩ = some (.int .i64 4) := hP.M.cell 0
        go_upto_region 15 with (fail)
        have y1 : Wp.cell? ⟨w.heap.size + 1, 1, none⟩ = some (.int .i64 a) := hP.M.cell 1
        go_wp2_with (first
          | (refine ref_ld rfl _ rfl _ rfl hP.X (ref_size _ _ _ _ _ _ _ _ _) ?_)
          | (go_at_call 23; (refine Calls.mono (by exact reflook_any l _ _ _ _ _ _ _ _ E _ _ _ _ C cc base a _ hm hP.R (Nat.le_trans hb hP.low.size) (by have := HE.out; omega) ((by have h2 := HH.out.1; have h3 := hrT; omega)) ((by have h2 := HH.out.2; show s.h.length + 1 ≤ 100000; omega))) ?_); rintro e W9 ⟨C9, c9, E9, hE9, rfl, hR9, hn9, hB9⟩; have HE9 := Lib.hid hE9; clear hE9; have hP9 := hP.grow hB9)
          | (refine ref_st rfl _ _ rfl _ _ rfl rfl hP9.Y (ref_size _ _ _ _ _ _ _ _ _) rfl (ref_one _ _ _ _ _ _ _ _ _) ?_))
        have hwp : w.heap.size + 1 + 1 < Wp.heap.size := hP.Y.lt
        have hK9 := fun xs => kept_row W9 (w.heap.size + 1 + 1) xs
        have hfin := HT.out
        refine ref_ret rfl (w.heap.size + 1 + 1) rfl _ (hP9.Y.row _) (ref_size _ _ _ _ _ _ _ _ _) rfl ⟨_, _, _, _, C9, c9, E9, by rw [HE9.out, hfin.2]; rfl, by rw [hfin.1]; rfl, ?_, below_kept hP9.low (hK9 _) hP9.low.size (fun x hx => by simp at hx; omega)⟩
        rw [hfin.1]
        exact rf_row hR9 (hK9 _) (fun x hx hk => by have := hP.oa x hx; simp at hk; omega) (fun x hx hk => by have := hP.ob x hx; simp at hk; omega) (fun x hx hk => by
          simp at hk
          rcases hn9 x hx with h8 | h8
          · have := hP.oc x h8; omega
          · omega)
    · intro K hK
      go_simp
      have hB1 := hB0.alloc (Nat.le_refl _) (.cells #[.int .i64 v] 2)
      have hP1 := hPd.grow hB1
      have hV1 : RI64.Vals (Wb.alloc (.cells #[.int .i64 v] 2)) (some ⟨Wb.heap.size, 0, none⟩) 1 [v] := RI64.Vals.has (ys := [v]) (tl := []) (Has.new Wb _ _)
      refine hK.out _ _ (by exact ⟨hP1.X.cell 12, hP1.M.cell 2⟩) (fun hHeld => ?_)
      clear hK K
      (try simp only [Act.put, List.setIfInBounds_toArray, List.set_cons_zero, List.set_cons_succ])
      refine Till.call (i := 0) rfl (by kernel_rfl) (by rfl) ?_
      intro K hK
      go_simp
      have hB2 := hB1.alloc hB1.size (.cells #[] 2)
      have hP2 := hPd.grow hB2
      have hO2 : ((Wb.alloc (.cells #[.int .i64 v] 2)).alloc (.cells #[] 2)).ownsRow Wb.heap.size 2 1 (.slice (some ⟨Wb.heap.size + 1, 0, none⟩) 0 0) 0 (RI64.vals []) := by simpa using own_from (Wb.alloc (.cells #[.int .i64 v] 2)) 2 Wb.heap.size hB1.size
      have hV2 := hV1.alloc (.cells #[] 2)
      refine hK.out _ _ (by exact ⟨hP2.X.cell 12, hP2.M.cell 2⟩) (fun hHeld => ?_)
      clear hK K
      (try simp only [Act.put, List.setIfInBounds_toArray, List.set_cons_zero, List.set_cons_succ])
      refine Till.call (i := 3) rfl (by kernel_rfl) (by rfl) ?_
      intro K hK
      refine RI64.wp_append_one (.tmp 71) (.tmp 73) _ rfl Wb.heap.size 2 8 (by omega) Try.underlying36 HInfo.out (.slice (some ⟨Wb.heap.size + 1, 0, none⟩) 0 0) 0 [] rfl hO2 B s.h.length cb s.h.reverse rfl hP2.R.hs (by have := HH.out.2; omega) hB2.size ?_
      intro V3 W3 hO4 hg3 hat3
      rw [Nat.zero_add, List.nil_append] at hO4
      have hB4 := below_kept hB2 (Kept.of_grown hg3) hB2.size (own_in hO2)
      have hP4 := hPd.grow hB4
      have hV4 := hV2.kept (Kept.of_grown hg3) (fun _ x hx hk => by injection hx with hx; subst hx; simp [Value.ownBlock] at hk)
      refine hK.out _ _ (by exact ⟨hP4.X.cell 12, hP4.M.cell 2⟩) (fun hHeld => ?_)
      clear hK K
      (try simp only [Act.put, List.setIfInBounds_toArray, List.set_cons_zero, List.set_cons_succ])
      refine Till.call (i := 7) rfl (by kernel_rfl) (by rfl) ?_
      intro K hK
      refine RI64.wp_append_one (.tmp 74) (.tmp 77) _ rfl Wb.heap.size 2 8 (by omega) Try.underlying36 HInfo.out _ s.h.length s.h.reverse rfl hO4 _ 1 1 [v] rfl hV4 (by have := HH.out.2; omega) hB4.size ?_
      intro V7 W7 hO7 hg7 hat7
      have hB7 := below_kept hB4 (Kept.of_grown hg7) hB4.size (own_in hO4)
      have hP7 := hPd.grow hB7
      obtain ⟨B7, c7, rfl, e1, e2, hV7, hf7, _⟩ := RI64.Vals.own hO7
      refine hK.out _ _ (by exact ⟨hP7.X.cell 12, hP7.M.cell 2⟩) (fun hHeld => ?_)
      clear hK K
      (try simp only [Act.put, List.setIfInBounds_toArray, List.set_cons_zero, List.set_cons_succ])
      refine Till.take (i := 8) (v := ?v7) rfl (by kernel_rfl) (by kernel_rfl) (by kernel_rfl) (by kernel_rfl) (by rfl) ?hv7 (by assumption) ?rest7
      case hv7 => first | (intro w hSw; (try dsimp only at hSw); go_simp; done) | (intro w hSw; (try dsimp only at hSw); go_simp; with_reducible rfl)
      (try simp only [Act.put, List.setIfInBounds_toArray, List.set_cons_zero, List.set_cons_succ])
      have f12 := hP7.X.frozen 12
      have x12 : W7.cell? ⟨w.heap.size, 12, none⟩ = some (.slice B s.h.length cb) := hP7.X.cell 12
      refine Till.put (i := 9) rfl (by kernel_rfl) (by rfl) (by rfl) ?_
      intro K hK
      go_simp
      refine hK.out _ _ ?_
      clear hK K hHeld
      (try simp only [Act.put, List.setIfInBounds_toArray, List.set_cons_zero, List.set_cons_succ])
      refine Till.done (by kernel_rfl) ?_ _
      have hX8 : Has (W7.setCell ⟨w.heap.size, 12, none⟩ (.slice B7 (s.h.length + 1) c7)) w.heap.size 41 (refC l ⟨s.dark, s.t, v :: s.h, s.on⟩ A ca B7 c7 C E.length cc) := hP7.X.set_ 12 (.slice B7 (s.h.length + 1) c7)
      have hK8 := (Kept.refl [w.heap.size] W7).setCell (p := ⟨w.heap.size, 12, none⟩) (.inl (by simp)) (.slice B7 (s.h.length + 1) c7)
      have hP := hP7.turn (s' := ⟨s.dark, s.t, v :: s.h, s.on⟩) (B' := B7) (cb' := c7) hX8 hK8 hP7.R.rs (by show RI64.Vals W7 B7 (s.h.length + 1) (v :: s.h).reverse; rw [List.reverse_cons]; exact hV7) hP7.R.la hP7.R.fa (fun x hx => ⟨by have := (hf7 x hx).1; omega, (hf7 x hx).2⟩) hP7.oa (fun x hx => .inr (by have := (hf7 x hx).1; omega))
      generalize W7.setCell ⟨w.heap.size, 12, none⟩ (.slice B7 (s.h.length + 1) c7) = Wp at *
      clear hX8 hK8 hP7 hV7 hf7 f12 x12 hO7 hg7 hat7 hB7 hO4 hV4 hB4 hP4
      have m0 : Wp.cell? ⟨w.heap.size + 1, 0, none⟩ = some (.int .i64 4) := hP.M.cell 0
      go_upto_region 15 with (fail)
      have y1 : Wp.cell? ⟨w.heap.size + 1, 1, none⟩ = some (.int .i64 a) := hP.M.cell 1
      go_wp2_with (first
        | (refine ref_ld rfl _ rfl _ rfl hP.X (ref_size _ _ _ _ _ _ _ _ _) ?_)
        | (go_at_call 23; (refine Calls.mono (by exact reflook_any l _ _ _ _ _ _ _ _ E _ _ _ _ C cc base a _ hm hP.R (Nat.le_trans hb hP.low.size) (by have := HE.out; omega) ((by have h2 := HH.out.1; have h3 := hrT; omega)) ((by have h2 := HH.out.2; show s.h.length + 1 ≤ 100000; omega))) ?_); rintro e W9 ⟨C9, c9, E9, hE9, rfl, hR9, hn9, hB9⟩; have HE9 := Lib.hid hE9; clear hE9; have hP9 := hP.grow hB9)
        | (refine ref_st rfl _ _ rfl _ _ rfl rfl hP9.Y (ref_size _ _ _ _ _ _ _ _ _) rfl (ref_one _ _ _ _ _ _ _ _ _) ?_))
      have hwp : w.heap.size + 1 + 1 < Wp.heap.size := hP.Y.lt
      have hK9 := fun xs => kept_row W9 (w.heap.size + 1 + 1) xs
      have hfin := HT.out
      refine ref_ret rfl (w.heap.size + 1 + 1) rfl _ (hP9.Y.row _) (ref_size _ _ _ _ _ _ _ _ _) rfl ⟨_, _, _, _, C9, c9, E9, by rw [HE9.out, hfin.2]; rfl, by rw [hfin.1]; rfl, ?_, below_kept hP9.low (hK9 _) hP9.low.size (fun x hx => by simp at hx; omega)⟩
      rw [hfin.1]
      exact rf_row hR9 (hK9 _) (fun x hx hk => by have := hP.oa x hx; simp at hk; omega) (fun x hx hk => by have := hP.ob x hx; simp at hk; omega) (fun x hx hk => by
        simp at hk
        rcases hn9 x hx with h8 | h8
        · have := hP.oc x h8; omega
        · omega)
  | false =>
    rw [hbn, if_neg (by decide)] at hs1' hs2'
    rw [hbn] at x9
    clear hbn
    have HT := Lib.hid (And.intro hs1' hs2')
    clear hs1' hs2' ht hc
    go_enter Try.func13, Try.ntmps13
    go_upto_region 1 with (fail)
    clear hW2
    go_upto_region 12 with (go_at_call 21; ((with_reducible refine (hbg _).mono ?_); rintro e W4 ⟨rfl, hB4⟩; have hP4 := hP.grow hB4; have d9 : W4.cell? ⟨w.heap.size, 9, none⟩ = some (.bool s.t.begun) := hP4.X.cell 9; have d10 : W4.cell? ⟨w.heap.size, 10, none⟩ = some (.int .i64 s.t.last) := hP4.X.cell 10; have d11 : W4.cell? ⟨w.heap.size, 11, none⟩ = some (.slice A s.t.rs.length ca) := hP4.X.cell 11; have g9 := hP4.X.frozen 9; have g10 := hP4.X.frozen 10; have g11 := hP4.X.frozen 11))
    have hX5 : Has (((W4.setCell ⟨w.heap.size, 9, none⟩ (.bool true)).setCell ⟨w.heap.size, 10, none⟩ (.int .i64 (Tally.nearA a))).setCell ⟨w.heap.size, 11, none⟩ (.slice none 0 0)) w.heap.size 41 (refC l ⟨s.dark, Tally.beginT a, s.h, s.on⟩ none 0 B cb C E.length cc) :=
      ((hP4.X.set_ 9 (.bool true)).set_ 10 (.int .i64 (Tally.nearA a))).set_ 11 (.slice none 0 0)
    have hK5 := (((Kept.refl [w.heap.size] W4).setCell (p := ⟨w.heap.size, 9, none⟩) (.inl (by simp)) (.bool true)).setCell (p := ⟨w.heap.size, 10, none⟩) (.inl (by simp)) (.int .i64 (Tally.nearA a))).setCell (p := ⟨w.heap.size, 11, none⟩) (.inl (by simp)) (.slice none 0 0)
    have hPP := hP4.turn (s' := ⟨s.dark, Tally.beginT a, s.h, s.on⟩) (A' := none) (ca' := 0) hX5 hK5 ⟨rfl, fun h0 => absurd h0 (by simp [Tally.beginT])⟩ hP4.R.hs (Tally.nearA_bd a) (fun x hx => by cases hx) hP4.R.fb (fun x hx => by cases hx) hP4.ob
    clear hX5 hK5 hP4 d9 d10 d11 g9 g10 g11 hP
    have hP := hPP
    clear hPP
    generalize ((W4.setCell ⟨w.heap.size, 9, none⟩ (.bool true)).setCell ⟨w.heap.size, 10, none⟩ (.int .i64 (Tally.nearA a))).setCell ⟨w.heap.size, 11, none⟩ (.slice none 0 0) = Wq at *
    clear m0 m1 x9 x10 x11 x12 x13 f9 f10 f11 f12 f13
    have hrT : (Tally.beginT a).rs.length ≤ 1000000 := by show 0 ≤ 1000000; omega
    have hPd : Ps w base l ⟨4, a, v, b1, b2, rr, bk⟩ ⟨s.dark, (Tally.beginT a), s.h, s.on⟩ E none 0 B cb C cc Wq.drew := hP.grow (below_drewN (Below.refl _ Wq) 1)
    clear hP
    refine Till.begin_ (T := [9]) (S := fun W => W.cell? ⟨w.heap.size, 12, none⟩ = some (.slice B s.h.length cb) ∧ W.cell? ⟨w.heap.size + 1, 2, none⟩ = some (.int .i64 v)) (by kernel_rfl) (by exact ⟨hPd.X.cell 12, hPd.M.cell 2⟩) (fun hHeld => ?_)
    generalize Wq.drew = Wb at *
    refine Till.take (i := 1) (v := ?v8) rfl (by kernel_rfl) (by kernel_rfl) (by kernel_rfl) (by kernel_rfl) (by rfl) ?hv8 (by assumption) ?rest8
    case hv8 => first | (intro w hSw; (try dsimp only at hSw); go_simp; done) | (intro w hSw; (try dsimp only at hSw); go_simp; with_reducible rfl)
    (try simp only [Act.put, List.setIfInBounds_toArray, List.set_cons_zero, List.set_cons_succ])
    refine Till.take (i := 2) (v := ?v9) rfl (by kernel_rfl) (by kernel_rfl) (by kernel_rfl) (by kernel_rfl) (by rfl) ?hv9 (by assumption) ?rest9
    case hv9 => first | (intro w hSw; (try dsimp only at hSw); go_simp; done) | (intro w hSw; (try dsimp only at hSw); go_simp; with_reducible rfl)
    (try simp only [Act.put, List.setIfInBounds_toArray, List.set_cons_zero, List.set_cons_succ])
    refine Till.take (i := 4) (v := ?v10) rfl (by kernel_rfl) (by kernel_rfl) (by kernel_rfl) (by kernel_rfl) (by rfl) ?hv10 (by assumption) ?rest10
    case hv10 => first | (intro w hSw; (try dsimp only at hSw); go_simp; done) | (intro w hSw; (try dsimp only at hSw); go_simp; with_reducible rfl)
    (try simp only [Act.put, List.setIfInBounds_toArray, List.set_cons_zero, List.set_cons_succ])
    refine Till.take (i := 5) (v := ?v11) rfl (by kernel_rfl) (by kernel_rfl) (by kernel_rfl) (by kernel_rfl) (by rfl) ?hv11 (by assumption) ?rest11
    case hv11 => first | (intro w hSw; (try dsimp only at hSw); go_simp; done) | (intro w hSw; (try dsimp only at hSw); go_simp; with_reducible rfl)
    (try simp only [Act.put, List.setIfInBounds_toArray, List.set_cons_zero, List.set_cons_succ])
    have hB0 : Below Wb.heap.size Wb Wb := Below.refl _ _
    have hhl : s.h.reverse.length = s.h.length := by simp
    have hgl : w.heap.size + 1 + 1 < Wb.heap.size := hPd.Y.lt
    refine Till.both (i := 0) (j := 6) rfl rfl (by kernel_rfl) (by rfl) (by rfl) ?_ ?_
    · intro K hK
      go_simp
      have hB1 := hB0.alloc (Nat.le_refl _) (.cells #[] 2)
      have hP1 := hPd.grow hB1
      have hO1 := own_from Wb 2 Wb.heap.size (Nat.le_refl _)
      refine hK.out _ _ (by exact ⟨hP1.X.cell 12, hP1.M.cell 2⟩) (fun hHeld => ?_)
      clear hK K
      (try simp only [Act.put, List.setIfInBounds_toArray, List.set_cons_zero, List.set_cons_succ])
      refine Till.both (i := 3) (j := 6) rfl rfl (by kernel_rfl) (by rfl) (by rfl) ?_ ?_
      · intro K hK
        refine RI64.wp_append_one (.tmp 71) (.tmp 73) _ rfl Wb.heap.size 2 8 (by omega) Try.underlying36 HInfo.out _ 0 [] rfl hO1 B s.h.length cb s.h.reverse rfl hP1.R.hs (by have := HH.out.2; omega) hB1.size ?_
        intro V3 W3 hO3 hg3 hat3
        rw [Nat.zero_add, List.nil_append] at hO3
        have hB3 := below_kept hB1 (Kept.of_grown hg3) hB1.size (own_in hO1)
        have hP3 := hPd.grow hB3
        refine hK.out _ _ (by exact ⟨hP3.X.cell 12, hP3.M.cell 2⟩) (fun hHeld => ?_)
        clear hK K
        (try simp only [Act.put, List.setIfInBounds_toArray, List.set_cons_zero, List.set_cons_succ])
        refine Till.call (i := 6) rfl (by kernel_rfl) (by rfl) ?_
        intro K hK
        go_simp
        have hB4 := hB3.alloc hB3.size (.cells #[.int .i64 v] 2)
        have hP4 := hPd.grow hB4
        have hO4 := own_kept hO3 ((Kept.refl [] W3).alloc (.cells #[.int .i64 v] 2)) (by simp)
        have hV4 : RI64.Vals (W3.alloc (.cells #[.int .i64 v] 2)) (some ⟨W3.heap.size, 0, none⟩) 1 [v] := RI64.Vals.has (ys := [v]) (tl := []) (Has.new W3 _ _)
        refine hK.out _ _ (by exact ⟨hP4.X.cell 12, hP4.M.cell 2⟩) (fun hHeld => ?_)
        clear hK K
        (try simp only [Act.put, List.setIfInBounds_toArray, List.set_cons_zero, List.set_cons_succ])
        refine Till.call (i := 7) rfl (by kernel_rfl) (by rfl) ?_
        intro K hK
        refine RI64.wp_append_one (.tmp 74) (.tmp 77) _ rfl Wb.heap.size 2 8 (by omega) Try.underlying36 HInfo.out _ s.h.length s.h.reverse rfl hO4 _ 1 1 [v] rfl hV4 (by have := HH.out.2; omega) hB4.size ?_
        intro V7 W7 hO7 hg7 hat7
        have hB7 := below_kept hB4 (Kept.of_grown hg7) hB4.size (own_in hO4)
        have hP7 := hPd.grow hB7
        obtain ⟨B7, c7, rfl, e1, e2, hV7, hf7, _⟩ := RI64.Vals.own hO7
        refine hK.out _ _ (by exact ⟨hP7.X.cell 12, hP7.M.cell 2⟩) (fun hHeld => ?_)
        clear hK K
        (try simp only [Act.put, List.setIfInBounds_toArray, List.set_cons_zero, List.set_cons_succ])
        refine Till.take (i := 8) (v := ?v12) rfl (by kernel_rfl) (by kernel_rfl) (by kernel_rfl) (by kernel_rfl) (by rfl) ?hv12 (by assumption) ?rest12
        case hv12 => first | (intro w hSw; (try dsimp only at hSw); go_simp; done) | (intro w hSw; (try dsimp only at hSw); go_simp; with_reducible rfl)
        (try simp only [Act.put, List.setIfInBounds_toArray, List.set_cons_zero, List.set_cons_succ])
        have f12 := hP7.X.frozen 12
        have x12 : W7.cell? ⟨w.heap.size, 12, none⟩ = some (.slice B s.h.length cb) := hP7.X.cell 12
        refine Till.put (i := 9) rfl (by kernel_rfl) (by rfl) (by rfl) ?_
        intro K hK
        go_simp
        refine hK.out _ _ ?_
        clear hK K hHeld
        (try simp only [Act.put, List.setIfInBounds_toArray, List.set_cons_zero, List.set_cons_succ])
        refine Till.done (by kernel_rfl) ?_ _
        have hX8 : Has (W7.setCell ⟨w.heap.size, 12, none⟩ (.slice B7 (s.h.length + 1) c7)) w.heap.size 41 (refC l ⟨s.dark, (Tally.beginT a), v :: s.h, s.on⟩ none 0 B7 c7 C E.length cc) := hP7.X.set_ 12 (.slice B7 (s.h.length + 1) c7)
        have hK8 := (Kept.refl [w.heap.size] W7).setCell (p := ⟨w.heap.size, 12, none⟩) (.inl (by simp)) (.slice B7 (s.h.length + 1) c7)
        have hP := hP7.turn (s' := ⟨s.dark, (Tally.beginT a), v :: s.h, s.on⟩) (B' := B7) (cb' := c7) hX8 hK8 hP7.R.rs (by show RI64.Vals W7 B7 (s.h.length + 1) (v :: s.h).reverse; rw [List.reverse_cons]; exact hV7) hP7.R.la hP7.R.fa (fun x hx => ⟨by have := (hf7 x hx).1; omega, (hf7 x hx).2⟩) hP7.oa (fun x hx => .inr (by have := (hf7 x hx).1; omega))
        generalize W7.setCell ⟨w.heap.size, 12, none⟩ (.slice B7 (s.h.length + 1) c7) = Wp at *
        clear hX8 hK8 hP7 hV7 hf7 f12 x12 hO7 hg7 hat7 hB7 hO4 hV4 hB4 hP4
        have m0 : Wp.cell? ⟨w.heap.size + 1, 0, none⟩ = some (.int .i64 4) := hP.M.cell 0
        go_upto_region 15 with (fail)
        have y1 : Wp.cell? ⟨w.heap.size + 1, 1, none⟩ = some (.int .i64 a) := hP.M.cell 1
        go_wp2_with (first
          | (refine ref_ld rfl _ rfl _ rfl hP.X (ref_size _ _ _ _ _ _ _ _ _) ?_)
          | (go_at_call 23; (refine Calls.mono (by exact reflook_any l _ _ _ _ _ _ _ _ E _ _ _ _ C cc base a _ hm hP.R (Nat.le_trans hb hP.low.size) (by have := HE.out; omega) ((by have h2 := HH.out.1; have h3 := hrT; omega)) ((by have h2 := HH.out.2; show s.h.length + 1 ≤ 100000; omega))) ?_); rintro e W9 ⟨C9, c9, E9, hE9, rfl, hR9, hn9, hB9⟩; have HE9 := Lib.hid hE9; clear hE9; have hP9 := hP.grow hB9)
          | (refine ref_st rfl _ _ rfl _ _ rfl rfl hP9.Y (ref_size _ _ _ _ _ _ _ _ _) rfl (ref_one _ _ _ _ _ _ _ _ _) ?_))
        have hwp : w.heap.size + 1 + 1 < Wp.heap.size := hP.Y.lt
        have hK9 := fun xs => kept_row W9 (w.heap.size + 1 + 1) xs
        have hfin := HT.out
        refine ref_ret rfl (w.heap.size + 1 + 1) rfl _ (hP9.Y.row _) (ref_size _ _ _ _ _ _ _ _ _) rfl ⟨_, _, _, _, C9, c9, E9, by rw [HE9.out, hfin.2]; rfl, by rw [hfin.1]; rfl, ?_, below_kept hP9.low (hK9 _) hP9.low.size (fun x hx => by simp at hx; omega)⟩
        rw [hfin.1]
        exact rf_row hR9 (hK9 _) (fun x hx hk => by have := hP.oa x hx; simp at hk; omega) (fun x hx hk => by have := hP.ob x hx; simp at hk; omega) (fun x hx hk => by
          simp at hk
          rcases hn9 x hx with h8 | h8
          · have := hP.oc x h8; omega
          · omega)
      · intro K hK
        go_simp
        have hB2 := hB1.alloc hB1.size (.cells #[.int .i64 v] 2)
        have hP2 := hPd.grow hB2
        have hO2 := own_kept hO1 ((Kept.refl [] _).alloc (.cells #[.int .i64 v] 2)) (by simp)
        have hV2 : RI64.Vals ((Wb.alloc (.cells #[] 2)).alloc (.cells #[.int .i64 v] 2)) (some ⟨Wb.heap.size + 1, 0, none⟩) 1 [v] := by simpa using RI64.Vals.has (ys := [v]) (tl := []) (Has.new (Wb.alloc (.cells #[] 2)) 2 #[.int .i64 v])
        refine hK.out _ _ (by exact ⟨hP2.X.cell 12, hP2.M.cell 2⟩) (fun hHeld => ?_)
        clear hK K
        (try simp only [Act.put, List.setIfInBounds_toArray, List.set_cons_zero, List.set_cons_succ])
        refine Till.call (i := 3) rfl (by kernel_rfl) (by rfl) ?_
        intro K hK
        refine RI64.wp_append_one (.tmp 71) (.tmp 73) _ rfl Wb.heap.size 2 8 (by omega) Try.underlying36 HInfo.out (.slice (some ⟨Wb.heap.size, 0, none⟩) 0 0) 0 [] rfl hO2 B s.h.length cb s.h.reverse rfl hP2.R.hs (by have := HH.out.2; omega) hB2.size ?_
        intro V3 W3 hO4 hg3 hat3
        rw [Nat.zero_add, List.nil_append] at hO4
        have hB4 := below_kept hB2 (Kept.of_grown hg3) hB2.size (own_in hO2)
        have hP4 := hPd.grow hB4
        have hV4 := hV2.kept (Kept.of_grown hg3) (fun _ x hx hk => by injection hx with hx; subst hx; simp [Value.ownBlock] at hk)
        refine hK.out _ _ (by exact ⟨hP4.X.cell 12, hP4.M.cell 2⟩) (fun hHeld => ?_)
        clear hK K
        (try simp only [Act.put, List.setIfInBounds_toArray, List.set_cons_zero, List.set_cons_succ])
        refine Till.call (i := 7) rfl (by kernel_rfl) (by rfl) ?_
        intro K hK
        refine RI64.wp_append_one (.tmp 74) (.tmp 77) _ rfl Wb.heap.size 2 8 (by omega) Try.underlying36 HInfo.out _ s.h.length s.h.reverse rfl hO4 _ 1 1 [v] rfl hV4 (by have := HH.out.2; omega) hB4.size ?_
        intro V7 W7 hO7 hg7 hat7
        have hB7 := below_kept hB4 (Kept.of_grown hg7) hB4.size (own_in hO4)
        have hP7 := hPd.grow hB7
        obtain ⟨B7, c7, rfl, e1, e2, hV7, hf7, _⟩ := RI64.Vals.own hO7
        refine hK.out _ _ (by exact ⟨hP7.X.cell 12, hP7.M.cell 2⟩) (fun hHeld => ?_)
        clear hK K
        (try simp only [Act.put, List.setIfInBounds_toArray, List.set_cons_zero, List.set_cons_succ])
        refine Till.take (i := 8) (v := ?v13) rfl (by kernel_rfl) (by kernel_rfl) (by kernel_rfl) (by kernel_rfl) (by rfl) ?hv13 (by assumption) ?rest13
        case hv13 => first | (intro w hSw; (try dsimp only at hSw); go_simp; done) | (intro w hSw; (try dsimp only at hSw); go_simp; with_reducible rfl)
        (try simp only [Act.put, List.setIfInBounds_toArray, List.set_cons_zero, List.set_cons_succ])
        have f12 := hP7.X.frozen 12
        have x12 : W7.cell? ⟨w.heap.size, 12, none⟩ = some (.slice B s.h.length cb) := hP7.X.cell 12
        refine Till.put (i := 9) rfl (by kernel_rfl) (by rfl) (by rfl) ?_
        intro K hK
        go_simp
        refine hK.out _ _ ?_
        clear hK K hHeld
        (try simp only [Act.put, List.setIfInBounds_toArray, List.set_cons_zero, List.set_cons_succ])
        refine Till.done (by kernel_rfl) ?_ _
        have hX8 : Has (W7.setCell ⟨w.heap.size, 12, none⟩ (.slice B7 (s.h.length + 1) c7)) w.heap.size 41 (refC l ⟨s.dark, (Tally.beginT a), v :: s.h, s.on⟩ none 0 B7 c7 C E.length cc) := hP7.X.set_ 12 (.slice B7 (s.h.length + 1) c7)
        have hK8 := (Kept.refl [w.heap.size] W7).setCell (p := ⟨w.heap.size, 12, none⟩) (.inl (by simp)) (.slice B7 (s.h.length + 1) c7)
        have hP := hP7.turn (s' := ⟨s.dark, (Tally.beginT a), v :: s.h, s.on⟩) (B' := B7) (cb' := c7) hX8 hK8 hP7.R.rs (by show RI64.Vals W7 B7 (s.h.length + 1) (v :: s.h).reverse; rw [List.reverse_cons]; exact hV7) hP7.R.la hP7.R.fa (fun x hx => ⟨by have := (hf7 x hx).1; omega, (hf7 x hx).2⟩) hP7.oa (fun x hx => .inr (by have := (hf7 x hx).1; omega))
        generalize W7.setCell ⟨w.heap.size, 12, none⟩ (.slice B7 (s.h.length + 1) c7) = Wp at *
        clear hX8 hK8 hP7 hV7 hf7 f12 x12 hO7 hg7 hat7 hB7 hO4 hV4 hB4 hP4
        have m0 : Wp.cell? ⟨w.heap.size + 1, 0, none⟩ = some (.int .i64 4) := hP.M.cell 0
        go_upto_region 15 with (fail)
        have y1 : Wp.cell? ⟨w.heap.size + 1, 1, none⟩ = some (.int .i64 a) := hP.M.cell 1
        go_wp2_with (first
          | (refine ref_ld rfl _ rfl _ rfl hP.X (ref_size _ _ _ _ _ _ _ _ _) ?_)
          | (go_at_call 23; (refine Calls.mono (by exact reflook_any l _ _ _ _ _ _ _ _ E _ _ _ _ C cc base a _ hm hP.R (Nat.le_trans hb hP.low.size) (by have := HE.out; omega) ((by have h2 := HH.out.1; have h3 := hrT; omega)) ((by have h2 := HH.out.2; show s.h.length + 1 ≤ 100000; omega))) ?_); rintro e W9 ⟨C9, c9, E9, hE9, rfl, hR9, hn9, hB9⟩; have HE9 := Lib.hid hE9; clear hE9; have hP9 := hP.grow hB9)
          | (refine ref_st rfl _ _ rfl _ _ rfl rfl hP9.Y (ref_size _ _ _ _ _ _ _ _ _) rfl (ref_one _ _ _ _ _ _ _ _ _) ?_))
        have hwp : w.heap.size + 1 + 1 < Wp.heap.size := hP.Y.lt
        have hK9 := fun xs => kept_row W9 (w.heap.size + 1 + 1) xs
        have hfin := HT.out
        refine ref_ret rfl (w.heap.size + 1 + 1) rfl _ (hP9.Y.row _) (ref_size _ _ _ _ _ _ _ _ _) rfl ⟨_, _, _, _, C9, c9, E9, by rw [HE9.out, hfin.2]; rfl, by rw [hfin.1]; rfl, ?_, below_kept hP9.low (hK9 _) hP9.low.size (fun x hx => by simp at hx; omega)⟩
        rw [hfin.1]
        exact rf_row hR9 (hK9 _) (fun x hx hk => by have := hP.oa x hx; simp at hk; omega) (fun x hx hk => by have := hP.ob x hx; simp at hk; omega) (fun x hx hk => by
          simp at hk
          rcases hn9 x hx with h8 | h8
          · have := hP.oc x h8; omega
          · omega)
    · intro K hK
      go_simp
      have hB1 := hB0.alloc (Nat.le_refl _) (.cells #[.int .i64 v] 2)
      have hP1 := hPd.grow hB1
      have hV1 : RI64.Vals (Wb.alloc (.cells #[.int .i64 v] 2)) (some ⟨Wb.heap.size, 0, none⟩) 1 [v] := RI64.Vals.has (ys := [v]) (tl := []) (Has.new Wb _ _)
      refine hK.out _ _ (by exact ⟨hP1.X.cell 12, hP1.M.cell 2⟩) (fun hHeld => ?_)
      clear hK K
      (try simp only [Act.put, List.setIfInBounds_toArray, List.set_cons_zero, List.set_cons_succ])
      refine Till.call (i := 0) rfl (by kernel_rfl) (by rfl) ?_
      intro K hK
      go_simp
      have hB2 := hB1.alloc hB1.size (.cells #[] 2)
      have hP2 := hPd.grow hB2
      have hO2 : ((Wb.alloc (.cells #[.int .i64 v] 2)).alloc (.cells #[] 2)).ownsRow Wb.heap.size 2 1 (.slice (some ⟨Wb.heap.size + 1, 0, none⟩) 0 0) 0 (RI64.vals []) := by simpa using own_from (Wb.alloc (.cells #[.int .i64 v] 2)) 2 Wb.heap.size hB1.size
      have hV2 := hV1.alloc (.cells #[] 2)
      refine hK.out _ _ (by exact ⟨hP2.X.cell 12, hP2.M.cell 2⟩) (fun hHeld => ?_)
      clear hK K
      (try simp only [Act.put, List.setIfInBounds_toArray, List.set_cons_zero, List.set_cons_succ])
      refine Till.call (i := 3) rfl (by kernel_rfl) (by rfl) ?_
      intro K hK
      refine RI64.wp_append_one (.tmp 71) (.tmp 73) _ rfl Wb.heap.size 2 8 (by omega) Try.underlying36 HInfo.out (.slice (some ⟨Wb.heap.size + 1, 0, none⟩) 0 0) 0 [] rfl hO2 B s.h.length cb s.h.reverse rfl hP2.R.hs (by have := HH.out.2; omega) hB2.size ?_
      intro V3 W3 hO4 hg3 hat3
      rw [Nat.zero_add, List.nil_append] at hO4
      have hB4 := below_kept hB2 (Kept.of_grown hg3) hB2.size (own_in hO2)
      have hP4 := hPd.grow hB4
      have hV4 := hV2.kept (Kept.of_grown hg3) (fun _ x hx hk => by injection hx with hx; subst hx; simp [Value.ownBlock] at hk)
      refine hK.out _ _ (by exact ⟨hP4.X.cell 12, hP4.M.cell 2⟩) (fun hHeld => ?_)
      clear hK K
      (try simp only [Act.put, List.setIfInBounds_toArray, List.set_cons_zero, List.set_cons_succ])
      refine Till.call (i := 7) rfl (by kernel_rfl) (by rfl) ?_
      intro K hK
      refine RI64.wp_append_one (.tmp 74) (.tmp 77) _ rfl Wb.heap.size 2 8 (by omega) Try.underlying36 HInfo.out _ s.h.length s.h.reverse rfl hO4 _ 1 1 [v] rfl hV4 (by have := HH.out.2; omega) hB4.size ?_
      intro V7 W7 hO7 hg7 hat7
      have hB7 := below_kept hB4 (Kept.of_grown hg7) hB4.size (own_in hO4)
      have hP7 := hPd.grow hB7
      obtain ⟨B7, c7, rfl, e1, e2, hV7, hf7, _⟩ := RI64.Vals.own hO7
      refine hK.out _ _ (by exact ⟨hP7.X.cell 12, hP7.M.cell 2⟩) (fun hHeld => ?_)
      clear hK K
      (try simp only [Act.put, List.setIfInBounds_toArray, List.set_cons_zero, List.set_cons_succ])
      refine Till.take (i := 8) (v := ?v14) rfl (by kernel_rfl) (by kernel_rfl) (by kernel_rfl) (by kernel_rfl) (by rfl) ?hv14 (by assumption) ?rest14
      case hv14 => first | (intro w hSw; (try dsimp only at hSw); go_simp; done) | (intro w hSw; (try dsimp only at hSw); go_simp; with_reducible rfl)
      (try simp only [Act.put, List.setIfInBounds_toArray, List.set_cons_zero, List.set_cons_succ])
      have f12 := hP7.X.frozen 12
      have x12 : W7.cell? ⟨w.heap.size, 12, none⟩ = some (.slice B s.h.length cb) := hP7.X.cell 12
      refine Till.put (i := 9) rfl (by kernel_rfl) (by rfl) (by rfl) ?_
      intro K hK
      go_simp
      refine hK.out _ _ ?_
      clear hK K hHeld
      (try simp only [Act.put, List.setIfInBounds_toArray, List.set_cons_zero, List.set_cons_succ])
      refine Till.done (by kernel_rfl) ?_ _
      have hX8 : Has (W7.setCell ⟨w.heap.size, 12, none⟩ (.slice B7 (s.h.length + 1) c7)) w.heap.size 41 (refC l ⟨s.dark, (Tally.beginT a), v :: s.h, s.on⟩ none 0 B7 c7 C E.length cc) := hP7.X.set_ 12 (.slice B7 (s.h.length + 1) c7)
      have hK8 := (Kept.refl [w.heap.size] W7).setCell (p := ⟨w.heap.size, 12, none⟩) (.inl (by simp)) (.slice B7 (s.h.length + 1) c7)
      have hP := hP7.turn (s' := ⟨s.dark, (Tally.beginT a), v :: s.h, s.on⟩) (B' := B7) (cb' := c7) hX8 hK8 hP7.R.rs (by show RI64.Vals W7 B7 (s.h.length + 1) (v :: s.h).reverse; rw [List.reverse_cons]; exact hV7) hP7.R.la hP7.R.fa (fun x hx => ⟨by have := (hf7 x hx).1; omega, (hf7 x hx).2⟩) hP7.oa (fun x hx => .inr (by have := (hf7 x hx).1; omega))
      generalize W7.setCell ⟨w.heap.size, 12, none⟩ (.slice B7 (s.h.length + 1) c7) = Wp at *
      clear hX8 hK8 hP7 hV7 hf7 f12 x12 hO7 hg7 hat7 hB7 hO4 hV4 hB4 hP4
      have m0 : Wp.cell? ⟨w.heap.size + 1, 0, none⟩ = some (.int .i64 4) := hP.M.cell 0
      go_upto_region 15 with (fail)
      have y1 : Wp.cell? ⟨w.heap.size + 1, 1, none⟩ = some (.int .i64 a) := hP.M.cell 1
      go_wp2_with (first
        | (refine ref_ld rfl _ rfl _ rfl hP.X (ref_size _ _ _ _ _ _ _ _ _) ?_)
        | (go_at_call 23; (refine Calls.mono (by exact reflook_any l _ _ _ _ _ _ _ _ E _ _ _ _ C cc base a _ hm hP.R (Nat.le_trans hb hP.low.size) (by have := HE.out; omega) ((by have h2 := HH.out.1; have h3 := hrT; omega)) ((by have h2 := HH.out.2; show s.h.length + 1 ≤ 100000; omega))) ?_); rintro e W9 ⟨C9, c9, E9, hE9, rfl, hR9, hn9, hB9⟩; have HE9 := Lib.hid hE9; clear hE9; have hP9 := hP.grow hB9)
        | (refine ref_st rfl _ _ rfl _ _ rfl rfl hP9.Y (ref_size _ _ _ _ _ _ _ _ _) rfl (ref_one _ _ _ _ _ _ _ _ _) ?_))
      have hwp : w.heap.size + 1 + 1 < Wp.heap.size := hP.Y.lt
      have hK9 := fun xs => kept_row W9 (w.heap.size + 1 + 1) xs
      have hfin := HT.out
      refine ref_ret rfl (w.heap.size + 1 + 1) rfl _ (hP9.Y.row _) (ref_size _ _ _ _ _ _ _ _ _) rfl ⟨_, _, _, _, C9, c9, E9, by rw [HE9.out, hfin.2]; rfl, by rw [hfin.1]; rfl, ?_, below_kept hP9.low (hK9 _) hP9.low.size (fun x hx => by simp at hx; omega)⟩
      rw [hfin.1]
      exact rf_row hR9 (hK9 _) (fun x hx hk => by have := hP.oa x hx; simp at hk; omega) (fun x hx hk => by have := hP.ob x hx; simp at hk; omega) (fun x hx hk => by
        simp at hk
        rcases hn9 x hx with h8 | h8
        · have := hP.oc x h8; omega
        · omega)
end Go.Proofs.Ytpmjgomfjfhfkaa.Rhythm
