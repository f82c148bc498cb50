/- The reference of layer 22: Push. -/
import Derived.Test.YtpmjgomfjfhfkaaRhythmRefP
import Derived.Test.YtpmjgomfjfhfkaaRhythmRef4
set_option linter.unusedSimpArgs false
set_option linter.unusedVariables false
namespace Go.Proofs.Ytpmjgomfjfhfkaa.Rhythm
open Go.RowKit
open Tally (Lim May mayT limV limC stV)
set_option maxRecDepth 100000 in
set_option maxHeartbeats 4000000 in
theorem refpush_any (l : Lim) (s : St) (E : List Cd) (A : Option Addr) (ca : Nat) (B : Option Addr) (cb : Nat) (C : Option Addr) (cc base : Nat) (m : Mk) (w : World) (hm : May l) (hR : RfIs w base s E A ca B cb C cc) (hb : base ≤ w.heap.size) (hE : E.length ≤ 90000) (hrs : s.t.rs.length ≤ 400000) (hhs : s.h.length ≤ 90000) :
    Calls Try.prog 13 #[refV l s A ca B cb C E.length cc, mkV m] w (RPushIs w base l s E m) := by
  obtain ⟨k, a, v, b1, b2, rr, bk⟩ := m
  unfold mkV
  dsimp only
  have hX1 := Has.new w 41 (refC l s A ca B cb C E.length cc)
  have hM1 : Has ((w.alloc (.cells (refC l s A ca B cb C E.length cc) 41)).alloc (.cells (mkC ⟨k, a, v, b1, b2, rr, bk⟩) 45)) (w.heap.size + 1) 45 (mkC ⟨k, a, v, b1, b2, rr, bk⟩) := by simpa using Has.new (w.alloc (.cells (refC l s A ca B cb C E.length cc) 41)) 45 (mkC ⟨k, a, v, b1, b2, rr, bk⟩)
  have hY : Has (((w.alloc (.cells (refC l s A ca B cb C E.length cc) 41)).alloc (.cells (mkC ⟨k, a, v, b1, b2, rr, bk⟩) 45)).alloc (.cells zeroC 41)) (w.heap.size + 1 + 1) 41 zeroC := by simpa using Has.new ((w.alloc (.cells (refC l s A ca B cb C E.length cc) 41)).alloc (.cells (mkC ⟨k, a, v, b1, b2, rr, bk⟩) 45)) 41 zeroC
  have hB : Below w.heap.size w (((w.alloc (.cells (refC l s A ca B cb C E.length cc) 41)).alloc (.cells (mkC ⟨k, a, v, b1, b2, rr, bk⟩) 45)).alloc (.cells zeroC 41)) := (((Below.refl w.heap.size w).alloc (Nat.le_refl _) _).alloc (by simp) _).alloc (by simp; omega) _
  have hX := (hX1.alloc (.cells (mkC ⟨k, a, v, b1, b2, rr, bk⟩) 45)).alloc (.cells zeroC 41)
  have hM := hM1.alloc (.cells zeroC 41)
  obtain ⟨W2, hW2⟩ : ∃ W2, ((w.alloc (.cells (refC l s A ca B cb C E.length cc) 41)).alloc (.cells (mkC ⟨k, a, v, b1, b2, rr, bk⟩) 45)).alloc (.cells zeroC 41) = W2 := ⟨_, rfl⟩
  rw [hW2] at hX hM hY hB
  have hP : Ps w base l ⟨k, a, v, b1, b2, rr, bk⟩ s E A ca B cb C cc W2 := ⟨hX, hM, hY, hR.below hB, hB, fun x hx => .inl (hR.fa x hx).2, fun x hx => .inl (hR.fb x hx).2, fun x hx => (hR.fc x hx).2⟩
  unfold zeroC mkC at hW2
  have hR0 := Lib.hid hR
  have HE := Lib.hid hE
  have HH := Lib.hid (And.intro hrs hhs)
  clear hX1 hM1 hX hM hY hB hR hE hrs hhs
  have m0 : W2.cell? ⟨w.heap.size + 1, 0, none⟩ = some (.int .i64 k) := hP.M.cell 0
  have m1 : W2.cell? ⟨w.heap.size + 1, 1, none⟩ = some (.int .i64 a) := hP.M.cell 1
  have x9 : W2.cell? ⟨w.heap.size, 9, none⟩ = some (.bool s.t.begun) := hP.X.cell 9
  have x10 : W2.cell? ⟨w.heap.size, 10, none⟩ = some (.int .i64 s.t.last) := hP.X.cell 10
  have x11 : W2.cell? ⟨w.heap.size, 11, none⟩ = some (.slice A s.t.rs.length ca) := hP.X.cell 11
  have x12 : W2.cell? ⟨w.heap.size, 12, none⟩ = some (.slice B s.h.length cb) := hP.X.cell 12
  have x13 : W2.cell? ⟨w.heap.size, 13, none⟩ = some (.bool s.dark) := hP.X.cell 13
  have f9 := hP.X.frozen 9
  have f10 := hP.X.frozen 10
  have f11 := hP.X.frozen 11
  have f12 := hP.X.frozen 12
  have f13 := hP.X.frozen 13
  have hbg := fun W => Tally.refbegin_any a W
  rw [show stV (Tally.beginT a) none 0 = .agg #[.bool true, .int .i64 (Tally.nearA a), .slice none 0 0] from rfl] at hbg
  unfold refV
  by_cases hc : counts s ⟨k, a, v, b1, b2, rr, bk⟩ = true
  · obtain ⟨hs1, hs2⟩ : stepT l s ⟨k, a, v, b1, b2, rr, bk⟩ = ⟨(takeT s ⟨k, a, v, b1, b2, rr, bk⟩).dark, (takeT s ⟨k, a, v, b1, b2, rr, bk⟩).t, (takeT s ⟨k, a, v, b1, b2, rr, bk⟩).h, lookT l (takeT s ⟨k, a, v, b1, b2, rr, bk⟩).dark (takeT s ⟨k, a, v, b1, b2, rr, bk⟩).t (takeT s ⟨k, a, v, b1, b2, rr, bk⟩).h a⟩ ∧ saysT l s ⟨k, a, v, b1, b2, rr, bk⟩ = tellT a s.on (lookT l (takeT s ⟨k, a, v, b1, b2, rr, bk⟩).dark (takeT s ⟨k, a, v, b1, b2, rr, bk⟩).t (takeT s ⟨k, a, v, b1, b2, rr, bk⟩).h a) := by
      rw [look_now hm s ⟨k, a, v, b1, b2, rr, bk⟩ hc]
      unfold stepT saysT
      rw [if_pos hc, if_pos hc]
      exact ⟨rfl, rfl⟩
    have hs2' : saysT l s ⟨k, a, v, b1, b2, rr, bk⟩ = tellT a s.on (lookT l (takeT s ⟨k, a, v, b1, b2, rr, bk⟩).dark (takeT s ⟨k, a, v, b1, b2, rr, bk⟩).t (takeT s ⟨k, a, v, b1, b2, rr, bk⟩).h a) := hs2
    have hs1' : stepT l s ⟨k, a, v, b1, b2, rr, bk⟩ = ⟨(takeT s ⟨k, a, v, b1, b2, rr, bk⟩).dark, (takeT s ⟨k, a, v, b1, b2, rr, bk⟩).t, (takeT s ⟨k, a, v, b1, b2, rr, bk⟩).h, lookT l (takeT s ⟨k, a, v, b1, b2, rr, bk⟩).dark (takeT s ⟨k, a, v, b1, b2, rr, bk⟩).t (takeT s ⟨k, a, v, b1, b2, rr, bk⟩).h a⟩ := hs1
    clear hs1 hs2
    by_cases k1 : k = 1
    · subst k1
      have ht : takeT s ⟨1, a, v, b1, b2, rr, bk⟩ = ⟨s.dark, Tally.beginT a, [], s.on⟩ := by unfold takeT; rw [if_pos rfl]
      rw [ht] at hs1' hs2'
      have HT := Lib.hid (And.intro hs1' hs2')
      clear hs1' hs2' ht hc
      go_enter Try.func13, Try.ntmps13
      go_upto_region 1 with (fail)
      clear hW2
      go_upto_region 7 with (fail)
      have hX3 : Has (((((W2.setCell ⟨w.heap.size, 13, none⟩ (.bool s.dark)).setCell ⟨w.heap.size, 9, none⟩ (.bool false)).setCell ⟨w.heap.size, 10, none⟩ (.int .i64 0)).setCell ⟨w.heap.size, 11, none⟩ (.slice none 0 0)).setCell ⟨w.heap.size, 12, none⟩ (.slice none 0 0)) w.heap.size 41 (refC l ⟨s.dark, Tally.st0, [], s.on⟩ none 0 none 0 C E.length cc) :=
        ((((hP.X.set_ 13 (.bool s.dark)).set_ 9 (.bool false)).set_ 10 (.int .i64 0)).set_ 11 (.slice none 0 0)).set_ 12 (.slice none 0 0)
      have hK3 := (((((Kept.refl [w.heap.size] W2).setCell (p := ⟨w.heap.size, 13, none⟩) (.inl (by simp)) (.bool s.dark)).setCell (p := ⟨w.heap.size, 9, none⟩) (.inl (by simp)) (.bool false)).setCell (p := ⟨w.heap.size, 10, none⟩) (.inl (by simp)) (.int .i64 0)).setCell (p := ⟨w.heap.size, 11, none⟩) (.inl (by simp)) (.slice none 0 0)).setCell (p := ⟨w.heap.size, 12, none⟩) (.inl (by simp)) (.slice none 0 0)
      have hP3 := hP.turn (s' := ⟨s.dark, Tally.st0, [], s.on⟩) (A' := none) (ca' := 0) (B' := none) (cb' := 0) hX3 hK3 ⟨rfl, fun h0 => absurd h0 (by simp [Tally.st0])⟩ ⟨rfl, fun h0 => absurd h0 (by simp)⟩ (by show (0 : Int) ≤ 0 ∧ (0 : Int) ≤ 1099511627776; omega) (fun x hx => by cases hx) (fun x hx => by cases hx) (fun x hx => by cases hx) (fun x hx => by cases hx)
      clear hX3 hK3 hP m0 m1 x9 x10 x11 x12 x13 f9 f10 f11 f12 f13
      generalize ((((W2.setCell ⟨w.heap.size, 13, none⟩ (.bool s.dark)).setCell ⟨w.heap.size, 9, none⟩ (.bool false)).setCell ⟨w.heap.size, 10, none⟩ (.int .i64 0)).setCell ⟨w.heap.size, 11, none⟩ (.slice none 0 0)).setCell ⟨w.heap.size, 12, none⟩ (.slice none 0 0) = W3 at *
      have m0 : W3.cell? ⟨w.heap.size + 1, 0, none⟩ = some (.int .i64 1) := hP3.M.cell 0
      have m1 : W3.cell? ⟨w.heap.size + 1, 1, none⟩ = some (.int .i64 a) := hP3.M.cell 1
      go_upto_region 9 with (go_at_call 21; ((with_reducible refine (hbg _).mono ?_); rintro e W4 ⟨rfl, hB4⟩; have hP4 := hP3.grow hB4; have d9 : W4.cell? ⟨w.heap.size, 9, none⟩ = some (.bool false) := hP4.X.cell 9; have d10 : W4.cell? ⟨w.heap.size, 10, none⟩ = some (.int .i64 0) := hP4.X.cell 10; have d11 : W4.cell? ⟨w.heap.size, 11, none⟩ = some (.slice none 0 0) := hP4.X.cell 11; have g9 := hP4.X.frozen 9; have g10 := hP4.X.frozen 10; have g11 := hP4.X.frozen 11))
      have hX5 : Has (((W4.setCell ⟨w.heap.size, 9, none⟩ (.bool true)).setCell ⟨w.heap.size, 10, none⟩ (.int .i64 (Tally.nearA a))).setCell ⟨w.heap.size, 11, none⟩ (.slice none 0 0)) w.heap.size 41 (refC l ⟨s.dark, Tally.beginT a, [], s.on⟩ none 0 none 0 C E.length cc) :=
        ((hP4.X.set_ 9 (.bool true)).set_ 10 (.int .i64 (Tally.nearA a))).set_ 11 (.slice none 0 0)
      have hK5 := (((Kept.refl [w.heap.size] W4).setCell (p := ⟨w.heap.size, 9, none⟩) (.inl (by simp)) (.bool true)).setCell (p := ⟨w.heap.size, 10, none⟩) (.inl (by simp)) (.int .i64 (Tally.nearA a))).setCell (p := ⟨w.heap.size, 11, none⟩) (.inl (by simp)) (.slice none 0 0)
      have hP := hP4.turn (s' := ⟨s.dark, Tally.beginT a, [], s.on⟩) (A' := none) (ca' := 0) hX5 hK5 ⟨rfl, fun h0 => absurd h0 (by simp [Tally.beginT])⟩ hP4.R.hs (Tally.nearA_bd a) (fun x hx => by cases hx) hP4.R.fb (fun x hx => by cases hx) hP4.ob
      clear hX5 hK5 hP4 d9 d10 d11 g9 g10 g11
      generalize ((W4.setCell ⟨w.heap.size, 9, none⟩ (.bool true)).setCell ⟨w.heap.size, 10, none⟩ (.int .i64 (Tally.nearA a))).setCell ⟨w.heap.size, 11, none⟩ (.slice none 0 0) = Wp at *
      clear hP3 m0 m1
      have m0 : Wp.cell? ⟨w.heap.size + 1, 0, none⟩ = some (.int .i64 1) := hP.M.cell 0
      go_upto_region 15 with (fail)
      have y1 : Wp.cell? ⟨w.heap.size + 1, 1, none⟩ = some (.int .i64 a) := hP.M.cell 1
      go_wp2_with (first
        | (refine ref_ld rfl _ rfl _ rfl hP.X (ref_size _ _ _ _ _ _ _ _ _) ?_)
        | (go_at_call 23; (refine Calls.mono (by exact reflook_any l _ _ _ _ _ _ _ _ E _ _ _ _ C cc base a _ hm hP.R (Nat.le_trans hb hP.low.size) (by have := HE.out; omega) ((by show 0 ≤ 1000000; omega)) ((by show 0 ≤ 100000; omega))) ?_); rintro e W9 ⟨C9, c9, E9, hE9, rfl, hR9, hn9, hB9⟩; have HE9 := Lib.hid hE9; clear hE9; have hP9 := hP.grow hB9)
        | (refine ref_st rfl _ _ rfl _ _ rfl rfl hP9.Y (ref_size _ _ _ _ _ _ _ _ _) rfl (ref_one _ _ _ _ _ _ _ _ _) ?_))
      have hwp : w.heap.size + 1 + 1 < Wp.heap.size := hP.Y.lt
      have hK9 := fun xs => kept_row W9 (w.heap.size + 1 + 1) xs
      have hfin := HT.out
      refine ref_ret rfl (w.heap.size + 1 + 1) rfl _ (hP9.Y.row _) (ref_size _ _ _ _ _ _ _ _ _) rfl ⟨_, _, _, _, C9, c9, E9, by rw [HE9.out, hfin.2]; rfl, by rw [hfin.1]; rfl, ?_, below_kept hP9.low (hK9 _) hP9.low.size (fun x hx => by simp at hx; omega)⟩
      rw [hfin.1]
      exact rf_row hR9 (hK9 _) (fun x hx hk => by have := hP.oa x hx; simp at hk; omega) (fun x hx hk => by have := hP.ob x hx; simp at hk; omega) (fun x hx hk => by
        simp at hk
        rcases hn9 x hx with h8 | h8
        · have := hP.oc x h8; omega
        · omega)
    by_cases k2 : k = 2
    · subst k2
      have ht : takeT s ⟨2, a, v, b1, b2, rr, bk⟩ = ⟨true, Tally.st0, [], s.on⟩ := by simp [takeT]
      rw [ht] at hs1' hs2'
      have HT := Lib.hid (And.intro hs1' hs2')
      clear hs1' hs2' ht hc
      go_enter Try.func13, Try.ntmps13
      go_upto_region 1 with (fail)
      clear hW2
      go_upto_region 7 with (fail)
      have hX3 : Has (((((W2.setCell ⟨w.heap.size, 13, none⟩ (.bool true)).setCell ⟨w.heap.size, 9, none⟩ (.bool false)).setCell ⟨w.heap.size, 10, none⟩ (.int .i64 0)).setCell ⟨w.heap.size, 11, none⟩ (.slice none 0 0)).setCell ⟨w.heap.size, 12, none⟩ (.slice none 0 0)) w.heap.size 41 (refC l ⟨true, Tally.st0, [], s.on⟩ none 0 none 0 C E.length cc) :=
        ((((hP.X.set_ 13 (.bool true)).set_ 9 (.bool false)).set_ 10 (.int .i64 0)).set_ 11 (.slice none 0 0)).set_ 12 (.slice none 0 0)
      have hK3 := (((((Kept.refl [w.heap.size] W2).setCell (p := ⟨w.heap.size, 13, none⟩) (.inl (by simp)) (.bool true)).setCell (p := ⟨w.heap.size, 9, none⟩) (.inl (by simp)) (.bool false)).setCell (p := ⟨w.heap.size, 10, none⟩) (.inl (by simp)) (.int .i64 0)).setCell (p := ⟨w.heap.size, 11, none⟩) (.inl (by simp)) (.slice none 0 0)).setCell (p := ⟨w.heap.size, 12, none⟩) (.inl (by simp)) (.slice none 0 0)
      have hP3 := hP.turn (s' := ⟨true, Tally.st0, [], s.on⟩) (A' := none) (ca' := 0) (B' := none) (cb' := 0) hX3 hK3 ⟨rfl, fun h0 => absurd h0 (by simp [Tally.st0])⟩ ⟨rfl, fun h0 => absurd h0 (by simp)⟩ (by show (0 : Int) ≤ 0 ∧ (0 : Int) ≤ 1099511627776; omega) (fun x hx => by cases hx) (fun x hx => by cases hx) (fun x hx => by cases hx) (fun x hx => by cases hx)
      clear hX3 hK3 hP m0 m1 x9 x10 x11 x12 x13 f9 f10 f11 f12 f13
      generalize ((((W2.setCell ⟨w.heap.size, 13, none⟩ (.bool true)).setCell ⟨w.heap.size, 9, none⟩ (.bool false)).setCell ⟨w.heap.size, 10, none⟩ (.int .i64 0)).setCell ⟨w.heap.size, 11, none⟩ (.slice none 0 0)).setCell ⟨w.heap.size, 12, none⟩ (.slice none 0 0) = W3 at *
      have m0 : W3.cell? ⟨w.heap.size + 1, 0, none⟩ = some (.int .i64 2) := hP3.M.cell 0
      have m1 : W3.cell? ⟨w.heap.size + 1, 1, none⟩ = some (.int .i64 a) := hP3.M.cell 1
      go_upto_region 15 with (fail)
      have hP := hP3
      have y1 : W3.cell? ⟨w.heap.size + 1, 1, none⟩ = some (.int .i64 a) := hP.M.cell 1
      go_wp2_with (first
        | (refine ref_ld rfl _ rfl _ rfl hP.X (ref_size _ _ _ _ _ _ _ _ _) ?_)
        | (go_at_call 23; (refine Calls.mono (by exact reflook_any l _ _ _ _ _ _ _ _ E _ _ _ _ C cc base a _ hm hP.R (Nat.le_trans hb hP.low.size) (by have := HE.out; omega) ((by show 0 ≤ 1000000; omega)) ((by show 0 ≤ 100000; omega))) ?_); rintro e W9 ⟨C9, c9, E9, hE9, rfl, hR9, hn9, hB9⟩; have HE9 := Lib.hid hE9; clear hE9; have hP9 := hP.grow hB9)
        | (refine ref_st rfl _ _ rfl _ _ rfl rfl hP9.Y (ref_size _ _ _ _ _ _ _ _ _) rfl (ref_one _ _ _ _ _ _ _ _ _) ?_))
      have hwp : w.heap.size + 1 + 1 < W3.heap.size := hP.Y.lt
      have hK9 := fun xs => kept_row W9 (w.heap.size + 1 + 1) xs
      have hfin := HT.out
      refine ref_ret rfl (w.heap.size + 1 + 1) rfl _ (hP9.Y.row _) (ref_size _ _ _ _ _ _ _ _ _) rfl ⟨_, _, _, _, C9, c9, E9, by rw [HE9.out, hfin.2]; rfl, by rw [hfin.1]; rfl, ?_, below_kept hP9.low (hK9 _) hP9.low.size (fun x hx => by simp at hx; omega)⟩
      rw [hfin.1]
      exact rf_row hR9 (hK9 _) (fun x hx hk => by have := hP.oa x hx; simp at hk; omega) (fun x hx hk => by have := hP.ob x hx; simp at hk; omega) (fun x hx hk => by
        simp at hk
        rcases hn9 x hx with h8 | h8
        · have := hP.oc x h8; omega
        · omega)
    by_cases k3 : k = 3
    · subst k3
      have ht : takeT s ⟨3, a, v, b1, b2, rr, bk⟩ = ⟨false, Tally.beginT a, [], s.on⟩ := by simp [takeT]
      rw [ht] at hs1' hs2'
      have HT := Lib.hid (And.intro hs1' hs2')
      clear hs1' hs2' ht hc
      go_enter Try.func13, Try.ntmps13
      go_upto_region 1 with (fail)
      clear hW2
      go_upto_region 7 with (fail)
      have hX3 : Has (((((W2.setCell ⟨w.heap.size, 13, none⟩ (.bool false)).setCell ⟨w.heap.size, 9, none⟩ (.bool false)).setCell ⟨w.heap.size, 10, none⟩ (.int .i64 0)).setCell ⟨w.heap.size, 11, none⟩ (.slice none 0 0)).setCell ⟨w.heap.size, 12, none⟩ (.slice none 0 0)) w.heap.size 41 (refC l ⟨false, Tally.st0, [], s.on⟩ none 0 none 0 C E.length cc) :=
        ((((hP.X.set_ 13 (.bool false)).set_ 9 (.bool false)).set_ 10 (.int .i64 0)).set_ 11 (.slice none 0 0)).set_ 12 (.slice none 0 0)
      have hK3 := (((((Kept.refl [w.heap.size] W2).setCell (p := ⟨w.heap.size, 13, none⟩) (.inl (by simp)) (.bool false)).setCell (p := ⟨w.heap.size, 9, none⟩) (.inl (by simp)) (.bool false)).setCell (p := ⟨w.heap.size, 10, none⟩) (.inl (by simp)) (.int .i64 0)).setCell (p := ⟨w.heap.size, 11, none⟩) (.inl (by simp)) (.slice none 0 0)).setCell (p := ⟨w.heap.size, 12, none⟩) (.inl (by simp)) (.slice none 0 0)
      have hP3 := hP.turn (s' := ⟨false, Tally.st0, [], s.on⟩) (A' := none) (ca' := 0) (B' := none) (cb' := 0) hX3 hK3 ⟨rfl, fun h0 => absurd h0 (by simp [Tally.st0])⟩ ⟨rfl, fun h0 => absurd h0 (by simp)⟩ (by show (0 : Int) ≤ 0 ∧ (0 : Int) ≤ 1099511627776; omega) (fun x hx => by cases hx) (fun x hx => by cases hx) (fun x hx => by cases hx) (fun x hx => by cases hx)
      clear hX3 hK3 hP m0 m1 x9 x10 x11 x12 x13 f9 f10 f11 f12 f13
      generalize ((((W2.setCell ⟨w.heap.size, 13, none⟩ (.bool false)).setCell ⟨w.heap.size, 9, none⟩ (.bool false)).setCell ⟨w.heap.size, 10, none⟩ (.int .i64 0)).setCell ⟨w.heap.size, 11, none⟩ (.slice none 0 0)).setCell ⟨w.heap.size, 12, none⟩ (.slice none 0 0) = W3 at *
      have m0 : W3.cell? ⟨w.heap.size + 1, 0, none⟩ = some (.int .i64 3) := hP3.M.cell 0
      have m1 : W3.cell? ⟨w.heap.size + 1, 1, none⟩ = some (.int .i64 a) := hP3.M.cell 1
      go_upto_region 9 with (go_at_call 21; ((with_reducible refine (hbg _).mono ?_); rintro e W4 ⟨rfl, hB4⟩; have hP4 := hP3.grow hB4; have d9 : W4.cell? ⟨w.heap.size, 9, none⟩ = some (.bool false) := hP4.X.cell 9; have d10 : W4.cell? ⟨w.heap.size, 10, none⟩ = some (.int .i64 0) := hP4.X.cell 10; have d11 : W4.cell? ⟨w.heap.size, 11, none⟩ = some (.slice none 0 0) := hP4.X.cell 11; have g9 := hP4.X.frozen 9; have g10 := hP4.X.frozen 10; have g11 := hP4.X.frozen 11))
      have hX5 : Has (((W4.setCell ⟨w.heap.size, 9, none⟩ (.bool true)).setCell ⟨w.heap.size, 10, none⟩ (.int .i64 (Tally.nearA a))).setCell ⟨w.heap.size, 11, none⟩ (.slice none 0 0)) w.heap.size 41 (refC l ⟨false, Tally.beginT a, [], s.on⟩ none 0 none 0 C E.length cc) :=
        ((hP4.X.set_ 9 (.bool true)).set_ 10 (.int .i64 (Tally.nearA a))).set_ 11 (.slice none 0 0)
      have hK5 := (((Kept.refl [w.heap.size] W4).setCell (p := ⟨w.heap.size, 9, none⟩) (.inl (by simp)) (.bool true)).setCell (p := ⟨w.heap.size, 10, none⟩) (.inl (by simp)) (.int .i64 (Tally.nearA a))).setCell (p := ⟨w.heap.size, 11, none⟩) (.inl (by simp)) (.slice none 0 0)
      have hP := hP4.turn (s' := ⟨false, Tally.beginT a, [], s.on⟩) (A' := none) (ca' := 0) hX5 hK5 ⟨rfl, fun h0 => absurd h0 (by simp [Tally.beginT])⟩ hP4.R.hs (Tally.nearA_bd a) (fun x hx => by cases hx) hP4.R.fb (fun x hx => by cases hx) hP4.ob
      clear hX5 hK5 hP4 d9 d10 d11 g9 g10 g11
      generalize ((W4.setCell ⟨w.heap.size, 9, none⟩ (.bool true)).setCell ⟨w.heap.size, 10, none⟩ (.int .i64 (Tally.nearA a))).setCell ⟨w.heap.size, 11, none⟩ (.slice none 0 0) = Wp at *
      clear hP3 m0 m1
      have m0 : Wp.cell? ⟨w.heap.size + 1, 0, none⟩ = some (.int .i64 3) := hP.M.cell 0
      go_upto_region 15 with (fail)
      have y1 : Wp.cell? ⟨w.heap.size + 1, 1, none⟩ = some (.int .i64 a) := hP.M.cell 1
      go_wp2_with (first
        | (refine ref_ld rfl _ rfl _ rfl hP.X (ref_size _ _ _ _ _ _ _ _ _) ?_)
        | (go_at_call 23; (refine Calls.mono (by exact reflook_any l _ _ _ _ _ _ _ _ E _ _ _ _ C cc base a _ hm hP.R (Nat.le_trans hb hP.low.size) (by have := HE.out; omega) ((by show 0 ≤ 1000000; omega)) ((by show 0 ≤ 100000; omega))) ?_); rintro e W9 ⟨C9, c9, E9, hE9, rfl, hR9, hn9, hB9⟩; have HE9 := Lib.hid hE9; clear hE9; have hP9 := hP.grow hB9)
        | (refine ref_st rfl _ _ rfl _ _ rfl rfl hP9.Y (ref_size _ _ _ _ _ _ _ _ _) rfl (ref_one _ _ _ _ _ _ _ _ _) ?_))
      have hwp : w.heap.size + 1 + 1 < Wp.heap.size := hP.Y.lt
      have hK9 := fun xs => kept_row W9 (w.heap.size + 1 + 1) xs
      have hfin := HT.out
      refine ref_ret rfl (w.heap.size + 1 + 1) rfl _ (hP9.Y.row _) (ref_size _ _ _ _ _ _ _ _ _) rfl ⟨_, _, _, _, C9, c9, E9, by rw [HE9.out, hfin.2]; rfl, by rw [hfin.1]; rfl, ?_, below_kept hP9.low (hK9 _) hP9.low.size (fun x hx => by simp at hx; omega)⟩
      rw [hfin.1]
      exact rf_row hR9 (hK9 _) (fun x hx hk => by have := hP.oa x hx; simp at hk; omega) (fun x hx hk => by have := hP.ob x hx; simp at hk; omega) (fun x hx hk => by
        simp at hk
        rcases hn9 x hx with h8 | h8
        · have := hP.oc x h8; omega
        · omega)
    have hd : (k = 4 ∨ k = 6) ∧ s.dark = false := by
      unfold counts at hc
      rw [decide_eq_true_eq] at hc
      rcases hc with h | h | h | h
      · exact absurd h k1
      · exact absurd h k2
      · exact absurd h k3
      · exact h
    obtain ⟨hk46, hd⟩ := hd
    rw [hd] at x13
    by_cases k6 : k = 6
    · subst k6
      have ht : takeT s ⟨6, a, v, b1, b2, rr, bk⟩ = ⟨s.dark, Tally.beatT s.t a [rr], s.h, s.on⟩ := by simp [takeT]
      rw [ht] at hs1' hs2'
      clear k1 k2 k3 hk46 hd
      have HT := Lib.hid (And.intro hs1' hs2')
      clear hs1' hs2' ht hc
      go_enter Try.func13, Try.ntmps13
      go_upto_region 1 with (fail)
      clear hW2
      have m5 : W2.cell? ⟨w.heap.size + 1, 5, none⟩ = some (.int .i64 rr) := hP.M.cell 5
      have hbe := Tally.refbeat_any s.t A ca a (some ⟨W2.heap.size, 0, none⟩) 1 1 [rr] (W2.alloc (.cells #[.int .i64 rr] 2)) (hP.R.rs.alloc _) (RI64.Vals.has (ys := [rr]) (tl := []) (Has.new W2 _ _)) (by have := HH.out.1; omega) (by omega)
      have hszY := hP.Y.lt
      dsimp only [stV, Tally.beatT] at hbe
      go_upto_region 15 with (go_at_call 22; ((with_reducible refine hbe.mono ?_); rintro e W4 ⟨A4, c4, rfl, hV4, hf4, hB4⟩; have hB5 := ((Below.refl _ W2).alloc (Nat.le_refl _) (.cells #[.int .i64 rr] 2)).trans (hB4.mono (by simp)); have hP4 := hP.grow hB5; have d9 : W4.cell? ⟨w.heap.size, 9, none⟩ = some (.bool s.t.begun) := hP4.X.cell 9; have d10 : W4.cell? ⟨w.heap.size, 10, none⟩ = some (.int .i64 s.t.last) := hP4.X.cell 10; have d11 : W4.cell? ⟨w.heap.size, 11, none⟩ = some (.slice A s.t.rs.length ca) := hP4.X.cell 11; have g9 := hP4.X.frozen 9; have g10 := hP4.X.frozen 10; have g11 := hP4.X.frozen 11))
      have hX5 : Has (((W4.setCell ⟨w.heap.size, 9, none⟩ (.bool true)).setCell ⟨w.heap.size, 10, none⟩ (.int .i64 (Tally.nearA a))).setCell ⟨w.heap.size, 11, none⟩ (.slice A4 (Tally.cntT [rr] s.t.rs).length c4)) w.heap.size 41 (refC l ⟨s.dark, Tally.beatT s.t a [rr], s.h, s.on⟩ A4 c4 B cb C E.length cc) :=
        ((hP4.X.set_ 9 (.bool true)).set_ 10 (.int .i64 (Tally.nearA a))).set_ 11 (.slice A4 (Tally.cntT [rr] s.t.rs).length c4)
      have hK5 := (((Kept.refl [w.heap.size] W4).setCell (p := ⟨w.heap.size, 9, none⟩) (.inl (by simp)) (.bool true)).setCell (p := ⟨w.heap.size, 10, none⟩) (.inl (by simp)) (.int .i64 (Tally.nearA a))).setCell (p := ⟨w.heap.size, 11, none⟩) (.inl (by simp)) (.slice A4 (Tally.cntT [rr] s.t.rs).length c4)
      have hwl := hP.low.size
      have hPP := hP4.turn (s' := ⟨s.dark, Tally.beatT s.t a [rr], s.h, s.on⟩) (A' := A4) (ca' := c4) hX5 hK5 hV4 hP4.R.hs (Tally.nearA_bd a) (fun x hx => ⟨by have := (hf4 x hx).1; simp at this; omega, (hf4 x hx).2⟩) hP4.R.fb (fun x hx => .inr (by have := (hf4 x hx).1; simp at this; omega)) hP4.ob
      clear hX5 hK5 hP4 d9 d10 d11 g9 g10 g11 hP
      have hP := hPP
      clear hPP
      generalize ((W4.setCell ⟨w.heap.size, 9, none⟩ (.bool true)).setCell ⟨w.heap.size, 10, none⟩ (.int .i64 (Tally.nearA a))).setCell ⟨w.heap.size, 11, none⟩ (.slice A4 (Tally.cntT [rr] s.t.rs).length c4) = Wp at *
      have y1 : Wp.cell? ⟨w.heap.size + 1, 1, none⟩ = some (.int .i64 a) := hP.M.cell 1
      go_wp2_with (first
        | (refine ref_ld rfl _ rfl _ rfl hP.X (ref_size _ _ _ _ _ _ _ _ _) ?_)
        | (go_at_call 23; (refine Calls.mono (by exact reflook_any l _ _ _ _ _ _ _ _ E _ _ _ _ C cc base a _ hm hP.R (Nat.le_trans hb hP.low.size) (by have := HE.out; omega) ((by have h1 := Tally.cnt_len [rr] s.t.rs; have h2 := HH.out.1; simp at h1; show (Tally.cntT [rr] s.t.rs).length ≤ 1000000; omega)) ((by have h2 := HH.out.2; show s.h.length ≤ 100000; omega))) ?_); rintro e W9 ⟨C9, c9, E9, hE9, rfl, hR9, hn9, hB9⟩; have HE9 := Lib.hid hE9; clear hE9; have hP9 := hP.grow hB9)
        | (refine ref_st rfl _ _ rfl _ _ rfl rfl hP9.Y (ref_size _ _ _ _ _ _ _ _ _) rfl (ref_one _ _ _ _ _ _ _ _ _) ?_))
      have hwp : w.heap.size + 1 + 1 < Wp.heap.size := hP.Y.lt
      have hK9 := fun xs => kept_row W9 (w.heap.size + 1 + 1) xs
      have hfin := HT.out
      refine ref_ret rfl (w.heap.size + 1 + 1) rfl _ (hP9.Y.row _) (ref_size _ _ _ _ _ _ _ _ _) rfl ⟨_, _, _, _, C9, c9, E9, by rw [HE9.out, hfin.2]; rfl, by rw [hfin.1]; rfl, ?_, below_kept hP9.low (hK9 _) hP9.low.size (fun x hx => by simp at hx; omega)⟩
      rw [hfin.1]
      exact rf_row hR9 (hK9 _) (fun x hx hk => by have := hP.oa x hx; simp at hk; omega) (fun x hx hk => by have := hP.ob x hx; simp at hk; omega) (fun x hx hk => by
        simp at hk
        rcases hn9 x hx with h8 | h8
        · have := hP.oc x h8; omega
        · omega)
    · have k4 : k = 4 := by
        rcases hk46 with h | h
        · exact h
        · exact absurd h k6
      subst k4
      exact refpush_four l s E A ca B cb C cc base a v b1 b2 rr bk w hm hR0.out hb HE.out HH.out.1 HH.out.2 hd
  · rw [Bool.not_eq_true] at hc
    have hs1 : stepT l s ⟨k, a, v, b1, b2, rr, bk⟩ = s := by unfold stepT; rw [hc]; rfl
    have hs2 : saysT l s ⟨k, a, v, b1, b2, rr, bk⟩ = [] := by unfold saysT; rw [hc]; rfl
    have HS := Lib.hid (And.intro hs1 hs2)
    clear hs1 hs2
    have hns : k < 1 ∨ 6 < k ∨ k = 5 ∨ (k = 4 ∧ s.dark = true) ∨ (k = 6 ∧ s.dark = true) := by
      unfold counts at hc
      rw [decide_eq_false_iff_not] at hc
      rcases Bool.eq_false_or_eq_true s.dark with hd | hd
      · by_cases h1 : k < 1
        · exact .inl h1
        by_cases h2 : 6 < k
        · exact .inr (.inl h2)
        have : k = 1 ∨ k = 2 ∨ k = 3 ∨ k = 4 ∨ k = 5 ∨ k = 6 := by omega
        rcases this with h | h | h | h | h | h
        · exact absurd (.inl h) hc
        · exact absurd (.inr (.inl h)) hc
        · exact absurd (.inr (.inr (.inl h))) hc
        · exact .inr (.inr (.inr (.inl ⟨h, hd⟩)))
        · exact .inr (.inr (.inl h))
        · exact .inr (.inr (.inr (.inr ⟨h, hd⟩)))
      · by_cases h1 : k < 1
        · exact .inl h1
        by_cases h2 : 6 < k
        · exact .inr (.inl h2)
        have : k = 1 ∨ k = 2 ∨ k = 3 ∨ k = 4 ∨ k = 5 ∨ k = 6 := by omega
        rcases this with h | h | h | h | h | h
        · exact absurd (.inl h) hc
        · exact absurd (.inr (.inl h)) hc
        · exact absurd (.inr (.inr (.inl h))) hc
        · exact absurd (.inr (.inr (.inr ⟨.inl h, hd⟩))) hc
        · exact .inr (.inr (.inl h))
        · exact absurd (.inr (.inr (.inr ⟨.inr h, hd⟩))) hc
    clear hc
    rcases hns with h | h | h | ⟨h, hd⟩ | ⟨h, hd⟩
    · skip
      go_enter Try.func13, Try.ntmps13
      go_upto_region 1 with (fail)
      clear hW2
      go_upto_region 2 with (fail)
      go_wp2_with (first
        | (refine ref_ld rfl _ rfl _ rfl hP.X (ref_size _ _ _ _ _ _ _ _ _) ?_)
        | (refine ref_st rfl _ _ rfl _ _ rfl rfl hP.Y (ref_size _ _ _ _ _ _ _ _ _) rfl (ref_one _ _ _ _ _ _ _ _ _) ?_))
      have hK9 := fun xs => kept_row W2 (w.heap.size + 1 + 1) xs
      refine ref_ret rfl (w.heap.size + 1 + 1) rfl _ (hP.Y.row _) (ref_size _ _ _ _ _ _ _ _ _) rfl ⟨A, ca, B, cb, C, cc, E, by rw [HS.out.2, List.append_nil], by rw [HS.out.1]; rfl, ?_, below_kept hP.low (hK9 _) hP.low.size (fun x hx => by simp at hx; omega)⟩
      rw [HS.out.1]
      exact rf_row hP.R (hK9 _) (fun x hx hk => by have := hP.oa x hx; simp at hk; omega) (fun x hx hk => by have := hP.ob x hx; simp at hk; omega) (fun x hx hk => by have := hP.oc x hx; simp at hk; omega)
    · have h1 : ¬ k < 1 := by omega
      go_enter Try.func13, Try.ntmps13
      go_upto_region 1 with (fail)
      clear hW2
      go_upto_region 2 with (fail)
      go_wp2_with (first
        | (refine ref_ld rfl _ rfl _ rfl hP.X (ref_size _ _ _ _ _ _ _ _ _) ?_)
        | (refine ref_st rfl _ _ rfl _ _ rfl rfl hP.Y (ref_size _ _ _ _ _ _ _ _ _) rfl (ref_one _ _ _ _ _ _ _ _ _) ?_))
      have hK9 := fun xs => kept_row W2 (w.heap.size + 1 + 1) xs
      refine ref_ret rfl (w.heap.size + 1 + 1) rfl _ (hP.Y.row _) (ref_size _ _ _ _ _ _ _ _ _) rfl ⟨A, ca, B, cb, C, cc, E, by rw [HS.out.2, List.append_nil], by rw [HS.out.1]; rfl, ?_, below_kept hP.low (hK9 _) hP.low.size (fun x hx => by simp at hx; omega)⟩
      rw [HS.out.1]
      exact rf_row hP.R (hK9 _) (fun x hx hk => by have := hP.oa x hx; simp at hk; omega) (fun x hx hk => by have := hP.ob x hx; simp at hk; omega) (fun x hx hk => by have := hP.oc x hx; simp at hk; omega)
    · subst h
      go_enter Try.func13, Try.ntmps13
      go_upto_region 1 with (fail)
      clear hW2
      go_upto_region 2 with (fail)
      go_wp2_with (first
        | (refine ref_ld rfl _ rfl _ rfl hP.X (ref_size _ _ _ _ _ _ _ _ _) ?_)
        | (refine ref_st rfl _ _ rfl _ _ rfl rfl hP.Y (ref_size _ _ _ _ _ _ _ _ _) rfl (ref_one _ _ _ _ _ _ _ _ _) ?_))
      have hK9 := fun xs => kept_row W2 (w.heap.size + 1 + 1) xs
      refine ref_ret rfl (w.heap.size + 1 + 1) rfl _ (hP.Y.row _) (ref_size _ _ _ _ _ _ _ _ _) rfl ⟨A, ca, B, cb, C, cc, E, by rw [HS.out.2, List.append_nil], by rw [HS.out.1]; rfl, ?_, below_kept hP.low (hK9 _) hP.low.size (fun x hx => by simp at hx; omega)⟩
      rw [HS.out.1]
      exact rf_row hP.R (hK9 _) (fun x hx hk => by have := hP.oa x hx; simp at hk; omega) (fun x hx hk => by have := hP.ob x hx; simp at hk; omega) (fun x hx hk => by have := hP.oc x hx; simp at hk; omega)
    · subst h
      rw [hd] at x13
      clear hd
      go_enter Try.func13, Try.ntmps13
      go_upto_region 1 with (fail)
      clear hW2
      go_upto_region 2 with (fail)
      go_wp2_with (first
        | (refine ref_ld rfl _ rfl _ rfl hP.X (ref_size _ _ _ _ _ _ _ _ _) ?_)
        | (refine ref_st rfl _ _ rfl _ _ rfl rfl hP.Y (ref_size _ _ _ _ _ _ _ _ _) rfl (ref_one _ _ _ _ _ _ _ _ _) ?_))
      have hK9 := fun xs => kept_row W2 (w.heap.size + 1 + 1) xs
      refine ref_ret rfl (w.heap.size + 1 + 1) rfl _ (hP.Y.row _) (ref_size _ _ _ _ _ _ _ _ _) rfl ⟨A, ca, B, cb, C, cc, E, by rw [HS.out.2, List.append_nil], by rw [HS.out.1]; rfl, ?_, below_kept hP.low (hK9 _) hP.low.size (fun x hx => by simp at hx; omega)⟩
      rw [HS.out.1]
      exact rf_row hP.R (hK9 _) (fun x hx hk => by have := hP.oa x hx; simp at hk; omega) (fun x hx hk => by have := hP.ob x hx; simp at hk; omega) (fun x hx hk => by have := hP.oc x hx; simp at hk; omega)
    · subst h
      rw [hd] at x13
      clear hd
      go_enter Try.func13, Try.ntmps13
      go_upto_region 1 with (fail)
      clear hW2
      go_upto_region 2 with (fail)
      go_wp2_with (first
        | (refine ref_ld rfl _ rfl _ rfl hP.X (ref_size _ _ _ _ _ _ _ _ _) ?_)
        | (refine ref_st rfl _ _ rfl _ _ rfl rfl hP.Y (ref_size _ _ _ _ _ _ _ _ _) rfl (ref_one _ _ _ _ _ _ _ _ _) ?_))
      have hK9 := fun xs => kept_row W2 (w.heap.size + 1 + 1) xs
      refine ref_ret rfl (w.heap.size + 1 + 1) rfl _ (hP.Y.row _) (ref_size _ _ _ _ _ _ _ _ _) rfl ⟨A, ca, B, cb, C, cc, E, by rw [HS.out.2, List.append_nil], by rw [HS.out.1]; rfl, ?_, below_kept hP.low (hK9 _) hP.low.size (fun x hx => by simp at hx; omega)⟩
      rw [HS.out.1]
      exact rf_row hP.R (hK9 _) (fun x hx hk => by have := hP.oa x hx; simp at hk; omega) (fun x hx hk => by have := hP.ob x hx; simp at hk; omega) (fun x hx hk => by have := hP.oc x hx; simp at hk; omega)
end Go.Proofs.Ytpmjgomfjfhfkaa.Rhythm
