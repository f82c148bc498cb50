/- AnnalKeeps over the kit. -/
import Derived.Test.YtjhpogiknhbegaaDoorAnnalLive
import Derived.Test.YtjhpogiknhbegaaDoorAnnalAllK
import Derived.Test.YtjhpogiknhbegaaDoorOwnAway
set_option linter.unusedSimpArgs false
set_option linter.unusedVariables false
namespace Go.Proofs.YtjhpogiknhbegaaDoor.Annal
open Go.RowKit Go.ChangeShapes
open Alarm (Ot otS noOt ot_cells)
/-- The annal in block b has had xs, the row V holds ys. -/
structure Kp (Ann : World → Nat → List Nat → List Ot → Prop) (w : World) (b : Nat) (S : List Nat) (xs ys : List Ot) (V : Value) (W : World) : Prop where
  ma : Ma Ann w b S xs W
  own : W.ownsRow w.heap.size 28 4 V ys.length (Row.flat otS ys)
  ap : ∀ k ∈ S, V.ownBlock ≠ some k
section
variable {Ann : World → Nat → List Nat → List Ot → Prop} (K : AnnalKit Ann) {w W W' : World} {b c : Nat} {S T : List Nat} {xs xs' ys zs : List Ot} {V V' : Value}
include K
theorem Kp.grow (h : Kp Ann w b S xs ys V W) (hB : Below W.heap.size W W') : Kp Ann w b S xs ys V W' := ⟨h.ma.later K hB, own_stays h.own hB, h.ap⟩
omit K in
theorem Kp.added (h : Kp Ann w b S xs ys V W) (hA : Ann W' b S xs') (hK : Kept S W W') : Kp Ann w b S xs' ys V W' := ⟨h.ma.kept hA hK, own_away h.own hK h.ap, h.ap⟩
theorem Kp.appended (h : Kp Ann w b S xs ys V W) (hO : W'.ownsRow w.heap.size 28 4 V' (ys.length + zs.length) (Row.flat otS (ys ++ zs))) (hg : W.grownBy W' V.ownBlock) (hv : V'.ownBlock = V.ownBlock ∨ V'.ownBlock = some W.heap.size) : Kp Ann w b S xs (ys ++ zs) V' W' := by
  have hK := Kept.of_grown hg
  exact ⟨⟨K.kept h.ma.ann hK (fun k hk hm => h.ap k hk (Option.mem_toList.1 hm)), below_kept h.ma.below hK h.ma.below.size (own_in h.own), h.ma.far⟩, by rw [List.length_append]; exact hO, away_grown (K.lt h.ma.ann).2 h.ap hv⟩
omit K in
theorem Kp.cloned (h : Kp Ann w b S xs ys V W) (hA : Ann W' c T xs) (hf : ∀ k ∈ T, W.heap.size ≤ k) (hB : Below W.heap.size W W') : Kp Ann w c T xs ys V W' :=
  ⟨⟨hA, h.ma.below.trans (hB.mono h.ma.below.size), fun k hk => Nat.le_trans h.ma.below.size (hf k hk)⟩, own_stays h.own hB, fun k hk he => by have := (own_block h.own k he).2; have := hf k hk; omega⟩
theorem Kp.beside (h : Kp Ann w b S xs ys V W) (hK : Kept T W W') (hT : ∀ k ∈ T, w.heap.size ≤ k) (hne : ∀ k ∈ S, k ∉ T) (hap : ∀ k ∈ T, V.ownBlock ≠ some k) : Kp Ann w b S xs ys V W' :=
  ⟨h.ma.beside K hK hT hne, own_away h.own hK hap, h.ap⟩
omit K in
theorem Kp.vals {A : Option Addr} {n c : Nat} (h : Kp Ann w b S xs ys (.slice A n c) W) : n = ys.length ∧ Row.Vals otS W A n ys ∧ n ≤ c ∧ c ≤ 9223372036854775807 := by
  obtain ⟨A', c', he, h1, h2, h3, -⟩ := Row.Vals.own (S := otS) h.own
  injection he with e1 e2 e3
  subst e1 e3
  exact ⟨e2, by rw [e2]; exact h3, by omega, h2⟩
end
theorem two_new (W : World) (t : TypeId) (m o : Ot) : Row.Vals otS (W.alloc (.cells #[.int .i64 m.1, .int .i64 m.2.1, .int .i64 m.2.2.1, .int .i64 m.2.2.2, .int .i64 o.1, .int .i64 o.2.1, .int .i64 o.2.2.1, .int .i64 o.2.2.2] t)) (some ⟨W.heap.size, 0, none⟩) 2 [m, o] :=
  Row.Vals.has (S := otS) (ys := [m, o]) (tl := []) (Has.new _ _ _)
set_option maxRecDepth 100000 in
set_option maxHeartbeats 4000000 in
theorem keeps_k {Ann : World → Nat → List Nat → List Ot → Prop} (K : AnnalKit Ann) (a0 : Option Addr) (len0 cap0 : Nat) (i n kd : Int) (w : World) (hTb : Tab w) (w0 : Row.IsFlats otS OtOk w a0 len0 cap0) (hi : -9223372036854775808 ≤ i ∧ i ≤ 9223372036854775807) (hn : -9223372036854775808 ≤ n ∧ n ≤ 9223372036854775807) :
    Calls Tryd.prog 3 #[.slice a0 len0 cap0, .int .i64 i, .int .i64 n, .int .i64 kd] w fun e w' => e = .returned (.bool true) ∧ Below w.heap.size w w' := by
  have hli := fun W (hB : Below w.heap.size w W) => live_k K W (hTb.below hB)
  have hl0 : len0 ≤ cap0 ∧ cap0 ≤ 9223372036854775807 := by
    rcases w0 with ⟨_, rfl, rfl⟩ | ⟨x, _, h1, h2, _⟩ <;> omega
  obtain ⟨m, hm⟩ : ∃ m, min len0 12 = m := ⟨_, rfl⟩
  have hmin : min (len0 : Int) 12 = (m : Int) := by omega
  have hmb : m ≤ len0 ∧ m ≤ cap0 ∧ m ≤ 12 := by omega
  have hmz : (m : Int) ≤ (len0 : Int) ∧ (m : Int) ≤ (cap0 : Int) ∧ (m : Int) ≤ 12 := by omega
  have hpc : ∀ j, j < m → ∃ x A L C ys, a0 = some x ∧ w.cell? (x.add j) = some (.slice A L C) ∧ Row.Vals otS w A L ys ∧ L ≤ C ∧ C ≤ 9223372036854775807 ∧ ∀ y, 0 < L → A = some y → y.block < w.heap.size := fun j hj => by
    rcases w0 with ⟨_, rfl, _⟩ | ⟨x, rfl, h1, h2, h3⟩
    · omega
    · obtain ⟨A, L, C, ys, h4, h5⟩ := h3 j (by omega)
      exact ⟨x, A, L, C, ys, rfl, h4, h5.row, h5.le, h5.max, fun y h hy => h5.far h y hy⟩
  have HPC := Lib.hid hpc
  have hnew := K.new_any w hTb
  have hInfo : (Tryd.prog.info? 28).map (fun i => (i.zero, i.size, i.bytes)) = some (some (.agg #[.int .i64 0, .int .i64 0, .int .i64 0, .int .i64 0]), 4, 32) := by kernel_rfl
  have HInfo := Lib.hid hInfo
  clear hpc w0 hm hInfo hTb
  go_enter Tryd.func3, Tryd.ntmps3
  go_wp2_with (go_at_call 5; ((with_reducible refine hnew.mono ?_); rintro e W1 ⟨b, S, rfl, hA1, hf1, hB1⟩; have hP1 : Kp Ann w b S [] [] (.slice none 0 0) W1 := ⟨⟨hA1, hB1, hf1⟩, Row.own_none (S := otS) _ _ _, (fun k _ h => by cases h)⟩; clear hA1 hf1 hB1 hnew))
  go_loopw [9, 10, 24] (fun d v i wr => ∃ (j b : Nat) (S : List Nat) (xs : List Ot), j ≤ m ∧ d = .pointer (some ⟨b, 0, none⟩) ∧ i = .int .i64 (j : Nat) ∧ xs.length ≤ 40 * j ∧ Kp Ann w b S xs xs v wr) (fun _ _ i _ => m - (intOf i).toNat)
  case atStart => exact ⟨0, b, S, [], by omega, rfl, rfl, by simp, hP1⟩
  case round =>
    clear hP1
    obtain ⟨j, b, S, xs, hj, rfl, rfl, hx40, hP⟩ := hrel
    by_cases hjm : j < m
    · obtain ⟨x, A, L, C, ys0, rfl, hcx, hvp, hLC, hC63, hfar⟩ := HPC.out j hjm
      obtain ⟨p, hp⟩ : ∃ p, min L 40 = p := ⟨_, rfl⟩
      have hmin2 : min (L : Int) 40 = (p : Int) := by omega
      have hpb : p ≤ L ∧ p ≤ C ∧ p ≤ 40 := by omega
      have hpz : (p : Int) ≤ (L : Int) ∧ (p : Int) ≤ (C : Int) ∧ (p : Int) ≤ 40 := by omega
      have hvq := hvp.take p hpb.1
      generalize ys0.take p = ys at *
      have hyl := hvq.len_
      have hcr := (hP.ma.below.cell (World.block_lt_of_cell? _ _ hcx)).trans hcx
      have hVp : ∀ W : World, Below w.heap.size w W → Row.Vals otS W A p ys := fun W hB => hvq.below hB
      have hfarp : 0 < p → ∀ y, A = some y → y.block < w.heap.size := fun h0 y hy => hfar y (by omega) hy
      have hjz : (j : Int) < (m : Int) := by omega
      obtain ⟨q0, hq0⟩ : ∃ q0, xs.length = q0 := ⟨_, rfl⟩
      have hO0 := hP.own
      rw [hq0] at hO0
      obtain ⟨A0, c0, rfl, -⟩ := Row.Vals.own (S := otS) hO0
      clear hO0
      have hadd := K.add_any wr b S xs A p C ys hP.ma.ann (hVp wr hP.ma.below) hpb.2.1 hC63 (by omega) (fun h0 y hy hm => by have h1 := hfarp h0 y hy; have h2 := hP.ma.far _ hm; omega)
      obtain ⟨zs, hzs⟩ : ∃ zs, xs ++ ys = zs := ⟨_, rfl⟩
      rw [hzs] at hadd
      have hzl : zs.length = q0 + p := by rw [← hzs, List.length_append, hq0, hyl]
      have hz480 : zs.length ≤ 40 * (j + 1) := by omega
      obtain ⟨N, hN⟩ : ∃ N, zs.length = N := ⟨_, rfl⟩
      have hqN : q0 + p = N := by omega
      have hN480 : N ≤ 480 := by omega
      have HQ0 := Lib.hid hq0
      have HYL := Lib.hid hyl
      have HZS := Lib.hid hzs
      have HNL := Lib.hid hN
      have hnp : q0 + p ≤ 1048576 := by omega
      have hkp := fun A c W (hv : Row.Vals otS W A N zs) (h1 : N ≤ c) (h2 : c ≤ 9223372036854775807) => refkept_any A N c zs W hv h1 h2
      unfold PartIs at hkp
      clear hq0 hyl hzs hN hzl
      clear hcx hvp hfar hp hLC
      go_wp2_with (first
        | (go_at_call 6; ((with_reducible refine hadd.mono ?_); rintro e W1 ⟨rfl, hA1, hK1⟩; have hP1 := hP.added hA1 hK1; have hO1 := hP1.own; rw [HQ0.out] at hO1; clear hA1 hK1 hP hadd))
        | (at_builtin; go_loud (refine Row.wpList_append (S := otS) rfl (.tmp 36) (.tmp 37) _ rfl w.heap.size 28 _ 32 (by omega) Tryd.underlying25 HInfo.out (by kernel_rfl) (.slice A0 q0 c0) q0 xs rfl hO1 A p C ys rfl (hVp _ hP1.ma.below) hnp hP1.ma.below.size ?_; intro v4 W4 hO4 hg4 hat4)))
      have hP4 := hP1.appended K (zs := ys) (by rw [HQ0.out, HYL.out]; exact hO4) hg4 hat4
      rw [HZS.out] at hP4
      have hO5 := hP4.own
      rw [HNL.out] at hO5
      obtain ⟨A4, c4, rfl, -⟩ := Row.Vals.own (S := otS) hO5
      clear hO5
      have hcl := K.clone_any W4 b S zs hP4.ma.ann
      have hSl := (K.lt hP4.ma.ann).2
      clear hP1 hO1 hO4 hg4 hat4
      go_wp2_with (first
        | (go_at_call 7; ((with_reducible refine hcl.mono ?_); rintro e W5 ⟨c, T, rfl, hA5, hf5, hB5⟩; have hP5 := hP4.cloned hA5 hf5 hB5; have hQ5 := hP4.ma.later K hB5; have hap := hP4.ap; have hTS : ∀ k ∈ T, k ∉ S := (fun k hk hm => by have h1 := hf5 k hk; have h2 := hSl k hm; omega); clear hP4 hcl hA5 hf5 hSl)))
      have hP6 := hP5.grow K ((Below.refl _ W5).alloc (Nat.le_refl _) (.cells #[.int .i64 5, .int .i64 0, .int .i64 0, .int .i64 0, .int .i64 kd, .int .i64 0, .int .i64 0, .int .i64 0] 28))
      have hQ6 := hQ5.alloc K (.cells #[.int .i64 5, .int .i64 0, .int .i64 0, .int .i64 0, .int .i64 kd, .int .i64 0, .int .i64 0, .int .i64 0] 28)
      have hSl5 := (K.lt hQ5.ann).2
      have had6 := K.add_any _ b S zs (some ⟨W5.heap.size, 0, none⟩) 2 2 [(5, 0, 0, 0), (kd, 0, 0, 0)] hQ6.ann (two_new W5 28 (5, 0, 0, 0) (kd, 0, 0, 0)) (by omega) (by omega) (by rw [HNL.out]; omega) (fun _ y hy hm => by injection hy with hy; subst hy; exact Nat.lt_irrefl _ (hSl5 _ hm))
      obtain ⟨kl, hkl⟩ : ∃ kl, (keptA zs).length = kl := ⟨_, rfl⟩
      have hkl2 : kl = min N 64 := by rw [← hkl, kept_len, HNL.out]
      rw [hkl] at hkp
      have hat := fun W (h : Kp Ann w c T zs zs (.slice A4 N c4) W) => K.at_any W c T zs i h.ma.ann
      have HAT := Lib.hid (show (isA zs i = true → (0 ≤ i ∧ i < (kl : Int)) ∧ atA zs i = (keptA zs).getD i.toNat noOt) ∧ (isA zs i = false → ¬ (0 ≤ i ∧ i < (kl : Int)) ∧ atA zs i = noOt) from by
        unfold isA atA
        rw [hkl]
        constructor
        · intro h; have h2 := of_decide_eq_true h; exact ⟨h2, if_pos h2⟩
        · intro h; have h2 := of_decide_eq_false h; exact ⟨h2, if_neg h2⟩)
      generalize atA zs i = av at *
      generalize isA zs i = ok at *
      obtain ⟨v0, v1, v2, v3⟩ := av
      dsimp only at hat
      have HKL := Lib.hid hkl
      have HKL2 := Lib.hid hkl2
      clear hP5 hQ5 hSl5 hkl hkl2
      go_wp2_with (first
        | (go_at_call 6; ((with_reducible refine had6.mono ?_); rintro e W7 ⟨rfl, hA7, hK7⟩; have hP7 := hP6.beside K hK7 hQ6.far hTS hap; have hvv := hP7.vals; have hkp7 := hkp _ _ _ hvv.2.1 hvv.2.2.1 hvv.2.2.2; clear hP6 hQ6 hA7 hK7 had6 hkp hvv))
        | (go_at_call 8; ((with_reducible refine hkp7.mono ?_); rintro e W8 ⟨E, d8, rfl, hd1, hd2, hVE, hfE, rfl⟩; have hat8 := hat _ hP7; clear hkp7 hat))
        | (go_at_call 9; ((with_reducible refine hat8.mono ?_); rintro e W9 ⟨rfl, hB9⟩; have hP9 := hP7.grow K hB9; have hVE9 := hVE.below hB9; clear hat8 hP7 hVE)))
      have hP10 := hP9.grow K ((Below.refl _ W9).alloc (Nat.le_refl _) (.cells #[.int .i64 v0, .int .i64 v1, .int .i64 v2, .int .i64 v3] 28))
      have hX10 := Has.new W9 28 #[.int .i64 v0, .int .i64 v1, .int .i64 v2, .int .i64 v3]
      have hVE10 := hVE9.alloc (.cells #[.int .i64 v0, .int .i64 v1, .int .i64 v2, .int .i64 v3] 28)
      clear hP9 hVE9 hB9
      generalize hz9 : W9.heap.size = z9 at *
      generalize W9.alloc (.cells #[.int .i64 v0, .int .i64 v1, .int .i64 v2, .int .i64 v3] 28) = W10 at *
      have hln := fun W (h : Kp Ann w c T zs zs (.slice A4 N c4) W) => K.len_any W c T zs h.ma.ann
      rw [HKL.out] at hln
      have hdr := fun W (h : Kp Ann w c T zs zs (.slice A4 N c4) W) => K.dropped_any W c T zs h.ma.ann
      rw [HKL.out, HNL.out] at hdr
      have hkn : kl ≤ N ∧ kl ≤ 64 := by have := HKL2.out; omega
      obtain ⟨dq, hdq⟩ : ∃ dq, N - kl = dq := ⟨_, rfl⟩
      rw [hdq] at hdr
      have hdz : (N : Int) - (kl : Int) = (dq : Int) := by omega
      have hdw : IntKind.i64.wrap (dq : Int) = (dq : Int) := by rw [IntKind.wrap_i64]; omega
      have hls := fun W (h : Kp Ann w c T zs zs (.slice A4 N c4) W) => K.last_any W c T zs n h.ma.ann hn
      have hrl := fun W (hv : Row.Vals otS W A4 N zs) h1 h2 => reflast_any A4 N c4 zs n W hv h1 h2 (by omega) hn
      unfold PartIs at hrl
      have hlb : (lastA zs n).length ≤ 64 := by rw [last_len, HKL.out]; omega
      have hl2 := fun W (h : Kp Ann w c T zs zs (.slice A4 N c4) W) => K.last_any W c T zs (kl : Nat) h.ma.ann ⟨by omega, by omega⟩
      rw [last_all zs (kl : Nat) (by rw [HKL.out]; exact Int.le_refl _), HKL.out] at hl2
      have hct := fun W (h : Kp Ann w c T zs zs (.slice A4 N c4) W) => K.count_any W c T zs kd h.ma.ann
      have hrc := fun W (hv : Row.Vals otS W A4 N zs) => refcount_any A4 N c4 zs kd W hv (by omega)
      generalize countA zs kd = ck at *
      generalize lastA zs n = ls at *
      generalize ls.length = ln at *
      clear hdq
      have hg := fun (W : World) (x y : Operand) => Alarm.guard_ot W x y v0 v1 v2 v3 v0 v1 v2 v3
      have hc : ∀ W : World, (binOp .neq 28 (.agg #[.int .i64 v0, .int .i64 v1, .int .i64 v2, .int .i64 v3]) (.agg #[.int .i64 v0, .int .i64 v1, .int .i64 v2, .int .i64 v3])).run Tryd.prog W = .ok (.bool false) W := fun W => by rw [Alarm.neq_ot]; simp
      by_cases hok : ok = true
      · subst hok
        obtain ⟨⟨hi0, hi1⟩, hav⟩ := HAT.out.1 rfl
        obtain ⟨k, rfl⟩ := Int.eq_ofNat_of_zero_le hi0
        have hkk : k < kl := by omega
        obtain ⟨y, rfl, -⟩ := hVE10.cells (by omega)
        obtain ⟨y0, y1, y2, y3⟩ := ot_cells hVE10 k hkk
        rw [Int.toNat_natCast] at hav
        rw [← hav] at y0 y1 y2 y3
        dsimp only at y0 y1 y2 y3
        refine Reg.begin_ (S := fun W => W.cell? ⟨z9, 0, none⟩ = some (.int .i64 v0) ∧ W.cell? ⟨z9, 1, none⟩ = some (.int .i64 v1) ∧ W.cell? ⟨z9, 2, none⟩ = some (.int .i64 v2) ∧ W.cell? ⟨z9, 3, none⟩ = some (.int .i64 v3) ∧ W.cell? (y.add (k * 4)) = some (.int .i64 v0) ∧ W.cell? ⟨(y.add (k * 4)).block, (y.add (k * 4)).off + 1, none⟩ = some (.int .i64 v1) ∧ W.cell? ⟨(y.add (k * 4)).block, (y.add (k * 4)).off + 2, none⟩ = some (.int .i64 v2) ∧ W.cell? ⟨(y.add (k * 4)).block, (y.add (k * 4)).off + 3, none⟩ = some (.int .i64 v3)) (by kernel_rfl) (by exact ⟨hX10.cell 0, hX10.cell 1, hX10.cell 2, hX10.cell 3, y0, y1, y2, y3⟩) (fun hHeld => ?_)
        refine Reg.take (i := 0) (v := ?v1) rfl (by kernel_rfl) (by kernel_rfl) (by kernel_rfl) (by rfl) ?hv1 (by assumption) ?rest1
        case hv1 => first | (intro w hSw; (try dsimp only at hSw); go_simp; done) | (intro w hSw; (try dsimp only at hSw); go_simp; with_reducible rfl)
        (try simp only [Act.put, List.setIfInBounds_toArray, List.set_cons_zero, List.set_cons_succ])
        refine Reg.take (i := 1) (v := ?v2) rfl (by kernel_rfl) (by kernel_rfl) (by kernel_rfl) (by rfl) ?hv2 (by assumption) ?rest2
        case hv2 => first | (intro w hSw; (try dsimp only at hSw); go_simp; done) | (intro w hSw; (try dsimp only at hSw); go_simp; with_reducible rfl)
        (try simp only [Act.put, List.setIfInBounds_toArray, List.set_cons_zero, List.set_cons_succ])
        refine Reg.take (i := 2) (v := ?v3) rfl (by kernel_rfl) (by kernel_rfl) (by kernel_rfl) (by rfl) ?hv3 (by assumption) ?rest3
        case hv3 => first | (intro w hSw; (try dsimp only at hSw); go_simp; done) | (intro w hSw; (try dsimp only at hSw); go_simp; with_reducible rfl)
        (try simp only [Act.put, List.setIfInBounds_toArray, List.set_cons_zero, List.set_cons_succ])
        refine Reg.take (i := 3) (v := ?v4) rfl (by kernel_rfl) (by kernel_rfl) (by kernel_rfl) (by rfl) ?hv4 (by assumption) ?rest4
        case hv4 => first | (intro w hSw; (try dsimp only at hSw); go_simp; done) | (intro w hSw; (try dsimp only at hSw); go_simp; with_reducible rfl)
        (try simp only [Act.put, List.setIfInBounds_toArray, List.set_cons_zero, List.set_cons_succ])
        refine Reg.take (i := 4) (v := ?v5) rfl (by kernel_rfl) (by kernel_rfl) (by kernel_rfl) (by rfl) ?hv5 (by assumption) ?rest5
        case hv5 => first | (intro w hSw; (try dsimp only at hSw); go_simp; done) | (intro w hSw; (try dsimp only at hSw); go_simp; with_reducible rfl)
        (try simp only [Act.put, List.setIfInBounds_toArray, List.set_cons_zero, List.set_cons_succ])
        refine Reg.take (i := 5) (v := ?v6) rfl (by kernel_rfl) (by kernel_rfl) (by kernel_rfl) (by rfl) ?hv6 (by assumption) ?rest6
        case hv6 => first | (intro w hSw; (try dsimp only at hSw); go_simp; done) | (intro w hSw; (try dsimp only at hSw); go_simp; with_reducible rfl)
        (try simp only [Act.put, List.setIfInBounds_toArray, List.set_cons_zero, List.set_cons_succ])
        refine Reg.take (i := 6) (v := ?v7) rfl (by kernel_rfl) (by kernel_rfl) (by kernel_rfl) (by rfl) ?hv7 (by assumption) ?rest7
        case hv7 => first | (intro w hSw; (try dsimp only at hSw); go_simp; done) | (intro w hSw; (try dsimp only at hSw); go_simp; with_reducible rfl)
        (try simp only [Act.put, List.setIfInBounds_toArray, List.set_cons_zero, List.set_cons_succ])
        refine Reg.take (i := 7) (v := ?v8) rfl (by kernel_rfl) (by kernel_rfl) (by kernel_rfl) (by rfl) ?hv8 (by assumption) ?rest8
        case hv8 => first | (intro w hSw; (try dsimp only at hSw); go_simp; done) | (intro w hSw; (try dsimp only at hSw); go_simp; with_reducible rfl)
        (try simp only [Act.put, List.setIfInBounds_toArray, List.set_cons_zero, List.set_cons_succ])
        refine Reg.take (i := 8) (v := ?v9) rfl (by kernel_rfl) (by kernel_rfl) (by kernel_rfl) (by rfl) ?hv9 (by assumption) ?rest9
        case hv9 => first | (intro w hSw; (try dsimp only at hSw); go_simp; done) | (intro w hSw; (try dsimp only at hSw); go_simp; with_reducible rfl)
        (try simp only [Act.put, List.setIfInBounds_toArray, List.set_cons_zero, List.set_cons_succ])
        refine Reg.take (i := 9) (v := ?v10) rfl (by kernel_rfl) (by kernel_rfl) (by kernel_rfl) (by rfl) ?hv10 (by assumption) ?rest10
        case hv10 => first | (intro w hSw; (try dsimp only at hSw); go_simp; done) | (intro w hSw; (try dsimp only at hSw); go_simp; with_reducible rfl)
        (try simp only [Act.put, List.setIfInBounds_toArray, List.set_cons_zero, List.set_cons_succ])
        refine Reg.take (i := 10) (v := ?v11) rfl (by kernel_rfl) (by kernel_rfl) (by kernel_rfl) (by rfl) ?hv11 (by assumption) ?rest11
        case hv11 => first | (intro w hSw; (try dsimp only at hSw); go_simp; done) | (intro w hSw; (try dsimp only at hSw); go_simp; with_reducible rfl)
        (try simp only [Act.put, List.setIfInBounds_toArray, List.set_cons_zero, List.set_cons_succ])
        refine Reg.take (i := 11) (v := ?v12) rfl (by kernel_rfl) (by kernel_rfl) (by kernel_rfl) (by rfl) ?hv12 (by assumption) ?rest12
        case hv12 => first | (intro w hSw; (try dsimp only at hSw); go_simp; done) | (intro w hSw; (try dsimp only at hSw); go_simp; with_reducible rfl)
        (try simp only [Act.put, List.setIfInBounds_toArray, List.set_cons_zero, List.set_cons_succ])
        refine Reg.take (i := 12) (v := ?v13) rfl (by kernel_rfl) (by kernel_rfl) (by kernel_rfl) (by rfl) ?hv13 (by assumption) ?rest13
        case hv13 => first | (intro w hSw; (try dsimp only at hSw); go_simp; done) | (intro w hSw; (try dsimp only at hSw); go_simp; with_reducible rfl)
        (try simp only [Act.put, List.setIfInBounds_toArray, List.set_cons_zero, List.set_cons_succ])
        refine Reg.take (i := 13) (v := ?v14) rfl (by kernel_rfl) (by kernel_rfl) (by kernel_rfl) (by rfl) ?hv14 (by assumption) ?rest14
        case hv14 => first | (intro w hSw; (try dsimp only at hSw); go_simp; done) | (intro w hSw; (try dsimp only at hSw); go_simp; with_reducible rfl)
        (try simp only [Act.put, List.setIfInBounds_toArray, List.set_cons_zero, List.set_cons_succ])
        refine Reg.take (i := 14) (v := ?v15) rfl (by kernel_rfl) (by kernel_rfl) (by kernel_rfl) (by rfl) ?hv15 (by assumption) ?rest15
        case hv15 => first | (intro w hSw; (try dsimp only at hSw); go_simp; done) | (intro w hSw; (try dsimp only at hSw); go_simp; with_reducible rfl)
        (try simp only [Act.put, List.setIfInBounds_toArray, List.set_cons_zero, List.set_cons_succ])
        refine Reg.take (i := 15) (v := ?v16) rfl (by kernel_rfl) (by kernel_rfl) (by kernel_rfl) (by rfl) ?hv16 (by assumption) ?rest16
        case hv16 => first | (intro w hSw; (try dsimp only at hSw); go_simp; done) | (intro w hSw; (try dsimp only at hSw); go_simp; with_reducible rfl)
        (try simp only [Act.put, List.setIfInBounds_toArray, List.set_cons_zero, List.set_cons_succ])
        refine Reg.take (i := 16) (v := ?v17) rfl (by kernel_rfl) (by kernel_rfl) (by kernel_rfl) (by rfl) ?hv17 (by assumption) ?rest17
        case hv17 => first | (intro w hSw; (try dsimp only at hSw); go_simp; done) | (intro w hSw; (try dsimp only at hSw); go_simp; with_reducible rfl)
        (try simp only [Act.put, List.setIfInBounds_toArray, List.set_cons_zero, List.set_cons_succ])
        refine Reg.take (i := 17) (v := ?v18) rfl (by kernel_rfl) (by kernel_rfl) (by kernel_rfl) (by rfl) ?hv18 (by assumption) ?rest18
        case hv18 => first | (intro w hSw; (try dsimp only at hSw); go_simp; done) | (intro w hSw; (try dsimp only at hSw); go_simp; with_reducible rfl)
        (try simp only [Act.put, List.setIfInBounds_toArray, List.set_cons_zero, List.set_cons_succ])
        refine Reg.take (i := 18) (v := ?v19) rfl (by kernel_rfl) (by kernel_rfl) (by kernel_rfl) (by rfl) ?hv19 (by assumption) ?rest19
        case hv19 => first | (intro w hSw; (try dsimp only at hSw); go_simp; done) | (intro w hSw; (try dsimp only at hSw); go_simp; with_reducible rfl)
        (try simp only [Act.put, List.setIfInBounds_toArray, List.set_cons_zero, List.set_cons_succ])
        refine Reg.take (i := 19) (v := ?v20) rfl (by kernel_rfl) (by kernel_rfl) (by kernel_rfl) (by rfl) ?hv20 (by assumption) ?rest20
        case hv20 => first | (intro w hSw; (try dsimp only at hSw); go_simp; done) | (intro w hSw; (try dsimp only at hSw); go_simp; with_reducible rfl)
        (try simp only [Act.put, List.setIfInBounds_toArray, List.set_cons_zero, List.set_cons_succ])
        refine Reg.take (i := 20) (v := ?v21) rfl (by kernel_rfl) (by kernel_rfl) (by kernel_rfl) (by rfl) ?hv21 (by assumption) ?rest21
        case hv21 => first | (intro w hSw; (try dsimp only at hSw); go_simp; done) | (intro w hSw; (try dsimp only at hSw); go_simp; with_reducible rfl)
        (try simp only [Act.put, List.setIfInBounds_toArray, List.set_cons_zero, List.set_cons_succ])
        refine Reg.take (i := 21) (v := ?v22) rfl (by kernel_rfl) (by kernel_rfl) (by kernel_rfl) (by rfl) ?hv22 (by assumption) ?rest22
        case hv22 => first | (intro w hSw; (try dsimp only at hSw); go_simp; done) | (intro w hSw; (try dsimp only at hSw); go_simp; with_reducible rfl)
        (try simp only [Act.put, List.setIfInBounds_toArray, List.set_cons_zero, List.set_cons_succ])
        refine Reg.take (i := 22) (v := ?v23) rfl (by kernel_rfl) (by kernel_rfl) (by kernel_rfl) (by rfl) ?hv23 (by assumption) ?rest23
        case hv23 => first | (intro w hSw; (try dsimp only at hSw); go_simp; done) | (intro w hSw; (try dsimp only at hSw); go_simp; with_reducible rfl)
        (try simp only [Act.put, List.setIfInBounds_toArray, List.set_cons_zero, List.set_cons_succ])
        refine Reg.take (i := 23) (v := ?v24) rfl (by kernel_rfl) (by kernel_rfl) (by kernel_rfl) (by rfl) ?hv24 (by assumption) ?rest24
        case hv24 => first | (intro w hSw; (try dsimp only at hSw); go_simp; done) | (intro w hSw; (try dsimp only at hSw); go_simp; with_reducible rfl)
        (try simp only [Act.put, List.setIfInBounds_toArray, List.set_cons_zero, List.set_cons_succ])
        refine Reg.take (i := 24) (v := ?v25) rfl (by kernel_rfl) (by kernel_rfl) (by kernel_rfl) (by rfl) ?hv25 (by assumption) ?rest25
        case hv25 => first | (intro w hSw; (try dsimp only at hSw); go_simp; done) | (intro w hSw; (try dsimp only at hSw); go_simp; with_reducible rfl)
        (try simp only [Act.put, List.setIfInBounds_toArray, List.set_cons_zero, List.set_cons_succ])
        refine Reg.skip (i := 25) rfl (by kernel_rfl) (by kernel_rfl) (by kernel_rfl) (by rfl) (by assumption) ?_
        (try simp only [Act.put, List.setIfInBounds_toArray, List.set_cons_zero, List.set_cons_succ])
        refine Reg.skip (i := 26) rfl (by kernel_rfl) (by kernel_rfl) (by kernel_rfl) (by rfl) (by assumption) ?_
        (try simp only [Act.put, List.setIfInBounds_toArray, List.set_cons_zero, List.set_cons_succ])
        refine Reg.skip (i := 27) rfl (by kernel_rfl) (by kernel_rfl) (by kernel_rfl) (by rfl) (by assumption) ?_
        (try simp only [Act.put, List.setIfInBounds_toArray, List.set_cons_zero, List.set_cons_succ])
        refine Reg.take (i := 28) (v := ?v26) rfl (by kernel_rfl) (by kernel_rfl) (by kernel_rfl) (by rfl) ?hv26 (by assumption) ?rest26
        case hv26 => first | (intro w hSw; (try dsimp only at hSw); go_simp; done) | (intro w hSw; (try dsimp only at hSw); go_simp; with_reducible rfl)
        (try simp only [Act.put, List.setIfInBounds_toArray, List.set_cons_zero, List.set_cons_succ])
        refine Reg.take (i := 29) (v := ?v27) rfl (by kernel_rfl) (by kernel_rfl) (by kernel_rfl) (by rfl) ?hv27 (by assumption) ?rest27
        case hv27 => first | (intro w hSw; (try dsimp only at hSw); go_simp; done) | (intro w hSw; (try dsimp only at hSw); go_simp; with_reducible rfl)
        (try simp only [Act.put, List.setIfInBounds_toArray, List.set_cons_zero, List.set_cons_succ])
        refine Reg.done (by kernel_rfl) ?_ _
        clear y0 y1 y2 y3
        have hP11 := hP10.grow K (below_drewN (Below.refl _ W10) 1)
        have hVE11 := hVE10.below (below_drewN (Below.refl _ W10) 1)
        change Kp Ann w c T zs zs (.slice A4 N c4) W10.drew at hP11
        change Row.Vals otS W10.drew _ kl (keptA zs) at hVE11
        clear hHeld hP10 hVE10 hX10 hg hc hav
        generalize W10.drew = W11 at *
        go_wp2_with (first
          | (go_at_call 10; ((with_reducible refine (hln _ hP11).mono ?_); rintro e Wb ⟨rfl, hz⟩; replace hP11 : Kp Ann w c T zs zs (.slice A4 N c4) Wb := hP11.grow K (by obtain ⟨z, rfl⟩ := hz; exact below_drewN (Below.refl _ _) z); replace hVE11 : Row.Vals otS Wb _ kl (keptA zs) := hVE11.below (by obtain ⟨z, rfl⟩ := hz; exact below_drewN (Below.refl _ _) z); clear hz))
          | (go_at_call 11; ((with_reducible refine (hdr _ hP11).mono ?_); rintro e Wb ⟨rfl, hz⟩; replace hP11 : Kp Ann w c T zs zs (.slice A4 N c4) Wb := hP11.grow K (by obtain ⟨z, rfl⟩ := hz; exact below_drewN (Below.refl _ _) z); replace hVE11 : Row.Vals otS Wb _ kl (keptA zs) := hVE11.below (by obtain ⟨z, rfl⟩ := hz; exact below_drewN (Below.refl _ _) z); clear hz))
          | (go_at_call 13; ((with_reducible refine (hls _ hP11).mono ?_); rintro e Wb ⟨A7, c7, rfl, hV7, -, hB7⟩; replace hP11 := hP11.grow K hB7; replace hVE11 := hVE11.below hB7; have hvv := hP11.vals.2; clear hB7 hls))
          | (go_at_call 14; ((with_reducible refine (hrl _ hvv.1 hvv.2.1 hvv.2.2).mono ?_); rintro e Wc ⟨E8, c8, rfl, -, -, hV8, -, rfl⟩; have hsm := Alarm.same_yes A7 E8 ln c7 c8 ls _ hV7 hV8 (by omega); clear hV7 hV8 hvv hrl))
          | (go_at_call 12; ((with_reducible refine hsm.mono ?_); rintro e Wb ⟨rfl, hz⟩; clear hsm; replace hP11 : Kp Ann w c T zs zs (.slice A4 N c4) Wb := hP11.grow K (by obtain ⟨z, rfl⟩ := hz; exact below_drewN (Below.refl _ _) z); replace hVE11 : Row.Vals otS Wb _ kl (keptA zs) := hVE11.below (by obtain ⟨z, rfl⟩ := hz; exact below_drewN (Below.refl _ _) z); clear hz))
          | (go_at_call 13; ((with_reducible refine (hl2 _ hP11).mono ?_); rintro e Wb ⟨A9, c9, rfl, hV9, -, hB9⟩; replace hP11 := hP11.grow K hB9; replace hVE11 := hVE11.below hB9; have hsm := Alarm.same_yes A9 _ kl c9 d8 (keptA zs) _ hV9 hVE11 (by omega); clear hV9 hB9 hl2))
          | (go_at_call 15; ((with_reducible refine (hct _ hP11).mono ?_); rintro e Wb ⟨rfl, hz⟩; replace hP11 : Kp Ann w c T zs zs (.slice A4 N c4) Wb := hP11.grow K (by obtain ⟨z, rfl⟩ := hz; exact below_drewN (Below.refl _ _) z); replace hVE11 : Row.Vals otS Wb _ kl (keptA zs) := hVE11.below (by obtain ⟨z, rfl⟩ := hz; exact below_drewN (Below.refl _ _) z); clear hz; have hvv := hP11.vals.2.1))
          | (go_at_call 16; ((with_reducible refine (hrc _ hvv).mono ?_); rintro e Wc ⟨rfl, rfl⟩)))
        go_roundw
        case rel => exact ⟨j + 1, c, T, zs, by omega, rfl, by go_num, hz480, hP11⟩
        case measure => simp [intOf]; omega
      · obtain rfl : ok = false := by simpa using hok
        obtain ⟨hni, hav⟩ := HAT.out.2 rfl
        obtain ⟨rfl, rfl, rfl, rfl⟩ : v0 = 0 ∧ v1 = 0 ∧ v2 = 0 ∧ v3 = 0 := by
          injection hav with e0 hav; injection hav with e1 hav; injection hav with e2 e3; exact ⟨e0, e1, e2, e3⟩
        by_cases hi0 : 0 ≤ i
        · have hi1 : ¬ i < (kl : Int) := fun h => hni ⟨hi0, h⟩
          clear hni
          refine Reg.begin_ (S := fun W => W.cell? ⟨z9, 0, none⟩ = some (.int .i64 0) ∧ W.cell? ⟨z9, 1, none⟩ = some (.int .i64 0) ∧ W.cell? ⟨z9, 2, none⟩ = some (.int .i64 0) ∧ W.cell? ⟨z9, 3, none⟩ = some (.int .i64 0)) (by kernel_rfl) (by exact ⟨hX10.cell 0, hX10.cell 1, hX10.cell 2, hX10.cell 3⟩) (fun hHeld => ?_)
          refine Reg.take (i := 0) (v := ?v28) rfl (by kernel_rfl) (by kernel_rfl) (by kernel_rfl) (by rfl) ?hv28 (by assumption) ?rest28
          case hv28 => first | (intro w hSw; (try dsimp only at hSw); go_simp; done) | (intro w hSw; (try dsimp only at hSw); go_simp; with_reducible rfl)
          (try simp only [Act.put, List.setIfInBounds_toArray, List.set_cons_zero, List.set_cons_succ])
          refine Reg.take (i := 1) (v := ?v29) rfl (by kernel_rfl) (by kernel_rfl) (by kernel_rfl) (by rfl) ?hv29 (by assumption) ?rest29
          case hv29 => first | (intro w hSw; (try dsimp only at hSw); go_simp; done) | (intro w hSw; (try dsimp only at hSw); go_simp; with_reducible rfl)
          (try simp only [Act.put, List.setIfInBounds_toArray, List.set_cons_zero, List.set_cons_succ])
          refine Reg.take (i := 2) (v := ?v30) rfl (by kernel_rfl) (by kernel_rfl) (by kernel_rfl) (by rfl) ?hv30 (by assumption) ?rest30
          case hv30 => first | (intro w hSw; (try dsimp only at hSw); go_simp; done) | (intro w hSw; (try dsimp only at hSw); go_simp; with_reducible rfl)
          (try simp only [Act.put, List.setIfInBounds_toArray, List.set_cons_zero, List.set_cons_succ])
          refine Reg.take (i := 3) (v := ?v31) rfl (by kernel_rfl) (by kernel_rfl) (by kernel_rfl) (by rfl) ?hv31 (by assumption) ?rest31
          case hv31 => first | (intro w hSw; (try dsimp only at hSw); go_simp; done) | (intro w hSw; (try dsimp only at hSw); go_simp; with_reducible rfl)
          (try simp only [Act.put, List.setIfInBounds_toArray, List.set_cons_zero, List.set_cons_succ])
          refine Reg.take (i := 4) (v := ?v32) rfl (by kernel_rfl) (by kernel_rfl) (by kernel_rfl) (by rfl) ?hv32 (by assumption) ?rest32
          case hv32 => first | (intro w hSw; (try dsimp only at hSw); go_simp; done) | (intro w hSw; (try dsimp only at hSw); go_simp; with_reducible rfl)
          (try simp only [Act.put, List.setIfInBounds_toArray, List.set_cons_zero, List.set_cons_succ])
          refine Reg.take (i := 5) (v := ?v33) rfl (by kernel_rfl) (by kernel_rfl) (by kernel_rfl) (by rfl) ?hv33 (by assumption) ?rest33
          case hv33 => first | (intro w hSw; (try dsimp only at hSw); go_simp; done) | (intro w hSw; (try dsimp only at hSw); go_simp; with_reducible rfl)
          (try simp only [Act.put, List.setIfInBounds_toArray, List.set_cons_zero, List.set_cons_succ])
          refine Reg.take (i := 6) (v := ?v34) rfl (by kernel_rfl) (by kernel_rfl) (by kernel_rfl) (by rfl) ?hv34 (by assumption) ?rest34
          case hv34 => first | (intro w hSw; (try dsimp only at hSw); go_simp; done) | (intro w hSw; (try dsimp only at hSw); go_simp; with_reducible rfl)
          (try simp only [Act.put, List.setIfInBounds_toArray, List.set_cons_zero, List.set_cons_succ])
          refine Reg.take (i := 7) (v := ?v35) rfl (by kernel_rfl) (by kernel_rfl) (by kernel_rfl) (by rfl) ?hv35 (by assumption) ?rest35
          case hv35 => first | (intro w hSw; (try dsimp only at hSw); go_simp; done) | (intro w hSw; (try dsimp only at hSw); go_simp; with_reducible rfl)
          (try simp only [Act.put, List.setIfInBounds_toArray, List.set_cons_zero, List.set_cons_succ])
          refine Reg.take (i := 8) (v := ?v36) rfl (by kernel_rfl) (by kernel_rfl) (by kernel_rfl) (by rfl) ?hv36 (by assumption) ?rest36
          case hv36 => first | (intro w hSw; (try dsimp only at hSw); go_simp; done) | (intro w hSw; (try dsimp only at hSw); go_simp; with_reducible rfl)
          (try simp only [Act.put, List.setIfInBounds_toArray, List.set_cons_zero, List.set_cons_succ])
          refine Reg.take (i := 9) (v := ?v37) rfl (by kernel_rfl) (by kernel_rfl) (by kernel_rfl) (by rfl) ?hv37 (by assumption) ?rest37
          case hv37 => first | (intro w hSw; (try dsimp only at hSw); go_simp; done) | (intro w hSw; (try dsimp only at hSw); go_simp; with_reducible rfl)
          (try simp only [Act.put, List.setIfInBounds_toArray, List.set_cons_zero, List.set_cons_succ])
          (try simp only [bne_self_eq_false])
          refine Reg.take (i := 10) (v := ?v38) rfl (by kernel_rfl) (by kernel_rfl) (by kernel_rfl) (by rfl) ?hv38 (by assumption) ?rest38
          case hv38 => first | (intro w hSw; (try dsimp only at hSw); go_simp; done) | (intro w hSw; (try dsimp only at hSw); go_simp; with_reducible rfl)
          (try simp only [Act.put, List.setIfInBounds_toArray, List.set_cons_zero, List.set_cons_succ])
          refine Reg.take (i := 11) (v := ?v39) rfl (by kernel_rfl) (by kernel_rfl) (by kernel_rfl) (by rfl) ?hv39 (by assumption) ?rest39
          case hv39 => first | (intro w hSw; (try dsimp only at hSw); go_simp; done) | (intro w hSw; (try dsimp only at hSw); go_simp; with_reducible rfl)
          (try simp only [Act.put, List.setIfInBounds_toArray, List.set_cons_zero, List.set_cons_succ])
          refine Reg.take (i := 12) (v := ?v40) rfl (by kernel_rfl) (by kernel_rfl) (by kernel_rfl) (by rfl) ?hv40 (by assumption) ?rest40
          case hv40 => first | (intro w hSw; (try dsimp only at hSw); go_simp; done) | (intro w hSw; (try dsimp only at hSw); go_simp; with_reducible rfl)
          (try simp only [Act.put, List.setIfInBounds_toArray, List.set_cons_zero, List.set_cons_succ])
          refine Reg.skip (i := 13) rfl (by kernel_rfl) (by kernel_rfl) (by kernel_rfl) (by rfl) (by assumption) ?_
          (try simp only [Act.put, List.setIfInBounds_toArray, List.set_cons_zero, List.set_cons_succ])
          refine Reg.skip (i := 14) rfl (by kernel_rfl) (by kernel_rfl) (by kernel_rfl) (by rfl) (by assumption) ?_
          (try simp only [Act.put, List.setIfInBounds_toArray, List.set_cons_zero, List.set_cons_succ])
          refine Reg.skip (i := 15) rfl (by kernel_rfl) (by kernel_rfl) (by kernel_rfl) (by rfl) (by assumption) ?_
          (try simp only [Act.put, List.setIfInBounds_toArray, List.set_cons_zero, List.set_cons_succ])
          refine Reg.skip (i := 16) rfl (by kernel_rfl) (by kernel_rfl) (by kernel_rfl) (by rfl) (by assumption) ?_
          (try simp only [Act.put, List.setIfInBounds_toArray, List.set_cons_zero, List.set_cons_succ])
          refine Reg.skip (i := 17) rfl (by kernel_rfl) (by kernel_rfl) (by kernel_rfl) (by rfl) (by assumption) ?_
          (try simp only [Act.put, List.setIfInBounds_toArray, List.set_cons_zero, List.set_cons_succ])
          refine Reg.skip (i := 18) rfl (by kernel_rfl) (by kernel_rfl) (by kernel_rfl) (by rfl) (by assumption) ?_
          (try simp only [Act.put, List.setIfInBounds_toArray, List.set_cons_zero, List.set_cons_succ])
          refine Reg.take (i := 19) (v := ?v41) rfl (by kernel_rfl) (by kernel_rfl) (by kernel_rfl) (by rfl) ?hv41 (by assumption) ?rest41
          case hv41 => first | (intro w hSw; (try dsimp only at hSw); go_simp; done) | (intro w hSw; (try dsimp only at hSw); go_simp; with_reducible rfl)
          (try simp only [Act.put, List.setIfInBounds_toArray, List.set_cons_zero, List.set_cons_succ])
          refine Reg.take (i := 20) (v := ?v42) rfl (by kernel_rfl) (by kernel_rfl) (by kernel_rfl) (by rfl) ?hv42 (by assumption) ?rest42
          case hv42 => first | (intro w hSw; (try dsimp only at hSw); go_simp; done) | (intro w hSw; (try dsimp only at hSw); go_simp; with_reducible rfl)
          (try simp only [Act.put, List.setIfInBounds_toArray, List.set_cons_zero, List.set_cons_succ])
          refine Reg.take (i := 21) (v := ?v43) rfl (by kernel_rfl) (by kernel_rfl) (by kernel_rfl) (by rfl) ?hv43 (by assumption) ?rest43
          case hv43 => first | (intro w hSw; (try dsimp only at hSw); go_simp; done) | (intro w hSw; (try dsimp only at hSw); go_simp; with_reducible rfl)
          (try simp only [Act.put, List.setIfInBounds_toArray, List.set_cons_zero, List.set_cons_succ])
          refine Reg.take (i := 22) (v := ?v44) rfl (by kernel_rfl) (by kernel_rfl) (by kernel_rfl) (by rfl) ?hv44 (by assumption) ?rest44
          case hv44 => first | (intro w hSw; (try dsimp only at hSw); go_simp; done) | (intro w hSw; (try dsimp only at hSw); go_simp; with_reducible rfl)
          (try simp only [Act.put, List.setIfInBounds_toArray, List.set_cons_zero, List.set_cons_succ])
          refine Reg.take (i := 23) (v := ?v45) rfl (by kernel_rfl) (by kernel_rfl) (by kernel_rfl) (by rfl) ?hv45 (by assumption) ?rest45
          case hv45 => first | (intro w hSw; (try dsimp only at hSw); go_simp; done) | (intro w hSw; (try dsimp only at hSw); go_simp; with_reducible rfl)
          (try simp only [Act.put, List.setIfInBounds_toArray, List.set_cons_zero, List.set_cons_succ])
          refine Reg.take (i := 24) (v := ?v46) rfl (by kernel_rfl) (by kernel_rfl) (by kernel_rfl) (by rfl) ?hv46 (by assumption) ?rest46
          case hv46 => first | (intro w hSw; (try dsimp only at hSw); go_simp; done) | (intro w hSw; (try dsimp only at hSw); go_simp; with_reducible rfl)
          (try simp only [Act.put, List.setIfInBounds_toArray, List.set_cons_zero, List.set_cons_succ])
          refine Reg.take (i := 25) (v := ?v47) rfl (by kernel_rfl) (by kernel_rfl) (by kernel_rfl) (by rfl) ?hv47 (by assumption) ?rest47
          case hv47 => first | (intro w hSw; (try dsimp only at hSw); go_simp; done) | (intro w hSw; (try dsimp only at hSw); go_simp; with_reducible rfl)
          (try simp only [Act.put, List.setIfInBounds_toArray, List.set_cons_zero, List.set_cons_succ])
          refine Reg.take (i := 26) (v := ?v48) rfl (by kernel_rfl) (by kernel_rfl) (by kernel_rfl) (by rfl) ?hv48 (by assumption) ?rest48
          case hv48 => first | (intro w hSw; (try dsimp only at hSw); go_simp; done) | (intro w hSw; (try dsimp only at hSw); go_simp; with_reducible rfl)
          (try simp only [Act.put, List.setIfInBounds_toArray, List.set_cons_zero, List.set_cons_succ])
          refine Reg.take (i := 27) (v := ?v49) rfl (by kernel_rfl) (by kernel_rfl) (by kernel_rfl) (by rfl) ?hv49 (by assumption) ?rest49
          case hv49 => first | (intro w hSw; (try dsimp only at hSw); go_simp; done) | (intro w hSw; (try dsimp only at hSw); go_simp; with_reducible rfl)
          (try simp only [Act.put, List.setIfInBounds_toArray, List.set_cons_zero, List.set_cons_succ])
          refine Reg.take (i := 28) (v := ?v50) rfl (by kernel_rfl) (by kernel_rfl) (by kernel_rfl) (by rfl) ?hv50 (by assumption) ?rest50
          case hv50 => first | (intro w hSw; (try dsimp only at hSw); go_simp; done) | (intro w hSw; (try dsimp only at hSw); go_simp; with_reducible rfl)
          (try simp only [Act.put, List.setIfInBounds_toArray, List.set_cons_zero, List.set_cons_succ])
          refine Reg.take (i := 29) (v := ?v51) rfl (by kernel_rfl) (by kernel_rfl) (by kernel_rfl) (by rfl) ?hv51 (by assumption) ?rest51
          case hv51 => first | (intro w hSw; (try dsimp only at hSw); go_simp; done) | (intro w hSw; (try dsimp only at hSw); go_simp; with_reducible rfl)
          (try simp only [Act.put, List.setIfInBounds_toArray, List.set_cons_zero, List.set_cons_succ])
          refine Reg.done (by kernel_rfl) ?_ _
          have hP11 := hP10.grow K (below_drewN (Below.refl _ W10) 1)
          have hVE11 := hVE10.below (below_drewN (Below.refl _ W10) 1)
          change Kp Ann w c T zs zs (.slice A4 N c4) W10.drew at hP11
          change Row.Vals otS W10.drew _ kl (keptA zs) at hVE11
          clear hHeld hP10 hVE10 hX10 hg hc hav
          generalize W10.drew = W11 at *
          go_wp2_with (first
            | (go_at_call 10; ((with_reducible refine (hln _ hP11).mono ?_); rintro e Wb ⟨rfl, hz⟩; replace hP11 : Kp Ann w c T zs zs (.slice A4 N c4) Wb := hP11.grow K (by obtain ⟨z, rfl⟩ := hz; exact below_drewN (Below.refl _ _) z); replace hVE11 : Row.Vals otS Wb _ kl (keptA zs) := hVE11.below (by obtain ⟨z, rfl⟩ := hz; exact below_drewN (Below.refl _ _) z); clear hz))
            | (go_at_call 11; ((with_reducible refine (hdr _ hP11).mono ?_); rintro e Wb ⟨rfl, hz⟩; replace hP11 : Kp Ann w c T zs zs (.slice A4 N c4) Wb := hP11.grow K (by obtain ⟨z, rfl⟩ := hz; exact below_drewN (Below.refl _ _) z); replace hVE11 : Row.Vals otS Wb _ kl (keptA zs) := hVE11.below (by obtain ⟨z, rfl⟩ := hz; exact below_drewN (Below.refl _ _) z); clear hz))
            | (go_at_call 13; ((with_reducible refine (hls _ hP11).mono ?_); rintro e Wb ⟨A7, c7, rfl, hV7, -, hB7⟩; replace hP11 := hP11.grow K hB7; replace hVE11 := hVE11.below hB7; have hvv := hP11.vals.2; clear hB7 hls))
            | (go_at_call 14; ((with_reducible refine (hrl _ hvv.1 hvv.2.1 hvv.2.2).mono ?_); rintro e Wc ⟨E8, c8, rfl, -, -, hV8, -, rfl⟩; have hsm := Alarm.same_yes A7 E8 ln c7 c8 ls _ hV7 hV8 (by omega); clear hV7 hV8 hvv hrl))
            | (go_at_call 12; ((with_reducible refine hsm.mono ?_); rintro e Wb ⟨rfl, hz⟩; clear hsm; replace hP11 : Kp Ann w c T zs zs (.slice A4 N c4) Wb := hP11.grow K (by obtain ⟨z, rfl⟩ := hz; exact below_drewN (Below.refl _ _) z); replace hVE11 : Row.Vals otS Wb _ kl (keptA zs) := hVE11.below (by obtain ⟨z, rfl⟩ := hz; exact below_drewN (Below.refl _ _) z); clear hz))
            | (go_at_call 13; ((with_reducible refine (hl2 _ hP11).mono ?_); rintro e Wb ⟨A9, c9, rfl, hV9, -, hB9⟩; replace hP11 := hP11.grow K hB9; replace hVE11 := hVE11.below hB9; have hsm := Alarm.same_yes A9 _ kl c9 d8 (keptA zs) _ hV9 hVE11 (by omega); clear hV9 hB9 hl2))
            | (go_at_call 15; ((with_reducible refine (hct _ hP11).mono ?_); rintro e Wb ⟨rfl, hz⟩; replace hP11 : Kp Ann w c T zs zs (.slice A4 N c4) Wb := hP11.grow K (by obtain ⟨z, rfl⟩ := hz; exact below_drewN (Below.refl _ _) z); replace hVE11 : Row.Vals otS Wb _ kl (keptA zs) := hVE11.below (by obtain ⟨z, rfl⟩ := hz; exact below_drewN (Below.refl _ _) z); clear hz; have hvv := hP11.vals.2.1))
            | (go_at_call 16; ((with_reducible refine (hrc _ hvv).mono ?_); rintro e Wc ⟨rfl, rfl⟩)))
          go_roundw
          case rel => exact ⟨j + 1, c, T, zs, by omega, rfl, by go_num, hz480, hP11⟩
          case measure => simp [intOf]; omega
        · clear hni
          refine Reg.begin_ (S := fun W => W.cell? ⟨z9, 0, none⟩ = some (.int .i64 0) ∧ W.cell? ⟨z9, 1, none⟩ = some (.int .i64 0) ∧ W.cell? ⟨z9, 2, none⟩ = some (.int .i64 0) ∧ W.cell? ⟨z9, 3, none⟩ = some (.int .i64 0)) (by kernel_rfl) (by exact ⟨hX10.cell 0, hX10.cell 1, hX10.cell 2, hX10.cell 3⟩) (fun hHeld => ?_)
          refine Reg.take (i := 0) (v := ?v52) rfl (by kernel_rfl) (by kernel_rfl) (by kernel_rfl) (by rfl) ?hv52 (by assumption) ?rest52
          case hv52 => first | (intro w hSw; (try dsimp only at hSw); go_simp; done) | (intro w hSw; (try dsimp only at hSw); go_simp; with_reducible rfl)
          (try simp only [Act.put, List.setIfInBounds_toArray, List.set_cons_zero, List.set_cons_succ])
          refine Reg.take (i := 1) (v := ?v53) rfl (by kernel_rfl) (by kernel_rfl) (by kernel_rfl) (by rfl) ?hv53 (by assumption) ?rest53
          case hv53 => first | (intro w hSw; (try dsimp only at hSw); go_simp; done) | (intro w hSw; (try dsimp only at hSw); go_simp; with_reducible rfl)
          (try simp only [Act.put, List.setIfInBounds_toArray, List.set_cons_zero, List.set_cons_succ])
          refine Reg.take (i := 2) (v := ?v54) rfl (by kernel_rfl) (by kernel_rfl) (by kernel_rfl) (by rfl) ?hv54 (by assumption) ?rest54
          case hv54 => first | (intro w hSw; (try dsimp only at hSw); go_simp; done) | (intro w hSw; (try dsimp only at hSw); go_simp; with_reducible rfl)
          (try simp only [Act.put, List.setIfInBounds_toArray, List.set_cons_zero, List.set_cons_succ])
          refine Reg.take (i := 3) (v := ?v55) rfl (by kernel_rfl) (by kernel_rfl) (by kernel_rfl) (by rfl) ?hv55 (by assumption) ?rest55
          case hv55 => first | (intro w hSw; (try dsimp only at hSw); go_simp; done) | (intro w hSw; (try dsimp only at hSw); go_simp; with_reducible rfl)
          (try simp only [Act.put, List.setIfInBounds_toArray, List.set_cons_zero, List.set_cons_succ])
          refine Reg.skip (i := 4) rfl (by kernel_rfl) (by kernel_rfl) (by kernel_rfl) (by rfl) (by assumption) ?_
          (try simp only [Act.put, List.setIfInBounds_toArray, List.set_cons_zero, List.set_cons_succ])
          refine Reg.skip (i := 5) rfl (by kernel_rfl) (by kernel_rfl) (by kernel_rfl) (by rfl) (by assumption) ?_
          (try simp only [Act.put, List.setIfInBounds_toArray, List.set_cons_zero, List.set_cons_succ])
          refine Reg.skip (i := 6) rfl (by kernel_rfl) (by kernel_rfl) (by kernel_rfl) (by rfl) (by assumption) ?_
          (try simp only [Act.put, List.setIfInBounds_toArray, List.set_cons_zero, List.set_cons_succ])
          refine Reg.skip (i := 7) rfl (by kernel_rfl) (by kernel_rfl) (by kernel_rfl) (by rfl) (by assumption) ?_
          (try simp only [Act.put, List.setIfInBounds_toArray, List.set_cons_zero, List.set_cons_succ])
          refine Reg.take (i := 8) (v := ?v56) rfl (by kernel_rfl) (by kernel_rfl) (by kernel_rfl) (by rfl) ?hv56 (by assumption) ?rest56
          case hv56 => first | (intro w hSw; (try dsimp only at hSw); go_simp; done) | (intro w hSw; (try dsimp only at hSw); go_simp; with_reducible rfl)
          (try simp only [Act.put, List.setIfInBounds_toArray, List.set_cons_zero, List.set_cons_succ])
          refine Reg.take (i := 9) (v := ?v57) rfl (by kernel_rfl) (by kernel_rfl) (by kernel_rfl) (by rfl) ?hv57 (by assumption) ?rest57
          case hv57 => first | (intro w hSw; (try dsimp only at hSw); go_simp; done) | (intro w hSw; (try dsimp only at hSw); go_simp; with_reducible rfl)
          (try simp only [Act.put, List.setIfInBounds_toArray, List.set_cons_zero, List.set_cons_succ])
          (try simp only [bne_self_eq_false])
          refine Reg.take (i := 10) (v := ?v58) rfl (by kernel_rfl) (by kernel_rfl) (by kernel_rfl) (by rfl) ?hv58 (by assumption) ?rest58
          case hv58 => first | (intro w hSw; (try dsimp only at hSw); go_simp; done) | (intro w hSw; (try dsimp only at hSw); go_simp; with_reducible rfl)
          (try simp only [Act.put, List.setIfInBounds_toArray, List.set_cons_zero, List.set_cons_succ])
          refine Reg.take (i := 11) (v := ?v59) rfl (by kernel_rfl) (by kernel_rfl) (by kernel_rfl) (by rfl) ?hv59 (by assumption) ?rest59
          case hv59 => first | (intro w hSw; (try dsimp only at hSw); go_simp; done) | (intro w hSw; (try dsimp only at hSw); go_simp; with_reducible rfl)
          (try simp only [Act.put, List.setIfInBounds_toArray, List.set_cons_zero, List.set_cons_succ])
          refine Reg.take (i := 12) (v := ?v60) rfl (by kernel_rfl) (by kernel_rfl) (by kernel_rfl) (by rfl) ?hv60 (by assumption) ?rest60
          case hv60 => first | (intro w hSw; (try dsimp only at hSw); go_simp; done) | (intro w hSw; (try dsimp only at hSw); go_simp; with_reducible rfl)
          (try simp only [Act.put, List.setIfInBounds_toArray, List.set_cons_zero, List.set_cons_succ])
          refine Reg.skip (i := 13) rfl (by kernel_rfl) (by kernel_rfl) (by kernel_rfl) (by rfl) (by assumption) ?_
          (try simp only [Act.put, List.setIfInBounds_toArray, List.set_cons_zero, List.set_cons_succ])
          refine Reg.skip (i := 14) rfl (by kernel_rfl) (by kernel_rfl) (by kernel_rfl) (by rfl) (by assumption) ?_
          (try simp only [Act.put, List.setIfInBounds_toArray, List.set_cons_zero, List.set_cons_succ])
          refine Reg.skip (i := 15) rfl (by kernel_rfl) (by kernel_rfl) (by kernel_rfl) (by rfl) (by assumption) ?_
          (try simp only [Act.put, List.setIfInBounds_toArray, List.set_cons_zero, List.set_cons_succ])
          refine Reg.skip (i := 16) rfl (by kernel_rfl) (by kernel_rfl) (by kernel_rfl) (by rfl) (by assumption) ?_
          (try simp only [Act.put, List.setIfInBounds_toArray, List.set_cons_zero, List.set_cons_succ])
          refine Reg.skip (i := 17) rfl (by kernel_rfl) (by kernel_rfl) (by kernel_rfl) (by rfl) (by assumption) ?_
          (try simp only [Act.put, List.setIfInBounds_toArray, List.set_cons_zero, List.set_cons_succ])
          refine Reg.skip (i := 18) rfl (by kernel_rfl) (by kernel_rfl) (by kernel_rfl) (by rfl) (by assumption) ?_
          (try simp only [Act.put, List.setIfInBounds_toArray, List.set_cons_zero, List.set_cons_succ])
          refine Reg.take (i := 19) (v := ?v61) rfl (by kernel_rfl) (by kernel_rfl) (by kernel_rfl) (by rfl) ?hv61 (by assumption) ?rest61
          case hv61 => first | (intro w hSw; (try dsimp only at hSw); go_simp; done) | (intro w hSw; (try dsimp only at hSw); go_simp; with_reducible rfl)
          (try simp only [Act.put, List.setIfInBounds_toArray, List.set_cons_zero, List.set_cons_succ])
          refine Reg.take (i := 20) (v := ?v62) rfl (by kernel_rfl) (by kernel_rfl) (by kernel_rfl) (by rfl) ?hv62 (by assumption) ?rest62
          case hv62 => first | (intro w hSw; (try dsimp only at hSw); go_simp; done) | (intro w hSw; (try dsimp only at hSw); go_simp; with_reducible rfl)
          (try simp only [Act.put, List.setIfInBounds_toArray, List.set_cons_zero, List.set_cons_succ])
          refine Reg.take (i := 21) (v := ?v63) rfl (by kernel_rfl) (by kernel_rfl) (by kernel_rfl) (by rfl) ?hv63 (by assumption) ?rest63
          case hv63 => first | (intro w hSw; (try dsimp only at hSw); go_simp; done) | (intro w hSw; (try dsimp only at hSw); go_simp; with_reducible rfl)
          (try simp only [Act.put, List.setIfInBounds_toArray, List.set_cons_zero, List.set_cons_succ])
          refine Reg.take (i := 22) (v := ?v64) rfl (by kernel_rfl) (by kernel_rfl) (by kernel_rfl) (by rfl) ?hv64 (by assumption) ?rest64
          case hv64 => first | (intro w hSw; (try dsimp only at hSw); go_simp; done) | (intro w hSw; (try dsimp only at hSw); go_simp; with_reducible rfl)
          (try simp only [Act.put, List.setIfInBounds_toArray, List.set_cons_zero, List.set_cons_succ])
          refine Reg.take (i := 23) (v := ?v65) rfl (by kernel_rfl) (by kernel_rfl) (by kernel_rfl) (by rfl) ?hv65 (by assumption) ?rest65
          case hv65 => first | (intro w hSw; (try dsimp only at hSw); go_simp; done) | (intro w hSw; (try dsimp only at hSw); go_simp; with_reducible rfl)
          (try simp only [Act.put, List.setIfInBounds_toArray, List.set_cons_zero, List.set_cons_succ])
          refine Reg.take (i := 24) (v := ?v66) rfl (by kernel_rfl) (by kernel_rfl) (by kernel_rfl) (by rfl) ?hv66 (by assumption) ?rest66
          case hv66 => first | (intro w hSw; (try dsimp only at hSw); go_simp; done) | (intro w hSw; (try dsimp only at hSw); go_simp; with_reducible rfl)
          (try simp only [Act.put, List.setIfInBounds_toArray, List.set_cons_zero, List.set_cons_succ])
          refine Reg.take (i := 25) (v := ?v67) rfl (by kernel_rfl) (by kernel_rfl) (by kernel_rfl) (by rfl) ?hv67 (by assumption) ?rest67
          case hv67 => first | (intro w hSw; (try dsimp only at hSw); go_simp; done) | (intro w hSw; (try dsimp only at hSw); go_simp; with_reducible rfl)
          (try simp only [Act.put, List.setIfInBounds_toArray, List.set_cons_zero, List.set_cons_succ])
          refine Reg.take (i := 26) (v := ?v68) rfl (by kernel_rfl) (by kernel_rfl) (by kernel_rfl) (by rfl) ?hv68 (by assumption) ?rest68
          case hv68 => first | (intro w hSw; (try dsimp only at hSw); go_simp; done) | (intro w hSw; (try dsimp only at hSw); go_simp; with_reducible rfl)
          (try simp only [Act.put, List.setIfInBounds_toArray, List.set_cons_zero, List.set_cons_succ])
          refine Reg.take (i := 27) (v := ?v69) rfl (by kernel_rfl) (by kernel_rfl) (by kernel_rfl) (by rfl) ?hv69 (by assumption) ?rest69
          case hv69 => first | (intro w hSw; (try dsimp only at hSw); go_simp; done) | (intro w hSw; (try dsimp only at hSw); go_simp; with_reducible rfl)
          (try simp only [Act.put, List.setIfInBounds_toArray, List.set_cons_zero, List.set_cons_succ])
          refine Reg.take (i := 28) (v := ?v70) rfl (by kernel_rfl) (by kernel_rfl) (by kernel_rfl) (by rfl) ?hv70 (by assumption) ?rest70
          case hv70 => first | (intro w hSw; (try dsimp only at hSw); go_simp; done) | (intro w hSw; (try dsimp only at hSw); go_simp; with_reducible rfl)
          (try simp only [Act.put, List.setIfInBounds_toArray, List.set_cons_zero, List.set_cons_succ])
          refine Reg.take (i := 29) (v := ?v71) rfl (by kernel_rfl) (by kernel_rfl) (by kernel_rfl) (by rfl) ?hv71 (by assumption) ?rest71
          case hv71 => first | (intro w hSw; (try dsimp only at hSw); go_simp; done) | (intro w hSw; (try dsimp only at hSw); go_simp; with_reducible rfl)
          (try simp only [Act.put, List.setIfInBounds_toArray, List.set_cons_zero, List.set_cons_succ])
          refine Reg.done (by kernel_rfl) ?_ _
          have hP11 := hP10.grow K (below_drewN (Below.refl _ W10) 1)
          have hVE11 := hVE10.below (below_drewN (Below.refl _ W10) 1)
          change Kp Ann w c T zs zs (.slice A4 N c4) W10.drew at hP11
          change Row.Vals otS W10.drew _ kl (keptA zs) at hVE11
          clear hHeld hP10 hVE10 hX10 hg hc hav
          generalize W10.drew = W11 at *
          go_wp2_with (first
            | (go_at_call 10; ((with_reducible refine (hln _ hP11).mono ?_); rintro e Wb ⟨rfl, hz⟩; replace hP11 : Kp Ann w c T zs zs (.slice A4 N c4) Wb := hP11.grow K (by obtain ⟨z, rfl⟩ := hz; exact below_drewN (Below.refl _ _) z); replace hVE11 : Row.Vals otS Wb _ kl (keptA zs) := hVE11.below (by obtain ⟨z, rfl⟩ := hz; exact below_drewN (Below.refl _ _) z); clear hz))
            | (go_at_call 11; ((with_reducible refine (hdr _ hP11).mono ?_); rintro e Wb ⟨rfl, hz⟩; replace hP11 : Kp Ann w c T zs zs (.slice A4 N c4) Wb := hP11.grow K (by obtain ⟨z, rfl⟩ := hz; exact below_drewN (Below.refl _ _) z); replace hVE11 : Row.Vals otS Wb _ kl (keptA zs) := hVE11.below (by obtain ⟨z, rfl⟩ := hz; exact below_drewN (Below.refl _ _) z); clear hz))
            | (go_at_call 13; ((with_reducible refine (hls _ hP11).mono ?_); rintro e Wb ⟨A7, c7, rfl, hV7, -, hB7⟩; replace hP11 := hP11.grow K hB7; replace hVE11 := hVE11.below hB7; have hvv := hP11.vals.2; clear hB7 hls))
            | (go_at_call 14; ((with_reducible refine (hrl _ hvv.1 hvv.2.1 hvv.2.2).mono ?_); rintro e Wc ⟨E8, c8, rfl, -, -, hV8, -, rfl⟩; have hsm := Alarm.same_yes A7 E8 ln c7 c8 ls _ hV7 hV8 (by omega); clear hV7 hV8 hvv hrl))
            | (go_at_call 12; ((with_reducible refine hsm.mono ?_); rintro e Wb ⟨rfl, hz⟩; clear hsm; replace hP11 : Kp Ann w c T zs zs (.slice A4 N c4) Wb := hP11.grow K (by obtain ⟨z, rfl⟩ := hz; exact below_drewN (Below.refl _ _) z); replace hVE11 : Row.Vals otS Wb _ kl (keptA zs) := hVE11.below (by obtain ⟨z, rfl⟩ := hz; exact below_drewN (Below.refl _ _) z); clear hz))
            | (go_at_call 13; ((with_reducible refine (hl2 _ hP11).mono ?_); rintro e Wb ⟨A9, c9, rfl, hV9, -, hB9⟩; replace hP11 := hP11.grow K hB9; replace hVE11 := hVE11.below hB9; have hsm := Alarm.same_yes A9 _ kl c9 d8 (keptA zs) _ hV9 hVE11 (by omega); clear hV9 hB9 hl2))
            | (go_at_call 15; ((with_reducible refine (hct _ hP11).mono ?_); rintro e Wb ⟨rfl, hz⟩; replace hP11 : Kp Ann w c T zs zs (.slice A4 N c4) Wb := hP11.grow K (by obtain ⟨z, rfl⟩ := hz; exact below_drewN (Below.refl _ _) z); replace hVE11 : Row.Vals otS Wb _ kl (keptA zs) := hVE11.below (by obtain ⟨z, rfl⟩ := hz; exact below_drewN (Below.refl _ _) z); clear hz; have hvv := hP11.vals.2.1))
            | (go_at_call 16; ((with_reducible refine (hrc _ hvv).mono ?_); rintro e Wc ⟨rfl, rfl⟩)))
          go_roundw
          case rel => exact ⟨j + 1, c, T, zs, by omega, rfl, by go_num, hz480, hP11⟩
          case measure => simp [intOf]; omega
    · obtain rfl : j = m := by omega
      have hjj : ¬ (j : Int) < (j : Int) := by omega
      go_wp2_with (go_at_call 17; ((with_reducible refine (hli _ hP.ma.below).mono ?_); rintro e W2 ⟨rfl, hB2⟩; have hP2 := hP.ma.later K hB2))
      go_ret
      exact ⟨rfl, hP2.below⟩
end Go.Proofs.YtjhpogiknhbegaaDoor.Annal
