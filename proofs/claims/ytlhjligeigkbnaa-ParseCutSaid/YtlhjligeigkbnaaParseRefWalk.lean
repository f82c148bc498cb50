/- The reference's walk over bytes. -/
import Derived.Test.YtlhjligeigkbnaaPlaces
import Derived.Test.YtlhjligeigkbnaaFrameRefLook
set_option linter.unusedSimpArgs false
set_option linter.unusedVariables false
namespace Go.Proofs.Ytlhjligeigkbnaa.Par
open Go.RowKit RU8 Frm
/-- What a walk answers. -/
def WalkIs (w : World) (b : List Nat) (e : Ending) (w' : World) : Prop :=
  ∃ A n c qs, e = .returned (.tuple #[.slice A n c, .int .i64 (endT b : Nat)]) ∧ n ≤ c ∧ c ≤ 9223372036854775807 ∧ n ≤ b.length ∧ Row.Vals placeS w' A n (pvs 0 (walkP 0 b) qs) ∧ Held w' w.heap.size none qs ((walkP 0 b).map (·.l)) ∧ (∀ x, A = some x → w.heap.size ≤ x.block) ∧ Below w.heap.size w w'
theorem vals_block {α : Type} {S : Row.Shape α} {w : World} {x : Addr} {n : Nat} {ys : List α} (h : Row.Vals S w (some x) n ys) (h0 : 0 < n) : x.block < w.heap.size := by
  obtain ⟨y, hy, hc⟩ := h.cells h0
  injection hy with hy
  subst hy
  have hl : 0 < (Row.flat S ys).length := by rw [Row.flat_length, h.len_]; exact Nat.mul_pos h0 S.pos
  have := World.block_lt_of_cell? _ _ (hc 0 _ (List.getElem?_eq_getElem hl))
  simpa [Addr.add] using this
theorem Held.free {w : World} {base : Nat} {g : Option Nat} {qs : List Ptr} {ls : List (List Samp)} (h : Held w base g qs ls) : Held w base none qs ls :=
  ⟨h.len, h.read, h.cap, fun q hq x hx => by obtain ⟨h1, h2, _⟩ := h.far q hq x hx; exact ⟨h1, h2, by simp⟩⟩
theorem two_new (W : World) (o : Obj) (t : TypeId) (p : PV) : Row.Vals placeS ((W.alloc o).alloc (.cells (placeS.enc p).toArray t)) (some ⟨W.heap.size + 1, 0, none⟩) 1 [p] := by
  have h := Row.Vals.has (S := placeS) (ys := [p]) (tl := []) (g := (W.alloc o).heap.size) (t := t) (w := (W.alloc o).alloc (.cells (placeS.enc p).toArray t)) (by
    rw [List.append_nil, show Row.flat placeS [p] = placeS.enc p by simp [Row.flat]]
    exact Has.new _ _ _)
  rwa [show (W.alloc o).heap.size = W.heap.size + 1 by simp] at h
/-- How far the walk has come: the places so far, and where it goes on. -/
structure Walking (b : List Nat) (k : Nat) (d : Bool) (ps : List Place) : Prop where
  le : k ≤ b.length
  walk : walkP 0 b = ps ++ walkP k (b.drop k)
  stop : endP 0 b = endP k (b.drop k)
  pend : lastEnd 0 ps ≤ k
  dirty : d = decide (k ≠ lastEnd 0 ps)
  few : 6 * ps.length ≤ k
theorem walking_start (b : List Nat) : Walking b 0 false [] := ⟨Nat.zero_le _, by simp, by simp, Nat.le_refl _, rfl, by simp⟩
theorem walking_end {b : List Nat} {k : Nat} {d : Bool} {ps : List Place} (h : Walking b k d ps) (h6 : lookE (b.drop k) = 6) : walkP 0 b = ps ∧ endP 0 b = k := by
  obtain ⟨h1, h2⟩ := walk_end k h6
  exact ⟨by rw [h.walk, h1, List.append_nil], by rw [h.stop, h2]⟩
theorem walking_bad {b : List Nat} {k : Nat} {d : Bool} {ps : List Place} (h : Walking b k d ps) (h6 : lookE (b.drop k) ≠ 6) (h0 : lookE (b.drop k) ≠ 0) : Walking b (k + 1) true ps := by
  obtain ⟨h1, h2⟩ := walk_bad k h6 h0
  have hl := ne_nil h6
  rw [List.length_drop] at hl
  rw [List.drop_drop] at h1 h2
  have := h.pend
  exact ⟨by omega, by rw [h.walk, h1], by rw [h.stop, h2], by omega, (decide_eq_true (by omega)).symm, by have := h.few; omega⟩
theorem walking_good {b : List Nat} (hb : Bytes b) {k : Nat} {d : Bool} {ps : List Place} (h : Walking b k d ps) (h0 : lookE (b.drop k) = 0) :
    Walking b (k + lookN (b.drop k)) false (ps ++ [⟨k, lookSeq (b.drop k), lookL (b.drop k)⟩]) ∧ lookN (b.drop k) ≤ b.length := by
  obtain ⟨h1, h2⟩ := walk_good k h0
  obtain ⟨s1, s2, s3, s4, s5⟩ := look_size (bytes_drop hb k) h0
  rw [List.length_drop] at s2
  rw [List.drop_drop] at h1 h2
  have hle := h.le
  have he : lastEnd 0 (ps ++ [⟨k, lookSeq (b.drop k), lookL (b.drop k)⟩]) = k + lookN (b.drop k) := by rw [lastEnd_snoc]; unfold Place.end_; rw [s1]
  refine ⟨⟨by omega, by rw [h.walk, h1, List.append_assoc]; rfl, by rw [h.stop, h2], by rw [he]; exact Nat.le_refl _, by rw [he]; simp, ?_⟩, by omega⟩
  have := h.few
  rw [List.length_append, List.length_singleton]
  omega
set_option maxHeartbeats 1000000 in
theorem refwalk_any (A : Option Addr) (n c : Nat) (b : List Nat) (w : World) (hv : Vals w A n b) (hb : Bytes b) (hn : n ≤ 2000) (hc : n ≤ c) (hc2 : c ≤ 9223372036854775807) :
    Calls Try.prog 10 #[.slice A n c] w (WalkIs w b) := by
  have hlen := hv.len_
  have hInfo : (Try.prog.info? 36).map (fun i => (i.zero, i.size, i.bytes)) = some (some (.agg #[.int .i64 0, .bool false, .int .u8 0, .slice none 0 0]), 4, 48) := by kernel_rfl
  have HInfo := Lib.hid hInfo
  have HS := Lib.hid (walking_start b)
  clear hInfo
  go_enter Try.func10, Try.ntmps10
  go_wp2
  go_loopw [4, 5, 6] (fun v d i wr => ∃ (k : Nat) (dd : Bool) (ps : List Place) (qs : List Ptr), i = .int .i64 (k : Nat) ∧ d = .bool dd ∧ Walking b k dd ps ∧ wr.ownsRow w.heap.size 36 4 v ps.length (Row.flat placeS (pvs 0 ps qs)) ∧ Held wr w.heap.size v.ownBlock qs (ps.map (·.l)) ∧ Below w.heap.size w wr) (fun _ _ i _ => n - (intOf i).toNat)
  case atStart => exact ⟨0, false, [], [], rfl, rfl, HS.out, Row.own_none (S := placeS) _ _ _, Held.none_ _ _ _, Below.refl _ _⟩
  case round =>
    obtain ⟨k, dd, ps, qs, rfl, rfl, hW, hO, hH, hB⟩ := hrel
    have hk := hW.le
    rw [hlen] at hk
    have HW := Lib.hid hW
    clear hW
    have hkz : (k : Int) ≤ (n : Int) ∧ (k : Int) ≤ (c : Int) ∧ k ≤ n ∧ k ≤ c := by omega
    rcases A with _ | x
    · have hn0 : n = 0 := by
        rcases Nat.eq_zero_or_pos n with h | h
        · exact h
        · obtain ⟨x, hx, _⟩ := hv.cells h; cases hx
      have hk0 : k = 0 := by omega
      subst hn0 hk0
      have hlk := reflook_any none 0 c (b.drop 0) wr (hv.below (hB.mono (Nat.le_refl _))) hb (by omega) hc hc2
      have h6 : lookE (b.drop 0) = 6 := by rw [List.eq_nil_of_length_eq_zero hlen]; exact look_nil
      unfold LookIs at hlk
      obtain ⟨hz1, hz2⟩ := walking_end HW.out h6
      have hfew := HW.out.few
      rw [h6] at hlk
      generalize lookSeq (b.drop 0) = q at hlk
      generalize lookL (b.drop 0) = ls at hlk
      generalize lookN (b.drop 0) = N at hlk
      clear h6
      obtain ⟨A0, c0, rfl, e1, e2, hV0, hfar0, hob⟩ := Row.Vals.own hO
      go_wp2_with (go_at_call 22; ((with_reducible refine hlk.mono ?_); rintro e W1 ⟨A9, m9, c9, rfl, g1, g2, g3, g4, g5, hB1⟩; have hB2 := hB1.alloc hB1.size (.cells #[.int .u8 (q : Nat), .slice A9 m9 c9] 34)))
      go_ret2
      exact ⟨A0, ps.length, c0, qs, by rw [show endT b = 0 from hz2]; rfl, e1, e2, by omega, by rw [hz1]; exact hV0.below hB2, by rw [hz1]; exact ((hH.below hB2).kept (Kept.refl [] _) (fun z hz => by cases hz)).free, (fun x hx => (hfar0 x hx).1), hB.trans (hB2.mono hB.size)⟩
    · by_cases hck : c = k
      · have hckz : (c : Int) - (k : Int) = 0 := by omega
        have hlk := reflook_any (some x) (n - k) 0 (b.drop k) wr ⟨by rw [List.length_drop, hlen], fun h => absurd h (by omega)⟩ (bytes_drop hb k) (by omega) (by omega) (by omega)
        have hnil : b.drop k = [] := List.eq_nil_of_length_eq_zero (by rw [List.length_drop, hlen]; omega)
        have h6 : lookE (b.drop k) = 6 := by rw [hnil]; exact look_nil
        unfold LookIs at hlk
        obtain ⟨hz1, hz2⟩ := walking_end HW.out h6
        have hfew := HW.out.few
        rw [h6] at hlk
        generalize lookSeq (b.drop k) = q at hlk
        generalize lookL (b.drop k) = ls at hlk
        generalize lookN (b.drop k) = N at hlk
        clear h6
        obtain ⟨A0, c0, rfl, e1, e2, hV0, hfar0, hob⟩ := Row.Vals.own hO
        go_wp2_with (go_at_call 22; ((with_reducible refine hlk.mono ?_); rintro e W1 ⟨A9, m9, c9, rfl, g1, g2, g3, g4, g5, hB1⟩; have hB2 := hB1.alloc hB1.size (.cells #[.int .u8 (q : Nat), .slice A9 m9 c9] 34)))
        go_ret2
        exact ⟨A0, ps.length, c0, qs, by rw [show endT b = k from hz2]; rfl, e1, e2, by omega, by rw [hz1]; exact hV0.below hB2, by rw [hz1]; exact ((hH.below hB2).kept (Kept.refl [] _) (fun z hz => by cases hz)).free, (fun x hx => (hfar0 x hx).1), hB.trans (hB2.mono hB.size)⟩
      · have hckz : ¬ (c : Int) - (k : Int) = 0 := by omega
        have hlk := reflook_any (some (x.add k)) (n - k) (c - k) (b.drop k) wr ((hv.below hB).drop k (by omega)) (bytes_drop hb k) (by omega) (by omega) (by omega)
        unfold LookIs at hlk
        have HB' := Lib.hid (bytes_drop hb k)
        by_cases h6 : lookE (b.drop k) = 6
        · obtain ⟨hz1, hz2⟩ := walking_end HW.out h6
          have hfew := HW.out.few
          rw [h6] at hlk
          generalize lookSeq (b.drop k) = q at hlk
          generalize lookL (b.drop k) = ls at hlk
          generalize lookN (b.drop k) = N at hlk
          clear h6
          obtain ⟨A0, c0, rfl, e1, e2, hV0, hfar0, hob⟩ := Row.Vals.own hO
          go_wp2_with (go_at_call 22; ((with_reducible refine hlk.mono ?_); rintro e W1 ⟨A9, m9, c9, rfl, g1, g2, g3, g4, g5, hB1⟩; have hB2 := hB1.alloc hB1.size (.cells #[.int .u8 (q : Nat), .slice A9 m9 c9] 34)))
          go_ret2
          exact ⟨A0, ps.length, c0, qs, by rw [show endT b = k from hz2]; rfl, e1, e2, by omega, by rw [hz1]; exact hV0.below hB2, by rw [hz1]; exact ((hH.below hB2).kept (Kept.refl [] _) (fun z hz => by cases hz)).free, (fun x hx => (hfar0 x hx).1), hB.trans (hB2.mono hB.size)⟩
        · by_cases h0 : lookE (b.drop k) = 0
          · obtain ⟨hW2, hNb⟩ := walking_good hb HW.out h0
            obtain ⟨s1, s2, s3, s4, s5⟩ := look_size HB'.out h0
            rw [List.length_drop, hlen] at s2
            have S1 := Lib.hid s1
            have S3 := Lib.hid s3
            have hN9 : 6 ≤ lookN (b.drop k) := by omega
            clear s1 s3 s4
            rw [h0] at hlk
            have hfew := HW.out.few
            have hpl : (pvs 0 ps qs).length = ps.length := pvs_length 0 ps qs (by rw [hH.len, List.length_map])
            have hsn := pvs_snoc 0 ps qs (by rw [hH.len, List.length_map]) ⟨k, lookSeq (b.drop k), lookL (b.drop k)⟩
            have hdd := HW.out.dirty
            have HW2 := Lib.hid hW2
            have HSN := Lib.hid hsn
            have HDD := Lib.hid hdd
            clear hW2 hsn hdd h0 h6
            generalize lookSeq (b.drop k) = q at *
            generalize lookL (b.drop k) = ls at *
            generalize lookN (b.drop k) = N at *
            obtain ⟨kn, hkn⟩ : ∃ m, k + N = m := ⟨_, rfl⟩
            have hknz : (k : Int) + (N : Int) = (kn : Int) := by omega
            have HKN := Lib.hid hkn
            have hown := own_block hO
            obtain ⟨A0, c0, rfl, e1, e2, hV0, hfar0, hob⟩ := Row.Vals.own hO
            have hsz48 : ps.length + 1 ≤ 1048576 := by omega
            clear hkn e1 e2 hV0
            go_wp2_with (first
              | (go_at_call 22; ((with_reducible refine hlk.mono ?_); rintro e W1 ⟨A9, m9, c9, rfl, g1, g2, g3, g4, g5, hB1⟩; have hB2 := hB1.alloc hB1.size (.cells #[.int .u8 (q : Nat), .slice A9 m9 c9] 34); have hBa := hB2.alloc hB2.size (.cells #[.int .i64 (k : Nat), .bool dd, .int .u8 (q : Nat), .slice A9 m9 c9] 36); have hOa := own_kept hO (Kept.of_below (S := []) hBa) (by simp); have hVn : Row.Vals placeS ((W1.alloc (.cells #[.int .u8 (q : Nat), .slice A9 m9 c9] 34)).alloc (.cells #[.int .i64 (k : Nat), .bool dd, .int .u8 (q : Nat), .slice A9 m9 c9] 36)) (some ⟨W1.heap.size + 1, 0, none⟩) 1 [⟨k, dd, q, ⟨A9, m9, c9⟩⟩] := two_new W1 (.cells #[.int .u8 (q : Nat), .slice A9 m9 c9] 34) 36 ⟨k, dd, q, ⟨A9, m9, c9⟩⟩))
              | (at_builtin; refine Row.wpList_append (S := placeS) rfl (.tmp 26) (.tmp 31) _ rfl w.heap.size 36 _ 48 (by omega) Try.underlying27 HInfo.out (by kernel_rfl) (.slice A0 ps.length c0) ps.length (pvs 0 ps qs) rfl (by exact hOa) _ 1 1 [⟨k, dd, q, ⟨A9, m9, c9⟩⟩] rfl (by exact hVn) (by exact hsz48) (by exact Nat.le_trans hB.size hBa.size) ?_; intro v1 W2 hO1 hg1 hat1))
            have hm9 : 0 < m9 := by have := g3.len_; have := S3.out; omega
            have hH1 := (hH.below hBa).snoc (q := ⟨A9, m9, c9⟩) (l := ls) ((g3.alloc _).alloc _) ⟨g1, g2, g4⟩ (fun x hx => by
              have hx' : A9 = some x := hx
              have h1 := g5 x hx'
              subst hx'
              refine ⟨Nat.le_trans hB.size h1, vals_block ((g3.alloc _).alloc _) hm9, fun e => ?_⟩
              have := hown x.block e.symm
              omega)
            have hH2 := hH1.grown hg1 hat1
            have hK1 := Kept.of_grown hg1
            have hB3 := below_kept (hB.trans (hBa.mono hB.size)) hK1 (Nat.le_trans hB.size hBa.size) (own_in hOa)
            go_roundw
            case rel => exact ⟨kn, false, ps ++ [⟨k, q, ls⟩], qs ++ [⟨A9, m9, c9⟩], rfl, rfl, by rw [← HKN.out]; exact HW2.out, by rw [HSN.out, ← HDD.out, List.length_append, List.length_singleton]; exact hO1, by rw [List.map_append]; exact hH2, hB3⟩
            case measure => simp [intOf]; have := HKN.out; omega
          · have hW2 := walking_bad HW.out h6 h0
            have hl1 := ne_nil h6
            rw [List.length_drop, hlen] at hl1
            have HL1 := Lib.hid hl1
            clear hl1
            have HW2 := Lib.hid hW2
            clear hW2
            generalize lookSeq (b.drop k) = q at hlk
            generalize lookL (b.drop k) = ls at hlk
            generalize lookN (b.drop k) = N at hlk
            generalize lookE (b.drop k) = E at *
            have h6z : (E == 6) = false := by simp; exact h6
            have h0z : (E == 0) = false := by simp; exact h0
            have H6 := Lib.hid h6
            have H0 := Lib.hid h0
            clear h6 h0
            go_wp2_with (go_at_call 22; ((with_reducible refine hlk.mono ?_); rintro e W1 ⟨A9, m9, c9, rfl, g1, g2, g3, g4, g5, hB1⟩; have hB2 := hB1.alloc hB1.size (.cells #[.int .u8 (q : Nat), .slice A9 m9 c9] 34)))
            go_roundw
            case rel => exact ⟨k + 1, true, ps, qs, by go_num, rfl, HW2.out, own_kept hO (Kept.of_below (S := []) hB2) (by simp), hH.below hB2, hB.trans (hB2.mono hB.size)⟩
            case measure => have := HL1.out; simp [intOf]; omega
end Go.Proofs.Ytlhjligeigkbnaa.Par
