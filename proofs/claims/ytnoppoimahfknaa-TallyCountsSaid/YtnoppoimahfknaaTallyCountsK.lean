/- TallyCounts: the walk. -/
import Derived.Test.YtnoppoimahfknaaTallyRef3
import Derived.Test.YtnoppoimahfknaaTallyDeeds
import Derived.Test.YtnoppoimahfknaaRegionMore
set_option linter.unusedSimpArgs false
set_option linter.unusedVariables false
namespace Go.Proofs.Ytnoppoimahfknaa.Tally
open Go.RowKit RI64
/-- The tally (in block b) stands as s, the document's state (in block y, its distances in A) as s2; the limits lie in block x. -/
structure Cn (w : World) (b x y : Nat) (l : Lim) (s s2 : St) (A : Option Addr) (c : Nat) (W : World) : Prop where
  mt : Mt w b l s W
  lim : Has W x 52 (limC l)
  st : Has W y 63 #[.bool s2.begun, .int .i64 s2.last, .slice A s2.rs.length c]
  row : Vals W A s2.rs.length s2.rs.reverse
  off : ∀ z, A = some z → z.block ≠ y ∧ z.block ≠ b ∧ z.block < W.heap.size
  ne_ : x ≠ b ∧ y ≠ b ∧ x ≠ y ∧ w.heap.size ≤ y
section
variable {w W W' : World} {b x y c : Nat} {l : Lim} {s s2 s' : St} {A : Option Addr}
theorem Cn.grow (h : Cn w b x y l s s2 A c W) (hB : Below W.heap.size W W') : Cn w b x y l s s2 A c W' :=
  ⟨h.mt.grow hB, h.lim.below hB h.lim.lt, h.st.below hB h.st.lt, h.row.below hB, fun z hz => ⟨(h.off z hz).1, (h.off z hz).2.1, Nat.lt_of_lt_of_le (h.off z hz).2.2 hB.size⟩, h.ne_⟩
theorem Cn.turn (h : Cn w b x y l s s2 A c W) (hT : Tal W' b l s') (hK : Kept [b] W W') : Cn w b x y l s' s2 A c W' :=
  ⟨h.mt.turn hT hK, hK.has h.lim (by simpa using h.ne_.1), hK.has h.st (by simpa using h.ne_.2.1), h.row.kept hK (fun _ z hz => by simpa using (h.off z hz).2.1), fun z hz => ⟨(h.off z hz).1, (h.off z hz).2.1, Nat.lt_of_lt_of_le (h.off z hz).2.2 hK.size⟩, h.ne_⟩
/-- The document's state is stored anew. -/
theorem Cn.store {A' : Option Addr} {c' : Nat} (h : Cn w b x y l s s2 A c W) (hv : Vals W A' s'.rs.length s'.rs.reverse) (ho : ∀ z, A' = some z → z.block ≠ y ∧ z.block ≠ b ∧ z.block < W.heap.size) :
    Cn w b x y l s s' A' c' (((W.setCell ⟨y, 0, none⟩ (.bool s'.begun)).setCell ⟨y, 1, none⟩ (.int .i64 s'.last)).setCell ⟨y, 2, none⟩ (.slice A' s'.rs.length c')) := by
  have hK := (((Kept.refl [y] W).setCell (p := ⟨y, 0, none⟩) (.inl (by simp)) (.bool s'.begun)).setCell (p := ⟨y, 1, none⟩) (.inl (by simp)) (.int .i64 s'.last)).setCell (p := ⟨y, 2, none⟩) (.inl (by simp)) (.slice A' s'.rs.length c')
  have hS := ((h.st.set_ 0 (.bool s'.begun)).set_ 1 (.int .i64 s'.last)).set_ 2 (.slice A' s'.rs.length c')
  simp only [List.setIfInBounds_toArray, List.set_cons_zero, List.set_cons_succ] at hS
  have hn := h.ne_
  refine ⟨⟨h.mt.tal.kept hK (by simp; omega), below_kept h.mt.below hK h.mt.below.size (fun k hk => by simp at hk; omega), h.mt.far⟩, hK.has h.lim (by simp; omega), hS, hv.kept hK (fun _ z hz => by simpa using (ho z hz).1), fun z hz => ⟨(ho z hz).1, (ho z hz).2.1, Nat.lt_of_lt_of_le (ho z hz).2.2 hK.size⟩, hn⟩
end
set_option maxRecDepth 100000 in
theorem counts_no (z0 : Lim) (a1 : Option Addr) (len1 cap1 : Nat) (a2 : Int) (w : World) (hm : mayT z0 = false) :
    Calls Try.prog 9 #[limV z0, .slice a1 len1 cap1, .int .i64 a2] w fun e w' => e = .returned (.bool true) ∧ Below w.heap.size w w' := by
  have hnew := fun W => new_no z0 W hm
  have hrc := fun W => refcheck_any z0 W
  have hli := fun W => live_k W
  rw [hm] at hrc
  obtain ⟨l0, l1, l2, l3, l4, l5, l6, l7, l8⟩ := z0
  unfold limV at hnew hrc ⊢
  dsimp only at hnew hrc ⊢
  have hX := Has.new w 52 #[.int .i64 l0, .int .i64 l1, .int .i64 l2, .int .i64 l3, .int .i64 l4, .int .i64 l5, .int .i64 l6, .int .i64 l7, .int .i64 l8]
  have hB := (Below.refl w.heap.size w).alloc (Nat.le_refl _) (.cells #[.int .i64 l0, .int .i64 l1, .int .i64 l2, .int .i64 l3, .int .i64 l4, .int .i64 l5, .int .i64 l6, .int .i64 l7, .int .i64 l8] 52)
  clear hm
  go_enter Try.func9, Try.ntmps9
  go_wp2_with (first
    | (go_at_call 24; ((with_reducible refine (hnew _).mono ?_); rintro e W1 ⟨rfl, hB1⟩; have hX1 := hX.below hB1 hX.lt; have hC1 := hB.trans (hB1.mono hB.size); have c0 := hX1.cell 0; have c1 := hX1.cell 1; have c2 := hX1.cell 2; have c3 := hX1.cell 3; have c4 := hX1.cell 4; have c5 := hX1.cell 5; have c6 := hX1.cell 6; have c7 := hX1.cell 7; have c8 := hX1.cell 8))
    | (go_at_call 25; ((with_reducible refine (hrc _).mono ?_); rintro e W2 ⟨rfl, hB2⟩; have hC2 := hC1.trans (hB2.mono hC1.size)))
    | (go_at_call 27; ((with_reducible refine (hli _).mono ?_); rintro e W3 ⟨rfl, hB3⟩; have hC3 := hC2.trans (hB3.mono hC2.size))))
  go_ret
  exact ⟨rfl, hC3⟩

set_option maxRecDepth 100000 in
set_option maxHeartbeats 8000000 in
theorem counts_k (z0 : Lim) (a1 : Option Addr) (len1 cap1 : Nat) (a2 : Int) (w : World) (w1 : IsDeeds w a1 len1 cap1) :
    Calls Try.prog 9 #[limV z0, .slice a1 len1 cap1, .int .i64 a2] w fun e w' => e = .returned (.bool true) ∧ Below w.heap.size w w' := by
  cases hm : mayT z0 with
  | false => exact counts_no z0 a1 len1 cap1 a2 w hm
  | true =>
  have hmay := may_of hm
  obtain ⟨p, hp⟩ : ∃ p, min len1 60 = p := ⟨_, rfl⟩
  have hp1 : p ≤ len1 := by omega
  have hp2 : p ≤ 60 := by omega
  have hminA : (if (60 : Int) < (len1 : Int) then (60 : Int) else (len1 : Int)) = (p : Int) := by split <;> omega
  have hl1 : len1 ≤ cap1 ∧ cap1 ≤ 9223372036854775807 := by
    rcases w1 with ⟨_, rfl, rfl⟩ | ⟨x, _, h1, h2, _⟩
    · omega
    · unfold maxLen at h2; omega
  have hD : ∀ r, r < p → ∃ x D A L C Z N, a1 = some x ∧ (∀ W, Below w.heap.size w W → W.cell? (x.add (r * 3)) = some (.int .i64 D) ∧ W.cell? (x.add (r * 3 + 1)) = some (.int .i64 N) ∧ W.cell? (x.add (r * 3 + 2)) = some (.slice A L C)) ∧ IsRow .i64 w A L C Z := fun r hr => by
    rcases w1 with ⟨_, rfl, rfl⟩ | ⟨x, hx, h1, h2, h3⟩
    · omega
    · obtain ⟨D, A, L, C, Z, N, c0, c1, c2, _, hR, _⟩ := h3 r (by omega)
      exact ⟨x, D, A, L, C, Z, N, hx, fun W hB => ⟨(World.cell?_of_block (w := w) (hB.block _ (World.block_lt_of_cell? _ _ c0))).trans c0, (World.cell?_of_block (w := w) (hB.block _ (World.block_lt_of_cell? _ _ c1))).trans c1, (World.cell?_of_block (w := w) (hB.block _ (World.block_lt_of_cell? _ _ c2))).trans c2⟩, hR⟩
  have HD := Lib.hid hD
  clear hD w1 hp
  have hp3 : p ≤ cap1 := by omega
  have hnew := fun W => new_yes z0 W hm
  have hli := fun W => live_k W
  clear hm
  obtain ⟨l0, l1, l2, l3, l4, l5, l6, l7, l8⟩ := z0
  unfold limV at hnew ⊢
  dsimp only at hnew ⊢
  have hX := Has.new w 52 #[.int .i64 l0, .int .i64 l1, .int .i64 l2, .int .i64 l3, .int .i64 l4, .int .i64 l5, .int .i64 l6, .int .i64 l7, .int .i64 l8]
  have hB := (Below.refl w.heap.size w).alloc (Nat.le_refl _) (.cells #[.int .i64 l0, .int .i64 l1, .int .i64 l2, .int .i64 l3, .int .i64 l4, .int .i64 l5, .int .i64 l6, .int .i64 l7, .int .i64 l8] 52)
  go_enter Try.func9, Try.ntmps9
  go_wp2_with (first
    | (go_at_call 24; ((with_reducible refine (hnew _).mono ?_); rintro e W1 ⟨b, rfl, hT, hf, hB1⟩; have hX1 := hX.below hB1 hX.lt; have hxb : w.heap.size < b := Nat.lt_of_lt_of_le hX.lt hf; have hM1 : Mt w b ⟨l0, l1, l2, l3, l4, l5, l6, l7, l8⟩ st0 W1 := ⟨hT, hB.trans (hB1.mono hB.size), Nat.le_trans hB.size hf⟩; have hlt := hT.lt; have hC0 : Cn w b w.heap.size W1.heap.size ⟨l0, l1, l2, l3, l4, l5, l6, l7, l8⟩ st0 st0 none 0 (W1.alloc (.cells #[.bool false, .int .i64 0, .slice none 0 0] 63)) := ⟨hM1.alloc _, hX1.alloc _, Has.new W1 _ _, Vals.none_ _, (fun z hz => by cases hz), by omega⟩; clear hT hf hB1 hX1 hM1))
    )
  clear hX hB hnew hminA
  generalize W1.alloc (.cells #[.bool false, .int .i64 0, .slice none 0 0] 63) = W2 at *
  obtain ⟨y, hy⟩ : ∃ y, W1.heap.size = y := ⟨_, rfl⟩
  rw [hy] at hC0 hlt
  rw [hy]
  clear hy hlt
  go_loopw [33] (fun i wr => ∃ (j : Nat) (s : St) (A : Option Addr) (c : Nat), j ≤ p ∧ i = .int .i64 (j : Nat) ∧ s.rs.length ≤ 8 * j ∧ Cn w b w.heap.size y ⟨l0, l1, l2, l3, l4, l5, l6, l7, l8⟩ s s A c wr) (fun i _ => p - (intOf i).toNat)
  case atStart => exact ⟨0, st0, none, 0, by omega, rfl, by unfold st0; simp, hC0⟩
  case round =>
    clear hC0
    obtain ⟨j, s, A, c, hj, rfl, hsl, hC⟩ := hrel
    by_cases hjp : j < p
    · obtain ⟨x', D, A2, L2, C2, Z2, N, rfl, hcs, hR⟩ := HD.out j hjp
      obtain ⟨k0, k1, k2⟩ := hcs wr hC.mt.below
      rw [← RI64.addr_add] at k1 k2
      replace k1 : wr.cell? ⟨(x'.add (j * 3)).block, (x'.add (j * 3)).off + 1, none⟩ = _ := k1
      replace k2 : wr.cell? ⟨(x'.add (j * 3)).block, (x'.add (j * 3)).off + 2, none⟩ = _ := k2
      obtain ⟨q, hq⟩ : ∃ q, min L2 8 = q := ⟨_, rfl⟩
      have hq1 : q ≤ L2 := by omega
      have hq2 : q ≤ 8 := by omega
      have hminB : (if (8 : Int) < (L2 : Int) then (8 : Int) else (L2 : Int)) = (q : Int) := by split <;> omega
      obtain ⟨hVr, hLc, hCm, hfarR⟩ := row_vals hR q hq1
      have hqc : q ≤ C2 := by omega
      have hrl : (Z2.take q).length = q := hVr.len_
      generalize Z2.take q = rr at *
      clear hq hcs hR
      obtain ⟨z, hz⟩ : ∃ z, wr.heap.size = z := ⟨_, rfl⟩
      by_cases h0 : D = 0
      · subst h0
        have hCz := hC.grow ((Below.refl _ wr).alloc (Nat.le_refl _) (.cells #[.int .i64 0, .int .i64 N, .slice A2 L2 C2] 65))
        have hZ := Has.new wr 65 #[.int .i64 0, .int .i64 N, .slice A2 L2 C2]
        have hzy : y < wr.heap.size := hC.st.lt
        have hzb : b < wr.heap.size := hC.mt.tal.lt
        rw [hz] at hZ hzy hzb
        have d0 := hZ.cell 0
        have d1 := hZ.cell 1
        have d2 := hZ.cell 2
        have hbe := fun W h => begin_k b ⟨l0, l1, l2, l3, l4, l5, l6, l7, l8⟩ s N W h
        have hrb0 := fun W => refbegin_any N W
        unfold stV at hrb0
        have hbv : (beginT N).rs = [] := rfl
        obtain ⟨s1, hs1⟩ : ∃ s1, beginT N = s1 := ⟨_, rfl⟩
        rw [hs1] at hbe hrb0 hbv
        have HBV := Lib.hid hbv
        clear hs1 hbv
        go_wp2_with (first
          | (go_at_call 28; ((with_reducible refine (hbe _ hCz.mt.tal).mono ?_); rintro e W5 ⟨rfl, hT5, hK5⟩; have hC5 := hCz.turn hT5 hK5; have hZ5 := hK5.has hZ (by simp; omega); have z1 := hZ5.cell 1))
          | (go_at_call 29; ((with_reducible refine (hrb0 _).mono ?_); rintro e W6 ⟨rfl, hB6⟩; have hC6 := hC5.grow hB6; have hZ6 := hZ5.below hB6 hZ5.lt; have y0 := hC6.st.cell 0; have y1 := hC6.st.cell 1; have y2 := hC6.st.cell 2; have g0 := hC6.st.frozen 0; have g1 := hC6.st.frozen 1; have g2 := hC6.st.frozen 2)))
        have hC := hC6.store (s' := s1) (A' := none) (c' := 0) (by rw [HBV.out]; exact Vals.none_ _) (fun z hz => by cases hz)
        have hZ := ((hZ6.far (p := ⟨y, 0, none⟩) (by simp; omega) (.bool s1.begun)).far (p := ⟨y, 1, none⟩) (by simp; omega) (.int .i64 s1.last)).far (p := ⟨y, 2, none⟩) (by simp; omega) (.slice none s1.rs.length 0)
        have hn1 : s1.rs.length ≤ 8 * (j + 1) := by rw [HBV.out]; simp
        clear hC5 hC6 hT5 hK5 hZ5 hZ6 hB6 z1 y0 y1 y2 g0 g1 g2 d0 d1 d2 hCz hrb0 hbe HBV
        generalize ((W6.setCell ⟨y, 0, none⟩ (.bool s1.begun)).setCell ⟨y, 1, none⟩ (.int .i64 s1.last)).setCell ⟨y, 2, none⟩ (.slice none s1.rs.length 0) = W7 at *
        go_wp2
        have hbg := fun W (h : Cn w b w.heap.size y ⟨l0, l1, l2, l3, l4, l5, l6, l7, l8⟩ s1 s1 none 0 W) => (begun_k b _ s1 W h.mt.tal).mono fun e w' ⟨q1, q2⟩ => (show e = Ending.returned (.bool s1.begun) ∧ Below W.heap.size W w' from ⟨q1, by rw [← q2]; exact Below.refl _ W⟩)
        have hta := fun W (h : Cn w b w.heap.size y ⟨l0, l1, l2, l3, l4, l5, l6, l7, l8⟩ s1 s1 none 0 W) => tach_k b _ s1 W h.mt.tal
        have hbr := fun W (h : Cn w b w.heap.size y ⟨l0, l1, l2, l3, l4, l5, l6, l7, l8⟩ s1 s1 none 0 W) => brad_k b _ s1 W h.mt.tal
        have hs1 := fun W (h : Cn w b w.heap.size y ⟨l0, l1, l2, l3, l4, l5, l6, l7, l8⟩ s1 s1 none 0 W) => still_k b _ s1 a2 W h.mt.tal
        have hs2 := fun W (h : Cn w b w.heap.size y ⟨l0, l1, l2, l3, l4, l5, l6, l7, l8⟩ s1 s1 none 0 W) => still_k b _ s1 N W h.mt.tal
        have hrt := fun W (h : Cn w b w.heap.size y ⟨l0, l1, l2, l3, l4, l5, l6, l7, l8⟩ s1 s1 none 0 W) => reftach_any ⟨l0, l1, l2, l3, l4, l5, l6, l7, l8⟩ s1 none 0 W h.row (by omega) hmay.tachN
        have hrb := fun W (h : Cn w b w.heap.size y ⟨l0, l1, l2, l3, l4, l5, l6, l7, l8⟩ s1 s1 none 0 W) => refbrad_any ⟨l0, l1, l2, l3, l4, l5, l6, l7, l8⟩ s1 none 0 W h.row (by omega) hmay.bradN
        have hr1 := fun W (h : Cn w b w.heap.size y ⟨l0, l1, l2, l3, l4, l5, l6, l7, l8⟩ s1 s1 none 0 W) => refstill_any ⟨l0, l1, l2, l3, l4, l5, l6, l7, l8⟩ s1 none 0 a2 W h.mt.tal.last
        have hr2 := fun W (h : Cn w b w.heap.size y ⟨l0, l1, l2, l3, l4, l5, l6, l7, l8⟩ s1 s1 none 0 W) => refstill_any ⟨l0, l1, l2, l3, l4, l5, l6, l7, l8⟩ s1 none 0 N W h.mt.tal.last
        have hnb := never_both hmay s1.rs
        unfold stV limV at hrt hrb hr1 hr2
        dsimp only at hrt hrb hr1 hr2
        generalize tachT _ s1.rs = rT at *
        generalize bradT _ s1.rs = rB at *
        generalize stillT _ s1 a2 = r1 at *
        generalize stillT _ s1 N = r2 at *
        replace hC := hC.grow (below_drewN (Below.refl _ W7) 1)
        replace hZ := hZ.drew
        refine Reg.begin_ (S := fun W => W.cell? ⟨w.heap.size, 0, none⟩ = some (.int .i64 l0) ∧ W.cell? ⟨w.heap.size, 1, none⟩ = some (.int .i64 l1) ∧ W.cell? ⟨w.heap.size, 2, none⟩ = some (.int .i64 l2) ∧ W.cell? ⟨w.heap.size, 3, none⟩ = some (.int .i64 l3) ∧ W.cell? ⟨w.heap.size, 4, none⟩ = some (.int .i64 l4) ∧ W.cell? ⟨w.heap.size, 5, none⟩ = some (.int .i64 l5) ∧ W.cell? ⟨w.heap.size, 6, none⟩ = some (.int .i64 l6) ∧ W.cell? ⟨w.heap.size, 7, none⟩ = some (.int .i64 l7) ∧ W.cell? ⟨w.heap.size, 8, none⟩ = some (.int .i64 l8) ∧ W.cell? ⟨y, 0, none⟩ = some (.bool s1.begun) ∧ W.cell? ⟨y, 1, none⟩ = some (.int .i64 s1.last) ∧ W.cell? ⟨y, 2, none⟩ = some (.slice none s1.rs.length 0) ∧ W.cell? ⟨z, 1, none⟩ = some (.int .i64 N)) (by kernel_rfl) (by exact ⟨hC.lim.cell 0, hC.lim.cell 1, hC.lim.cell 2, hC.lim.cell 3, hC.lim.cell 4, hC.lim.cell 5, hC.lim.cell 6, hC.lim.cell 7, hC.lim.cell 8, hC.st.cell 0, hC.st.cell 1, hC.st.cell 2, hZ.cell 1⟩) (fun hHeld => ?_)
        change Cn w b w.heap.size y _ s1 s1 none 0 W7.drew at hC
        generalize W7.drew = W8 at *
        refine Reg.take (i := 0) (v := ?v1) rfl (by kernel_rfl) (by kernel_rfl) (by kernel_rfl) (by rfl) ?hv1 (by assumption) ?rest1
        case hv1 => first | (intro w hSw; (try dsimp only at hSw); go_simp; done) | (intro w hSw; (try dsimp only at hSw); go_simp; with_reducible rfl)
        (try simp only [Act.put, List.setIfInBounds_toArray, List.set_cons_zero, List.set_cons_succ])
        refine Reg.take (i := 2) (v := ?v2) rfl (by kernel_rfl) (by kernel_rfl) (by kernel_rfl) (by rfl) ?hv2 (by assumption) ?rest2
        case hv2 => first | (intro w hSw; (try dsimp only at hSw); go_simp; done) | (intro w hSw; (try dsimp only at hSw); go_simp; with_reducible rfl)
        (try simp only [Act.put, List.setIfInBounds_toArray, List.set_cons_zero, List.set_cons_succ])
        refine Reg.take (i := 3) (v := ?v3) rfl (by kernel_rfl) (by kernel_rfl) (by kernel_rfl) (by rfl) ?hv3 (by assumption) ?rest3
        case hv3 => first | (intro w hSw; (try dsimp only at hSw); go_simp; done) | (intro w hSw; (try dsimp only at hSw); go_simp; with_reducible rfl)
        (try simp only [Act.put, List.setIfInBounds_toArray, List.set_cons_zero, List.set_cons_succ])
        refine Reg.call (i := 1) rfl (by kernel_rfl) (by rfl) ?_
        intro K hK
        go_simp
        go_at_call 33
        (with_reducible refine (hbg _ hC).mono ?_)
        rintro e Wn ⟨rfl, hBn⟩
        replace hC := hC.grow hBn
        replace hZ := hZ.below hBn hZ.lt
        clear hBn hHeld
        refine hK.out _ _ (by exact ⟨hC.lim.cell 0, hC.lim.cell 1, hC.lim.cell 2, hC.lim.cell 3, hC.lim.cell 4, hC.lim.cell 5, hC.lim.cell 6, hC.lim.cell 7, hC.lim.cell 8, hC.st.cell 0, hC.st.cell 1, hC.st.cell 2, hZ.cell 1⟩) (fun hHeld => ?_)
        clear hK K
        (try simp only [Act.put, List.setIfInBounds_toArray, List.set_cons_zero, List.set_cons_succ])
        refine Reg.take (i := 4) (v := ?v4) rfl (by kernel_rfl) (by kernel_rfl) (by kernel_rfl) (by rfl) ?hv4 (by assumption) ?rest4
        case hv4 => first | (intro w hSw; (try dsimp only at hSw); go_simp; done) | (intro w hSw; (try dsimp only at hSw); go_simp; with_reducible rfl)
        (try simp only [Act.put, List.setIfInBounds_toArray, List.set_cons_zero, List.set_cons_succ])
        refine Reg.take (i := 5) (v := ?v5) rfl (by kernel_rfl) (by kernel_rfl) (by kernel_rfl) (by rfl) ?hv5 (by assumption) ?rest5
        case hv5 => first | (intro w hSw; (try dsimp only at hSw); go_simp; done) | (intro w hSw; (try dsimp only at hSw); go_simp; with_reducible rfl)
        (try simp only [Act.put, List.setIfInBounds_toArray, List.set_cons_zero, List.set_cons_succ])
        (try simp only [bne_self_eq_false])
        refine Reg.take (i := 6) (v := ?v6) rfl (by kernel_rfl) (by kernel_rfl) (by kernel_rfl) (by rfl) ?hv6 (by assumption) ?rest6
        case hv6 => first | (intro w hSw; (try dsimp only at hSw); go_simp; done) | (intro w hSw; (try dsimp only at hSw); go_simp; with_reducible rfl)
        (try simp only [Act.put, List.setIfInBounds_toArray, List.set_cons_zero, List.set_cons_succ])
        refine Reg.take (i := 8) (v := ?v7) rfl (by kernel_rfl) (by kernel_rfl) (by kernel_rfl) (by rfl) ?hv7 (by assumption) ?rest7
        case hv7 => first | (intro w hSw; (try dsimp only at hSw); go_simp; done) | (intro w hSw; (try dsimp only at hSw); go_simp; with_reducible rfl)
        (try simp only [Act.put, List.setIfInBounds_toArray, List.set_cons_zero, List.set_cons_succ])
        refine Reg.take (i := 9) (v := ?v8) rfl (by kernel_rfl) (by kernel_rfl) (by kernel_rfl) (by rfl) ?hv8 (by assumption) ?rest8
        case hv8 => first | (intro w hSw; (try dsimp only at hSw); go_simp; done) | (intro w hSw; (try dsimp only at hSw); go_simp; with_reducible rfl)
        (try simp only [Act.put, List.setIfInBounds_toArray, List.set_cons_zero, List.set_cons_succ])
        refine Reg.call (i := 7) rfl (by kernel_rfl) (by rfl) ?_
        intro K hK
        go_simp
        go_at_call 34
        (with_reducible refine (hta _ hC).mono ?_)
        rintro e Wn ⟨rfl, hBn⟩
        replace hC := hC.grow hBn
        replace hZ := hZ.below hBn hZ.lt
        clear hBn hHeld
        refine hK.out _ _ (by exact ⟨hC.lim.cell 0, hC.lim.cell 1, hC.lim.cell 2, hC.lim.cell 3, hC.lim.cell 4, hC.lim.cell 5, hC.lim.cell 6, hC.lim.cell 7, hC.lim.cell 8, hC.st.cell 0, hC.st.cell 1, hC.st.cell 2, hZ.cell 1⟩) (fun hHeld => ?_)
        clear hK K
        (try simp only [Act.put, List.setIfInBounds_toArray, List.set_cons_zero, List.set_cons_succ])
        refine Reg.call (i := 10) rfl (by kernel_rfl) (by rfl) ?_
        intro K hK
        go_simp
        go_at_call 35
        (with_reducible refine (hrt _ hC).mono ?_)
        rintro e Wn ⟨rfl, hBn⟩
        replace hC := hC.grow hBn
        replace hZ := hZ.below hBn hZ.lt
        clear hBn hHeld
        refine hK.out _ _ (by exact ⟨hC.lim.cell 0, hC.lim.cell 1, hC.lim.cell 2, hC.lim.cell 3, hC.lim.cell 4, hC.lim.cell 5, hC.lim.cell 6, hC.lim.cell 7, hC.lim.cell 8, hC.st.cell 0, hC.st.cell 1, hC.st.cell 2, hZ.cell 1⟩) (fun hHeld => ?_)
        clear hK K
        (try simp only [Act.put, List.setIfInBounds_toArray, List.set_cons_zero, List.set_cons_succ])
        refine Reg.take (i := 11) (v := ?v9) rfl (by kernel_rfl) (by kernel_rfl) (by kernel_rfl) (by rfl) ?hv9 (by assumption) ?rest9
        case hv9 => first | (intro w hSw; (try dsimp only at hSw); go_simp; done) | (intro w hSw; (try dsimp only at hSw); go_simp; with_reducible rfl)
        (try simp only [Act.put, List.setIfInBounds_toArray, List.set_cons_zero, List.set_cons_succ])
        (try simp only [bne_self_eq_false])
        refine Reg.take (i := 12) (v := ?v10) rfl (by kernel_rfl) (by kernel_rfl) (by kernel_rfl) (by rfl) ?hv10 (by assumption) ?rest10
        case hv10 => first | (intro w hSw; (try dsimp only at hSw); go_simp; done) | (intro w hSw; (try dsimp only at hSw); go_simp; with_reducible rfl)
        (try simp only [Act.put, List.setIfInBounds_toArray, List.set_cons_zero, List.set_cons_succ])
        refine Reg.take (i := 13) (v := ?v11) rfl (by kernel_rfl) (by kernel_rfl) (by kernel_rfl) (by rfl) ?hv11 (by assumption) ?rest11
        case hv11 => first | (intro w hSw; (try dsimp only at hSw); go_simp; done) | (intro w hSw; (try dsimp only at hSw); go_simp; with_reducible rfl)
        (try simp only [Act.put, List.setIfInBounds_toArray, List.set_cons_zero, List.set_cons_succ])
        refine Reg.take (i := 14) (v := ?v12) rfl (by kernel_rfl) (by kernel_rfl) (by kernel_rfl) (by rfl) ?hv12 (by assumption) ?rest12
        case hv12 => first | (intro w hSw; (try dsimp only at hSw); go_simp; done) | (intro w hSw; (try dsimp only at hSw); go_simp; with_reducible rfl)
        (try simp only [Act.put, List.setIfInBounds_toArray, List.set_cons_zero, List.set_cons_succ])
        refine Reg.take (i := 16) (v := ?v13) rfl (by kernel_rfl) (by kernel_rfl) (by kernel_rfl) (by rfl) ?hv13 (by assumption) ?rest13
        case hv13 => first | (intro w hSw; (try dsimp only at hSw); go_simp; done) | (intro w hSw; (try dsimp only at hSw); go_simp; with_reducible rfl)
        (try simp only [Act.put, List.setIfInBounds_toArray, List.set_cons_zero, List.set_cons_succ])
        refine Reg.take (i := 17) (v := ?v14) rfl (by kernel_rfl) (by kernel_rfl) (by kernel_rfl) (by rfl) ?hv14 (by assumption) ?rest14
        case hv14 => first | (intro w hSw; (try dsimp only at hSw); go_simp; done) | (intro w hSw; (try dsimp only at hSw); go_simp; with_reducible rfl)
        (try simp only [Act.put, List.setIfInBounds_toArray, List.set_cons_zero, List.set_cons_succ])
        refine Reg.call (i := 15) rfl (by kernel_rfl) (by rfl) ?_
        intro K hK
        go_simp
        go_at_call 36
        (with_reducible refine (hbr _ hC).mono ?_)
        rintro e Wn ⟨rfl, hBn⟩
        replace hC := hC.grow hBn
        replace hZ := hZ.below hBn hZ.lt
        clear hBn hHeld
        refine hK.out _ _ (by exact ⟨hC.lim.cell 0, hC.lim.cell 1, hC.lim.cell 2, hC.lim.cell 3, hC.lim.cell 4, hC.lim.cell 5, hC.lim.cell 6, hC.lim.cell 7, hC.lim.cell 8, hC.st.cell 0, hC.st.cell 1, hC.st.cell 2, hZ.cell 1⟩) (fun hHeld => ?_)
        clear hK K
        (try simp only [Act.put, List.setIfInBounds_toArray, List.set_cons_zero, List.set_cons_succ])
        refine Reg.call (i := 18) rfl (by kernel_rfl) (by rfl) ?_
        intro K hK
        go_simp
        go_at_call 37
        (with_reducible refine (hrb _ hC).mono ?_)
        rintro e Wn ⟨rfl, hBn⟩
        replace hC := hC.grow hBn
        replace hZ := hZ.below hBn hZ.lt
        clear hBn hHeld
        refine hK.out _ _ (by exact ⟨hC.lim.cell 0, hC.lim.cell 1, hC.lim.cell 2, hC.lim.cell 3, hC.lim.cell 4, hC.lim.cell 5, hC.lim.cell 6, hC.lim.cell 7, hC.lim.cell 8, hC.st.cell 0, hC.st.cell 1, hC.st.cell 2, hZ.cell 1⟩) (fun hHeld => ?_)
        clear hK K
        (try simp only [Act.put, List.setIfInBounds_toArray, List.set_cons_zero, List.set_cons_succ])
        refine Reg.take (i := 19) (v := ?v15) rfl (by kernel_rfl) (by kernel_rfl) (by kernel_rfl) (by rfl) ?hv15 (by assumption) ?rest15
        case hv15 => first | (intro w hSw; (try dsimp only at hSw); go_simp; done) | (intro w hSw; (try dsimp only at hSw); go_simp; with_reducible rfl)
        (try simp only [Act.put, List.setIfInBounds_toArray, List.set_cons_zero, List.set_cons_succ])
        (try simp only [bne_self_eq_false])
        refine Reg.take (i := 20) (v := ?v16) rfl (by kernel_rfl) (by kernel_rfl) (by kernel_rfl) (by rfl) ?hv16 (by assumption) ?rest16
        case hv16 => first | (intro w hSw; (try dsimp only at hSw); go_simp; done) | (intro w hSw; (try dsimp only at hSw); go_simp; with_reducible rfl)
        (try simp only [Act.put, List.setIfInBounds_toArray, List.set_cons_zero, List.set_cons_succ])
        refine Reg.take (i := 21) (v := ?v17) rfl (by kernel_rfl) (by kernel_rfl) (by kernel_rfl) (by rfl) ?hv17 (by assumption) ?rest17
        case hv17 => first | (intro w hSw; (try dsimp only at hSw); go_simp; done) | (intro w hSw; (try dsimp only at hSw); go_simp; with_reducible rfl)
        (try simp only [Act.put, List.setIfInBounds_toArray, List.set_cons_zero, List.set_cons_succ])
        refine Reg.take (i := 22) (v := ?v18) rfl (by kernel_rfl) (by kernel_rfl) (by kernel_rfl) (by rfl) ?hv18 (by assumption) ?rest18
        case hv18 => first | (intro w hSw; (try dsimp only at hSw); go_simp; done) | (intro w hSw; (try dsimp only at hSw); go_simp; with_reducible rfl)
        (try simp only [Act.put, List.setIfInBounds_toArray, List.set_cons_zero, List.set_cons_succ])
        refine Reg.take (i := 23) (v := ?v19) rfl (by kernel_rfl) (by kernel_rfl) (by kernel_rfl) (by rfl) ?hv19 (by assumption) ?rest19
        case hv19 => first | (intro w hSw; (try dsimp only at hSw); go_simp; done) | (intro w hSw; (try dsimp only at hSw); go_simp; with_reducible rfl)
        (try simp only [Act.put, List.setIfInBounds_toArray, List.set_cons_zero, List.set_cons_succ])
        refine Reg.take (i := 25) (v := ?v20) rfl (by kernel_rfl) (by kernel_rfl) (by kernel_rfl) (by rfl) ?hv20 (by assumption) ?rest20
        case hv20 => first | (intro w hSw; (try dsimp only at hSw); go_simp; done) | (intro w hSw; (try dsimp only at hSw); go_simp; with_reducible rfl)
        (try simp only [Act.put, List.setIfInBounds_toArray, List.set_cons_zero, List.set_cons_succ])
        refine Reg.take (i := 26) (v := ?v21) rfl (by kernel_rfl) (by kernel_rfl) (by kernel_rfl) (by rfl) ?hv21 (by assumption) ?rest21
        case hv21 => first | (intro w hSw; (try dsimp only at hSw); go_simp; done) | (intro w hSw; (try dsimp only at hSw); go_simp; with_reducible rfl)
        (try simp only [Act.put, List.setIfInBounds_toArray, List.set_cons_zero, List.set_cons_succ])
        refine Reg.take (i := 27) (v := ?v22) rfl (by kernel_rfl) (by kernel_rfl) (by kernel_rfl) (by rfl) ?hv22 (by assumption) ?rest22
        case hv22 => first | (intro w hSw; (try dsimp only at hSw); go_simp; done) | (intro w hSw; (try dsimp only at hSw); go_simp; with_reducible rfl)
        (try simp only [Act.put, List.setIfInBounds_toArray, List.set_cons_zero, List.set_cons_succ])
        refine Reg.call (i := 24) rfl (by kernel_rfl) (by rfl) ?_
        intro K hK
        go_simp
        go_at_call 38
        (with_reducible refine (hs1 _ hC).mono ?_)
        rintro e Wn ⟨rfl, hBn⟩
        replace hC := hC.grow hBn
        replace hZ := hZ.below hBn hZ.lt
        clear hBn hHeld
        refine hK.out _ _ (by exact ⟨hC.lim.cell 0, hC.lim.cell 1, hC.lim.cell 2, hC.lim.cell 3, hC.lim.cell 4, hC.lim.cell 5, hC.lim.cell 6, hC.lim.cell 7, hC.lim.cell 8, hC.st.cell 0, hC.st.cell 1, hC.st.cell 2, hZ.cell 1⟩) (fun hHeld => ?_)
        clear hK K
        (try simp only [Act.put, List.setIfInBounds_toArray, List.set_cons_zero, List.set_cons_succ])
        refine Reg.call (i := 28) rfl (by kernel_rfl) (by rfl) ?_
        intro K hK
        go_simp
        go_at_call 39
        (with_reducible refine (hr1 _ hC).mono ?_)
        rintro e Wn ⟨rfl, hBn⟩
        replace hC := hC.grow hBn
        replace hZ := hZ.below hBn hZ.lt
        clear hBn hHeld
        refine hK.out _ _ (by exact ⟨hC.lim.cell 0, hC.lim.cell 1, hC.lim.cell 2, hC.lim.cell 3, hC.lim.cell 4, hC.lim.cell 5, hC.lim.cell 6, hC.lim.cell 7, hC.lim.cell 8, hC.st.cell 0, hC.st.cell 1, hC.st.cell 2, hZ.cell 1⟩) (fun hHeld => ?_)
        clear hK K
        (try simp only [Act.put, List.setIfInBounds_toArray, List.set_cons_zero, List.set_cons_succ])
        refine Reg.take (i := 29) (v := ?v23) rfl (by kernel_rfl) (by kernel_rfl) (by kernel_rfl) (by rfl) ?hv23 (by assumption) ?rest23
        case hv23 => first | (intro w hSw; (try dsimp only at hSw); go_simp; done) | (intro w hSw; (try dsimp only at hSw); go_simp; with_reducible rfl)
        (try simp only [Act.put, List.setIfInBounds_toArray, List.set_cons_zero, List.set_cons_succ])
        (try simp only [bne_self_eq_false])
        refine Reg.take (i := 30) (v := ?v24) rfl (by kernel_rfl) (by kernel_rfl) (by kernel_rfl) (by rfl) ?hv24 (by assumption) ?rest24
        case hv24 => first | (intro w hSw; (try dsimp only at hSw); go_simp; done) | (intro w hSw; (try dsimp only at hSw); go_simp; with_reducible rfl)
        (try simp only [Act.put, List.setIfInBounds_toArray, List.set_cons_zero, List.set_cons_succ])
        refine Reg.take (i := 31) (v := ?v25) rfl (by kernel_rfl) (by kernel_rfl) (by kernel_rfl) (by rfl) ?hv25 (by assumption) ?rest25
        case hv25 => first | (intro w hSw; (try dsimp only at hSw); go_simp; done) | (intro w hSw; (try dsimp only at hSw); go_simp; with_reducible rfl)
        (try simp only [Act.put, List.setIfInBounds_toArray, List.set_cons_zero, List.set_cons_succ])
        refine Reg.take (i := 32) (v := ?v26) rfl (by kernel_rfl) (by kernel_rfl) (by kernel_rfl) (by rfl) ?hv26 (by assumption) ?rest26
        case hv26 => first | (intro w hSw; (try dsimp only at hSw); go_simp; done) | (intro w hSw; (try dsimp only at hSw); go_simp; with_reducible rfl)
        (try simp only [Act.put, List.setIfInBounds_toArray, List.set_cons_zero, List.set_cons_succ])
        refine Reg.take (i := 33) (v := ?v27) rfl (by kernel_rfl) (by kernel_rfl) (by kernel_rfl) (by rfl) ?hv27 (by assumption) ?rest27
        case hv27 => first | (intro w hSw; (try dsimp only at hSw); go_simp; done) | (intro w hSw; (try dsimp only at hSw); go_simp; with_reducible rfl)
        (try simp only [Act.put, List.setIfInBounds_toArray, List.set_cons_zero, List.set_cons_succ])
        refine Reg.take (i := 34) (v := ?v28) rfl (by kernel_rfl) (by kernel_rfl) (by kernel_rfl) (by rfl) ?hv28 (by assumption) ?rest28
        case hv28 => first | (intro w hSw; (try dsimp only at hSw); go_simp; done) | (intro w hSw; (try dsimp only at hSw); go_simp; with_reducible rfl)
        (try simp only [Act.put, List.setIfInBounds_toArray, List.set_cons_zero, List.set_cons_succ])
        refine Reg.take (i := 36) (v := ?v29) rfl (by kernel_rfl) (by kernel_rfl) (by kernel_rfl) (by rfl) ?hv29 (by assumption) ?rest29
        case hv29 => first | (intro w hSw; (try dsimp only at hSw); go_simp; done) | (intro w hSw; (try dsimp only at hSw); go_simp; with_reducible rfl)
        (try simp only [Act.put, List.setIfInBounds_toArray, List.set_cons_zero, List.set_cons_succ])
        refine Reg.take (i := 37) (v := ?v30) rfl (by kernel_rfl) (by kernel_rfl) (by kernel_rfl) (by rfl) ?hv30 (by assumption) ?rest30
        case hv30 => first | (intro w hSw; (try dsimp only at hSw); go_simp; done) | (intro w hSw; (try dsimp only at hSw); go_simp; with_reducible rfl)
        (try simp only [Act.put, List.setIfInBounds_toArray, List.set_cons_zero, List.set_cons_succ])
        refine Reg.take (i := 38) (v := ?v31) rfl (by kernel_rfl) (by kernel_rfl) (by kernel_rfl) (by rfl) ?hv31 (by assumption) ?rest31
        case hv31 => first | (intro w hSw; (try dsimp only at hSw); go_simp; done) | (intro w hSw; (try dsimp only at hSw); go_simp; with_reducible rfl)
        (try simp only [Act.put, List.setIfInBounds_toArray, List.set_cons_zero, List.set_cons_succ])
        refine Reg.take (i := 39) (v := ?v32) rfl (by kernel_rfl) (by kernel_rfl) (by kernel_rfl) (by rfl) ?hv32 (by assumption) ?rest32
        case hv32 => first | (intro w hSw; (try dsimp only at hSw); go_simp; done) | (intro w hSw; (try dsimp only at hSw); go_simp; with_reducible rfl)
        (try simp only [Act.put, List.setIfInBounds_toArray, List.set_cons_zero, List.set_cons_succ])
        refine Reg.call (i := 35) rfl (by kernel_rfl) (by rfl) ?_
        intro K hK
        go_simp
        go_at_call 38
        (with_reducible refine (hs2 _ hC).mono ?_)
        rintro e Wn ⟨rfl, hBn⟩
        replace hC := hC.grow hBn
        replace hZ := hZ.below hBn hZ.lt
        clear hBn hHeld
        refine hK.out _ _ (by exact ⟨hC.lim.cell 0, hC.lim.cell 1, hC.lim.cell 2, hC.lim.cell 3, hC.lim.cell 4, hC.lim.cell 5, hC.lim.cell 6, hC.lim.cell 7, hC.lim.cell 8, hC.st.cell 0, hC.st.cell 1, hC.st.cell 2, hZ.cell 1⟩) (fun hHeld => ?_)
        clear hK K
        (try simp only [Act.put, List.setIfInBounds_toArray, List.set_cons_zero, List.set_cons_succ])
        refine Reg.call (i := 40) rfl (by kernel_rfl) (by rfl) ?_
        intro K hK
        go_simp
        go_at_call 39
        (with_reducible refine (hr2 _ hC).mono ?_)
        rintro e Wn ⟨rfl, hBn⟩
        replace hC := hC.grow hBn
        replace hZ := hZ.below hBn hZ.lt
        clear hBn hHeld
        refine hK.out _ _ (by exact ⟨hC.lim.cell 0, hC.lim.cell 1, hC.lim.cell 2, hC.lim.cell 3, hC.lim.cell 4, hC.lim.cell 5, hC.lim.cell 6, hC.lim.cell 7, hC.lim.cell 8, hC.st.cell 0, hC.st.cell 1, hC.st.cell 2, hZ.cell 1⟩) (fun hHeld => ?_)
        clear hK K
        (try simp only [Act.put, List.setIfInBounds_toArray, List.set_cons_zero, List.set_cons_succ])
        refine Reg.take (i := 41) (v := ?v33) rfl (by kernel_rfl) (by kernel_rfl) (by kernel_rfl) (by rfl) ?hv33 (by assumption) ?rest33
        case hv33 => first | (intro w hSw; (try dsimp only at hSw); go_simp; done) | (intro w hSw; (try dsimp only at hSw); go_simp; with_reducible rfl)
        (try simp only [Act.put, List.setIfInBounds_toArray, List.set_cons_zero, List.set_cons_succ])
        (try simp only [bne_self_eq_false])
        refine Reg.take (i := 42) (v := ?v34) rfl (by kernel_rfl) (by kernel_rfl) (by kernel_rfl) (by rfl) ?hv34 (by assumption) ?rest34
        case hv34 => first | (intro w hSw; (try dsimp only at hSw); go_simp; done) | (intro w hSw; (try dsimp only at hSw); go_simp; with_reducible rfl)
        (try simp only [Act.put, List.setIfInBounds_toArray, List.set_cons_zero, List.set_cons_succ])
        refine Reg.take (i := 43) (v := ?v35) rfl (by kernel_rfl) (by kernel_rfl) (by kernel_rfl) (by rfl) ?hv35 (by assumption) ?rest35
        case hv35 => first | (intro w hSw; (try dsimp only at hSw); go_simp; done) | (intro w hSw; (try dsimp only at hSw); go_simp; with_reducible rfl)
        (try simp only [Act.put, List.setIfInBounds_toArray, List.set_cons_zero, List.set_cons_succ])
        refine Reg.take (i := 44) (v := ?v36) rfl (by kernel_rfl) (by kernel_rfl) (by kernel_rfl) (by rfl) ?hv36 (by assumption) ?rest36
        case hv36 => first | (intro w hSw; (try dsimp only at hSw); go_simp; done) | (intro w hSw; (try dsimp only at hSw); go_simp; with_reducible rfl)
        (try simp only [Act.put, List.setIfInBounds_toArray, List.set_cons_zero, List.set_cons_succ])
        refine Reg.call (i := 45) rfl (by kernel_rfl) (by rfl) ?_
        intro K hK
        go_simp
        go_at_call 34
        (with_reducible refine (hta _ hC).mono ?_)
        rintro e Wn ⟨rfl, hBn⟩
        replace hC := hC.grow hBn
        replace hZ := hZ.below hBn hZ.lt
        clear hBn hHeld
        refine hK.out _ _ (by exact ⟨hC.lim.cell 0, hC.lim.cell 1, hC.lim.cell 2, hC.lim.cell 3, hC.lim.cell 4, hC.lim.cell 5, hC.lim.cell 6, hC.lim.cell 7, hC.lim.cell 8, hC.st.cell 0, hC.st.cell 1, hC.st.cell 2, hZ.cell 1⟩) (fun hHeld => ?_)
        clear hK K
        (try simp only [Act.put, List.setIfInBounds_toArray, List.set_cons_zero, List.set_cons_succ])
        clear hbg hta hrt hrb hs1 hr1 hs2 hr2
        cases rT with
        | true =>
          have hrB : rB = false := by simpa using hnb
          subst hrB
          refine Reg.take (i := 46) (v := ?v37) rfl (by kernel_rfl) (by kernel_rfl) (by kernel_rfl) (by rfl) ?hv37 (by assumption) ?rest37
          case hv37 => first | (intro w hSw; (try dsimp only at hSw); go_simp; done) | (intro w hSw; (try dsimp only at hSw); go_simp; with_reducible rfl)
          (try simp only [Act.put, List.setIfInBounds_toArray, List.set_cons_zero, List.set_cons_succ])
          refine Reg.take (i := 47) (v := ?v38) rfl (by kernel_rfl) (by kernel_rfl) (by kernel_rfl) (by rfl) ?hv38 (by assumption) ?rest38
          case hv38 => first | (intro w hSw; (try dsimp only at hSw); go_simp; done) | (intro w hSw; (try dsimp only at hSw); go_simp; with_reducible rfl)
          (try simp only [Act.put, List.setIfInBounds_toArray, List.set_cons_zero, List.set_cons_succ])
          refine Reg.call (i := 48) rfl (by kernel_rfl) (by rfl) ?_
          intro K hK
          go_simp
          go_at_call 36
          (with_reducible refine (hbr _ hC).mono ?_)
          rintro e Wn ⟨rfl, hBn⟩
          replace hC := hC.grow hBn
          replace hZ := hZ.below hBn hZ.lt
          clear hBn hHeld
          refine hK.out _ _ (by exact ⟨hC.lim.cell 0, hC.lim.cell 1, hC.lim.cell 2, hC.lim.cell 3, hC.lim.cell 4, hC.lim.cell 5, hC.lim.cell 6, hC.lim.cell 7, hC.lim.cell 8, hC.st.cell 0, hC.st.cell 1, hC.st.cell 2, hZ.cell 1⟩) (fun hHeld => ?_)
          clear hK K
          (try simp only [Act.put, List.setIfInBounds_toArray, List.set_cons_zero, List.set_cons_succ])
          refine Reg.take (i := 49) (v := ?v39) rfl (by kernel_rfl) (by kernel_rfl) (by kernel_rfl) (by rfl) ?hv39 (by assumption) ?rest39
          case hv39 => first | (intro w hSw; (try dsimp only at hSw); go_simp; done) | (intro w hSw; (try dsimp only at hSw); go_simp; with_reducible rfl)
          (try simp only [Act.put, List.setIfInBounds_toArray, List.set_cons_zero, List.set_cons_succ])
          refine Reg.take (i := 50) (v := ?v40) rfl (by kernel_rfl) (by kernel_rfl) (by kernel_rfl) (by rfl) ?hv40 (by assumption) ?rest40
          case hv40 => first | (intro w hSw; (try dsimp only at hSw); go_simp; done) | (intro w hSw; (try dsimp only at hSw); go_simp; with_reducible rfl)
          (try simp only [Act.put, List.setIfInBounds_toArray, List.set_cons_zero, List.set_cons_succ])
          refine Reg.done (by kernel_rfl) ?_ _
          clear hHeld hbr
          have HC := Lib.hid hC
          clear hC hZ
          go_wp2
          go_roundw
          case rel => exact ⟨j + 1, s1, none, 0, by omega, by go_num, hn1, HC.out⟩
          case measure => simp [intOf]; omega
        | false =>
          refine Reg.take (i := 46) (v := ?v41) rfl (by kernel_rfl) (by kernel_rfl) (by kernel_rfl) (by rfl) ?hv41 (by assumption) ?rest41
          case hv41 => first | (intro w hSw; (try dsimp only at hSw); go_simp; done) | (intro w hSw; (try dsimp only at hSw); go_simp; with_reducible rfl)
          (try simp only [Act.put, List.setIfInBounds_toArray, List.set_cons_zero, List.set_cons_succ])
          refine Reg.skip (i := 47) rfl (by kernel_rfl) (by kernel_rfl) (by kernel_rfl) (by rfl) (by assumption) ?_
          (try simp only [Act.put, List.setIfInBounds_toArray, List.set_cons_zero, List.set_cons_succ])
          refine Reg.skip (i := 48) rfl (by kernel_rfl) (by kernel_rfl) (by kernel_rfl) (by rfl) (by assumption) ?_
          (try simp only [Act.put, List.setIfInBounds_toArray, List.set_cons_zero, List.set_cons_succ])
          refine Reg.take (i := 49) (v := ?v42) rfl (by kernel_rfl) (by kernel_rfl) (by kernel_rfl) (by rfl) ?hv42 (by assumption) ?rest42
          case hv42 => first | (intro w hSw; (try dsimp only at hSw); go_simp; done) | (intro w hSw; (try dsimp only at hSw); go_simp; with_reducible rfl)
          (try simp only [Act.put, List.setIfInBounds_toArray, List.set_cons_zero, List.set_cons_succ])
          refine Reg.take (i := 50) (v := ?v43) rfl (by kernel_rfl) (by kernel_rfl) (by kernel_rfl) (by rfl) ?hv43 (by assumption) ?rest43
          case hv43 => first | (intro w hSw; (try dsimp only at hSw); go_simp; done) | (intro w hSw; (try dsimp only at hSw); go_simp; with_reducible rfl)
          (try simp only [Act.put, List.setIfInBounds_toArray, List.set_cons_zero, List.set_cons_succ])
          refine Reg.done (by kernel_rfl) ?_ _
          clear hHeld hbr
          have HC := Lib.hid hC
          clear hC hZ
          go_wp2
          go_roundw
          case rel => exact ⟨j + 1, s1, none, 0, by omega, by go_num, hn1, HC.out⟩
          case measure => simp [intOf]; omega
      · by_cases h1 : D = 1
        · subst h1
          have hCz := hC.grow ((Below.refl _ wr).alloc (Nat.le_refl _) (.cells #[.int .i64 1, .int .i64 N, .slice A2 L2 C2] 65))
          have hZ := Has.new wr 65 #[.int .i64 1, .int .i64 N, .slice A2 L2 C2]
          have hzy : y < wr.heap.size := hC.st.lt
          have hzb : b < wr.heap.size := hC.mt.tal.lt
          rw [hz] at hZ hzy hzb
          have d0 := hZ.cell 0
          have d1 := hZ.cell 1
          have d2 := hZ.cell 2
          have hbe := fun W h hv hf => beat_k b ⟨l0, l1, l2, l3, l4, l5, l6, l7, l8⟩ s N A2 q C2 rr W h hv (by omega) (by omega) hf
          have hrb0 := fun W hv hu => refbeat_any s A c N A2 q C2 rr W hv hu (by omega) (by omega)
          unfold stV at hrb0
          have hn1 : (beatT s N rr).rs.length ≤ 8 * (j + 1) := by
            have := cnt_len rr s.rs
            unfold beatT
            dsimp only
            omega
          obtain ⟨s1, hs1⟩ : ∃ s1, beatT s N rr = s1 := ⟨_, rfl⟩
          rw [hs1] at hn1 hrb0 hbe
          clear hs1
          have HVR := Lib.hid hVr
          have HFR := Lib.hid hfarR
          clear hVr hfarR hrl
          have y0 := hCz.st.cell 0
          have y1 := hCz.st.cell 1
          have y2 := hCz.st.cell 2
          go_wp2_with (first
            | (go_at_call 30; ((with_reducible refine (hbe _ hCz.mt.tal (HVR.out.below hCz.mt.below) (fun x9 h9 hx9 => by have := HFR.out x9 h9 hx9; have := hCz.mt.far; omega)).mono ?_); rintro e W5 ⟨rfl, hT5, hK5⟩; have hC5 := hCz.turn hT5 hK5; have hZ5 := hK5.has hZ (by simp; omega); have z1 := hZ5.cell 1; have y0 := hC5.st.cell 0; have y1 := hC5.st.cell 1; have y2 := hC5.st.cell 2))
            | (go_at_call 31; ((with_reducible refine (hrb0 _ hC5.row (HVR.out.below hC5.mt.below)).mono ?_); rintro e W6 ⟨A1, c1, rfl, hV6, hf6, hB6⟩; have hC6 := hC5.grow hB6; have hZ6 := hZ5.below hB6 hZ5.lt; have hy5 := hC5.st.lt; have hb5 := hC5.mt.tal.lt; have y0 := hC6.st.cell 0; have y1 := hC6.st.cell 1; have y2 := hC6.st.cell 2; have g0 := hC6.st.frozen 0; have g1 := hC6.st.frozen 1; have g2 := hC6.st.frozen 2)))
          have hC := hC6.store (s' := s1) (A' := A1) (c' := c1) hV6 (fun z hz => by have := hf6 z hz; omega)
          have hZ := ((hZ6.far (p := ⟨y, 0, none⟩) (by simp; omega) (.bool s1.begun)).far (p := ⟨y, 1, none⟩) (by simp; omega) (.int .i64 s1.last)).far (p := ⟨y, 2, none⟩) (by simp; omega) (.slice A1 s1.rs.length c1)
          clear hC5 hC6 hT5 hK5 hZ5 hZ6 hB6 z1 y0 y1 y2 g0 g1 g2 d0 d1 d2 hCz hrb0 hbe hV6 hf6 hy5 hb5
          generalize ((W6.setCell ⟨y, 0, none⟩ (.bool s1.begun)).setCell ⟨y, 1, none⟩ (.int .i64 s1.last)).setCell ⟨y, 2, none⟩ (.slice A1 s1.rs.length c1) = W7 at *
          go_wp2
          have hbg := fun W (h : Cn w b w.heap.size y ⟨l0, l1, l2, l3, l4, l5, l6, l7, l8⟩ s1 s1 A1 c1 W) => (begun_k b _ s1 W h.mt.tal).mono fun e w' ⟨q1, q2⟩ => (show e = Ending.returned (.bool s1.begun) ∧ Below W.heap.size W w' from ⟨q1, by rw [← q2]; exact Below.refl _ W⟩)
          have hta := fun W (h : Cn w b w.heap.size y ⟨l0, l1, l2, l3, l4, l5, l6, l7, l8⟩ s1 s1 A1 c1 W) => tach_k b _ s1 W h.mt.tal
          have hbr := fun W (h : Cn w b w.heap.size y ⟨l0, l1, l2, l3, l4, l5, l6, l7, l8⟩ s1 s1 A1 c1 W) => brad_k b _ s1 W h.mt.tal
          have hs1 := fun W (h : Cn w b w.heap.size y ⟨l0, l1, l2, l3, l4, l5, l6, l7, l8⟩ s1 s1 A1 c1 W) => still_k b _ s1 a2 W h.mt.tal
          have hs2 := fun W (h : Cn w b w.heap.size y ⟨l0, l1, l2, l3, l4, l5, l6, l7, l8⟩ s1 s1 A1 c1 W) => still_k b _ s1 N W h.mt.tal
          have hrt := fun W (h : Cn w b w.heap.size y ⟨l0, l1, l2, l3, l4, l5, l6, l7, l8⟩ s1 s1 A1 c1 W) => reftach_any ⟨l0, l1, l2, l3, l4, l5, l6, l7, l8⟩ s1 A1 c1 W h.row (by omega) hmay.tachN
          have hrb := fun W (h : Cn w b w.heap.size y ⟨l0, l1, l2, l3, l4, l5, l6, l7, l8⟩ s1 s1 A1 c1 W) => refbrad_any ⟨l0, l1, l2, l3, l4, l5, l6, l7, l8⟩ s1 A1 c1 W h.row (by omega) hmay.bradN
          have hr1 := fun W (h : Cn w b w.heap.size y ⟨l0, l1, l2, l3, l4, l5, l6, l7, l8⟩ s1 s1 A1 c1 W) => refstill_any ⟨l0, l1, l2, l3, l4, l5, l6, l7, l8⟩ s1 A1 c1 a2 W h.mt.tal.last
          have hr2 := fun W (h : Cn w b w.heap.size y ⟨l0, l1, l2, l3, l4, l5, l6, l7, l8⟩ s1 s1 A1 c1 W) => refstill_any ⟨l0, l1, l2, l3, l4, l5, l6, l7, l8⟩ s1 A1 c1 N W h.mt.tal.last
          have hnb := never_both hmay s1.rs
          unfold stV limV at hrt hrb hr1 hr2
          dsimp only at hrt hrb hr1 hr2
          generalize tachT _ s1.rs = rT at *
          generalize bradT _ s1.rs = rB at *
          generalize stillT _ s1 a2 = r1 at *
          generalize stillT _ s1 N = r2 at *
          replace hC := hC.grow (below_drewN (Below.refl _ W7) 1)
          replace hZ := hZ.drew
          refine Reg.begin_ (S := fun W => W.cell? ⟨w.heap.size, 0, none⟩ = some (.int .i64 l0) ∧ W.cell? ⟨w.heap.size, 1, none⟩ = some (.int .i64 l1) ∧ W.cell? ⟨w.heap.size, 2, none⟩ = some (.int .i64 l2) ∧ W.cell? ⟨w.heap.size, 3, none⟩ = some (.int .i64 l3) ∧ W.cell? ⟨w.heap.size, 4, none⟩ = some (.int .i64 l4) ∧ W.cell? ⟨w.heap.size, 5, none⟩ = some (.int .i64 l5) ∧ W.cell? ⟨w.heap.size, 6, none⟩ = some (.int .i64 l6) ∧ W.cell? ⟨w.heap.size, 7, none⟩ = some (.int .i64 l7) ∧ W.cell? ⟨w.heap.size, 8, none⟩ = some (.int .i64 l8) ∧ W.cell? ⟨y, 0, none⟩ = some (.bool s1.begun) ∧ W.cell? ⟨y, 1, none⟩ = some (.int .i64 s1.last) ∧ W.cell? ⟨y, 2, none⟩ = some (.slice A1 s1.rs.length c1) ∧ W.cell? ⟨z, 1, none⟩ = some (.int .i64 N)) (by kernel_rfl) (by exact ⟨hC.lim.cell 0, hC.lim.cell 1, hC.lim.cell 2, hC.lim.cell 3, hC.lim.cell 4, hC.lim.cell 5, hC.lim.cell 6, hC.lim.cell 7, hC.lim.cell 8, hC.st.cell 0, hC.st.cell 1, hC.st.cell 2, hZ.cell 1⟩) (fun hHeld => ?_)
          change Cn w b w.heap.size y _ s1 s1 A1 c1 W7.drew at hC
          generalize W7.drew = W8 at *
          refine Reg.take (i := 0) (v := ?v44) rfl (by kernel_rfl) (by kernel_rfl) (by kernel_rfl) (by rfl) ?hv44 (by assumption) ?rest44
          case hv44 => first | (intro w hSw; (try dsimp only at hSw); go_simp; done) | (intro w hSw; (try dsimp only at hSw); go_simp; with_reducible rfl)
          (try simp only [Act.put, List.setIfInBounds_toArray, List.set_cons_zero, List.set_cons_succ])
          refine Reg.take (i := 2) (v := ?v45) rfl (by kernel_rfl) (by kernel_rfl) (by kernel_rfl) (by rfl) ?hv45 (by assumption) ?rest45
          case hv45 => first | (intro w hSw; (try dsimp only at hSw); go_simp; done) | (intro w hSw; (try dsimp only at hSw); go_simp; with_reducible rfl)
          (try simp only [Act.put, List.setIfInBounds_toArray, List.set_cons_zero, List.set_cons_succ])
          refine Reg.take (i := 3) (v := ?v46) rfl (by kernel_rfl) (by kernel_rfl) (by kernel_rfl) (by rfl) ?hv46 (by assumption) ?rest46
          case hv46 => first | (intro w hSw; (try dsimp only at hSw); go_simp; done) | (intro w hSw; (try dsimp only at hSw); go_simp; with_reducible rfl)
          (try simp only [Act.put, List.setIfInBounds_toArray, List.set_cons_zero, List.set_cons_succ])
          refine Reg.call (i := 1) rfl (by kernel_rfl) (by rfl) ?_
          intro K hK
          go_simp
          go_at_call 33
          (with_reducible refine (hbg _ hC).mono ?_)
          rintro e Wn ⟨rfl, hBn⟩
          replace hC := hC.grow hBn
          replace hZ := hZ.below hBn hZ.lt
          clear hBn hHeld
          refine hK.out _ _ (by exact ⟨hC.lim.cell 0, hC.lim.cell 1, hC.lim.cell 2, hC.lim.cell 3, hC.lim.cell 4, hC.lim.cell 5, hC.lim.cell 6, hC.lim.cell 7, hC.lim.cell 8, hC.st.cell 0, hC.st.cell 1, hC.st.cell 2, hZ.cell 1⟩) (fun hHeld => ?_)
          clear hK K
          (try simp only [Act.put, List.setIfInBounds_toArray, List.set_cons_zero, List.set_cons_succ])
          refine Reg.take (i := 4) (v := ?v47) rfl (by kernel_rfl) (by kernel_rfl) (by kernel_rfl) (by rfl) ?hv47 (by assumption) ?rest47
          case hv47 => first | (intro w hSw; (try dsimp only at hSw); go_simp; done) | (intro w hSw; (try dsimp only at hSw); go_simp; with_reducible rfl)
          (try simp only [Act.put, List.setIfInBounds_toArray, List.set_cons_zero, List.set_cons_succ])
          refine Reg.take (i := 5) (v := ?v48) rfl (by kernel_rfl) (by kernel_rfl) (by kernel_rfl) (by rfl) ?hv48 (by assumption) ?rest48
          case hv48 => first | (intro w hSw; (try dsimp only at hSw); go_simp; done) | (intro w hSw; (try dsimp only at hSw); go_simp; with_reducible rfl)
          (try simp only [Act.put, List.setIfInBounds_toArray, List.set_cons_zero, List.set_cons_succ])
          (try simp only [bne_self_eq_false])
          refine Reg.take (i := 6) (v := ?v49) rfl (by kernel_rfl) (by kernel_rfl) (by kernel_rfl) (by rfl) ?hv49 (by assumption) ?rest49
          case hv49 => first | (intro w hSw; (try dsimp only at hSw); go_simp; done) | (intro w hSw; (try dsimp only at hSw); go_simp; with_reducible rfl)
          (try simp only [Act.put, List.setIfInBounds_toArray, List.set_cons_zero, List.set_cons_succ])
          refine Reg.take (i := 8) (v := ?v50) rfl (by kernel_rfl) (by kernel_rfl) (by kernel_rfl) (by rfl) ?hv50 (by assumption) ?rest50
          case hv50 => first | (intro w hSw; (try dsimp only at hSw); go_simp; done) | (intro w hSw; (try dsimp only at hSw); go_simp; with_reducible rfl)
          (try simp only [Act.put, List.setIfInBounds_toArray, List.set_cons_zero, List.set_cons_succ])
          refine Reg.take (i := 9) (v := ?v51) rfl (by kernel_rfl) (by kernel_rfl) (by kernel_rfl) (by rfl) ?hv51 (by assumption) ?rest51
          case hv51 => first | (intro w hSw; (try dsimp only at hSw); go_simp; done) | (intro w hSw; (try dsimp only at hSw); go_simp; with_reducible rfl)
          (try simp only [Act.put, List.setIfInBounds_toArray, List.set_cons_zero, List.set_cons_succ])
          refine Reg.call (i := 7) rfl (by kernel_rfl) (by rfl) ?_
          intro K hK
          go_simp
          go_at_call 34
          (with_reducible refine (hta _ hC).mono ?_)
          rintro e Wn ⟨rfl, hBn⟩
          replace hC := hC.grow hBn
          replace hZ := hZ.below hBn hZ.lt
          clear hBn hHeld
          refine hK.out _ _ (by exact ⟨hC.lim.cell 0, hC.lim.cell 1, hC.lim.cell 2, hC.lim.cell 3, hC.lim.cell 4, hC.lim.cell 5, hC.lim.cell 6, hC.lim.cell 7, hC.lim.cell 8, hC.st.cell 0, hC.st.cell 1, hC.st.cell 2, hZ.cell 1⟩) (fun hHeld => ?_)
          clear hK K
          (try simp only [Act.put, List.setIfInBounds_toArray, List.set_cons_zero, List.set_cons_succ])
          refine Reg.call (i := 10) rfl (by kernel_rfl) (by rfl) ?_
          intro K hK
          go_simp
          go_at_call 35
          (with_reducible refine (hrt _ hC).mono ?_)
          rintro e Wn ⟨rfl, hBn⟩
          replace hC := hC.grow hBn
          replace hZ := hZ.below hBn hZ.lt
          clear hBn hHeld
          refine hK.out _ _ (by exact ⟨hC.lim.cell 0, hC.lim.cell 1, hC.lim.cell 2, hC.lim.cell 3, hC.lim.cell 4, hC.lim.cell 5, hC.lim.cell 6, hC.lim.cell 7, hC.lim.cell 8, hC.st.cell 0, hC.st.cell 1, hC.st.cell 2, hZ.cell 1⟩) (fun hHeld => ?_)
          clear hK K
          (try simp only [Act.put, List.setIfInBounds_toArray, List.set_cons_zero, List.set_cons_succ])
          refine Reg.take (i := 11) (v := ?v52) rfl (by kernel_rfl) (by kernel_rfl) (by kernel_rfl) (by rfl) ?hv52 (by assumption) ?rest52
          case hv52 => first | (intro w hSw; (try dsimp only at hSw); go_simp; done) | (intro w hSw; (try dsimp only at hSw); go_simp; with_reducible rfl)
          (try simp only [Act.put, List.setIfInBounds_toArray, List.set_cons_zero, List.set_cons_succ])
          (try simp only [bne_self_eq_false])
          refine Reg.take (i := 12) (v := ?v53) rfl (by kernel_rfl) (by kernel_rfl) (by kernel_rfl) (by rfl) ?hv53 (by assumption) ?rest53
          case hv53 => first | (intro w hSw; (try dsimp only at hSw); go_simp; done) | (intro w hSw; (try dsimp only at hSw); go_simp; with_reducible rfl)
          (try simp only [Act.put, List.setIfInBounds_toArray, List.set_cons_zero, List.set_cons_succ])
          refine Reg.take (i := 13) (v := ?v54) rfl (by kernel_rfl) (by kernel_rfl) (by kernel_rfl) (by rfl) ?hv54 (by assumption) ?rest54
          case hv54 => first | (intro w hSw; (try dsimp only at hSw); go_simp; done) | (intro w hSw; (try dsimp only at hSw); go_simp; with_reducible rfl)
          (try simp only [Act.put, List.setIfInBounds_toArray, List.set_cons_zero, List.set_cons_succ])
          refine Reg.take (i := 14) (v := ?v55) rfl (by kernel_rfl) (by kernel_rfl) (by kernel_rfl) (by rfl) ?hv55 (by assumption) ?rest55
          case hv55 => first | (intro w hSw; (try dsimp only at hSw); go_simp; done) | (intro w hSw; (try dsimp only at hSw); go_simp; with_reducible rfl)
          (try simp only [Act.put, List.setIfInBounds_toArray, List.set_cons_zero, List.set_cons_succ])
          refine Reg.take (i := 16) (v := ?v56) rfl (by kernel_rfl) (by kernel_rfl) (by kernel_rfl) (by rfl) ?hv56 (by assumption) ?rest56
          case hv56 => first | (intro w hSw; (try dsimp only at hSw); go_simp; done) | (intro w hSw; (try dsimp only at hSw); go_simp; with_reducible rfl)
          (try simp only [Act.put, List.setIfInBounds_toArray, List.set_cons_zero, List.set_cons_succ])
          refine Reg.take (i := 17) (v := ?v57) rfl (by kernel_rfl) (by kernel_rfl) (by kernel_rfl) (by rfl) ?hv57 (by assumption) ?rest57
          case hv57 => first | (intro w hSw; (try dsimp only at hSw); go_simp; done) | (intro w hSw; (try dsimp only at hSw); go_simp; with_reducible rfl)
          (try simp only [Act.put, List.setIfInBounds_toArray, List.set_cons_zero, List.set_cons_succ])
          refine Reg.call (i := 15) rfl (by kernel_rfl) (by rfl) ?_
          intro K hK
          go_simp
          go_at_call 36
          (with_reducible refine (hbr _ hC).mono ?_)
          rintro e Wn ⟨rfl, hBn⟩
          replace hC := hC.grow hBn
          replace hZ := hZ.below hBn hZ.lt
          clear hBn hHeld
          refine hK.out _ _ (by exact ⟨hC.lim.cell 0, hC.lim.cell 1, hC.lim.cell 2, hC.lim.cell 3, hC.lim.cell 4, hC.lim.cell 5, hC.lim.cell 6, hC.lim.cell 7, hC.lim.cell 8, hC.st.cell 0, hC.st.cell 1, hC.st.cell 2, hZ.cell 1⟩) (fun hHeld => ?_)
          clear hK K
          (try simp only [Act.put, List.setIfInBounds_toArray, List.set_cons_zero, List.set_cons_succ])
          refine Reg.call (i := 18) rfl (by kernel_rfl) (by rfl) ?_
          intro K hK
          go_simp
          go_at_call 37
          (with_reducible refine (hrb _ hC).mono ?_)
          rintro e Wn ⟨rfl, hBn⟩
          replace hC := hC.grow hBn
          replace hZ := hZ.below hBn hZ.lt
          clear hBn hHeld
          refine hK.out _ _ (by exact ⟨hC.lim.cell 0, hC.lim.cell 1, hC.lim.cell 2, hC.lim.cell 3, hC.lim.cell 4, hC.lim.cell 5, hC.lim.cell 6, hC.lim.cell 7, hC.lim.cell 8, hC.st.cell 0, hC.st.cell 1, hC.st.cell 2, hZ.cell 1⟩) (fun hHeld => ?_)
          clear hK K
          (try simp only [Act.put, List.setIfInBounds_toArray, List.set_cons_zero, List.set_cons_succ])
          refine Reg.take (i := 19) (v := ?v58) rfl (by kernel_rfl) (by kernel_rfl) (by kernel_rfl) (by rfl) ?hv58 (by assumption) ?rest58
          case hv58 => first | (intro w hSw; (try dsimp only at hSw); go_simp; done) | (intro w hSw; (try dsimp only at hSw); go_simp; with_reducible rfl)
          (try simp only [Act.put, List.setIfInBounds_toArray, List.set_cons_zero, List.set_cons_succ])
          (try simp only [bne_self_eq_false])
          refine Reg.take (i := 20) (v := ?v59) rfl (by kernel_rfl) (by kernel_rfl) (by kernel_rfl) (by rfl) ?hv59 (by assumption) ?rest59
          case hv59 => first | (intro w hSw; (try dsimp only at hSw); go_simp; done) | (intro w hSw; (try dsimp only at hSw); go_simp; with_reducible rfl)
          (try simp only [Act.put, List.setIfInBounds_toArray, List.set_cons_zero, List.set_cons_succ])
          refine Reg.take (i := 21) (v := ?v60) rfl (by kernel_rfl) (by kernel_rfl) (by kernel_rfl) (by rfl) ?hv60 (by assumption) ?rest60
          case hv60 => first | (intro w hSw; (try dsimp only at hSw); go_simp; done) | (intro w hSw; (try dsimp only at hSw); go_simp; with_reducible rfl)
          (try simp only [Act.put, List.setIfInBounds_toArray, List.set_cons_zero, List.set_cons_succ])
          refine Reg.take (i := 22) (v := ?v61) rfl (by kernel_rfl) (by kernel_rfl) (by kernel_rfl) (by rfl) ?hv61 (by assumption) ?rest61
          case hv61 => first | (intro w hSw; (try dsimp only at hSw); go_simp; done) | (intro w hSw; (try dsimp only at hSw); go_simp; with_reducible rfl)
          (try simp only [Act.put, List.setIfInBounds_toArray, List.set_cons_zero, List.set_cons_succ])
          refine Reg.take (i := 23) (v := ?v62) rfl (by kernel_rfl) (by kernel_rfl) (by kernel_rfl) (by rfl) ?hv62 (by assumption) ?rest62
          case hv62 => first | (intro w hSw; (try dsimp only at hSw); go_simp; done) | (intro w hSw; (try dsimp only at hSw); go_simp; with_reducible rfl)
          (try simp only [Act.put, List.setIfInBounds_toArray, List.set_cons_zero, List.set_cons_succ])
          refine Reg.take (i := 25) (v := ?v63) rfl (by kernel_rfl) (by kernel_rfl) (by kernel_rfl) (by rfl) ?hv63 (by assumption) ?rest63
          case hv63 => first | (intro w hSw; (try dsimp only at hSw); go_simp; done) | (intro w hSw; (try dsimp only at hSw); go_simp; with_reducible rfl)
          (try simp only [Act.put, List.setIfInBounds_toArray, List.set_cons_zero, List.set_cons_succ])
          refine Reg.take (i := 26) (v := ?v64) rfl (by kernel_rfl) (by kernel_rfl) (by kernel_rfl) (by rfl) ?hv64 (by assumption) ?rest64
          case hv64 => first | (intro w hSw; (try dsimp only at hSw); go_simp; done) | (intro w hSw; (try dsimp only at hSw); go_simp; with_reducible rfl)
          (try simp only [Act.put, List.setIfInBounds_toArray, List.set_cons_zero, List.set_cons_succ])
          refine Reg.take (i := 27) (v := ?v65) rfl (by kernel_rfl) (by kernel_rfl) (by kernel_rfl) (by rfl) ?hv65 (by assumption) ?rest65
          case hv65 => first | (intro w hSw; (try dsimp only at hSw); go_simp; done) | (intro w hSw; (try dsimp only at hSw); go_simp; with_reducible rfl)
          (try simp only [Act.put, List.setIfInBounds_toArray, List.set_cons_zero, List.set_cons_succ])
          refine Reg.call (i := 24) rfl (by kernel_rfl) (by rfl) ?_
          intro K hK
          go_simp
          go_at_call 38
          (with_reducible refine (hs1 _ hC).mono ?_)
          rintro e Wn ⟨rfl, hBn⟩
          replace hC := hC.grow hBn
          replace hZ := hZ.below hBn hZ.lt
          clear hBn hHeld
          refine hK.out _ _ (by exact ⟨hC.lim.cell 0, hC.lim.cell 1, hC.lim.cell 2, hC.lim.cell 3, hC.lim.cell 4, hC.lim.cell 5, hC.lim.cell 6, hC.lim.cell 7, hC.lim.cell 8, hC.st.cell 0, hC.st.cell 1, hC.st.cell 2, hZ.cell 1⟩) (fun hHeld => ?_)
          clear hK K
          (try simp only [Act.put, List.setIfInBounds_toArray, List.set_cons_zero, List.set_cons_succ])
          refine Reg.call (i := 28) rfl (by kernel_rfl) (by rfl) ?_
          intro K hK
          go_simp
          go_at_call 39
          (with_reducible refine (hr1 _ hC).mono ?_)
          rintro e Wn ⟨rfl, hBn⟩
          replace hC := hC.grow hBn
          replace hZ := hZ.below hBn hZ.lt
          clear hBn hHeld
          refine hK.out _ _ (by exact ⟨hC.lim.cell 0, hC.lim.cell 1, hC.lim.cell 2, hC.lim.cell 3, hC.lim.cell 4, hC.lim.cell 5, hC.lim.cell 6, hC.lim.cell 7, hC.lim.cell 8, hC.st.cell 0, hC.st.cell 1, hC.st.cell 2, hZ.cell 1⟩) (fun hHeld => ?_)
          clear hK K
          (try simp only [Act.put, List.setIfInBounds_toArray, List.set_cons_zero, List.set_cons_succ])
          refine Reg.take (i := 29) (v := ?v66) rfl (by kernel_rfl) (by kernel_rfl) (by kernel_rfl) (by rfl) ?hv66 (by assumption) ?rest66
          case hv66 => first | (intro w hSw; (try dsimp only at hSw); go_simp; done) | (intro w hSw; (try dsimp only at hSw); go_simp; with_reducible rfl)
          (try simp only [Act.put, List.setIfInBounds_toArray, List.set_cons_zero, List.set_cons_succ])
          (try simp only [bne_self_eq_false])
          refine Reg.take (i := 30) (v := ?v67) rfl (by kernel_rfl) (by kernel_rfl) (by kernel_rfl) (by rfl) ?hv67 (by assumption) ?rest67
          case hv67 => first | (intro w hSw; (try dsimp only at hSw); go_simp; done) | (intro w hSw; (try dsimp only at hSw); go_simp; with_reducible rfl)
          (try simp only [Act.put, List.setIfInBounds_toArray, List.set_cons_zero, List.set_cons_succ])
          refine Reg.take (i := 31) (v := ?v68) rfl (by kernel_rfl) (by kernel_rfl) (by kernel_rfl) (by rfl) ?hv68 (by assumption) ?rest68
          case hv68 => first | (intro w hSw; (try dsimp only at hSw); go_simp; done) | (intro w hSw; (try dsimp only at hSw); go_simp; with_reducible rfl)
          (try simp only [Act.put, List.setIfInBounds_toArray, List.set_cons_zero, List.set_cons_succ])
          refine Reg.take (i := 32) (v := ?v69) rfl (by kernel_rfl) (by kernel_rfl) (by kernel_rfl) (by rfl) ?hv69 (by assumption) ?rest69
          case hv69 => first | (intro w hSw; (try dsimp only at hSw); go_simp; done) | (intro w hSw; (try dsimp only at hSw); go_simp; with_reducible rfl)
          (try simp only [Act.put, List.setIfInBounds_toArray, List.set_cons_zero, List.set_cons_succ])
          refine Reg.take (i := 33) (v := ?v70) rfl (by kernel_rfl) (by kernel_rfl) (by kernel_rfl) (by rfl) ?hv70 (by assumption) ?rest70
          case hv70 => first | (intro w hSw; (try dsimp only at hSw); go_simp; done) | (intro w hSw; (try dsimp only at hSw); go_simp; with_reducible rfl)
          (try simp only [Act.put, List.setIfInBounds_toArray, List.set_cons_zero, List.set_cons_succ])
          refine Reg.take (i := 34) (v := ?v71) rfl (by kernel_rfl) (by kernel_rfl) (by kernel_rfl) (by rfl) ?hv71 (by assumption) ?rest71
          case hv71 => first | (intro w hSw; (try dsimp only at hSw); go_simp; done) | (intro w hSw; (try dsimp only at hSw); go_simp; with_reducible rfl)
          (try simp only [Act.put, List.setIfInBounds_toArray, List.set_cons_zero, List.set_cons_succ])
          refine Reg.take (i := 36) (v := ?v72) rfl (by kernel_rfl) (by kernel_rfl) (by kernel_rfl) (by rfl) ?hv72 (by assumption) ?rest72
          case hv72 => first | (intro w hSw; (try dsimp only at hSw); go_simp; done) | (intro w hSw; (try dsimp only at hSw); go_simp; with_reducible rfl)
          (try simp only [Act.put, List.setIfInBounds_toArray, List.set_cons_zero, List.set_cons_succ])
          refine Reg.take (i := 37) (v := ?v73) rfl (by kernel_rfl) (by kernel_rfl) (by kernel_rfl) (by rfl) ?hv73 (by assumption) ?rest73
          case hv73 => first | (intro w hSw; (try dsimp only at hSw); go_simp; done) | (intro w hSw; (try dsimp only at hSw); go_simp; with_reducible rfl)
          (try simp only [Act.put, List.setIfInBounds_toArray, List.set_cons_zero, List.set_cons_succ])
          refine Reg.take (i := 38) (v := ?v74) rfl (by kernel_rfl) (by kernel_rfl) (by kernel_rfl) (by rfl) ?hv74 (by assumption) ?rest74
          case hv74 => first | (intro w hSw; (try dsimp only at hSw); go_simp; done) | (intro w hSw; (try dsimp only at hSw); go_simp; with_reducible rfl)
          (try simp only [Act.put, List.setIfInBounds_toArray, List.set_cons_zero, List.set_cons_succ])
          refine Reg.take (i := 39) (v := ?v75) rfl (by kernel_rfl) (by kernel_rfl) (by kernel_rfl) (by rfl) ?hv75 (by assumption) ?rest75
          case hv75 => first | (intro w hSw; (try dsimp only at hSw); go_simp; done) | (intro w hSw; (try dsimp only at hSw); go_simp; with_reducible rfl)
          (try simp only [Act.put, List.setIfInBounds_toArray, List.set_cons_zero, List.set_cons_succ])
          refine Reg.call (i := 35) rfl (by kernel_rfl) (by rfl) ?_
          intro K hK
          go_simp
          go_at_call 38
          (with_reducible refine (hs2 _ hC).mono ?_)
          rintro e Wn ⟨rfl, hBn⟩
          replace hC := hC.grow hBn
          replace hZ := hZ.below hBn hZ.lt
          clear hBn hHeld
          refine hK.out _ _ (by exact ⟨hC.lim.cell 0, hC.lim.cell 1, hC.lim.cell 2, hC.lim.cell 3, hC.lim.cell 4, hC.lim.cell 5, hC.lim.cell 6, hC.lim.cell 7, hC.lim.cell 8, hC.st.cell 0, hC.st.cell 1, hC.st.cell 2, hZ.cell 1⟩) (fun hHeld => ?_)
          clear hK K
          (try simp only [Act.put, List.setIfInBounds_toArray, List.set_cons_zero, List.set_cons_succ])
          refine Reg.call (i := 40) rfl (by kernel_rfl) (by rfl) ?_
          intro K hK
          go_simp
          go_at_call 39
          (with_reducible refine (hr2 _ hC).mono ?_)
          rintro e Wn ⟨rfl, hBn⟩
          replace hC := hC.grow hBn
          replace hZ := hZ.below hBn hZ.lt
          clear hBn hHeld
          refine hK.out _ _ (by exact ⟨hC.lim.cell 0, hC.lim.cell 1, hC.lim.cell 2, hC.lim.cell 3, hC.lim.cell 4, hC.lim.cell 5, hC.lim.cell 6, hC.lim.cell 7, hC.lim.cell 8, hC.st.cell 0, hC.st.cell 1, hC.st.cell 2, hZ.cell 1⟩) (fun hHeld => ?_)
          clear hK K
          (try simp only [Act.put, List.setIfInBounds_toArray, List.set_cons_zero, List.set_cons_succ])
          refine Reg.take (i := 41) (v := ?v76) rfl (by kernel_rfl) (by kernel_rfl) (by kernel_rfl) (by rfl) ?hv76 (by assumption) ?rest76
          case hv76 => first | (intro w hSw; (try dsimp only at hSw); go_simp; done) | (intro w hSw; (try dsimp only at hSw); go_simp; with_reducible rfl)
          (try simp only [Act.put, List.setIfInBounds_toArray, List.set_cons_zero, List.set_cons_succ])
          (try simp only [bne_self_eq_false])
          refine Reg.take (i := 42) (v := ?v77) rfl (by kernel_rfl) (by kernel_rfl) (by kernel_rfl) (by rfl) ?hv77 (by assumption) ?rest77
          case hv77 => first | (intro w hSw; (try dsimp only at hSw); go_simp; done) | (intro w hSw; (try dsimp only at hSw); go_simp; with_reducible rfl)
          (try simp only [Act.put, List.setIfInBounds_toArray, List.set_cons_zero, List.set_cons_succ])
          refine Reg.take (i := 43) (v := ?v78) rfl (by kernel_rfl) (by kernel_rfl) (by kernel_rfl) (by rfl) ?hv78 (by assumption) ?rest78
          case hv78 => first | (intro w hSw; (try dsimp only at hSw); go_simp; done) | (intro w hSw; (try dsimp only at hSw); go_simp; with_reducible rfl)
          (try simp only [Act.put, List.setIfInBounds_toArray, List.set_cons_zero, List.set_cons_succ])
          refine Reg.take (i := 44) (v := ?v79) rfl (by kernel_rfl) (by kernel_rfl) (by kernel_rfl) (by rfl) ?hv79 (by assumption) ?rest79
          case hv79 => first | (intro w hSw; (try dsimp only at hSw); go_simp; done) | (intro w hSw; (try dsimp only at hSw); go_simp; with_reducible rfl)
          (try simp only [Act.put, List.setIfInBounds_toArray, List.set_cons_zero, List.set_cons_succ])
          refine Reg.call (i := 45) rfl (by kernel_rfl) (by rfl) ?_
          intro K hK
          go_simp
          go_at_call 34
          (with_reducible refine (hta _ hC).mono ?_)
          rintro e Wn ⟨rfl, hBn⟩
          replace hC := hC.grow hBn
          replace hZ := hZ.below hBn hZ.lt
          clear hBn hHeld
          refine hK.out _ _ (by exact ⟨hC.lim.cell 0, hC.lim.cell 1, hC.lim.cell 2, hC.lim.cell 3, hC.lim.cell 4, hC.lim.cell 5, hC.lim.cell 6, hC.lim.cell 7, hC.lim.cell 8, hC.st.cell 0, hC.st.cell 1, hC.st.cell 2, hZ.cell 1⟩) (fun hHeld => ?_)
          clear hK K
          (try simp only [Act.put, List.setIfInBounds_toArray, List.set_cons_zero, List.set_cons_succ])
          clear hbg hta hrt hrb hs1 hr1 hs2 hr2
          cases rT with
          | true =>
            have hrB : rB = false := by simpa using hnb
            subst hrB
            refine Reg.take (i := 46) (v := ?v80) rfl (by kernel_rfl) (by kernel_rfl) (by kernel_rfl) (by rfl) ?hv80 (by assumption) ?rest80
            case hv80 => first | (intro w hSw; (try dsimp only at hSw); go_simp; done) | (intro w hSw; (try dsimp only at hSw); go_simp; with_reducible rfl)
            (try simp only [Act.put, List.setIfInBounds_toArray, List.set_cons_zero, List.set_cons_succ])
            refine Reg.take (i := 47) (v := ?v81) rfl (by kernel_rfl) (by kernel_rfl) (by kernel_rfl) (by rfl) ?hv81 (by assumption) ?rest81
            case hv81 => first | (intro w hSw; (try dsimp only at hSw); go_simp; done) | (intro w hSw; (try dsimp only at hSw); go_simp; with_reducible rfl)
            (try simp only [Act.put, List.setIfInBounds_toArray, List.set_cons_zero, List.set_cons_succ])
            refine Reg.call (i := 48) rfl (by kernel_rfl) (by rfl) ?_
            intro K hK
            go_simp
            go_at_call 36
            (with_reducible refine (hbr _ hC).mono ?_)
            rintro e Wn ⟨rfl, hBn⟩
            replace hC := hC.grow hBn
            replace hZ := hZ.below hBn hZ.lt
            clear hBn hHeld
            refine hK.out _ _ (by exact ⟨hC.lim.cell 0, hC.lim.cell 1, hC.lim.cell 2, hC.lim.cell 3, hC.lim.cell 4, hC.lim.cell 5, hC.lim.cell 6, hC.lim.cell 7, hC.lim.cell 8, hC.st.cell 0, hC.st.cell 1, hC.st.cell 2, hZ.cell 1⟩) (fun hHeld => ?_)
            clear hK K
            (try simp only [Act.put, List.setIfInBounds_toArray, List.set_cons_zero, List.set_cons_succ])
            refine Reg.take (i := 49) (v := ?v82) rfl (by kernel_rfl) (by kernel_rfl) (by kernel_rfl) (by rfl) ?hv82 (by assumption) ?rest82
            case hv82 => first | (intro w hSw; (try dsimp only at hSw); go_simp; done) | (intro w hSw; (try dsimp only at hSw); go_simp; with_reducible rfl)
            (try simp only [Act.put, List.setIfInBounds_toArray, List.set_cons_zero, List.set_cons_succ])
            refine Reg.take (i := 50) (v := ?v83) rfl (by kernel_rfl) (by kernel_rfl) (by kernel_rfl) (by rfl) ?hv83 (by assumption) ?rest83
            case hv83 => first | (intro w hSw; (try dsimp only at hSw); go_simp; done) | (intro w hSw; (try dsimp only at hSw); go_simp; with_reducible rfl)
            (try simp only [Act.put, List.setIfInBounds_toArray, List.set_cons_zero, List.set_cons_succ])
            refine Reg.done (by kernel_rfl) ?_ _
            clear hHeld hbr
            have HC := Lib.hid hC
            clear hC hZ
            go_wp2
            go_roundw
            case rel => exact ⟨j + 1, s1, A1, c1, by omega, by go_num, hn1, HC.out⟩
            case measure => simp [intOf]; omega
          | false =>
            refine Reg.take (i := 46) (v := ?v84) rfl (by kernel_rfl) (by kernel_rfl) (by kernel_rfl) (by rfl) ?hv84 (by assumption) ?rest84
            case hv84 => first | (intro w hSw; (try dsimp only at hSw); go_simp; done) | (intro w hSw; (try dsimp only at hSw); go_simp; with_reducible rfl)
            (try simp only [Act.put, List.setIfInBounds_toArray, List.set_cons_zero, List.set_cons_succ])
            refine Reg.skip (i := 47) rfl (by kernel_rfl) (by kernel_rfl) (by kernel_rfl) (by rfl) (by assumption) ?_
            (try simp only [Act.put, List.setIfInBounds_toArray, List.set_cons_zero, List.set_cons_succ])
            refine Reg.skip (i := 48) rfl (by kernel_rfl) (by kernel_rfl) (by kernel_rfl) (by rfl) (by assumption) ?_
            (try simp only [Act.put, List.setIfInBounds_toArray, List.set_cons_zero, List.set_cons_succ])
            refine Reg.take (i := 49) (v := ?v85) rfl (by kernel_rfl) (by kernel_rfl) (by kernel_rfl) (by rfl) ?hv85 (by assumption) ?rest85
            case hv85 => first | (intro w hSw; (try dsimp only at hSw); go_simp; done) | (intro w hSw; (try dsimp only at hSw); go_simp; with_reducible rfl)
            (try simp only [Act.put, List.setIfInBounds_toArray, List.set_cons_zero, List.set_cons_succ])
            refine Reg.take (i := 50) (v := ?v86) rfl (by kernel_rfl) (by kernel_rfl) (by kernel_rfl) (by rfl) ?hv86 (by assumption) ?rest86
            case hv86 => first | (intro w hSw; (try dsimp only at hSw); go_simp; done) | (intro w hSw; (try dsimp only at hSw); go_simp; with_reducible rfl)
            (try simp only [Act.put, List.setIfInBounds_toArray, List.set_cons_zero, List.set_cons_succ])
            refine Reg.done (by kernel_rfl) ?_ _
            clear hHeld hbr
            have HC := Lib.hid hC
            clear hC hZ
            go_wp2
            go_roundw
            case rel => exact ⟨j + 1, s1, A1, c1, by omega, by go_num, hn1, HC.out⟩
            case measure => simp [intOf]; omega
        · by_cases h2 : D = 2
          · subst h2
            have hCz := hC.grow ((Below.refl _ wr).alloc (Nat.le_refl _) (.cells #[.int .i64 2, .int .i64 N, .slice A2 L2 C2] 65))
            have hZ := Has.new wr 65 #[.int .i64 2, .int .i64 N, .slice A2 L2 C2]
            have hzy : y < wr.heap.size := hC.st.lt
            have hzb : b < wr.heap.size := hC.mt.tal.lt
            rw [hz] at hZ hzy hzb
            have d0 := hZ.cell 0
            have d1 := hZ.cell 1
            have d2 := hZ.cell 2
            have hre := fun W h => reset_k b ⟨l0, l1, l2, l3, l4, l5, l6, l7, l8⟩ s W h
            go_wp2_with (go_at_call 32; ((with_reducible refine (hre _ hCz.mt.tal).mono ?_); rintro e W6 ⟨rfl, hT5, hK5⟩; have hC6 := hCz.turn hT5 hK5; have hZ6 := hK5.has hZ (by simp; omega); have y0 := hC6.st.cell 0; have y1 := hC6.st.cell 1; have y2 := hC6.st.cell 2; have g0 := hC6.st.frozen 0; have g1 := hC6.st.frozen 1; have g2 := hC6.st.frozen 2))
            have hC : Cn w b w.heap.size y ⟨l0, l1, l2, l3, l4, l5, l6, l7, l8⟩ st0 st0 none 0 (((W6.setCell ⟨y, 0, none⟩ (.bool false)).setCell ⟨y, 1, none⟩ (.int .i64 0)).setCell ⟨y, 2, none⟩ (.slice none 0 0)) := hC6.store (s' := st0) (A' := none) (c' := 0) (Vals.none_ _) (fun z hz => by cases hz)
            have hZ := ((hZ6.far (p := ⟨y, 0, none⟩) (by simp; omega) (.bool false)).far (p := ⟨y, 1, none⟩) (by simp; omega) (.int .i64 0)).far (p := ⟨y, 2, none⟩) (by simp; omega) (.slice none 0 0)
            have hn1 : st0.rs.length ≤ 8 * (j + 1) := Nat.zero_le _
            obtain ⟨s1, hs1⟩ : ∃ s1, st0 = s1 := ⟨_, rfl⟩
            rw [hs1] at hC hn1
            clear hC6 hT5 hK5 hZ6 y0 y1 y2 g0 g1 g2 d0 d1 d2 hCz hre hs1
            generalize ((W6.setCell ⟨y, 0, none⟩ (.bool false)).setCell ⟨y, 1, none⟩ (.int .i64 0)).setCell ⟨y, 2, none⟩ (.slice none 0 0) = W7 at *
            go_wp2
            have hbg := fun W (h : Cn w b w.heap.size y ⟨l0, l1, l2, l3, l4, l5, l6, l7, l8⟩ s1 s1 none 0 W) => (begun_k b _ s1 W h.mt.tal).mono fun e w' ⟨q1, q2⟩ => (show e = Ending.returned (.bool s1.begun) ∧ Below W.heap.size W w' from ⟨q1, by rw [← q2]; exact Below.refl _ W⟩)
            have hta := fun W (h : Cn w b w.heap.size y ⟨l0, l1, l2, l3, l4, l5, l6, l7, l8⟩ s1 s1 none 0 W) => tach_k b _ s1 W h.mt.tal
            have hbr := fun W (h : Cn w b w.heap.size y ⟨l0, l1, l2, l3, l4, l5, l6, l7, l8⟩ s1 s1 none 0 W) => brad_k b _ s1 W h.mt.tal
            have hs1 := fun W (h : Cn w b w.heap.size y ⟨l0, l1, l2, l3, l4, l5, l6, l7, l8⟩ s1 s1 none 0 W) => still_k b _ s1 a2 W h.mt.tal
            have hs2 := fun W (h : Cn w b w.heap.size y ⟨l0, l1, l2, l3, l4, l5, l6, l7, l8⟩ s1 s1 none 0 W) => still_k b _ s1 N W h.mt.tal
            have hrt := fun W (h : Cn w b w.heap.size y ⟨l0, l1, l2, l3, l4, l5, l6, l7, l8⟩ s1 s1 none 0 W) => reftach_any ⟨l0, l1, l2, l3, l4, l5, l6, l7, l8⟩ s1 none 0 W h.row (by omega) hmay.tachN
            have hrb := fun W (h : Cn w b w.heap.size y ⟨l0, l1, l2, l3, l4, l5, l6, l7, l8⟩ s1 s1 none 0 W) => refbrad_any ⟨l0, l1, l2, l3, l4, l5, l6, l7, l8⟩ s1 none 0 W h.row (by omega) hmay.bradN
            have hr1 := fun W (h : Cn w b w.heap.size y ⟨l0, l1, l2, l3, l4, l5, l6, l7, l8⟩ s1 s1 none 0 W) => refstill_any ⟨l0, l1, l2, l3, l4, l5, l6, l7, l8⟩ s1 none 0 a2 W h.mt.tal.last
            have hr2 := fun W (h : Cn w b w.heap.size y ⟨l0, l1, l2, l3, l4, l5, l6, l7, l8⟩ s1 s1 none 0 W) => refstill_any ⟨l0, l1, l2, l3, l4, l5, l6, l7, l8⟩ s1 none 0 N W h.mt.tal.last
            have hnb := never_both hmay s1.rs
            unfold stV limV at hrt hrb hr1 hr2
            dsimp only at hrt hrb hr1 hr2
            generalize tachT _ s1.rs = rT at *
            generalize bradT _ s1.rs = rB at *
            generalize stillT _ s1 a2 = r1 at *
            generalize stillT _ s1 N = r2 at *
            replace hC := hC.grow (below_drewN (Below.refl _ W7) 1)
            replace hZ := hZ.drew
            refine Reg.begin_ (S := fun W => W.cell? ⟨w.heap.size, 0, none⟩ = some (.int .i64 l0) ∧ W.cell? ⟨w.heap.size, 1, none⟩ = some (.int .i64 l1) ∧ W.cell? ⟨w.heap.size, 2, none⟩ = some (.int .i64 l2) ∧ W.cell? ⟨w.heap.size, 3, none⟩ = some (.int .i64 l3) ∧ W.cell? ⟨w.heap.size, 4, none⟩ = some (.int .i64 l4) ∧ W.cell? ⟨w.heap.size, 5, none⟩ = some (.int .i64 l5) ∧ W.cell? ⟨w.heap.size, 6, none⟩ = some (.int .i64 l6) ∧ W.cell? ⟨w.heap.size, 7, none⟩ = some (.int .i64 l7) ∧ W.cell? ⟨w.heap.size, 8, none⟩ = some (.int .i64 l8) ∧ W.cell? ⟨y, 0, none⟩ = some (.bool s1.begun) ∧ W.cell? ⟨y, 1, none⟩ = some (.int .i64 s1.last) ∧ W.cell? ⟨y, 2, none⟩ = some (.slice none s1.rs.length 0) ∧ W.cell? ⟨z, 1, none⟩ = some (.int .i64 N)) (by kernel_rfl) (by exact ⟨hC.lim.cell 0, hC.lim.cell 1, hC.lim.cell 2, hC.lim.cell 3, hC.lim.cell 4, hC.lim.cell 5, hC.lim.cell 6, hC.lim.cell 7, hC.lim.cell 8, hC.st.cell 0, hC.st.cell 1, hC.st.cell 2, hZ.cell 1⟩) (fun hHeld => ?_)
            change Cn w b w.heap.size y _ s1 s1 none 0 W7.drew at hC
            generalize W7.drew = W8 at *
            refine Reg.take (i := 0) (v := ?v87) rfl (by kernel_rfl) (by kernel_rfl) (by kernel_rfl) (by rfl) ?hv87 (by assumption) ?rest87
            case hv87 => first | (intro w hSw; (try dsimp only at hSw); go_simp; done) | (intro w hSw; (try dsimp only at hSw); go_simp; with_reducible rfl)
            (try simp only [Act.put, List.setIfInBounds_toArray, List.set_cons_zero, List.set_cons_succ])
            refine Reg.take (i := 2) (v := ?v88) rfl (by kernel_rfl) (by kernel_rfl) (by kernel_rfl) (by rfl) ?hv88 (by assumption) ?rest88
            case hv88 => first | (intro w hSw; (try dsimp only at hSw); go_simp; done) | (intro w hSw; (try dsimp only at hSw); go_simp; with_reducible rfl)
            (try simp only [Act.put, List.setIfInBounds_toArray, List.set_cons_zero, List.set_cons_succ])
            refine Reg.take (i := 3) (v := ?v89) rfl (by kernel_rfl) (by kernel_rfl) (by kernel_rfl) (by rfl) ?hv89 (by assumption) ?rest89
            case hv89 => first | (intro w hSw; (try dsimp only at hSw); go_simp; done) | (intro w hSw; (try dsimp only at hSw); go_simp; with_reducible rfl)
            (try simp only [Act.put, List.setIfInBounds_toArray, List.set_cons_zero, List.set_cons_succ])
            refine Reg.call (i := 1) rfl (by kernel_rfl) (by rfl) ?_
            intro K hK
            go_simp
            go_at_call 33
            (with_reducible refine (hbg _ hC).mono ?_)
            rintro e Wn ⟨rfl, hBn⟩
            replace hC := hC.grow hBn
            replace hZ := hZ.below hBn hZ.lt
            clear hBn hHeld
            refine hK.out _ _ (by exact ⟨hC.lim.cell 0, hC.lim.cell 1, hC.lim.cell 2, hC.lim.cell 3, hC.lim.cell 4, hC.lim.cell 5, hC.lim.cell 6, hC.lim.cell 7, hC.lim.cell 8, hC.st.cell 0, hC.st.cell 1, hC.st.cell 2, hZ.cell 1⟩) (fun hHeld => ?_)
            clear hK K
            (try simp only [Act.put, List.setIfInBounds_toArray, List.set_cons_zero, List.set_cons_succ])
            refine Reg.take (i := 4) (v := ?v90) rfl (by kernel_rfl) (by kernel_rfl) (by kernel_rfl) (by rfl) ?hv90 (by assumption) ?rest90
            case hv90 => first | (intro w hSw; (try dsimp only at hSw); go_simp; done) | (intro w hSw; (try dsimp only at hSw); go_simp; with_reducible rfl)
            (try simp only [Act.put, List.setIfInBounds_toArray, List.set_cons_zero, List.set_cons_succ])
            refine Reg.take (i := 5) (v := ?v91) rfl (by kernel_rfl) (by kernel_rfl) (by kernel_rfl) (by rfl) ?hv91 (by assumption) ?rest91
            case hv91 => first | (intro w hSw; (try dsimp only at hSw); go_simp; done) | (intro w hSw; (try dsimp only at hSw); go_simp; with_reducible rfl)
            (try simp only [Act.put, List.setIfInBounds_toArray, List.set_cons_zero, List.set_cons_succ])
            (try simp only [bne_self_eq_false])
            refine Reg.take (i := 6) (v := ?v92) rfl (by kernel_rfl) (by kernel_rfl) (by kernel_rfl) (by rfl) ?hv92 (by assumption) ?rest92
            case hv92 => first | (intro w hSw; (try dsimp only at hSw); go_simp; done) | (intro w hSw; (try dsimp only at hSw); go_simp; with_reducible rfl)
            (try simp only [Act.put, List.setIfInBounds_toArray, List.set_cons_zero, List.set_cons_succ])
            refine Reg.take (i := 8) (v := ?v93) rfl (by kernel_rfl) (by kernel_rfl) (by kernel_rfl) (by rfl) ?hv93 (by assumption) ?rest93
            case hv93 => first | (intro w hSw; (try dsimp only at hSw); go_simp; done) | (intro w hSw; (try dsimp only at hSw); go_simp; with_reducible rfl)
            (try simp only [Act.put, List.setIfInBounds_toArray, List.set_cons_zero, List.set_cons_succ])
            refine Reg.take (i := 9) (v := ?v94) rfl (by kernel_rfl) (by kernel_rfl) (by kernel_rfl) (by rfl) ?hv94 (by assumption) ?rest94
            case hv94 => first | (intro w hSw; (try dsimp only at hSw); go_simp; done) | (intro w hSw; (try dsimp only at hSw); go_simp; with_reducible rfl)
            (try simp only [Act.put, List.setIfInBounds_toArray, List.set_cons_zero, List.set_cons_succ])
            refine Reg.call (i := 7) rfl (by kernel_rfl) (by rfl) ?_
            intro K hK
            go_simp
            go_at_call 34
            (with_reducible refine (hta _ hC).mono ?_)
            rintro e Wn ⟨rfl, hBn⟩
            replace hC := hC.grow hBn
            replace hZ := hZ.below hBn hZ.lt
            clear hBn hHeld
            refine hK.out _ _ (by exact ⟨hC.lim.cell 0, hC.lim.cell 1, hC.lim.cell 2, hC.lim.cell 3, hC.lim.cell 4, hC.lim.cell 5, hC.lim.cell 6, hC.lim.cell 7, hC.lim.cell 8, hC.st.cell 0, hC.st.cell 1, hC.st.cell 2, hZ.cell 1⟩) (fun hHeld => ?_)
            clear hK K
            (try simp only [Act.put, List.setIfInBounds_toArray, List.set_cons_zero, List.set_cons_succ])
            refine Reg.call (i := 10) rfl (by kernel_rfl) (by rfl) ?_
            intro K hK
            go_simp
            go_at_call 35
            (with_reducible refine (hrt _ hC).mono ?_)
            rintro e Wn ⟨rfl, hBn⟩
            replace hC := hC.grow hBn
            replace hZ := hZ.below hBn hZ.lt
            clear hBn hHeld
            refine hK.out _ _ (by exact ⟨hC.lim.cell 0, hC.lim.cell 1, hC.lim.cell 2, hC.lim.cell 3, hC.lim.cell 4, hC.lim.cell 5, hC.lim.cell 6, hC.lim.cell 7, hC.lim.cell 8, hC.st.cell 0, hC.st.cell 1, hC.st.cell 2, hZ.cell 1⟩) (fun hHeld => ?_)
            clear hK K
            (try simp only [Act.put, List.setIfInBounds_toArray, List.set_cons_zero, List.set_cons_succ])
            refine Reg.take (i := 11) (v := ?v95) rfl (by kernel_rfl) (by kernel_rfl) (by kernel_rfl) (by rfl) ?hv95 (by assumption) ?rest95
            case hv95 => first | (intro w hSw; (try dsimp only at hSw); go_simp; done) | (intro w hSw; (try dsimp only at hSw); go_simp; with_reducible rfl)
            (try simp only [Act.put, List.setIfInBounds_toArray, List.set_cons_zero, List.set_cons_succ])
            (try simp only [bne_self_eq_false])
            refine Reg.take (i := 12) (v := ?v96) rfl (by kernel_rfl) (by kernel_rfl) (by kernel_rfl) (by rfl) ?hv96 (by assumption) ?rest96
            case hv96 => first | (intro w hSw; (try dsimp only at hSw); go_simp; done) | (intro w hSw; (try dsimp only at hSw); go_simp; with_reducible rfl)
            (try simp only [Act.put, List.setIfInBounds_toArray, List.set_cons_zero, List.set_cons_succ])
            refine Reg.take (i := 13) (v := ?v97) rfl (by kernel_rfl) (by kernel_rfl) (by kernel_rfl) (by rfl) ?hv97 (by assumption) ?rest97
            case hv97 => first | (intro w hSw; (try dsimp only at hSw); go_simp; done) | (intro w hSw; (try dsimp only at hSw); go_simp; with_reducible rfl)
            (try simp only [Act.put, List.setIfInBounds_toArray, List.set_cons_zero, List.set_cons_succ])
            refine Reg.take (i := 14) (v := ?v98) rfl (by kernel_rfl) (by kernel_rfl) (by kernel_rfl) (by rfl) ?hv98 (by assumption) ?rest98
            case hv98 => first | (intro w hSw; (try dsimp only at hSw); go_simp; done) | (intro w hSw; (try dsimp only at hSw); go_simp; with_reducible rfl)
            (try simp only [Act.put, List.setIfInBounds_toArray, List.set_cons_zero, List.set_cons_succ])
            refine Reg.take (i := 16) (v := ?v99) rfl (by kernel_rfl) (by kernel_rfl) (by kernel_rfl) (by rfl) ?hv99 (by assumption) ?rest99
            case hv99 => first | (intro w hSw; (try dsimp only at hSw); go_simp; done) | (intro w hSw; (try dsimp only at hSw); go_simp; with_reducible rfl)
            (try simp only [Act.put, List.setIfInBounds_toArray, List.set_cons_zero, List.set_cons_succ])
            refine Reg.take (i := 17) (v := ?v100) rfl (by kernel_rfl) (by kernel_rfl) (by kernel_rfl) (by rfl) ?hv100 (by assumption) ?rest100
            case hv100 => first | (intro w hSw; (try dsimp only at hSw); go_simp; done) | (intro w hSw; (try dsimp only at hSw); go_simp; with_reducible rfl)
            (try simp only [Act.put, List.setIfInBounds_toArray, List.set_cons_zero, List.set_cons_succ])
            refine Reg.call (i := 15) rfl (by kernel_rfl) (by rfl) ?_
            intro K hK
            go_simp
            go_at_call 36
            (with_reducible refine (hbr _ hC).mono ?_)
            rintro e Wn ⟨rfl, hBn⟩
            replace hC := hC.grow hBn
            replace hZ := hZ.below hBn hZ.lt
            clear hBn hHeld
            refine hK.out _ _ (by exact ⟨hC.lim.cell 0, hC.lim.cell 1, hC.lim.cell 2, hC.lim.cell 3, hC.lim.cell 4, hC.lim.cell 5, hC.lim.cell 6, hC.lim.cell 7, hC.lim.cell 8, hC.st.cell 0, hC.st.cell 1, hC.st.cell 2, hZ.cell 1⟩) (fun hHeld => ?_)
            clear hK K
            (try simp only [Act.put, List.setIfInBounds_toArray, List.set_cons_zero, List.set_cons_succ])
            refine Reg.call (i := 18) rfl (by kernel_rfl) (by rfl) ?_
            intro K hK
            go_simp
            go_at_call 37
            (with_reducible refine (hrb _ hC).mono ?_)
            rintro e Wn ⟨rfl, hBn⟩
            replace hC := hC.grow hBn
            replace hZ := hZ.below hBn hZ.lt
            clear hBn hHeld
            refine hK.out _ _ (by exact ⟨hC.lim.cell 0, hC.lim.cell 1, hC.lim.cell 2, hC.lim.cell 3, hC.lim.cell 4, hC.lim.cell 5, hC.lim.cell 6, hC.lim.cell 7, hC.lim.cell 8, hC.st.cell 0, hC.st.cell 1, hC.st.cell 2, hZ.cell 1⟩) (fun hHeld => ?_)
            clear hK K
            (try simp only [Act.put, List.setIfInBounds_toArray, List.set_cons_zero, List.set_cons_succ])
            refine Reg.take (i := 19) (v := ?v101) rfl (by kernel_rfl) (by kernel_rfl) (by kernel_rfl) (by rfl) ?hv101 (by assumption) ?rest101
            case hv101 => first | (intro w hSw; (try dsimp only at hSw); go_simp; done) | (intro w hSw; (try dsimp only at hSw); go_simp; with_reducible rfl)
            (try simp only [Act.put, List.setIfInBounds_toArray, List.set_cons_zero, List.set_cons_succ])
            (try simp only [bne_self_eq_false])
            refine Reg.take (i := 20) (v := ?v102) rfl (by kernel_rfl) (by kernel_rfl) (by kernel_rfl) (by rfl) ?hv102 (by assumption) ?rest102
            case hv102 => first | (intro w hSw; (try dsimp only at hSw); go_simp; done) | (intro w hSw; (try dsimp only at hSw); go_simp; with_reducible rfl)
            (try simp only [Act.put, List.setIfInBounds_toArray, List.set_cons_zero, List.set_cons_succ])
            refine Reg.take (i := 21) (v := ?v103) rfl (by kernel_rfl) (by kernel_rfl) (by kernel_rfl) (by rfl) ?hv103 (by assumption) ?rest103
            case hv103 => first | (intro w hSw; (try dsimp only at hSw); go_simp; done) | (intro w hSw; (try dsimp only at hSw); go_simp; with_reducible rfl)
            (try simp only [Act.put, List.setIfInBounds_toArray, List.set_cons_zero, List.set_cons_succ])
            refine Reg.take (i := 22) (v := ?v104) rfl (by kernel_rfl) (by kernel_rfl) (by kernel_rfl) (by rfl) ?hv104 (by assumption) ?rest104
            case hv104 => first | (intro w hSw; (try dsimp only at hSw); go_simp; done) | (intro w hSw; (try dsimp only at hSw); go_simp; with_reducible rfl)
            (try simp only [Act.put, List.setIfInBounds_toArray, List.set_cons_zero, List.set_cons_succ])
            refine Reg.take (i := 23) (v := ?v105) rfl (by kernel_rfl) (by kernel_rfl) (by kernel_rfl) (by rfl) ?hv105 (by assumption) ?rest105
            case hv105 => first | (intro w hSw; (try dsimp only at hSw); go_simp; done) | (intro w hSw; (try dsimp only at hSw); go_simp; with_reducible rfl)
            (try simp only [Act.put, List.setIfInBounds_toArray, List.set_cons_zero, List.set_cons_succ])
            refine Reg.take (i := 25) (v := ?v106) rfl (by kernel_rfl) (by kernel_rfl) (by kernel_rfl) (by rfl) ?hv106 (by assumption) ?rest106
            case hv106 => first | (intro w hSw; (try dsimp only at hSw); go_simp; done) | (intro w hSw; (try dsimp only at hSw); go_simp; with_reducible rfl)
            (try simp only [Act.put, List.setIfInBounds_toArray, List.set_cons_zero, List.set_cons_succ])
            refine Reg.take (i := 26) (v := ?v107) rfl (by kernel_rfl) (by kernel_rfl) (by kernel_rfl) (by rfl) ?hv107 (by assumption) ?rest107
            case hv107 => first | (intro w hSw; (try dsimp only at hSw); go_simp; done) | (intro w hSw; (try dsimp only at hSw); go_simp; with_reducible rfl)
            (try simp only [Act.put, List.setIfInBounds_toArray, List.set_cons_zero, List.set_cons_succ])
            refine Reg.take (i := 27) (v := ?v108) rfl (by kernel_rfl) (by kernel_rfl) (by kernel_rfl) (by rfl) ?hv108 (by assumption) ?rest108
            case hv108 => first | (intro w hSw; (try dsimp only at hSw); go_simp; done) | (intro w hSw; (try dsimp only at hSw); go_simp; with_reducible rfl)
            (try simp only [Act.put, List.setIfInBounds_toArray, List.set_cons_zero, List.set_cons_succ])
            refine Reg.call (i := 24) rfl (by kernel_rfl) (by rfl) ?_
            intro K hK
            go_simp
            go_at_call 38
            (with_reducible refine (hs1 _ hC).mono ?_)
            rintro e Wn ⟨rfl, hBn⟩
            replace hC := hC.grow hBn
            replace hZ := hZ.below hBn hZ.lt
            clear hBn hHeld
            refine hK.out _ _ (by exact ⟨hC.lim.cell 0, hC.lim.cell 1, hC.lim.cell 2, hC.lim.cell 3, hC.lim.cell 4, hC.lim.cell 5, hC.lim.cell 6, hC.lim.cell 7, hC.lim.cell 8, hC.st.cell 0, hC.st.cell 1, hC.st.cell 2, hZ.cell 1⟩) (fun hHeld => ?_)
            clear hK K
            (try simp only [Act.put, List.setIfInBounds_toArray, List.set_cons_zero, List.set_cons_succ])
            refine Reg.call (i := 28) rfl (by kernel_rfl) (by rfl) ?_
            intro K hK
            go_simp
            go_at_call 39
            (with_reducible refine (hr1 _ hC).mono ?_)
            rintro e Wn ⟨rfl, hBn⟩
            replace hC := hC.grow hBn
            replace hZ := hZ.below hBn hZ.lt
            clear hBn hHeld
            refine hK.out _ _ (by exact ⟨hC.lim.cell 0, hC.lim.cell 1, hC.lim.cell 2, hC.lim.cell 3, hC.lim.cell 4, hC.lim.cell 5, hC.lim.cell 6, hC.lim.cell 7, hC.lim.cell 8, hC.st.cell 0, hC.st.cell 1, hC.st.cell 2, hZ.cell 1⟩) (fun hHeld => ?_)
            clear hK K
            (try simp only [Act.put, List.setIfInBounds_toArray, List.set_cons_zero, List.set_cons_succ])
            refine Reg.take (i := 29) (v := ?v109) rfl (by kernel_rfl) (by kernel_rfl) (by kernel_rfl) (by rfl) ?hv109 (by assumption) ?rest109
            case hv109 => first | (intro w hSw; (try dsimp only at hSw); go_simp; done) | (intro w hSw; (try dsimp only at hSw); go_simp; with_reducible rfl)
            (try simp only [Act.put, List.setIfInBounds_toArray, List.set_cons_zero, List.set_cons_succ])
            (try simp only [bne_self_eq_false])
            refine Reg.take (i := 30) (v := ?v110) rfl (by kernel_rfl) (by kernel_rfl) (by kernel_rfl) (by rfl) ?hv110 (by assumption) ?rest110
            case hv110 => first | (intro w hSw; (try dsimp only at hSw); go_simp; done) | (intro w hSw; (try dsimp only at hSw); go_simp; with_reducible rfl)
            (try simp only [Act.put, List.setIfInBounds_toArray, List.set_cons_zero, List.set_cons_succ])
            refine Reg.take (i := 31) (v := ?v111) rfl (by kernel_rfl) (by kernel_rfl) (by kernel_rfl) (by rfl) ?hv111 (by assumption) ?rest111
            case hv111 => first | (intro w hSw; (try dsimp only at hSw); go_simp; done) | (intro w hSw; (try dsimp only at hSw); go_simp; with_reducible rfl)
            (try simp only [Act.put, List.setIfInBounds_toArray, List.set_cons_zero, List.set_cons_succ])
            refine Reg.take (i := 32) (v := ?v112) rfl (by kernel_rfl) (by kernel_rfl) (by kernel_rfl) (by rfl) ?hv112 (by assumption) ?rest112
            case hv112 => first | (intro w hSw; (try dsimp only at hSw); go_simp; done) | (intro w hSw; (try dsimp only at hSw); go_simp; with_reducible rfl)
            (try simp only [Act.put, List.setIfInBounds_toArray, List.set_cons_zero, List.set_cons_succ])
            refine Reg.take (i := 33) (v := ?v113) rfl (by kernel_rfl) (by kernel_rfl) (by kernel_rfl) (by rfl) ?hv113 (by assumption) ?rest113
            case hv113 => first | (intro w hSw; (try dsimp only at hSw); go_simp; done) | (intro w hSw; (try dsimp only at hSw); go_simp; with_reducible rfl)
            (try simp only [Act.put, List.setIfInBounds_toArray, List.set_cons_zero, List.set_cons_succ])
            refine Reg.take (i := 34) (v := ?v114) rfl (by kernel_rfl) (by kernel_rfl) (by kernel_rfl) (by rfl) ?hv114 (by assumption) ?rest114
            case hv114 => first | (intro w hSw; (try dsimp only at hSw); go_simp; done) | (intro w hSw; (try dsimp only at hSw); go_simp; with_reducible rfl)
            (try simp only [Act.put, List.setIfInBounds_toArray, List.set_cons_zero, List.set_cons_succ])
            refine Reg.take (i := 36) (v := ?v115) rfl (by kernel_rfl) (by kernel_rfl) (by kernel_rfl) (by rfl) ?hv115 (by assumption) ?rest115
            case hv115 => first | (intro w hSw; (try dsimp only at hSw); go_simp; done) | (intro w hSw; (try dsimp only at hSw); go_simp; with_reducible rfl)
            (try simp only [Act.put, List.setIfInBounds_toArray, List.set_cons_zero, List.set_cons_succ])
            refine Reg.take (i := 37) (v := ?v116) rfl (by kernel_rfl) (by kernel_rfl) (by kernel_rfl) (by rfl) ?hv116 (by assumption) ?rest116
            case hv116 => first | (intro w hSw; (try dsimp only at hSw); go_simp; done) | (intro w hSw; (try dsimp only at hSw); go_simp; with_reducible rfl)
            (try simp only [Act.put, List.setIfInBounds_toArray, List.set_cons_zero, List.set_cons_succ])
            refine Reg.take (i := 38) (v := ?v117) rfl (by kernel_rfl) (by kernel_rfl) (by kernel_rfl) (by rfl) ?hv117 (by assumption) ?rest117
            case hv117 => first | (intro w hSw; (try dsimp only at hSw); go_simp; done) | (intro w hSw; (try dsimp only at hSw); go_simp; with_reducible rfl)
            (try simp only [Act.put, List.setIfInBounds_toArray, List.set_cons_zero, List.set_cons_succ])
            refine Reg.take (i := 39) (v := ?v118) rfl (by kernel_rfl) (by kernel_rfl) (by kernel_rfl) (by rfl) ?hv118 (by assumption) ?rest118
            case hv118 => first | (intro w hSw; (try dsimp only at hSw); go_simp; done) | (intro w hSw; (try dsimp only at hSw); go_simp; with_reducible rfl)
            (try simp only [Act.put, List.setIfInBounds_toArray, List.set_cons_zero, List.set_cons_succ])
            refine Reg.call (i := 35) rfl (by kernel_rfl) (by rfl) ?_
            intro K hK
            go_simp
            go_at_call 38
            (with_reducible refine (hs2 _ hC).mono ?_)
            rintro e Wn ⟨rfl, hBn⟩
            replace hC := hC.grow hBn
            replace hZ := hZ.below hBn hZ.lt
            clear hBn hHeld
            refine hK.out _ _ (by exact ⟨hC.lim.cell 0, hC.lim.cell 1, hC.lim.cell 2, hC.lim.cell 3, hC.lim.cell 4, hC.lim.cell 5, hC.lim.cell 6, hC.lim.cell 7, hC.lim.cell 8, hC.st.cell 0, hC.st.cell 1, hC.st.cell 2, hZ.cell 1⟩) (fun hHeld => ?_)
            clear hK K
            (try simp only [Act.put, List.setIfInBounds_toArray, List.set_cons_zero, List.set_cons_succ])
            refine Reg.call (i := 40) rfl (by kernel_rfl) (by rfl) ?_
            intro K hK
            go_simp
            go_at_call 39
            (with_reducible refine (hr2 _ hC).mono ?_)
            rintro e Wn ⟨rfl, hBn⟩
            replace hC := hC.grow hBn
            replace hZ := hZ.below hBn hZ.lt
            clear hBn hHeld
            refine hK.out _ _ (by exact ⟨hC.lim.cell 0, hC.lim.cell 1, hC.lim.cell 2, hC.lim.cell 3, hC.lim.cell 4, hC.lim.cell 5, hC.lim.cell 6, hC.lim.cell 7, hC.lim.cell 8, hC.st.cell 0, hC.st.cell 1, hC.st.cell 2, hZ.cell 1⟩) (fun hHeld => ?_)
            clear hK K
            (try simp only [Act.put, List.setIfInBounds_toArray, List.set_cons_zero, List.set_cons_succ])
            refine Reg.take (i := 41) (v := ?v119) rfl (by kernel_rfl) (by kernel_rfl) (by kernel_rfl) (by rfl) ?hv119 (by assumption) ?rest119
            case hv119 => first | (intro w hSw; (try dsimp only at hSw); go_simp; done) | (intro w hSw; (try dsimp only at hSw); go_simp; with_reducible rfl)
            (try simp only [Act.put, List.setIfInBounds_toArray, List.set_cons_zero, List.set_cons_succ])
            (try simp only [bne_self_eq_false])
            refine Reg.take (i := 42) (v := ?v120) rfl (by kernel_rfl) (by kernel_rfl) (by kernel_rfl) (by rfl) ?hv120 (by assumption) ?rest120
            case hv120 => first | (intro w hSw; (try dsimp only at hSw); go_simp; done) | (intro w hSw; (try dsimp only at hSw); go_simp; with_reducible rfl)
            (try simp only [Act.put, List.setIfInBounds_toArray, List.set_cons_zero, List.set_cons_succ])
            refine Reg.take (i := 43) (v := ?v121) rfl (by kernel_rfl) (by kernel_rfl) (by kernel_rfl) (by rfl) ?hv121 (by assumption) ?rest121
            case hv121 => first | (intro w hSw; (try dsimp only at hSw); go_simp; done) | (intro w hSw; (try dsimp only at hSw); go_simp; with_reducible rfl)
            (try simp only [Act.put, List.setIfInBounds_toArray, List.set_cons_zero, List.set_cons_succ])
            refine Reg.take (i := 44) (v := ?v122) rfl (by kernel_rfl) (by kernel_rfl) (by kernel_rfl) (by rfl) ?hv122 (by assumption) ?rest122
            case hv122 => first | (intro w hSw; (try dsimp only at hSw); go_simp; done) | (intro w hSw; (try dsimp only at hSw); go_simp; with_reducible rfl)
            (try simp only [Act.put, List.setIfInBounds_toArray, List.set_cons_zero, List.set_cons_succ])
            refine Reg.call (i := 45) rfl (by kernel_rfl) (by rfl) ?_
            intro K hK
            go_simp
            go_at_call 34
            (with_reducible refine (hta _ hC).mono ?_)
            rintro e Wn ⟨rfl, hBn⟩
            replace hC := hC.grow hBn
            replace hZ := hZ.below hBn hZ.lt
            clear hBn hHeld
            refine hK.out _ _ (by exact ⟨hC.lim.cell 0, hC.lim.cell 1, hC.lim.cell 2, hC.lim.cell 3, hC.lim.cell 4, hC.lim.cell 5, hC.lim.cell 6, hC.lim.cell 7, hC.lim.cell 8, hC.st.cell 0, hC.st.cell 1, hC.st.cell 2, hZ.cell 1⟩) (fun hHeld => ?_)
            clear hK K
            (try simp only [Act.put, List.setIfInBounds_toArray, List.set_cons_zero, List.set_cons_succ])
            clear hbg hta hrt hrb hs1 hr1 hs2 hr2
            cases rT with
            | true =>
              have hrB : rB = false := by simpa using hnb
              subst hrB
              refine Reg.take (i := 46) (v := ?v123) rfl (by kernel_rfl) (by kernel_rfl) (by kernel_rfl) (by rfl) ?hv123 (by assumption) ?rest123
              case hv123 => first | (intro w hSw; (try dsimp only at hSw); go_simp; done) | (intro w hSw; (try dsimp only at hSw); go_simp; with_reducible rfl)
              (try simp only [Act.put, List.setIfInBounds_toArray, List.set_cons_zero, List.set_cons_succ])
              refine Reg.take (i := 47) (v := ?v124) rfl (by kernel_rfl) (by kernel_rfl) (by kernel_rfl) (by rfl) ?hv124 (by assumption) ?rest124
              case hv124 => first | (intro w hSw; (try dsimp only at hSw); go_simp; done) | (intro w hSw; (try dsimp only at hSw); go_simp; with_reducible rfl)
              (try simp only [Act.put, List.setIfInBounds_toArray, List.set_cons_zero, List.set_cons_succ])
              refine Reg.call (i := 48) rfl (by kernel_rfl) (by rfl) ?_
              intro K hK
              go_simp
              go_at_call 36
              (with_reducible refine (hbr _ hC).mono ?_)
              rintro e Wn ⟨rfl, hBn⟩
              replace hC := hC.grow hBn
              replace hZ := hZ.below hBn hZ.lt
              clear hBn hHeld
              refine hK.out _ _ (by exact ⟨hC.lim.cell 0, hC.lim.cell 1, hC.lim.cell 2, hC.lim.cell 3, hC.lim.cell 4, hC.lim.cell 5, hC.lim.cell 6, hC.lim.cell 7, hC.lim.cell 8, hC.st.cell 0, hC.st.cell 1, hC.st.cell 2, hZ.cell 1⟩) (fun hHeld => ?_)
              clear hK K
              (try simp only [Act.put, List.setIfInBounds_toArray, List.set_cons_zero, List.set_cons_succ])
              refine Reg.take (i := 49) (v := ?v125) rfl (by kernel_rfl) (by kernel_rfl) (by kernel_rfl) (by rfl) ?hv125 (by assumption) ?rest125
              case hv125 => first | (intro w hSw; (try dsimp only at hSw); go_simp; done) | (intro w hSw; (try dsimp only at hSw); go_simp; with_reducible rfl)
              (try simp only [Act.put, List.setIfInBounds_toArray, List.set_cons_zero, List.set_cons_succ])
              refine Reg.take (i := 50) (v := ?v126) rfl (by kernel_rfl) (by kernel_rfl) (by kernel_rfl) (by rfl) ?hv126 (by assumption) ?rest126
              case hv126 => first | (intro w hSw; (try dsimp only at hSw); go_simp; done) | (intro w hSw; (try dsimp only at hSw); go_simp; with_reducible rfl)
              (try simp only [Act.put, List.setIfInBounds_toArray, List.set_cons_zero, List.set_cons_succ])
              refine Reg.done (by kernel_rfl) ?_ _
              clear hHeld hbr
              have HC := Lib.hid hC
              clear hC hZ
              go_wp2
              go_roundw
              case rel => exact ⟨j + 1, s1, none, 0, by omega, by go_num, hn1, HC.out⟩
              case measure => simp [intOf]; omega
            | false =>
              refine Reg.take (i := 46) (v := ?v127) rfl (by kernel_rfl) (by kernel_rfl) (by kernel_rfl) (by rfl) ?hv127 (by assumption) ?rest127
              case hv127 => first | (intro w hSw; (try dsimp only at hSw); go_simp; done) | (intro w hSw; (try dsimp only at hSw); go_simp; with_reducible rfl)
              (try simp only [Act.put, List.setIfInBounds_toArray, List.set_cons_zero, List.set_cons_succ])
              refine Reg.skip (i := 47) rfl (by kernel_rfl) (by kernel_rfl) (by kernel_rfl) (by rfl) (by assumption) ?_
              (try simp only [Act.put, List.setIfInBounds_toArray, List.set_cons_zero, List.set_cons_succ])
              refine Reg.skip (i := 48) rfl (by kernel_rfl) (by kernel_rfl) (by kernel_rfl) (by rfl) (by assumption) ?_
              (try simp only [Act.put, List.setIfInBounds_toArray, List.set_cons_zero, List.set_cons_succ])
              refine Reg.take (i := 49) (v := ?v128) rfl (by kernel_rfl) (by kernel_rfl) (by kernel_rfl) (by rfl) ?hv128 (by assumption) ?rest128
              case hv128 => first | (intro w hSw; (try dsimp only at hSw); go_simp; done) | (intro w hSw; (try dsimp only at hSw); go_simp; with_reducible rfl)
              (try simp only [Act.put, List.setIfInBounds_toArray, List.set_cons_zero, List.set_cons_succ])
              refine Reg.take (i := 50) (v := ?v129) rfl (by kernel_rfl) (by kernel_rfl) (by kernel_rfl) (by rfl) ?hv129 (by assumption) ?rest129
              case hv129 => first | (intro w hSw; (try dsimp only at hSw); go_simp; done) | (intro w hSw; (try dsimp only at hSw); go_simp; with_reducible rfl)
              (try simp only [Act.put, List.setIfInBounds_toArray, List.set_cons_zero, List.set_cons_succ])
              refine Reg.done (by kernel_rfl) ?_ _
              clear hHeld hbr
              have HC := Lib.hid hC
              clear hC hZ
              go_wp2
              go_roundw
              case rel => exact ⟨j + 1, s1, none, 0, by omega, by go_num, hn1, HC.out⟩
              case measure => simp [intOf]; omega
          · have h0' : (D == 0) = false := beq_eq_false_iff_ne.2 h0
            have h1' : (D == 1) = false := beq_eq_false_iff_ne.2 h1
            have h2' : (D == 2) = false := beq_eq_false_iff_ne.2 h2
            have hCz := hC.grow ((Below.refl _ wr).alloc (Nat.le_refl _) (.cells #[.int .i64 D, .int .i64 N, .slice A2 L2 C2] 65))
            have hZ := Has.new wr 65 #[.int .i64 D, .int .i64 N, .slice A2 L2 C2]
            have hzy : y < wr.heap.size := hC.st.lt
            have hzb : b < wr.heap.size := hC.mt.tal.lt
            rw [hz] at hZ hzy hzb
            have d0 := hZ.cell 0
            have d1 := hZ.cell 1
            have d2 := hZ.cell 2
            go_wp2
            clear hC
            have hC := hCz
            obtain ⟨s1, hs1⟩ : ∃ s1, s = s1 := ⟨_, rfl⟩
            rw [hs1] at hC hsl
            have hn1 : s1.rs.length ≤ 8 * (j + 1) := by omega
            clear hCz d0 d1 d2 hs1 h0' h1' h2'
            generalize wr.alloc (.cells #[.int .i64 D, .int .i64 N, .slice A2 L2 C2] 65) = W7 at *
            have hbg := fun W (h : Cn w b w.heap.size y ⟨l0, l1, l2, l3, l4, l5, l6, l7, l8⟩ s1 s1 A c W) => (begun_k b _ s1 W h.mt.tal).mono fun e w' ⟨q1, q2⟩ => (show e = Ending.returned (.bool s1.begun) ∧ Below W.heap.size W w' from ⟨q1, by rw [← q2]; exact Below.refl _ W⟩)
            have hta := fun W (h : Cn w b w.heap.size y ⟨l0, l1, l2, l3, l4, l5, l6, l7, l8⟩ s1 s1 A c W) => tach_k b _ s1 W h.mt.tal
            have hbr := fun W (h : Cn w b w.heap.size y ⟨l0, l1, l2, l3, l4, l5, l6, l7, l8⟩ s1 s1 A c W) => brad_k b _ s1 W h.mt.tal
            have hs1 := fun W (h : Cn w b w.heap.size y ⟨l0, l1, l2, l3, l4, l5, l6, l7, l8⟩ s1 s1 A c W) => still_k b _ s1 a2 W h.mt.tal
            have hs2 := fun W (h : Cn w b w.heap.size y ⟨l0, l1, l2, l3, l4, l5, l6, l7, l8⟩ s1 s1 A c W) => still_k b _ s1 N W h.mt.tal
            have hrt := fun W (h : Cn w b w.heap.size y ⟨l0, l1, l2, l3, l4, l5, l6, l7, l8⟩ s1 s1 A c W) => reftach_any ⟨l0, l1, l2, l3, l4, l5, l6, l7, l8⟩ s1 A c W h.row (by omega) hmay.tachN
            have hrb := fun W (h : Cn w b w.heap.size y ⟨l0, l1, l2, l3, l4, l5, l6, l7, l8⟩ s1 s1 A c W) => refbrad_any ⟨l0, l1, l2, l3, l4, l5, l6, l7, l8⟩ s1 A c W h.row (by omega) hmay.bradN
            have hr1 := fun W (h : Cn w b w.heap.size y ⟨l0, l1, l2, l3, l4, l5, l6, l7, l8⟩ s1 s1 A c W) => refstill_any ⟨l0, l1, l2, l3, l4, l5, l6, l7, l8⟩ s1 A c a2 W h.mt.tal.last
            have hr2 := fun W (h : Cn w b w.heap.size y ⟨l0, l1, l2, l3, l4, l5, l6, l7, l8⟩ s1 s1 A c W) => refstill_any ⟨l0, l1, l2, l3, l4, l5, l6, l7, l8⟩ s1 A c N W h.mt.tal.last
            have hnb := never_both hmay s1.rs
            unfold stV limV at hrt hrb hr1 hr2
            dsimp only at hrt hrb hr1 hr2
            generalize tachT _ s1.rs = rT at *
            generalize bradT _ s1.rs = rB at *
            generalize stillT _ s1 a2 = r1 at *
            generalize stillT _ s1 N = r2 at *
            replace hC := hC.grow (below_drewN (Below.refl _ W7) 1)
            replace hZ := hZ.drew
            refine Reg.begin_ (S := fun W => W.cell? ⟨w.heap.size, 0, none⟩ = some (.int .i64 l0) ∧ W.cell? ⟨w.heap.size, 1, none⟩ = some (.int .i64 l1) ∧ W.cell? ⟨w.heap.size, 2, none⟩ = some (.int .i64 l2) ∧ W.cell? ⟨w.heap.size, 3, none⟩ = some (.int .i64 l3) ∧ W.cell? ⟨w.heap.size, 4, none⟩ = some (.int .i64 l4) ∧ W.cell? ⟨w.heap.size, 5, none⟩ = some (.int .i64 l5) ∧ W.cell? ⟨w.heap.size, 6, none⟩ = some (.int .i64 l6) ∧ W.cell? ⟨w.heap.size, 7, none⟩ = some (.int .i64 l7) ∧ W.cell? ⟨w.heap.size, 8, none⟩ = some (.int .i64 l8) ∧ W.cell? ⟨y, 0, none⟩ = some (.bool s1.begun) ∧ W.cell? ⟨y, 1, none⟩ = some (.int .i64 s1.last) ∧ W.cell? ⟨y, 2, none⟩ = some (.slice A s1.rs.length c) ∧ W.cell? ⟨z, 1, none⟩ = some (.int .i64 N)) (by kernel_rfl) (by exact ⟨hC.lim.cell 0, hC.lim.cell 1, hC.lim.cell 2, hC.lim.cell 3, hC.lim.cell 4, hC.lim.cell 5, hC.lim.cell 6, hC.lim.cell 7, hC.lim.cell 8, hC.st.cell 0, hC.st.cell 1, hC.st.cell 2, hZ.cell 1⟩) (fun hHeld => ?_)
            change Cn w b w.heap.size y _ s1 s1 A c W7.drew at hC
            generalize W7.drew = W8 at *
            refine Reg.take (i := 0) (v := ?v130) rfl (by kernel_rfl) (by kernel_rfl) (by kernel_rfl) (by rfl) ?hv130 (by assumption) ?rest130
            case hv130 => first | (intro w hSw; (try dsimp only at hSw); go_simp; done) | (intro w hSw; (try dsimp only at hSw); go_simp; with_reducible rfl)
            (try simp only [Act.put, List.setIfInBounds_toArray, List.set_cons_zero, List.set_cons_succ])
            refine Reg.take (i := 2) (v := ?v131) rfl (by kernel_rfl) (by kernel_rfl) (by kernel_rfl) (by rfl) ?hv131 (by assumption) ?rest131
            case hv131 => first | (intro w hSw; (try dsimp only at hSw); go_simp; done) | (intro w hSw; (try dsimp only at hSw); go_simp; with_reducible rfl)
            (try simp only [Act.put, List.setIfInBounds_toArray, List.set_cons_zero, List.set_cons_succ])
            refine Reg.take (i := 3) (v := ?v132) rfl (by kernel_rfl) (by kernel_rfl) (by kernel_rfl) (by rfl) ?hv132 (by assumption) ?rest132
            case hv132 => first | (intro w hSw; (try dsimp only at hSw); go_simp; done) | (intro w hSw; (try dsimp only at hSw); go_simp; with_reducible rfl)
            (try simp only [Act.put, List.setIfInBounds_toArray, List.set_cons_zero, List.set_cons_succ])
            refine Reg.call (i := 1) rfl (by kernel_rfl) (by rfl) ?_
            intro K hK
            go_simp
            go_at_call 33
            (with_reducible refine (hbg _ hC).mono ?_)
            rintro e Wn ⟨rfl, hBn⟩
            replace hC := hC.grow hBn
            replace hZ := hZ.below hBn hZ.lt
            clear hBn hHeld
            refine hK.out _ _ (by exact ⟨hC.lim.cell 0, hC.lim.cell 1, hC.lim.cell 2, hC.lim.cell 3, hC.lim.cell 4, hC.lim.cell 5, hC.lim.cell 6, hC.lim.cell 7, hC.lim.cell 8, hC.st.cell 0, hC.st.cell 1, hC.st.cell 2, hZ.cell 1⟩) (fun hHeld => ?_)
            clear hK K
            (try simp only [Act.put, List.setIfInBounds_toArray, List.set_cons_zero, List.set_cons_succ])
            refine Reg.take (i := 4) (v := ?v133) rfl (by kernel_rfl) (by kernel_rfl) (by kernel_rfl) (by rfl) ?hv133 (by assumption) ?rest133
            case hv133 => first | (intro w hSw; (try dsimp only at hSw); go_simp; done) | (intro w hSw; (try dsimp only at hSw); go_simp; with_reducible rfl)
            (try simp only [Act.put, List.setIfInBounds_toArray, List.set_cons_zero, List.set_cons_succ])
            refine Reg.take (i := 5) (v := ?v134) rfl (by kernel_rfl) (by kernel_rfl) (by kernel_rfl) (by rfl) ?hv134 (by assumption) ?rest134
            case hv134 => first | (intro w hSw; (try dsimp only at hSw); go_simp; done) | (intro w hSw; (try dsimp only at hSw); go_simp; with_reducible rfl)
            (try simp only [Act.put, List.setIfInBounds_toArray, List.set_cons_zero, List.set_cons_succ])
            (try simp only [bne_self_eq_false])
            refine Reg.take (i := 6) (v := ?v135) rfl (by kernel_rfl) (by kernel_rfl) (by kernel_rfl) (by rfl) ?hv135 (by assumption) ?rest135
            case hv135 => first | (intro w hSw; (try dsimp only at hSw); go_simp; done) | (intro w hSw; (try dsimp only at hSw); go_simp; with_reducible rfl)
            (try simp only [Act.put, List.setIfInBounds_toArray, List.set_cons_zero, List.set_cons_succ])
            refine Reg.take (i := 8) (v := ?v136) rfl (by kernel_rfl) (by kernel_rfl) (by kernel_rfl) (by rfl) ?hv136 (by assumption) ?rest136
            case hv136 => first | (intro w hSw; (try dsimp only at hSw); go_simp; done) | (intro w hSw; (try dsimp only at hSw); go_simp; with_reducible rfl)
            (try simp only [Act.put, List.setIfInBounds_toArray, List.set_cons_zero, List.set_cons_succ])
            refine Reg.take (i := 9) (v := ?v137) rfl (by kernel_rfl) (by kernel_rfl) (by kernel_rfl) (by rfl) ?hv137 (by assumption) ?rest137
            case hv137 => first | (intro w hSw; (try dsimp only at hSw); go_simp; done) | (intro w hSw; (try dsimp only at hSw); go_simp; with_reducible rfl)
            (try simp only [Act.put, List.setIfInBounds_toArray, List.set_cons_zero, List.set_cons_succ])
            refine Reg.call (i := 7) rfl (by kernel_rfl) (by rfl) ?_
            intro K hK
            go_simp
            go_at_call 34
            (with_reducible refine (hta _ hC).mono ?_)
            rintro e Wn ⟨rfl, hBn⟩
            replace hC := hC.grow hBn
            replace hZ := hZ.below hBn hZ.lt
            clear hBn hHeld
            refine hK.out _ _ (by exact ⟨hC.lim.cell 0, hC.lim.cell 1, hC.lim.cell 2, hC.lim.cell 3, hC.lim.cell 4, hC.lim.cell 5, hC.lim.cell 6, hC.lim.cell 7, hC.lim.cell 8, hC.st.cell 0, hC.st.cell 1, hC.st.cell 2, hZ.cell 1⟩) (fun hHeld => ?_)
            clear hK K
            (try simp only [Act.put, List.setIfInBounds_toArray, List.set_cons_zero, List.set_cons_succ])
            refine Reg.call (i := 10) rfl (by kernel_rfl) (by rfl) ?_
            intro K hK
            go_simp
            go_at_call 35
            (with_reducible refine (hrt _ hC).mono ?_)
            rintro e Wn ⟨rfl, hBn⟩
            replace hC := hC.grow hBn
            replace hZ := hZ.below hBn hZ.lt
            clear hBn hHeld
            refine hK.out _ _ (by exact ⟨hC.lim.cell 0, hC.lim.cell 1, hC.lim.cell 2, hC.lim.cell 3, hC.lim.cell 4, hC.lim.cell 5, hC.lim.cell 6, hC.lim.cell 7, hC.lim.cell 8, hC.st.cell 0, hC.st.cell 1, hC.st.cell 2, hZ.cell 1⟩) (fun hHeld => ?_)
            clear hK K
            (try simp only [Act.put, List.setIfInBounds_toArray, List.set_cons_zero, List.set_cons_succ])
            refine Reg.take (i := 11) (v := ?v138) rfl (by kernel_rfl) (by kernel_rfl) (by kernel_rfl) (by rfl) ?hv138 (by assumption) ?rest138
            case hv138 => first | (intro w hSw; (try dsimp only at hSw); go_simp; done) | (intro w hSw; (try dsimp only at hSw); go_simp; with_reducible rfl)
            (try simp only [Act.put, List.setIfInBounds_toArray, List.set_cons_zero, List.set_cons_succ])
            (try simp only [bne_self_eq_false])
            refine Reg.take (i := 12) (v := ?v139) rfl (by kernel_rfl) (by kernel_rfl) (by kernel_rfl) (by rfl) ?hv139 (by assumption) ?rest139
            case hv139 => first | (intro w hSw; (try dsimp only at hSw); go_simp; done) | (intro w hSw; (try dsimp only at hSw); go_simp; with_reducible rfl)
            (try simp only [Act.put, List.setIfInBounds_toArray, List.set_cons_zero, List.set_cons_succ])
            refine Reg.take (i := 13) (v := ?v140) rfl (by kernel_rfl) (by kernel_rfl) (by kernel_rfl) (by rfl) ?hv140 (by assumption) ?rest140
            case hv140 => first | (intro w hSw; (try dsimp only at hSw); go_simp; done) | (intro w hSw; (try dsimp only at hSw); go_simp; with_reducible rfl)
            (try simp only [Act.put, List.setIfInBounds_toArray, List.set_cons_zero, List.set_cons_succ])
            refine Reg.take (i := 14) (v := ?v141) rfl (by kernel_rfl) (by kernel_rfl) (by kernel_rfl) (by rfl) ?hv141 (by assumption) ?rest141
            case hv141 => first | (intro w hSw; (try dsimp only at hSw); go_simp; done) | (intro w hSw; (try dsimp only at hSw); go_simp; with_reducible rfl)
            (try simp only [Act.put, List.setIfInBounds_toArray, List.set_cons_zero, List.set_cons_succ])
            refine Reg.take (i := 16) (v := ?v142) rfl (by kernel_rfl) (by kernel_rfl) (by kernel_rfl) (by rfl) ?hv142 (by assumption) ?rest142
            case hv142 => first | (intro w hSw; (try dsimp only at hSw); go_simp; done) | (intro w hSw; (try dsimp only at hSw); go_simp; with_reducible rfl)
            (try simp only [Act.put, List.setIfInBounds_toArray, List.set_cons_zero, List.set_cons_succ])
            refine Reg.take (i := 17) (v := ?v143) rfl (by kernel_rfl) (by kernel_rfl) (by kernel_rfl) (by rfl) ?hv143 (by assumption) ?rest143
            case hv143 => first | (intro w hSw; (try dsimp only at hSw); go_simp; done) | (intro w hSw; (try dsimp only at hSw); go_simp; with_reducible rfl)
            (try simp only [Act.put, List.setIfInBounds_toArray, List.set_cons_zero, List.set_cons_succ])
            refine Reg.call (i := 15) rfl (by kernel_rfl) (by rfl) ?_
            intro K hK
            go_simp
            go_at_call 36
            (with_reducible refine (hbr _ hC).mono ?_)
            rintro e Wn ⟨rfl, hBn⟩
            replace hC := hC.grow hBn
            replace hZ := hZ.below hBn hZ.lt
            clear hBn hHeld
            refine hK.out _ _ (by exact ⟨hC.lim.cell 0, hC.lim.cell 1, hC.lim.cell 2, hC.lim.cell 3, hC.lim.cell 4, hC.lim.cell 5, hC.lim.cell 6, hC.lim.cell 7, hC.lim.cell 8, hC.st.cell 0, hC.st.cell 1, hC.st.cell 2, hZ.cell 1⟩) (fun hHeld => ?_)
            clear hK K
            (try simp only [Act.put, List.setIfInBounds_toArray, List.set_cons_zero, List.set_cons_succ])
            refine Reg.call (i := 18) rfl (by kernel_rfl) (by rfl) ?_
            intro K hK
            go_simp
            go_at_call 37
            (with_reducible refine (hrb _ hC).mono ?_)
            rintro e Wn ⟨rfl, hBn⟩
            replace hC := hC.grow hBn
            replace hZ := hZ.below hBn hZ.lt
            clear hBn hHeld
            refine hK.out _ _ (by exact ⟨hC.lim.cell 0, hC.lim.cell 1, hC.lim.cell 2, hC.lim.cell 3, hC.lim.cell 4, hC.lim.cell 5, hC.lim.cell 6, hC.lim.cell 7, hC.lim.cell 8, hC.st.cell 0, hC.st.cell 1, hC.st.cell 2, hZ.cell 1⟩) (fun hHeld => ?_)
            clear hK K
            (try simp only [Act.put, List.setIfInBounds_toArray, List.set_cons_zero, List.set_cons_succ])
            refine Reg.take (i := 19) (v := ?v144) rfl (by kernel_rfl) (by kernel_rfl) (by kernel_rfl) (by rfl) ?hv144 (by assumption) ?rest144
            case hv144 => first | (intro w hSw; (try dsimp only at hSw); go_simp; done) | (intro w hSw; (try dsimp only at hSw); go_simp; with_reducible rfl)
            (try simp only [Act.put, List.setIfInBounds_toArray, List.set_cons_zero, List.set_cons_succ])
            (try simp only [bne_self_eq_false])
            refine Reg.take (i := 20) (v := ?v145) rfl (by kernel_rfl) (by kernel_rfl) (by kernel_rfl) (by rfl) ?hv145 (by assumption) ?rest145
            case hv145 => first | (intro w hSw; (try dsimp only at hSw); go_simp; done) | (intro w hSw; (try dsimp only at hSw); go_simp; with_reducible rfl)
            (try simp only [Act.put, List.setIfInBounds_toArray, List.set_cons_zero, List.set_cons_succ])
            refine Reg.take (i := 21) (v := ?v146) rfl (by kernel_rfl) (by kernel_rfl) (by kernel_rfl) (by rfl) ?hv146 (by assumption) ?rest146
            case hv146 => first | (intro w hSw; (try dsimp only at hSw); go_simp; done) | (intro w hSw; (try dsimp only at hSw); go_simp; with_reducible rfl)
            (try simp only [Act.put, List.setIfInBounds_toArray, List.set_cons_zero, List.set_cons_succ])
            refine Reg.take (i := 22) (v := ?v147) rfl (by kernel_rfl) (by kernel_rfl) (by kernel_rfl) (by rfl) ?hv147 (by assumption) ?rest147
            case hv147 => first | (intro w hSw; (try dsimp only at hSw); go_simp; done) | (intro w hSw; (try dsimp only at hSw); go_simp; with_reducible rfl)
            (try simp only [Act.put, List.setIfInBounds_toArray, List.set_cons_zero, List.set_cons_succ])
            refine Reg.take (i := 23) (v := ?v148) rfl (by kernel_rfl) (by kernel_rfl) (by kernel_rfl) (by rfl) ?hv148 (by assumption) ?rest148
            case hv148 => first | (intro w hSw; (try dsimp only at hSw); go_simp; done) | (intro w hSw; (try dsimp only at hSw); go_simp; with_reducible rfl)
            (try simp only [Act.put, List.setIfInBounds_toArray, List.set_cons_zero, List.set_cons_succ])
            refine Reg.take (i := 25) (v := ?v149) rfl (by kernel_rfl) (by kernel_rfl) (by kernel_rfl) (by rfl) ?hv149 (by assumption) ?rest149
            case hv149 => first | (intro w hSw; (try dsimp only at hSw); go_simp; done) | (intro w hSw; (try dsimp only at hSw); go_simp; with_reducible rfl)
            (try simp only [Act.put, List.setIfInBounds_toArray, List.set_cons_zero, List.set_cons_succ])
            refine Reg.take (i := 26) (v := ?v150) rfl (by kernel_rfl) (by kernel_rfl) (by kernel_rfl) (by rfl) ?hv150 (by assumption) ?rest150
            case hv150 => first | (intro w hSw; (try dsimp only at hSw); go_simp; done) | (intro w hSw; (try dsimp only at hSw); go_simp; with_reducible rfl)
            (try simp only [Act.put, List.setIfInBounds_toArray, List.set_cons_zero, List.set_cons_succ])
            refine Reg.take (i := 27) (v := ?v151) rfl (by kernel_rfl) (by kernel_rfl) (by kernel_rfl) (by rfl) ?hv151 (by assumption) ?rest151
            case hv151 => first | (intro w hSw; (try dsimp only at hSw); go_simp; done) | (intro w hSw; (try dsimp only at hSw); go_simp; with_reducible rfl)
            (try simp only [Act.put, List.setIfInBounds_toArray, List.set_cons_zero, List.set_cons_succ])
            refine Reg.call (i := 24) rfl (by kernel_rfl) (by rfl) ?_
            intro K hK
            go_simp
            go_at_call 38
            (with_reducible refine (hs1 _ hC).mono ?_)
            rintro e Wn ⟨rfl, hBn⟩
            replace hC := hC.grow hBn
            replace hZ := hZ.below hBn hZ.lt
            clear hBn hHeld
            refine hK.out _ _ (by exact ⟨hC.lim.cell 0, hC.lim.cell 1, hC.lim.cell 2, hC.lim.cell 3, hC.lim.cell 4, hC.lim.cell 5, hC.lim.cell 6, hC.lim.cell 7, hC.lim.cell 8, hC.st.cell 0, hC.st.cell 1, hC.st.cell 2, hZ.cell 1⟩) (fun hHeld => ?_)
            clear hK K
            (try simp only [Act.put, List.setIfInBounds_toArray, List.set_cons_zero, List.set_cons_succ])
            refine Reg.call (i := 28) rfl (by kernel_rfl) (by rfl) ?_
            intro K hK
            go_simp
            go_at_call 39
            (with_reducible refine (hr1 _ hC).mono ?_)
            rintro e Wn ⟨rfl, hBn⟩
            replace hC := hC.grow hBn
            replace hZ := hZ.below hBn hZ.lt
            clear hBn hHeld
            refine hK.out _ _ (by exact ⟨hC.lim.cell 0, hC.lim.cell 1, hC.lim.cell 2, hC.lim.cell 3, hC.lim.cell 4, hC.lim.cell 5, hC.lim.cell 6, hC.lim.cell 7, hC.lim.cell 8, hC.st.cell 0, hC.st.cell 1, hC.st.cell 2, hZ.cell 1⟩) (fun hHeld => ?_)
            clear hK K
            (try simp only [Act.put, List.setIfInBounds_toArray, List.set_cons_zero, List.set_cons_succ])
            refine Reg.take (i := 29) (v := ?v152) rfl (by kernel_rfl) (by kernel_rfl) (by kernel_rfl) (by rfl) ?hv152 (by assumption) ?rest152
            case hv152 => first | (intro w hSw; (try dsimp only at hSw); go_simp; done) | (intro w hSw; (try dsimp only at hSw); go_simp; with_reducible rfl)
            (try simp only [Act.put, List.setIfInBounds_toArray, List.set_cons_zero, List.set_cons_succ])
            (try simp only [bne_self_eq_false])
            refine Reg.take (i := 30) (v := ?v153) rfl (by kernel_rfl) (by kernel_rfl) (by kernel_rfl) (by rfl) ?hv153 (by assumption) ?rest153
            case hv153 => first | (intro w hSw; (try dsimp only at hSw); go_simp; done) | (intro w hSw; (try dsimp only at hSw); go_simp; with_reducible rfl)
            (try simp only [Act.put, List.setIfInBounds_toArray, List.set_cons_zero, List.set_cons_succ])
            refine Reg.take (i := 31) (v := ?v154) rfl (by kernel_rfl) (by kernel_rfl) (by kernel_rfl) (by rfl) ?hv154 (by assumption) ?rest154
            case hv154 => first | (intro w hSw; (try dsimp only at hSw); go_simp; done) | (intro w hSw; (try dsimp only at hSw); go_simp; with_reducible rfl)
            (try simp only [Act.put, List.setIfInBounds_toArray, List.set_cons_zero, List.set_cons_succ])
            refine Reg.take (i := 32) (v := ?v155) rfl (by kernel_rfl) (by kernel_rfl) (by kernel_rfl) (by rfl) ?hv155 (by assumption) ?rest155
            case hv155 => first | (intro w hSw; (try dsimp only at hSw); go_simp; done) | (intro w hSw; (try dsimp only at hSw); go_simp; with_reducible rfl)
            (try simp only [Act.put, List.setIfInBounds_toArray, List.set_cons_zero, List.set_cons_succ])
            refine Reg.take (i := 33) (v := ?v156) rfl (by kernel_rfl) (by kernel_rfl) (by kernel_rfl) (by rfl) ?hv156 (by assumption) ?rest156
            case hv156 => first | (intro w hSw; (try dsimp only at hSw); go_simp; done) | (intro w hSw; (try dsimp only at hSw); go_simp; with_reducible rfl)
            (try simp only [Act.put, List.setIfInBounds_toArray, List.set_cons_zero, List.set_cons_succ])
            refine Reg.take (i := 34) (v := ?v157) rfl (by kernel_rfl) (by kernel_rfl) (by kernel_rfl) (by rfl) ?hv157 (by assumption) ?rest157
            case hv157 => first | (intro w hSw; (try dsimp only at hSw); go_simp; done) | (intro w hSw; (try dsimp only at hSw); go_simp; with_reducible rfl)
            (try simp only [Act.put, List.setIfInBounds_toArray, List.set_cons_zero, List.set_cons_succ])
            refine Reg.take (i := 36) (v := ?v158) rfl (by kernel_rfl) (by kernel_rfl) (by kernel_rfl) (by rfl) ?hv158 (by assumption) ?rest158
            case hv158 => first | (intro w hSw; (try dsimp only at hSw); go_simp; done) | (intro w hSw; (try dsimp only at hSw); go_simp; with_reducible rfl)
            (try simp only [Act.put, List.setIfInBounds_toArray, List.set_cons_zero, List.set_cons_succ])
            refine Reg.take (i := 37) (v := ?v159) rfl (by kernel_rfl) (by kernel_rfl) (by kernel_rfl) (by rfl) ?hv159 (by assumption) ?rest159
            case hv159 => first | (intro w hSw; (try dsimp only at hSw); go_simp; done) | (intro w hSw; (try dsimp only at hSw); go_simp; with_reducible rfl)
            (try simp only [Act.put, List.setIfInBounds_toArray, List.set_cons_zero, List.set_cons_succ])
            refine Reg.take (i := 38) (v := ?v160) rfl (by kernel_rfl) (by kernel_rfl) (by kernel_rfl) (by rfl) ?hv160 (by assumption) ?rest160
            case hv160 => first | (intro w hSw; (try dsimp only at hSw); go_simp; done) | (intro w hSw; (try dsimp only at hSw); go_simp; with_reducible rfl)
            (try simp only [Act.put, List.setIfInBounds_toArray, List.set_cons_zero, List.set_cons_succ])
            refine Reg.take (i := 39) (v := ?v161) rfl (by kernel_rfl) (by kernel_rfl) (by kernel_rfl) (by rfl) ?hv161 (by assumption) ?rest161
            case hv161 => first | (intro w hSw; (try dsimp only at hSw); go_simp; done) | (intro w hSw; (try dsimp only at hSw); go_simp; with_reducible rfl)
            (try simp only [Act.put, List.setIfInBounds_toArray, List.set_cons_zero, List.set_cons_succ])
            refine Reg.call (i := 35) rfl (by kernel_rfl) (by rfl) ?_
            intro K hK
            go_simp
            go_at_call 38
            (with_reducible refine (hs2 _ hC).mono ?_)
            rintro e Wn ⟨rfl, hBn⟩
            replace hC := hC.grow hBn
            replace hZ := hZ.below hBn hZ.lt
            clear hBn hHeld
            refine hK.out _ _ (by exact ⟨hC.lim.cell 0, hC.lim.cell 1, hC.lim.cell 2, hC.lim.cell 3, hC.lim.cell 4, hC.lim.cell 5, hC.lim.cell 6, hC.lim.cell 7, hC.lim.cell 8, hC.st.cell 0, hC.st.cell 1, hC.st.cell 2, hZ.cell 1⟩) (fun hHeld => ?_)
            clear hK K
            (try simp only [Act.put, List.setIfInBounds_toArray, List.set_cons_zero, List.set_cons_succ])
            refine Reg.call (i := 40) rfl (by kernel_rfl) (by rfl) ?_
            intro K hK
            go_simp
            go_at_call 39
            (with_reducible refine (hr2 _ hC).mono ?_)
            rintro e Wn ⟨rfl, hBn⟩
            replace hC := hC.grow hBn
            replace hZ := hZ.below hBn hZ.lt
            clear hBn hHeld
            refine hK.out _ _ (by exact ⟨hC.lim.cell 0, hC.lim.cell 1, hC.lim.cell 2, hC.lim.cell 3, hC.lim.cell 4, hC.lim.cell 5, hC.lim.cell 6, hC.lim.cell 7, hC.lim.cell 8, hC.st.cell 0, hC.st.cell 1, hC.st.cell 2, hZ.cell 1⟩) (fun hHeld => ?_)
            clear hK K
            (try simp only [Act.put, List.setIfInBounds_toArray, List.set_cons_zero, List.set_cons_succ])
            refine Reg.take (i := 41) (v := ?v162) rfl (by kernel_rfl) (by kernel_rfl) (by kernel_rfl) (by rfl) ?hv162 (by assumption) ?rest162
            case hv162 => first | (intro w hSw; (try dsimp only at hSw); go_simp; done) | (intro w hSw; (try dsimp only at hSw); go_simp; with_reducible rfl)
            (try simp only [Act.put, List.setIfInBounds_toArray, List.set_cons_zero, List.set_cons_succ])
            (try simp only [bne_self_eq_false])
            refine Reg.take (i := 42) (v := ?v163) rfl (by kernel_rfl) (by kernel_rfl) (by kernel_rfl) (by rfl) ?hv163 (by assumption) ?rest163
            case hv163 => first | (intro w hSw; (try dsimp only at hSw); go_simp; done) | (intro w hSw; (try dsimp only at hSw); go_simp; with_reducible rfl)
            (try simp only [Act.put, List.setIfInBounds_toArray, List.set_cons_zero, List.set_cons_succ])
            refine Reg.take (i := 43) (v := ?v164) rfl (by kernel_rfl) (by kernel_rfl) (by kernel_rfl) (by rfl) ?hv164 (by assumption) ?rest164
            case hv164 => first | (intro w hSw; (try dsimp only at hSw); go_simp; done) | (intro w hSw; (try dsimp only at hSw); go_simp; with_reducible rfl)
            (try simp only [Act.put, List.setIfInBounds_toArray, List.set_cons_zero, List.set_cons_succ])
            refine Reg.take (i := 44) (v := ?v165) rfl (by kernel_rfl) (by kernel_rfl) (by kernel_rfl) (by rfl) ?hv165 (by assumption) ?rest165
            case hv165 => first | (intro w hSw; (try dsimp only at hSw); go_simp; done) | (intro w hSw; (try dsimp only at hSw); go_simp; with_reducible rfl)
            (try simp only [Act.put, List.setIfInBounds_toArray, List.set_cons_zero, List.set_cons_succ])
            refine Reg.call (i := 45) rfl (by kernel_rfl) (by rfl) ?_
            intro K hK
            go_simp
            go_at_call 34
            (with_reducible refine (hta _ hC).mono ?_)
            rintro e Wn ⟨rfl, hBn⟩
            replace hC := hC.grow hBn
            replace hZ := hZ.below hBn hZ.lt
            clear hBn hHeld
            refine hK.out _ _ (by exact ⟨hC.lim.cell 0, hC.lim.cell 1, hC.lim.cell 2, hC.lim.cell 3, hC.lim.cell 4, hC.lim.cell 5, hC.lim.cell 6, hC.lim.cell 7, hC.lim.cell 8, hC.st.cell 0, hC.st.cell 1, hC.st.cell 2, hZ.cell 1⟩) (fun hHeld => ?_)
            clear hK K
            (try simp only [Act.put, List.setIfInBounds_toArray, List.set_cons_zero, List.set_cons_succ])
            clear hbg hta hrt hrb hs1 hr1 hs2 hr2
            cases rT with
            | true =>
              have hrB : rB = false := by simpa using hnb
              subst hrB
              refine Reg.take (i := 46) (v := ?v166) rfl (by kernel_rfl) (by kernel_rfl) (by kernel_rfl) (by rfl) ?hv166 (by assumption) ?rest166
              case hv166 => first | (intro w hSw; (try dsimp only at hSw); go_simp; done) | (intro w hSw; (try dsimp only at hSw); go_simp; with_reducible rfl)
              (try simp only [Act.put, List.setIfInBounds_toArray, List.set_cons_zero, List.set_cons_succ])
              refine Reg.take (i := 47) (v := ?v167) rfl (by kernel_rfl) (by kernel_rfl) (by kernel_rfl) (by rfl) ?hv167 (by assumption) ?rest167
              case hv167 => first | (intro w hSw; (try dsimp only at hSw); go_simp; done) | (intro w hSw; (try dsimp only at hSw); go_simp; with_reducible rfl)
              (try simp only [Act.put, List.setIfInBounds_toArray, List.set_cons_zero, List.set_cons_succ])
              refine Reg.call (i := 48) rfl (by kernel_rfl) (by rfl) ?_
              intro K hK
              go_simp
              go_at_call 36
              (with_reducible refine (hbr _ hC).mono ?_)
              rintro e Wn ⟨rfl, hBn⟩
              replace hC := hC.grow hBn
              replace hZ := hZ.below hBn hZ.lt
              clear hBn hHeld
              refine hK.out _ _ (by exact ⟨hC.lim.cell 0, hC.lim.cell 1, hC.lim.cell 2, hC.lim.cell 3, hC.lim.cell 4, hC.lim.cell 5, hC.lim.cell 6, hC.lim.cell 7, hC.lim.cell 8, hC.st.cell 0, hC.st.cell 1, hC.st.cell 2, hZ.cell 1⟩) (fun hHeld => ?_)
              clear hK K
              (try simp only [Act.put, List.setIfInBounds_toArray, List.set_cons_zero, List.set_cons_succ])
              refine Reg.take (i := 49) (v := ?v168) rfl (by kernel_rfl) (by kernel_rfl) (by kernel_rfl) (by rfl) ?hv168 (by assumption) ?rest168
              case hv168 => first | (intro w hSw; (try dsimp only at hSw); go_simp; done) | (intro w hSw; (try dsimp only at hSw); go_simp; with_reducible rfl)
              (try simp only [Act.put, List.setIfInBounds_toArray, List.set_cons_zero, List.set_cons_succ])
              refine Reg.take (i := 50) (v := ?v169) rfl (by kernel_rfl) (by kernel_rfl) (by kernel_rfl) (by rfl) ?hv169 (by assumption) ?rest169
              case hv169 => first | (intro w hSw; (try dsimp only at hSw); go_simp; done) | (intro w hSw; (try dsimp only at hSw); go_simp; with_reducible rfl)
              (try simp only [Act.put, List.setIfInBounds_toArray, List.set_cons_zero, List.set_cons_succ])
              refine Reg.done (by kernel_rfl) ?_ _
              clear hHeld hbr
              have HC := Lib.hid hC
              clear hC hZ
              go_wp2
              go_roundw
              case rel => exact ⟨j + 1, s1, A, c, by omega, by go_num, hn1, HC.out⟩
              case measure => simp [intOf]; omega
            | false =>
              refine Reg.take (i := 46) (v := ?v170) rfl (by kernel_rfl) (by kernel_rfl) (by kernel_rfl) (by rfl) ?hv170 (by assumption) ?rest170
              case hv170 => first | (intro w hSw; (try dsimp only at hSw); go_simp; done) | (intro w hSw; (try dsimp only at hSw); go_simp; with_reducible rfl)
              (try simp only [Act.put, List.setIfInBounds_toArray, List.set_cons_zero, List.set_cons_succ])
              refine Reg.skip (i := 47) rfl (by kernel_rfl) (by kernel_rfl) (by kernel_rfl) (by rfl) (by assumption) ?_
              (try simp only [Act.put, List.setIfInBounds_toArray, List.set_cons_zero, List.set_cons_succ])
              refine Reg.skip (i := 48) rfl (by kernel_rfl) (by kernel_rfl) (by kernel_rfl) (by rfl) (by assumption) ?_
              (try simp only [Act.put, List.setIfInBounds_toArray, List.set_cons_zero, List.set_cons_succ])
              refine Reg.take (i := 49) (v := ?v171) rfl (by kernel_rfl) (by kernel_rfl) (by kernel_rfl) (by rfl) ?hv171 (by assumption) ?rest171
              case hv171 => first | (intro w hSw; (try dsimp only at hSw); go_simp; done) | (intro w hSw; (try dsimp only at hSw); go_simp; with_reducible rfl)
              (try simp only [Act.put, List.setIfInBounds_toArray, List.set_cons_zero, List.set_cons_succ])
              refine Reg.take (i := 50) (v := ?v172) rfl (by kernel_rfl) (by kernel_rfl) (by kernel_rfl) (by rfl) ?hv172 (by assumption) ?rest172
              case hv172 => first | (intro w hSw; (try dsimp only at hSw); go_simp; done) | (intro w hSw; (try dsimp only at hSw); go_simp; with_reducible rfl)
              (try simp only [Act.put, List.setIfInBounds_toArray, List.set_cons_zero, List.set_cons_succ])
              refine Reg.done (by kernel_rfl) ?_ _
              clear hHeld hbr
              have HC := Lib.hid hC
              clear hC hZ
              go_wp2
              go_roundw
              case rel => exact ⟨j + 1, s1, A, c, by omega, by go_num, hn1, HC.out⟩
              case measure => simp [intOf]; omega
    · obtain rfl : j = p := by omega
      have HC := Lib.hid hC
      clear hC
      go_wp2_with (go_at_call 27; ((with_reducible refine (hli _).mono ?_); rintro e W9 ⟨rfl, hB9⟩))
      go_ret
      exact ⟨rfl, HC.out.mt.below.trans (hB9.mono HC.out.mt.below.size)⟩
end Go.Proofs.Ytnoppoimahfknaa.Tally
