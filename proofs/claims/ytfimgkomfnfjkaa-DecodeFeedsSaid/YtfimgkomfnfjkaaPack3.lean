/- What the proofs stand on, part 3. -/
import Derived.Test.YtfimgkomfnfjkaaPack2
import Derived.Test.YtfimgkomfnfjkaaPack1
import Derived.Lib.Hide
section
/- The reference's events of bytes. -/
set_option linter.unusedSimpArgs false
set_option linter.unusedVariables false
namespace Go.Proofs.Ytfimgkomfnfjkaa.Par
open Go.RowKit RU8 Frm
theorem walk_may (o : Nat) (b : List Nat) (hb : Bytes b) : ∀ p ∈ walkP o b, mayT p.l = true ∧ p.seq < 256 := by
  induction o, b using walk_ind with
  | hend o b h => rw [(walk_end o h).1]; intro p hp; cases hp
  | hbad o b h6 h0 ih => rw [(walk_bad o h6 h0).1]; exact ih (bytes_drop hb 1)
  | hgood o b h0 ih =>
    have h1 := (look_made hb h0).1
    have h2 := (look_made hb h0).2.2.2
    have h3 := ih (bytes_drop hb _)
    rw [(walk_good o h0).1]
    generalize lookL b = l at *
    generalize lookSeq b = q at *
    intro p hp
    rcases List.mem_cons.1 hp with rfl | hp
    · exact ⟨h1, h2⟩
    · exact h3 p hp
theorem may_len {l : List Samp} (h : mayT l = true) : 1 ≤ l.length ∧ l.length ≤ 32 := by
  have h2 := of_decide_eq_true (by simpa only [mayT] using h)
  exact ⟨h2.1, h2.2.1⟩
theorem evs_few (st : St) (p : Place) (h : p.l.length ≤ 32) : (st.evs p).length ≤ 33 ∧ (st.next p).s ≤ st.s + 32 := by
  unfold St.evs St.next
  split
  · rw [List.length_append, evS_length]
    constructor
    · split <;> simp <;> omega
    · simp; omega
  · simp
theorem events_few (st : St) (ps : List Place) (h : ∀ p ∈ ps, p.l.length ≤ 32) : (eventsL st ps).length ≤ 33 * ps.length ∧ (afterL st ps).s ≤ st.s + 32 * ps.length := by
  induction ps generalizing st with
  | nil => simp [eventsL, afterL]
  | cons p ps ih =>
    obtain ⟨h1, h2⟩ := evs_few st p (h p (by simp))
    obtain ⟨h3, h4⟩ := ih (st.next p) (fun q hq => h q (by simp [hq]))
    simp only [eventsL, afterL, List.length_append, List.length_cons]
    omega
theorem place_cells {w : World} {x : Addr} {len : Nat} {ps : List Place} {qs : List Ptr} (h : Row.Vals placeS w (some x) len (pvs 0 ps qs)) (hq : qs.length = ps.length) (i : Nat) (hi : i < len) :
    w.cell? (x.add (i * 4)) = some (.int .i64 ((ps.getD i noPlace).at_ : Nat)) ∧ w.cell? ⟨(x.add (i * 4)).block, (x.add (i * 4)).off + 1, none⟩ = some (.bool (decide ((ps.getD i noPlace).at_ ≠ lastEnd 0 (ps.take i)))) ∧
    w.cell? ⟨(x.add (i * 4)).block, (x.add (i * 4)).off + 2, none⟩ = some (.int .u8 ((ps.getD i noPlace).seq : Nat)) ∧ w.cell? ⟨(x.add (i * 4)).block, (x.add (i * 4)).off + 3, none⟩ = some (.slice (qs.getD i Ptr.none_).A (qs.getD i Ptr.none_).n (qs.getD i Ptr.none_).c) := by
  have hl := h.len_
  have hpl := pvs_length 0 ps qs hq
  have e := pvs_get 0 ps qs hq i (by omega) (by omega)
  have key : ∀ m u, (placeS.enc ((pvs 0 ps qs)[i]'(by omega)))[m]? = some u → m < 4 → w.cell? (if m = 0 then x.add (i * 4) else ⟨(x.add (i * 4)).block, (x.add (i * 4)).off + m, none⟩) = some u := fun m u hu hm => by
    have h1 := h.at_ i m (by omega) u hu
    rw [show placeS.k = 4 from rfl] at h1
    by_cases h0 : m = 0
    · subst h0; simpa using h1
    · rw [if_neg h0]
      rw [show x.add (i * 4 + m) = ⟨(x.add (i * 4)).block, (x.add (i * 4)).off + m, none⟩ by
        unfold Addr.add
        by_cases h2 : i * 4 = 0 <;> simp [h2, h0, Nat.add_assoc]] at h1
      exact h1
  rw [e] at key
  exact ⟨key 0 _ rfl (by omega), key 1 _ rfl (by omega), key 2 _ rfl (by omega), key 3 _ rfl (by omega)⟩
/-- What an Events answers. -/
def EventsIs (w : World) (b : List Nat) (e : Ending) (w' : World) : Prop :=
  ∃ A n c, e = .returned (.tuple #[.slice A n c, .int .i64 (endT b : Nat)]) ∧ n ≤ c ∧ c ≤ 9223372036854775807 ∧ n ≤ 100000 ∧ Row.Vals evSh w' A n (eventsT b) ∧ (∀ x, A = some x → w.heap.size ≤ x.block) ∧ Below w.heap.size w w'
theorem evs_in {st : St} {p : Place} (h : inOrder st.prev p.seq = true) : st.evs p = (if st.gap || decide (p.at_ ≠ st.pend) then [(1, st.s, (0, false))] else []) ++ evS st.s p.l ∧ st.next p = ⟨p.end_, some p.seq, st.s + p.l.length, false⟩ := by
  unfold St.evs St.next; rw [if_pos h, if_pos h]; exact ⟨rfl, rfl⟩
theorem evs_out {st : St} {p : Place} (h : inOrder st.prev p.seq = false) : st.evs p = [] ∧ st.next p = ⟨p.end_, some p.seq, st.s, true⟩ := by
  unfold St.evs St.next; rw [h]; exact ⟨rfl, rfl⟩
theorem evS_take (s : Nat) (l : List Samp) (k : Nat) (h : k < l.length) : evS s (l.take (k + 1)) = evS s (l.take k) ++ [(2, s + k, l.getD k (0, false))] := by
  rw [take_step l (0, false) k h, evS_append]
  simp [evS, List.length_take, Nat.min_eq_left (Nat.le_of_lt h)]
theorem one_new (W : World) (t : TypeId) (e : Ev) : Row.Vals evSh (W.alloc (.cells #[.int .i64 (e.1 : Nat), .int .i64 (e.2.1 : Nat), .int .i32 e.2.2.1, .bool e.2.2.2] t)) (some ⟨W.heap.size, 0, none⟩) 1 [e] :=
  Row.Vals.has (S := evSh) (ys := [e]) (tl := []) (Has.new _ _ _)
theorem evs_room (ps : List Place) (h : ∀ p ∈ ps, mayT p.l = true ∧ p.seq < 256) (j : Nat) : (eventsL start (ps.take j)).length ≤ 33 * ps.length ∧ (stAt ps j).s ≤ 32 * ps.length := by
  have h1 := events_few start (ps.take j) (fun p hp => (may_len (h p (List.mem_of_mem_take hp)).1).2)
  rw [List.length_take] at h1
  have h2 : (afterL start (ps.take j)).s ≤ 0 + 32 * min j ps.length := h1.2
  exact ⟨by omega, by show (afterL start (ps.take j)).s ≤ _; omega⟩
set_option maxRecDepth 100000 in
set_option maxHeartbeats 2000000 in
theorem refevents_any (A : Option Addr) (n c : Nat) (b : List Nat) (w : World) (hv : Vals w A n b) (hb : Bytes b) (hn : n ≤ 2000) (hc : n ≤ c) (hc2 : c ≤ 9223372036854775807) :
    Calls Try.prog 26 #[.slice A n c] w (EventsIs w b) := by
  have hwk := refwalk_any A n c b w hv hb hn hc hc2
  have hlen := hv.len_
  have hInfo : (Try.prog.info? 46).map (fun i => (i.zero, i.size, i.bytes)) = some (some (.agg #[.int .i64 0, .int .i64 0, .int .i32 0, .bool false]), 4, 24) := by kernel_rfl
  have HInfo := Lib.hid hInfo
  have hmay := walk_may 0 b hb
  have hfew := events_few start (walkP 0 b) (fun p hp => (may_len (hmay p hp).1).2)
  unfold WalkIs at hwk
  unfold EventsIs eventsT
  generalize walkP 0 b = ps at *
  generalize endT b = E at *
  have HM := Lib.hid hmay
  have HFEW := Lib.hid hfew
  clear hInfo hmay hfew hv hb
  go_enter Try.func26, Try.ntmps26
  go_wp2_with (go_at_call 41; ((with_reducible refine hwk.mono ?_); rintro e W0 ⟨A0, n0, c0, qs, rfl, g1, g2, g3, hV, hH, hfar, hB0⟩))
  have hql : qs.length = ps.length := by rw [hH.len, List.length_map]
  have hpl : ps.length = n0 := by rw [← pvs_length 0 ps qs hql]; exact hV.len_
  have HQL := Lib.hid hql
  have HPL := Lib.hid hpl
  clear hql hpl hwk
  go_loopw [6, 7, 8, 9] (fun v s g i wr => ∃ j : Nat, j ≤ n0 ∧ i = .int .i64 (j : Nat) ∧ s = .int .i64 ((stAt ps j).s : Nat) ∧ g = .bool (stAt ps j).gap ∧ wr.ownsRow W0.heap.size 46 4 v (eventsL start (ps.take j)).length (Row.flat evSh (eventsL start (ps.take j))) ∧ Below W0.heap.size W0 wr) (fun _ _ _ i _ => n0 - (intOf i).toNat)
  case atStart => exact ⟨0, by omega, rfl, rfl, rfl, Row.own_none (S := evSh) _ _ _, Below.refl _ _⟩
  case round =>
    obtain ⟨j, hj, rfl, rfl, rfl, hO, hB⟩ := hrel
    by_cases hjn : j < n0
    · skip
      obtain ⟨x, rfl, _⟩ := hV.cells (by omega)
      have hVr := hV.below hB
      obtain ⟨e0, e1, e2, e3⟩ := place_cells hVr HQL.out j hjn
      have hR0 : Row.Vals sampS W0 (qs.getD j Ptr.none_).A (qs.getD j Ptr.none_).n (ps.getD j noPlace).l := by
        have := hH.read j (by rw [List.length_map, HPL.out]; exact hjn)
        rwa [show (ps.map (·.l)).getD j [] = (ps.getD j noPlace).l by
          rw [List.getD_eq_getElem?_getD, List.getElem?_map, List.getElem?_eq_getElem (by rw [HPL.out]; exact hjn), List.getD_eq_getElem?_getD, List.getElem?_eq_getElem (by rw [HPL.out]; exact hjn)]; rfl] at this
      have hst := st_step ps j (by rw [HPL.out]; exact hjn)
      have hev := ev_step ps j (by rw [HPL.out]; exact hjn)
      have hpend := st_pend ps j (by rw [HPL.out]; omega)
      have hprev := st_prev ps j (by rw [HPL.out]; omega)
      rw [← hpend] at e1
      obtain ⟨d, hd⟩ : ∃ d, decide ((ps.getD j noPlace).at_ ≠ (stAt ps j).pend) = d := ⟨_, rfl⟩
      rw [hd] at e1
      obtain ⟨g, hg⟩ : ∃ g, (stAt ps j).gap = g := ⟨_, rfl⟩
      rw [hg]
      have hsj := (evs_room ps HM.out j)
      rcases (by cases g <;> cases d <;> simp : g = true ∨ (g = false ∧ d = true) ∨ (g = false ∧ d = false)) with rfl | ⟨rfl, rfl⟩ | ⟨rfl, rfl⟩
      · have hG : ((stAt ps j).gap || decide ((ps.getD j noPlace).at_ ≠ (stAt ps j).pend)) = true := by rw [hg]; rfl
        by_cases hj0 : j = 0
        · have hin : inOrder (stAt ps j).prev (ps.getD j noPlace).seq = true := by rw [hprev, if_pos hj0]; rfl
          have hj0z : ¬ 0 < j := by omega
          clear hprev hj0
          have hprev := True.intro
          have hst' := hst.trans (evs_in hin).2
          have hevs := (evs_in hin).1
          rw [hG, if_pos rfl] at hevs
          have hev' := hev.trans (by rw [hevs, ← List.append_assoc])
          clear hevs
          obtain ⟨⟨Aq, L, cq⟩, hqe⟩ : ∃ q, qs.getD j Ptr.none_ = q := ⟨_, rfl⟩
          rw [hqe] at hR0 e3
          dsimp only at hR0 e3
          obtain ⟨l, hl⟩ : ∃ l, (ps.getD j noPlace).l = l := ⟨_, rfl⟩
          rw [hl] at hR0
          (try rw [hl] at hst')
          (try rw [hl] at hev')
          have hLL : l.length = L := hR0.len_
          have hL32 : L ≤ 32 := by
            have := (may_len (HM.out (ps.getD j noPlace) (getD_mem ps noPlace j (by rw [HPL.out]; exact hjn))).1).2
            rw [hl, hLL] at this
            exact this
          rw [HPL.out] at hsj
          have hs0b : (stAt ps j).s ≤ 64000 := by omega
          have hE0b : (eventsL start (ps.take j)).length ≤ 66000 := by omega
          clear hpend hprev hst hev
          generalize (stAt ps j).s = s0 at *
          generalize eventsL start (ps.take j) = E0 at *
          have HS0 := Lib.hid hs0b
          have HQJ := Lib.hid hqe
          have HLL := Lib.hid hLL
          have HL32 := Lib.hid hL32
          clear hqe hl hsj hs0b hLL
          have HST := Lib.hid hst'
          have HEV := Lib.hid hev'
          clear hst' hev'
          clear hin hG hg hd
          obtain ⟨E1, hE1⟩ : ∃ E, E0 ++ [(1, s0, (0, false))] = E := ⟨_, rfl⟩
          have hE1b : E1.length ≤ 66001 := by rw [← hE1, List.length_append, List.length_singleton]; omega
          have hE1c : E0.length + 1 ≤ 1048576 := by omega
          have hE1d : E0.length + 1 = E1.length := by rw [← hE1, List.length_append, List.length_singleton]
          have HE1 := Lib.hid hE1b
          have HE1C := Lib.hid hE1c
          have HE1D := Lib.hid hE1d
          have HE1E := Lib.hid hE1
          rw [hE1] at HEV
          have hOa := own_kept hO ((Kept.refl [] wr).alloc (.cells #[.int .i64 1, .int .i64 (s0 : Nat), .int .i32 0, .bool false] 46)) (by simp)
          have hBa := hB.alloc hB.size (.cells #[.int .i64 1, .int .i64 (s0 : Nat), .int .i32 0, .bool false] 46)
          have hVn : ∀ z, Row.Vals evSh ((wr.alloc (.cells #[.int .i64 1, .int .i64 (s0 : Nat), .int .i32 0, .bool false] 46)).drewN z) (some ⟨wr.heap.size, 0, none⟩) 1 [(1, s0, (0, false))] := fun z => (one_new wr 46 (1, s0, (0, false))).drewN z
          clear hE1 hE1b hE1c hE1d hE0b
          go_wp2
          go_quiet (fail)
          go_wp2_with (at_builtin; refine Row.wpList_append (S := evSh) rfl (.tmp 50) (.tmp 53) _ rfl W0.heap.size 46 _ 24 (by omega) Try.underlying27 HInfo.out (by kernel_rfl) u6 E0.length E0 rfl (by exact hOa) _ 1 1 [(1, s0, (0, false))] rfl (by exact hVn _) (by exact HE1C.out) (by exact hBa.size) ?_; intro v1 W1 hO1 hg1 hat1; have hK1 := Kept.of_grown hg1; have hB1 := below_kept (below_drewN hBa _) hK1 hBa.size (own_in hOa))
          rw [HE1E.out, HE1D.out] at hO1
          clear hOa hVn hBa hO hB hVr e0 e1 e2 e3
          go_loopw [6, 7, 10] (fun v s i wr => ∃ k : Nat, k ≤ L ∧ i = .int .i64 (k : Nat) ∧ s = .int .i64 ((s0 + k : Nat) : Int) ∧ wr.ownsRow W0.heap.size 46 4 v (E1 ++ evS s0 (l.take k)).length (Row.flat evSh (E1 ++ evS s0 (l.take k))) ∧ Below W0.heap.size W0 wr) (fun _ _ i _ => L - (intOf i).toNat)
          case atStart => exact ⟨0, Nat.zero_le _, rfl, rfl, by rw [List.take_zero, evS, List.append_nil]; exact hO1, hB1⟩
          case round =>
            obtain ⟨k, hk, rfl, rfl, hO2, hB2⟩ := hrel
            have hVk := hV.below hB2
            obtain ⟨k0, k1, k2, k3⟩ := place_cells hVk HQL.out j hjn
            rw [HQJ.out] at k3
            have hrk := hR0.below hB2
            by_cases hkL : k < L
            · obtain ⟨y, rfl, _⟩ := hrk.cells (by omega)
              obtain ⟨m0, m1⟩ := samp_cells hrk k hkL
              have hstp := evS_take s0 l k (by rw [HLL.out]; exact hkL)
              have HSTP := Lib.hid hstp
              have hE2 : (E1 ++ evS s0 (l.take k)).length + 1 ≤ 1048576 := by rw [List.length_append, evS_length, List.length_take]; have := HE1.out; have := HL32.out; omega
              have hOa := own_kept hO2 ((Kept.refl [] wr).alloc (.cells #[.int .i64 2, .int .i64 ((s0 + k : Nat) : Int), .int .i32 (l.getD k (0, false)).1, .bool (l.getD k (0, false)).2] 46)) (by simp)
              have hBa := hB2.alloc hB2.size (.cells #[.int .i64 2, .int .i64 ((s0 + k : Nat) : Int), .int .i32 (l.getD k (0, false)).1, .bool (l.getD k (0, false)).2] 46)
              have hVn : Row.Vals evSh (wr.alloc (.cells #[.int .i64 2, .int .i64 ((s0 + k : Nat) : Int), .int .i32 (l.getD k (0, false)).1, .bool (l.getD k (0, false)).2] 46)) (some ⟨wr.heap.size, 0, none⟩) 1 [(2, s0 + k, l.getD k (0, false))] := one_new wr 46 (2, s0 + k, l.getD k (0, false))
              generalize hE : E1 ++ evS s0 (l.take k) = E2 at *
              obtain ⟨sk, hsk⟩ : ∃ z, s0 + k = z := ⟨_, rfl⟩
              rw [hsk] at hVn hOa hBa ⊢
              have hskz : (s0 : Int) + (k : Int) = (sk : Int) := by omega
              have hsk1 : IntKind.i64.wrap ((sk : Int) + 1) = (sk : Int) + 1 := by exact IntWalk.i64_in _ (by have := HS0.out; omega)
              have HSK := Lib.hid hsk
              clear hstp hsk hV hVk hO1
              go_wp2_with (at_builtin; refine Row.wpList_append (S := evSh) rfl (.tmp 66) (.tmp 78) _ rfl W0.heap.size 46 _ 24 (by omega) Try.underlying27 HInfo.out (by kernel_rfl) u6 E2.length E2 rfl (by exact hOa) _ 1 1 [(2, sk, l.getD k (0, false))] rfl (by exact hVn) (by exact hE2) (by exact hBa.size) ?_; intro v3 W3 hO3 hg3 hat3; have hK3 := Kept.of_grown hg3; have hB3 := below_kept hBa hK3 hBa.size (own_in hOa))
              go_roundw
              case rel => exact ⟨k + 1, by omega, by go_num, by first | go_num | (rw [← HSK.out]; go_num), by rw [HSTP.out, ← List.append_assoc, hE, HSK.out, List.length_append, List.length_singleton]; exact hO3, hB3⟩
              case measure => simp [intOf]; omega
            · have hkL2 : k = L := by omega
              rw [List.take_of_length_le (by rw [HLL.out]; omega)] at hO2
              subst hkL2
              clear hV hVk hO1
              go_wp2
              go_roundw
              case rel => exact ⟨j + 1, by omega, by go_num, by rw [HST.out]; show _ = Value.int .i64 ((s0 + l.length : Nat) : Int); rw [HLL.out], by rw [HST.out], by rw [HEV.out]; exact hO2, hB2⟩
              case measure => simp [intOf]; omega
        · obtain ⟨j1, hj1⟩ : ∃ z, z + 1 = j := ⟨j - 1, by omega⟩
          have hj0z : 0 < j := by omega
          have hj1z : (j : Int) - 1 = (j1 : Int) := by omega
          obtain ⟨f0, f1, f2, f3⟩ := place_cells hVr HQL.out j1 (by omega)
          clear f0 f1 f3
          have hpq := (HM.out (ps.getD j1 noPlace) (getD_mem ps noPlace j1 (by rw [HPL.out]; omega))).2
          have hio : inOrder (stAt ps j).prev (ps.getD j noPlace).seq = decide ((ps.getD j noPlace).seq = ((ps.getD j1 noPlace).seq + 1) % 256) := by rw [hprev, if_neg hj0, show j - 1 = j1 by omega]; rfl
          obtain ⟨pq, hpqe⟩ : ∃ z, (ps.getD j1 noPlace).seq = z := ⟨_, rfl⟩
          rw [hpqe] at f2 hpq hio
          obtain ⟨nx, hnx⟩ : ∃ z, (pq + 1) % 256 = z := ⟨_, rfl⟩
          rw [hnx] at hio
          have hwr8 : IntKind.u8.wrap ((pq : Int) + 1) = (nx : Int) := by rw [IntKind.wrap_u8]; omega
          have HJ1 := Lib.hid hj1
          clear hj0 hj1 hpqe hnx hpq
          by_cases hsq : (ps.getD j noPlace).seq = nx
          · have hin := hio.trans (decide_eq_true hsq)
            rw [hsq] at e2
            clear hio hsq
            have hst' := hst.trans (evs_in hin).2
            have hevs := (evs_in hin).1
            rw [hG, if_pos rfl] at hevs
            have hev' := hev.trans (by rw [hevs, ← List.append_assoc])
            clear hevs
            obtain ⟨⟨Aq, L, cq⟩, hqe⟩ : ∃ q, qs.getD j Ptr.none_ = q := ⟨_, rfl⟩
            rw [hqe] at hR0 e3
            dsimp only at hR0 e3
            obtain ⟨l, hl⟩ : ∃ l, (ps.getD j noPlace).l = l := ⟨_, rfl⟩
            rw [hl] at hR0
            (try rw [hl] at hst')
            (try rw [hl] at hev')
            have hLL : l.length = L := hR0.len_
            have hL32 : L ≤ 32 := by
              have := (may_len (HM.out (ps.getD j noPlace) (getD_mem ps noPlace j (by rw [HPL.out]; exact hjn))).1).2
              rw [hl, hLL] at this
              exact this
            rw [HPL.out] at hsj
            have hs0b : (stAt ps j).s ≤ 64000 := by omega
            have hE0b : (eventsL start (ps.take j)).length ≤ 66000 := by omega
            clear hpend hprev hst hev
            generalize (stAt ps j).s = s0 at *
            generalize eventsL start (ps.take j) = E0 at *
            have HS0 := Lib.hid hs0b
            have HQJ := Lib.hid hqe
            have HLL := Lib.hid hLL
            have HL32 := Lib.hid hL32
            clear hqe hl hsj hs0b hLL
            have HST := Lib.hid hst'
            have HEV := Lib.hid hev'
            clear hst' hev'
            clear hin hG hg hd
            obtain ⟨E1, hE1⟩ : ∃ E, E0 ++ [(1, s0, (0, false))] = E := ⟨_, rfl⟩
            have hE1b : E1.length ≤ 66001 := by rw [← hE1, List.length_append, List.length_singleton]; omega
            have hE1c : E0.length + 1 ≤ 1048576 := by omega
            have hE1d : E0.length + 1 = E1.length := by rw [← hE1, List.length_append, List.length_singleton]
            have HE1 := Lib.hid hE1b
            have HE1C := Lib.hid hE1c
            have HE1D := Lib.hid hE1d
            have HE1E := Lib.hid hE1
            rw [hE1] at HEV
            have hOa := own_kept hO ((Kept.refl [] wr).alloc (.cells #[.int .i64 1, .int .i64 (s0 : Nat), .int .i32 0, .bool false] 46)) (by simp)
            have hBa := hB.alloc hB.size (.cells #[.int .i64 1, .int .i64 (s0 : Nat), .int .i32 0, .bool false] 46)
            have hVn : ∀ z, Row.Vals evSh ((wr.alloc (.cells #[.int .i64 1, .int .i64 (s0 : Nat), .int .i32 0, .bool false] 46)).drewN z) (some ⟨wr.heap.size, 0, none⟩) 1 [(1, s0, (0, false))] := fun z => (one_new wr 46 (1, s0, (0, false))).drewN z
            clear hE1 hE1b hE1c hE1d hE0b
            go_wp2
            go_quiet (fail)
            go_wp2_with (at_builtin; refine Row.wpList_append (S := evSh) rfl (.tmp 50) (.tmp 53) _ rfl W0.heap.size 46 _ 24 (by omega) Try.underlying27 HInfo.out (by kernel_rfl) u6 E0.length E0 rfl (by exact hOa) _ 1 1 [(1, s0, (0, false))] rfl (by exact hVn _) (by exact HE1C.out) (by exact hBa.size) ?_; intro v1 W1 hO1 hg1 hat1; have hK1 := Kept.of_grown hg1; have hB1 := below_kept (below_drewN hBa _) hK1 hBa.size (own_in hOa))
            rw [HE1E.out, HE1D.out] at hO1
            clear hOa hVn hBa hO hB hVr e0 e1 e2 e3
            go_loopw [6, 7, 10] (fun v s i wr => ∃ k : Nat, k ≤ L ∧ i = .int .i64 (k : Nat) ∧ s = .int .i64 ((s0 + k : Nat) : Int) ∧ wr.ownsRow W0.heap.size 46 4 v (E1 ++ evS s0 (l.take k)).length (Row.flat evSh (E1 ++ evS s0 (l.take k))) ∧ Below W0.heap.size W0 wr) (fun _ _ i _ => L - (intOf i).toNat)
            case atStart => exact ⟨0, Nat.zero_le _, rfl, rfl, by rw [List.take_zero, evS, List.append_nil]; exact hO1, hB1⟩
            case round =>
              obtain ⟨k, hk, rfl, rfl, hO2, hB2⟩ := hrel
              have hVk := hV.below hB2
              obtain ⟨k0, k1, k2, k3⟩ := place_cells hVk HQL.out j hjn
              rw [HQJ.out] at k3
              have hrk := hR0.below hB2
              by_cases hkL : k < L
              · obtain ⟨y, rfl, _⟩ := hrk.cells (by omega)
                obtain ⟨m0, m1⟩ := samp_cells hrk k hkL
                have hstp := evS_take s0 l k (by rw [HLL.out]; exact hkL)
                have HSTP := Lib.hid hstp
                have hE2 : (E1 ++ evS s0 (l.take k)).length + 1 ≤ 1048576 := by rw [List.length_append, evS_length, List.length_take]; have := HE1.out; have := HL32.out; omega
                have hOa := own_kept hO2 ((Kept.refl [] wr).alloc (.cells #[.int .i64 2, .int .i64 ((s0 + k : Nat) : Int), .int .i32 (l.getD k (0, false)).1, .bool (l.getD k (0, false)).2] 46)) (by simp)
                have hBa := hB2.alloc hB2.size (.cells #[.int .i64 2, .int .i64 ((s0 + k : Nat) : Int), .int .i32 (l.getD k (0, false)).1, .bool (l.getD k (0, false)).2] 46)
                have hVn : Row.Vals evSh (wr.alloc (.cells #[.int .i64 2, .int .i64 ((s0 + k : Nat) : Int), .int .i32 (l.getD k (0, false)).1, .bool (l.getD k (0, false)).2] 46)) (some ⟨wr.heap.size, 0, none⟩) 1 [(2, s0 + k, l.getD k (0, false))] := one_new wr 46 (2, s0 + k, l.getD k (0, false))
                generalize hE : E1 ++ evS s0 (l.take k) = E2 at *
                obtain ⟨sk, hsk⟩ : ∃ z, s0 + k = z := ⟨_, rfl⟩
                rw [hsk] at hVn hOa hBa ⊢
                have hskz : (s0 : Int) + (k : Int) = (sk : Int) := by omega
                have hsk1 : IntKind.i64.wrap ((sk : Int) + 1) = (sk : Int) + 1 := by exact IntWalk.i64_in _ (by have := HS0.out; omega)
                have HSK := Lib.hid hsk
                clear hstp hsk hV hVk hO1
                go_wp2_with (at_builtin; refine Row.wpList_append (S := evSh) rfl (.tmp 66) (.tmp 78) _ rfl W0.heap.size 46 _ 24 (by omega) Try.underlying27 HInfo.out (by kernel_rfl) u6 E2.length E2 rfl (by exact hOa) _ 1 1 [(2, sk, l.getD k (0, false))] rfl (by exact hVn) (by exact hE2) (by exact hBa.size) ?_; intro v3 W3 hO3 hg3 hat3; have hK3 := Kept.of_grown hg3; have hB3 := below_kept hBa hK3 hBa.size (own_in hOa))
                go_roundw
                case rel => exact ⟨k + 1, by omega, by go_num, by first | go_num | (rw [← HSK.out]; go_num), by rw [HSTP.out, ← List.append_assoc, hE, HSK.out, List.length_append, List.length_singleton]; exact hO3, hB3⟩
                case measure => simp [intOf]; omega
              · have hkL2 : k = L := by omega
                rw [List.take_of_length_le (by rw [HLL.out]; omega)] at hO2
                subst hkL2
                clear hV hVk hO1
                go_wp2
                go_roundw
                case rel => exact ⟨j + 1, by omega, by go_num, by rw [HST.out]; show _ = Value.int .i64 ((s0 + l.length : Nat) : Int); rw [HLL.out], by rw [HST.out], by rw [HEV.out]; exact hO2, hB2⟩
                case measure => simp [intOf]; omega
          · have hout := hio.trans (decide_eq_false hsq)
            have hst' := hst.trans (evs_out hout).2
            have hev' := hev.trans (by rw [(evs_out hout).1, List.append_nil])
            obtain ⟨sq, hsqe⟩ : ∃ z, (ps.getD j noPlace).seq = z := ⟨_, rfl⟩
            rw [hsqe] at e2 hsq
            have hsqz : ((sq : Int) == (nx : Int)) = false := by simp; omega
            clear hio hsq hsqe
            obtain ⟨⟨Aq, L, cq⟩, hqe⟩ : ∃ q, qs.getD j Ptr.none_ = q := ⟨_, rfl⟩
            rw [hqe] at hR0 e3
            dsimp only at hR0 e3
            obtain ⟨l, hl⟩ : ∃ l, (ps.getD j noPlace).l = l := ⟨_, rfl⟩
            rw [hl] at hR0
            (try rw [hl] at hst')
            (try rw [hl] at hev')
            have hLL : l.length = L := hR0.len_
            have hL32 : L ≤ 32 := by
              have := (may_len (HM.out (ps.getD j noPlace) (getD_mem ps noPlace j (by rw [HPL.out]; exact hjn))).1).2
              rw [hl, hLL] at this
              exact this
            rw [HPL.out] at hsj
            have hs0b : (stAt ps j).s ≤ 64000 := by omega
            have hE0b : (eventsL start (ps.take j)).length ≤ 66000 := by omega
            clear hpend hprev hst hev
            generalize (stAt ps j).s = s0 at *
            generalize eventsL start (ps.take j) = E0 at *
            have HS0 := Lib.hid hs0b
            have HQJ := Lib.hid hqe
            have HLL := Lib.hid hLL
            have HL32 := Lib.hid hL32
            clear hqe hl hsj hs0b hLL
            have HST := Lib.hid hst'
            have HEV := Lib.hid hev'
            clear hst' hev'
            clear hout hG hg hd
            go_wp2
            go_quiet (fail)
            have hO1 := own_kept hO ((Kept.refl [] wr).drewN nq) (by simp)
            have hB1 := below_drewN hB nq
            clear hO hB hVr e0 e1 e2 e3
            go_wp2
            go_roundw
            case rel => exact ⟨j + 1, by omega, by go_num, by rw [HST.out], by rw [HST.out], by rw [HEV.out]; exact hO1, hB1⟩
            case measure => simp [intOf]; omega
      · have hG : ((stAt ps j).gap || decide ((ps.getD j noPlace).at_ ≠ (stAt ps j).pend)) = true := by rw [hg, hd]; rfl
        by_cases hj0 : j = 0
        · have hin : inOrder (stAt ps j).prev (ps.getD j noPlace).seq = true := by rw [hprev, if_pos hj0]; rfl
          have hj0z : ¬ 0 < j := by omega
          clear hprev hj0
          have hprev := True.intro
          have hst' := hst.trans (evs_in hin).2
          have hevs := (evs_in hin).1
          rw [hG, if_pos rfl] at hevs
          have hev' := hev.trans (by rw [hevs, ← List.append_assoc])
          clear hevs
          obtain ⟨⟨Aq, L, cq⟩, hqe⟩ : ∃ q, qs.getD j Ptr.none_ = q := ⟨_, rfl⟩
          rw [hqe] at hR0 e3
          dsimp only at hR0 e3
          obtain ⟨l, hl⟩ : ∃ l, (ps.getD j noPlace).l = l := ⟨_, rfl⟩
          rw [hl] at hR0
          (try rw [hl] at hst')
          (try rw [hl] at hev')
          have hLL : l.length = L := hR0.len_
          have hL32 : L ≤ 32 := by
            have := (may_len (HM.out (ps.getD j noPlace) (getD_mem ps noPlace j (by rw [HPL.out]; exact hjn))).1).2
            rw [hl, hLL] at this
            exact this
          rw [HPL.out] at hsj
          have hs0b : (stAt ps j).s ≤ 64000 := by omega
          have hE0b : (eventsL start (ps.take j)).length ≤ 66000 := by omega
          clear hpend hprev hst hev
          generalize (stAt ps j).s = s0 at *
          generalize eventsL start (ps.take j) = E0 at *
          have HS0 := Lib.hid hs0b
          have HQJ := Lib.hid hqe
          have HLL := Lib.hid hLL
          have HL32 := Lib.hid hL32
          clear hqe hl hsj hs0b hLL
          have HST := Lib.hid hst'
          have HEV := Lib.hid hev'
          clear hst' hev'
          clear hin hG hg hd
          obtain ⟨E1, hE1⟩ : ∃ E, E0 ++ [(1, s0, (0, false))] = E := ⟨_, rfl⟩
          have hE1b : E1.length ≤ 66001 := by rw [← hE1, List.length_append, List.length_singleton]; omega
          have hE1c : E0.length + 1 ≤ 1048576 := by omega
          have hE1d : E0.length + 1 = E1.length := by rw [← hE1, List.length_append, List.length_singleton]
          have HE1 := Lib.hid hE1b
          have HE1C := Lib.hid hE1c
          have HE1D := Lib.hid hE1d
          have HE1E := Lib.hid hE1
          rw [hE1] at HEV
          have hOa := own_kept hO ((Kept.refl [] wr).alloc (.cells #[.int .i64 1, .int .i64 (s0 : Nat), .int .i32 0, .bool false] 46)) (by simp)
          have hBa := hB.alloc hB.size (.cells #[.int .i64 1, .int .i64 (s0 : Nat), .int .i32 0, .bool false] 46)
          have hVn : ∀ z, Row.Vals evSh ((wr.alloc (.cells #[.int .i64 1, .int .i64 (s0 : Nat), .int .i32 0, .bool false] 46)).drewN z) (some ⟨wr.heap.size, 0, none⟩) 1 [(1, s0, (0, false))] := fun z => (one_new wr 46 (1, s0, (0, false))).drewN z
          clear hE1 hE1b hE1c hE1d hE0b
          go_wp2
          go_quiet (fail)
          go_wp2_with (at_builtin; refine Row.wpList_append (S := evSh) rfl (.tmp 50) (.tmp 53) _ rfl W0.heap.size 46 _ 24 (by omega) Try.underlying27 HInfo.out (by kernel_rfl) u6 E0.length E0 rfl (by exact hOa) _ 1 1 [(1, s0, (0, false))] rfl (by exact hVn _) (by exact HE1C.out) (by exact hBa.size) ?_; intro v1 W1 hO1 hg1 hat1; have hK1 := Kept.of_grown hg1; have hB1 := below_kept (below_drewN hBa _) hK1 hBa.size (own_in hOa))
          rw [HE1E.out, HE1D.out] at hO1
          clear hOa hVn hBa hO hB hVr e0 e1 e2 e3
          go_loopw [6, 7, 10] (fun v s i wr => ∃ k : Nat, k ≤ L ∧ i = .int .i64 (k : Nat) ∧ s = .int .i64 ((s0 + k : Nat) : Int) ∧ wr.ownsRow W0.heap.size 46 4 v (E1 ++ evS s0 (l.take k)).length (Row.flat evSh (E1 ++ evS s0 (l.take k))) ∧ Below W0.heap.size W0 wr) (fun _ _ i _ => L - (intOf i).toNat)
          case atStart => exact ⟨0, Nat.zero_le _, rfl, rfl, by rw [List.take_zero, evS, List.append_nil]; exact hO1, hB1⟩
          case round =>
            obtain ⟨k, hk, rfl, rfl, hO2, hB2⟩ := hrel
            have hVk := hV.below hB2
            obtain ⟨k0, k1, k2, k3⟩ := place_cells hVk HQL.out j hjn
            rw [HQJ.out] at k3
            have hrk := hR0.below hB2
            by_cases hkL : k < L
            · obtain ⟨y, rfl, _⟩ := hrk.cells (by omega)
              obtain ⟨m0, m1⟩ := samp_cells hrk k hkL
              have hstp := evS_take s0 l k (by rw [HLL.out]; exact hkL)
              have HSTP := Lib.hid hstp
              have hE2 : (E1 ++ evS s0 (l.take k)).length + 1 ≤ 1048576 := by rw [List.length_append, evS_length, List.length_take]; have := HE1.out; have := HL32.out; omega
              have hOa := own_kept hO2 ((Kept.refl [] wr).alloc (.cells #[.int .i64 2, .int .i64 ((s0 + k : Nat) : Int), .int .i32 (l.getD k (0, false)).1, .bool (l.getD k (0, false)).2] 46)) (by simp)
              have hBa := hB2.alloc hB2.size (.cells #[.int .i64 2, .int .i64 ((s0 + k : Nat) : Int), .int .i32 (l.getD k (0, false)).1, .bool (l.getD k (0, false)).2] 46)
              have hVn : Row.Vals evSh (wr.alloc (.cells #[.int .i64 2, .int .i64 ((s0 + k : Nat) : Int), .int .i32 (l.getD k (0, false)).1, .bool (l.getD k (0, false)).2] 46)) (some ⟨wr.heap.size, 0, none⟩) 1 [(2, s0 + k, l.getD k (0, false))] := one_new wr 46 (2, s0 + k, l.getD k (0, false))
              generalize hE : E1 ++ evS s0 (l.take k) = E2 at *
              obtain ⟨sk, hsk⟩ : ∃ z, s0 + k = z := ⟨_, rfl⟩
              rw [hsk] at hVn hOa hBa ⊢
              have hskz : (s0 : Int) + (k : Int) = (sk : Int) := by omega
              have hsk1 : IntKind.i64.wrap ((sk : Int) + 1) = (sk : Int) + 1 := by exact IntWalk.i64_in _ (by have := HS0.out; omega)
              have HSK := Lib.hid hsk
              clear hstp hsk hV hVk hO1
              go_wp2_with (at_builtin; refine Row.wpList_append (S := evSh) rfl (.tmp 66) (.tmp 78) _ rfl W0.heap.size 46 _ 24 (by omega) Try.underlying27 HInfo.out (by kernel_rfl) u6 E2.length E2 rfl (by exact hOa) _ 1 1 [(2, sk, l.getD k (0, false))] rfl (by exact hVn) (by exact hE2) (by exact hBa.size) ?_; intro v3 W3 hO3 hg3 hat3; have hK3 := Kept.of_grown hg3; have hB3 := below_kept hBa hK3 hBa.size (own_in hOa))
              go_roundw
              case rel => exact ⟨k + 1, by omega, by go_num, by first | go_num | (rw [← HSK.out]; go_num), by rw [HSTP.out, ← List.append_assoc, hE, HSK.out, List.length_append, List.length_singleton]; exact hO3, hB3⟩
              case measure => simp [intOf]; omega
            · have hkL2 : k = L := by omega
              rw [List.take_of_length_le (by rw [HLL.out]; omega)] at hO2
              subst hkL2
              clear hV hVk hO1
              go_wp2
              go_roundw
              case rel => exact ⟨j + 1, by omega, by go_num, by rw [HST.out]; show _ = Value.int .i64 ((s0 + l.length : Nat) : Int); rw [HLL.out], by rw [HST.out], by rw [HEV.out]; exact hO2, hB2⟩
              case measure => simp [intOf]; omega
        · obtain ⟨j1, hj1⟩ : ∃ z, z + 1 = j := ⟨j - 1, by omega⟩
          have hj0z : 0 < j := by omega
          have hj1z : (j : Int) - 1 = (j1 : Int) := by omega
          obtain ⟨f0, f1, f2, f3⟩ := place_cells hVr HQL.out j1 (by omega)
          clear f0 f1 f3
          have hpq := (HM.out (ps.getD j1 noPlace) (getD_mem ps noPlace j1 (by rw [HPL.out]; omega))).2
          have hio : inOrder (stAt ps j).prev (ps.getD j noPlace).seq = decide ((ps.getD j noPlace).seq = ((ps.getD j1 noPlace).seq + 1) % 256) := by rw [hprev, if_neg hj0, show j - 1 = j1 by omega]; rfl
          obtain ⟨pq, hpqe⟩ : ∃ z, (ps.getD j1 noPlace).seq = z := ⟨_, rfl⟩
          rw [hpqe] at f2 hpq hio
          obtain ⟨nx, hnx⟩ : ∃ z, (pq + 1) % 256 = z := ⟨_, rfl⟩
          rw [hnx] at hio
          have hwr8 : IntKind.u8.wrap ((pq : Int) + 1) = (nx : Int) := by rw [IntKind.wrap_u8]; omega
          have HJ1 := Lib.hid hj1
          clear hj0 hj1 hpqe hnx hpq
          by_cases hsq : (ps.getD j noPlace).seq = nx
          · have hin := hio.trans (decide_eq_true hsq)
            rw [hsq] at e2
            clear hio hsq
            have hst' := hst.trans (evs_in hin).2
            have hevs := (evs_in hin).1
            rw [hG, if_pos rfl] at hevs
            have hev' := hev.trans (by rw [hevs, ← List.append_assoc])
            clear hevs
            obtain ⟨⟨Aq, L, cq⟩, hqe⟩ : ∃ q, qs.getD j Ptr.none_ = q := ⟨_, rfl⟩
            rw [hqe] at hR0 e3
            dsimp only at hR0 e3
            obtain ⟨l, hl⟩ : ∃ l, (ps.getD j noPlace).l = l := ⟨_, rfl⟩
            rw [hl] at hR0
            (try rw [hl] at hst')
            (try rw [hl] at hev')
            have hLL : l.length = L := hR0.len_
            have hL32 : L ≤ 32 := by
              have := (may_len (HM.out (ps.getD j noPlace) (getD_mem ps noPlace j (by rw [HPL.out]; exact hjn))).1).2
              rw [hl, hLL] at this
              exact this
            rw [HPL.out] at hsj
            have hs0b : (stAt ps j).s ≤ 64000 := by omega
            have hE0b : (eventsL start (ps.take j)).length ≤ 66000 := by omega
            clear hpend hprev hst hev
            generalize (stAt ps j).s = s0 at *
            generalize eventsL start (ps.take j) = E0 at *
            have HS0 := Lib.hid hs0b
            have HQJ := Lib.hid hqe
            have HLL := Lib.hid hLL
            have HL32 := Lib.hid hL32
            clear hqe hl hsj hs0b hLL
            have HST := Lib.hid hst'
            have HEV := Lib.hid hev'
            clear hst' hev'
            clear hin hG hg hd
            obtain ⟨E1, hE1⟩ : ∃ E, E0 ++ [(1, s0, (0, false))] = E := ⟨_, rfl⟩
            have hE1b : E1.length ≤ 66001 := by rw [← hE1, List.length_append, List.length_singleton]; omega
            have hE1c : E0.length + 1 ≤ 1048576 := by omega
            have hE1d : E0.length + 1 = E1.length := by rw [← hE1, List.length_append, List.length_singleton]
            have HE1 := Lib.hid hE1b
            have HE1C := Lib.hid hE1c
            have HE1D := Lib.hid hE1d
            have HE1E := Lib.hid hE1
            rw [hE1] at HEV
            have hOa := own_kept hO ((Kept.refl [] wr).alloc (.cells #[.int .i64 1, .int .i64 (s0 : Nat), .int .i32 0, .bool false] 46)) (by simp)
            have hBa := hB.alloc hB.size (.cells #[.int .i64 1, .int .i64 (s0 : Nat), .int .i32 0, .bool false] 46)
            have hVn : ∀ z, Row.Vals evSh ((wr.alloc (.cells #[.int .i64 1, .int .i64 (s0 : Nat), .int .i32 0, .bool false] 46)).drewN z) (some ⟨wr.heap.size, 0, none⟩) 1 [(1, s0, (0, false))] := fun z => (one_new wr 46 (1, s0, (0, false))).drewN z
            clear hE1 hE1b hE1c hE1d hE0b
            go_wp2
            go_quiet (fail)
            go_wp2_with (at_builtin; refine Row.wpList_append (S := evSh) rfl (.tmp 50) (.tmp 53) _ rfl W0.heap.size 46 _ 24 (by omega) Try.underlying27 HInfo.out (by kernel_rfl) u6 E0.length E0 rfl (by exact hOa) _ 1 1 [(1, s0, (0, false))] rfl (by exact hVn _) (by exact HE1C.out) (by exact hBa.size) ?_; intro v1 W1 hO1 hg1 hat1; have hK1 := Kept.of_grown hg1; have hB1 := below_kept (below_drewN hBa _) hK1 hBa.size (own_in hOa))
            rw [HE1E.out, HE1D.out] at hO1
            clear hOa hVn hBa hO hB hVr e0 e1 e2 e3
            go_loopw [6, 7, 10] (fun v s i wr => ∃ k : Nat, k ≤ L ∧ i = .int .i64 (k : Nat) ∧ s = .int .i64 ((s0 + k : Nat) : Int) ∧ wr.ownsRow W0.heap.size 46 4 v (E1 ++ evS s0 (l.take k)).length (Row.flat evSh (E1 ++ evS s0 (l.take k))) ∧ Below W0.heap.size W0 wr) (fun _ _ i _ => L - (intOf i).toNat)
            case atStart => exact ⟨0, Nat.zero_le _, rfl, rfl, by rw [List.take_zero, evS, List.append_nil]; exact hO1, hB1⟩
            case round =>
              obtain ⟨k, hk, rfl, rfl, hO2, hB2⟩ := hrel
              have hVk := hV.below hB2
              obtain ⟨k0, k1, k2, k3⟩ := place_cells hVk HQL.out j hjn
              rw [HQJ.out] at k3
              have hrk := hR0.below hB2
              by_cases hkL : k < L
              · obtain ⟨y, rfl, _⟩ := hrk.cells (by omega)
                obtain ⟨m0, m1⟩ := samp_cells hrk k hkL
                have hstp := evS_take s0 l k (by rw [HLL.out]; exact hkL)
                have HSTP := Lib.hid hstp
                have hE2 : (E1 ++ evS s0 (l.take k)).length + 1 ≤ 1048576 := by rw [List.length_append, evS_length, List.length_take]; have := HE1.out; have := HL32.out; omega
                have hOa := own_kept hO2 ((Kept.refl [] wr).alloc (.cells #[.int .i64 2, .int .i64 ((s0 + k : Nat) : Int), .int .i32 (l.getD k (0, false)).1, .bool (l.getD k (0, false)).2] 46)) (by simp)
                have hBa := hB2.alloc hB2.size (.cells #[.int .i64 2, .int .i64 ((s0 + k : Nat) : Int), .int .i32 (l.getD k (0, false)).1, .bool (l.getD k (0, false)).2] 46)
                have hVn : Row.Vals evSh (wr.alloc (.cells #[.int .i64 2, .int .i64 ((s0 + k : Nat) : Int), .int .i32 (l.getD k (0, false)).1, .bool (l.getD k (0, false)).2] 46)) (some ⟨wr.heap.size, 0, none⟩) 1 [(2, s0 + k, l.getD k (0, false))] := one_new wr 46 (2, s0 + k, l.getD k (0, false))
                generalize hE : E1 ++ evS s0 (l.take k) = E2 at *
                obtain ⟨sk, hsk⟩ : ∃ z, s0 + k = z := ⟨_, rfl⟩
                rw [hsk] at hVn hOa hBa ⊢
                have hskz : (s0 : Int) + (k : Int) = (sk : Int) := by omega
                have hsk1 : IntKind.i64.wrap ((sk : Int) + 1) = (sk : Int) + 1 := by exact IntWalk.i64_in _ (by have := HS0.out; omega)
                have HSK := Lib.hid hsk
                clear hstp hsk hV hVk hO1
                go_wp2_with (at_builtin; refine Row.wpList_append (S := evSh) rfl (.tmp 66) (.tmp 78) _ rfl W0.heap.size 46 _ 24 (by omega) Try.underlying27 HInfo.out (by kernel_rfl) u6 E2.length E2 rfl (by exact hOa) _ 1 1 [(2, sk, l.getD k (0, false))] rfl (by exact hVn) (by exact hE2) (by exact hBa.size) ?_; intro v3 W3 hO3 hg3 hat3; have hK3 := Kept.of_grown hg3; have hB3 := below_kept hBa hK3 hBa.size (own_in hOa))
                go_roundw
                case rel => exact ⟨k + 1, by omega, by go_num, by first | go_num | (rw [← HSK.out]; go_num), by rw [HSTP.out, ← List.append_assoc, hE, HSK.out, List.length_append, List.length_singleton]; exact hO3, hB3⟩
                case measure => simp [intOf]; omega
              · have hkL2 : k = L := by omega
                rw [List.take_of_length_le (by rw [HLL.out]; omega)] at hO2
                subst hkL2
                clear hV hVk hO1
                go_wp2
                go_roundw
                case rel => exact ⟨j + 1, by omega, by go_num, by rw [HST.out]; show _ = Value.int .i64 ((s0 + l.length : Nat) : Int); rw [HLL.out], by rw [HST.out], by rw [HEV.out]; exact hO2, hB2⟩
                case measure => simp [intOf]; omega
          · have hout := hio.trans (decide_eq_false hsq)
            have hst' := hst.trans (evs_out hout).2
            have hev' := hev.trans (by rw [(evs_out hout).1, List.append_nil])
            obtain ⟨sq, hsqe⟩ : ∃ z, (ps.getD j noPlace).seq = z := ⟨_, rfl⟩
            rw [hsqe] at e2 hsq
            have hsqz : ((sq : Int) == (nx : Int)) = false := by simp; omega
            clear hio hsq hsqe
            obtain ⟨⟨Aq, L, cq⟩, hqe⟩ : ∃ q, qs.getD j Ptr.none_ = q := ⟨_, rfl⟩
            rw [hqe] at hR0 e3
            dsimp only at hR0 e3
            obtain ⟨l, hl⟩ : ∃ l, (ps.getD j noPlace).l = l := ⟨_, rfl⟩
            rw [hl] at hR0
            (try rw [hl] at hst')
            (try rw [hl] at hev')
            have hLL : l.length = L := hR0.len_
            have hL32 : L ≤ 32 := by
              have := (may_len (HM.out (ps.getD j noPlace) (getD_mem ps noPlace j (by rw [HPL.out]; exact hjn))).1).2
              rw [hl, hLL] at this
              exact this
            rw [HPL.out] at hsj
            have hs0b : (stAt ps j).s ≤ 64000 := by omega
            have hE0b : (eventsL start (ps.take j)).length ≤ 66000 := by omega
            clear hpend hprev hst hev
            generalize (stAt ps j).s = s0 at *
            generalize eventsL start (ps.take j) = E0 at *
            have HS0 := Lib.hid hs0b
            have HQJ := Lib.hid hqe
            have HLL := Lib.hid hLL
            have HL32 := Lib.hid hL32
            clear hqe hl hsj hs0b hLL
            have HST := Lib.hid hst'
            have HEV := Lib.hid hev'
            clear hst' hev'
            clear hout hG hg hd
            go_wp2
            go_quiet (fail)
            have hO1 := own_kept hO ((Kept.refl [] wr).drewN nq) (by simp)
            have hB1 := below_drewN hB nq
            clear hO hB hVr e0 e1 e2 e3
            go_wp2
            go_roundw
            case rel => exact ⟨j + 1, by omega, by go_num, by rw [HST.out], by rw [HST.out], by rw [HEV.out]; exact hO1, hB1⟩
            case measure => simp [intOf]; omega
      · have hG : ((stAt ps j).gap || decide ((ps.getD j noPlace).at_ ≠ (stAt ps j).pend)) = false := by rw [hg, hd]; rfl
        by_cases hj0 : j = 0
        · have hin : inOrder (stAt ps j).prev (ps.getD j noPlace).seq = true := by rw [hprev, if_pos hj0]; rfl
          have hj0z : ¬ 0 < j := by omega
          clear hprev hj0
          have hprev := True.intro
          have hst' := hst.trans (evs_in hin).2
          have hevs := (evs_in hin).1
          rw [hG, if_neg (by decide), List.nil_append] at hevs
          have hev' := hev.trans (by rw [hevs])
          clear hevs
          obtain ⟨⟨Aq, L, cq⟩, hqe⟩ : ∃ q, qs.getD j Ptr.none_ = q := ⟨_, rfl⟩
          rw [hqe] at hR0 e3
          dsimp only at hR0 e3
          obtain ⟨l, hl⟩ : ∃ l, (ps.getD j noPlace).l = l := ⟨_, rfl⟩
          rw [hl] at hR0
          (try rw [hl] at hst')
          (try rw [hl] at hev')
          have hLL : l.length = L := hR0.len_
          have hL32 : L ≤ 32 := by
            have := (may_len (HM.out (ps.getD j noPlace) (getD_mem ps noPlace j (by rw [HPL.out]; exact hjn))).1).2
            rw [hl, hLL] at this
            exact this
          rw [HPL.out] at hsj
          have hs0b : (stAt ps j).s ≤ 64000 := by omega
          have hE0b : (eventsL start (ps.take j)).length ≤ 66000 := by omega
          clear hpend hprev hst hev
          generalize (stAt ps j).s = s0 at *
          generalize eventsL start (ps.take j) = E0 at *
          have HS0 := Lib.hid hs0b
          have HQJ := Lib.hid hqe
          have HLL := Lib.hid hLL
          have HL32 := Lib.hid hL32
          clear hqe hl hsj hs0b hLL
          have HST := Lib.hid hst'
          have HEV := Lib.hid hev'
          clear hst' hev'
          clear hin hG hg hd
          have HE1 := Lib.hid (show E0.length ≤ 66001 by omega)
          clear hE0b
          go_wp2
          go_quiet (fail)
          have hO1 := own_kept hO ((Kept.refl [] wr).drewN nq) (by simp)
          have hB1 := below_drewN hB nq
          clear hO hB hVr e0 e1 e2 e3
          generalize E0 = E1 at *
          go_wp2
          go_loopw [6, 7, 10] (fun v s i wr => ∃ k : Nat, k ≤ L ∧ i = .int .i64 (k : Nat) ∧ s = .int .i64 ((s0 + k : Nat) : Int) ∧ wr.ownsRow W0.heap.size 46 4 v (E1 ++ evS s0 (l.take k)).length (Row.flat evSh (E1 ++ evS s0 (l.take k))) ∧ Below W0.heap.size W0 wr) (fun _ _ i _ => L - (intOf i).toNat)
          case atStart => exact ⟨0, Nat.zero_le _, rfl, rfl, by rw [List.take_zero, evS, List.append_nil]; exact hO1, hB1⟩
          case round =>
            obtain ⟨k, hk, rfl, rfl, hO2, hB2⟩ := hrel
            have hVk := hV.below hB2
            obtain ⟨k0, k1, k2, k3⟩ := place_cells hVk HQL.out j hjn
            rw [HQJ.out] at k3
            have hrk := hR0.below hB2
            by_cases hkL : k < L
            · obtain ⟨y, rfl, _⟩ := hrk.cells (by omega)
              obtain ⟨m0, m1⟩ := samp_cells hrk k hkL
              have hstp := evS_take s0 l k (by rw [HLL.out]; exact hkL)
              have HSTP := Lib.hid hstp
              have hE2 : (E1 ++ evS s0 (l.take k)).length + 1 ≤ 1048576 := by rw [List.length_append, evS_length, List.length_take]; have := HE1.out; have := HL32.out; omega
              have hOa := own_kept hO2 ((Kept.refl [] wr).alloc (.cells #[.int .i64 2, .int .i64 ((s0 + k : Nat) : Int), .int .i32 (l.getD k (0, false)).1, .bool (l.getD k (0, false)).2] 46)) (by simp)
              have hBa := hB2.alloc hB2.size (.cells #[.int .i64 2, .int .i64 ((s0 + k : Nat) : Int), .int .i32 (l.getD k (0, false)).1, .bool (l.getD k (0, false)).2] 46)
              have hVn : Row.Vals evSh (wr.alloc (.cells #[.int .i64 2, .int .i64 ((s0 + k : Nat) : Int), .int .i32 (l.getD k (0, false)).1, .bool (l.getD k (0, false)).2] 46)) (some ⟨wr.heap.size, 0, none⟩) 1 [(2, s0 + k, l.getD k (0, false))] := one_new wr 46 (2, s0 + k, l.getD k (0, false))
              generalize hE : E1 ++ evS s0 (l.take k) = E2 at *
              obtain ⟨sk, hsk⟩ : ∃ z, s0 + k = z := ⟨_, rfl⟩
              rw [hsk] at hVn hOa hBa ⊢
              have hskz : (s0 : Int) + (k : Int) = (sk : Int) := by omega
              have hsk1 : IntKind.i64.wrap ((sk : Int) + 1) = (sk : Int) + 1 := by exact IntWalk.i64_in _ (by have := HS0.out; omega)
              have HSK := Lib.hid hsk
              clear hstp hsk hV hVk hO1
              go_wp2_with (at_builtin; refine Row.wpList_append (S := evSh) rfl (.tmp 66) (.tmp 78) _ rfl W0.heap.size 46 _ 24 (by omega) Try.underlying27 HInfo.out (by kernel_rfl) u6 E2.length E2 rfl (by exact hOa) _ 1 1 [(2, sk, l.getD k (0, false))] rfl (by exact hVn) (by exact hE2) (by exact hBa.size) ?_; intro v3 W3 hO3 hg3 hat3; have hK3 := Kept.of_grown hg3; have hB3 := below_kept hBa hK3 hBa.size (own_in hOa))
              go_roundw
              case rel => exact ⟨k + 1, by omega, by go_num, by first | go_num | (rw [← HSK.out]; go_num), by rw [HSTP.out, ← List.append_assoc, hE, HSK.out, List.length_append, List.length_singleton]; exact hO3, hB3⟩
              case measure => simp [intOf]; omega
            · have hkL2 : k = L := by omega
              rw [List.take_of_length_le (by rw [HLL.out]; omega)] at hO2
              subst hkL2
              clear hV hVk hO1
              go_wp2
              go_roundw
              case rel => exact ⟨j + 1, by omega, by go_num, by rw [HST.out]; show _ = Value.int .i64 ((s0 + l.length : Nat) : Int); rw [HLL.out], by rw [HST.out], by rw [HEV.out]; exact hO2, hB2⟩
              case measure => simp [intOf]; omega
        · obtain ⟨j1, hj1⟩ : ∃ z, z + 1 = j := ⟨j - 1, by omega⟩
          have hj0z : 0 < j := by omega
          have hj1z : (j : Int) - 1 = (j1 : Int) := by omega
          obtain ⟨f0, f1, f2, f3⟩ := place_cells hVr HQL.out j1 (by omega)
          clear f0 f1 f3
          have hpq := (HM.out (ps.getD j1 noPlace) (getD_mem ps noPlace j1 (by rw [HPL.out]; omega))).2
          have hio : inOrder (stAt ps j).prev (ps.getD j noPlace).seq = decide ((ps.getD j noPlace).seq = ((ps.getD j1 noPlace).seq + 1) % 256) := by rw [hprev, if_neg hj0, show j - 1 = j1 by omega]; rfl
          obtain ⟨pq, hpqe⟩ : ∃ z, (ps.getD j1 noPlace).seq = z := ⟨_, rfl⟩
          rw [hpqe] at f2 hpq hio
          obtain ⟨nx, hnx⟩ : ∃ z, (pq + 1) % 256 = z := ⟨_, rfl⟩
          rw [hnx] at hio
          have hwr8 : IntKind.u8.wrap ((pq : Int) + 1) = (nx : Int) := by rw [IntKind.wrap_u8]; omega
          have HJ1 := Lib.hid hj1
          clear hj0 hj1 hpqe hnx hpq
          by_cases hsq : (ps.getD j noPlace).seq = nx
          · have hin := hio.trans (decide_eq_true hsq)
            rw [hsq] at e2
            clear hio hsq
            have hst' := hst.trans (evs_in hin).2
            have hevs := (evs_in hin).1
            rw [hG, if_neg (by decide), List.nil_append] at hevs
            have hev' := hev.trans (by rw [hevs])
            clear hevs
            obtain ⟨⟨Aq, L, cq⟩, hqe⟩ : ∃ q, qs.getD j Ptr.none_ = q := ⟨_, rfl⟩
            rw [hqe] at hR0 e3
            dsimp only at hR0 e3
            obtain ⟨l, hl⟩ : ∃ l, (ps.getD j noPlace).l = l := ⟨_, rfl⟩
            rw [hl] at hR0
            (try rw [hl] at hst')
            (try rw [hl] at hev')
            have hLL : l.length = L := hR0.len_
            have hL32 : L ≤ 32 := by
              have := (may_len (HM.out (ps.getD j noPlace) (getD_mem ps noPlace j (by rw [HPL.out]; exact hjn))).1).2
              rw [hl, hLL] at this
              exact this
            rw [HPL.out] at hsj
            have hs0b : (stAt ps j).s ≤ 64000 := by omega
            have hE0b : (eventsL start (ps.take j)).length ≤ 66000 := by omega
            clear hpend hprev hst hev
            generalize (stAt ps j).s = s0 at *
            generalize eventsL start (ps.take j) = E0 at *
            have HS0 := Lib.hid hs0b
            have HQJ := Lib.hid hqe
            have HLL := Lib.hid hLL
            have HL32 := Lib.hid hL32
            clear hqe hl hsj hs0b hLL
            have HST := Lib.hid hst'
            have HEV := Lib.hid hev'
            clear hst' hev'
            clear hin hG hg hd
            have HE1 := Lib.hid (show E0.length ≤ 66001 by omega)
            clear hE0b
            go_wp2
            go_quiet (fail)
            have hO1 := own_kept hO ((Kept.refl [] wr).drewN nq) (by simp)
            have hB1 := below_drewN hB nq
            clear hO hB hVr e0 e1 e2 e3
            generalize E0 = E1 at *
            go_wp2
            go_loopw [6, 7, 10] (fun v s i wr => ∃ k : Nat, k ≤ L ∧ i = .int .i64 (k : Nat) ∧ s = .int .i64 ((s0 + k : Nat) : Int) ∧ wr.ownsRow W0.heap.size 46 4 v (E1 ++ evS s0 (l.take k)).length (Row.flat evSh (E1 ++ evS s0 (l.take k))) ∧ Below W0.heap.size W0 wr) (fun _ _ i _ => L - (intOf i).toNat)
            case atStart => exact ⟨0, Nat.zero_le _, rfl, rfl, by rw [List.take_zero, evS, List.append_nil]; exact hO1, hB1⟩
            case round =>
              obtain ⟨k, hk, rfl, rfl, hO2, hB2⟩ := hrel
              have hVk := hV.below hB2
              obtain ⟨k0, k1, k2, k3⟩ := place_cells hVk HQL.out j hjn
              rw [HQJ.out] at k3
              have hrk := hR0.below hB2
              by_cases hkL : k < L
              · obtain ⟨y, rfl, _⟩ := hrk.cells (by omega)
                obtain ⟨m0, m1⟩ := samp_cells hrk k hkL
                have hstp := evS_take s0 l k (by rw [HLL.out]; exact hkL)
                have HSTP := Lib.hid hstp
                have hE2 : (E1 ++ evS s0 (l.take k)).length + 1 ≤ 1048576 := by rw [List.length_append, evS_length, List.length_take]; have := HE1.out; have := HL32.out; omega
                have hOa := own_kept hO2 ((Kept.refl [] wr).alloc (.cells #[.int .i64 2, .int .i64 ((s0 + k : Nat) : Int), .int .i32 (l.getD k (0, false)).1, .bool (l.getD k (0, false)).2] 46)) (by simp)
                have hBa := hB2.alloc hB2.size (.cells #[.int .i64 2, .int .i64 ((s0 + k : Nat) : Int), .int .i32 (l.getD k (0, false)).1, .bool (l.getD k (0, false)).2] 46)
                have hVn : Row.Vals evSh (wr.alloc (.cells #[.int .i64 2, .int .i64 ((s0 + k : Nat) : Int), .int .i32 (l.getD k (0, false)).1, .bool (l.getD k (0, false)).2] 46)) (some ⟨wr.heap.size, 0, none⟩) 1 [(2, s0 + k, l.getD k (0, false))] := one_new wr 46 (2, s0 + k, l.getD k (0, false))
                generalize hE : E1 ++ evS s0 (l.take k) = E2 at *
                obtain ⟨sk, hsk⟩ : ∃ z, s0 + k = z := ⟨_, rfl⟩
                rw [hsk] at hVn hOa hBa ⊢
                have hskz : (s0 : Int) + (k : Int) = (sk : Int) := by omega
                have hsk1 : IntKind.i64.wrap ((sk : Int) + 1) = (sk : Int) + 1 := by exact IntWalk.i64_in _ (by have := HS0.out; omega)
                have HSK := Lib.hid hsk
                clear hstp hsk hV hVk hO1
                go_wp2_with (at_builtin; refine Row.wpList_append (S := evSh) rfl (.tmp 66) (.tmp 78) _ rfl W0.heap.size 46 _ 24 (by omega) Try.underlying27 HInfo.out (by kernel_rfl) u6 E2.length E2 rfl (by exact hOa) _ 1 1 [(2, sk, l.getD k (0, false))] rfl (by exact hVn) (by exact hE2) (by exact hBa.size) ?_; intro v3 W3 hO3 hg3 hat3; have hK3 := Kept.of_grown hg3; have hB3 := below_kept hBa hK3 hBa.size (own_in hOa))
                go_roundw
                case rel => exact ⟨k + 1, by omega, by go_num, by first | go_num | (rw [← HSK.out]; go_num), by rw [HSTP.out, ← List.append_assoc, hE, HSK.out, List.length_append, List.length_singleton]; exact hO3, hB3⟩
                case measure => simp [intOf]; omega
              · have hkL2 : k = L := by omega
                rw [List.take_of_length_le (by rw [HLL.out]; omega)] at hO2
                subst hkL2
                clear hV hVk hO1
                go_wp2
                go_roundw
                case rel => exact ⟨j + 1, by omega, by go_num, by rw [HST.out]; show _ = Value.int .i64 ((s0 + l.length : Nat) : Int); rw [HLL.out], by rw [HST.out], by rw [HEV.out]; exact hO2, hB2⟩
                case measure => simp [intOf]; omega
          · have hout := hio.trans (decide_eq_false hsq)
            have hst' := hst.trans (evs_out hout).2
            have hev' := hev.trans (by rw [(evs_out hout).1, List.append_nil])
            obtain ⟨sq, hsqe⟩ : ∃ z, (ps.getD j noPlace).seq = z := ⟨_, rfl⟩
            rw [hsqe] at e2 hsq
            have hsqz : ((sq : Int) == (nx : Int)) = false := by simp; omega
            clear hio hsq hsqe
            obtain ⟨⟨Aq, L, cq⟩, hqe⟩ : ∃ q, qs.getD j Ptr.none_ = q := ⟨_, rfl⟩
            rw [hqe] at hR0 e3
            dsimp only at hR0 e3
            obtain ⟨l, hl⟩ : ∃ l, (ps.getD j noPlace).l = l := ⟨_, rfl⟩
            rw [hl] at hR0
            (try rw [hl] at hst')
            (try rw [hl] at hev')
            have hLL : l.length = L := hR0.len_
            have hL32 : L ≤ 32 := by
              have := (may_len (HM.out (ps.getD j noPlace) (getD_mem ps noPlace j (by rw [HPL.out]; exact hjn))).1).2
              rw [hl, hLL] at this
              exact this
            rw [HPL.out] at hsj
            have hs0b : (stAt ps j).s ≤ 64000 := by omega
            have hE0b : (eventsL start (ps.take j)).length ≤ 66000 := by omega
            clear hpend hprev hst hev
            generalize (stAt ps j).s = s0 at *
            generalize eventsL start (ps.take j) = E0 at *
            have HS0 := Lib.hid hs0b
            have HQJ := Lib.hid hqe
            have HLL := Lib.hid hLL
            have HL32 := Lib.hid hL32
            clear hqe hl hsj hs0b hLL
            have HST := Lib.hid hst'
            have HEV := Lib.hid hev'
            clear hst' hev'
            clear hout hG hg hd
            go_wp2
            go_quiet (fail)
            have hO1 := own_kept hO ((Kept.refl [] wr).drewN nq) (by simp)
            have hB1 := below_drewN hB nq
            clear hO hB hVr e0 e1 e2 e3
            go_wp2
            go_roundw
            case rel => exact ⟨j + 1, by omega, by go_num, by rw [HST.out], by rw [HST.out], by rw [HEV.out]; exact hO1, hB1⟩
            case measure => simp [intOf]; omega
    · have hjn2 : j = n0 := by omega
      have hfew := HFEW.out.1
      rw [List.take_of_length_le (by rw [HPL.out]; omega)] at hO
      obtain ⟨A1, c1, rfl, e1, e2, hV1, hfar1, hob⟩ := Row.Vals.own hO
      have hp2 := HPL.out
      clear hfew
      subst hjn2
      go_wp2
      go_ret2
      exact ⟨A1, _, c1, rfl, e1, e2, by have := HFEW.out.1; have := HPL.out; omega, hV1, (fun x hx => Nat.le_trans hB0.size (hfar1 x hx).1), hB0.trans (hB.mono hB0.size)⟩
end Go.Proofs.Ytfimgkomfnfjkaa.Par
end
section
/- What a decoder's calls answer, as the laws of layer 8 (and the layers above) use it: the code's own text gives one of these. -/
set_option linter.unusedSimpArgs false
set_option linter.unusedVariables false
namespace Go.Proofs.Ytfimgkomfnfjkaa.Par
open Go.RowKit RU8 Frm
/-- What a Feed answers of a decoder that lies in the blocks S: the events that come, in memory of their own; it lies in S and new blocks. -/
def FeedIs (Dec : World → Nat → List Nat → List Nat → Prop) (w : World) (b : Nat) (S all ys : List Nat) (e : Ending) (w' : World) : Prop :=
  ∃ B m d S', e = .returned (.slice B m d) ∧ m ≤ d ∧ d ≤ 9223372036854775807 ∧ Row.Vals evSh w' B m (behindT all ys) ∧ (∀ x, B = some x → w.heap.size ≤ x.block ∧ x.block ∉ S') ∧ Dec w' b S' (all ++ ys) ∧ (∀ k ∈ S', k ∈ S ∨ w.heap.size ≤ k) ∧ Kept S w w'
structure DecodeKit where
  /-- The decoder in block b lies in the blocks S, and these are the bytes so far. -/
  Dec : World → Nat → List Nat → List Nat → Prop
  lt : ∀ {w : World} {b : Nat} {S all : List Nat}, Dec w b S all → ∀ k ∈ S, k < w.heap.size
  kept : ∀ {w w' : World} {b : Nat} {S all T : List Nat}, Dec w b S all → Kept T w w' → (∀ k ∈ S, k ∉ T) → Dec w' b S all
  new_any : ∀ w : World, Calls Try.prog 5 #[] w fun e w' => ∃ b S, e = .returned (.pointer (some ⟨b, 0, none⟩)) ∧ Dec w' b S [] ∧ (∀ k ∈ S, w.heap.size ≤ k) ∧ Below w.heap.size w w'
  feed_any : ∀ (b : Nat) (S all : List Nat) (A : Option Addr) (n c : Nat) (ys : List Nat) (w : World), Dec w b S all → Bytes all → all.length ≤ 4000 → Vals w A n ys → Bytes ys → n ≤ 2000 → n ≤ c → c ≤ 9223372036854775807 → (0 < n → ∀ x, A = some x → x.block ∉ S) →
    Calls Try.prog 7 #[.pointer (some ⟨b, 0, none⟩), .slice A n c] w (FeedIs Dec w b S all ys)
  waits_any : ∀ (b : Nat) (S all : List Nat) (w : World), Dec w b S all → Bytes all → all.length ≤ 4000 → Calls Try.prog 10 #[.pointer (some ⟨b, 0, none⟩)] w fun e w' => e = .returned (.int .i64 (waitT all : Nat)) ∧ Below w.heap.size w w'
  bytes_any : ∀ (b : Nat) (S all : List Nat) (w : World), Dec w b S all → Bytes all → all.length ≤ 4000 → Calls Try.prog 12 #[.pointer (some ⟨b, 0, none⟩)] w fun e w' => e = .returned (.int .i64 (all.length : Nat)) ∧ Below w.heap.size w w'
  samples_any : ∀ (b : Nat) (S all : List Nat) (w : World), Dec w b S all → Bytes all → all.length ≤ 4000 → Calls Try.prog 13 #[.pointer (some ⟨b, 0, none⟩)] w fun e w' => e = .returned (.int .i64 (countT 2 all : Nat)) ∧ Below w.heap.size w w'
  gaps_any : ∀ (b : Nat) (S all : List Nat) (w : World), Dec w b S all → Bytes all → all.length ≤ 4000 → Calls Try.prog 15 #[.pointer (some ⟨b, 0, none⟩)] w fun e w' => e = .returned (.int .i64 (countT 1 all : Nat)) ∧ Below w.heap.size w w'
  clone_any : ∀ (b : Nat) (S all : List Nat) (w : World), Dec w b S all → Bytes all → all.length ≤ 4000 → Calls Try.prog 9 #[.pointer (some ⟨b, 0, none⟩)] w fun e w' => ∃ b' S', e = .returned (.pointer (some ⟨b', 0, none⟩)) ∧ Dec w' b' S' all ∧ (∀ k ∈ S', w.heap.size ≤ k) ∧ Below w.heap.size w w'
theorem DecodeKit.below (K : DecodeKit) {w w' : World} {b : Nat} {S all : List Nat} (h : K.Dec w b S all) (hB : Below w.heap.size w w') : K.Dec w' b S all := K.kept h (Kept.of_below (S := []) hB) (fun _ _ h => by cases h)
end Go.Proofs.Ytfimgkomfnfjkaa.Par
end
section
/- The references of layer 8: the events behind others, what waits, how many there are of a kind. -/
set_option linter.unusedSimpArgs false
set_option linter.unusedVariables false
namespace Go.Proofs.Ytfimgkomfnfjkaa.Row
open Go.RowKit
theorem Vals.drop {α : Type} {S : Shape α} {w : World} {a : Option Addr} {len : Nat} {ys : List α} (h : Vals S w a len ys) (p : Nat) (hp : p ≤ len) : Vals S w (a.map (·.add (p * S.k))) (len - p) (ys.drop p) := by
  have hl := h.len_
  refine ⟨by rw [List.length_drop]; omega, fun h0 => ?_⟩
  obtain ⟨x, hx, hc⟩ := h.cells (by omega)
  refine ⟨x.add (p * S.k), by rw [hx]; rfl, fun j u hu => ?_⟩
  rw [RU8.addr_add]
  refine hc _ u ?_
  have hf : flat S ys = flat S (ys.take p) ++ flat S (ys.drop p) := by rw [← flat_append, List.take_append_drop]
  rw [hf, List.getElem?_append_right (by rw [flat_length, List.length_take, Nat.min_eq_left (by omega)]; omega), flat_length, List.length_take, Nat.min_eq_left (by omega), Nat.add_sub_cancel_left]
  exact hu
end Go.Proofs.Ytfimgkomfnfjkaa.Row
namespace Go.Proofs.Ytfimgkomfnfjkaa.Par
open Go.RowKit RU8 Frm
theorem refwaits_any (A : Option Addr) (n c : Nat) (b : List Nat) (w : World) (hv : Vals w A n b) (hb : Bytes b) (hn : n ≤ 2000) (hc : n ≤ c) (hc2 : c ≤ 9223372036854775807) :
    Calls Try.prog 11 #[.slice A n c] w fun e w' => e = .returned (.int .i64 (waitT b : Nat)) ∧ Below w.heap.size w w' := by
  have hev := refevents_any A n c b w hv hb hn hc hc2
  have hlen := hv.len_
  have hle := end_len b hb
  have hw : waitT b = n - endT b := by unfold waitT; rw [hlen]
  rw [hlen] at hle
  rw [hw]
  unfold EventsIs at hev
  generalize endT b = E at *
  have hz : (n : Int) - (E : Int) = ((n - E : Nat) : Int) := by omega
  clear hv hb hw
  go_enter Try.func11, Try.ntmps11
  go_wp2_with (go_at_call 26; ((with_reducible refine hev.mono ?_); rintro e w' ⟨A1, n1, c1, rfl, h1, h2, h3, hV, hf, hB⟩))
  go_ret
  exact ⟨rfl, hB⟩
theorem countL_take (k : Nat) (l : List Ev) (j : Nat) (h : j < l.length) : countL k (l.take (j + 1)) = countL k (l.take j) + if (l.getD j noEv).1 = k then 1 else 0 := by
  rw [take_step l noEv j h, countL_snoc]
set_option maxHeartbeats 1000000 in
theorem refcount_any (A : Option Addr) (n c : Nat) (b : List Nat) (k : Nat) (w : World) (hk : k ≤ 10) (hv : Vals w A n b) (hb : Bytes b) (hn : n ≤ 2000) (hc : n ≤ c) (hc2 : c ≤ 9223372036854775807) :
    Calls Try.prog 14 #[.slice A n c, .int .i64 k] w fun e w' => e = .returned (.int .i64 (countT k b : Nat)) ∧ Below w.heap.size w w' := by
  have hev := refevents_any A n c b w hv hb hn hc hc2
  unfold EventsIs at hev
  unfold countT
  generalize eventsT b = l at *
  clear hv hb
  go_enter Try.func14, Try.ntmps14
  go_wp2_with (go_at_call 26; ((with_reducible refine hev.mono ?_); rintro e w1 ⟨A1, n1, c1, rfl, h1, h2, h3, hV, hf, hB⟩))
  have hl := hV.len_
  go_loop [7, 8] (fun s i => ∃ j : Nat, j ≤ n1 ∧ i = .int .i64 (j : Nat) ∧ s = .int .i64 (countL k (l.take j) : Nat)) (fun _ i => n1 - (intOf i).toNat)
  case atStart => exact ⟨0, by omega, rfl, rfl⟩
  case round =>
    obtain ⟨j, hj, rfl, rfl⟩ := hrel
    have hcl := countL_le k (l.take j)
    rw [List.length_take] at hcl
    have hcb : countL k (l.take j) ≤ 100000 := by omega
    by_cases hjn : j < n1
    · obtain ⟨x, rfl, _⟩ := hV.cells (by omega)
      obtain ⟨e0, _, _, _⟩ := ev_cells hV j hjn
      have hst := countL_take k l j (by omega)
      obtain ⟨kk, hkk⟩ : ∃ kk, (l.getD j noEv).1 = kk := ⟨_, rfl⟩
      rw [hkk] at e0 hst
      have HST := Lib.hid hst
      clear hst hcl hkk
      obtain ⟨C, hC⟩ : ∃ C, countL k (l.take j) = C := ⟨_, rfl⟩
      rw [hC] at hcb HST ⊢
      have hj1 : (j : Int) + 1 ≤ 200000 := by omega
      clear hC
      by_cases hkk : kk = k
      · have h9 := HST.out
        rw [if_pos hkk] at h9
        have H9 := Lib.hid h9
        clear h9
        subst hkk
        clear HST
        go_wp2
        go_round
        case rel => exact ⟨j + 1, by omega, by go_num, by rw [H9.out]; go_num⟩
        case measure => simp [intOf]; omega
      · have h9 := HST.out
        rw [if_neg hkk] at h9
        have H9 := Lib.hid h9
        have hkz : ((kk : Int) == (k : Int)) = false := by simp; omega
        clear h9 hkk HST
        go_wp2
        go_round
        case rel => exact ⟨j + 1, by omega, by go_num, by rw [H9.out]; first | rfl | go_num⟩
        case measure => simp [intOf]; omega
    · have hjn2 : j = n1 := by omega
      subst hjn2
      have hres := Lib.hid (show l.take j = l from List.take_of_length_le (by omega))
      go_wp2
      go_ret
      exact ⟨by rw [hres.out]; rfl, hB⟩
theorem refcount_two (A : Option Addr) (n c : Nat) (b : List Nat) (w : World) (hv : Vals w A n b) (hb : Bytes b) (hn : n ≤ 2000) (hc : n ≤ c) (hc2 : c ≤ 9223372036854775807) :
    Calls Try.prog 14 #[.slice A n c, .int .i64 2] w fun e w' => e = .returned (.int .i64 (countT 2 b : Nat)) ∧ Below w.heap.size w w' := refcount_any A n c b 2 w (by decide) hv hb hn hc hc2
theorem refcount_one (A : Option Addr) (n c : Nat) (b : List Nat) (w : World) (hv : Vals w A n b) (hb : Bytes b) (hn : n ≤ 2000) (hc : n ≤ c) (hc2 : c ≤ 9223372036854775807) :
    Calls Try.prog 14 #[.slice A n c, .int .i64 1] w fun e w' => e = .returned (.int .i64 (countT 1 b : Nat)) ∧ Below w.heap.size w w' := refcount_any A n c b 1 w (by decide) hv hb hn hc hc2
/-- What a Behind answers. -/
def BehindIs (w : World) (xs ys : List Nat) (e : Ending) (w' : World) : Prop :=
  ∃ B m d, e = .returned (.slice B m d) ∧ m ≤ d ∧ d ≤ 9223372036854775807 ∧ m ≤ 100000 ∧ Row.Vals evSh w' B m (behindT xs ys) ∧ Below w.heap.size w w'
set_option maxHeartbeats 2000000 in
theorem refbehind_any (A : Option Addr) (n c : Nat) (xs : List Nat) (B : Option Addr) (m d : Nat) (ys : List Nat) (w : World) (hv : Vals w A n xs) (hu : Vals w B m ys) (hb : Bytes (xs ++ ys)) (hn : n + m ≤ 2000) (hc : n ≤ c) (hc2 : c ≤ 9223372036854775807) (hd : m ≤ d) (hd2 : d ≤ 9223372036854775807) :
    Calls Try.prog 8 #[.slice A n c, .slice B m d] w (BehindIs w xs ys) := by
  have hlx := hv.len_
  have hly := hu.len_
  have hbx : Bytes xs := fun y hy => hb y (List.mem_append.2 (.inl hy))
  have hev := refevents_any A n c xs w hv hbx (by omega) hc hc2
  have hev2 := fun C z c9 W (h : Vals W C z (xs ++ ys)) h1 h2 h3 => refevents_any C z c9 (xs ++ ys) W h hb h1 h2 h3
  obtain ⟨r, hr⟩ := events_pre xs ys hb
  have hbe : behindT xs ys = r := by unfold behindT; rw [hr, List.drop_left' rfl]
  unfold EventsIs at hev hev2
  unfold BehindIs
  rw [hbe]
  rw [hr] at hev2
  have hInfo : (Try.prog.info? 5).map (fun i => (i.zero, i.size, i.bytes)) = some (some (.int .u8 0), 1, 1) := by kernel_rfl
  have HInfo := Lib.hid hInfo
  obtain ⟨E, hE⟩ : ∃ E, eventsT xs = E := ⟨_, rfl⟩
  rw [hE] at hev hev2
  clear hInfo hr hbe hE hbx hb
  generalize endT xs = T1 at *
  generalize endT (xs ++ ys) = T2 at *
  have hnm : 0 + n ≤ 1048576 ∧ n + m ≤ 1048576 := by omega
  have hnm2 : n + m ≤ 2000 := hn
  have nlen : ∀ {W1 W2 : World} {B1 B2 : Option Addr} {m1 m2 : Nat}, Row.Vals evSh W1 B1 m1 (E ++ r) → Row.Vals evSh W2 B2 m2 E → m2 ≤ m1 := fun h1 h2 => by
    have e1 := h1.len_
    have e2 := h2.len_
    rw [List.length_append] at e1
    omega
  have hfar : ∀ (B : Option Addr) (m : Nat) (ys : List Nat) (w : World), Vals w B m ys → ∀ w1 : World, Below w.heap.size w w1 → ∀ {W : World} {v : Value} {n : Nat} {xs : List Value}, W.ownsRow w1.heap.size 5 1 v n xs → 0 < m → ∀ x, B = some x → x.block ∉ v.ownBlock.toList := fun B m ys w hu w1 hB {W v n xs} hO hm x hx => by
    obtain ⟨y, hy, hc⟩ := hu.cells hm
    rw [hx] at hy
    injection hy with hy
    have h1 := World.block_lt_of_cell? _ _ (hc 0 hm)
    rw [block_add, ← hy] at h1
    exact own_apart hO (Nat.lt_of_lt_of_le h1 hB.size)
  have hfar2 : ∀ (A1 : Option Addr) (n1 : Nat) (E : List Ev) (w1 : World), Row.Vals evSh w1 A1 n1 E → ∀ {W : World} {v : Value} {n : Nat} {xs : List Value}, W.ownsRow w1.heap.size 5 1 v n xs → 0 < n1 → ∀ x, A1 = some x → x.block ∉ v.ownBlock.toList := fun A1 n1 E w1 hV {W v n xs} hO hn x hx => by
    obtain ⟨y, hy, hc⟩ := hV.cells hn
    rw [hx] at hy
    injection hy with hy
    have hl := hV.len_
    have h0 : 0 < (Row.flat evSh E).length := by rw [Row.flat_length, hl]; exact Nat.mul_pos hn (by decide)
    have h1 := World.block_lt_of_cell? _ _ (hc 0 _ (List.getElem?_eq_getElem h0))
    rw [block_add, ← hy] at h1
    exact own_apart hO h1
  go_enter Try.func8, Try.ntmps8
  go_wp2_with (first
    | (go_at_call 26; ((with_reducible refine hev.mono ?_); rintro e w1 ⟨A1, n1, c1, rfl, h1a, h1b, h1n, hV1, h1f, hB⟩; have hB1 := hB.alloc hB.size (.cells #[] 5); have hO0 := own_empty w1 5; have hv1 := (hv.below hB).alloc (.cells #[] 5); have hu1 := (hu.below hB).alloc (.cells #[] 5); have hV1a := hV1.alloc (.cells #[] 5); have hbs : w1.heap.size ≤ (w1.alloc (.cells #[] 5)).heap.size := (by simp)))
    | (at_builtin; refine wpList_append_vals rfl (.tmp 15) (.tmp 16) _ rfl w1.heap.size 5 1 (by omega) Try.underlying25 HInfo.out (.slice (some ⟨w1.heap.size, 0, none⟩) 0 0) 0 [] rfl (by exact hO0) A n c xs rfl (by exact hv1) (by exact hnm.1) (by exact hbs) ?_; intro v2 w2 hO2 hg2 hat2; rw [List.nil_append, Nat.zero_add] at hO2; have hK2 := Kept.of_grown hg2; have hN2 : Below w1.heap.size (w1.alloc (.cells #[] 5)) w2 := (hK2.below hbs (own_in hO0)); have hB2 := hB1.trans (hN2.mono hB.size); have hu2 : Vals w2 B m ys := (hu1.kept hK2 (hfar B m ys w hu w1 hB hO0)); have hb2 : w1.heap.size ≤ w2.heap.size := (by have := hg2.size; omega))
    | (at_builtin; refine wpList_append_vals rfl (.tmp 17) (.tmp 18) _ rfl w1.heap.size 5 1 (by omega) Try.underlying25 HInfo.out v2 n xs rfl (by exact hO2) B m d ys rfl (by exact hu2) (by exact hnm.2) (by exact hb2) ?_; intro v3 w3 hO3 hg3 hat3; have hK3 := Kept.of_grown hg3; have hB3 := below_kept hB2 hK3 (Nat.le_trans hB.size hb2) (fun k hk => Nat.le_trans hB.size (own_in hO2 k hk)); have hV1c := hV1a.kept hK2 (hfar2 A1 n1 E w1 hV1 hO0); have hV1d := hV1c.kept hK3 (hfar2 A1 n1 E w1 hV1 hO2); obtain ⟨A3, c3, rfl, h3a, h3b, hV3, _⟩ := Vals.own hO3)
    | (go_at_call 26; ((with_reducible refine (hev2 _ _ _ _ hV3 hnm2 h3a h3b).mono ?_); rintro e w4 ⟨A2, n2, c2, rfl, h2a, h2b, h2n, hV2, h2f, hB4⟩; have hB9 := hB3.trans (hB4.mono hB3.size); have hn12 : n1 ≤ n2 := (nlen hV2 hV1); have hd9 := (hV2.drop n1 hn12); rw [List.drop_left' hV1.len_] at hd9; have hd8 : c2 = n1 → Row.Vals evSh w4 A2 (n2 - n1) r := (fun h => ⟨hd9.len_, fun h9 => absurd h9 (by omega)⟩); have Hd8 := Lib.hid hd8; have Hd9 := Lib.hid hd9; clear hd8 hd9 hV2 hV1 hV1a hV1c hV1d)))
  · go_ret
    exact ⟨_, _, _, rfl, by omega, by omega, by omega, Hd8.out (by omega), hB9⟩
  · go_ret
    exact ⟨_, _, _, rfl, by omega, by omega, by omega, Hd9.out, hB9⟩
end Go.Proofs.Ytfimgkomfnfjkaa.Par
end
section
/- The example that layer 8's laws ask: a frame byte by byte. -/
set_option linter.unusedSimpArgs false
set_option linter.unusedVariables false
namespace Go.Proofs.Ytfimgkomfnfjkaa.Par
open Go.RowKit RU8 Frm
theorem frame_bytes (q : Nat) (hq : q < 256) (l : List Samp) (hl : l.length < 256) : Bytes (frameT q l) := by
  intro y hy
  rcases List.mem_append.1 (show y ∈ [165, 90] ++ Crc.sealZ (bodyT q l) from hy) with h | h
  · simp at h; omega
  · exact Crc.seal_bytes (bodyT_bytes hq (by omega)) y h
theorem take_snoc {l : List Nat} {j : Nat} (h : j < l.length) : l.take j ++ [l.getD j 0] = l.take (j + 1) := (take_step l 0 j h).symm
set_option maxRecDepth 100000 in
set_option maxHeartbeats 2000000 in
theorem live_k (K : DecodeKit) (w : World) : Calls Try.prog 16 #[] w fun e w' => e = .returned (.bool true) ∧ Below w.heap.size w w' := by
  have hmt : mayT [((5, false) : Samp)] = true := by decide
  have hmake : ∀ (W : World), Row.Vals sampS W (some ⟨w.heap.size, 0, none⟩) 1 [((5, false) : Samp)] → Calls Try.prog 28 #[.int .u8 9, .slice (some ⟨w.heap.size, 0, none⟩) 1 1] W (MakeIs W 9 [(5, false)]) := fun W hv => refmake_any 9 (by decide) (some ⟨w.heap.size, 0, none⟩) 1 1 [(5, false)] W hv (by intro s hs; simp at hs; subst hs; decide) (by decide)
  have hmB : makeB 9 [((5, false) : Samp)] = frameT 9 [(5, false)] := by unfold makeB; rw [hmt]; rfl
  have hmE : makeE [((5, false) : Samp)] = 0 := by unfold makeE; rw [hmt]; rfl
  have hFl : (frameT 9 [((5, false) : Samp)]).length = 9 := by rw [frameT_length]; rfl
  have hFb : Bytes (frameT 9 [((5, false) : Samp)]) := frame_bytes 9 (by decide) _ (by decide)
  have hcut := fun k => cut_events (seq := 9) (l := [((5, false) : Samp)]) (by decide) hmt k
  have hfull := frame_events (seq := 9) (l := [((5, false) : Samp)]) (by decide) hmt
  unfold MakeIs at hmake
  rw [hmB, hmE, hFl] at hmake
  rw [hFl] at hcut hfull
  obtain ⟨F, hF⟩ : ∃ F, frameT 9 [((5, false) : Samp)] = F := ⟨_, rfl⟩
  rw [hF] at hmake hFl hFb hcut hfull
  clear hmB hmE hF hmt
  have hV0 : Row.Vals sampS (w.alloc (.cells #[.int .i32 5, .bool false] 44)) (some ⟨w.heap.size, 0, none⟩) 1 [((5, false) : Samp)] := Row.Vals.has (ys := [((5, false) : Samp)]) (tl := []) (Has.new w _ _)
  have hB0 := (Below.refl w.heap.size w).alloc (Nat.le_refl _) (.cells #[.int .i32 5, .bool false] 44)
  have hnew := K.new_any
  go_enter Try.func16, Try.ntmps16
  go_wp2_with (first
    | (go_at_call 28; ((with_reducible refine (hmake _ hV0).mono ?_); rintro e w1 ⟨v1, A1, c1, rfl, rfl, h1a, h1b, hO1, hB1⟩; obtain ⟨A9, c9, he9, _, _, hV1, hA1, _⟩ := Vals.own hO1; injection he9 with he1 he2 he3; subst he1; have hC := hB0.trans (hB1.mono hB0.size)))
    | (go_at_call 5; ((with_reducible refine (hnew _).mono ?_); rintro e w2 ⟨b, S, rfl, hD, hS, hB2⟩; have hV2 := hV1.below hB2; have hC2 := hC.trans (hB2.mono hC.size))))
  have hAS : ∀ x, A1 = some x → x.block ∉ S := fun x hx hm => by have h1 := (hA1 x hx).2; have h2 := hS _ hm; omega
  have hA2 : ∀ x, A1 = some x → x.block < w2.heap.size := fun x hx => Nat.lt_of_lt_of_le (hA1 x hx).2 hB2.size
  have hS2 : ∀ k ∈ S, w.heap.size ≤ k := fun k hk => Nat.le_trans hC.size (hS k hk)
  obtain ⟨x1, rfl, _⟩ := hV1.cells (by omega)
  go_loopw [16] (fun i wr => ∃ (j : Nat) (S : List Nat), j ≤ 9 ∧ i = .int .i64 (j : Nat) ∧ K.Dec wr b S (F.take j) ∧ (∀ k ∈ S, w.heap.size ≤ k) ∧ x1.block ∉ S ∧ x1.block < wr.heap.size ∧ Vals wr (some x1) 9 F ∧ Below w.heap.size w wr) (fun i _ => 9 - (intOf i).toNat)
  case atStart => exact ⟨0, S, by omega, rfl, hD, hS2, hAS x1 rfl, hA2 x1 rfl, hV2, hC2⟩
  case round =>
    clear hD hS hAS hA2 hS2 hV2 hC2 hV1 hO1 hA1 hmake hnew hV0 hB0 hB1 hB2 hC
    obtain ⟨j, S, hj, rfl, hD, hS, hx1, hx2, hV, hC⟩ := hrel
    by_cases hj9 : j < 9
    · obtain ⟨y, hy, hcs⟩ := hV.cells (by omega)
      injection hy with hy
      subst hy
      have hcj := hcs j hj9
      have hbj := hFb.at_ j
      have hsn := take_snoc (l := F) (j := j) (by omega)
      obtain ⟨v, hv⟩ : ∃ v, F.getD j 0 = v := ⟨_, rfl⟩
      rw [hv] at hcj hbj hsn
      have hDa := K.below hD ((Below.refl _ wr).alloc (Nat.le_refl _) (.cells #[.int .u8 v] 5))
      have hVa : Vals (wr.alloc (.cells #[.int .u8 v] 5)) (some ⟨wr.heap.size, 0, none⟩) 1 [v] := Vals.has (ys := [v]) (tl := []) (Has.new wr _ _)
      have hfeed := K.feed_any b S (F.take j) (some ⟨wr.heap.size, 0, none⟩) 1 1 [v] _ hDa (hFb.take j) (by rw [List.length_take]; omega) hVa (by intro y hy; simp at hy; omega) (by omega) (by omega) (by omega) (fun _ x hx hm => by injection hx with hx; subst hx; exact absurd (K.lt hD _ hm) (Nat.lt_irrefl _))
      have hCa := hC.alloc hC.size (.cells #[.int .u8 v] 5)
      have hVb := hV.alloc (.cells #[.int .u8 v] 5)
      unfold FeedIs at hfeed
      rw [hsn] at hfeed
      have hbe : behindT (F.take j) [v] = if j = 8 then evS 0 [(5, false)] else [] := by
        unfold behindT
        rw [hsn, hcut j hj9]
        split
        · rename_i h; subst h; rw [List.take_of_length_le (by omega)]; exact hfull.1
        · rw [hcut (j + 1) (by omega)]; rfl
      rw [hbe] at hfeed
      have HSZ : (wr.alloc (.cells #[.int .u8 v] 5)).heap.size = wr.heap.size + 1 := by simp
      have HSZ2 := Lib.hid HSZ
      clear hv hcs hV hD hbe hsn hVa hDa HSZ
      rcases (by omega : j < 8 ∨ j = 8) with h8 | h8
      · rw [if_neg (by omega)] at hfeed
        have hjz : ¬ (j : Int) + 1 = 9 := by omega
        go_wp2_with (go_at_call 7; ((with_reducible refine hfeed.mono ?_); rintro e w4 ⟨B, m, d, S', rfl, _, _, hVm, _, hD', hS', hK⟩; have hm0 : m = 0 := hVm.len_.symm; subst hm0))
        go_roundw
        case rel =>
          refine ⟨j + 1, S', by omega, by go_num, hD', fun k hk => ?_, fun hk => ?_, ?_, hVb.kept hK (fun _ x hx => by injection hx with hx; subst hx; exact hx1), below_kept hCa hK hCa.size hS⟩
          · rcases hS' k hk with h | h
            · exact hS k h
            · exact Nat.le_trans hCa.size h
          · rcases hS' _ hk with h | h
            · exact hx1 h
            · rw [HSZ2.out] at h; omega
          · have := hK.size; rw [HSZ2.out] at this; omega
        case measure => simp [intOf]; omega
      · rw [if_pos h8] at hfeed
        have hjz : (j : Int) + 1 = 9 := by omega
        have h9 : j + 1 = 9 := by omega
        rw [h9] at hfeed
        have H8 := Lib.hid h8
        clear h8 h9
        go_wp2_with (go_at_call 7; ((with_reducible refine hfeed.mono ?_); rintro e w4 ⟨B, m, d, S', rfl, _, _, hVm, _, hD', hS', hK⟩; have hm0 : m = 1 := hVm.len_.symm; subst hm0))
        go_roundw
        case rel =>
          refine ⟨9, S', by omega, rfl, hD', fun k hk => ?_, fun hk => ?_, ?_, hVb.kept hK (fun _ x hx => by injection hx with hx; subst hx; exact hx1), below_kept hCa hK hCa.size hS⟩
          · rcases hS' k hk with h | h
            · exact hS k h
            · exact Nat.le_trans hCa.size h
          · rcases hS' _ hk with h | h
            · exact hx1 h
            · rw [HSZ2.out] at h; omega
          · have := hK.size; rw [HSZ2.out] at this; omega
        case measure => have := H8.out; simp [intOf]; omega
    · obtain rfl : j = 9 := by omega
      rw [List.take_of_length_le (by omega)] at hD
      have hct : countT 2 F = 1 := by unfold countT; rw [hfull.1]; rfl
      have hwt : waitT F = 0 := by unfold waitT; rw [hfull.2, hFl]
      have hsm := K.samples_any b S F wr hD hFb (by omega)
      have hwa := fun W (hB : Below wr.heap.size wr W) => K.waits_any b S F W (K.below hD hB) hFb (by omega)
      rw [hct] at hsm
      rw [hwt] at hwa
      clear hct hwt hfull hcut hV hx1 hx2
      go_wp2_with (first
        | (go_at_call 13; ((with_reducible refine hsm.mono ?_); rintro e w5 ⟨rfl, hB5⟩))
        | (go_at_call 10; ((with_reducible refine (hwa _ hB5).mono ?_); rintro e w6 ⟨rfl, hB6⟩)))
      go_ret
      exact ⟨rfl, (hC.trans (hB5.mono hC.size)).trans (hB6.mono (Nat.le_trans hC.size hB5.size))⟩
end Go.Proofs.Ytfimgkomfnfjkaa.Par
end
section
/- DecodeFeeds, over whatever code answers as the kit says. -/
set_option linter.unusedSimpArgs false
set_option linter.unusedVariables false
namespace Go.Proofs.Ytfimgkomfnfjkaa
open Go.RowKit
theorem own_apart_kept {w w' : World} {S : List Nat} {base : Nat} {e : TypeId} {size n : Nat} {v : Value} {xs : List Value} (h : w.ownsRow base e size v n xs) (ht : Kept S w w') (hs : ∀ k ∈ S, v.ownBlock ≠ some k) : w'.ownsRow base e size v n xs := by
  obtain ⟨h1, h2⟩ := h
  refine ⟨h1, ?_⟩
  rcases h2 with h2 | ⟨k, cap, cur, rfl, hk, hh, h3⟩
  · exact .inl h2
  · exact .inr ⟨k, cap, cur, rfl, hk, (ht.block k (Has.lt (w := w) hh) (fun e => hs k e rfl)).trans hh, h3⟩
theorem own_below_kept {w w' : World} {base : Nat} {e : TypeId} {size n : Nat} {v : Value} {xs : List Value} (h : w.ownsRow base e size v n xs) (hB : Below w.heap.size w w') : w'.ownsRow base e size v n xs := own_apart_kept h (Kept.of_below (S := []) hB) (fun _ h => by cases h)
end Go.Proofs.Ytfimgkomfnfjkaa
namespace Go.Proofs.Ytfimgkomfnfjkaa.Par
open Go.RowKit RU8 Frm
theorem own_slice {w : World} {base : Nat} {t : TypeId} {A : Option Addr} {n c : Nat} {xs : List Nat} (h : w.ownsRow base t 1 (.slice A n c) n (vals xs)) : n ≤ c ∧ c ≤ 9223372036854775807 ∧ Vals w A n xs := by
  obtain ⟨A', c', he, h1, h2, h3, _⟩ := Vals.own h
  injection he with e1 e2 e3
  subst e1
  subst e3
  exact ⟨h1, h2, h3⟩
theorem apart_new {w : World} {base : Nat} {e : TypeId} {size n : Nat} {v : Value} {xs : List Value} {S S' : List Nat} (h : w.ownsRow base e size v n xs) (ha : ∀ k ∈ S, v.ownBlock ≠ some k) (hs : ∀ k ∈ S', k ∈ S ∨ w.heap.size ≤ k) : ∀ k ∈ S', v.ownBlock ≠ some k := fun k hk he => by
  rcases hs k hk with h1 | h1
  · exact ha k h1 he
  · have := (own_block h k he).2; omega
theorem apart_grown {w : World} {S : List Nat} {v v' : Value} (hl : ∀ k ∈ S, k < w.heap.size) (ha : ∀ k ∈ S, v.ownBlock ≠ some k) (h : v'.ownBlock = v.ownBlock ∨ v'.ownBlock = some w.heap.size) : ∀ k ∈ S, v'.ownBlock ≠ some k := fun k hk he => by
  rcases h with h | h
  · exact ha k hk (h ▸ he)
  · rw [h] at he; injection he with he; have := hl k hk; omega
set_option maxRecDepth 100000 in
set_option maxHeartbeats 4000000 in
theorem feeds_k (K : DecodeKit) (a0 : Option Addr) (len0 cap0 : Nat) (a1 : Int) (w : World) (w0 : IsRows .u8 w a0 len0 cap0) (w1 : (Lit.int .u8 a1).wf = true) (hsz : ∀ (x : Addr) (j : Nat) (A : Option Addr) (L C : Nat), a0 = some x → j < len0 → w.cell? (x.add j) = some (.slice A L C) → L ≤ 140737488355328) :
    Calls Try.prog 3 #[.slice a0 len0 cap0, .int .u8 a1] w fun e w' => e = .returned (.bool true) ∧ Below w.heap.size w w' := by
  have b1 := bounds_u8 w1
  obtain ⟨cl, rfl⟩ : ∃ cl : Nat, a1 = (cl : Int) := ⟨a1.toNat, by omega⟩
  have hcl : cl < 256 := by omega
  clear w1 b1
  have hl0 : len0 ≤ cap0 ∧ cap0 ≤ 9223372036854775807 := by
    rcases w0 with ⟨_, rfl, rfl⟩ | ⟨x, _, h1, h2, _⟩
    · omega
    · unfold maxLen at h2; omega
  obtain ⟨m, hm⟩ : ∃ m, min len0 20 = m := ⟨_, rfl⟩
  have hmin : (if (20 : Int) < (len0 : Int) then (20 : Int) else (len0 : Int)) = (m : Int) := by split <;> omega
  have hmb : m ≤ len0 ∧ m ≤ cap0 ∧ m ≤ 20 := by omega
  have hpc : ∀ j, j < m → ∃ x A L C, a0 = some x ∧ w.cell? (x.add j) = some (.slice A L C) ∧ ∃ ys, Vals w A L ys ∧ Bytes ys ∧ L ≤ C ∧ C ≤ 9223372036854775807 ∧ ∀ y, 0 < L → A = some y → y.block < w.heap.size := fun j hj => by
    rcases w0 with ⟨_, rfl, _⟩ | ⟨x, rfl, h1, h2, h3⟩
    · omega
    · obtain ⟨A, L, C, Z, h4, h5⟩ := h3 j (by omega)
      obtain ⟨ys, g1, g2, g3, g4, g5⟩ := row_vals h5
      exact ⟨x, A, L, C, rfl, h4, ys, g1, g2, g3, g4, g5⟩
  have HPC := Lib.hid hpc
  have HSZ := Lib.hid hsz
  clear hsz
  have hnew := K.new_any w
  have hInfo : (Try.prog.info? 5).map (fun i => (i.zero, i.size, i.bytes)) = some (some (.int .u8 0), 1, 1) := by kernel_rfl
  have HInfo := Lib.hid hInfo
  clear hpc w0 hm hInfo
  go_enter Try.func3, Try.ntmps3
  go_wp2_with (go_at_call 5; ((with_reducible refine hnew.mono ?_); rintro e w2 ⟨b, S, rfl, hD, hS, hB2⟩))
  go_loopw [5, 6, 17] (fun d v i wr => ∃ (j b : Nat) (S : List Nat) (n : Nat) (xs : List Nat), j ≤ m ∧ i = .int .i64 (j : Nat) ∧ d = .pointer (some ⟨b, 0, none⟩) ∧ K.Dec wr b S xs ∧ (∀ k ∈ S, w.heap.size ≤ k) ∧ wr.ownsRow w.heap.size 5 1 v n (vals xs) ∧ Bytes xs ∧ n ≤ 900 ∧ (∀ k ∈ S, v.ownBlock ≠ some k) ∧ Below w.heap.size w wr) (fun _ _ i _ => m - (intOf i).toNat)
  case atStart => exact ⟨0, b, S, 0, [], by omega, rfl, rfl, hD, hS, own_none _ _ _, (fun y hy => by cases hy), by omega, (fun k _ h => by cases h), hB2⟩
  case round =>
    clear hD hS hB2 hnew
    obtain ⟨j, b, S, n, xs, hj, rfl, rfl, hD, hS, hO, hbx, hn9, hap, hC⟩ := hrel
    by_cases hjm : j < m
    · obtain ⟨x, A, L, C, rfl, hcx, ys, hvp, hby, hLC, hC63, hfar⟩ := HPC.out j hjm
      have hLb := HSZ.out x j A L C rfl (by omega) hcx
      have hcr := (hC.cell (World.block_lt_of_cell? _ _ hcx)).trans hcx
      have hlen : xs.length = n := own_len hO
      have hvl : ys.length = L := hvp.len_
      have hVp : ∀ W : World, Below w.heap.size w W → Vals W A L ys := fun W hB => hvp.below hB
      have hbz : Bytes (xs ++ ys) := hbx.append hby
      have hjmz : (j : Int) + 1 ≤ 21 ∧ (j : Int) < (m : Int) ∧ (j : Int) < (len0 : Int) := by omega
      obtain ⟨A0, c0, rfl, q1, q2, hV0, _⟩ := Vals.own hO
      clear hcx hvp
      rcases Nat.lt_or_ge 900 (n + L) with hbig | hfew
      · have hz : (900 : Int) < (n : Int) + (L : Int) := by omega
        clear hVp hbz hbx hby hO hD
        have hlive := fun W => live_k K W
        go_wp2_with (go_at_call 16; ((with_reducible refine (hlive _).mono ?_); rintro e w9 ⟨rfl, hB9⟩))
        go_ret
        exact ⟨rfl, hC.trans (hB9.mono hC.size)⟩
      · have hz : ¬ (900 : Int) < (n : Int) + (L : Int) := by omega
        have hnL : n + L ≤ 2000 := by omega
        have hnL1 : n + L ≤ 1048576 := by omega
        obtain ⟨N, hnL2⟩ : ∃ N, n + L = N := ⟨_, rfl⟩
        obtain ⟨zs, hzs⟩ : ∃ zs, xs ++ ys = zs := ⟨_, rfl⟩
        have hbz2 : Bytes zs := hzs ▸ hbz
        have hzl : zs.length = N := by rw [← hzs, List.length_append, hlen, hvl]; exact hnL2
        have hz4 : zs.length ≤ 4000 := by omega
        have hfeed := K.feed_any b S xs A L C ys wr hD hbx (by omega) (hVp wr hC) hby (by omega) hLC hC63 (fun h y hy hm => by have h1 := hfar y h hy; have h2 := hS _ hm; omega)
        unfold FeedIs at hfeed
        by_cases hjc : j = cl
        · subst hjc
          have bytes5 : Bytes [165, 90, 1, 1, 0] := by intro y hy; simp at hy; omega
          go_wp2_with (first
              | (go_at_call 7; ((with_reducible refine hfeed.mono ?_); rintro e W1 ⟨B, m1, d1, S1, rfl, g1, g2, hVB, hBf, hD1, hS1, hK1⟩; have hC1 := (below_kept hC hK1 hC.size hS); have hO1 := (own_apart_kept hO hK1 hap); have hS1w : ∀ k ∈ S1, w.heap.size ≤ k := (fun k hk => (hS1 k hk).elim (hS k) (fun h => Nat.le_trans hC.size h)); have hap1 := (apart_new hO hap hS1); obtain ⟨g3, g4, hV9⟩ := (own_slice hO1); have hbeh := (refbehind_any A0 n c0 xs A L C ys W1 hV9 (hVp W1 hC1) hbz hnL g3 g4 hLC hC63); clear hV9))
              | (go_at_call 8; ((with_reducible refine hbeh.mono ?_); rintro e W2 ⟨B2, m2, d2, rfl, g5, g6, g7, hVB2, hB2⟩; have hVB' := (hVB.below hB2); have hm12 := hVB.len_; have hm22 := hVB2.len_; have hsame := (refsame_any B m1 d1 _ B2 m2 d2 _ W2 hVB' hVB2 (by omega) (by omega)); rw [decide_eq_true rfl] at hsame; have hC2 := (hC1.trans (hB2.mono hC1.size)); have hO2 := (own_below_kept hO1 hB2); have hD2 := (K.below hD1 hB2); clear hbeh hVB hVB' hVB2 hm12 hm22))
              | (go_at_call 6; ((with_reducible refine hsame.mono ?_); rintro e W3 ⟨rfl, z3, rfl⟩; have hC3 := (below_drewN hC2 z3); have hO3 := (own_apart_kept hO2 ((Kept.refl [] W2).drewN z3) (fun _ h => by cases h)); have hD3 := (K.kept hD2 ((Kept.refl [] W2).drewN z3) (fun _ _ h => by cases h)); have hVp3 := (hVp _ hC3); clear hsame))
              | (at_builtin; go_loud (refine wpList_append_vals rfl (.tmp 36) (.tmp 37) _ rfl w.heap.size 5 1 (by omega) Try.underlying25 HInfo.out (.slice A0 n c0) n xs rfl (by exact hO3) A L C ys rfl (by exact hVp3) (by exact hnL1) (by exact hC3.size) ?_; intro v4 W4 hO4 hg4 hat4; have hK4 := (Kept.of_grown hg4); have hC4 := (below_kept hC3 hK4 hC3.size (own_in hO3)); have hD4 := (K.kept hD3 hK4 (fun k hk hm => hap1 k hk (by simpa using hm))); have hap4 := (apart_grown (K.lt hD3) hap1 hat4); obtain ⟨A4, c4, rfl, g8, g9, hV4, _⟩ := (Vals.own hO4); rw [hnL2] at hO4 hV4 g8 hap4; rw [hzs] at hO4 hV4 hD4; have h4D := hD4; have h4C := hC4; have h4O := hO4; have h4V := hV4; have hN4 := g8))
              | (go_at_call 9; ((with_reducible refine (K.clone_any _ _ _ _ hD4 hbz2 hz4).mono ?_); rintro e Wc ⟨b2, S2, rfl, hDc, hSc, hBc⟩; have hal := ((Below.refl Wc.heap.size Wc).alloc (Nat.le_refl _) (.cells #[.int .u8 165, .int .u8 90, .int .u8 1, .int .u8 1, .int .u8 0] 5)); have hCc := (hC4.trans (hBc.mono hC4.size)); have hCl := (hCc.alloc hCc.size (.cells #[.int .u8 165, .int .u8 90, .int .u8 1, .int .u8 1, .int .u8 0] 5)); have hOl := (own_below_kept (own_below_kept hO4 hBc) hal); have hDl := (K.below (K.below hD4 hBc) hal); have hDn := (K.below hDc hal); have hVl : Vals (Wc.alloc (.cells #[.int .u8 165, .int .u8 90, .int .u8 1, .int .u8 1, .int .u8 0] 5)) (some ⟨Wc.heap.size, 0, none⟩) 5 [165, 90, 1, 1, 0] := (Vals.has (ys := [165, 90, 1, 1, 0]) (tl := []) (Has.new Wc _ _)); have hlt4 := (fun k hk => Nat.lt_of_lt_of_le (K.lt hD4 k hk) hBc.size); have hfeed2 := (K.feed_any b S1 zs (some ⟨Wc.heap.size, 0, none⟩) 5 5 [165, 90, 1, 1, 0] _ hDl hbz2 hz4 hVl bytes5 (by omega) (by omega) (by omega) (fun _ y hy hm => by injection hy with hy; subst hy; exact absurd (hlt4 _ hm) (Nat.lt_irrefl _))); unfold FeedIs at hfeed2; have hap2 : ∀ k ∈ S2, (Value.slice A4 N c4).ownBlock ≠ some k := (fun k hk he => by have h1 := (own_block hO4 k he).2; have h2 := hSc k hk; omega); have h12 : ∀ k ∈ S2, k ∉ S1 := (fun k hk hm => by have h1 := K.lt hD4 k hm; have h2 := hSc k hk; omega)))
              | (go_at_call 7; ((with_reducible refine hfeed2.mono ?_); rintro e Wf ⟨Bf, mf, df, Sf, rfl, _, _, _, _, _, _, hKf⟩; have hfD := (K.kept hDn hKf h12); have hfO := (own_apart_kept hOl hKf hap4); have hfC := (below_kept hCl hKf hCl.size hS1w); have hfV := (own_slice hfO).2.2; clear hfeed2))
              | (go_at_call 10; ((with_reducible refine (K.waits_any _ _ _ _ hfD hbz2 hz4).mono ?_); rintro e W5 ⟨rfl, hB5⟩; have hC5 := (hfC.trans (hB5.mono hfC.size)); have hO5 := (own_below_kept hfO hB5); have hD5 := (K.below hfD hB5); have hV5 := (hfV.below hB5); have hrw := (refwaits_any A4 N c4 zs W5 hV5 hbz2 (by omega) hN4 g9)))
              | (go_at_call 11; ((with_reducible refine hrw.mono ?_); rintro e W6 ⟨rfl, hB6⟩; have hC6 := (hC5.trans (hB6.mono hC5.size)); have hO6 := (own_below_kept hO5 hB6); have hD6 := (K.below hD5 hB6); have hV6 := (hV5.below hB6); clear hrw))
              | (go_at_call 12; ((with_reducible refine (K.bytes_any _ _ _ _ hD6 hbz2 hz4).mono ?_); rintro e W7 ⟨rfl, hB7⟩; have hC7 := (hC6.trans (hB7.mono hC6.size)); have hO7 := (own_below_kept hO6 hB7); have hD7 := (K.below hD6 hB7); have hV7 := (hV6.below hB7)))
              | (go_at_call 13; ((with_reducible refine (K.samples_any _ _ _ _ hD7 hbz2 hz4).mono ?_); rintro e W8 ⟨rfl, hB8⟩; have hC8 := (hC7.trans (hB8.mono hC7.size)); have hO8 := (own_below_kept hO7 hB8); have hD8 := (K.below hD7 hB8); have hV8 := (hV7.below hB8); have hrc := (refcount_two A4 N c4 zs W8 hV8 hbz2 (by omega) hN4 g9)))
              | (go_at_call 14; ((with_reducible refine hrc.mono ?_); rintro e W9 ⟨rfl, hB9⟩; have hC9 := (hC8.trans (hB9.mono hC8.size)); have hO9 := (own_below_kept hO8 hB9); have hD9 := (K.below hD8 hB9); have hV9 := (hV8.below hB9); clear hrc))
              | (go_at_call 15; ((with_reducible refine (K.gaps_any _ _ _ _ hD9 hbz2 hz4).mono ?_); rintro e W10 ⟨rfl, hB10⟩; have hC10 := (hC9.trans (hB10.mono hC9.size)); have hO10 := (own_below_kept hO9 hB10); have hD10 := (K.below hD9 hB10); have hV10 := (hV9.below hB10); have hrd := (refcount_one A4 N c4 zs W10 hV10 hbz2 (by omega) hN4 g9)))
              | (go_at_call 14; ((with_reducible refine hrd.mono ?_); rintro e W11 ⟨rfl, hB11⟩; have hC11 := (hC10.trans (hB11.mono hC10.size)); have hO11 := (own_below_kept hO10 hB11); have hD11 := (K.below hD10 hB11)))
            )
          go_roundw
          case rel => exact ⟨j + 1, b2, S2, N, zs, by omega, by go_num, rfl, hD11, (fun k hk => Nat.le_trans hC4.size (hSc k hk)), hO11, hbz2, by omega, hap2, hC11⟩
          case measure => simp [intOf]; omega
        · have hjcz : ¬ (j : Int) = (cl : Int) := by omega
          go_wp2_with (first
              | (go_at_call 7; ((with_reducible refine hfeed.mono ?_); rintro e W1 ⟨B, m1, d1, S1, rfl, g1, g2, hVB, hBf, hD1, hS1, hK1⟩; have hC1 := (below_kept hC hK1 hC.size hS); have hO1 := (own_apart_kept hO hK1 hap); have hS1w : ∀ k ∈ S1, w.heap.size ≤ k := (fun k hk => (hS1 k hk).elim (hS k) (fun h => Nat.le_trans hC.size h)); have hap1 := (apart_new hO hap hS1); obtain ⟨g3, g4, hV9⟩ := (own_slice hO1); have hbeh := (refbehind_any A0 n c0 xs A L C ys W1 hV9 (hVp W1 hC1) hbz hnL g3 g4 hLC hC63); clear hV9))
              | (go_at_call 8; ((with_reducible refine hbeh.mono ?_); rintro e W2 ⟨B2, m2, d2, rfl, g5, g6, g7, hVB2, hB2⟩; have hVB' := (hVB.below hB2); have hm12 := hVB.len_; have hm22 := hVB2.len_; have hsame := (refsame_any B m1 d1 _ B2 m2 d2 _ W2 hVB' hVB2 (by omega) (by omega)); rw [decide_eq_true rfl] at hsame; have hC2 := (hC1.trans (hB2.mono hC1.size)); have hO2 := (own_below_kept hO1 hB2); have hD2 := (K.below hD1 hB2); clear hbeh hVB hVB' hVB2 hm12 hm22))
              | (go_at_call 6; ((with_reducible refine hsame.mono ?_); rintro e W3 ⟨rfl, z3, rfl⟩; have hC3 := (below_drewN hC2 z3); have hO3 := (own_apart_kept hO2 ((Kept.refl [] W2).drewN z3) (fun _ h => by cases h)); have hD3 := (K.kept hD2 ((Kept.refl [] W2).drewN z3) (fun _ _ h => by cases h)); have hVp3 := (hVp _ hC3); clear hsame))
              | (at_builtin; go_loud (refine wpList_append_vals rfl (.tmp 36) (.tmp 37) _ rfl w.heap.size 5 1 (by omega) Try.underlying25 HInfo.out (.slice A0 n c0) n xs rfl (by exact hO3) A L C ys rfl (by exact hVp3) (by exact hnL1) (by exact hC3.size) ?_; intro v4 W4 hO4 hg4 hat4; have hK4 := (Kept.of_grown hg4); have hC4 := (below_kept hC3 hK4 hC3.size (own_in hO3)); have hD4 := (K.kept hD3 hK4 (fun k hk hm => hap1 k hk (by simpa using hm))); have hap4 := (apart_grown (K.lt hD3) hap1 hat4); obtain ⟨A4, c4, rfl, g8, g9, hV4, _⟩ := (Vals.own hO4); rw [hnL2] at hO4 hV4 g8 hap4; rw [hzs] at hO4 hV4 hD4; have h4D := hD4; have h4C := hC4; have h4O := hO4; have h4V := hV4; have hN4 := g8))
              | (go_at_call 10; ((with_reducible refine (K.waits_any _ _ _ _ h4D hbz2 hz4).mono ?_); rintro e W5 ⟨rfl, hB5⟩; have hC5 := (h4C.trans (hB5.mono h4C.size)); have hO5 := (own_below_kept h4O hB5); have hD5 := (K.below h4D hB5); have hV5 := (h4V.below hB5); have hrw := (refwaits_any A4 N c4 zs W5 hV5 hbz2 (by omega) hN4 g9)))
              | (go_at_call 11; ((with_reducible refine hrw.mono ?_); rintro e W6 ⟨rfl, hB6⟩; have hC6 := (hC5.trans (hB6.mono hC5.size)); have hO6 := (own_below_kept hO5 hB6); have hD6 := (K.below hD5 hB6); have hV6 := (hV5.below hB6); clear hrw))
              | (go_at_call 12; ((with_reducible refine (K.bytes_any _ _ _ _ hD6 hbz2 hz4).mono ?_); rintro e W7 ⟨rfl, hB7⟩; have hC7 := (hC6.trans (hB7.mono hC6.size)); have hO7 := (own_below_kept hO6 hB7); have hD7 := (K.below hD6 hB7); have hV7 := (hV6.below hB7)))
              | (go_at_call 13; ((with_reducible refine (K.samples_any _ _ _ _ hD7 hbz2 hz4).mono ?_); rintro e W8 ⟨rfl, hB8⟩; have hC8 := (hC7.trans (hB8.mono hC7.size)); have hO8 := (own_below_kept hO7 hB8); have hD8 := (K.below hD7 hB8); have hV8 := (hV7.below hB8); have hrc := (refcount_two A4 N c4 zs W8 hV8 hbz2 (by omega) hN4 g9)))
              | (go_at_call 14; ((with_reducible refine hrc.mono ?_); rintro e W9 ⟨rfl, hB9⟩; have hC9 := (hC8.trans (hB9.mono hC8.size)); have hO9 := (own_below_kept hO8 hB9); have hD9 := (K.below hD8 hB9); have hV9 := (hV8.below hB9); clear hrc))
              | (go_at_call 15; ((with_reducible refine (K.gaps_any _ _ _ _ hD9 hbz2 hz4).mono ?_); rintro e W10 ⟨rfl, hB10⟩; have hC10 := (hC9.trans (hB10.mono hC9.size)); have hO10 := (own_below_kept hO9 hB10); have hD10 := (K.below hD9 hB10); have hV10 := (hV9.below hB10); have hrd := (refcount_one A4 N c4 zs W10 hV10 hbz2 (by omega) hN4 g9)))
              | (go_at_call 14; ((with_reducible refine hrd.mono ?_); rintro e W11 ⟨rfl, hB11⟩; have hC11 := (hC10.trans (hB11.mono hC10.size)); have hO11 := (own_below_kept hO10 hB11); have hD11 := (K.below hD10 hB11)))
            )
          go_roundw
          case rel => exact ⟨j + 1, b, S1, N, zs, by omega, by go_num, rfl, hD11, hS1w, hO11, hbz2, by omega, hap4, hC11⟩
          case measure => simp [intOf]; omega
    · obtain rfl : j = m := by omega
      have hlive := fun W => live_k K W
      go_wp2_with (go_at_call 16; ((with_reducible refine (hlive _).mono ?_); rintro e w9 ⟨rfl, hB9⟩))
      go_ret
      exact ⟨rfl, hC.trans (hB9.mono hC.size)⟩
end Go.Proofs.Ytfimgkomfnfjkaa.Par
end
section
/- What parse's calls are to answer; frames one behind the other, walked. -/
set_option linter.unusedSimpArgs false
set_option linter.unusedVariables false
namespace Go.Proofs.Ytfimgkomfnfjkaa.Par
open Go.RowKit RU8 Frm
/-- Frames as they lie. -/
def fvs (ps : List Place) (qs : List Ptr) : List (Nat × Ptr) := List.zipWith (fun p q => (p.seq, q)) ps qs
theorem fvs_length (ps : List Place) (qs : List Ptr) (h : qs.length = ps.length) : (fvs ps qs).length = ps.length := by simp [fvs, h]
theorem fvs_get (ps : List Place) (qs : List Ptr) (h : qs.length = ps.length) (i : Nat) (hi : i < ps.length) (hi2 : i < (fvs ps qs).length) : (fvs ps qs)[i] = ((ps.getD i noPlace).seq, qs.getD i Ptr.none_) := by
  simp [fvs, List.getElem?_eq_getElem hi, List.getElem?_eq_getElem (show i < qs.length by omega)]
theorem fvs_take (ps : List Place) (qs : List Ptr) (h : qs.length = ps.length) (i : Nat) (hi : i < ps.length) : fvs (ps.take (i + 1)) (qs.take (i + 1)) = fvs (ps.take i) (qs.take i) ++ [((ps.getD i noPlace).seq, qs.getD i Ptr.none_)] := by
  rw [take_step ps noPlace i hi, take_step qs Ptr.none_ i (by omega)]
  unfold fvs
  rw [List.zipWith_append (by rw [List.length_take, List.length_take]; omega)]
  rfl
theorem frame_cells {w : World} {x : Addr} {len : Nat} {ps : List Place} {qs : List Ptr} (h : Row.Vals frameS w (some x) len (fvs ps qs)) (hq : qs.length = ps.length) (i : Nat) (hi : i < len) :
    w.cell? (x.add (i * 2)) = some (.int .u8 ((ps.getD i noPlace).seq : Nat)) ∧ w.cell? ⟨(x.add (i * 2)).block, (x.add (i * 2)).off + 1, none⟩ = some (.slice (qs.getD i Ptr.none_).A (qs.getD i Ptr.none_).n (qs.getD i Ptr.none_).c) := by
  have hl := h.len_
  have hpl := fvs_length ps qs hq
  have e := fvs_get ps qs hq i (by omega) (by omega)
  have key : ∀ m u, (frameS.enc ((fvs ps qs)[i]'(by omega)))[m]? = some u → m < 2 → w.cell? (if m = 0 then x.add (i * 2) else ⟨(x.add (i * 2)).block, (x.add (i * 2)).off + m, none⟩) = some u := fun m u hu hm => by
    have h1 := h.at_ i m (by omega) u hu
    rw [show frameS.k = 2 from rfl] at h1
    by_cases h0 : m = 0
    · subst h0; simpa using h1
    · rw [if_neg h0]
      rw [show x.add (i * 2 + m) = ⟨(x.add (i * 2)).block, (x.add (i * 2)).off + m, none⟩ by
        unfold Addr.add
        by_cases h2 : i * 2 = 0 <;> simp [h2, h0, Nat.add_assoc]] at h1
      exact h1
  rw [e] at key
  exact ⟨key 0 _ rfl (by omega), key 1 _ rfl (by omega)⟩
/-- What a Frames answers. -/
def FramesIs (w : World) (b : List Nat) (e : Ending) (w' : World) : Prop :=
  ∃ A n c qs, e = .returned (.tuple #[.slice A n c, .int .i64 (endT b : Nat)]) ∧ n ≤ c ∧ c ≤ 9223372036854775807 ∧ n ≤ b.length ∧ Row.Vals frameS w' A n (fvs (walkP 0 b) qs) ∧ Held w' w.heap.size none qs ((walkP 0 b).map (·.l)) ∧ (∀ x, A = some x → w.heap.size ≤ x.block) ∧ Below w.heap.size w w'
theorem frames_len {W : World} {A : Option Addr} {n : Nat} {ps : List Place} {qs : List Ptr} {base : Nat} {g : Option Nat} (h : Row.Vals frameS W A n (fvs ps qs)) (hh : Held W base g qs (ps.map (·.l))) : n = ps.length ∧ qs.length = ps.length := by
  have hq : qs.length = ps.length := by rw [hh.len, List.length_map]
  exact ⟨by rw [← h.len_, fvs_length ps qs hq], hq⟩
theorem places_len {W : World} {A : Option Addr} {n : Nat} {ps : List Place} {qs : List Ptr} {base : Nat} {g : Option Nat} (h : Row.Vals placeS W A n (pvs 0 ps qs)) (hh : Held W base g qs (ps.map (·.l))) : n = ps.length ∧ qs.length = ps.length := by
  have hq : qs.length = ps.length := by rw [hh.len, List.length_map]
  exact ⟨by rw [← h.len_, pvs_length 0 ps qs hq], hq⟩
/-- Element i of frames that lie: its samples. -/
theorem held_at {w : World} {base : Nat} {g : Option Nat} {ps : List Place} {qs : List Ptr} (h : Held w base g qs (ps.map (·.l))) (i : Nat) (hi : i < ps.length) : Row.Vals sampS w (qs.getD i Ptr.none_).A (qs.getD i Ptr.none_).n (ps.getD i noPlace).l := by
  have := h.read i (by rw [List.length_map]; exact hi)
  rwa [show (ps.map (·.l)).getD i [] = (ps.getD i noPlace).l by
    rw [List.getD_eq_getElem?_getD, List.getElem?_map, List.getElem?_eq_getElem hi, List.getD_eq_getElem?_getD, List.getElem?_eq_getElem hi]; rfl] at this
theorem held_small {w : World} {base : Nat} {g : Option Nat} {qs : List Ptr} {ls : List (List Samp)} (h : Held w base g qs ls) (i : Nat) (hi : i < ls.length) : (qs.getD i Ptr.none_).n ≤ 32 := (h.cap _ (getD_mem _ _ i (by rw [h.len]; exact hi))).2.2
theorem first_cell {w : World} {x : Addr} {len : Nat} {ps : List Place} {qs : List Ptr} (h : Row.Vals placeS w (some x) len (pvs 0 ps qs)) (hq : qs.length = ps.length) (hl : 0 < len) : w.cell? x = some (.int .i64 ((ps.getD 0 noPlace).at_ : Nat)) := by
  have := (place_cells h hq 0 hl).1
  simpa [Addr.add] using this
def firstT (b : List Nat) : Nat := ((walkP 0 b).getD 0 noPlace).at_
/-- Frames one behind the other, walked. -/
theorem walk_frame (o : Nat) (q : Nat) (l : List Samp) (hm : mayT l = true) (r : List Nat) : walkP o (frameT q l ++ r) = ⟨o, q, l⟩ :: walkP (o + (6 + 3 * l.length)) r ∧ endP o (frameT q l ++ r) = endP (o + (6 + 3 * l.length)) r := by
  obtain ⟨h0, h1, h2, h3⟩ := look_frame hm r (seq := q)
  obtain ⟨g1, g2⟩ := walk_good o h0
  rw [g1, g2, h1, h2, h3, List.drop_left' (by rw [frameT_length])]
  exact ⟨rfl, rfl⟩
end Go.Proofs.Ytfimgkomfnfjkaa.Par
end
section
/- Where a decoder stands behind so many bytes, and behind each frame of what comes, reckoned. Nothing here speaks of a program. -/
set_option linter.unusedSimpArgs false
set_option linter.unusedVariables false
namespace Go.Proofs.Ytfimgkomfnfjkaa.Par
open Go.RowKit RU8 Frm
theorem countL_append (k : Nat) (l m : List Ev) : countL k (l ++ m) = countL k l + countL k m := by
  unfold countL; rw [List.filter_append, List.length_append]
theorem countL_nil (k : Nat) : countL k [] = 0 := rfl
theorem countL_cons (k : Nat) (e : Ev) (l : List Ev) : countL k (e :: l) = (if e.1 = k then 1 else 0) + countL k l := by
  rw [show e :: l = [e] ++ l from rfl, countL_append]
  congr 1
  rw [show [e] = [] ++ [e] from rfl, countL_snoc, countL_nil, Nat.zero_add]
theorem count_evS (s : Nat) (l : List Samp) : countL 2 (evS s l) = l.length ∧ countL 1 (evS s l) = 0 := by
  induction l generalizing s with
  | nil => exact ⟨rfl, rfl⟩
  | cons x l ih =>
    rw [evS, countL_cons, countL_cons, (ih (s + 1)).1, (ih (s + 1)).2, List.length_cons]
    exact ⟨by simp; omega, by simp⟩
theorem evs_count (st : St) (p : Place) : (st.next p).s = st.s + countL 2 (st.evs p) := by
  cases h : inOrder st.prev p.seq with
  | true =>
    rw [(evs_in h).1, (evs_in h).2, countL_append, (count_evS _ _).1]
    have : countL 2 (if (st.gap || decide (p.at_ ≠ st.pend)) then [(1, st.s, (0, false))] else []) = 0 := by split <;> rfl
    rw [this]
    show st.s + p.l.length = _
    omega
  | false => rw [(evs_out h).1, (evs_out h).2]; rfl
theorem s_count (st : St) (ps : List Place) : (afterL st ps).s = st.s + countL 2 (eventsL st ps) := by
  induction ps generalizing st with
  | nil => rfl
  | cons p ps ih => rw [afterL, eventsL, ih, evs_count, countL_append]; omega
/-- Where the events stand behind these bytes. -/
def stT (b : List Nat) : St := afterL start (walkP 0 b)
theorem pend_le (o : Nat) (b : List Nat) (hb : Bytes b) : ∀ st : St, st.pend ≤ o → (afterL st (walkP o b)).pend ≤ endP o b := by
  induction o, b using walk_ind with
  | hend o b h => rw [(walk_end o h).1, (walk_end o h).2]; exact fun st h => h
  | hbad o b h6 h0 ih => rw [(walk_bad o h6 h0).1, (walk_bad o h6 h0).2]; exact fun st h => ih (bytes_drop hb 1) st (by omega)
  | hgood o b h0 ih =>
    have hs := (look_size hb h0).1
    have ih := ih (bytes_drop hb _)
    rw [(walk_good o h0).1, (walk_good o h0).2]
    generalize lookSeq b = q at *
    generalize lookL b = l at *
    generalize lookN b = N at *
    intro st h
    refine ih _ ?_
    rw [(next_pend _ _).1]
    show o + (6 + 3 * l.length) ≤ o + N
    omega
/-- The first frame of a walk. -/
theorem walk_head (o : Nat) (b : List Nat) : Bytes b → 0 < (walkP o b).length → ∃ a, lookE (b.drop a) = 0 ∧ a + lookN (b.drop a) ≤ b.length ∧
    walkP o b = ⟨o + a, lookSeq (b.drop a), lookL (b.drop a)⟩ :: walkP (o + a + lookN (b.drop a)) (b.drop (a + lookN (b.drop a))) ∧ endP o b = endP (o + a + lookN (b.drop a)) (b.drop (a + lookN (b.drop a))) := by
  induction o, b using walk_ind with
  | hend o b h => rw [(walk_end o h).1]; intro _ h; simp at h
  | hbad o b h6 h0 ih =>
    rw [(walk_bad o h6 h0).1, (walk_bad o h6 h0).2]
    intro hb hl
    obtain ⟨a, h1, h2, h3, h4⟩ := ih (bytes_drop hb 1) hl
    have hn := ne_nil h6
    have e : (b.drop 1).drop a = b.drop (1 + a) := List.drop_drop
    rw [e] at h1 h2 h3 h4
    rw [List.drop_drop, List.length_drop] at *
    refine ⟨1 + a, h1, by omega, ?_, ?_⟩
    · rw [h3, show o + 1 + a = o + (1 + a) by omega, show 1 + (a + lookN (b.drop (1 + a))) = 1 + a + lookN (b.drop (1 + a)) by omega]
    · rw [h4, show o + 1 + a = o + (1 + a) by omega, show 1 + (a + lookN (b.drop (1 + a))) = 1 + a + lookN (b.drop (1 + a)) by omega]
  | hgood o b h0 ih =>
    intro hb _
    refine ⟨0, by rw [List.drop_zero]; exact h0, by rw [List.drop_zero, Nat.zero_add]; exact (look_size hb h0).2.1, ?_, ?_⟩
    · rw [(walk_good o h0).1, List.drop_zero, Nat.add_zero, Nat.zero_add]
    · rw [(walk_good o h0).2, List.drop_zero, Nat.add_zero, Nat.zero_add]
theorem walk_first (b : List Nat) (hb : Bytes b) (h : 0 < (walkP 0 b).length) : lookE (b.drop (firstT b)) = 0 ∧ firstT b + lookN (b.drop (firstT b)) ≤ b.length ∧
    walkP 0 b = ⟨firstT b, lookSeq (b.drop (firstT b)), lookL (b.drop (firstT b))⟩ :: walkP (firstT b + lookN (b.drop (firstT b))) (b.drop (firstT b + lookN (b.drop (firstT b)))) ∧
    endT b = endP (firstT b + lookN (b.drop (firstT b))) (b.drop (firstT b + lookN (b.drop (firstT b)))) := by
  obtain ⟨a, h1, h2, h3, h4⟩ := walk_head 0 b hb h
  have e : firstT b = a := by unfold firstT; rw [h3]; show 0 + a = a; omega
  rw [Nat.zero_add] at h3 h4
  rw [e]
  exact ⟨h1, h2, h3, h4⟩
/-- What a decoder walks when bytes come. -/
def rowT (all ys : List Nat) : List Nat := all.drop (endT all) ++ ys
theorem row_len (all ys : List Nat) : (rowT all ys).length = waitT all + ys.length := by unfold rowT waitT; rw [List.length_append, List.length_drop]
/-- Where the decoder stands with o bytes of them behind it. -/
structure Mid (all ys : List Nat) (o : Nat) (st : St) (es : List Ev) : Prop where
  le : o ≤ (rowT all ys).length
  walk : ∃ ps, walkP 0 (all ++ ys) = ps ++ walkP (endT all + o) ((rowT all ys).drop o) ∧ afterL start ps = st ∧ eventsL start ps = eventsT all ++ es
  end_ : endT (all ++ ys) = endP (endT all + o) ((rowT all ys).drop o)
  pend : st.pend ≤ endT all + o
theorem mid_start (all ys : List Nat) (hb : Bytes all) : Mid all ys 0 (stT all) [] := by
  obtain ⟨h1, h2⟩ := walk_cut 0 all hb ys
  have hle := end_len all hb
  have e : (all ++ ys).drop (endT all - 0) = rowT all ys := by rw [Nat.sub_zero, List.drop_append_of_le_length hle]; rfl
  refine ⟨Nat.zero_le _, ⟨walkP 0 all, ?_, rfl, by rw [List.append_nil]; rfl⟩, ?_, ?_⟩
  · rw [List.drop_zero, Nat.add_zero, ← e]; exact h1
  · rw [List.drop_zero, Nat.add_zero, ← e]; exact h2
  · rw [Nat.add_zero]; exact pend_le 0 all hb start (Nat.le_refl _)
theorem mid_step {all ys : List Nat} {o : Nat} {st : St} {es : List Ev} (h : Mid all ys o st es) (hb : Bytes (rowT all ys)) {r f : List Nat} {a : Nat} (hr : (rowT all ys).drop o = r) (hl : 0 < (walkP 0 r).length) (ha : firstT r = a) (hf : r.drop a = f) :
    lookE f = 0 ∧ a + lookN f ≤ r.length ∧ o + (a + lookN f) ≤ (rowT all ys).length ∧ (rowT all ys).drop (o + (a + lookN f)) = f.drop (lookN f) ∧
      Mid all ys (o + (a + lookN f)) (st.next ⟨endT all + o + a, lookSeq f, lookL f⟩) (es ++ st.evs ⟨endT all + o + a, lookSeq f, lookL f⟩) := by
  subst hr ha hf
  have hbr := bytes_drop hb o
  obtain ⟨h1, h2, h3, h4⟩ := walk_first _ hbr hl
  generalize hr : (rowT all ys).drop o = r at *
  have hrl : r.length = (rowT all ys).length - o := by rw [← hr, List.length_drop]
  have hle := h.le
  generalize hf : r.drop (firstT r) = f at *
  generalize firstT r = a at *
  have hd : (rowT all ys).drop (o + (a + lookN f)) = f.drop (lookN f) := by rw [← List.drop_drop, hr, ← List.drop_drop, hf]
  have hd2 : r.drop (a + lookN f) = f.drop (lookN f) := by rw [← List.drop_drop, hf]
  refine ⟨h1, h2, by omega, hd, by omega, ?_, ?_, ?_⟩
  · obtain ⟨ps, g1, g2, g3⟩ := h.walk
    refine ⟨ps ++ [⟨endT all + o + a, lookSeq f, lookL f⟩], ?_, ?_, ?_⟩
    · have hs := (walk_shift 0 r (endT all + o)).1
      rw [Nat.zero_add] at hs
      have hs2 := (walk_shift (a + lookN f) (r.drop (a + lookN f)) (endT all + o)).1
      rw [g1, hr, hs, h3, List.map_cons, ← hs2, hd, hd2, List.append_assoc]
      have e1 : (⟨a, lookSeq f, lookL f⟩ : Place).shift (endT all + o) = ⟨endT all + o + a, lookSeq f, lookL f⟩ := by
        unfold Place.shift
        rw [show a + (endT all + o) = endT all + o + a by omega]
      rw [e1, show a + lookN f + (endT all + o) = endT all + (o + (a + lookN f)) by omega]
      rfl
    · rw [after_append, g2]; rfl
    · rw [events_append, g3, g2, List.append_assoc]
      simp only [eventsL, List.append_nil]
  · have hs := (walk_shift 0 r (endT all + o)).2
    rw [Nat.zero_add] at hs
    have hs2 := (walk_shift (a + lookN f) (r.drop (a + lookN f)) (endT all + o)).2
    rw [h.end_, hr, hs, show endP 0 r = endT r from rfl, h4, ← hs2, hd, hd2, show a + lookN f + (endT all + o) = endT all + (o + (a + lookN f)) by omega]
  · have hz := (look_size (by rw [← hf]; exact bytes_drop hbr _) h1).1
    rw [(next_pend _ _).1]
    clear h1 h2 h3 h4 hd hd2
    generalize lookSeq f = q at *
    generalize lookL f = l at *
    generalize lookN f = N at *
    show endT all + o + a + (6 + 3 * l.length) ≤ _
    omega
theorem mid_end {all ys : List Nat} {o : Nat} {st : St} {es : List Ev} (h : Mid all ys o st es) (hb : Bytes (rowT all ys)) (ha : Bytes (all ++ ys)) {r : List Nat} (hr : (rowT all ys).drop o = r) (hl : (walkP 0 r).length = 0) :
    behindT all ys = es ∧ stT (all ++ ys) = st ∧ endT (all ++ ys) = endT all + o + endT r ∧ r.drop (endT r) = (all ++ ys).drop (endT (all ++ ys)) ∧ endT r ≤ r.length := by
  subst hr
  have hbr := bytes_drop hb o
  have hle := h.le
  have hle1 := end_len _ hbr
  have hle2 := end_len all (fun y hy => ha y (List.mem_append.2 (.inl hy)))
  have h0 : walkP 0 ((rowT all ys).drop o) = [] := List.eq_nil_of_length_eq_zero hl
  have hs := walk_shift 0 ((rowT all ys).drop o) (endT all + o)
  rw [Nat.zero_add, h0, List.map_nil] at hs
  obtain ⟨ps, g1, g2, g3⟩ := h.walk
  rw [hs.1, List.append_nil] at g1
  have he : endT (all ++ ys) = endT all + o + endT ((rowT all ys).drop o) := by rw [h.end_, hs.2, Nat.add_comm]; rfl
  refine ⟨?_, by unfold stT; rw [g1, g2], he, ?_, hle1⟩
  · unfold behindT
    rw [show eventsT (all ++ ys) = eventsT all ++ es by rw [← g3]; unfold eventsT; rw [g1], List.drop_left' rfl]
  · have e : (all ++ ys).drop (endT all) = rowT all ys := by rw [List.drop_append_of_le_length hle2]; rfl
    rw [he, show endT all + o + endT ((rowT all ys).drop o) = endT all + (o + endT ((rowT all ys).drop o)) by omega, ← List.drop_drop, e, List.drop_drop]
/-! ### The flag, and the order -/
/-- Is there garbage, or a frame out of order, since the last frame in order? -/
def brk (E : Nat) (st : St) : Bool := st.gap || decide (E ≠ st.pend)
theorem brk_skip {E : Nat} {st : St} (h : st.pend ≤ E) (a : Nat) : (brk E st || decide (0 < a)) = brk (E + a) st := by
  unfold brk
  cases st.gap with
  | true => rfl
  | false =>
    rw [Bool.false_or, Bool.false_or, Bool.eq_iff_iff]
    simp
    omega
theorem brk_in {st : St} {p : Place} (h : inOrder st.prev p.seq = true) {E : Nat} (hE : E = p.end_) : brk E (st.next p) = false := by
  rw [(evs_in h).2, hE]
  unfold brk
  simp
theorem brk_out {st : St} {p : Place} (h : inOrder st.prev p.seq = false) (E : Nat) : brk E (st.next p) = true := by
  rw [(evs_out h).2]; rfl
/-- Is a frame with this number in order, as the decoder has it? -/
def dIn (bg : Bool) (last q : Nat) : Bool := !bg || decide (q = (last + 1) % 256)
/-- The decoder's numbers stand for this. -/
structure Stands (st : St) (bg : Bool) (last : Nat) : Prop where
  bg_ : bg = st.prev.isSome
  last_ : ∀ p, st.prev = some p → last = p
  byte_ : last < 256
theorem Stands.order {st : St} {bg : Bool} {last : Nat} (h : Stands st bg last) (q : Nat) : dIn bg last q = inOrder st.prev q := by
  obtain ⟨pend, prev, s, gap⟩ := st
  have h1 := h.bg_
  have h2 := h.last_
  cases prev with
  | none => subst h1; rfl
  | some p => subst h1; rw [h2 p rfl]; rfl
theorem Stands.next_ {st : St} {bg : Bool} {last : Nat} (h : Stands st bg last) {p : Place} (hp : p.seq < 256) : Stands (st.next p) true p.seq :=
  ⟨by rw [(next_pend _ _).2]; rfl, (fun q hq => by rw [(next_pend _ _).2] at hq; injection hq), hp⟩
/-- What a frame tells a decoder. -/
def metT (bg br : Bool) (last s q : Nat) (ls : List Samp) : List Ev := if dIn bg last q then (if br then [(1, s, (0, false))] else []) ++ evS s ls else []
theorem met_evs {st : St} {bg : Bool} {last : Nat} (h : Stands st bg last) {p : Place} : metT bg (brk p.at_ st) last st.s p.seq p.l = st.evs p := by
  unfold metT
  rw [h.order]
  cases hi : inOrder st.prev p.seq with
  | true => rw [(evs_in hi).1]; rfl
  | false => rw [(evs_out hi).1]; rfl
theorem met_count {bg br : Bool} {last s q : Nat} {ls : List Samp} : countL 1 (metT bg br last s q ls) = (if dIn bg last q && br then 1 else 0) ∧ countL 2 (metT bg br last s q ls) = (if dIn bg last q then ls.length else 0) := by
  unfold metT
  cases dIn bg last q with
  | false => exact ⟨rfl, rfl⟩
  | true =>
    rw [if_pos rfl, countL_append, countL_append, (count_evS _ _).1, (count_evS _ _).2]
    cases br with
    | false => exact ⟨rfl, by simp [countL_nil]⟩
    | true => exact ⟨rfl, by simp [countL]⟩
theorem met_len {bg br : Bool} {last s q : Nat} {ls : List Samp} : (metT bg br last s q ls).length ≤ ls.length + 1 := by
  unfold metT
  split
  · rw [List.length_append, evS_length]
    split <;> simp <;> omega
  · simp
end Go.Proofs.Ytfimgkomfnfjkaa.Par
end
section
/- slices.Chunk of bytes, three at a time, as an iterator: what it hands to the loop that ranges over it. -/
set_option linter.unusedSimpArgs false
set_option linter.unusedVariables false
namespace Go.Proofs.Ytfimgkomfnfjkaa.Chunk
open Go.RowKit Go.Shelf RU8

attribute [local go_sem] Oper.semAt_some

/-- How many chunks there are; how long the one with this number is. -/
def chunks (len : Nat) : Nat := (len + 2) / 3
def size (len k : Nat) : Nat := min 3 (len - 3 * k)
/-- The chunk with this number, as a slice. -/
def chunk (A : Option Addr) (len k : Nat) : Value := .slice (A.map (·.add (3 * k))) (size len k) (size len k)
def upto (K k : Nat) (hk : k ≤ K) : List (Fin K) := (List.finRange K).take k
theorem upto_length {K k : Nat} (hk : k ≤ K) : (upto K k hk).length = k := by simp [upto]; omega
theorem upto_succ {K k : Nat} (hk : k < K) (y : Fin K) (hy : y.1 = k) : upto K (k + 1) (by omega) = upto K k (by omega) ++ [y] := by
  obtain rfl : y = ⟨k, hk⟩ := Fin.ext hy
  unfold upto
  rw [List.take_succ_eq_append_getElem (by simpa using hk)]
  simp
set_option maxRecDepth 100000 in
set_option maxHeartbeats 2000000 in
theorem chunk1_in (n : Nat) (hn : 1 ≤ n) (l Bs Bn n₀ : Nat) (S : List Nat) (x : Addr) (len cap : Nat) (hlc : len ≤ cap) (hbig : cap ≤ 9223372036854775807) (hl : len ≤ 1000000) (hs1 : Bs < n₀) (hs2 : Bs ∉ S) (hn1 : Bn < n₀) (hn2 : Bn ∉ S) (J Jx : List (Fin (chunks len)) → World → Prop)
    (hJ : ∀ s W W', J s W → W'.heap = W.heap → W'.os = W.os → W'.tape = W.tape → W'.output = W.output → J s W')
    (hY : ∀ pre y W, J pre W → pre.length < chunks len → YieldAt Fence.wide (n - 1) Try.prog l #[chunk (some x) len y.1] W fun e W' =>
      (e = .returned (.bool true) ∧ J (pre ++ [y]) W' ∧ KeptTo n₀ S W W') ∨ (e = .returned (.bool false) ∧ Jx (pre ++ [y]) W'))
    (W : World) (hBs : W.cell? ⟨Bs, 0, none⟩ = some (.slice (some x) len cap)) (hBn : W.cell? ⟨Bn, 0, none⟩ = some (.int .i64 3)) (h0 : J [] W) :
    CallsIn Fence.wide n Try.prog 49 #[.func (.yield l) #[] #[], .pointer (some ⟨Bs, 0, none⟩), .pointer (some ⟨Bn, 0, none⟩)] W fun e W' => (∃ v, e = .returned v) ∧
      (J (List.finRange (chunks len)) W' ∨ (∃ pre, Jx pre W')) := by
  refine callsIn_of_wp Try.func49 rfl trivial ?_ rfl
  simp only [Try.ntmps49, List.size_toArray, List.length_cons, List.length_nil, Nat.reduceAdd, Nat.reduceSub, Array.replicate_succ, Array.replicate_zero, List.push_toArray, List.append_toArray, List.nil_append, List.cons_append]
  gi_wp2
  gi_loopw [4] (fun i wr => ∃ (k j : Nat), ∃ hk : k ≤ chunks len, j = 3 * k ∧ i = .int .i64 j ∧ J (upto (chunks len) k hk) wr ∧ KeptTo n₀ S W wr)
    (fun i _ => len + 3 - (intOf i).toNat)
  case atStart => exact ⟨0, 0, Nat.zero_le _, rfl, rfl, h0, KeptTo.refl _ _ _⟩
  case round =>
    obtain ⟨k, j, hk, hj, rfl, hJs, hnx⟩ := hrel
    have hcs := (hnx.cell (p := ⟨Bs, 0, none⟩) hs1 hs2).trans hBs
    have hcn := (hnx.cell (p := ⟨Bn, 0, none⟩) hn1 hn2).trans hBn
    by_cases hlt : k < chunks len
    · have hjl : j < len := by unfold chunks at hlt; omega
      obtain ⟨y0, hyk⟩ : ∃ y0 : Fin (chunks len), y0.1 = k := ⟨⟨k, hlt⟩, rfl⟩
      obtain ⟨fn, tmps, assign, body, hy, hR⟩ := hY _ y0 wr.drew (hJ _ _ _ hJs rfl rfl rfl rfl) (by rw [upto_length]; exact hlt)
      unfold chunk at hy
      rw [hyk, ← hj, Option.map_some] at hy
      obtain ⟨m, hm⟩ : ∃ m, len - j = m := ⟨_, rfl⟩
      obtain ⟨e, he⟩ : ∃ e, size len k = e := ⟨_, rfl⟩
      have he3 : (m < 3 → e = m) ∧ (3 ≤ m → e = 3) ∧ m ≤ 1000000 ∧ 0 < m := by unfold size at he; omega
      rw [he] at hy
      obtain ⟨q, hq⟩ : ∃ q, j + e = q := ⟨_, rfl⟩
      have hje : (j : Int) + (e : Int) = (q : Int) := by omega
      have hcj : ¬ cap = j := by omega
      obtain ⟨j3, hj3n⟩ : ∃ j3, j + 3 = j3 := ⟨_, rfl⟩
      have hj3 : (j : Int) + 3 = (j3 : Int) := by omega
      have hb2 : j ≤ len ∧ q ≤ cap ∧ j ≤ q ∧ q ≤ len ∧ j3 ≤ 1000003 := by unfold size at he; omega
      have hqe : q - j = e := by omega
      have HJ3 := Lib.hid hj3n
      have HJ := Lib.hid hj
      have HK := Lib.hid hlt
      have HYK := Lib.hid hyk
      rcases Nat.lt_or_ge m 3 with h3 | h3
      · obtain rfl : e = m := he3.1 h3
        have hmin : (e : Int) < 3 := by omega
        clear hj he he3 hq hj3n hyk hlt h3
        gi_wp2
        refine Reg.beginW Reg.wide_plain (S := fun W => W.cell? ⟨Bs, 0, none⟩ = some (.slice (some x) len cap) ∧ W.cell? ⟨Bn, 0, none⟩ = some (.int .i64 3)) (by kernel_rfl) (by kernel_rfl) ⟨hcs, hcn⟩ (fun hHeld => ?_)
        refine Reg.take (i := 0) (v := ?v1) rfl (by kernel_rfl) (by kernel_rfl) (by kernel_rfl) (by rfl) ?hv1 (by assumption) ?rest1
        case hv1 => first | (intro w hSw; (try dsimp only at hSw); go_simp; done) | (intro w hSw; (try dsimp only at hSw); go_simp; with_reducible rfl)
        (try simp only [Act.put, List.setIfInBounds_toArray, List.set_cons_zero, List.set_cons_succ])
        refine Reg.take (i := 1) (v := ?v2) rfl (by kernel_rfl) (by kernel_rfl) (by kernel_rfl) (by rfl) ?hv2 (by assumption) ?rest2
        case hv2 => first | (intro w hSw; (try dsimp only at hSw); go_simp; done) | (intro w hSw; (try dsimp only at hSw); go_simp; with_reducible rfl)
        (try simp only [Act.put, List.setIfInBounds_toArray, List.set_cons_zero, List.set_cons_succ])
        refine Reg.take (i := 2) (v := ?v3) rfl (by kernel_rfl) (by kernel_rfl) (by kernel_rfl) (by rfl) ?hv3 (by assumption) ?rest3
        case hv3 => first | (intro w hSw; (try dsimp only at hSw); go_simp; done) | (intro w hSw; (try dsimp only at hSw); go_simp; with_reducible rfl)
        (try simp only [Act.put, List.setIfInBounds_toArray, List.set_cons_zero, List.set_cons_succ])
        refine Reg.take (i := 3) (v := ?v4) rfl (by kernel_rfl) (by kernel_rfl) (by kernel_rfl) (by rfl) ?hv4 (by assumption) ?rest4
        case hv4 => first | (intro w hSw; (try dsimp only at hSw); go_simp; done) | (intro w hSw; (try dsimp only at hSw); go_simp; with_reducible rfl)
        (try simp only [Act.put, List.setIfInBounds_toArray, List.set_cons_zero, List.set_cons_succ])
        refine Reg.take (i := 4) (v := ?v5) rfl (by kernel_rfl) (by kernel_rfl) (by kernel_rfl) (by rfl) ?hv5 (by assumption) ?rest5
        case hv5 => first | (intro w hSw; (try dsimp only at hSw); go_simp; done) | (intro w hSw; (try dsimp only at hSw); go_simp; with_reducible rfl)
        (try simp only [Act.put, List.setIfInBounds_toArray, List.set_cons_zero, List.set_cons_succ])
        refine Reg.take (i := 5) (v := ?v6) rfl (by kernel_rfl) (by kernel_rfl) (by kernel_rfl) (by rfl) ?hv6 (by assumption) ?rest6
        case hv6 => first | (intro w hSw; (try dsimp only at hSw); go_simp; done) | (intro w hSw; (try dsimp only at hSw); go_simp; with_reducible rfl)
        (try simp only [Act.put, List.setIfInBounds_toArray, List.set_cons_zero, List.set_cons_succ])
        refine Reg.take (i := 6) (v := ?v7) rfl (by kernel_rfl) (by kernel_rfl) (by kernel_rfl) (by rfl) ?hv7 (by assumption) ?rest7
        case hv7 => first | (intro w hSw; (try dsimp only at hSw); go_simp; done) | (intro w hSw; (try dsimp only at hSw); go_simp; with_reducible rfl)
        (try simp only [Act.put, List.setIfInBounds_toArray, List.set_cons_zero, List.set_cons_succ])
        refine Reg.doneW (by kernel_rfl) ?_ _
        all_goals gi_wp2
        all_goals (refine hR.mono ?_; rintro e9 W3 (⟨rfl, hJ3, hk3⟩ | ⟨rfl, hJx3⟩))
        all_goals try have hcn3 : W3.cell? ⟨Bn, 0, none⟩ = some (.int .i64 3) := (hk3.cell (p := ⟨Bn, 0, none⟩) hn1 hn2).trans hcn
        all_goals gi_wp2
        all_goals first
          | (go_roundw
             case rel => exact ⟨k + 1, j3, HK.out, by have := HJ.out; have := HJ3.out; omega, by first | rfl | go_num, by rw [upto_succ HK.out y0 HYK.out]; exact hJ3, hnx.trans ((KeptTo.refl _ _ _).trans (KeptTo.drew_ hk3))⟩
             case measure => (have := HJ3.out; simp [intOf]; omega))
          | (refine bodyPost_ret (results_none rfl _ _ _) rfl ?_
             exact ⟨⟨_, rfl⟩, .inr ⟨_, hJx3⟩⟩)
      · obtain rfl : e = 3 := he3.2.1 h3
        have hmin : ¬ (m : Int) < 3 := by omega
        clear hj he he3 hq hyk hlt h3 hje
        obtain rfl : j3 = q := by omega
        gi_wp2
        refine Reg.beginW Reg.wide_plain (S := fun W => W.cell? ⟨Bs, 0, none⟩ = some (.slice (some x) len cap) ∧ W.cell? ⟨Bn, 0, none⟩ = some (.int .i64 3)) (by kernel_rfl) (by kernel_rfl) ⟨hcs, hcn⟩ (fun hHeld => ?_)
        refine Reg.take (i := 0) (v := ?v8) rfl (by kernel_rfl) (by kernel_rfl) (by kernel_rfl) (by rfl) ?hv8 (by assumption) ?rest8
        case hv8 => first | (intro w hSw; (try dsimp only at hSw); go_simp; done) | (intro w hSw; (try dsimp only at hSw); go_simp; with_reducible rfl)
        (try simp only [Act.put, List.setIfInBounds_toArray, List.set_cons_zero, List.set_cons_succ])
        refine Reg.take (i := 1) (v := ?v9) rfl (by kernel_rfl) (by kernel_rfl) (by kernel_rfl) (by rfl) ?hv9 (by assumption) ?rest9
        case hv9 => first | (intro w hSw; (try dsimp only at hSw); go_simp; done) | (intro w hSw; (try dsimp only at hSw); go_simp; with_reducible rfl)
        (try simp only [Act.put, List.setIfInBounds_toArray, List.set_cons_zero, List.set_cons_succ])
        refine Reg.take (i := 2) (v := ?v10) rfl (by kernel_rfl) (by kernel_rfl) (by kernel_rfl) (by rfl) ?hv10 (by assumption) ?rest10
        case hv10 => first | (intro w hSw; (try dsimp only at hSw); go_simp; done) | (intro w hSw; (try dsimp only at hSw); go_simp; with_reducible rfl)
        (try simp only [Act.put, List.setIfInBounds_toArray, List.set_cons_zero, List.set_cons_succ])
        refine Reg.take (i := 3) (v := ?v11) rfl (by kernel_rfl) (by kernel_rfl) (by kernel_rfl) (by rfl) ?hv11 (by assumption) ?rest11
        case hv11 => first | (intro w hSw; (try dsimp only at hSw); go_simp; done) | (intro w hSw; (try dsimp only at hSw); go_simp; with_reducible rfl)
        (try simp only [Act.put, List.setIfInBounds_toArray, List.set_cons_zero, List.set_cons_succ])
        refine Reg.take (i := 4) (v := ?v12) rfl (by kernel_rfl) (by kernel_rfl) (by kernel_rfl) (by rfl) ?hv12 (by assumption) ?rest12
        case hv12 => first | (intro w hSw; (try dsimp only at hSw); go_simp; done) | (intro w hSw; (try dsimp only at hSw); go_simp; with_reducible rfl)
        (try simp only [Act.put, List.setIfInBounds_toArray, List.set_cons_zero, List.set_cons_succ])
        refine Reg.take (i := 5) (v := ?v13) rfl (by kernel_rfl) (by kernel_rfl) (by kernel_rfl) (by rfl) ?hv13 (by assumption) ?rest13
        case hv13 => first | (intro w hSw; (try dsimp only at hSw); go_simp; done) | (intro w hSw; (try dsimp only at hSw); go_simp; with_reducible rfl)
        (try simp only [Act.put, List.setIfInBounds_toArray, List.set_cons_zero, List.set_cons_succ])
        refine Reg.take (i := 6) (v := ?v14) rfl (by kernel_rfl) (by kernel_rfl) (by kernel_rfl) (by rfl) ?hv14 (by assumption) ?rest14
        case hv14 => first | (intro w hSw; (try dsimp only at hSw); go_simp; done) | (intro w hSw; (try dsimp only at hSw); go_simp; with_reducible rfl)
        (try simp only [Act.put, List.setIfInBounds_toArray, List.set_cons_zero, List.set_cons_succ])
        refine Reg.doneW (by kernel_rfl) ?_ _
        all_goals gi_wp2
        all_goals (refine hR.mono ?_; rintro e9 W3 (⟨rfl, hJ3, hk3⟩ | ⟨rfl, hJx3⟩))
        all_goals try have hcn3 : W3.cell? ⟨Bn, 0, none⟩ = some (.int .i64 3) := (hk3.cell (p := ⟨Bn, 0, none⟩) hn1 hn2).trans hcn
        all_goals gi_wp2
        all_goals first
          | (go_roundw
             case rel => exact ⟨k + 1, j3, HK.out, by have := HJ.out; have := HJ3.out; omega, by first | rfl | go_num, by rw [upto_succ HK.out y0 HYK.out]; exact hJ3, hnx.trans ((KeptTo.refl _ _ _).trans (KeptTo.drew_ hk3))⟩
             case measure => (have := HJ3.out; simp [intOf]; omega))
          | (refine bodyPost_ret (results_none rfl _ _ _) rfl ?_
             exact ⟨⟨_, rfl⟩, .inr ⟨_, hJx3⟩⟩)
    · have hz : ¬ (j : Int) < (len : Int) := by unfold chunks at hlt; omega
      have hkk : k = chunks len := by omega
      have HJ := Lib.hid hj
      clear hj hlt
      have hup : upto (chunks len) k hk = List.finRange (chunks len) := by unfold upto; rw [List.take_of_length_le (by simp; omega)]
      rw [hup] at hJs
      gi_wp2
      go_end0
      exact ⟨⟨_, rfl⟩, .inl hJs⟩
set_option maxRecDepth 100000 in
set_option maxHeartbeats 1000000 in
/-- .. of no bytes: no round. -/
theorem chunk0_in (n : Nat) (l Bs Bn : Nat) (A : Option Addr) (cap : Nat) (J : World → Prop) (W : World) (hBs : W.cell? ⟨Bs, 0, none⟩ = some (.slice A 0 cap)) (h0 : J W) :
    CallsIn Fence.wide n Try.prog 49 #[.func (.yield l) #[] #[], .pointer (some ⟨Bs, 0, none⟩), .pointer (some ⟨Bn, 0, none⟩)] W fun e W' => (∃ v, e = .returned v) ∧ J W' := by
  refine callsIn_of_wp Try.func49 rfl trivial ?_ rfl
  simp only [Try.ntmps49, List.size_toArray, List.length_cons, List.length_nil, Nat.reduceAdd, Nat.reduceSub, Array.replicate_succ, Array.replicate_zero, List.push_toArray, List.append_toArray, List.nil_append, List.cons_append]
  gi_wp2
  gi_loopw [4] (fun i wr => i = .int .i64 0 ∧ wr.cell? ⟨Bs, 0, none⟩ = some (.slice A 0 cap) ∧ J wr) (fun _ _ => 0)
  case atStart => exact ⟨rfl, hBs, h0⟩
  case round =>
    obtain ⟨rfl, hc, hJs⟩ := hrel
    gi_wp2
    go_end0
    exact ⟨⟨_, rfl⟩, hJs⟩
set_option maxHeartbeats 1000000 in
/-- slices.Chunk(s, 3): s and 3 are boxed; the function value captures both. -/
theorem chunk_in (n : Nat) (A : Option Addr) (len cap : Nat) (w : World) :
    CallsIn Fence.wide n Try.prog 45 #[.slice A len cap, .int .i64 3] w fun e w' => e = .returned (.func (.func 49) #[] #[.pointer (some ⟨w.heap.size, 0, none⟩), .pointer (some ⟨w.heap.size + 1, 0, none⟩)]) ∧
      w' = (w.alloc (.cells #[.slice A len cap] 25)).alloc (.cells #[.int .i64 3] 3) := by
  refine callsIn_of_wp Try.func45 rfl trivial ?_ rfl
  simp only [Try.ntmps45, List.size_toArray, List.length_cons, List.length_nil, Nat.reduceAdd, Nat.reduceSub, Array.replicate_succ, Array.replicate_zero, List.push_toArray, List.append_toArray, List.nil_append, List.cons_append]
  gi_wp2
  go_ret
  exact ⟨rfl, rfl⟩
/-- What it hands to the loop that ranges over it: each chunk, in order; or a round has said 'no more'. -/
theorem chunk_stops (n : Nat) (hn : 1 ≤ n) (Bs Bn n₀ : Nat) (S : List Nat) (A : Option Addr) (len cap : Nat) (hA : 0 < len → ∃ x, A = some x) (hlc : len ≤ cap) (hbig : cap ≤ 9223372036854775807) (hl : len ≤ 1000000) (w : World) (hs1 : Bs < n₀) (hs2 : Bs ∉ S) (hn1 : Bn < n₀) (hn2 : Bn ∉ S)
    (hs3 : Bs < w.heap.size) (hn3 : Bn < w.heap.size) (hBs : w.cell? ⟨Bs, 0, none⟩ = some (.slice A len cap)) (hBn : w.cell? ⟨Bn, 0, none⟩ = some (.int .i64 3)) :
    SeqStopsK Fence.wide n Try.prog 49 #[.pointer (some ⟨Bs, 0, none⟩), .pointer (some ⟨Bn, 0, none⟩)] (fun k : Fin (chunks len) => #[chunk A len k.1]) (KeptTo n₀ S) (fun ys => ys = List.finRange (chunks len)) (fun _ => True) (chunks len) w := fun l J Jx W hW hJ hJx hY h0 => by
  have hc1 := (hW.cell (p := ⟨Bs, 0, none⟩) hs3).trans hBs
  have hc2 := (hW.cell (p := ⟨Bn, 0, none⟩) hn3).trans hBn
  rcases Nat.eq_zero_or_pos len with rfl | hpos
  · exact (chunk0_in n l Bs Bn A cap (J []) W hc1 h0).mono fun e W' ⟨he, hj⟩ => ⟨he, .inl ⟨_, rfl, hj⟩⟩
  · obtain ⟨x, rfl⟩ := hA hpos
    refine (chunk1_in n hn l Bs Bn n₀ S x len cap hlc hbig hl hs1 hs2 hn1 hn2 J Jx (fun s W1 W2 hj e1 e2 e3 e4 => hJ s W1 W2 none hj ⟨e2, e3, e4, by rw [e1]; exact Nat.le_refl _, fun k _ _ => by rw [e1]⟩ (fun r e => by cases e)) hY W hc1 hc2 h0).mono ?_
    rintro e W' ⟨he, hj | ⟨pre, hj⟩⟩
    · exact ⟨he, .inl ⟨_, rfl, hj⟩⟩
    · exact ⟨he, .inr ⟨pre, trivial, hj⟩⟩
end Go.Proofs.Ytfimgkomfnfjkaa.Chunk
end
section
/- A decoder in memory; what its short calls answer. -/
set_option linter.unusedSimpArgs false
set_option linter.unusedVariables false
namespace Go.Proofs.Ytfimgkomfnfjkaa.Par
open Go.RowKit RU8 Frm
/-- Block b is a decoder's struct, block r its ring's. -/
def DecIs (w : World) (b r bs s gp : Nat) (bg : Bool) (last : Nat) (br : Bool) : Prop :=
  Has w b 42 #[.pointer (some ⟨r, 0, none⟩), .int .i64 (bs : Nat), .int .i64 (s : Nat), .int .i64 (gp : Nat), .bool bg, .int .u8 (last : Nat), .bool br]
theorem bytes_k (b r bs s gp last : Nat) (bg br : Bool) (w : World) (h : DecIs w b r bs s gp bg last br) :
    Calls Try.prog 12 #[.pointer (some ⟨b, 0, none⟩)] w fun e w' => e = .returned (.int .i64 (bs : Nat)) ∧ w = w' := by
  have c1 : w.cell? ⟨b, 1, none⟩ = some (.int .i64 (bs : Nat)) := h.cell 1
  clear h
  go_enter Try.func12, Try.ntmps12
  go_wp2
  go_ret
  exact ⟨rfl, rfl⟩
theorem samples_k (b r bs s gp last : Nat) (bg br : Bool) (w : World) (h : DecIs w b r bs s gp bg last br) :
    Calls Try.prog 13 #[.pointer (some ⟨b, 0, none⟩)] w fun e w' => e = .returned (.int .i64 (s : Nat)) ∧ w = w' := by
  have c1 : w.cell? ⟨b, 2, none⟩ = some (.int .i64 (s : Nat)) := h.cell 2
  clear h
  go_enter Try.func13, Try.ntmps13
  go_wp2
  go_ret
  exact ⟨rfl, rfl⟩
theorem gaps_k (b r bs s gp last : Nat) (bg br : Bool) (w : World) (h : DecIs w b r bs s gp bg last br) :
    Calls Try.prog 15 #[.pointer (some ⟨b, 0, none⟩)] w fun e w' => e = .returned (.int .i64 (gp : Nat)) ∧ w = w' := by
  have c1 : w.cell? ⟨b, 3, none⟩ = some (.int .i64 (gp : Nat)) := h.cell 3
  clear h
  go_enter Try.func15, Try.ntmps15
  go_wp2
  go_ret
  exact ⟨rfl, rfl⟩
theorem waits_k (b r bs s gp last g n q f c : Nat) (cs xs : List Nat) (bg br : Bool) (w : World) (h : DecIs w b r bs s gp bg last br) (hR : Ring w r g n q f cs xs) (hc : xs.length = c) :
    Calls Try.prog 10 #[.pointer (some ⟨b, 0, none⟩)] w fun e w' => e = .returned (.int .i64 (c : Nat)) ∧ w = w' := by
  have c0 : w.cell? ⟨b, 0, none⟩ = some (.pointer (some ⟨r, 0, none⟩)) := h.cell 0
  have hl := fun W (hW : W.cell? ⟨r, 2, none⟩ = some (.int .i64 (c : Nat))) => len_any r c W hW
  have c2 := hR.core.cells.2.2
  rw [hc] at c2
  clear h hR
  go_enter Try.func10, Try.ntmps10
  go_wp2_with (go_at_call 19; ((with_reducible refine (hl _ c2).mono ?_); rintro e w' ⟨rfl, rfl⟩))
  go_ret
  exact ⟨rfl, rfl⟩
theorem skip_k (b r bs s gp last : Nat) (bg br : Bool) (a : Nat) (w : World) (h : DecIs w b r bs s gp bg last br) :
    Calls Try.prog 22 #[.pointer (some ⟨b, 0, none⟩), .int .i64 (a : Nat)] w fun e w' => e = .returned (.tuple #[]) ∧ DecIs w' b r bs s gp bg last (br || decide (0 < a)) ∧ Kept [b] w w' := by
  have c6 : w.cell? ⟨b, 6, none⟩ = some (.bool br) := h.cell 6
  have f6 := h.frozen 6
  have hset := fun x : Bool => h.set_ 6 (.bool x)
  have hK := fun x : Bool => (Kept.refl [b] w).setCell (p := ⟨b, 6, none⟩) (.inl (by simp)) (.bool x)
  clear h
  cases br with
  | true =>
    go_enter Try.func22, Try.ntmps22
    go_wp2
    go_end0
    exact ⟨rfl, by have := hset true; simpa [DecIs] using this, hK true⟩
  | false =>
    rcases (by omega : a = 0 ∨ 0 < a) with rfl | ha
    · go_enter Try.func22, Try.ntmps22
      go_wp2
      go_end0
      exact ⟨rfl, by have := hset false; simpa [DecIs] using this, hK false⟩
    · have haz : (0 : Int) < (a : Int) := by omega
      rw [decide_eq_true ha]
      go_enter Try.func22, Try.ntmps22
      go_wp2
      go_end0
      exact ⟨rfl, by have := hset true; simpa [DecIs] using this, hK true⟩
end Go.Proofs.Ytfimgkomfnfjkaa.Par
end
