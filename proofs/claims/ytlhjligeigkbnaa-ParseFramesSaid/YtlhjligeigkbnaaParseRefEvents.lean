/- The reference's events of bytes. -/
import Derived.Test.YtlhjligeigkbnaaParseRefWalk
import Derived.Test.YtlhjligeigkbnaaEventSame
set_option linter.unusedSimpArgs false
set_option linter.unusedVariables false
namespace Go.Proofs.Ytlhjligeigkbnaa.Par
open Go.RowKit RU8 Frm
theorem walk_may (o : Nat) (b : List Nat) (hb : Bytes b) : ∀ p ∈ walkP o b, mayT p.l = true ∧ p.seq < 256 := by
  induction o, b using walk_ind with
  | hend o b h => rw [(walk_end o h).1]; intro p hp; cases hp
  | hbad o b h6 h0 ih => rw [(walk_bad o h6 h0).1]; exact ih (bytes_drop hb 1)
  | hgood o b h0 ih =>
    have h1 := (look_made hb h0).1
    have h2 := (look_made hb h0).2.2.2
    have h3 := ih (bytes_drop hb _)
    rw [(walk_good o h0).1]
    generalize lookL b = l at *
    generalize lookSeq b = q at *
    intro p hp
    rcases List.mem_cons.1 hp with rfl | hp
    · exact ⟨h1, h2⟩
    · exact h3 p hp
theorem may_len {l : List Samp} (h : mayT l = true) : 1 ≤ l.length ∧ l.length ≤ 32 := by
  have h2 := of_decide_eq_true (by simpa only [mayT] using h)
  exact ⟨h2.1, h2.2.1⟩
theorem evs_few (st : St) (p : Place) (h : p.l.length ≤ 32) : (st.evs p).length ≤ 33 ∧ (st.next p).s ≤ st.s + 32 := by
  unfold St.evs St.next
  split
  · rw [List.length_append, evS_length]
    constructor
    · split <;> simp <;> omega
    · simp; omega
  · simp
theorem events_few (st : St) (ps : List Place) (h : ∀ p ∈ ps, p.l.length ≤ 32) : (eventsL st ps).length ≤ 33 * ps.length ∧ (afterL st ps).s ≤ st.s + 32 * ps.length := by
  induction ps generalizing st with
  | nil => simp [eventsL, afterL]
  | cons p ps ih =>
    obtain ⟨h1, h2⟩ := evs_few st p (h p (by simp))
    obtain ⟨h3, h4⟩ := ih (st.next p) (fun q hq => h q (by simp [hq]))
    simp only [eventsL, afterL, List.length_append, List.length_cons]
    omega
theorem place_cells {w : World} {x : Addr} {len : Nat} {ps : List Place} {qs : List Ptr} (h : Row.Vals placeS w (some x) len (pvs 0 ps qs)) (hq : qs.length = ps.length) (i : Nat) (hi : i < len) :
    w.cell? (x.add (i * 4)) = some (.int .i64 ((ps.getD i noPlace).at_ : Nat)) ∧ w.cell? ⟨(x.add (i * 4)).block, (x.add (i * 4)).off + 1, none⟩ = some (.bool (decide ((ps.getD i noPlace).at_ ≠ lastEnd 0 (ps.take i)))) ∧
    w.cell? ⟨(x.add (i * 4)).block, (x.add (i * 4)).off + 2, none⟩ = some (.int .u8 ((ps.getD i noPlace).seq : Nat)) ∧ w.cell? ⟨(x.add (i * 4)).block, (x.add (i * 4)).off + 3, none⟩ = some (.slice (qs.getD i Ptr.none_).A (qs.getD i Ptr.none_).n (qs.getD i Ptr.none_).c) := by
  have hl := h.len_
  have hpl := pvs_length 0 ps qs hq
  have e := pvs_get 0 ps qs hq i (by omega) (by omega)
  have key : ∀ m u, (placeS.enc ((pvs 0 ps qs)[i]'(by omega)))[m]? = some u → m < 4 → w.cell? (if m = 0 then x.add (i * 4) else ⟨(x.add (i * 4)).block, (x.add (i * 4)).off + m, none⟩) = some u := fun m u hu hm => by
    have h1 := h.at_ i m (by omega) u hu
    rw [show placeS.k = 4 from rfl] at h1
    by_cases h0 : m = 0
    · subst h0; simpa using h1
    · rw [if_neg h0]
      rw [show x.add (i * 4 + m) = ⟨(x.add (i * 4)).block, (x.add (i * 4)).off + m, none⟩ by
        unfold Addr.add
        by_cases h2 : i * 4 = 0 <;> simp [h2, h0, Nat.add_assoc]] at h1
      exact h1
  rw [e] at key
  exact ⟨key 0 _ rfl (by omega), key 1 _ rfl (by omega), key 2 _ rfl (by omega), key 3 _ rfl (by omega)⟩
/-- What an Events answers. -/
def EventsIs (w : World) (b : List Nat) (e : Ending) (w' : World) : Prop :=
  ∃ A n c, e = .returned (.tuple #[.slice A n c, .int .i64 (endT b : Nat)]) ∧ n ≤ c ∧ c ≤ 9223372036854775807 ∧ n ≤ 100000 ∧ Row.Vals evSh w' A n (eventsT b) ∧ (∀ x, A = some x → w.heap.size ≤ x.block) ∧ Below w.heap.size w w'
theorem evs_in {st : St} {p : Place} (h : inOrder st.prev p.seq = true) : st.evs p = (if st.gap || decide (p.at_ ≠ st.pend) then [(1, st.s, (0, false))] else []) ++ evS st.s p.l ∧ st.next p = ⟨p.end_, some p.seq, st.s + p.l.length, false⟩ := by
  unfold St.evs St.next; rw [if_pos h, if_pos h]; exact ⟨rfl, rfl⟩
theorem evs_out {st : St} {p : Place} (h : inOrder st.prev p.seq = false) : st.evs p = [] ∧ st.next p = ⟨p.end_, some p.seq, st.s, true⟩ := by
  unfold St.evs St.next; rw [h]; exact ⟨rfl, rfl⟩
theorem evS_take (s : Nat) (l : List Samp) (k : Nat) (h : k < l.length) : evS s (l.take (k + 1)) = evS s (l.take k) ++ [(2, s + k, l.getD k (0, false))] := by
  rw [take_step l (0, false) k h, evS_append]
  simp [evS, List.length_take, Nat.min_eq_left (Nat.le_of_lt h)]
theorem one_new (W : World) (t : TypeId) (e : Ev) : Row.Vals evSh (W.alloc (.cells #[.int .i64 (e.1 : Nat), .int .i64 (e.2.1 : Nat), .int .i32 e.2.2.1, .bool e.2.2.2] t)) (some ⟨W.heap.size, 0, none⟩) 1 [e] :=
  Row.Vals.has (S := evSh) (ys := [e]) (tl := []) (Has.new _ _ _)
theorem evs_room (ps : List Place) (h : ∀ p ∈ ps, mayT p.l = true ∧ p.seq < 256) (j : Nat) : (eventsL start (ps.take j)).length ≤ 33 * ps.length ∧ (stAt ps j).s ≤ 32 * ps.length := by
  have h1 := events_few start (ps.take j) (fun p hp => (may_len (h p (List.mem_of_mem_take hp)).1).2)
  rw [List.length_take] at h1
  have h2 : (afterL start (ps.take j)).s ≤ 0 + 32 * min j ps.length := h1.2
  exact ⟨by omega, by show (afterL start (ps.take j)).s ≤ _; omega⟩
set_option maxRecDepth 100000 in
set_option maxHeartbeats 2000000 in
theorem refevents_any (A : Option Addr) (n c : Nat) (b : List Nat) (w : World) (hv : Vals w A n b) (hb : Bytes b) (hn : n ≤ 2000) (hc : n ≤ c) (hc2 : c ≤ 9223372036854775807) :
    Calls Try.prog 14 #[.slice A n c] w (EventsIs w b) := by
  have hwk := refwalk_any A n c b w hv hb hn hc hc2
  have hlen := hv.len_
  have hInfo : (Try.prog.info? 51).map (fun i => (i.zero, i.size, i.bytes)) = some (some (.agg #[.int .i64 0, .int .i64 0, .int .i32 0, .bool false]), 4, 24) := by kernel_rfl
  have HInfo := Lib.hid hInfo
  have hmay := walk_may 0 b hb
  have hfew := events_few start (walkP 0 b) (fun p hp => (may_len (hmay p hp).1).2)
  unfold WalkIs at hwk
  unfold EventsIs eventsT
  generalize walkP 0 b = ps at *
  generalize endT b = E at *
  have HM := Lib.hid hmay
  have HFEW := Lib.hid hfew
  clear hInfo hmay hfew hv hb
  go_enter Try.func14, Try.ntmps14
  go_wp2_with (go_at_call 10; ((with_reducible refine hwk.mono ?_); rintro e W0 ⟨A0, n0, c0, qs, rfl, g1, g2, g3, hV, hH, hfar, hB0⟩))
  have hql : qs.length = ps.length := by rw [hH.len, List.length_map]
  have hpl : ps.length = n0 := by rw [← pvs_length 0 ps qs hql]; exact hV.len_
  have HQL := Lib.hid hql
  have HPL := Lib.hid hpl
  clear hql hpl hwk
  go_loopw [6, 7, 8, 9] (fun v s g i wr => ∃ j : Nat, j ≤ n0 ∧ i = .int .i64 (j : Nat) ∧ s = .int .i64 ((stAt ps j).s : Nat) ∧ g = .bool (stAt ps j).gap ∧ wr.ownsRow W0.heap.size 51 4 v (eventsL start (ps.take j)).length (Row.flat evSh (eventsL start (ps.take j))) ∧ Below W0.heap.size W0 wr) (fun _ _ _ i _ => n0 - (intOf i).toNat)
  case atStart => exact ⟨0, by omega, rfl, rfl, rfl, Row.own_none (S := evSh) _ _ _, Below.refl _ _⟩
  case round =>
    obtain ⟨j, hj, rfl, rfl, rfl, hO, hB⟩ := hrel
    by_cases hjn : j < n0
    · skip
      obtain ⟨x, rfl, _⟩ := hV.cells (by omega)
      have hVr := hV.below hB
      obtain ⟨e0, e1, e2, e3⟩ := place_cells hVr HQL.out j hjn
      have hR0 : Row.Vals sampS W0 (qs.getD j Ptr.none_).A (qs.getD j Ptr.none_).n (ps.getD j noPlace).l := by
        have := hH.read j (by rw [List.length_map, HPL.out]; exact hjn)
        rwa [show (ps.map (·.l)).getD j [] = (ps.getD j noPlace).l by
          rw [List.getD_eq_getElem?_getD, List.getElem?_map, List.getElem?_eq_getElem (by rw [HPL.out]; exact hjn), List.getD_eq_getElem?_getD, List.getElem?_eq_getElem (by rw [HPL.out]; exact hjn)]; rfl] at this
      have hst := st_step ps j (by rw [HPL.out]; exact hjn)
      have hev := ev_step ps j (by rw [HPL.out]; exact hjn)
      have hpend := st_pend ps j (by rw [HPL.out]; omega)
      have hprev := st_prev ps j (by rw [HPL.out]; omega)
      rw [← hpend] at e1
      obtain ⟨d, hd⟩ : ∃ d, decide ((ps.getD j noPlace).at_ ≠ (stAt ps j).pend) = d := ⟨_, rfl⟩
      rw [hd] at e1
      obtain ⟨g, hg⟩ : ∃ g, (stAt ps j).gap = g := ⟨_, rfl⟩
      rw [hg]
      have hsj := (evs_room ps HM.out j)
      rcases (by cases g <;> cases d <;> simp : g = true ∨ (g = false ∧ d = true) ∨ (g = false ∧ d = false)) with rfl | ⟨rfl, rfl⟩ | ⟨rfl, rfl⟩
      · have hG : ((stAt ps j).gap || decide ((ps.getD j noPlace).at_ ≠ (stAt ps j).pend)) = true := by rw [hg]; rfl
        by_cases hj0 : j = 0
        · have hin : inOrder (stAt ps j).prev (ps.getD j noPlace).seq = true := by rw [hprev, if_pos hj0]; rfl
          have hj0z : ¬ 0 < j := by omega
          clear hprev hj0
          have hprev := True.intro
          have hst' := hst.trans (evs_in hin).2
          have hevs := (evs_in hin).1
          rw [hG, if_pos rfl] at hevs
          have hev' := hev.trans (by rw [hevs, ← List.append_assoc])
          clear hevs
          obtain ⟨⟨Aq, L, cq⟩, hqe⟩ : ∃ q, qs.getD j Ptr.none_ = q := ⟨_, rfl⟩
          rw [hqe] at hR0 e3
          dsimp only at hR0 e3
          obtain ⟨l, hl⟩ : ∃ l, (ps.getD j noPlace).l = l := ⟨_, rfl⟩
          rw [hl] at hR0
          (try rw [hl] at hst')
          (try rw [hl] at hev')
          have hLL : l.length = L := hR0.len_
          have hL32 : L ≤ 32 := by
            have := (may_len (HM.out (ps.getD j noPlace) (getD_mem ps noPlace j (by rw [HPL.out]; exact hjn))).1).2
            rw [hl, hLL] at this
            exact this
          rw [HPL.out] at hsj
          have hs0b : (stAt ps j).s ≤ 64000 := by omega
          have hE0b : (eventsL start (ps.take j)).length ≤ 66000 := by omega
          clear hpend hprev hst hev
          generalize (stAt ps j).s = s0 at *
          generalize eventsL start (ps.take j) = E0 at *
          have HS0 := Lib.hid hs0b
          have HQJ := Lib.hid hqe
          have HLL := Lib.hid hLL
          have HL32 := Lib.hid hL32
          clear hqe hl hsj hs0b hLL
          have HST := Lib.hid hst'
          have HEV := Lib.hid hev'
          clear hst' hev'
          clear hin hG hg hd
          obtain ⟨E1, hE1⟩ : ∃ E, E0 ++ [(1, s0, (0, false))] = E := ⟨_, rfl⟩
          have hE1b : E1.length ≤ 66001 := by rw [← hE1, List.length_append, List.length_singleton]; omega
          have hE1c : E0.length + 1 ≤ 1048576 := by omega
          have hE1d : E0.length + 1 = E1.length := by rw [← hE1, List.length_append, List.length_singleton]
          have HE1 := Lib.hid hE1b
          have HE1C := Lib.hid hE1c
          have HE1D := Lib.hid hE1d
          have HE1E := Lib.hid hE1
          rw [hE1] at HEV
          have hOa := own_kept hO ((Kept.refl [] wr).alloc (.cells #[.int .i64 1, .int .i64 (s0 : Nat), .int .i32 0, .bool false] 51)) (by simp)
          have hBa := hB.alloc hB.size (.cells #[.int .i64 1, .int .i64 (s0 : Nat), .int .i32 0, .bool false] 51)
          have hVn : ∀ z, Row.Vals evSh ((wr.alloc (.cells #[.int .i64 1, .int .i64 (s0 : Nat), .int .i32 0, .bool false] 51)).drewN z) (some ⟨wr.heap.size, 0, none⟩) 1 [(1, s0, (0, false))] := fun z => (one_new wr 51 (1, s0, (0, false))).drewN z
          clear hE1 hE1b hE1c hE1d hE0b
          go_wp2
          go_quiet (fail)
          go_wp2_with (at_builtin; refine Row.wpList_append (S := evSh) rfl (.tmp 50) (.tmp 53) _ rfl W0.heap.size 51 _ 24 (by omega) Try.underlying39 HInfo.out (by kernel_rfl) u6 E0.length E0 rfl (by exact hOa) _ 1 1 [(1, s0, (0, false))] rfl (by exact hVn _) (by exact HE1C.out) (by exact hBa.size) ?_; intro v1 W1 hO1 hg1 hat1; have hK1 := Kept.of_grown hg1; have hB1 := below_kept (below_drewN hBa _) hK1 hBa.size (own_in hOa))
          rw [HE1E.out, HE1D.out] at hO1
          clear hOa hVn hBa hO hB hVr e0 e1 e2 e3
          go_loopw [6, 7, 10] (fun v s i wr => ∃ k : Nat, k ≤ L ∧ i = .int .i64 (k : Nat) ∧ s = .int .i64 ((s0 + k : Nat) : Int) ∧ wr.ownsRow W0.heap.size 51 4 v (E1 ++ evS s0 (l.take k)).length (Row.flat evSh (E1 ++ evS s0 (l.take k))) ∧ Below W0.heap.size W0 wr) (fun _ _ i _ => L - (intOf i).toNat)
          case atStart => exact ⟨0, Nat.zero_le _, rfl, rfl, by rw [List.take_zero, evS, List.append_nil]; exact hO1, hB1⟩
          case round =>
            obtain ⟨k, hk, rfl, rfl, hO2, hB2⟩ := hrel
            have hVk := hV.below hB2
            obtain ⟨k0, k1, k2, k3⟩ := place_cells hVk HQL.out j hjn
            rw [HQJ.out] at k3
            have hrk := hR0.below hB2
            by_cases hkL : k < L
            · obtain ⟨y, rfl, _⟩ := hrk.cells (by omega)
              obtain ⟨m0, m1⟩ := samp_cells hrk k hkL
              have hstp := evS_take s0 l k (by rw [HLL.out]; exact hkL)
              have HSTP := Lib.hid hstp
              have hE2 : (E1 ++ evS s0 (l.take k)).length + 1 ≤ 1048576 := by rw [List.length_append, evS_length, List.length_take]; have := HE1.out; have := HL32.out; omega
              have hOa := own_kept hO2 ((Kept.refl [] wr).alloc (.cells #[.int .i64 2, .int .i64 ((s0 + k : Nat) : Int), .int .i32 (l.getD k (0, false)).1, .bool (l.getD k (0, false)).2] 51)) (by simp)
              have hBa := hB2.alloc hB2.size (.cells #[.int .i64 2, .int .i64 ((s0 + k : Nat) : Int), .int .i32 (l.getD k (0, false)).1, .bool (l.getD k (0, false)).2] 51)
              have hVn : Row.Vals evSh (wr.alloc (.cells #[.int .i64 2, .int .i64 ((s0 + k : Nat) : Int), .int .i32 (l.getD k (0, false)).1, .bool (l.getD k (0, false)).2] 51)) (some ⟨wr.heap.size, 0, none⟩) 1 [(2, s0 + k, l.getD k (0, false))] := one_new wr 51 (2, s0 + k, l.getD k (0, false))
              generalize hE : E1 ++ evS s0 (l.take k) = E2 at *
              obtain ⟨sk, hsk⟩ : ∃ z, s0 + k = z := ⟨_, rfl⟩
              rw [hsk] at hVn hOa hBa ⊢
              have hskz : (s0 : Int) + (k : Int) = (sk : Int) := by omega
              have hsk1 : IntKind.i64.wrap ((sk : Int) + 1) = (sk : Int) + 1 := by exact IntWalk.i64_in _ (by have := HS0.out; omega)
              have HSK := Lib.hid hsk
              clear hstp hsk hV hVk hO1
              go_wp2_with (at_builtin; refine Row.wpList_append (S := evSh) rfl (.tmp 66) (.tmp 78) _ rfl W0.heap.size 51 _ 24 (by omega) Try.underlying39 HInfo.out (by kernel_rfl) u6 E2.length E2 rfl (by exact hOa) _ 1 1 [(2, sk, l.getD k (0, false))] rfl (by exact hVn) (by exact hE2) (by exact hBa.size) ?_; intro v3 W3 hO3 hg3 hat3; have hK3 := Kept.of_grown hg3; have hB3 := below_kept hBa hK3 hBa.size (own_in hOa))
              go_roundw
              case rel => exact ⟨k + 1, by omega, by go_num, by first | go_num | (rw [← HSK.out]; go_num), by rw [HSTP.out, ← List.append_assoc, hE, HSK.out, List.length_append, List.length_singleton]; exact hO3, hB3⟩
              case measure => simp [intOf]; omega
            · have hkL2 : k = L := by omega
              rw [List.take_of_length_le (by rw [HLL.out]; omega)] at hO2
              subst hkL2
              clear hV hVk hO1
              go_wp2
              go_roundw
              case rel => exact ⟨j + 1, by omega, by go_num, by rw [HST.out]; show _ = Value.int .i64 ((s0 + l.length : Nat) : Int); rw [HLL.out], by rw [HST.out], by rw [HEV.out]; exact hO2, hB2⟩
              case measure => simp [intOf]; omega
        · obtain ⟨j1, hj1⟩ : ∃ z, z + 1 = j := ⟨j - 1, by omega⟩
          have hj0z : 0 < j := by omega
          have hj1z : (j : Int) - 1 = (j1 : Int) := by omega
          obtain ⟨f0, f1, f2, f3⟩ := place_cells hVr HQL.out j1 (by omega)
          clear f0 f1 f3
          have hpq := (HM.out (ps.getD j1 noPlace) (getD_mem ps noPlace j1 (by rw [HPL.out]; omega))).2
          have hio : inOrder (stAt ps j).prev (ps.getD j noPlace).seq = decide ((ps.getD j noPlace).seq = ((ps.getD j1 noPlace).seq + 1) % 256) := by rw [hprev, if_neg hj0, show j - 1 = j1 by omega]; rfl
          obtain ⟨pq, hpqe⟩ : ∃ z, (ps.getD j1 noPlace).seq = z := ⟨_, rfl⟩
          rw [hpqe] at f2 hpq hio
          obtain ⟨nx, hnx⟩ : ∃ z, (pq + 1) % 256 = z := ⟨_, rfl⟩
          rw [hnx] at hio
          have hwr8 : IntKind.u8.wrap ((pq : Int) + 1) = (nx : Int) := by rw [IntKind.wrap_u8]; omega
          have HJ1 := Lib.hid hj1
          clear hj0 hj1 hpqe hnx hpq
          by_cases hsq : (ps.getD j noPlace).seq = nx
          · have hin := hio.trans (decide_eq_true hsq)
            rw [hsq] at e2
            clear hio hsq
            have hst' := hst.trans (evs_in hin).2
            have hevs := (evs_in hin).1
            rw [hG, if_pos rfl] at hevs
            have hev' := hev.trans (by rw [hevs, ← List.append_assoc])
            clear hevs
            obtain ⟨⟨Aq, L, cq⟩, hqe⟩ : ∃ q, qs.getD j Ptr.none_ = q := ⟨_, rfl⟩
            rw [hqe] at hR0 e3
            dsimp only at hR0 e3
            obtain ⟨l, hl⟩ : ∃ l, (ps.getD j noPlace).l = l := ⟨_, rfl⟩
            rw [hl] at hR0
            (try rw [hl] at hst')
            (try rw [hl] at hev')
            have hLL : l.length = L := hR0.len_
            have hL32 : L ≤ 32 := by
              have := (may_len (HM.out (ps.getD j noPlace) (getD_mem ps noPlace j (by rw [HPL.out]; exact hjn))).1).2
              rw [hl, hLL] at this
              exact this
            rw [HPL.out] at hsj
            have hs0b : (stAt ps j).s ≤ 64000 := by omega
            have hE0b : (eventsL start (ps.take j)).length ≤ 66000 := by omega
            clear hpend hprev hst hev
            generalize (stAt ps j).s = s0 at *
            generalize eventsL start (ps.take j) = E0 at *
            have HS0 := Lib.hid hs0b
            have HQJ := Lib.hid hqe
            have HLL := Lib.hid hLL
            have HL32 := Lib.hid hL32
            clear hqe hl hsj hs0b hLL
            have HST := Lib.hid hst'
            have HEV := Lib.hid hev'
            clear hst' hev'
            clear hin hG hg hd
            obtain ⟨E1, hE1⟩ : ∃ E, E0 ++ [(1, s0, (0, false))] = E := ⟨_, rfl⟩
            have hE1b : E1.length ≤ 66001 := by rw [← hE1, List.length_append, List.length_singleton]; omega
            have hE1c : E0.length + 1 ≤ 1048576 := by omega
            have hE1d : E0.length + 1 = E1.length := by rw [← hE1, List.length_append, List.length_singleton]
            have HE1 := Lib.hid hE1b
            have HE1C := Lib.hid hE1c
            have HE1D := Lib.hid hE1d
            have HE1E := Lib.hid hE1
            rw [hE1] at HEV
            have hOa := own_kept hO ((Kept.refl [] wr).alloc (.cells #[.int .i64 1, .int .i64 (s0 : Nat), .int .i32 0, .bool false] 51)) (by simp)
            have hBa := hB.alloc hB.size (.cells #[.int .i64 1, .int .i64 (s0 : Nat), .int .i32 0, .bool false] 51)
            have hVn : ∀ z, Row.Vals evSh ((wr.alloc (.cells #[.int .i64 1, .int .i64 (s0 : Nat), .int .i32 0, .bool false] 51)).drewN z) (some ⟨wr.heap.size, 0, none⟩) 1 [(1, s0, (0, false))] := fun z => (one_new wr 51 (1, s0, (0, false))).drewN z
            clear hE1 hE1b hE1c hE1d hE0b
            go_wp2
            go_quiet (fail)
            go_wp2_with (at_builtin; refine Row.wpList_append (S := evSh) rfl (.tmp 50) (.tmp 53) _ rfl W0.heap.size 51 _ 24 (by omega) Try.underlying39 HInfo.out (by kernel_rfl) u6 E0.length E0 rfl (by exact hOa) _ 1 1 [(1, s0, (0, false))] rfl (by exact hVn _) (by exact HE1C.out) (by exact hBa.size) ?_; intro v1 W1 hO1 hg1 hat1; have hK1 := Kept.of_grown hg1; have hB1 := below_kept (below_drewN hBa _) hK1 hBa.size (own_in hOa))
            rw [HE1E.out, HE1D.out] at hO1
            clear hOa hVn hBa hO hB hVr e0 e1 e2 e3
            go_loopw [6, 7, 10] (fun v s i wr => ∃ k : Nat, k ≤ L ∧ i = .int .i64 (k : Nat) ∧ s = .int .i64 ((s0 + k : Nat) : Int) ∧ wr.ownsRow W0.heap.size 51 4 v (E1 ++ evS s0 (l.take k)).length (Row.flat evSh (E1 ++ evS s0 (l.take k))) ∧ Below W0.heap.size W0 wr) (fun _ _ i _ => L - (intOf i).toNat)
            case atStart => exact ⟨0, Nat.zero_le _, rfl, rfl, by rw [List.take_zero, evS, List.append_nil]; exact hO1, hB1⟩
            case round =>
              obtain ⟨k, hk, rfl, rfl, hO2, hB2⟩ := hrel
              have hVk := hV.below hB2
              obtain ⟨k0, k1, k2, k3⟩ := place_cells hVk HQL.out j hjn
              rw [HQJ.out] at k3
              have hrk := hR0.below hB2
              by_cases hkL : k < L
              · obtain ⟨y, rfl, _⟩ := hrk.cells (by omega)
                obtain ⟨m0, m1⟩ := samp_cells hrk k hkL
                have hstp := evS_take s0 l k (by rw [HLL.out]; exact hkL)
                have HSTP := Lib.hid hstp
                have hE2 : (E1 ++ evS s0 (l.take k)).length + 1 ≤ 1048576 := by rw [List.length_append, evS_length, List.length_take]; have := HE1.out; have := HL32.out; omega
                have hOa := own_kept hO2 ((Kept.refl [] wr).alloc (.cells #[.int .i64 2, .int .i64 ((s0 + k : Nat) : Int), .int .i32 (l.getD k (0, false)).1, .bool (l.getD k (0, false)).2] 51)) (by simp)
                have hBa := hB2.alloc hB2.size (.cells #[.int .i64 2, .int .i64 ((s0 + k : Nat) : Int), .int .i32 (l.getD k (0, false)).1, .bool (l.getD k (0, false)).2] 51)
                have hVn : Row.Vals evSh (wr.alloc (.cells #[.int .i64 2, .int .i64 ((s0 + k : Nat) : Int), .int .i32 (l.getD k (0, false)).1, .bool (l.getD k (0, false)).2] 51)) (some ⟨wr.heap.size, 0, none⟩) 1 [(2, s0 + k, l.getD k (0, false))] := one_new wr 51 (2, s0 + k, l.getD k (0, false))
                generalize hE : E1 ++ evS s0 (l.take k) = E2 at *
                obtain ⟨sk, hsk⟩ : ∃ z, s0 + k = z := ⟨_, rfl⟩
                rw [hsk] at hVn hOa hBa ⊢
                have hskz : (s0 : Int) + (k : Int) = (sk : Int) := by omega
                have hsk1 : IntKind.i64.wrap ((sk : Int) + 1) = (sk : Int) + 1 := by exact IntWalk.i64_in _ (by have := HS0.out; omega)
                have HSK := Lib.hid hsk
                clear hstp hsk hV hVk hO1
                go_wp2_with (at_builtin; refine Row.wpList_append (S := evSh) rfl (.tmp 66) (.tmp 78) _ rfl W0.heap.size 51 _ 24 (by omega) Try.underlying39 HInfo.out (by kernel_rfl) u6 E2.length E2 rfl (by exact hOa) _ 1 1 [(2, sk, l.getD k (0, false))] rfl (by exact hVn) (by exact hE2) (by exact hBa.size) ?_; intro v3 W3 hO3 hg3 hat3; have hK3 := Kept.of_grown hg3; have hB3 := below_kept hBa hK3 hBa.size (own_in hOa))
                go_roundw
                case rel => exact ⟨k + 1, by omega, by go_num, by first | go_num | (rw [← HSK.out]; go_num), by rw [HSTP.out, ← List.append_assoc, hE, HSK.out, List.length_append, List.length_singleton]; exact hO3, hB3⟩
                case measure => simp [intOf]; omega
              · have hkL2 : k = L := by omega
                rw [List.take_of_length_le (by rw [HLL.out]; omega)] at hO2
                subst hkL2
                clear hV hVk hO1
                go_wp2
                go_roundw
                case rel => exact ⟨j + 1, by omega, by go_num, by rw [HST.out]; show _ = Value.int .i64 ((s0 + l.length : Nat) : Int); rw [HLL.out], by rw [HST.out], by rw [HEV.out]; exact hO2, hB2⟩
                case measure => simp [intOf]; omega
          · have hout := hio.trans (decide_eq_false hsq)
            have hst' := hst.trans (evs_out hout).2
            have hev' := hev.trans (by rw [(evs_out hout).1, List.append_nil])
            obtain ⟨sq, hsqe⟩ : ∃ z, (ps.getD j noPlace).seq = z := ⟨_, rfl⟩
            rw [hsqe] at e2 hsq
            have hsqz : ((sq : Int) == (nx : Int)) = false := by simp; omega
            clear hio hsq hsqe
            obtain ⟨⟨Aq, L, cq⟩, hqe⟩ : ∃ q, qs.getD j Ptr.none_ = q := ⟨_, rfl⟩
            rw [hqe] at hR0 e3
            dsimp only at hR0 e3
            obtain ⟨l, hl⟩ : ∃ l, (ps.getD j noPlace).l = l := ⟨_, rfl⟩
            rw [hl] at hR0
            (try rw [hl] at hst')
            (try rw [hl] at hev')
            have hLL : l.length = L := hR0.len_
            have hL32 : L ≤ 32 := by
              have := (may_len (HM.out (ps.getD j noPlace) (getD_mem ps noPlace j (by rw [HPL.out]; exact hjn))).1).2
              rw [hl, hLL] at this
              exact this
            rw [HPL.out] at hsj
            have hs0b : (stAt ps j).s ≤ 64000 := by omega
            have hE0b : (eventsL start (ps.take j)).length ≤ 66000 := by omega
            clear hpend hprev hst hev
            generalize (stAt ps j).s = s0 at *
            generalize eventsL start (ps.take j) = E0 at *
            have HS0 := Lib.hid hs0b
            have HQJ := Lib.hid hqe
            have HLL := Lib.hid hLL
            have HL32 := Lib.hid hL32
            clear hqe hl hsj hs0b hLL
            have HST := Lib.hid hst'
            have HEV := Lib.hid hev'
            clear hst' hev'
            clear hout hG hg hd
            go_wp2
            go_quiet (fail)
            have hO1 := own_kept hO ((Kept.refl [] wr).drewN nq) (by simp)
            have hB1 := below_drewN hB nq
            clear hO hB hVr e0 e1 e2 e3
            go_wp2
            go_roundw
            case rel => exact ⟨j + 1, by omega, by go_num, by rw [HST.out], by rw [HST.out], by rw [HEV.out]; exact hO1, hB1⟩
            case measure => simp [intOf]; omega
      · have hG : ((stAt ps j).gap || decide ((ps.getD j noPlace).at_ ≠ (stAt ps j).pend)) = true := by rw [hg, hd]; rfl
        by_cases hj0 : j = 0
        · have hin : inOrder (stAt ps j).prev (ps.getD j noPlace).seq = true := by rw [hprev, if_pos hj0]; rfl
          have hj0z : ¬ 0 < j := by omega
          clear hprev hj0
          have hprev := True.intro
          have hst' := hst.trans (evs_in hin).2
          have hevs := (evs_in hin).1
          rw [hG, if_pos rfl] at hevs
          have hev' := hev.trans (by rw [hevs, ← List.append_assoc])
          clear hevs
          obtain ⟨⟨Aq, L, cq⟩, hqe⟩ : ∃ q, qs.getD j Ptr.none_ = q := ⟨_, rfl⟩
          rw [hqe] at hR0 e3
          dsimp only at hR0 e3
          obtain ⟨l, hl⟩ : ∃ l, (ps.getD j noPlace).l = l := ⟨_, rfl⟩
          rw [hl] at hR0
          (try rw [hl] at hst')
          (try rw [hl] at hev')
          have hLL : l.length = L := hR0.len_
          have hL32 : L ≤ 32 := by
            have := (may_len (HM.out (ps.getD j noPlace) (getD_mem ps noPlace j (by rw [HPL.out]; exact hjn))).1).2
            rw [hl, hLL] at this
            exact this
          rw [HPL.out] at hsj
          have hs0b : (stAt ps j).s ≤ 64000 := by omega
          have hE0b : (eventsL start (ps.take j)).length ≤ 66000 := by omega
          clear hpend hprev hst hev
          generalize (stAt ps j).s = s0 at *
          generalize eventsL start (ps.take j) = E0 at *
          have HS0 := Lib.hid hs0b
          have HQJ := Lib.hid hqe
          have HLL := Lib.hid hLL
          have HL32 := Lib.hid hL32
          clear hqe hl hsj hs0b hLL
          have HST := Lib.hid hst'
          have HEV := Lib.hid hev'
          clear hst' hev'
          clear hin hG hg hd
          obtain ⟨E1, hE1⟩ : ∃ E, E0 ++ [(1, s0, (0, false))] = E := ⟨_, rfl⟩
          have hE1b : E1.length ≤ 66001 := by rw [← hE1, List.length_append, List.length_singleton]; omega
          have hE1c : E0.length + 1 ≤ 1048576 := by omega
          have hE1d : E0.length + 1 = E1.length := by rw [← hE1, List.length_append, List.length_singleton]
          have HE1 := Lib.hid hE1b
          have HE1C := Lib.hid hE1c
          have HE1D := Lib.hid hE1d
          have HE1E := Lib.hid hE1
          rw [hE1] at HEV
          have hOa := own_kept hO ((Kept.refl [] wr).alloc (.cells #[.int .i64 1, .int .i64 (s0 : Nat), .int .i32 0, .bool false] 51)) (by simp)
          have hBa := hB.alloc hB.size (.cells #[.int .i64 1, .int .i64 (s0 : Nat), .int .i32 0, .bool false] 51)
          have hVn : ∀ z, Row.Vals evSh ((wr.alloc (.cells #[.int .i64 1, .int .i64 (s0 : Nat), .int .i32 0, .bool false] 51)).drewN z) (some ⟨wr.heap.size, 0, none⟩) 1 [(1, s0, (0, false))] := fun z => (one_new wr 51 (1, s0, (0, false))).drewN z
          clear hE1 hE1b hE1c hE1d hE0b
          go_wp2
          go_quiet (fail)
          go_wp2_with (at_builtin; refine Row.wpList_append (S := evSh) rfl (.tmp 50) (.tmp 53) _ rfl W0.heap.size 51 _ 24 (by omega) Try.underlying39 HInfo.out (by kernel_rfl) u6 E0.length E0 rfl (by exact hOa) _ 1 1 [(1, s0, (0, false))] rfl (by exact hVn _) (by exact HE1C.out) (by exact hBa.size) ?_; intro v1 W1 hO1 hg1 hat1; have hK1 := Kept.of_grown hg1; have hB1 := below_kept (below_drewN hBa _) hK1 hBa.size (own_in hOa))
          rw [HE1E.out, HE1D.out] at hO1
          clear hOa hVn hBa hO hB hVr e0 e1 e2 e3
          go_loopw [6, 7, 10] (fun v s i wr => ∃ k : Nat, k ≤ L ∧ i = .int .i64 (k : Nat) ∧ s = .int .i64 ((s0 + k : Nat) : Int) ∧ wr.ownsRow W0.heap.size 51 4 v (E1 ++ evS s0 (l.take k)).length (Row.flat evSh (E1 ++ evS s0 (l.take k))) ∧ Below W0.heap.size W0 wr) (fun _ _ i _ => L - (intOf i).toNat)
          case atStart => exact ⟨0, Nat.zero_le _, rfl, rfl, by rw [List.take_zero, evS, List.append_nil]; exact hO1, hB1⟩
          case round =>
            obtain ⟨k, hk, rfl, rfl, hO2, hB2⟩ := hrel
            have hVk := hV.below hB2
            obtain ⟨k0, k1, k2, k3⟩ := place_cells hVk HQL.out j hjn
            rw [HQJ.out] at k3
            have hrk := hR0.below hB2
            by_cases hkL : k < L
            · obtain ⟨y, rfl, _⟩ := hrk.cells (by omega)
              obtain ⟨m0, m1⟩ := samp_cells hrk k hkL
              have hstp := evS_take s0 l k (by rw [HLL.out]; exact hkL)
              have HSTP := Lib.hid hstp
              have hE2 : (E1 ++ evS s0 (l.take k)).length + 1 ≤ 1048576 := by rw [List.length_append, evS_length, List.length_take]; have := HE1.out; have := HL32.out; omega
              have hOa := own_kept hO2 ((Kept.refl [] wr).alloc (.cells #[.int .i64 2, .int .i64 ((s0 + k : Nat) : Int), .int .i32 (l.getD k (0, false)).1, .bool (l.getD k (0, false)).2] 51)) (by simp)
              have hBa := hB2.alloc hB2.size (.cells #[.int .i64 2, .int .i64 ((s0 + k : Nat) : Int), .int .i32 (l.getD k (0, false)).1, .bool (l.getD k (0, false)).2] 51)
              have hVn : Row.Vals evSh (wr.alloc (.cells #[.int .i64 2, .int .i64 ((s0 + k : Nat) : Int), .int .i32 (l.getD k (0, false)).1, .bool (l.getD k (0, false)).2] 51)) (some ⟨wr.heap.size, 0, none⟩) 1 [(2, s0 + k, l.getD k (0, false))] := one_new wr 51 (2, s0 + k, l.getD k (0, false))
              generalize hE : E1 ++ evS s0 (l.take k) = E2 at *
              obtain ⟨sk, hsk⟩ : ∃ z, s0 + k = z := ⟨_, rfl⟩
              rw [hsk] at hVn hOa hBa ⊢
              have hskz : (s0 : Int) + (k : Int) = (sk : Int) := by omega
              have hsk1 : IntKind.i64.wrap ((sk : Int) + 1) = (sk : Int) + 1 := by exact IntWalk.i64_in _ (by have := HS0.out; omega)
              have HSK := Lib.hid hsk
              clear hstp hsk hV hVk hO1
              go_wp2_with (at_builtin; refine Row.wpList_append (S := evSh) rfl (.tmp 66) (.tmp 78) _ rfl W0.heap.size 51 _ 24 (by omega) Try.underlying39 HInfo.out (by kernel_rfl) u6 E2.length E2 rfl (by exact hOa) _ 1 1 [(2, sk, l.getD k (0, false))] rfl (by exact hVn) (by exact hE2) (by exact hBa.size) ?_; intro v3 W3 hO3 hg3 hat3; have hK3 := Kept.of_grown hg3; have hB3 := below_kept hBa hK3 hBa.size (own_in hOa))
              go_roundw
              case rel => exact ⟨k + 1, by omega, by go_num, by first | go_num | (rw [← HSK.out]; go_num), by rw [HSTP.out, ← List.append_assoc, hE, HSK.out, List.length_append, List.length_singleton]; exact hO3, hB3⟩
              case measure => simp [intOf]; omega
            · have hkL2 : k = L := by omega
              rw [List.take_of_length_le (by rw [HLL.out]; omega)] at hO2
              subst hkL2
              clear hV hVk hO1
              go_wp2
              go_roundw
              case rel => exact ⟨j + 1, by omega, by go_num, by rw [HST.out]; show _ = Value.int .i64 ((s0 + l.length : Nat) : Int); rw [HLL.out], by rw [HST.out], by rw [HEV.out]; exact hO2, hB2⟩
              case measure => simp [intOf]; omega
        · obtain ⟨j1, hj1⟩ : ∃ z, z + 1 = j := ⟨j - 1, by omega⟩
          have hj0z : 0 < j := by omega
          have hj1z : (j : Int) - 1 = (j1 : Int) := by omega
          obtain ⟨f0, f1, f2, f3⟩ := place_cells hVr HQL.out j1 (by omega)
          clear f0 f1 f3
          have hpq := (HM.out (ps.getD j1 noPlace) (getD_mem ps noPlace j1 (by rw [HPL.out]; omega))).2
          have hio : inOrder (stAt ps j).prev (ps.getD j noPlace).seq = decide ((ps.getD j noPlace).seq = ((ps.getD j1 noPlace).seq + 1) % 256) := by rw [hprev, if_neg hj0, show j - 1 = j1 by omega]; rfl
          obtain ⟨pq, hpqe⟩ : ∃ z, (ps.getD j1 noPlace).seq = z := ⟨_, rfl⟩
          rw [hpqe] at f2 hpq hio
          obtain ⟨nx, hnx⟩ : ∃ z, (pq + 1) % 256 = z := ⟨_, rfl⟩
          rw [hnx] at hio
          have hwr8 : IntKind.u8.wrap ((pq : Int) + 1) = (nx : Int) := by rw [IntKind.wrap_u8]; omega
          have HJ1 := Lib.hid hj1
          clear hj0 hj1 hpqe hnx hpq
          by_cases hsq : (ps.getD j noPlace).seq = nx
          · have hin := hio.trans (decide_eq_true hsq)
            rw [hsq] at e2
            clear hio hsq
            have hst' := hst.trans (evs_in hin).2
            have hevs := (evs_in hin).1
            rw [hG, if_pos rfl] at hevs
            have hev' := hev.trans (by rw [hevs, ← List.append_assoc])
            clear hevs
            obtain ⟨⟨Aq, L, cq⟩, hqe⟩ : ∃ q, qs.getD j Ptr.none_ = q := ⟨_, rfl⟩
            rw [hqe] at hR0 e3
            dsimp only at hR0 e3
            obtain ⟨l, hl⟩ : ∃ l, (ps.getD j noPlace).l = l := ⟨_, rfl⟩
            rw [hl] at hR0
            (try rw [hl] at hst')
            (try rw [hl] at hev')
            have hLL : l.length = L := hR0.len_
            have hL32 : L ≤ 32 := by
              have := (may_len (HM.out (ps.getD j noPlace) (getD_mem ps noPlace j (by rw [HPL.out]; exact hjn))).1).2
              rw [hl, hLL] at this
              exact this
            rw [HPL.out] at hsj
            have hs0b : (stAt ps j).s ≤ 64000 := by omega
            have hE0b : (eventsL start (ps.take j)).length ≤ 66000 := by omega
            clear hpend hprev hst hev
            generalize (stAt ps j).s = s0 at *
            generalize eventsL start (ps.take j) = E0 at *
            have HS0 := Lib.hid hs0b
            have HQJ := Lib.hid hqe
            have HLL := Lib.hid hLL
            have HL32 := Lib.hid hL32
            clear hqe hl hsj hs0b hLL
            have HST := Lib.hid hst'
            have HEV := Lib.hid hev'
            clear hst' hev'
            clear hin hG hg hd
            obtain ⟨E1, hE1⟩ : ∃ E, E0 ++ [(1, s0, (0, false))] = E := ⟨_, rfl⟩
            have hE1b : E1.length ≤ 66001 := by rw [← hE1, List.length_append, List.length_singleton]; omega
            have hE1c : E0.length + 1 ≤ 1048576 := by omega
            have hE1d : E0.length + 1 = E1.length := by rw [← hE1, List.length_append, List.length_singleton]
            have HE1 := Lib.hid hE1b
            have HE1C := Lib.hid hE1c
            have HE1D := Lib.hid hE1d
            have HE1E := Lib.hid hE1
            rw [hE1] at HEV
            have hOa := own_kept hO ((Kept.refl [] wr).alloc (.cells #[.int .i64 1, .int .i64 (s0 : Nat), .int .i32 0, .bool false] 51)) (by simp)
            have hBa := hB.alloc hB.size (.cells #[.int .i64 1, .int .i64 (s0 : Nat), .int .i32 0, .bool false] 51)
            have hVn : ∀ z, Row.Vals evSh ((wr.alloc (.cells #[.int .i64 1, .int .i64 (s0 : Nat), .int .i32 0, .bool false] 51)).drewN z) (some ⟨wr.heap.size, 0, none⟩) 1 [(1, s0, (0, false))] := fun z => (one_new wr 51 (1, s0, (0, false))).drewN z
            clear hE1 hE1b hE1c hE1d hE0b
            go_wp2
            go_quiet (fail)
            go_wp2_with (at_builtin; refine Row.wpList_append (S := evSh) rfl (.tmp 50) (.tmp 53) _ rfl W0.heap.size 51 _ 24 (by omega) Try.underlying39 HInfo.out (by kernel_rfl) u6 E0.length E0 rfl (by exact hOa) _ 1 1 [(1, s0, (0, false))] rfl (by exact hVn _) (by exact HE1C.out) (by exact hBa.size) ?_; intro v1 W1 hO1 hg1 hat1; have hK1 := Kept.of_grown hg1; have hB1 := below_kept (below_drewN hBa _) hK1 hBa.size (own_in hOa))
            rw [HE1E.out, HE1D.out] at hO1
            clear hOa hVn hBa hO hB hVr e0 e1 e2 e3
            go_loopw [6, 7, 10] (fun v s i wr => ∃ k : Nat, k ≤ L ∧ i = .int .i64 (k : Nat) ∧ s = .int .i64 ((s0 + k : Nat) : Int) ∧ wr.ownsRow W0.heap.size 51 4 v (E1 ++ evS s0 (l.take k)).length (Row.flat evSh (E1 ++ evS s0 (l.take k))) ∧ Below W0.heap.size W0 wr) (fun _ _ i _ => L - (intOf i).toNat)
            case atStart => exact ⟨0, Nat.zero_le _, rfl, rfl, by rw [List.take_zero, evS, List.append_nil]; exact hO1, hB1⟩
            case round =>
              obtain ⟨k, hk, rfl, rfl, hO2, hB2⟩ := hrel
              have hVk := hV.below hB2
              obtain ⟨k0, k1, k2, k3⟩ := place_cells hVk HQL.out j hjn
              rw [HQJ.out] at k3
              have hrk := hR0.below hB2
              by_cases hkL : k < L
              · obtain ⟨y, rfl, _⟩ := hrk.cells (by omega)
                obtain ⟨m0, m1⟩ := samp_cells hrk k hkL
                have hstp := evS_take s0 l k (by rw [HLL.out]; exact hkL)
                have HSTP := Lib.hid hstp
                have hE2 : (E1 ++ evS s0 (l.take k)).length + 1 ≤ 1048576 := by rw [List.length_append, evS_length, List.length_take]; have := HE1.out; have := HL32.out; omega
                have hOa := own_kept hO2 ((Kept.refl [] wr).alloc (.cells #[.int .i64 2, .int .i64 ((s0 + k : Nat) : Int), .int .i32 (l.getD k (0, false)).1, .bool (l.getD k (0, false)).2] 51)) (by simp)
                have hBa := hB2.alloc hB2.size (.cells #[.int .i64 2, .int .i64 ((s0 + k : Nat) : Int), .int .i32 (l.getD k (0, false)).1, .bool (l.getD k (0, false)).2] 51)
                have hVn : Row.Vals evSh (wr.alloc (.cells #[.int .i64 2, .int .i64 ((s0 + k : Nat) : Int), .int .i32 (l.getD k (0, false)).1, .bool (l.getD k (0, false)).2] 51)) (some ⟨wr.heap.size, 0, none⟩) 1 [(2, s0 + k, l.getD k (0, false))] := one_new wr 51 (2, s0 + k, l.getD k (0, false))
                generalize hE : E1 ++ evS s0 (l.take k) = E2 at *
                obtain ⟨sk, hsk⟩ : ∃ z, s0 + k = z := ⟨_, rfl⟩
                rw [hsk] at hVn hOa hBa ⊢
                have hskz : (s0 : Int) + (k : Int) = (sk : Int) := by omega
                have hsk1 : IntKind.i64.wrap ((sk : Int) + 1) = (sk : Int) + 1 := by exact IntWalk.i64_in _ (by have := HS0.out; omega)
                have HSK := Lib.hid hsk
                clear hstp hsk hV hVk hO1
                go_wp2_with (at_builtin; refine Row.wpList_append (S := evSh) rfl (.tmp 66) (.tmp 78) _ rfl W0.heap.size 51 _ 24 (by omega) Try.underlying39 HInfo.out (by kernel_rfl) u6 E2.length E2 rfl (by exact hOa) _ 1 1 [(2, sk, l.getD k (0, false))] rfl (by exact hVn) (by exact hE2) (by exact hBa.size) ?_; intro v3 W3 hO3 hg3 hat3; have hK3 := Kept.of_grown hg3; have hB3 := below_kept hBa hK3 hBa.size (own_in hOa))
                go_roundw
                case rel => exact ⟨k + 1, by omega, by go_num, by first | go_num | (rw [← HSK.out]; go_num), by rw [HSTP.out, ← List.append_assoc, hE, HSK.out, List.length_append, List.length_singleton]; exact hO3, hB3⟩
                case measure => simp [intOf]; omega
              · have hkL2 : k = L := by omega
                rw [List.take_of_length_le (by rw [HLL.out]; omega)] at hO2
                subst hkL2
                clear hV hVk hO1
                go_wp2
                go_roundw
                case rel => exact ⟨j + 1, by omega, by go_num, by rw [HST.out]; show _ = Value.int .i64 ((s0 + l.length : Nat) : Int); rw [HLL.out], by rw [HST.out], by rw [HEV.out]; exact hO2, hB2⟩
                case measure => simp [intOf]; omega
          · have hout := hio.trans (decide_eq_false hsq)
            have hst' := hst.trans (evs_out hout).2
            have hev' := hev.trans (by rw [(evs_out hout).1, List.append_nil])
            obtain ⟨sq, hsqe⟩ : ∃ z, (ps.getD j noPlace).seq = z := ⟨_, rfl⟩
            rw [hsqe] at e2 hsq
            have hsqz : ((sq : Int) == (nx : Int)) = false := by simp; omega
            clear hio hsq hsqe
            obtain ⟨⟨Aq, L, cq⟩, hqe⟩ : ∃ q, qs.getD j Ptr.none_ = q := ⟨_, rfl⟩
            rw [hqe] at hR0 e3
            dsimp only at hR0 e3
            obtain ⟨l, hl⟩ : ∃ l, (ps.getD j noPlace).l = l := ⟨_, rfl⟩
            rw [hl] at hR0
            (try rw [hl] at hst')
            (try rw [hl] at hev')
            have hLL : l.length = L := hR0.len_
            have hL32 : L ≤ 32 := by
              have := (may_len (HM.out (ps.getD j noPlace) (getD_mem ps noPlace j (by rw [HPL.out]; exact hjn))).1).2
              rw [hl, hLL] at this
              exact this
            rw [HPL.out] at hsj
            have hs0b : (stAt ps j).s ≤ 64000 := by omega
            have hE0b : (eventsL start (ps.take j)).length ≤ 66000 := by omega
            clear hpend hprev hst hev
            generalize (stAt ps j).s = s0 at *
            generalize eventsL start (ps.take j) = E0 at *
            have HS0 := Lib.hid hs0b
            have HQJ := Lib.hid hqe
            have HLL := Lib.hid hLL
            have HL32 := Lib.hid hL32
            clear hqe hl hsj hs0b hLL
            have HST := Lib.hid hst'
            have HEV := Lib.hid hev'
            clear hst' hev'
            clear hout hG hg hd
            go_wp2
            go_quiet (fail)
            have hO1 := own_kept hO ((Kept.refl [] wr).drewN nq) (by simp)
            have hB1 := below_drewN hB nq
            clear hO hB hVr e0 e1 e2 e3
            go_wp2
            go_roundw
            case rel => exact ⟨j + 1, by omega, by go_num, by rw [HST.out], by rw [HST.out], by rw [HEV.out]; exact hO1, hB1⟩
            case measure => simp [intOf]; omega
      · have hG : ((stAt ps j).gap || decide ((ps.getD j noPlace).at_ ≠ (stAt ps j).pend)) = false := by rw [hg, hd]; rfl
        by_cases hj0 : j = 0
        · have hin : inOrder (stAt ps j).prev (ps.getD j noPlace).seq = true := by rw [hprev, if_pos hj0]; rfl
          have hj0z : ¬ 0 < j := by omega
          clear hprev hj0
          have hprev := True.intro
          have hst' := hst.trans (evs_in hin).2
          have hevs := (evs_in hin).1
          rw [hG, if_neg (by decide), List.nil_append] at hevs
          have hev' := hev.trans (by rw [hevs])
          clear hevs
          obtain ⟨⟨Aq, L, cq⟩, hqe⟩ : ∃ q, qs.getD j Ptr.none_ = q := ⟨_, rfl⟩
          rw [hqe] at hR0 e3
          dsimp only at hR0 e3
          obtain ⟨l, hl⟩ : ∃ l, (ps.getD j noPlace).l = l := ⟨_, rfl⟩
          rw [hl] at hR0
          (try rw [hl] at hst')
          (try rw [hl] at hev')
          have hLL : l.length = L := hR0.len_
          have hL32 : L ≤ 32 := by
            have := (may_len (HM.out (ps.getD j noPlace) (getD_mem ps noPlace j (by rw [HPL.out]; exact hjn))).1).2
            rw [hl, hLL] at this
            exact this
          rw [HPL.out] at hsj
          have hs0b : (stAt ps j).s ≤ 64000 := by omega
          have hE0b : (eventsL start (ps.take j)).length ≤ 66000 := by omega
          clear hpend hprev hst hev
          generalize (stAt ps j).s = s0 at *
          generalize eventsL start (ps.take j) = E0 at *
          have HS0 := Lib.hid hs0b
          have HQJ := Lib.hid hqe
          have HLL := Lib.hid hLL
          have HL32 := Lib.hid hL32
          clear hqe hl hsj hs0b hLL
          have HST := Lib.hid hst'
          have HEV := Lib.hid hev'
          clear hst' hev'
          clear hin hG hg hd
          have HE1 := Lib.hid (show E0.length ≤ 66001 by omega)
          clear hE0b
          go_wp2
          go_quiet (fail)
          have hO1 := own_kept hO ((Kept.refl [] wr).drewN nq) (by simp)
          have hB1 := below_drewN hB nq
          clear hO hB hVr e0 e1 e2 e3
          generalize E0 = E1 at *
          go_wp2
          go_loopw [6, 7, 10] (fun v s i wr => ∃ k : Nat, k ≤ L ∧ i = .int .i64 (k : Nat) ∧ s = .int .i64 ((s0 + k : Nat) : Int) ∧ wr.ownsRow W0.heap.size 51 4 v (E1 ++ evS s0 (l.take k)).length (Row.flat evSh (E1 ++ evS s0 (l.take k))) ∧ Below W0.heap.size W0 wr) (fun _ _ i _ => L - (intOf i).toNat)
          case atStart => exact ⟨0, Nat.zero_le _, rfl, rfl, by rw [List.take_zero, evS, List.append_nil]; exact hO1, hB1⟩
          case round =>
            obtain ⟨k, hk, rfl, rfl, hO2, hB2⟩ := hrel
            have hVk := hV.below hB2
            obtain ⟨k0, k1, k2, k3⟩ := place_cells hVk HQL.out j hjn
            rw [HQJ.out] at k3
            have hrk := hR0.below hB2
            by_cases hkL : k < L
            · obtain ⟨y, rfl, _⟩ := hrk.cells (by omega)
              obtain ⟨m0, m1⟩ := samp_cells hrk k hkL
              have hstp := evS_take s0 l k (by rw [HLL.out]; exact hkL)
              have HSTP := Lib.hid hstp
              have hE2 : (E1 ++ evS s0 (l.take k)).length + 1 ≤ 1048576 := by rw [List.length_append, evS_length, List.length_take]; have := HE1.out; have := HL32.out; omega
              have hOa := own_kept hO2 ((Kept.refl [] wr).alloc (.cells #[.int .i64 2, .int .i64 ((s0 + k : Nat) : Int), .int .i32 (l.getD k (0, false)).1, .bool (l.getD k (0, false)).2] 51)) (by simp)
              have hBa := hB2.alloc hB2.size (.cells #[.int .i64 2, .int .i64 ((s0 + k : Nat) : Int), .int .i32 (l.getD k (0, false)).1, .bool (l.getD k (0, false)).2] 51)
              have hVn : Row.Vals evSh (wr.alloc (.cells #[.int .i64 2, .int .i64 ((s0 + k : Nat) : Int), .int .i32 (l.getD k (0, false)).1, .bool (l.getD k (0, false)).2] 51)) (some ⟨wr.heap.size, 0, none⟩) 1 [(2, s0 + k, l.getD k (0, false))] := one_new wr 51 (2, s0 + k, l.getD k (0, false))
              generalize hE : E1 ++ evS s0 (l.take k) = E2 at *
              obtain ⟨sk, hsk⟩ : ∃ z, s0 + k = z := ⟨_, rfl⟩
              rw [hsk] at hVn hOa hBa ⊢
              have hskz : (s0 : Int) + (k : Int) = (sk : Int) := by omega
              have hsk1 : IntKind.i64.wrap ((sk : Int) + 1) = (sk : Int) + 1 := by exact IntWalk.i64_in _ (by have := HS0.out; omega)
              have HSK := Lib.hid hsk
              clear hstp hsk hV hVk hO1
              go_wp2_with (at_builtin; refine Row.wpList_append (S := evSh) rfl (.tmp 66) (.tmp 78) _ rfl W0.heap.size 51 _ 24 (by omega) Try.underlying39 HInfo.out (by kernel_rfl) u6 E2.length E2 rfl (by exact hOa) _ 1 1 [(2, sk, l.getD k (0, false))] rfl (by exact hVn) (by exact hE2) (by exact hBa.size) ?_; intro v3 W3 hO3 hg3 hat3; have hK3 := Kept.of_grown hg3; have hB3 := below_kept hBa hK3 hBa.size (own_in hOa))
              go_roundw
              case rel => exact ⟨k + 1, by omega, by go_num, by first | go_num | (rw [← HSK.out]; go_num), by rw [HSTP.out, ← List.append_assoc, hE, HSK.out, List.length_append, List.length_singleton]; exact hO3, hB3⟩
              case measure => simp [intOf]; omega
            · have hkL2 : k = L := by omega
              rw [List.take_of_length_le (by rw [HLL.out]; omega)] at hO2
              subst hkL2
              clear hV hVk hO1
              go_wp2
              go_roundw
              case rel => exact ⟨j + 1, by omega, by go_num, by rw [HST.out]; show _ = Value.int .i64 ((s0 + l.length : Nat) : Int); rw [HLL.out], by rw [HST.out], by rw [HEV.out]; exact hO2, hB2⟩
              case measure => simp [intOf]; omega
        · obtain ⟨j1, hj1⟩ : ∃ z, z + 1 = j := ⟨j - 1, by omega⟩
          have hj0z : 0 < j := by omega
          have hj1z : (j : Int) - 1 = (j1 : Int) := by omega
          obtain ⟨f0, f1, f2, f3⟩ := place_cells hVr HQL.out j1 (by omega)
          clear f0 f1 f3
          have hpq := (HM.out (ps.getD j1 noPlace) (getD_mem ps noPlace j1 (by rw [HPL.out]; omega))).2
          have hio : inOrder (stAt ps j).prev (ps.getD j noPlace).seq = decide ((ps.getD j noPlace).seq = ((ps.getD j1 noPlace).seq + 1) % 256) := by rw [hprev, if_neg hj0, show j - 1 = j1 by omega]; rfl
          obtain ⟨pq, hpqe⟩ : ∃ z, (ps.getD j1 noPlace).seq = z := ⟨_, rfl⟩
          rw [hpqe] at f2 hpq hio
          obtain ⟨nx, hnx⟩ : ∃ z, (pq + 1) % 256 = z := ⟨_, rfl⟩
          rw [hnx] at hio
          have hwr8 : IntKind.u8.wrap ((pq : Int) + 1) = (nx : Int) := by rw [IntKind.wrap_u8]; omega
          have HJ1 := Lib.hid hj1
          clear hj0 hj1 hpqe hnx hpq
          by_cases hsq : (ps.getD j noPlace).seq = nx
          · have hin := hio.trans (decide_eq_true hsq)
            rw [hsq] at e2
            clear hio hsq
            have hst' := hst.trans (evs_in hin).2
            have hevs := (evs_in hin).1
            rw [hG, if_neg (by decide), List.nil_append] at hevs
            have hev' := hev.trans (by rw [hevs])
            clear hevs
            obtain ⟨⟨Aq, L, cq⟩, hqe⟩ : ∃ q, qs.getD j Ptr.none_ = q := ⟨_, rfl⟩
            rw [hqe] at hR0 e3
            dsimp only at hR0 e3
            obtain ⟨l, hl⟩ : ∃ l, (ps.getD j noPlace).l = l := ⟨_, rfl⟩
            rw [hl] at hR0
            (try rw [hl] at hst')
            (try rw [hl] at hev')
            have hLL : l.length = L := hR0.len_
            have hL32 : L ≤ 32 := by
              have := (may_len (HM.out (ps.getD j noPlace) (getD_mem ps noPlace j (by rw [HPL.out]; exact hjn))).1).2
              rw [hl, hLL] at this
              exact this
            rw [HPL.out] at hsj
            have hs0b : (stAt ps j).s ≤ 64000 := by omega
            have hE0b : (eventsL start (ps.take j)).length ≤ 66000 := by omega
            clear hpend hprev hst hev
            generalize (stAt ps j).s = s0 at *
            generalize eventsL start (ps.take j) = E0 at *
            have HS0 := Lib.hid hs0b
            have HQJ := Lib.hid hqe
            have HLL := Lib.hid hLL
            have HL32 := Lib.hid hL32
            clear hqe hl hsj hs0b hLL
            have HST := Lib.hid hst'
            have HEV := Lib.hid hev'
            clear hst' hev'
            clear hin hG hg hd
            have HE1 := Lib.hid (show E0.length ≤ 66001 by omega)
            clear hE0b
            go_wp2
            go_quiet (fail)
            have hO1 := own_kept hO ((Kept.refl [] wr).drewN nq) (by simp)
            have hB1 := below_drewN hB nq
            clear hO hB hVr e0 e1 e2 e3
            generalize E0 = E1 at *
            go_wp2
            go_loopw [6, 7, 10] (fun v s i wr => ∃ k : Nat, k ≤ L ∧ i = .int .i64 (k : Nat) ∧ s = .int .i64 ((s0 + k : Nat) : Int) ∧ wr.ownsRow W0.heap.size 51 4 v (E1 ++ evS s0 (l.take k)).length (Row.flat evSh (E1 ++ evS s0 (l.take k))) ∧ Below W0.heap.size W0 wr) (fun _ _ i _ => L - (intOf i).toNat)
            case atStart => exact ⟨0, Nat.zero_le _, rfl, rfl, by rw [List.take_zero, evS, List.append_nil]; exact hO1, hB1⟩
            case round =>
              obtain ⟨k, hk, rfl, rfl, hO2, hB2⟩ := hrel
              have hVk := hV.below hB2
              obtain ⟨k0, k1, k2, k3⟩ := place_cells hVk HQL.out j hjn
              rw [HQJ.out] at k3
              have hrk := hR0.below hB2
              by_cases hkL : k < L
              · obtain ⟨y, rfl, _⟩ := hrk.cells (by omega)
                obtain ⟨m0, m1⟩ := samp_cells hrk k hkL
                have hstp := evS_take s0 l k (by rw [HLL.out]; exact hkL)
                have HSTP := Lib.hid hstp
                have hE2 : (E1 ++ evS s0 (l.take k)).length + 1 ≤ 1048576 := by rw [List.length_append, evS_length, List.length_take]; have := HE1.out; have := HL32.out; omega
                have hOa := own_kept hO2 ((Kept.refl [] wr).alloc (.cells #[.int .i64 2, .int .i64 ((s0 + k : Nat) : Int), .int .i32 (l.getD k (0, false)).1, .bool (l.getD k (0, false)).2] 51)) (by simp)
                have hBa := hB2.alloc hB2.size (.cells #[.int .i64 2, .int .i64 ((s0 + k : Nat) : Int), .int .i32 (l.getD k (0, false)).1, .bool (l.getD k (0, false)).2] 51)
                have hVn : Row.Vals evSh (wr.alloc (.cells #[.int .i64 2, .int .i64 ((s0 + k : Nat) : Int), .int .i32 (l.getD k (0, false)).1, .bool (l.getD k (0, false)).2] 51)) (some ⟨wr.heap.size, 0, none⟩) 1 [(2, s0 + k, l.getD k (0, false))] := one_new wr 51 (2, s0 + k, l.getD k (0, false))
                generalize hE : E1 ++ evS s0 (l.take k) = E2 at *
                obtain ⟨sk, hsk⟩ : ∃ z, s0 + k = z := ⟨_, rfl⟩
                rw [hsk] at hVn hOa hBa ⊢
                have hskz : (s0 : Int) + (k : Int) = (sk : Int) := by omega
                have hsk1 : IntKind.i64.wrap ((sk : Int) + 1) = (sk : Int) + 1 := by exact IntWalk.i64_in _ (by have := HS0.out; omega)
                have HSK := Lib.hid hsk
                clear hstp hsk hV hVk hO1
                go_wp2_with (at_builtin; refine Row.wpList_append (S := evSh) rfl (.tmp 66) (.tmp 78) _ rfl W0.heap.size 51 _ 24 (by omega) Try.underlying39 HInfo.out (by kernel_rfl) u6 E2.length E2 rfl (by exact hOa) _ 1 1 [(2, sk, l.getD k (0, false))] rfl (by exact hVn) (by exact hE2) (by exact hBa.size) ?_; intro v3 W3 hO3 hg3 hat3; have hK3 := Kept.of_grown hg3; have hB3 := below_kept hBa hK3 hBa.size (own_in hOa))
                go_roundw
                case rel => exact ⟨k + 1, by omega, by go_num, by first | go_num | (rw [← HSK.out]; go_num), by rw [HSTP.out, ← List.append_assoc, hE, HSK.out, List.length_append, List.length_singleton]; exact hO3, hB3⟩
                case measure => simp [intOf]; omega
              · have hkL2 : k = L := by omega
                rw [List.take_of_length_le (by rw [HLL.out]; omega)] at hO2
                subst hkL2
                clear hV hVk hO1
                go_wp2
                go_roundw
                case rel => exact ⟨j + 1, by omega, by go_num, by rw [HST.out]; show _ = Value.int .i64 ((s0 + l.length : Nat) : Int); rw [HLL.out], by rw [HST.out], by rw [HEV.out]; exact hO2, hB2⟩
                case measure => simp [intOf]; omega
          · have hout := hio.trans (decide_eq_false hsq)
            have hst' := hst.trans (evs_out hout).2
            have hev' := hev.trans (by rw [(evs_out hout).1, List.append_nil])
            obtain ⟨sq, hsqe⟩ : ∃ z, (ps.getD j noPlace).seq = z := ⟨_, rfl⟩
            rw [hsqe] at e2 hsq
            have hsqz : ((sq : Int) == (nx : Int)) = false := by simp; omega
            clear hio hsq hsqe
            obtain ⟨⟨Aq, L, cq⟩, hqe⟩ : ∃ q, qs.getD j Ptr.none_ = q := ⟨_, rfl⟩
            rw [hqe] at hR0 e3
            dsimp only at hR0 e3
            obtain ⟨l, hl⟩ : ∃ l, (ps.getD j noPlace).l = l := ⟨_, rfl⟩
            rw [hl] at hR0
            (try rw [hl] at hst')
            (try rw [hl] at hev')
            have hLL : l.length = L := hR0.len_
            have hL32 : L ≤ 32 := by
              have := (may_len (HM.out (ps.getD j noPlace) (getD_mem ps noPlace j (by rw [HPL.out]; exact hjn))).1).2
              rw [hl, hLL] at this
              exact this
            rw [HPL.out] at hsj
            have hs0b : (stAt ps j).s ≤ 64000 := by omega
            have hE0b : (eventsL start (ps.take j)).length ≤ 66000 := by omega
            clear hpend hprev hst hev
            generalize (stAt ps j).s = s0 at *
            generalize eventsL start (ps.take j) = E0 at *
            have HS0 := Lib.hid hs0b
            have HQJ := Lib.hid hqe
            have HLL := Lib.hid hLL
            have HL32 := Lib.hid hL32
            clear hqe hl hsj hs0b hLL
            have HST := Lib.hid hst'
            have HEV := Lib.hid hev'
            clear hst' hev'
            clear hout hG hg hd
            go_wp2
            go_quiet (fail)
            have hO1 := own_kept hO ((Kept.refl [] wr).drewN nq) (by simp)
            have hB1 := below_drewN hB nq
            clear hO hB hVr e0 e1 e2 e3
            go_wp2
            go_roundw
            case rel => exact ⟨j + 1, by omega, by go_num, by rw [HST.out], by rw [HST.out], by rw [HEV.out]; exact hO1, hB1⟩
            case measure => simp [intOf]; omega
    · have hjn2 : j = n0 := by omega
      have hfew := HFEW.out.1
      rw [List.take_of_length_le (by rw [HPL.out]; omega)] at hO
      obtain ⟨A1, c1, rfl, e1, e2, hV1, hfar1, hob⟩ := Row.Vals.own hO
      have hp2 := HPL.out
      clear hfew
      subst hjn2
      go_wp2
      go_ret2
      exact ⟨A1, _, c1, rfl, e1, e2, by have := HFEW.out.1; have := HPL.out; omega, hV1, (fun x hx => Nat.le_trans hB0.size (hfar1 x hx).1), hB0.trans (hB.mono hB0.size)⟩
end Go.Proofs.Ytlhjligeigkbnaa.Par
