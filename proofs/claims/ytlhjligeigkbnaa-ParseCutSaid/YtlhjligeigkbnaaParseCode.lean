/- What parse's calls answer. -/
import Derived.Test.YtlhjligeigkbnaaParseMark
set_option linter.unusedSimpArgs false
set_option linter.unusedVariables false
namespace Go.Proofs.Ytlhjligeigkbnaa.Par
open Go.RowKit RU8 Frm
/-! ### Events -/
theorem vals_lt {w : World} {A : Option Addr} {n : Nat} {b : List Nat} (hv : Vals w A n b) : 0 < n → ∀ x, A = some x → x.block < w.heap.size := fun h0 x hx => by
  obtain ⟨y, hy, hcs⟩ := hv.cells h0
  rw [hx] at hy
  injection hy with hy
  subst hy
  have := World.block_lt_of_cell? _ _ (hcs 0 h0)
  rwa [block_add] at this
theorem went_kept {w W W' : World} {T : Nat} {v v' : Value} (h : Kept [T] w W) (hv : ∀ k, v.ownBlock = some k → w.heap.size ≤ k) (hw : Went T W v W' v') : Kept [T] w W' :=
  ⟨hw.1.os.trans h.os, hw.1.tape.trans h.tape, hw.1.output.trans h.output, Nat.le_trans h.size hw.1.size, fun i hi hn => (hw.1.block i (Nat.lt_of_lt_of_le hi h.size) (fun hm => by
    rcases List.mem_cons.1 hm with e | e
    · exact hn (by rw [e]; exact List.mem_cons_self)
    · have := hv i (by simpa using e)
      omega)).trans (h.block i hi hn)⟩
def ToldJ (w : World) (T : Nat) (ps : List Place) (k : Nat) (W : World) : Prop :=
  ∃ (v : Value) (nx en : Nat) (bg : Bool), ToldIs W T v (eventsL start (ps.take k)) (stAt ps k).s bg nx en ∧ Marks (stAt ps k) nx en bg ∧ Kept [T] w W
set_option maxHeartbeats 1000000 in
theorem takes_events (w : World) (T : Nat) (ps : List Place) (hps : ∀ p ∈ ps, mayT p.l = true ∧ p.seq < 256) (hrise : ∀ k, k < ps.length → lastEnd 0 (ps.take k) ≤ (ps.getD k noPlace).at_) (hlen : ps.length ≤ 2000) (hT : T + 1 = w.heap.size) :
    Takes 24 #[.pointer (some ⟨T, 0, none⟩)] true ps (ToldJ w T ps) := by
  intro k W0 W q hk hJ hB hv h1 h2 h3 hfar
  show Calls Try.prog 24 #[_, _, _, .pointer (some ⟨T, 0, none⟩)] W _
  obtain ⟨v, nx, en, bg, hTo, hM, hK⟩ := hJ
  have hpl := hps _ (getD_mem ps noPlace k hk)
  have hr := hrise k hk
  rw [← st_pend ps k (by omega)] at hr
  obtain ⟨hev, hst⟩ := evs_room ps hps k
  have hstep := st_step ps k hk
  have hevs := ev_step ps k hk
  have hmn := marks_next hM (ps.getD k noPlace) hr
  have hme := marks_evs hM (ps.getD k noPlace) hr
  have hmo := marks_order hM (ps.getD k noPlace).seq
  rw [← hstep] at hmn
  have hTl := hTo.has.lt
  have hTW : ToldIs (W.alloc (.cells #[.int .u8 ((ps.getD k noPlace).seq : Nat), .slice q.A q.n q.c] 34)) T v (eventsL start (ps.take k)) (stAt ps k).s bg nx en := hTo.kept ((Kept.of_below hB).alloc _)
  have hKW : Kept [T] w (W.alloc (.cells #[.int .u8 ((ps.getD k noPlace).seq : Nat), .slice q.A q.n q.c] 34)) := (hK.trans (Kept.of_below hB)).alloc _
  have htk := take_any T v (eventsL start (ps.take k)) (stAt ps k).s nx en bg (ps.getD k noPlace).at_ (ps.getD k noPlace).end_ (ps.getD k noPlace).seq q.A q.n q.c (ps.getD k noPlace).l _ hTW (hv.alloc _) h3 h1 h2 (fun x hx => by
    have h9 := hfar x hx
    refine ⟨by omega, fun e => ?_⟩
    have := (own_block hTo.own x.block e.symm).2
    omega) hpl.2 (by omega) (by omega)
  have hsz : w.heap.size ≤ W.heap.size := Nat.le_trans hK.size hB.size
  have hown := own_block hTo.own
  have hin := fun h => (evs_in (st := stAt ps k) (p := ps.getD k noPlace) h).2
  have hout := fun h => evs_out (st := stAt ps k) (p := ps.getD k noPlace) h
  have HALL := Lib.hid (And.intro hmn (And.intro hme (And.intro hmo (And.intro hstep (And.intro hevs (And.intro hin hout))))))
  have HOWN := Lib.hid hown
  have HK := Lib.hid hk
  clear hmn hme hmo hstep hevs hin hout hps hrise hown hv hfar hTo
  generalize (ps.getD k noPlace).seq = sq at *
  generalize (ps.getD k noPlace).at_ = at_ at *
  generalize (ps.getD k noPlace).end_ = to at *
  obtain ⟨qA, qn, qc⟩ := q
  dsimp only at *
  go_enter Try.func24, Try.ntmps24
  go_wp2_with (go_at_call 25; ((with_reducible refine htk.mono ?_); rintro e W1 ⟨rfl, v3, hT3, hW3⟩))
  go_ret
  obtain ⟨hmn, hme, hmo, hstep, hevs, hin, hout⟩ := HALL.out
  have hKn := went_kept hKW (fun i hi => by have := (HOWN.out i hi).1; omega) hW3
  refine ⟨rfl, v3, (sq + 1) % 256, _, true, ?_, hmn, hKn⟩
  rw [hmo] at hT3
  cases hi : inOrder (stAt ps k).prev sq with
  | true =>
    rw [hi, if_pos rfl, List.append_assoc, ← hme hi, ← hevs] at hT3
    rw [if_pos rfl]
    rw [hstep, hin hi]
    exact hT3
  | false =>
    rw [hi] at hT3
    rw [hstep, (hout hi).2, hevs, (hout hi).1, List.append_nil]
    exact hT3
theorem told_below {w : World} {T : Nat} {ps : List Place} {k : Nat} {W W' : World} (h : ToldJ w T ps k W) (hB : Below W.heap.size W W') : ToldJ w T ps k W' := by
  obtain ⟨v, nx, en, bg, h1, h2, h3⟩ := h
  exact ⟨v, nx, en, bg, h1.kept (Kept.of_below hB), h2, h3.trans (Kept.of_below hB)⟩
theorem events_any (A : Option Addr) (n c : Nat) (b : List Nat) (w : World) (hv : Vals w A n b) (hb : Bytes b) (hn : n ≤ 2000) (hc : n ≤ c) (hc2 : c ≤ 9223372036854775807) :
    Calls Try.prog 13 #[.slice A n c] w (EventsIs w b) := by
  have hlen := hv.len_
  have hmany := walk_many 0 b
  have hmay := walk_may 0 b hb
  have hrise := walk_rise 0 b hb 0 (Nat.le_refl _)
  have hlt := vals_lt hv
  have hw1 : w.heap.size + 1 = (w.alloc (.cells #[.slice none 0 0, .int .i64 0, .bool false, .int .u8 0, .int .i64 0] 63)).heap.size := by simp
  have hT0 : ToldIs (w.alloc (.cells #[.slice none 0 0, .int .i64 0, .bool false, .int .u8 0, .int .i64 0] 63)) w.heap.size (.slice none 0 0) [] 0 false 0 0 := ⟨Has.new _ _ _, Row.own_none (S := evSh) _ _ _⟩
  have hwk := walk_any 24 (enters_of Try.func24 (by kernel_rfl) rfl) #[.pointer (some ⟨w.heap.size, 0, none⟩)] true [w.heap.size] (ToldJ (w.alloc (.cells #[.slice none 0 0, .int .i64 0, .bool false, .int .u8 0, .int .i64 0] 63)) w.heap.size (walkP 0 b)) A n c b
    (w.alloc (.cells #[.slice none 0 0, .int .i64 0, .bool false, .int .u8 0, .int .i64 0] 63)) (hv.alloc _) hb hn hc hc2 (fun h0 x hx hm => by have := hlt h0 x hx; rw [List.mem_singleton.1 hm] at this; omega)
    (fun k W h => by obtain ⟨v, nx, en, bg, h1, h2, h3⟩ := h; exact h3) (fun k W W' h hB => told_below h hB) (takes_events _ _ _ hmay hrise (by omega) hw1) ⟨_, 0, 0, false, hT0, marks_start 0, Kept.refl _ _⟩
  have hfew := (events_few start (walkP 0 b) (fun p hp => (may_len (hmay p hp).1).2)).1
  unfold Walked at hwk
  unfold EventsIs eventsT
  generalize endT b = E at *
  generalize walkP 0 b = ps at *
  have HF := Lib.hid (show (eventsL start ps).length ≤ 100000 by omega)
  clear hv hb hmany hmay hrise hlt hw1 hT0 hfew
  go_enter Try.func13, Try.ntmps13
  go_wp2_with (go_at_call 20; ((with_reducible refine hwk.mono ?_); rintro e W1 ⟨k, z, rfl, ⟨v, nx, en, bg, h1, h2, h3⟩, h4, h5⟩; obtain ⟨rfl, rfl⟩ := h4 rfl; have c0 := h1.has.cell 0))
  go_ret2
  rw [List.take_of_length_le (Nat.le_refl _)] at h1
  obtain ⟨A1, c1, rfl, e1, e2, hV1, hfar1, hob⟩ := Row.Vals.own h1.own
  exact ⟨A1, _, c1, rfl, e1, e2, HF.out, hV1, (fun x hx => by have := (hfar1 x hx).1; omega), below_kept ((Below.refl w.heap.size w).alloc (Nat.le_refl _) _) h3 (by simp) (fun i hi => by rw [List.mem_singleton.1 hi]; exact Nat.le_refl _)⟩
/-! ### Frames -/
theorem fvs_snoc (ps : List Place) (qs : List Ptr) (h : qs.length = ps.length) (p : Place) (q : Ptr) : fvs (ps ++ [p]) (qs ++ [q]) = fvs ps qs ++ [(p.seq, q)] := by
  unfold fvs
  rw [List.zipWith_append h.symm]
  rfl
def FramesJ (w : World) (T : Nat) (ps : List Place) (k : Nat) (W : World) : Prop :=
  ∃ (v : Value) (qs : List Ptr), Has W T 24 #[v] ∧ W.ownsRow (T + 1) 34 2 v k (Row.flat frameS (fvs (ps.take k) qs)) ∧ Held W (T + 1) v.ownBlock qs ((ps.take k).map (·.l)) ∧ Kept [T] w W
theorem frames_below {w : World} {T : Nat} {ps : List Place} {k : Nat} {W W' : World} (h : FramesJ w T ps k W) (hB : Below W.heap.size W W') : FramesJ w T ps k W' := by
  obtain ⟨v, qs, h1, h2, h3, h4⟩ := h
  have hk := Kept.of_below (S := []) hB
  exact ⟨v, qs, hk.has h1 (by simp), own_kept h2 hk (by simp), h3.below hB, h4.trans (Kept.of_below hB)⟩
set_option maxHeartbeats 1000000 in
theorem takes_frames (w : World) (T : Nat) (ps : List Place) (hps : ∀ p ∈ ps, mayT p.l = true ∧ p.seq < 256) (hlen : ps.length ≤ 2000) (hT : T + 1 = w.heap.size) :
    Takes 21 #[.pointer (some ⟨T, 0, none⟩)] true ps (FramesJ w T ps) := by
  intro k W0 W q hk hJ hB hv h1 h2 h3 hfar
  show Calls Try.prog 21 #[_, _, _, .pointer (some ⟨T, 0, none⟩)] W _
  have hInfo : (Try.prog.info? 34).map (fun i => (i.zero, i.size, i.bytes)) = some (some (.agg #[.int .u8 0, .slice none 0 0]), 2, 32) := by kernel_rfl
  have HInfo := Lib.hid hInfo
  obtain ⟨v, qs, g1, g2, g3, g4⟩ := hJ
  have hkb := Kept.of_below (S := []) hB
  have hF := hkb.has g1 (by simp)
  have hO := own_kept g2 hkb (by simp)
  have hH := g3.below hB
  have hK : Kept [T] w W := g4.trans (Kept.of_below hB)
  have hm : 1 ≤ (ps.getD k noPlace).l.length := (may_len (hps _ (getD_mem ps noPlace k hk)).1).1
  have hJO : ∀ x, q.A = some x → T + 1 ≤ x.block ∧ some x.block ≠ v.ownBlock := fun x hx => by
    have h9 := hfar x hx
    have hT9 := g1.lt
    refine ⟨by omega, fun e => ?_⟩
    have := (own_block g2 x.block e.symm).2
    omega
  have hql : qs.length = (ps.take k).length := by rw [hH.len, List.length_map]
  have hst := fvs_snoc (ps.take k) qs hql (ps.getD k noPlace) q
  rw [← take_step ps noPlace k hk] at hst
  have HST := Lib.hid hst
  have hTl := hF.lt
  have hhh := hv.len_
  clear hInfo hps hst g1 g2 g3 g4
  generalize (ps.getD k noPlace).seq = sq at *
  generalize (ps.getD k noPlace).at_ = at_ at *
  generalize (ps.getD k noPlace).end_ = to at *
  obtain ⟨qA, qn, qc⟩ := q
  dsimp only at *
  have hB1 := (Kept.refl [] W).alloc (.cells #[.int .u8 (sq : Nat), .slice qA qn qc] 34)
  have hB2 := hB1.alloc (.cells #[.int .u8 (sq : Nat), .slice qA qn qc] 34)
  have hF1 := hB1.has hF (by simp)
  have hF2 := hB2.has hF (by simp)
  have hO2 := own_kept hO hB2 (by simp)
  have hVn : Row.Vals frameS ((W.alloc (.cells #[.int .u8 (sq : Nat), .slice qA qn qc] 34)).alloc (.cells #[.int .u8 (sq : Nat), .slice qA qn qc] 34)) (some ⟨W.heap.size + 1, 0, none⟩) 1 [(sq, ⟨qA, qn, qc⟩)] := by
    have := Row.Vals.has (S := frameS) (ys := [(sq, (⟨qA, qn, qc⟩ : Ptr))]) (tl := []) (Has.new (W.alloc (.cells #[.int .u8 (sq : Nat), .slice qA qn qc] 34)) 34 #[.int .u8 (sq : Nat), .slice qA qn qc])
    simpa using this
  have l1 : (W.alloc (.cells #[.int .u8 (sq : Nat), .slice qA qn qc] 34)).cell? ⟨T, 0, none⟩ = some v := hF1.cell 0
  have l2 : ((W.alloc (.cells #[.int .u8 (sq : Nat), .slice qA qn qc] 34)).alloc (.cells #[.int .u8 (sq : Nat), .slice qA qn qc] 34)).cell? ⟨T, 0, none⟩ = some v := hF2.cell 0
  have hBase : T + 1 ≤ ((W.alloc (.cells #[.int .u8 (sq : Nat), .slice qA qn qc] 34)).alloc (.cells #[.int .u8 (sq : Nat), .slice qA qn qc] 34)).heap.size := by simp; omega
  go_enter Try.func21, Try.ntmps21
  go_wp2_with (at_builtin; refine Row.wpList_append (S := frameS) rfl (.tmp 8) (.tmp 10) _ rfl (T + 1) 34 _ 32 (by omega) Try.underlying24 HInfo.out (by kernel_rfl) v k (fvs (ps.take k) qs) rfl (by exact hO2) _ 1 1 [(sq, ⟨qA, qn, qc⟩)] rfl (by exact hVn) (by omega) (by exact hBase) ?_; intro v9 W3 hO1 hg1 hat1; rw [← HST.out] at hO1; obtain ⟨A9, d9, rfl, e9, e8, _⟩ := Row.Vals.own hO1; have hF3 := (Kept.of_grown hg1).has hF2 (own_apart hO2 (by omega)); have t1 := hF3.cell 0; have t2 := hF3.frozen 0)
  go_ret
  have hH2 := ((hH.kept hB2 (by simp)).snoc (q := ⟨qA, qn, qc⟩) (l := (ps.getD k noPlace).l) ((hv.alloc _).alloc _) ⟨h1, h2, h3⟩ (fun x hx => by
    have hx' : qA = some x := hx
    obtain ⟨h8, h9⟩ := hJO x hx'
    subst hx'
    exact ⟨h8, Nat.lt_of_lt_of_le (vals_block hv (by omega)) hB2.size, h9⟩)).grown hg1 hat1
  have hks := (Kept.refl [T] W3).setCell (p := ⟨T, 0, none⟩) (.inl (by simp)) (.slice A9 (k + 1) d9)
  refine ⟨rfl, .slice A9 (k + 1) d9, qs ++ [⟨qA, qn, qc⟩], by have := hF3.set_ 0 (.slice A9 (k + 1) d9); simpa using this, own_kept hO1 hks (by simp), ?_, ?_⟩
  · rw [take_step ps noPlace k hk, List.map_append]
    exact hH2.kept hks (fun i hi => .inr (by rw [List.mem_singleton.1 hi]; omega))
  · exact ((hK.trans (hB2.wide (fun i hi => by cases hi))).grown hg1 (fun i hi => .inr (by have := (own_block hO i hi).1; omega))).setCell (p := ⟨T, 0, none⟩) (.inl (by simp)) _
theorem frames_any (A : Option Addr) (n c : Nat) (b : List Nat) (w : World) (hv : Vals w A n b) (hb : Bytes b) (hn : n ≤ 2000) (hc : n ≤ c) (hc2 : c ≤ 9223372036854775807) :
    Calls Try.prog 9 #[.slice A n c] w (FramesIs w b) := by
  have hlen := hv.len_
  have hmany := walk_many 0 b
  have hmay := walk_may 0 b hb
  have hlt := vals_lt hv
  have hw1 : w.heap.size + 1 = (w.alloc (.cells #[.slice none 0 0] 24)).heap.size := by simp
  have hwk := walk_any 21 (enters_of Try.func21 (by kernel_rfl) rfl) #[.pointer (some ⟨w.heap.size, 0, none⟩)] true [w.heap.size] (FramesJ (w.alloc (.cells #[.slice none 0 0] 24)) w.heap.size (walkP 0 b)) A n c b
    (w.alloc (.cells #[.slice none 0 0] 24)) (hv.alloc _) hb hn hc hc2 (fun h0 x hx hm => by have := hlt h0 x hx; rw [List.mem_singleton.1 hm] at this; omega)
    (fun k W h => by obtain ⟨v, qs, h1, h2, h3, h4⟩ := h; exact h4) (fun k W W' h hB => frames_below h hB) (takes_frames _ _ _ hmay (by omega) hw1) ⟨_, [], Has.new _ _ _, Row.own_none (S := frameS) _ _ _, Held.none_ _ _ _, Kept.refl _ _⟩
  unfold Walked at hwk
  unfold FramesIs
  generalize endT b = E at *
  generalize walkP 0 b = ps at *
  have HM := Lib.hid hmany
  clear hv hb hmany hmay hlt hw1
  go_enter Try.func9, Try.ntmps9
  go_wp2_with (go_at_call 20; ((with_reducible refine hwk.mono ?_); rintro e W1 ⟨k, z, rfl, ⟨v, qs, h1, h2, h3, h4⟩, h5, h6⟩; obtain ⟨rfl, rfl⟩ := h5 rfl; have c0 := h1.cell 0))
  go_ret2
  rw [List.take_of_length_le (Nat.le_refl _)] at h2 h3
  obtain ⟨A1, c1, rfl, e1, e2, hV1, hfar1, hob⟩ := Row.Vals.own h2
  exact ⟨A1, _, c1, qs, rfl, e1, e2, HM.out, hV1, (h3.free).wide (by omega), (fun x hx => by have := (hfar1 x hx).1; omega), below_kept ((Below.refl w.heap.size w).alloc (Nat.le_refl _) _) h4 (by simp) (fun i hi => by rw [List.mem_singleton.1 hi]; exact Nat.le_refl _)⟩
/-! ### First -/
def FirstJ (w : World) (T : Nat) (ps : List Place) (k : Nat) (W : World) : Prop :=
  Has W T 3 #[.int .i64 ((if k = 0 then 0 else (ps.getD (k - 1) noPlace).at_ : Nat) : Int)] ∧ Has W (T + 1) 4 #[.bool (decide (0 < k))] ∧ Kept [T, T + 1] w W
theorem first_below {w : World} {T : Nat} {ps : List Place} {k : Nat} {W W' : World} (h : FirstJ w T ps k W) (hB : Below W.heap.size W W') : FirstJ w T ps k W' := by
  obtain ⟨h1, h2, h3⟩ := h
  have hk := Kept.of_below (S := []) hB
  exact ⟨hk.has h1 (by simp), hk.has h2 (by simp), h3.trans (Kept.of_below hB)⟩
theorem takes_first (w : World) (T : Nat) (ps : List Place) :
    Takes 23 #[.pointer (some ⟨T, 0, none⟩), .pointer (some ⟨T + 1, 0, none⟩)] false ps (FirstJ w T ps) := by
  intro k W0 W q hk hJ hB hv h1 h2 h3 hfar
  show Calls Try.prog 23 #[_, _, _, .pointer (some ⟨T, 0, none⟩), .pointer (some ⟨T + 1, 0, none⟩)] W _
  obtain ⟨g1, g2, g3⟩ := first_below hJ hB
  have hka := (Kept.refl [] W).alloc (.cells #[.int .u8 ((ps.getD k noPlace).seq : Nat), .slice q.A q.n q.c] 34)
  have h1 := hka.has g1 (by simp)
  have h2 := hka.has g2 (by simp)
  have hK1 := g3.trans (hka.wide (T := [T, T + 1]) (fun i hi => by cases hi))
  have l1 := h1.cell 0
  have l2 := h2.cell 0
  have f1 := h1.frozen 0
  have f2 := h2.frozen 0
  clear g1 g2 g3 hka hJ hB hv hfar
  have HK := Lib.hid (show (if k + 1 = 0 then 0 else (ps.getD (k + 1 - 1) noPlace).at_) = (ps.getD k noPlace).at_ by rw [if_neg (by omega)]; rfl)
  generalize (ps.getD k noPlace).seq = sq at *
  generalize (ps.getD k noPlace).at_ = at_ at *
  generalize (ps.getD k noPlace).end_ = to at *
  go_enter Try.func23, Try.ntmps23
  go_wp2
  go_ret
  have hs1 := h1.set_ 0 (.int .i64 (at_ : Nat))
  have hs2 := (hs1.far (p := ⟨T + 1, 0, none⟩) (by show T ≠ T + 1; omega) (.bool true))
  have hs3 := (h2.far (p := ⟨T, 0, none⟩) (by show T + 1 ≠ T; omega) (.int .i64 (at_ : Nat))).set_ 0 (.bool true)
  refine ⟨rfl, by rw [HK.out]; simpa using hs2, ?_, ?_⟩
  · rw [decide_eq_true (Nat.succ_pos k)]; simpa using hs3
  · exact (hK1.setCell (p := ⟨T, 0, none⟩) (.inl (by simp)) _).setCell (p := ⟨T + 1, 0, none⟩) (.inl (by simp)) _
theorem first_any (A : Option Addr) (n c : Nat) (b : List Nat) (w : World) (hv : Vals w A n b) (hb : Bytes b) (hn : n ≤ 2000) (hc : n ≤ c) (hc2 : c ≤ 9223372036854775807) :
    Calls Try.prog 11 #[.slice A n c] w fun e w' => e = .returned (.tuple #[.int .i64 (firstT b : Nat), .bool (decide (0 < (walkP 0 b).length))]) ∧ Below w.heap.size w w' := by
  have hlen := hv.len_
  have hlt := vals_lt hv
  have hwk := fun (W : World) (hB : Below w.heap.size w W) (h0 : FirstJ W w.heap.size (walkP 0 b) 0 W) => walk_any 23 (enters_of Try.func23 (by kernel_rfl) rfl) #[.pointer (some ⟨w.heap.size, 0, none⟩), .pointer (some ⟨w.heap.size + 1, 0, none⟩)] false [w.heap.size, w.heap.size + 1] (FirstJ W w.heap.size (walkP 0 b)) A n c b
    W (hv.below hB) hb hn hc hc2 (fun h1 x hx hm => by
      have := hlt h1 x hx
      simp at hm
      omega) (fun k W' h => h.2.2) (fun k W1 W2 h hB => first_below h hB) (takes_first _ _ _) h0
  unfold Walked at hwk
  unfold firstT
  generalize endT b = E at *
  generalize walkP 0 b = ps at *
  have hh := Has.new w 3 #[.int .i64 0]
  have hh2 := Has.new (w.alloc (.cells #[.int .i64 0] 3)) 4 #[.bool false]
  rw [show (w.alloc (.cells #[.int .i64 0] 3)).heap.size = w.heap.size + 1 by simp] at hh2
  have hwk2 := hwk _ (((Below.refl w.heap.size w).alloc (Nat.le_refl _) (.cells #[.int .i64 0] 3)).alloc (by simp) (.cells #[.bool false] 4)) ⟨hh.alloc _, hh2, Kept.refl _ _⟩
  have hB0 := ((Below.refl w.heap.size w).alloc (Nat.le_refl _) (.cells #[.int .i64 0] 3)).alloc (by simp) (.cells #[.bool false] 4)
  have hat : (if min 1 ps.length = 0 then 0 else (ps.getD (min 1 ps.length - 1) noPlace).at_) = (ps.getD 0 noPlace).at_ := by
    cases ps with
    | nil => rfl
    | cons p ps =>
      rw [show min 1 (p :: ps).length = 1 by rw [List.length_cons]; omega]
      rfl
  have hyes : decide (0 < min 1 ps.length) = decide (0 < ps.length) := by rw [Bool.eq_iff_iff]; simp; omega
  have hfin : ∀ k W1, FirstJ ((w.alloc (.cells #[.int .i64 0] 3)).alloc (.cells #[.bool false] 4)) w.heap.size ps k W1 → k = min 1 ps.length → W1.cell? ⟨w.heap.size, 0, none⟩ = some (.int .i64 ((ps.getD 0 noPlace).at_ : Nat)) ∧ W1.cell? ⟨w.heap.size + 1, 0, none⟩ = some (.bool (decide (0 < ps.length))) ∧ Below w.heap.size w W1 := fun k W1 h hk => by
    obtain ⟨g1, g2, g3⟩ := h
    subst hk
    rw [hat] at g1
    rw [hyes] at g2
    exact ⟨g1.cell 0, g2.cell 0, below_kept hB0 g3 (by simp; omega) (fun i hi => by simp at hi; omega)⟩
  clear hv hb hlt hwk hat hyes hB0 hh hh2
  generalize (ps.getD 0 noPlace).at_ = at0 at *
  generalize decide (0 < ps.length) = yes at *
  have HFIN := Lib.hid hfin
  clear hfin
  go_enter Try.func11, Try.ntmps11
  go_wp2_with (go_at_call 20; ((with_reducible refine hwk2.mono ?_); rintro e W1 ⟨k, z, rfl, h1, h5, h6⟩; obtain ⟨c0, c1, hB1⟩ := HFIN.out k W1 h1 (h6 rfl)))
  clear hwk2 h1
  go_quiet (fail)
  go_wp2
  go_ret2
  exact ⟨rfl, below_drewN hB1 nq⟩
end Go.Proofs.Ytlhjligeigkbnaa.Par
