/- What the proofs stand on, part 4. -/
import Derived.Test.YtfimgkomfnfjkaaPack2
import Derived.Test.YtfimgkomfnfjkaaPack3
import Derived.Test.YtfimgkomfnfjkaaPack1
import Derived.Lib.Hide
import Derived.Laws.BitsLemmas
section
/- Where a decoder stands behind so many bytes, and behind each frame of what comes, reckoned. Nothing here speaks of a program. -/
set_option linter.unusedSimpArgs false
set_option linter.unusedVariables false
namespace Go.Proofs.Ytfimgkomfnfjkaa.Par
open Go.RowKit RU8 Frm
theorem countL_append (k : Nat) (l m : List Ev) : countL k (l ++ m) = countL k l + countL k m := by
  unfold countL; rw [List.filter_append, List.length_append]
theorem countL_nil (k : Nat) : countL k [] = 0 := rfl
theorem countL_cons (k : Nat) (e : Ev) (l : List Ev) : countL k (e :: l) = (if e.1 = k then 1 else 0) + countL k l := by
  rw [show e :: l = [e] ++ l from rfl, countL_append]
  congr 1
  rw [show [e] = [] ++ [e] from rfl, countL_snoc, countL_nil, Nat.zero_add]
theorem count_evS (s : Nat) (l : List Samp) : countL 2 (evS s l) = l.length ∧ countL 1 (evS s l) = 0 := by
  induction l generalizing s with
  | nil => exact ⟨rfl, rfl⟩
  | cons x l ih =>
    rw [evS, countL_cons, countL_cons, (ih (s + 1)).1, (ih (s + 1)).2, List.length_cons]
    exact ⟨by simp; omega, by simp⟩
theorem evs_count (st : St) (p : Place) : (st.next p).s = st.s + countL 2 (st.evs p) := by
  cases h : inOrder st.prev p.seq with
  | true =>
    rw [(evs_in h).1, (evs_in h).2, countL_append, (count_evS _ _).1]
    have : countL 2 (if (st.gap || decide (p.at_ ≠ st.pend)) then [(1, st.s, (0, false))] else []) = 0 := by split <;> rfl
    rw [this]
    show st.s + p.l.length = _
    omega
  | false => rw [(evs_out h).1, (evs_out h).2]; rfl
theorem s_count (st : St) (ps : List Place) : (afterL st ps).s = st.s + countL 2 (eventsL st ps) := by
  induction ps generalizing st with
  | nil => rfl
  | cons p ps ih => rw [afterL, eventsL, ih, evs_count, countL_append]; omega
/-- Where the events stand behind these bytes. -/
def stT (b : List Nat) : St := afterL start (walkP 0 b)
theorem pend_le (o : Nat) (b : List Nat) (hb : Bytes b) : ∀ st : St, st.pend ≤ o → (afterL st (walkP o b)).pend ≤ endP o b := by
  induction o, b using walk_ind with
  | hend o b h => rw [(walk_end o h).1, (walk_end o h).2]; exact fun st h => h
  | hbad o b h6 h0 ih => rw [(walk_bad o h6 h0).1, (walk_bad o h6 h0).2]; exact fun st h => ih (bytes_drop hb 1) st (by omega)
  | hgood o b h0 ih =>
    have hs := (look_size hb h0).1
    have ih := ih (bytes_drop hb _)
    rw [(walk_good o h0).1, (walk_good o h0).2]
    generalize lookSeq b = q at *
    generalize lookL b = l at *
    generalize lookN b = N at *
    intro st h
    refine ih _ ?_
    rw [(next_pend _ _).1]
    show o + (6 + 3 * l.length) ≤ o + N
    omega
/-- The first frame of a walk. -/
theorem walk_head (o : Nat) (b : List Nat) : Bytes b → 0 < (walkP o b).length → ∃ a, lookE (b.drop a) = 0 ∧ a + lookN (b.drop a) ≤ b.length ∧
    walkP o b = ⟨o + a, lookSeq (b.drop a), lookL (b.drop a)⟩ :: walkP (o + a + lookN (b.drop a)) (b.drop (a + lookN (b.drop a))) ∧ endP o b = endP (o + a + lookN (b.drop a)) (b.drop (a + lookN (b.drop a))) := by
  induction o, b using walk_ind with
  | hend o b h => rw [(walk_end o h).1]; intro _ h; simp at h
  | hbad o b h6 h0 ih =>
    rw [(walk_bad o h6 h0).1, (walk_bad o h6 h0).2]
    intro hb hl
    obtain ⟨a, h1, h2, h3, h4⟩ := ih (bytes_drop hb 1) hl
    have hn := ne_nil h6
    have e : (b.drop 1).drop a = b.drop (1 + a) := List.drop_drop
    rw [e] at h1 h2 h3 h4
    rw [List.drop_drop, List.length_drop] at *
    refine ⟨1 + a, h1, by omega, ?_, ?_⟩
    · rw [h3, show o + 1 + a = o + (1 + a) by omega, show 1 + (a + lookN (b.drop (1 + a))) = 1 + a + lookN (b.drop (1 + a)) by omega]
    · rw [h4, show o + 1 + a = o + (1 + a) by omega, show 1 + (a + lookN (b.drop (1 + a))) = 1 + a + lookN (b.drop (1 + a)) by omega]
  | hgood o b h0 ih =>
    intro hb _
    refine ⟨0, by rw [List.drop_zero]; exact h0, by rw [List.drop_zero, Nat.zero_add]; exact (look_size hb h0).2.1, ?_, ?_⟩
    · rw [(walk_good o h0).1, List.drop_zero, Nat.add_zero, Nat.zero_add]
    · rw [(walk_good o h0).2, List.drop_zero, Nat.add_zero, Nat.zero_add]
theorem walk_first (b : List Nat) (hb : Bytes b) (h : 0 < (walkP 0 b).length) : lookE (b.drop (firstT b)) = 0 ∧ firstT b + lookN (b.drop (firstT b)) ≤ b.length ∧
    walkP 0 b = ⟨firstT b, lookSeq (b.drop (firstT b)), lookL (b.drop (firstT b))⟩ :: walkP (firstT b + lookN (b.drop (firstT b))) (b.drop (firstT b + lookN (b.drop (firstT b)))) ∧
    endT b = endP (firstT b + lookN (b.drop (firstT b))) (b.drop (firstT b + lookN (b.drop (firstT b)))) := by
  obtain ⟨a, h1, h2, h3, h4⟩ := walk_head 0 b hb h
  have e : firstT b = a := by unfold firstT; rw [h3]; show 0 + a = a; omega
  rw [Nat.zero_add] at h3 h4
  rw [e]
  exact ⟨h1, h2, h3, h4⟩
/-- What a decoder walks when bytes come. -/
def rowT (all ys : List Nat) : List Nat := all.drop (endT all) ++ ys
theorem row_len (all ys : List Nat) : (rowT all ys).length = waitT all + ys.length := by unfold rowT waitT; rw [List.length_append, List.length_drop]
/-- Where the decoder stands with o bytes of them behind it. -/
structure Mid (all ys : List Nat) (o : Nat) (st : St) (es : List Ev) : Prop where
  le : o ≤ (rowT all ys).length
  walk : ∃ ps, walkP 0 (all ++ ys) = ps ++ walkP (endT all + o) ((rowT all ys).drop o) ∧ afterL start ps = st ∧ eventsL start ps = eventsT all ++ es
  end_ : endT (all ++ ys) = endP (endT all + o) ((rowT all ys).drop o)
  pend : st.pend ≤ endT all + o
theorem mid_start (all ys : List Nat) (hb : Bytes all) : Mid all ys 0 (stT all) [] := by
  obtain ⟨h1, h2⟩ := walk_cut 0 all hb ys
  have hle := end_len all hb
  have e : (all ++ ys).drop (endT all - 0) = rowT all ys := by rw [Nat.sub_zero, List.drop_append_of_le_length hle]; rfl
  refine ⟨Nat.zero_le _, ⟨walkP 0 all, ?_, rfl, by rw [List.append_nil]; rfl⟩, ?_, ?_⟩
  · rw [List.drop_zero, Nat.add_zero, ← e]; exact h1
  · rw [List.drop_zero, Nat.add_zero, ← e]; exact h2
  · rw [Nat.add_zero]; exact pend_le 0 all hb start (Nat.le_refl _)
theorem mid_step {all ys : List Nat} {o : Nat} {st : St} {es : List Ev} (h : Mid all ys o st es) (hb : Bytes (rowT all ys)) {r f : List Nat} {a : Nat} (hr : (rowT all ys).drop o = r) (hl : 0 < (walkP 0 r).length) (ha : firstT r = a) (hf : r.drop a = f) :
    lookE f = 0 ∧ a + lookN f ≤ r.length ∧ o + (a + lookN f) ≤ (rowT all ys).length ∧ (rowT all ys).drop (o + (a + lookN f)) = f.drop (lookN f) ∧
      Mid all ys (o + (a + lookN f)) (st.next ⟨endT all + o + a, lookSeq f, lookL f⟩) (es ++ st.evs ⟨endT all + o + a, lookSeq f, lookL f⟩) := by
  subst hr ha hf
  have hbr := bytes_drop hb o
  obtain ⟨h1, h2, h3, h4⟩ := walk_first _ hbr hl
  generalize hr : (rowT all ys).drop o = r at *
  have hrl : r.length = (rowT all ys).length - o := by rw [← hr, List.length_drop]
  have hle := h.le
  generalize hf : r.drop (firstT r) = f at *
  generalize firstT r = a at *
  have hd : (rowT all ys).drop (o + (a + lookN f)) = f.drop (lookN f) := by rw [← List.drop_drop, hr, ← List.drop_drop, hf]
  have hd2 : r.drop (a + lookN f) = f.drop (lookN f) := by rw [← List.drop_drop, hf]
  refine ⟨h1, h2, by omega, hd, by omega, ?_, ?_, ?_⟩
  · obtain ⟨ps, g1, g2, g3⟩ := h.walk
    refine ⟨ps ++ [⟨endT all + o + a, lookSeq f, lookL f⟩], ?_, ?_, ?_⟩
    · have hs := (walk_shift 0 r (endT all + o)).1
      rw [Nat.zero_add] at hs
      have hs2 := (walk_shift (a + lookN f) (r.drop (a + lookN f)) (endT all + o)).1
      rw [g1, hr, hs, h3, List.map_cons, ← hs2, hd, hd2, List.append_assoc]
      have e1 : (⟨a, lookSeq f, lookL f⟩ : Place).shift (endT all + o) = ⟨endT all + o + a, lookSeq f, lookL f⟩ := by
        unfold Place.shift
        rw [show a + (endT all + o) = endT all + o + a by omega]
      rw [e1, show a + lookN f + (endT all + o) = endT all + (o + (a + lookN f)) by omega]
      rfl
    · rw [after_append, g2]; rfl
    · rw [events_append, g3, g2, List.append_assoc]
      simp only [eventsL, List.append_nil]
  · have hs := (walk_shift 0 r (endT all + o)).2
    rw [Nat.zero_add] at hs
    have hs2 := (walk_shift (a + lookN f) (r.drop (a + lookN f)) (endT all + o)).2
    rw [h.end_, hr, hs, show endP 0 r = endT r from rfl, h4, ← hs2, hd, hd2, show a + lookN f + (endT all + o) = endT all + (o + (a + lookN f)) by omega]
  · have hz := (look_size (by rw [← hf]; exact bytes_drop hbr _) h1).1
    rw [(next_pend _ _).1]
    clear h1 h2 h3 h4 hd hd2
    generalize lookSeq f = q at *
    generalize lookL f = l at *
    generalize lookN f = N at *
    show endT all + o + a + (6 + 3 * l.length) ≤ _
    omega
theorem mid_end {all ys : List Nat} {o : Nat} {st : St} {es : List Ev} (h : Mid all ys o st es) (hb : Bytes (rowT all ys)) (ha : Bytes (all ++ ys)) {r : List Nat} (hr : (rowT all ys).drop o = r) (hl : (walkP 0 r).length = 0) :
    behindT all ys = es ∧ stT (all ++ ys) = st ∧ endT (all ++ ys) = endT all + o + endT r ∧ r.drop (endT r) = (all ++ ys).drop (endT (all ++ ys)) ∧ endT r ≤ r.length := by
  subst hr
  have hbr := bytes_drop hb o
  have hle := h.le
  have hle1 := end_len _ hbr
  have hle2 := end_len all (fun y hy => ha y (List.mem_append.2 (.inl hy)))
  have h0 : walkP 0 ((rowT all ys).drop o) = [] := List.eq_nil_of_length_eq_zero hl
  have hs := walk_shift 0 ((rowT all ys).drop o) (endT all + o)
  rw [Nat.zero_add, h0, List.map_nil] at hs
  obtain ⟨ps, g1, g2, g3⟩ := h.walk
  rw [hs.1, List.append_nil] at g1
  have he : endT (all ++ ys) = endT all + o + endT ((rowT all ys).drop o) := by rw [h.end_, hs.2, Nat.add_comm]; rfl
  refine ⟨?_, by unfold stT; rw [g1, g2], he, ?_, hle1⟩
  · unfold behindT
    rw [show eventsT (all ++ ys) = eventsT all ++ es by rw [← g3]; unfold eventsT; rw [g1], List.drop_left' rfl]
  · have e : (all ++ ys).drop (endT all) = rowT all ys := by rw [List.drop_append_of_le_length hle2]; rfl
    rw [he, show endT all + o + endT ((rowT all ys).drop o) = endT all + (o + endT ((rowT all ys).drop o)) by omega, ← List.drop_drop, e, List.drop_drop]
/-! ### The flag, and the order -/
/-- Is there garbage, or a frame out of order, since the last frame in order? -/
def brk (E : Nat) (st : St) : Bool := st.gap || decide (E ≠ st.pend)
theorem brk_skip {E : Nat} {st : St} (h : st.pend ≤ E) (a : Nat) : (brk E st || decide (0 < a)) = brk (E + a) st := by
  unfold brk
  cases st.gap with
  | true => rfl
  | false =>
    rw [Bool.false_or, Bool.false_or, Bool.eq_iff_iff]
    simp
    omega
theorem brk_in {st : St} {p : Place} (h : inOrder st.prev p.seq = true) {E : Nat} (hE : E = p.end_) : brk E (st.next p) = false := by
  rw [(evs_in h).2, hE]
  unfold brk
  simp
theorem brk_out {st : St} {p : Place} (h : inOrder st.prev p.seq = false) (E : Nat) : brk E (st.next p) = true := by
  rw [(evs_out h).2]; rfl
/-- Is a frame with this number in order, as the decoder has it? -/
def dIn (bg : Bool) (last q : Nat) : Bool := !bg || decide (q = (last + 1) % 256)
/-- The decoder's numbers stand for this. -/
structure Stands (st : St) (bg : Bool) (last : Nat) : Prop where
  bg_ : bg = st.prev.isSome
  last_ : ∀ p, st.prev = some p → last = p
  byte_ : last < 256
theorem Stands.order {st : St} {bg : Bool} {last : Nat} (h : Stands st bg last) (q : Nat) : dIn bg last q = inOrder st.prev q := by
  obtain ⟨pend, prev, s, gap⟩ := st
  have h1 := h.bg_
  have h2 := h.last_
  cases prev with
  | none => subst h1; rfl
  | some p => subst h1; rw [h2 p rfl]; rfl
theorem Stands.next_ {st : St} {bg : Bool} {last : Nat} (h : Stands st bg last) {p : Place} (hp : p.seq < 256) : Stands (st.next p) true p.seq :=
  ⟨by rw [(next_pend _ _).2]; rfl, (fun q hq => by rw [(next_pend _ _).2] at hq; injection hq), hp⟩
/-- What a frame tells a decoder. -/
def metT (bg br : Bool) (last s q : Nat) (ls : List Samp) : List Ev := if dIn bg last q then (if br then [(1, s, (0, false))] else []) ++ evS s ls else []
theorem met_evs {st : St} {bg : Bool} {last : Nat} (h : Stands st bg last) {p : Place} : metT bg (brk p.at_ st) last st.s p.seq p.l = st.evs p := by
  unfold metT
  rw [h.order]
  cases hi : inOrder st.prev p.seq with
  | true => rw [(evs_in hi).1]; rfl
  | false => rw [(evs_out hi).1]; rfl
theorem met_count {bg br : Bool} {last s q : Nat} {ls : List Samp} : countL 1 (metT bg br last s q ls) = (if dIn bg last q && br then 1 else 0) ∧ countL 2 (metT bg br last s q ls) = (if dIn bg last q then ls.length else 0) := by
  unfold metT
  cases dIn bg last q with
  | false => exact ⟨rfl, rfl⟩
  | true =>
    rw [if_pos rfl, countL_append, countL_append, (count_evS _ _).1, (count_evS _ _).2]
    cases br with
    | false => exact ⟨rfl, by simp [countL_nil]⟩
    | true => exact ⟨rfl, by simp [countL]⟩
theorem met_len {bg br : Bool} {last s q : Nat} {ls : List Samp} : (metT bg br last s q ls).length ≤ ls.length + 1 := by
  unfold metT
  split
  · rw [List.length_append, evS_length]
    split <;> simp <;> omega
  · simp
end Go.Proofs.Ytfimgkomfnfjkaa.Par
end
section
/- slices.Chunk of bytes, three at a time, as an iterator: what it hands to the loop that ranges over it. -/
set_option linter.unusedSimpArgs false
set_option linter.unusedVariables false
namespace Go.Proofs.Ytfimgkomfnfjkaa.Chunk
open Go.RowKit Go.Shelf RU8

attribute [local go_sem] Oper.semAt_some

/-- How many chunks there are; how long the one with this number is. -/
def chunks (len : Nat) : Nat := (len + 2) / 3
def size (len k : Nat) : Nat := min 3 (len - 3 * k)
/-- The chunk with this number, as a slice. -/
def chunk (A : Option Addr) (len k : Nat) : Value := .slice (A.map (·.add (3 * k))) (size len k) (size len k)
def upto (K k : Nat) (hk : k ≤ K) : List (Fin K) := (List.finRange K).take k
theorem upto_length {K k : Nat} (hk : k ≤ K) : (upto K k hk).length = k := by simp [upto]; omega
theorem upto_succ {K k : Nat} (hk : k < K) (y : Fin K) (hy : y.1 = k) : upto K (k + 1) (by omega) = upto K k (by omega) ++ [y] := by
  obtain rfl : y = ⟨k, hk⟩ := Fin.ext hy
  unfold upto
  rw [List.take_succ_eq_append_getElem (by simpa using hk)]
  simp
set_option maxRecDepth 100000 in
set_option maxHeartbeats 2000000 in
theorem chunk1_in (n : Nat) (hn : 1 ≤ n) (l Bs Bn n₀ : Nat) (S : List Nat) (x : Addr) (len cap : Nat) (hlc : len ≤ cap) (hbig : cap ≤ 9223372036854775807) (hl : len ≤ 1000000) (hs1 : Bs < n₀) (hs2 : Bs ∉ S) (hn1 : Bn < n₀) (hn2 : Bn ∉ S) (J Jx : List (Fin (chunks len)) → World → Prop)
    (hJ : ∀ s W W', J s W → W'.heap = W.heap → W'.os = W.os → W'.tape = W.tape → W'.output = W.output → J s W')
    (hY : ∀ pre y W, J pre W → pre.length < chunks len → YieldAt Fence.wide (n - 1) Try.prog l #[chunk (some x) len y.1] W fun e W' =>
      (e = .returned (.bool true) ∧ J (pre ++ [y]) W' ∧ KeptTo n₀ S W W') ∨ (e = .returned (.bool false) ∧ Jx (pre ++ [y]) W'))
    (W : World) (hBs : W.cell? ⟨Bs, 0, none⟩ = some (.slice (some x) len cap)) (hBn : W.cell? ⟨Bn, 0, none⟩ = some (.int .i64 3)) (h0 : J [] W) :
    CallsIn Fence.wide n Try.prog 49 #[.func (.yield l) #[] #[], .pointer (some ⟨Bs, 0, none⟩), .pointer (some ⟨Bn, 0, none⟩)] W fun e W' => (∃ v, e = .returned v) ∧
      (J (List.finRange (chunks len)) W' ∨ (∃ pre, Jx pre W')) := by
  refine callsIn_of_wp Try.func49 rfl trivial ?_ rfl
  simp only [Try.ntmps49, List.size_toArray, List.length_cons, List.length_nil, Nat.reduceAdd, Nat.reduceSub, Array.replicate_succ, Array.replicate_zero, List.push_toArray, List.append_toArray, List.nil_append, List.cons_append]
  gi_wp2
  gi_loopw [4] (fun i wr => ∃ (k j : Nat), ∃ hk : k ≤ chunks len, j = 3 * k ∧ i = .int .i64 j ∧ J (upto (chunks len) k hk) wr ∧ KeptTo n₀ S W wr)
    (fun i _ => len + 3 - (intOf i).toNat)
  case atStart => exact ⟨0, 0, Nat.zero_le _, rfl, rfl, h0, KeptTo.refl _ _ _⟩
  case round =>
    obtain ⟨k, j, hk, hj, rfl, hJs, hnx⟩ := hrel
    have hcs := (hnx.cell (p := ⟨Bs, 0, none⟩) hs1 hs2).trans hBs
    have hcn := (hnx.cell (p := ⟨Bn, 0, none⟩) hn1 hn2).trans hBn
    by_cases hlt : k < chunks len
    · have hjl : j < len := by unfold chunks at hlt; omega
      obtain ⟨y0, hyk⟩ : ∃ y0 : Fin (chunks len), y0.1 = k := ⟨⟨k, hlt⟩, rfl⟩
      obtain ⟨fn, tmps, assign, body, hy, hR⟩ := hY _ y0 wr.drew (hJ _ _ _ hJs rfl rfl rfl rfl) (by rw [upto_length]; exact hlt)
      unfold chunk at hy
      rw [hyk, ← hj, Option.map_some] at hy
      obtain ⟨m, hm⟩ : ∃ m, len - j = m := ⟨_, rfl⟩
      obtain ⟨e, he⟩ : ∃ e, size len k = e := ⟨_, rfl⟩
      have he3 : (m < 3 → e = m) ∧ (3 ≤ m → e = 3) ∧ m ≤ 1000000 ∧ 0 < m := by unfold size at he; omega
      rw [he] at hy
      obtain ⟨q, hq⟩ : ∃ q, j + e = q := ⟨_, rfl⟩
      have hje : (j : Int) + (e : Int) = (q : Int) := by omega
      have hcj : ¬ cap = j := by omega
      obtain ⟨j3, hj3n⟩ : ∃ j3, j + 3 = j3 := ⟨_, rfl⟩
      have hj3 : (j : Int) + 3 = (j3 : Int) := by omega
      have hb2 : j ≤ len ∧ q ≤ cap ∧ j ≤ q ∧ q ≤ len ∧ j3 ≤ 1000003 := by unfold size at he; omega
      have hqe : q - j = e := by omega
      have HJ3 := Lib.hid hj3n
      have HJ := Lib.hid hj
      have HK := Lib.hid hlt
      have HYK := Lib.hid hyk
      rcases Nat.lt_or_ge m 3 with h3 | h3
      · obtain rfl : e = m := he3.1 h3
        have hmin : (e : Int) < 3 := by omega
        clear hj he he3 hq hj3n hyk hlt h3
        gi_wp2
        refine Reg.beginW Reg.wide_plain (S := fun W => W.cell? ⟨Bs, 0, none⟩ = some (.slice (some x) len cap) ∧ W.cell? ⟨Bn, 0, none⟩ = some (.int .i64 3)) (by kernel_rfl) (by kernel_rfl) ⟨hcs, hcn⟩ (fun hHeld => ?_)
        refine Reg.take (i := 0) (v := ?v1) rfl (by kernel_rfl) (by kernel_rfl) (by kernel_rfl) (by rfl) ?hv1 (by assumption) ?rest1
        case hv1 => first | (intro w hSw; (try dsimp only at hSw); go_simp; done) | (intro w hSw; (try dsimp only at hSw); go_simp; with_reducible rfl)
        (try simp only [Act.put, List.setIfInBounds_toArray, List.set_cons_zero, List.set_cons_succ])
        refine Reg.take (i := 1) (v := ?v2) rfl (by kernel_rfl) (by kernel_rfl) (by kernel_rfl) (by rfl) ?hv2 (by assumption) ?rest2
        case hv2 => first | (intro w hSw; (try dsimp only at hSw); go_simp; done) | (intro w hSw; (try dsimp only at hSw); go_simp; with_reducible rfl)
        (try simp only [Act.put, List.setIfInBounds_toArray, List.set_cons_zero, List.set_cons_succ])
        refine Reg.take (i := 2) (v := ?v3) rfl (by kernel_rfl) (by kernel_rfl) (by kernel_rfl) (by rfl) ?hv3 (by assumption) ?rest3
        case hv3 => first | (intro w hSw; (try dsimp only at hSw); go_simp; done) | (intro w hSw; (try dsimp only at hSw); go_simp; with_reducible rfl)
        (try simp only [Act.put, List.setIfInBounds_toArray, List.set_cons_zero, List.set_cons_succ])
        refine Reg.take (i := 3) (v := ?v4) rfl (by kernel_rfl) (by kernel_rfl) (by kernel_rfl) (by rfl) ?hv4 (by assumption) ?rest4
        case hv4 => first | (intro w hSw; (try dsimp only at hSw); go_simp; done) | (intro w hSw; (try dsimp only at hSw); go_simp; with_reducible rfl)
        (try simp only [Act.put, List.setIfInBounds_toArray, List.set_cons_zero, List.set_cons_succ])
        refine Reg.take (i := 4) (v := ?v5) rfl (by kernel_rfl) (by kernel_rfl) (by kernel_rfl) (by rfl) ?hv5 (by assumption) ?rest5
        case hv5 => first | (intro w hSw; (try dsimp only at hSw); go_simp; done) | (intro w hSw; (try dsimp only at hSw); go_simp; with_reducible rfl)
        (try simp only [Act.put, List.setIfInBounds_toArray, List.set_cons_zero, List.set_cons_succ])
        refine Reg.take (i := 5) (v := ?v6) rfl (by kernel_rfl) (by kernel_rfl) (by kernel_rfl) (by rfl) ?hv6 (by assumption) ?rest6
        case hv6 => first | (intro w hSw; (try dsimp only at hSw); go_simp; done) | (intro w hSw; (try dsimp only at hSw); go_simp; with_reducible rfl)
        (try simp only [Act.put, List.setIfInBounds_toArray, List.set_cons_zero, List.set_cons_succ])
        refine Reg.take (i := 6) (v := ?v7) rfl (by kernel_rfl) (by kernel_rfl) (by kernel_rfl) (by rfl) ?hv7 (by assumption) ?rest7
        case hv7 => first | (intro w hSw; (try dsimp only at hSw); go_simp; done) | (intro w hSw; (try dsimp only at hSw); go_simp; with_reducible rfl)
        (try simp only [Act.put, List.setIfInBounds_toArray, List.set_cons_zero, List.set_cons_succ])
        refine Reg.doneW (by kernel_rfl) ?_ _
        all_goals gi_wp2
        all_goals (refine hR.mono ?_; rintro e9 W3 (⟨rfl, hJ3, hk3⟩ | ⟨rfl, hJx3⟩))
        all_goals try have hcn3 : W3.cell? ⟨Bn, 0, none⟩ = some (.int .i64 3) := (hk3.cell (p := ⟨Bn, 0, none⟩) hn1 hn2).trans hcn
        all_goals gi_wp2
        all_goals first
          | (go_roundw
             case rel => exact ⟨k + 1, j3, HK.out, by have := HJ.out; have := HJ3.out; omega, by first | rfl | go_num, by rw [upto_succ HK.out y0 HYK.out]; exact hJ3, hnx.trans ((KeptTo.refl _ _ _).trans (KeptTo.drew_ hk3))⟩
             case measure => (have := HJ3.out; simp [intOf]; omega))
          | (refine bodyPost_ret (results_none rfl _ _ _) rfl ?_
             exact ⟨⟨_, rfl⟩, .inr ⟨_, hJx3⟩⟩)
      · obtain rfl : e = 3 := he3.2.1 h3
        have hmin : ¬ (m : Int) < 3 := by omega
        clear hj he he3 hq hyk hlt h3 hje
        obtain rfl : j3 = q := by omega
        gi_wp2
        refine Reg.beginW Reg.wide_plain (S := fun W => W.cell? ⟨Bs, 0, none⟩ = some (.slice (some x) len cap) ∧ W.cell? ⟨Bn, 0, none⟩ = some (.int .i64 3)) (by kernel_rfl) (by kernel_rfl) ⟨hcs, hcn⟩ (fun hHeld => ?_)
        refine Reg.take (i := 0) (v := ?v8) rfl (by kernel_rfl) (by kernel_rfl) (by kernel_rfl) (by rfl) ?hv8 (by assumption) ?rest8
        case hv8 => first | (intro w hSw; (try dsimp only at hSw); go_simp; done) | (intro w hSw; (try dsimp only at hSw); go_simp; with_reducible rfl)
        (try simp only [Act.put, List.setIfInBounds_toArray, List.set_cons_zero, List.set_cons_succ])
        refine Reg.take (i := 1) (v := ?v9) rfl (by kernel_rfl) (by kernel_rfl) (by kernel_rfl) (by rfl) ?hv9 (by assumption) ?rest9
        case hv9 => first | (intro w hSw; (try dsimp only at hSw); go_simp; done) | (intro w hSw; (try dsimp only at hSw); go_simp; with_reducible rfl)
        (try simp only [Act.put, List.setIfInBounds_toArray, List.set_cons_zero, List.set_cons_succ])
        refine Reg.take (i := 2) (v := ?v10) rfl (by kernel_rfl) (by kernel_rfl) (by kernel_rfl) (by rfl) ?hv10 (by assumption) ?rest10
        case hv10 => first | (intro w hSw; (try dsimp only at hSw); go_simp; done) | (intro w hSw; (try dsimp only at hSw); go_simp; with_reducible rfl)
        (try simp only [Act.put, List.setIfInBounds_toArray, List.set_cons_zero, List.set_cons_succ])
        refine Reg.take (i := 3) (v := ?v11) rfl (by kernel_rfl) (by kernel_rfl) (by kernel_rfl) (by rfl) ?hv11 (by assumption) ?rest11
        case hv11 => first | (intro w hSw; (try dsimp only at hSw); go_simp; done) | (intro w hSw; (try dsimp only at hSw); go_simp; with_reducible rfl)
        (try simp only [Act.put, List.setIfInBounds_toArray, List.set_cons_zero, List.set_cons_succ])
        refine Reg.take (i := 4) (v := ?v12) rfl (by kernel_rfl) (by kernel_rfl) (by kernel_rfl) (by rfl) ?hv12 (by assumption) ?rest12
        case hv12 => first | (intro w hSw; (try dsimp only at hSw); go_simp; done) | (intro w hSw; (try dsimp only at hSw); go_simp; with_reducible rfl)
        (try simp only [Act.put, List.setIfInBounds_toArray, List.set_cons_zero, List.set_cons_succ])
        refine Reg.take (i := 5) (v := ?v13) rfl (by kernel_rfl) (by kernel_rfl) (by kernel_rfl) (by rfl) ?hv13 (by assumption) ?rest13
        case hv13 => first | (intro w hSw; (try dsimp only at hSw); go_simp; done) | (intro w hSw; (try dsimp only at hSw); go_simp; with_reducible rfl)
        (try simp only [Act.put, List.setIfInBounds_toArray, List.set_cons_zero, List.set_cons_succ])
        refine Reg.take (i := 6) (v := ?v14) rfl (by kernel_rfl) (by kernel_rfl) (by kernel_rfl) (by rfl) ?hv14 (by assumption) ?rest14
        case hv14 => first | (intro w hSw; (try dsimp only at hSw); go_simp; done) | (intro w hSw; (try dsimp only at hSw); go_simp; with_reducible rfl)
        (try simp only [Act.put, List.setIfInBounds_toArray, List.set_cons_zero, List.set_cons_succ])
        refine Reg.doneW (by kernel_rfl) ?_ _
        all_goals gi_wp2
        all_goals (refine hR.mono ?_; rintro e9 W3 (⟨rfl, hJ3, hk3⟩ | ⟨rfl, hJx3⟩))
        all_goals try have hcn3 : W3.cell? ⟨Bn, 0, none⟩ = some (.int .i64 3) := (hk3.cell (p := ⟨Bn, 0, none⟩) hn1 hn2).trans hcn
        all_goals gi_wp2
        all_goals first
          | (go_roundw
             case rel => exact ⟨k + 1, j3, HK.out, by have := HJ.out; have := HJ3.out; omega, by first | rfl | go_num, by rw [upto_succ HK.out y0 HYK.out]; exact hJ3, hnx.trans ((KeptTo.refl _ _ _).trans (KeptTo.drew_ hk3))⟩
             case measure => (have := HJ3.out; simp [intOf]; omega))
          | (refine bodyPost_ret (results_none rfl _ _ _) rfl ?_
             exact ⟨⟨_, rfl⟩, .inr ⟨_, hJx3⟩⟩)
    · have hz : ¬ (j : Int) < (len : Int) := by unfold chunks at hlt; omega
      have hkk : k = chunks len := by omega
      have HJ := Lib.hid hj
      clear hj hlt
      have hup : upto (chunks len) k hk = List.finRange (chunks len) := by unfold upto; rw [List.take_of_length_le (by simp; omega)]
      rw [hup] at hJs
      gi_wp2
      go_end0
      exact ⟨⟨_, rfl⟩, .inl hJs⟩
set_option maxRecDepth 100000 in
set_option maxHeartbeats 1000000 in
/-- .. of no bytes: no round. -/
theorem chunk0_in (n : Nat) (l Bs Bn : Nat) (A : Option Addr) (cap : Nat) (J : World → Prop) (W : World) (hBs : W.cell? ⟨Bs, 0, none⟩ = some (.slice A 0 cap)) (h0 : J W) :
    CallsIn Fence.wide n Try.prog 49 #[.func (.yield l) #[] #[], .pointer (some ⟨Bs, 0, none⟩), .pointer (some ⟨Bn, 0, none⟩)] W fun e W' => (∃ v, e = .returned v) ∧ J W' := by
  refine callsIn_of_wp Try.func49 rfl trivial ?_ rfl
  simp only [Try.ntmps49, List.size_toArray, List.length_cons, List.length_nil, Nat.reduceAdd, Nat.reduceSub, Array.replicate_succ, Array.replicate_zero, List.push_toArray, List.append_toArray, List.nil_append, List.cons_append]
  gi_wp2
  gi_loopw [4] (fun i wr => i = .int .i64 0 ∧ wr.cell? ⟨Bs, 0, none⟩ = some (.slice A 0 cap) ∧ J wr) (fun _ _ => 0)
  case atStart => exact ⟨rfl, hBs, h0⟩
  case round =>
    obtain ⟨rfl, hc, hJs⟩ := hrel
    gi_wp2
    go_end0
    exact ⟨⟨_, rfl⟩, hJs⟩
set_option maxHeartbeats 1000000 in
/-- slices.Chunk(s, 3): s and 3 are boxed; the function value captures both. -/
theorem chunk_in (n : Nat) (A : Option Addr) (len cap : Nat) (w : World) :
    CallsIn Fence.wide n Try.prog 45 #[.slice A len cap, .int .i64 3] w fun e w' => e = .returned (.func (.func 49) #[] #[.pointer (some ⟨w.heap.size, 0, none⟩), .pointer (some ⟨w.heap.size + 1, 0, none⟩)]) ∧
      w' = (w.alloc (.cells #[.slice A len cap] 25)).alloc (.cells #[.int .i64 3] 3) := by
  refine callsIn_of_wp Try.func45 rfl trivial ?_ rfl
  simp only [Try.ntmps45, List.size_toArray, List.length_cons, List.length_nil, Nat.reduceAdd, Nat.reduceSub, Array.replicate_succ, Array.replicate_zero, List.push_toArray, List.append_toArray, List.nil_append, List.cons_append]
  gi_wp2
  go_ret
  exact ⟨rfl, rfl⟩
/-- What it hands to the loop that ranges over it: each chunk, in order; or a round has said 'no more'. -/
theorem chunk_stops (n : Nat) (hn : 1 ≤ n) (Bs Bn n₀ : Nat) (S : List Nat) (A : Option Addr) (len cap : Nat) (hA : 0 < len → ∃ x, A = some x) (hlc : len ≤ cap) (hbig : cap ≤ 9223372036854775807) (hl : len ≤ 1000000) (w : World) (hs1 : Bs < n₀) (hs2 : Bs ∉ S) (hn1 : Bn < n₀) (hn2 : Bn ∉ S)
    (hs3 : Bs < w.heap.size) (hn3 : Bn < w.heap.size) (hBs : w.cell? ⟨Bs, 0, none⟩ = some (.slice A len cap)) (hBn : w.cell? ⟨Bn, 0, none⟩ = some (.int .i64 3)) :
    SeqStopsK Fence.wide n Try.prog 49 #[.pointer (some ⟨Bs, 0, none⟩), .pointer (some ⟨Bn, 0, none⟩)] (fun k : Fin (chunks len) => #[chunk A len k.1]) (KeptTo n₀ S) (fun ys => ys = List.finRange (chunks len)) (fun _ => True) (chunks len) w := fun l J Jx W hW hJ hJx hY h0 => by
  have hc1 := (hW.cell (p := ⟨Bs, 0, none⟩) hs3).trans hBs
  have hc2 := (hW.cell (p := ⟨Bn, 0, none⟩) hn3).trans hBn
  rcases Nat.eq_zero_or_pos len with rfl | hpos
  · exact (chunk0_in n l Bs Bn A cap (J []) W hc1 h0).mono fun e W' ⟨he, hj⟩ => ⟨he, .inl ⟨_, rfl, hj⟩⟩
  · obtain ⟨x, rfl⟩ := hA hpos
    refine (chunk1_in n hn l Bs Bn n₀ S x len cap hlc hbig hl hs1 hs2 hn1 hn2 J Jx (fun s W1 W2 hj e1 e2 e3 e4 => hJ s W1 W2 none hj ⟨e2, e3, e4, by rw [e1]; exact Nat.le_refl _, fun k _ _ => by rw [e1]⟩ (fun r e => by cases e)) hY W hc1 hc2 h0).mono ?_
    rintro e W' ⟨he, hj | ⟨pre, hj⟩⟩
    · exact ⟨he, .inl ⟨_, rfl, hj⟩⟩
    · exact ⟨he, .inr ⟨pre, trivial, hj⟩⟩
end Go.Proofs.Ytfimgkomfnfjkaa.Chunk
end
section
/- A decoder in memory; what its short calls answer. -/
set_option linter.unusedSimpArgs false
set_option linter.unusedVariables false
namespace Go.Proofs.Ytfimgkomfnfjkaa.Par
open Go.RowKit RU8 Frm
/-- Block b is a decoder's struct, block r its ring's. -/
def DecIs (w : World) (b r bs s gp : Nat) (bg : Bool) (last : Nat) (br : Bool) : Prop :=
  Has w b 42 #[.pointer (some ⟨r, 0, none⟩), .int .i64 (bs : Nat), .int .i64 (s : Nat), .int .i64 (gp : Nat), .bool bg, .int .u8 (last : Nat), .bool br]
theorem bytes_k (b r bs s gp last : Nat) (bg br : Bool) (w : World) (h : DecIs w b r bs s gp bg last br) :
    Calls Try.prog 12 #[.pointer (some ⟨b, 0, none⟩)] w fun e w' => e = .returned (.int .i64 (bs : Nat)) ∧ w = w' := by
  have c1 : w.cell? ⟨b, 1, none⟩ = some (.int .i64 (bs : Nat)) := h.cell 1
  clear h
  go_enter Try.func12, Try.ntmps12
  go_wp2
  go_ret
  exact ⟨rfl, rfl⟩
theorem samples_k (b r bs s gp last : Nat) (bg br : Bool) (w : World) (h : DecIs w b r bs s gp bg last br) :
    Calls Try.prog 13 #[.pointer (some ⟨b, 0, none⟩)] w fun e w' => e = .returned (.int .i64 (s : Nat)) ∧ w = w' := by
  have c1 : w.cell? ⟨b, 2, none⟩ = some (.int .i64 (s : Nat)) := h.cell 2
  clear h
  go_enter Try.func13, Try.ntmps13
  go_wp2
  go_ret
  exact ⟨rfl, rfl⟩
theorem gaps_k (b r bs s gp last : Nat) (bg br : Bool) (w : World) (h : DecIs w b r bs s gp bg last br) :
    Calls Try.prog 15 #[.pointer (some ⟨b, 0, none⟩)] w fun e w' => e = .returned (.int .i64 (gp : Nat)) ∧ w = w' := by
  have c1 : w.cell? ⟨b, 3, none⟩ = some (.int .i64 (gp : Nat)) := h.cell 3
  clear h
  go_enter Try.func15, Try.ntmps15
  go_wp2
  go_ret
  exact ⟨rfl, rfl⟩
theorem waits_k (b r bs s gp last g n q f c : Nat) (cs xs : List Nat) (bg br : Bool) (w : World) (h : DecIs w b r bs s gp bg last br) (hR : Ring w r g n q f cs xs) (hc : xs.length = c) :
    Calls Try.prog 10 #[.pointer (some ⟨b, 0, none⟩)] w fun e w' => e = .returned (.int .i64 (c : Nat)) ∧ w = w' := by
  have c0 : w.cell? ⟨b, 0, none⟩ = some (.pointer (some ⟨r, 0, none⟩)) := h.cell 0
  have hl := fun W (hW : W.cell? ⟨r, 2, none⟩ = some (.int .i64 (c : Nat))) => len_any r c W hW
  have c2 := hR.core.cells.2.2
  rw [hc] at c2
  clear h hR
  go_enter Try.func10, Try.ntmps10
  go_wp2_with (go_at_call 19; ((with_reducible refine (hl _ c2).mono ?_); rintro e w' ⟨rfl, rfl⟩))
  go_ret
  exact ⟨rfl, rfl⟩
theorem skip_k (b r bs s gp last : Nat) (bg br : Bool) (a : Nat) (w : World) (h : DecIs w b r bs s gp bg last br) :
    Calls Try.prog 22 #[.pointer (some ⟨b, 0, none⟩), .int .i64 (a : Nat)] w fun e w' => e = .returned (.tuple #[]) ∧ DecIs w' b r bs s gp bg last (br || decide (0 < a)) ∧ Kept [b] w w' := by
  have c6 : w.cell? ⟨b, 6, none⟩ = some (.bool br) := h.cell 6
  have f6 := h.frozen 6
  have hset := fun x : Bool => h.set_ 6 (.bool x)
  have hK := fun x : Bool => (Kept.refl [b] w).setCell (p := ⟨b, 6, none⟩) (.inl (by simp)) (.bool x)
  clear h
  cases br with
  | true =>
    go_enter Try.func22, Try.ntmps22
    go_wp2
    go_end0
    exact ⟨rfl, by have := hset true; simpa [DecIs] using this, hK true⟩
  | false =>
    rcases (by omega : a = 0 ∨ 0 < a) with rfl | ha
    · go_enter Try.func22, Try.ntmps22
      go_wp2
      go_end0
      exact ⟨rfl, by have := hset false; simpa [DecIs] using this, hK false⟩
    · have haz : (0 : Int) < (a : Int) := by omega
      rw [decide_eq_true ha]
      go_enter Try.func22, Try.ntmps22
      go_wp2
      go_end0
      exact ⟨rfl, by have := hset true; simpa [DecIs] using this, hK true⟩
end Go.Proofs.Ytfimgkomfnfjkaa.Par
end
section
/- What a frame tells a decoder, and how the decoder stands behind it. -/
set_option linter.unusedSimpArgs false
set_option linter.unusedVariables false
namespace Go.Proofs.Ytfimgkomfnfjkaa.Par
open Go.RowKit RU8 Frm
def MetIs (w : World) (b r bs s gp : Nat) (bg : Bool) (last : Nat) (br : Bool) (q : Nat) (ls : List Samp) (e : Ending) (w' : World) : Prop :=
  ∃ A n c, e = .returned (.slice A n c) ∧ n ≤ c ∧ c ≤ 9223372036854775807 ∧ n ≤ 33 ∧ Row.Vals evSh w' A n (metT bg br last s q ls) ∧ (∀ x, A = some x → w.heap.size ≤ x.block) ∧
    DecIs w' b r bs (s + countL 2 (metT bg br last s q ls)) (gp + countL 1 (metT bg br last s q ls)) true q (!dIn bg last q) ∧ Kept [b] w w'
theorem DecIs.kept {w w' : World} {b r bs s gp last : Nat} {bg br : Bool} {T : List Nat} (h : DecIs w b r bs s gp bg last br) (hk : Kept T w w') (hb : b ∉ T) : DecIs w' b r bs s gp bg last br := hk.has h hb
set_option maxRecDepth 100000 in
set_option maxHeartbeats 2000000 in
theorem meet_k (b r bs s gp last q : Nat) (bg br : Bool) (A : Option Addr) (L c : Nat) (ls : List Samp) (w : World) (h : DecIs w b r bs s gp bg last br) (hv : Row.Vals sampS w A L ls) (hL : L ≤ 32) (hLc : L ≤ c) (hc : c ≤ 9223372036854775807)
    (hfar : ∀ x, A = some x → x.block ≠ b) (hlast : last < 256) (hq : q < 256) (hs : s ≤ 200000) (hgp : gp ≤ 200000) :
    Calls Try.prog 23 #[.pointer (some ⟨b, 0, none⟩), .agg #[.int .u8 (q : Nat), .slice A L c]] w (MetIs w b r bs s gp bg last br q ls) := by
  have hInfo : (Try.prog.info? 46).map (fun i => (i.zero, i.size, i.bytes)) = some (some (.agg #[.int .i64 0, .int .i64 0, .int .i32 0, .bool false]), 4, 24) := by kernel_rfl
  have HInfo := Lib.hid hInfo
  have hTl := Has.lt h
  have hnxt := fun W => next_any last hlast W
  have hkA : Kept [] w (w.alloc (.cells #[.int .u8 (q : Nat), .slice A L c] 52)) := (Kept.refl [] w).alloc _
  have hTA := h.kept hkA (by simp)
  have hPA := Has.new w 52 #[.int .u8 (q : Nat), .slice A L c]
  have c4 : (w.alloc (.cells #[.int .u8 (q : Nat), .slice A L c] 52)).cell? ⟨b, 4, none⟩ = some (.bool bg) := Has.cell hTA 4
  have c5 : (w.alloc (.cells #[.int .u8 (q : Nat), .slice A L c] 52)).cell? ⟨b, 5, none⟩ = some (.int .u8 (last : Nat)) := Has.cell hTA 5
  have p0 : (w.alloc (.cells #[.int .u8 (q : Nat), .slice A L c] 52)).cell? ⟨w.heap.size, 0, none⟩ = some (.int .u8 (q : Nat)) := hPA.cell 0
  have f4 := Has.frozen hTA 4
  have f5 := Has.frozen hTA 5
  have c6 : (w.alloc (.cells #[.int .u8 (q : Nat), .slice A L c] 52)).cell? ⟨b, 6, none⟩ = some (.bool br) := Has.cell hTA 6
  have f6 := Has.frozen hTA 6
  have hll := hv.len_
  clear hInfo
  obtain ⟨p, hpw⟩ : ∃ p, w.heap.size = p := ⟨_, rfl⟩
  rw [hpw] at hTl p0 hPA
  unfold MetIs
  obtain ⟨q1, hq1⟩ : ∃ q1, (last + 1) % 256 = q1 := ⟨_, rfl⟩
  simp only [hq1] at hnxt
  replace hnxt := fun W => (hnxt W).mono (fun e w' h => (⟨h.1, 0, h.2.symm⟩ : e = .returned (.int .u8 (q1 : Nat)) ∧ ∃ k, w' = W.drewN k))
  cases bg with
  | false =>
    have hI : dIn false last q = true := rfl
    cases br with
    | false =>
      go_enter Try.func23, Try.ntmps23
      go_wp2
      go_quiet ((go_at_call 38; exact Calls.quiet_of (hnxt _)))
      go_wp2
      obtain ⟨w0, hw0⟩ : ∃ W, W = (w.alloc (.cells #[.int .u8 (q : Nat), .slice A L c] 52)).drewN nq := ⟨_, rfl⟩
      rw [← hw0]
      have hk0 : Kept [] w w0 := by rw [hw0]; exact hkA.drewN nq
      have hT0 := show DecIs w0 b r bs s gp _ last _ from (by rw [hw0]; exact Has.drewN hTA nq)
      have hP0 : Has w0 p 52 #[.int .u8 (q : Nat), .slice A L c] := by rw [hw0]; exact hPA.drewN nq
      clear hw0 hkA hTA hPA c4 c5 c6 p0 f4 f5 f6 hnxt h
      refine Reg.begin_ (S := fun W => W.cell? ⟨p, 0, none⟩ = some (.int .u8 (q : Nat))) (by kernel_rfl) (by exact hP0.cell 0) (fun hHeld => ?_)
      have hTd := show DecIs w0.drew b r bs s gp _ last _ from Has.drew hT0
      have hPd : Has w0.drew p 52 #[.int .u8 (q : Nat), .slice A L c] := hP0
      have hKd : Kept [] w w0.drew := hk0.drewN 1
      generalize w0.drew = wd at *
      clear hk0 hT0 hP0
      refine Reg.take (i := 0) (v := ?v1) rfl (by kernel_rfl) (by kernel_rfl) (by kernel_rfl) (by rfl) ?hv1 (by assumption) ?rest1
      case hv1 => first | (intro w hSw; (try dsimp only at hSw); go_simp; done) | (intro w hSw; (try dsimp only at hSw); go_simp; with_reducible rfl)
      (try simp only [Act.put, List.setIfInBounds_toArray, List.set_cons_zero, List.set_cons_succ])
      refine Reg.take (i := 1) (v := ?v2) rfl (by kernel_rfl) (by kernel_rfl) (by kernel_rfl) (by rfl) ?hv2 (by assumption) ?rest2
      case hv2 => first | (intro w hSw; (try dsimp only at hSw); go_simp; done) | (intro w hSw; (try dsimp only at hSw); go_simp; with_reducible rfl)
      (try simp only [Act.put, List.setIfInBounds_toArray, List.set_cons_zero, List.set_cons_succ])
      refine Reg.take (i := 2) (v := ?v3) rfl (by kernel_rfl) (by kernel_rfl) (by kernel_rfl) (by rfl) ?hv3 (by assumption) ?rest3
      case hv3 => first | (intro w hSw; (try dsimp only at hSw); go_simp; done) | (intro w hSw; (try dsimp only at hSw); go_simp; with_reducible rfl)
      (try simp only [Act.put, List.setIfInBounds_toArray, List.set_cons_zero, List.set_cons_succ])
      refine Reg.take (i := 3) (v := ?v4) rfl (by kernel_rfl) (by kernel_rfl) (by kernel_rfl) (by rfl) ?hv4 (by assumption) ?rest4
      case hv4 => first | (intro w hSw; (try dsimp only at hSw); go_simp; done) | (intro w hSw; (try dsimp only at hSw); go_simp; with_reducible rfl)
      (try simp only [Act.put, List.setIfInBounds_toArray, List.set_cons_zero, List.set_cons_succ])
      refine Reg.take (i := 4) (v := ?v5) rfl (by kernel_rfl) (by kernel_rfl) (by kernel_rfl) (by rfl) ?hv5 (by assumption) ?rest5
      case hv5 => first | (intro w hSw; (try dsimp only at hSw); go_simp; done) | (intro w hSw; (try dsimp only at hSw); go_simp; with_reducible rfl)
      (try simp only [Act.put, List.setIfInBounds_toArray, List.set_cons_zero, List.set_cons_succ])
      refine Reg.take (i := 5) (v := ?v6) rfl (by kernel_rfl) (by kernel_rfl) (by kernel_rfl) (by rfl) ?hv6 (by assumption) ?rest6
      case hv6 => first | (intro w hSw; (try dsimp only at hSw); go_simp; done) | (intro w hSw; (try dsimp only at hSw); go_simp; with_reducible rfl)
      (try simp only [Act.put, List.setIfInBounds_toArray, List.set_cons_zero, List.set_cons_succ])
      have t4 := Has.cell hTd 4
      have g4 := Has.frozen hTd 4
      refine Reg.call (i := 6) rfl (by kernel_rfl) (by rfl) ?_
      intro K hK
      go_simp
      have hT1 := Has.set_ hTd 4 (.bool true)
      have hP1 := hPd.far (p := ⟨b, 4, none⟩) (by show p ≠ b; omega) (.bool true)
      have hK1 := (hKd.wide (T := [b]) (by simp)).setCell (p := ⟨b, 4, none⟩) (.inl (by simp)) (.bool true)
      refine hK.out _ _ (hP1.cell 0) (fun hHeld2 => ?_)
      clear hK K
      (try simp only [Act.put, List.setIfInBounds_toArray, List.set_cons_zero, List.set_cons_succ])
      refine Reg.take (i := 7) (v := ?v7) rfl (by kernel_rfl) (by kernel_rfl) (by kernel_rfl) (by rfl) ?hv7 (by assumption) ?rest7
      case hv7 => first | (intro w hSw; (try dsimp only at hSw); go_simp; done) | (intro w hSw; (try dsimp only at hSw); go_simp; with_reducible rfl)
      (try simp only [Act.put, List.setIfInBounds_toArray, List.set_cons_zero, List.set_cons_succ])
      refine Reg.take (i := 8) (v := ?v8) rfl (by kernel_rfl) (by kernel_rfl) (by kernel_rfl) (by rfl) ?hv8 (by assumption) ?rest8
      case hv8 => first | (intro w hSw; (try dsimp only at hSw); go_simp; done) | (intro w hSw; (try dsimp only at hSw); go_simp; with_reducible rfl)
      (try simp only [Act.put, List.setIfInBounds_toArray, List.set_cons_zero, List.set_cons_succ])
      have t5 := hT1.cell 5
      have g5 := hT1.frozen 5
      refine Reg.call (i := 9) rfl (by kernel_rfl) (by rfl) ?_
      intro K hK
      go_simp
      have hT2 := hT1.set_ 5 (.int .u8 (q : Nat))
      have hP2 := hP1.far (p := ⟨b, 5, none⟩) (by show p ≠ b; omega) (.int .u8 (q : Nat))
      have hK2 := hK1.setCell (p := ⟨b, 5, none⟩) (.inl (by simp)) (.int .u8 (q : Nat))
      refine hK.out _ _ (hP2.cell 0) (fun hHeld3 => ?_)
      clear hK K
      (try simp only [Act.put, List.setIfInBounds_toArray, List.set_cons_zero, List.set_cons_succ])
      refine Reg.done (by kernel_rfl) ?_ _
      clear t4 g4 t5 g5 hHeld hHeld2 hHeld3
      have hTb : DecIs ((wd.setCell ⟨b, 4, none⟩ (.bool true)).setCell ⟨b, 5, none⟩ (.int .u8 (q : Nat))) b r bs s gp true q false := by simpa [DecIs] using hT2
      generalize (wd.setCell ⟨b, 4, none⟩ (.bool true)).setCell ⟨b, 5, none⟩ (.int .u8 (q : Nat)) = wb at *
      clear hTd hPd hKd hT1 hP1 hK1 hT2
      clear wd
      have t6 : wb.cell? ⟨b, 6, none⟩ = some (.bool false) := Has.cell hTb 6
      have p1 : wb.cell? ⟨p, 1, none⟩ = some (.slice A L c) := hP2.cell 1
      have hmet : metT false false last s q ls = evS s ls := by unfold metT; rw [hI]; rfl
      have hc1 : countL 2 (evS s ls) = ls.length := (count_evS s ls).1
      have hc2 : countL 1 (evS s ls) = 0 := (count_evS s ls).2
      go_wp2
      have hOt := Row.own_none (S := evSh) wb (p + 1) 46
      have hTt := hTb
      have hKt := hK2
      clear hP2 hK2 hTb
      go_loopw [6, 62] (fun v i wr => ∃ (j : Nat) (A2 : Option Addr) (d2 sj nj : Nat), j ≤ L ∧ v = .slice A2 nj d2 ∧ i = .int .i64 (j : Nat) ∧ sj = s + j ∧ nj = 0 + j ∧ wr.ownsRow (p + 1) 46 4 (.slice A2 nj d2) nj (Row.flat evSh ([] ++ evS s (ls.take j))) ∧ DecIs wr b r bs sj (gp) true q false ∧ Kept [b] w wr) (fun _ i _ => L - (intOf i).toNat)
      case atStart => exact ⟨0, _, _, _, _, by omega, rfl, rfl, rfl, rfl, by rw [List.take_zero]; show World.ownsRow _ _ _ 4 _ _ (Row.flat evSh ([] ++ [])); rw [List.append_nil]; exact hOt, hTt, hKt⟩
      case round =>
        obtain ⟨j, A2, d2, sj, nj, hj, rfl, rfl, hsj, hnj, hOr, hTr, hKr⟩ := hrel
        by_cases hjL : j < L
        · obtain ⟨x, rfl, _⟩ := hv.cells (by omega)
          have hvr := hv.kept hKr (fun _ y hy => by simpa using hfar y hy)
          obtain ⟨m0, m1⟩ := samp_cells hvr j hjL
          have hstp : evS s (ls.take (j + 1)) = evS s (ls.take j) ++ [(2, s + j, ls.getD j (0, false))] := by
            rw [take_step ls (0, false) j (by omega), evS_append, List.length_take, Nat.min_eq_left (by omega)]; rfl
          obtain ⟨⟨z, o⟩, hzo⟩ : ∃ q, ls.getD j (0, false) = q := ⟨_, rfl⟩
          rw [hzo, ← hsj] at hstp
          rw [hzo] at m0 m1
          dsimp only at m0 m1
          obtain ⟨E, hE⟩ : ∃ E, E = [] ++ evS s (ls.take j) := ⟨_, rfl⟩
          have HST := Lib.hid (show [] ++ evS s (ls.take (j + 1)) = E ++ [(2, sj, (z, o))] by rw [hstp, ← List.append_assoc, hE])
          rw [← hE] at hOr
          have hEl : E.length = nj := by
            rw [hE, List.length_append, evS_length, List.length_take]
            show 0 + _ = _
            omega
          clear hstp hzo hvr hTt hOt hKt hE
          have hsz : 0 ≤ (sj : Int) ∧ (sj : Int) ≤ 300000 := by omega
          have hnj9 : nj ≤ 33 := by omega
          have HSJ := Lib.hid hsj
          have HNJ := Lib.hid hnj
          clear hsj hnj
          go_wp2
          obtain ⟨m, hm⟩ : ∃ m, wr.heap.size = m := ⟨_, rfl⟩
          rw [hm]
          obtain ⟨wa, hwa⟩ : ∃ W, W = wr.alloc (.cells #[.int .i32 z, .bool o] 44) := ⟨_, rfl⟩
          rw [← hwa]
          have hMa : Has wa m 44 #[.int .i32 z, .bool o] := by rw [hwa, ← hm]; exact Has.new wr _ _
          have hTa : DecIs wa b r bs sj (gp) true q false := by rw [hwa]; exact Has.alloc hTr _
          have hOa : wa.ownsRow (p + 1) 46 4 (.slice A2 nj d2) nj (Row.flat evSh E) := by rw [hwa]; exact own_kept hOr ((Kept.refl [] wr).alloc _) (by simp)
          have hKa : Kept [b] w wa := by rw [hwa]; exact hKr.alloc _
          have hmA : m ∉ (Value.slice A2 nj d2).ownBlock.toList := fun hmem => by
            have := (own_block hOr m (by simpa using hmem)).2
            omega
          have hmb : m ≠ b := by have := Has.lt hTr; omega
          clear hwa hTr hOr hKr m0 m1
          refine Reg.begin_ (S := fun W => W.cell? ⟨b, 2, none⟩ = some (.int .i64 (sj : Nat)) ∧ W.cell? ⟨m, 0, none⟩ = some (.int .i32 z) ∧ W.cell? ⟨m, 1, none⟩ = some (.bool o)) (by kernel_rfl) (by exact ⟨Has.cell hTa 2, hMa.cell 0, hMa.cell 1⟩) (fun hHeld => ?_)
          have hMd : Has wa.drew m 44 #[.int .i32 z, .bool o] := hMa
          have hTd : DecIs wa.drew b r bs sj (gp) true q false := Has.drew hTa
          have hOd : wa.drew.ownsRow (p + 1) 46 4 (.slice A2 nj d2) nj (Row.flat evSh E) := own_kept hOa ((Kept.refl [] wa).drewN 1) (by simp)
          have hKd : Kept [b] w wa.drew := hKa.drewN 1
          generalize wa.drew = wd at *
          clear hMa hTa hOa hKa
          clear wa
          refine Reg.take (i := 0) (v := ?v9) rfl (by kernel_rfl) (by kernel_rfl) (by kernel_rfl) (by rfl) ?hv9 (by assumption) ?rest9
          case hv9 => first | (intro w hSw; (try dsimp only at hSw); go_simp; done) | (intro w hSw; (try dsimp only at hSw); go_simp; with_reducible rfl)
          (try simp only [Act.put, List.setIfInBounds_toArray, List.set_cons_zero, List.set_cons_succ])
          refine Reg.take (i := 1) (v := ?v10) rfl (by kernel_rfl) (by kernel_rfl) (by kernel_rfl) (by rfl) ?hv10 (by assumption) ?rest10
          case hv10 => first | (intro w hSw; (try dsimp only at hSw); go_simp; done) | (intro w hSw; (try dsimp only at hSw); go_simp; with_reducible rfl)
          (try simp only [Act.put, List.setIfInBounds_toArray, List.set_cons_zero, List.set_cons_succ])
          refine Reg.take (i := 2) (v := ?v11) rfl (by kernel_rfl) (by kernel_rfl) (by kernel_rfl) (by rfl) ?hv11 (by assumption) ?rest11
          case hv11 => first | (intro w hSw; (try dsimp only at hSw); go_simp; done) | (intro w hSw; (try dsimp only at hSw); go_simp; with_reducible rfl)
          (try simp only [Act.put, List.setIfInBounds_toArray, List.set_cons_zero, List.set_cons_succ])
          refine Reg.take (i := 3) (v := ?v12) rfl (by kernel_rfl) (by kernel_rfl) (by kernel_rfl) (by rfl) ?hv12 (by assumption) ?rest12
          case hv12 => first | (intro w hSw; (try dsimp only at hSw); go_simp; done) | (intro w hSw; (try dsimp only at hSw); go_simp; with_reducible rfl)
          (try simp only [Act.put, List.setIfInBounds_toArray, List.set_cons_zero, List.set_cons_succ])
          refine Reg.take (i := 4) (v := ?v13) rfl (by kernel_rfl) (by kernel_rfl) (by kernel_rfl) (by rfl) ?hv13 (by assumption) ?rest13
          case hv13 => first | (intro w hSw; (try dsimp only at hSw); go_simp; done) | (intro w hSw; (try dsimp only at hSw); go_simp; with_reducible rfl)
          (try simp only [Act.put, List.setIfInBounds_toArray, List.set_cons_zero, List.set_cons_succ])
          refine Reg.take (i := 5) (v := ?v14) rfl (by kernel_rfl) (by kernel_rfl) (by kernel_rfl) (by rfl) ?hv14 (by assumption) ?rest14
          case hv14 => first | (intro w hSw; (try dsimp only at hSw); go_simp; done) | (intro w hSw; (try dsimp only at hSw); go_simp; with_reducible rfl)
          (try simp only [Act.put, List.setIfInBounds_toArray, List.set_cons_zero, List.set_cons_succ])
          refine Reg.take (i := 6) (v := ?v15) rfl (by kernel_rfl) (by kernel_rfl) (by kernel_rfl) (by rfl) ?hv15 (by assumption) ?rest15
          case hv15 => first | (intro w hSw; (try dsimp only at hSw); go_simp; done) | (intro w hSw; (try dsimp only at hSw); go_simp; with_reducible rfl)
          (try simp only [Act.put, List.setIfInBounds_toArray, List.set_cons_zero, List.set_cons_succ])
          have hMe := hMd.alloc (.cells #[.int .i64 2, .int .i64 (sj : Nat), .int .i32 z, .bool o] 46)
          have hTe := Has.alloc hTd (.cells #[.int .i64 2, .int .i64 (sj : Nat), .int .i32 z, .bool o] 46)
          have hOe := own_kept hOd ((Kept.refl [] wd).alloc (.cells #[.int .i64 2, .int .i64 (sj : Nat), .int .i32 z, .bool o] 46)) (by simp)
          have hKe := hKd.alloc (.cells #[.int .i64 2, .int .i64 (sj : Nat), .int .i32 z, .bool o] 46)
          have hVn : Row.Vals evSh (wd.alloc (.cells #[.int .i64 2, .int .i64 (sj : Nat), .int .i32 z, .bool o] 46)) (some ⟨wd.heap.size, 0, none⟩) 1 [(2,sj,(z,o))] := one_new wd 46 (2, sj, (z, o))
          have hBase : p + 1 ≤ (wd.alloc (.cells #[.int .i64 2, .int .i64 (sj : Nat), .int .i32 z, .bool o] 46)).heap.size := by rw [World.size_alloc]; have := hKd.size; omega
          refine Reg.call (i := 7) rfl (by kernel_rfl) (by rfl) ?_
          intro K hK
          go_simp
          refine hK.out _ _ ⟨Has.cell hTe 2, hMe.cell 0, hMe.cell 1⟩ (fun hHeld2 => ?_)
          clear hK K
          (try simp only [Act.put, List.setIfInBounds_toArray, List.set_cons_zero, List.set_cons_succ])
          refine Reg.call (i := 8) rfl (by kernel_rfl) (by rfl) ?_
          intro K hK
          refine Row.wp_append (S := evSh) (.tmp 66) (.tmp 73) _ rfl (p + 1) 46 _ 24 (by omega) Try.underlying27 HInfo.out (by kernel_rfl) (.slice A2 nj d2) nj E rfl hOe (some ⟨wd.heap.size, 0, none⟩) 1 1 [(2,sj,(z,o))] rfl hVn (by omega) hBase ?_
          intro v9 W3 hO9 hg9 hat9
          obtain ⟨A9, d9, rfl, _, _, hx1, hx2⟩ := Row.Vals.own hO9
          clear hx1 hx2
          have hK9 := Kept.of_grown hg9
          have hT9 := hK9.has hTe (own_apart hOe (by omega))
          have hM9 := hK9.has hMe hmA
          have hk9 := hKe.grown hg9 (fun k hk => .inr (by have := (own_block hOe k hk).1; omega))
          refine hK.out _ _ ⟨Has.cell hT9 2, hM9.cell 0, hM9.cell 1⟩ (fun hHeld3 => ?_)
          clear hK K
          (try simp only [Act.put, List.setIfInBounds_toArray, List.set_cons_zero, List.set_cons_succ])
          refine Reg.take (i := 9) (v := ?v16) rfl (by kernel_rfl) (by kernel_rfl) (by kernel_rfl) (by rfl) ?hv16 (by assumption) ?rest16
          case hv16 => first | (intro w hSw; (try dsimp only at hSw); go_simp; done) | (intro w hSw; (try dsimp only at hSw); go_simp; with_reducible rfl)
          (try simp only [Act.put, List.setIfInBounds_toArray, List.set_cons_zero, List.set_cons_succ])
          refine Reg.done (by kernel_rfl) ?_ _
          clear hHeld hHeld2 hHeld3 hVn hBase hOe hMe hTe hKe hMd hTd hOd hKd hK9 hM9 hg9 hat9 hmA
          have t2 : W3.cell? ⟨b, 2, none⟩ = some (.int .i64 (sj : Nat)) := Has.cell hT9 2
          have g2 := Has.frozen hT9 2
          have hT5 := Has.set_ hT9 2 (.int .i64 ((sj : Int) + 1))
          have hK5 := hk9.setCell (p := ⟨b, 2, none⟩) (.inl (by simp)) (.int .i64 ((sj : Int) + 1))
          have hO5 := own_kept hO9 ((Kept.refl [b] W3).setCell (p := ⟨b, 2, none⟩) (.inl (by simp)) (.int .i64 ((sj : Int) + 1))) (fun y hy => by simp at hy; omega)
          clear hT9 hk9 hO9
          go_wp2
          go_roundw
          case rel => exact ⟨j + 1, A9, d9, sj + 1, nj + 1, by omega, rfl, by go_num, by have := HSJ.out; omega, by have := HNJ.out; omega, by rw [HST.out]; exact hO5, by simpa [DecIs] using hT5, hK5⟩
          case measure => simp [intOf]; omega
        · have hjL2 : j = L := by omega
          subst hjL2
          rw [List.take_of_length_le (by omega)] at hOr
          clear hTt hOt hKt
          obtain ⟨A9, d9, h9, h91, h92, h93, h94, _⟩ := Row.Vals.own (S := evSh) hOr
          injection h9 with e1 e2 e3
          subst e1 e3
          have HF := Lib.hid (show nj ≤ d2 ∧ d2 ≤ 9223372036854775807 ∧ nj ≤ 33 ∧ Row.Vals evSh wr A2 nj (metT false false last s q ls) ∧ (∀ x, A2 = some x → p ≤ x.block) ∧
              DecIs wr b r bs (s + countL 2 (metT false false last s q ls)) (gp + countL 1 (metT false false last s q ls)) true q (!dIn false last q) ∧ Kept [b] w wr by
            rw [hI, hmet, hc1, hc2, hll]
            exact ⟨h91, h92, by omega, h93, (fun x hx => by have := (h94 x hx).1; omega), by rw [← hsj]; exact hTr, hKr⟩)
          clear hI hmet hc1 hc2 hsj hnj h91 h92 h93 h94 hOr hTr hKr
          go_wp2
          go_ret
          exact ⟨_, _, _, rfl, HF.out⟩
    | true =>
      go_enter Try.func23, Try.ntmps23
      go_wp2
      go_quiet ((go_at_call 38; exact Calls.quiet_of (hnxt _)))
      go_wp2
      obtain ⟨w0, hw0⟩ : ∃ W, W = (w.alloc (.cells #[.int .u8 (q : Nat), .slice A L c] 52)).drewN nq := ⟨_, rfl⟩
      rw [← hw0]
      have hk0 : Kept [] w w0 := by rw [hw0]; exact hkA.drewN nq
      have hT0 := show DecIs w0 b r bs s gp _ last _ from (by rw [hw0]; exact Has.drewN hTA nq)
      have hP0 : Has w0 p 52 #[.int .u8 (q : Nat), .slice A L c] := by rw [hw0]; exact hPA.drewN nq
      clear hw0 hkA hTA hPA c4 c5 c6 p0 f4 f5 f6 hnxt h
      refine Reg.begin_ (S := fun W => W.cell? ⟨p, 0, none⟩ = some (.int .u8 (q : Nat))) (by kernel_rfl) (by exact hP0.cell 0) (fun hHeld => ?_)
      have hTd := show DecIs w0.drew b r bs s gp _ last _ from Has.drew hT0
      have hPd : Has w0.drew p 52 #[.int .u8 (q : Nat), .slice A L c] := hP0
      have hKd : Kept [] w w0.drew := hk0.drewN 1
      generalize w0.drew = wd at *
      clear hk0 hT0 hP0
      refine Reg.take (i := 0) (v := ?v17) rfl (by kernel_rfl) (by kernel_rfl) (by kernel_rfl) (by rfl) ?hv17 (by assumption) ?rest17
      case hv17 => first | (intro w hSw; (try dsimp only at hSw); go_simp; done) | (intro w hSw; (try dsimp only at hSw); go_simp; with_reducible rfl)
      (try simp only [Act.put, List.setIfInBounds_toArray, List.set_cons_zero, List.set_cons_succ])
      refine Reg.take (i := 1) (v := ?v18) rfl (by kernel_rfl) (by kernel_rfl) (by kernel_rfl) (by rfl) ?hv18 (by assumption) ?rest18
      case hv18 => first | (intro w hSw; (try dsimp only at hSw); go_simp; done) | (intro w hSw; (try dsimp only at hSw); go_simp; with_reducible rfl)
      (try simp only [Act.put, List.setIfInBounds_toArray, List.set_cons_zero, List.set_cons_succ])
      refine Reg.take (i := 2) (v := ?v19) rfl (by kernel_rfl) (by kernel_rfl) (by kernel_rfl) (by rfl) ?hv19 (by assumption) ?rest19
      case hv19 => first | (intro w hSw; (try dsimp only at hSw); go_simp; done) | (intro w hSw; (try dsimp only at hSw); go_simp; with_reducible rfl)
      (try simp only [Act.put, List.setIfInBounds_toArray, List.set_cons_zero, List.set_cons_succ])
      refine Reg.take (i := 3) (v := ?v20) rfl (by kernel_rfl) (by kernel_rfl) (by kernel_rfl) (by rfl) ?hv20 (by assumption) ?rest20
      case hv20 => first | (intro w hSw; (try dsimp only at hSw); go_simp; done) | (intro w hSw; (try dsimp only at hSw); go_simp; with_reducible rfl)
      (try simp only [Act.put, List.setIfInBounds_toArray, List.set_cons_zero, List.set_cons_succ])
      refine Reg.take (i := 4) (v := ?v21) rfl (by kernel_rfl) (by kernel_rfl) (by kernel_rfl) (by rfl) ?hv21 (by assumption) ?rest21
      case hv21 => first | (intro w hSw; (try dsimp only at hSw); go_simp; done) | (intro w hSw; (try dsimp only at hSw); go_simp; with_reducible rfl)
      (try simp only [Act.put, List.setIfInBounds_toArray, List.set_cons_zero, List.set_cons_succ])
      refine Reg.take (i := 5) (v := ?v22) rfl (by kernel_rfl) (by kernel_rfl) (by kernel_rfl) (by rfl) ?hv22 (by assumption) ?rest22
      case hv22 => first | (intro w hSw; (try dsimp only at hSw); go_simp; done) | (intro w hSw; (try dsimp only at hSw); go_simp; with_reducible rfl)
      (try simp only [Act.put, List.setIfInBounds_toArray, List.set_cons_zero, List.set_cons_succ])
      have t4 := Has.cell hTd 4
      have g4 := Has.frozen hTd 4
      refine Reg.call (i := 6) rfl (by kernel_rfl) (by rfl) ?_
      intro K hK
      go_simp
      have hT1 := Has.set_ hTd 4 (.bool true)
      have hP1 := hPd.far (p := ⟨b, 4, none⟩) (by show p ≠ b; omega) (.bool true)
      have hK1 := (hKd.wide (T := [b]) (by simp)).setCell (p := ⟨b, 4, none⟩) (.inl (by simp)) (.bool true)
      refine hK.out _ _ (hP1.cell 0) (fun hHeld2 => ?_)
      clear hK K
      (try simp only [Act.put, List.setIfInBounds_toArray, List.set_cons_zero, List.set_cons_succ])
      refine Reg.take (i := 7) (v := ?v23) rfl (by kernel_rfl) (by kernel_rfl) (by kernel_rfl) (by rfl) ?hv23 (by assumption) ?rest23
      case hv23 => first | (intro w hSw; (try dsimp only at hSw); go_simp; done) | (intro w hSw; (try dsimp only at hSw); go_simp; with_reducible rfl)
      (try simp only [Act.put, List.setIfInBounds_toArray, List.set_cons_zero, List.set_cons_succ])
      refine Reg.take (i := 8) (v := ?v24) rfl (by kernel_rfl) (by kernel_rfl) (by kernel_rfl) (by rfl) ?hv24 (by assumption) ?rest24
      case hv24 => first | (intro w hSw; (try dsimp only at hSw); go_simp; done) | (intro w hSw; (try dsimp only at hSw); go_simp; with_reducible rfl)
      (try simp only [Act.put, List.setIfInBounds_toArray, List.set_cons_zero, List.set_cons_succ])
      have t5 := hT1.cell 5
      have g5 := hT1.frozen 5
      refine Reg.call (i := 9) rfl (by kernel_rfl) (by rfl) ?_
      intro K hK
      go_simp
      have hT2 := hT1.set_ 5 (.int .u8 (q : Nat))
      have hP2 := hP1.far (p := ⟨b, 5, none⟩) (by show p ≠ b; omega) (.int .u8 (q : Nat))
      have hK2 := hK1.setCell (p := ⟨b, 5, none⟩) (.inl (by simp)) (.int .u8 (q : Nat))
      refine hK.out _ _ (hP2.cell 0) (fun hHeld3 => ?_)
      clear hK K
      (try simp only [Act.put, List.setIfInBounds_toArray, List.set_cons_zero, List.set_cons_succ])
      refine Reg.done (by kernel_rfl) ?_ _
      clear t4 g4 t5 g5 hHeld hHeld2 hHeld3
      have hTb : DecIs ((wd.setCell ⟨b, 4, none⟩ (.bool true)).setCell ⟨b, 5, none⟩ (.int .u8 (q : Nat))) b r bs s gp true q true := by simpa [DecIs] using hT2
      generalize (wd.setCell ⟨b, 4, none⟩ (.bool true)).setCell ⟨b, 5, none⟩ (.int .u8 (q : Nat)) = wb at *
      clear hTd hPd hKd hT1 hP1 hK1 hT2
      clear wd
      have t2 : wb.cell? ⟨b, 2, none⟩ = some (.int .i64 (s : Nat)) := Has.cell hTb 2
      have t6 : wb.cell? ⟨b, 6, none⟩ = some (.bool true) := Has.cell hTb 6
      have g6 := Has.frozen hTb 6
      have hTc : DecIs (wb.setCell ⟨b, 6, none⟩ (.bool false)) b r bs s gp true q false := by have := Has.set_ hTb 6 (.bool false); simpa [DecIs] using this
      have hTn := Has.alloc hTc (.cells #[.int .i64 1, .int .i64 (s : Nat), .int .i32 0, .bool false] 46)
      have hPn := (hP2.far (p := ⟨b, 6, none⟩) (by show p ≠ b; omega) (.bool false)).alloc (.cells #[.int .i64 1, .int .i64 (s : Nat), .int .i32 0, .bool false] 46)
      have hKn := (hK2.setCell (p := ⟨b, 6, none⟩) (.inl (by simp)) (.bool false)).alloc (.cells #[.int .i64 1, .int .i64 (s : Nat), .int .i32 0, .bool false] 46)
      have hVn : Row.Vals evSh ((wb.setCell ⟨b, 6, none⟩ (.bool false)).alloc (.cells #[.int .i64 1, .int .i64 (s : Nat), .int .i32 0, .bool false] 46)) (some ⟨wb.heap.size, 0, none⟩) 1 [(1, s, (0, false))] := by
        have := one_new (wb.setCell ⟨b, 6, none⟩ (.bool false)) 46 (1, s, (0, false))
        rw [World.size_setCell] at this
        exact this
      have hBase : p + 1 ≤ ((wb.setCell ⟨b, 6, none⟩ (.bool false)).alloc (.cells #[.int .i64 1, .int .i64 (s : Nat), .int .i32 0, .bool false] 46)).heap.size := hPn.lt
      have hO0 := Row.own_none (S := evSh) ((wb.setCell ⟨b, 6, none⟩ (.bool false)).alloc (.cells #[.int .i64 1, .int .i64 (s : Nat), .int .i32 0, .bool false] 46)) (p + 1) 46
      have hgz : 0 ≤ (gp : Int) ∧ (gp : Int) ≤ 300000 := by omega
      have hmet : metT false true last s q ls = [(1, s, (0, false))] ++ evS s ls := by unfold metT; rw [hI]; rfl
      have hc1 : countL 2 ([(1, s, (0, false))] ++ evS s ls) = ls.length := by rw [countL_append, (count_evS s ls).1]; show 0 + _ = _; omega
      have hc2 : countL 1 ([(1, s, (0, false))] ++ evS s ls) = 1 := by rw [countL_append, (count_evS s ls).2]; rfl
      go_wp2_with (at_builtin; refine Row.wpList_append (S := evSh) rfl (.tmp 44) (.tmp 50) _ rfl (p + 1) 46 _ 24 (by omega) Try.underlying27 HInfo.out (by kernel_rfl) (.slice none 0 0) 0 [] rfl (by exact hO0) _ 1 1 [(1, s, (0, false))] rfl (by exact hVn) (by omega) (by exact hBase) ?_; intro v9 W3 hO9 hg9 hat9; have hK9 := (Kept.of_grown hg9); have hT9 := (hK9.has hTn (own_apart hO0 (by omega))); have hP9 := (hK9.has hPn (own_apart hO0 (by omega))); have hk9 := (hKn.grown hg9 (fun k hk => by cases hk)); have t3 := (Has.cell hT9 3); have g3 := (Has.frozen hT9 3); have p1 := (hP9.cell 1); obtain ⟨A9, d9, rfl, h91, h92, h93, h94⟩ := (Row.Vals.own hO9))
      have hTt : DecIs (W3.setCell ⟨b, 3, none⟩ (.int .i64 ((gp : Int) + 1))) b r bs s (gp + 1) true q false := by have := Has.set_ hT9 3 (.int .i64 ((gp : Int) + 1)); simpa [DecIs] using this
      have hOt := own_kept hO9 ((Kept.refl [b] W3).setCell (p := ⟨b, 3, none⟩) (.inl (by simp)) (.int .i64 ((gp : Int) + 1))) (fun y hy => by simp at hy; omega)
      have hKt := hk9.setCell (p := ⟨b, 3, none⟩) (.inl (by simp)) (.int .i64 ((gp : Int) + 1))
      clear hO9 hg9 hat9 hK9 hT9 hP9 hk9 t3 g3 p1 h91 h92 h93 h94 hTn hPn hKn hVn hBase hO0 hTc
      generalize W3.setCell ⟨b, 3, none⟩ (.int .i64 ((gp : Int) + 1)) = wt at *
      clear hP2 hK2 hTb
      go_loopw [6, 62] (fun v i wr => ∃ (j : Nat) (A2 : Option Addr) (d2 sj nj : Nat), j ≤ L ∧ v = .slice A2 nj d2 ∧ i = .int .i64 (j : Nat) ∧ sj = s + j ∧ nj = 1 + j ∧ wr.ownsRow (p + 1) 46 4 (.slice A2 nj d2) nj (Row.flat evSh ([(1,s,(0,false))] ++ evS s (ls.take j))) ∧ DecIs wr b r bs sj (gp+1) true q false ∧ Kept [b] w wr) (fun _ i _ => L - (intOf i).toNat)
      case atStart => exact ⟨0, _, _, _, _, by omega, rfl, rfl, rfl, rfl, by rw [List.take_zero]; show World.ownsRow _ _ _ 4 _ _ (Row.flat evSh ([(1,s,(0,false))] ++ [])); rw [List.append_nil]; exact hOt, hTt, hKt⟩
      case round =>
        obtain ⟨j, A2, d2, sj, nj, hj, rfl, rfl, hsj, hnj, hOr, hTr, hKr⟩ := hrel
        by_cases hjL : j < L
        · obtain ⟨x, rfl, _⟩ := hv.cells (by omega)
          have hvr := hv.kept hKr (fun _ y hy => by simpa using hfar y hy)
          obtain ⟨m0, m1⟩ := samp_cells hvr j hjL
          have hstp : evS s (ls.take (j + 1)) = evS s (ls.take j) ++ [(2, s + j, ls.getD j (0, false))] := by
            rw [take_step ls (0, false) j (by omega), evS_append, List.length_take, Nat.min_eq_left (by omega)]; rfl
          obtain ⟨⟨z, o⟩, hzo⟩ : ∃ q, ls.getD j (0, false) = q := ⟨_, rfl⟩
          rw [hzo, ← hsj] at hstp
          rw [hzo] at m0 m1
          dsimp only at m0 m1
          obtain ⟨E, hE⟩ : ∃ E, E = [(1,s,(0,false))] ++ evS s (ls.take j) := ⟨_, rfl⟩
          have HST := Lib.hid (show [(1,s,(0,false))] ++ evS s (ls.take (j + 1)) = E ++ [(2, sj, (z, o))] by rw [hstp, ← List.append_assoc, hE])
          rw [← hE] at hOr
          have hEl : E.length = nj := by
            rw [hE, List.length_append, evS_length, List.length_take]
            show 1 + _ = _
            omega
          clear hstp hzo hvr hTt hOt hKt hE
          have hsz : 0 ≤ (sj : Int) ∧ (sj : Int) ≤ 300000 := by omega
          have hnj9 : nj ≤ 33 := by omega
          have HSJ := Lib.hid hsj
          have HNJ := Lib.hid hnj
          clear hsj hnj
          go_wp2
          obtain ⟨m, hm⟩ : ∃ m, wr.heap.size = m := ⟨_, rfl⟩
          rw [hm]
          obtain ⟨wa, hwa⟩ : ∃ W, W = wr.alloc (.cells #[.int .i32 z, .bool o] 44) := ⟨_, rfl⟩
          rw [← hwa]
          have hMa : Has wa m 44 #[.int .i32 z, .bool o] := by rw [hwa, ← hm]; exact Has.new wr _ _
          have hTa : DecIs wa b r bs sj (gp+1) true q false := by rw [hwa]; exact Has.alloc hTr _
          have hOa : wa.ownsRow (p + 1) 46 4 (.slice A2 nj d2) nj (Row.flat evSh E) := by rw [hwa]; exact own_kept hOr ((Kept.refl [] wr).alloc _) (by simp)
          have hKa : Kept [b] w wa := by rw [hwa]; exact hKr.alloc _
          have hmA : m ∉ (Value.slice A2 nj d2).ownBlock.toList := fun hmem => by
            have := (own_block hOr m (by simpa using hmem)).2
            omega
          have hmb : m ≠ b := by have := Has.lt hTr; omega
          clear hwa hTr hOr hKr m0 m1
          refine Reg.begin_ (S := fun W => W.cell? ⟨b, 2, none⟩ = some (.int .i64 (sj : Nat)) ∧ W.cell? ⟨m, 0, none⟩ = some (.int .i32 z) ∧ W.cell? ⟨m, 1, none⟩ = some (.bool o)) (by kernel_rfl) (by exact ⟨Has.cell hTa 2, hMa.cell 0, hMa.cell 1⟩) (fun hHeld => ?_)
          have hMd : Has wa.drew m 44 #[.int .i32 z, .bool o] := hMa
          have hTd : DecIs wa.drew b r bs sj (gp+1) true q false := Has.drew hTa
          have hOd : wa.drew.ownsRow (p + 1) 46 4 (.slice A2 nj d2) nj (Row.flat evSh E) := own_kept hOa ((Kept.refl [] wa).drewN 1) (by simp)
          have hKd : Kept [b] w wa.drew := hKa.drewN 1
          generalize wa.drew = wd at *
          clear hMa hTa hOa hKa
          clear wa
          refine Reg.take (i := 0) (v := ?v25) rfl (by kernel_rfl) (by kernel_rfl) (by kernel_rfl) (by rfl) ?hv25 (by assumption) ?rest25
          case hv25 => first | (intro w hSw; (try dsimp only at hSw); go_simp; done) | (intro w hSw; (try dsimp only at hSw); go_simp; with_reducible rfl)
          (try simp only [Act.put, List.setIfInBounds_toArray, List.set_cons_zero, List.set_cons_succ])
          refine Reg.take (i := 1) (v := ?v26) rfl (by kernel_rfl) (by kernel_rfl) (by kernel_rfl) (by rfl) ?hv26 (by assumption) ?rest26
          case hv26 => first | (intro w hSw; (try dsimp only at hSw); go_simp; done) | (intro w hSw; (try dsimp only at hSw); go_simp; with_reducible rfl)
          (try simp only [Act.put, List.setIfInBounds_toArray, List.set_cons_zero, List.set_cons_succ])
          refine Reg.take (i := 2) (v := ?v27) rfl (by kernel_rfl) (by kernel_rfl) (by kernel_rfl) (by rfl) ?hv27 (by assumption) ?rest27
          case hv27 => first | (intro w hSw; (try dsimp only at hSw); go_simp; done) | (intro w hSw; (try dsimp only at hSw); go_simp; with_reducible rfl)
          (try simp only [Act.put, List.setIfInBounds_toArray, List.set_cons_zero, List.set_cons_succ])
          refine Reg.take (i := 3) (v := ?v28) rfl (by kernel_rfl) (by kernel_rfl) (by kernel_rfl) (by rfl) ?hv28 (by assumption) ?rest28
          case hv28 => first | (intro w hSw; (try dsimp only at hSw); go_simp; done) | (intro w hSw; (try dsimp only at hSw); go_simp; with_reducible rfl)
          (try simp only [Act.put, List.setIfInBounds_toArray, List.set_cons_zero, List.set_cons_succ])
          refine Reg.take (i := 4) (v := ?v29) rfl (by kernel_rfl) (by kernel_rfl) (by kernel_rfl) (by rfl) ?hv29 (by assumption) ?rest29
          case hv29 => first | (intro w hSw; (try dsimp only at hSw); go_simp; done) | (intro w hSw; (try dsimp only at hSw); go_simp; with_reducible rfl)
          (try simp only [Act.put, List.setIfInBounds_toArray, List.set_cons_zero, List.set_cons_succ])
          refine Reg.take (i := 5) (v := ?v30) rfl (by kernel_rfl) (by kernel_rfl) (by kernel_rfl) (by rfl) ?hv30 (by assumption) ?rest30
          case hv30 => first | (intro w hSw; (try dsimp only at hSw); go_simp; done) | (intro w hSw; (try dsimp only at hSw); go_simp; with_reducible rfl)
          (try simp only [Act.put, List.setIfInBounds_toArray, List.set_cons_zero, List.set_cons_succ])
          refine Reg.take (i := 6) (v := ?v31) rfl (by kernel_rfl) (by kernel_rfl) (by kernel_rfl) (by rfl) ?hv31 (by assumption) ?rest31
          case hv31 => first | (intro w hSw; (try dsimp only at hSw); go_simp; done) | (intro w hSw; (try dsimp only at hSw); go_simp; with_reducible rfl)
          (try simp only [Act.put, List.setIfInBounds_toArray, List.set_cons_zero, List.set_cons_succ])
          have hMe := hMd.alloc (.cells #[.int .i64 2, .int .i64 (sj : Nat), .int .i32 z, .bool o] 46)
          have hTe := Has.alloc hTd (.cells #[.int .i64 2, .int .i64 (sj : Nat), .int .i32 z, .bool o] 46)
          have hOe := own_kept hOd ((Kept.refl [] wd).alloc (.cells #[.int .i64 2, .int .i64 (sj : Nat), .int .i32 z, .bool o] 46)) (by simp)
          have hKe := hKd.alloc (.cells #[.int .i64 2, .int .i64 (sj : Nat), .int .i32 z, .bool o] 46)
          have hVn : Row.Vals evSh (wd.alloc (.cells #[.int .i64 2, .int .i64 (sj : Nat), .int .i32 z, .bool o] 46)) (some ⟨wd.heap.size, 0, none⟩) 1 [(2,sj,(z,o))] := one_new wd 46 (2, sj, (z, o))
          have hBase : p + 1 ≤ (wd.alloc (.cells #[.int .i64 2, .int .i64 (sj : Nat), .int .i32 z, .bool o] 46)).heap.size := by rw [World.size_alloc]; have := hKd.size; omega
          refine Reg.call (i := 7) rfl (by kernel_rfl) (by rfl) ?_
          intro K hK
          go_simp
          refine hK.out _ _ ⟨Has.cell hTe 2, hMe.cell 0, hMe.cell 1⟩ (fun hHeld2 => ?_)
          clear hK K
          (try simp only [Act.put, List.setIfInBounds_toArray, List.set_cons_zero, List.set_cons_succ])
          refine Reg.call (i := 8) rfl (by kernel_rfl) (by rfl) ?_
          intro K hK
          refine Row.wp_append (S := evSh) (.tmp 66) (.tmp 73) _ rfl (p + 1) 46 _ 24 (by omega) Try.underlying27 HInfo.out (by kernel_rfl) (.slice A2 nj d2) nj E rfl hOe (some ⟨wd.heap.size, 0, none⟩) 1 1 [(2,sj,(z,o))] rfl hVn (by omega) hBase ?_
          intro v9 W3 hO9 hg9 hat9
          obtain ⟨A9, d9, rfl, _, _, hx1, hx2⟩ := Row.Vals.own hO9
          clear hx1 hx2
          have hK9 := Kept.of_grown hg9
          have hT9 := hK9.has hTe (own_apart hOe (by omega))
          have hM9 := hK9.has hMe hmA
          have hk9 := hKe.grown hg9 (fun k hk => .inr (by have := (own_block hOe k hk).1; omega))
          refine hK.out _ _ ⟨Has.cell hT9 2, hM9.cell 0, hM9.cell 1⟩ (fun hHeld3 => ?_)
          clear hK K
          (try simp only [Act.put, List.setIfInBounds_toArray, List.set_cons_zero, List.set_cons_succ])
          refine Reg.take (i := 9) (v := ?v32) rfl (by kernel_rfl) (by kernel_rfl) (by kernel_rfl) (by rfl) ?hv32 (by assumption) ?rest32
          case hv32 => first | (intro w hSw; (try dsimp only at hSw); go_simp; done) | (intro w hSw; (try dsimp only at hSw); go_simp; with_reducible rfl)
          (try simp only [Act.put, List.setIfInBounds_toArray, List.set_cons_zero, List.set_cons_succ])
          refine Reg.done (by kernel_rfl) ?_ _
          clear hHeld hHeld2 hHeld3 hVn hBase hOe hMe hTe hKe hMd hTd hOd hKd hK9 hM9 hg9 hat9 hmA
          have t2 : W3.cell? ⟨b, 2, none⟩ = some (.int .i64 (sj : Nat)) := Has.cell hT9 2
          have g2 := Has.frozen hT9 2
          have hT5 := Has.set_ hT9 2 (.int .i64 ((sj : Int) + 1))
          have hK5 := hk9.setCell (p := ⟨b, 2, none⟩) (.inl (by simp)) (.int .i64 ((sj : Int) + 1))
          have hO5 := own_kept hO9 ((Kept.refl [b] W3).setCell (p := ⟨b, 2, none⟩) (.inl (by simp)) (.int .i64 ((sj : Int) + 1))) (fun y hy => by simp at hy; omega)
          clear hT9 hk9 hO9
          go_wp2
          go_roundw
          case rel => exact ⟨j + 1, A9, d9, sj + 1, nj + 1, by omega, rfl, by go_num, by have := HSJ.out; omega, by have := HNJ.out; omega, by rw [HST.out]; exact hO5, by simpa [DecIs] using hT5, hK5⟩
          case measure => simp [intOf]; omega
        · have hjL2 : j = L := by omega
          subst hjL2
          rw [List.take_of_length_le (by omega)] at hOr
          clear hTt hOt hKt
          obtain ⟨A9, d9, h9, h91, h92, h93, h94, _⟩ := Row.Vals.own (S := evSh) hOr
          injection h9 with e1 e2 e3
          subst e1 e3
          have HF := Lib.hid (show nj ≤ d2 ∧ d2 ≤ 9223372036854775807 ∧ nj ≤ 33 ∧ Row.Vals evSh wr A2 nj (metT false true last s q ls) ∧ (∀ x, A2 = some x → p ≤ x.block) ∧
              DecIs wr b r bs (s + countL 2 (metT false true last s q ls)) (gp + countL 1 (metT false true last s q ls)) true q (!dIn false last q) ∧ Kept [b] w wr by
            rw [hI, hmet, hc1, hc2, hll]
            exact ⟨h91, h92, by omega, h93, (fun x hx => by have := (h94 x hx).1; omega), by rw [← hsj]; exact hTr, hKr⟩)
          clear hI hmet hc1 hc2 hsj hnj h91 h92 h93 h94 hOr hTr hKr
          go_wp2
          go_ret
          exact ⟨_, _, _, rfl, HF.out⟩
  | true =>
    by_cases hqn : q = q1
    · have hI : dIn true last q = true := by simp [dIn, hq1, hqn]
      subst hqn
      cases br with
      | false =>
        go_enter Try.func23, Try.ntmps23
        go_wp2
        go_quiet ((go_at_call 38; exact Calls.quiet_of (hnxt _)))
        go_wp2
        obtain ⟨w0, hw0⟩ : ∃ W, W = (w.alloc (.cells #[.int .u8 (q : Nat), .slice A L c] 52)).drewN nq := ⟨_, rfl⟩
        rw [← hw0]
        have hk0 : Kept [] w w0 := by rw [hw0]; exact hkA.drewN nq
        have hT0 := show DecIs w0 b r bs s gp _ last _ from (by rw [hw0]; exact Has.drewN hTA nq)
        have hP0 : Has w0 p 52 #[.int .u8 (q : Nat), .slice A L c] := by rw [hw0]; exact hPA.drewN nq
        clear hw0 hkA hTA hPA c4 c5 c6 p0 f4 f5 f6 hnxt h
        refine Reg.begin_ (S := fun W => W.cell? ⟨p, 0, none⟩ = some (.int .u8 (q : Nat))) (by kernel_rfl) (by exact hP0.cell 0) (fun hHeld => ?_)
        have hTd := show DecIs w0.drew b r bs s gp _ last _ from Has.drew hT0
        have hPd : Has w0.drew p 52 #[.int .u8 (q : Nat), .slice A L c] := hP0
        have hKd : Kept [] w w0.drew := hk0.drewN 1
        generalize w0.drew = wd at *
        clear hk0 hT0 hP0
        refine Reg.take (i := 0) (v := ?v33) rfl (by kernel_rfl) (by kernel_rfl) (by kernel_rfl) (by rfl) ?hv33 (by assumption) ?rest33
        case hv33 => first | (intro w hSw; (try dsimp only at hSw); go_simp; done) | (intro w hSw; (try dsimp only at hSw); go_simp; with_reducible rfl)
        (try simp only [Act.put, List.setIfInBounds_toArray, List.set_cons_zero, List.set_cons_succ])
        refine Reg.take (i := 1) (v := ?v34) rfl (by kernel_rfl) (by kernel_rfl) (by kernel_rfl) (by rfl) ?hv34 (by assumption) ?rest34
        case hv34 => first | (intro w hSw; (try dsimp only at hSw); go_simp; done) | (intro w hSw; (try dsimp only at hSw); go_simp; with_reducible rfl)
        (try simp only [Act.put, List.setIfInBounds_toArray, List.set_cons_zero, List.set_cons_succ])
        refine Reg.take (i := 2) (v := ?v35) rfl (by kernel_rfl) (by kernel_rfl) (by kernel_rfl) (by rfl) ?hv35 (by assumption) ?rest35
        case hv35 => first | (intro w hSw; (try dsimp only at hSw); go_simp; done) | (intro w hSw; (try dsimp only at hSw); go_simp; with_reducible rfl)
        (try simp only [Act.put, List.setIfInBounds_toArray, List.set_cons_zero, List.set_cons_succ])
        refine Reg.take (i := 3) (v := ?v36) rfl (by kernel_rfl) (by kernel_rfl) (by kernel_rfl) (by rfl) ?hv36 (by assumption) ?rest36
        case hv36 => first | (intro w hSw; (try dsimp only at hSw); go_simp; done) | (intro w hSw; (try dsimp only at hSw); go_simp; with_reducible rfl)
        (try simp only [Act.put, List.setIfInBounds_toArray, List.set_cons_zero, List.set_cons_succ])
        refine Reg.take (i := 4) (v := ?v37) rfl (by kernel_rfl) (by kernel_rfl) (by kernel_rfl) (by rfl) ?hv37 (by assumption) ?rest37
        case hv37 => first | (intro w hSw; (try dsimp only at hSw); go_simp; done) | (intro w hSw; (try dsimp only at hSw); go_simp; with_reducible rfl)
        (try simp only [Act.put, List.setIfInBounds_toArray, List.set_cons_zero, List.set_cons_succ])
        refine Reg.take (i := 5) (v := ?v38) rfl (by kernel_rfl) (by kernel_rfl) (by kernel_rfl) (by rfl) ?hv38 (by assumption) ?rest38
        case hv38 => first | (intro w hSw; (try dsimp only at hSw); go_simp; done) | (intro w hSw; (try dsimp only at hSw); go_simp; with_reducible rfl)
        (try simp only [Act.put, List.setIfInBounds_toArray, List.set_cons_zero, List.set_cons_succ])
        have t4 := Has.cell hTd 4
        have g4 := Has.frozen hTd 4
        refine Reg.call (i := 6) rfl (by kernel_rfl) (by rfl) ?_
        intro K hK
        go_simp
        have hT1 := Has.set_ hTd 4 (.bool true)
        have hP1 := hPd.far (p := ⟨b, 4, none⟩) (by show p ≠ b; omega) (.bool true)
        have hK1 := (hKd.wide (T := [b]) (by simp)).setCell (p := ⟨b, 4, none⟩) (.inl (by simp)) (.bool true)
        refine hK.out _ _ (hP1.cell 0) (fun hHeld2 => ?_)
        clear hK K
        (try simp only [Act.put, List.setIfInBounds_toArray, List.set_cons_zero, List.set_cons_succ])
        refine Reg.take (i := 7) (v := ?v39) rfl (by kernel_rfl) (by kernel_rfl) (by kernel_rfl) (by rfl) ?hv39 (by assumption) ?rest39
        case hv39 => first | (intro w hSw; (try dsimp only at hSw); go_simp; done) | (intro w hSw; (try dsimp only at hSw); go_simp; with_reducible rfl)
        (try simp only [Act.put, List.setIfInBounds_toArray, List.set_cons_zero, List.set_cons_succ])
        refine Reg.take (i := 8) (v := ?v40) rfl (by kernel_rfl) (by kernel_rfl) (by kernel_rfl) (by rfl) ?hv40 (by assumption) ?rest40
        case hv40 => first | (intro w hSw; (try dsimp only at hSw); go_simp; done) | (intro w hSw; (try dsimp only at hSw); go_simp; with_reducible rfl)
        (try simp only [Act.put, List.setIfInBounds_toArray, List.set_cons_zero, List.set_cons_succ])
        have t5 := hT1.cell 5
        have g5 := hT1.frozen 5
        refine Reg.call (i := 9) rfl (by kernel_rfl) (by rfl) ?_
        intro K hK
        go_simp
        have hT2 := hT1.set_ 5 (.int .u8 (q : Nat))
        have hP2 := hP1.far (p := ⟨b, 5, none⟩) (by show p ≠ b; omega) (.int .u8 (q : Nat))
        have hK2 := hK1.setCell (p := ⟨b, 5, none⟩) (.inl (by simp)) (.int .u8 (q : Nat))
        refine hK.out _ _ (hP2.cell 0) (fun hHeld3 => ?_)
        clear hK K
        (try simp only [Act.put, List.setIfInBounds_toArray, List.set_cons_zero, List.set_cons_succ])
        refine Reg.done (by kernel_rfl) ?_ _
        clear t4 g4 t5 g5 hHeld hHeld2 hHeld3
        have hTb : DecIs ((wd.setCell ⟨b, 4, none⟩ (.bool true)).setCell ⟨b, 5, none⟩ (.int .u8 (q : Nat))) b r bs s gp true q false := by simpa [DecIs] using hT2
        generalize (wd.setCell ⟨b, 4, none⟩ (.bool true)).setCell ⟨b, 5, none⟩ (.int .u8 (q : Nat)) = wb at *
        clear hTd hPd hKd hT1 hP1 hK1 hT2
        clear wd
        have t6 : wb.cell? ⟨b, 6, none⟩ = some (.bool false) := Has.cell hTb 6
        have p1 : wb.cell? ⟨p, 1, none⟩ = some (.slice A L c) := hP2.cell 1
        have hmet : metT true false last s q ls = evS s ls := by unfold metT; rw [hI]; rfl
        have hc1 : countL 2 (evS s ls) = ls.length := (count_evS s ls).1
        have hc2 : countL 1 (evS s ls) = 0 := (count_evS s ls).2
        go_wp2
        have hOt := Row.own_none (S := evSh) wb (p + 1) 46
        have hTt := hTb
        have hKt := hK2
        clear hP2 hK2 hTb
        go_loopw [6, 62] (fun v i wr => ∃ (j : Nat) (A2 : Option Addr) (d2 sj nj : Nat), j ≤ L ∧ v = .slice A2 nj d2 ∧ i = .int .i64 (j : Nat) ∧ sj = s + j ∧ nj = 0 + j ∧ wr.ownsRow (p + 1) 46 4 (.slice A2 nj d2) nj (Row.flat evSh ([] ++ evS s (ls.take j))) ∧ DecIs wr b r bs sj (gp) true q false ∧ Kept [b] w wr) (fun _ i _ => L - (intOf i).toNat)
        case atStart => exact ⟨0, _, _, _, _, by omega, rfl, rfl, rfl, rfl, by rw [List.take_zero]; show World.ownsRow _ _ _ 4 _ _ (Row.flat evSh ([] ++ [])); rw [List.append_nil]; exact hOt, hTt, hKt⟩
        case round =>
          obtain ⟨j, A2, d2, sj, nj, hj, rfl, rfl, hsj, hnj, hOr, hTr, hKr⟩ := hrel
          by_cases hjL : j < L
          · obtain ⟨x, rfl, _⟩ := hv.cells (by omega)
            have hvr := hv.kept hKr (fun _ y hy => by simpa using hfar y hy)
            obtain ⟨m0, m1⟩ := samp_cells hvr j hjL
            have hstp : evS s (ls.take (j + 1)) = evS s (ls.take j) ++ [(2, s + j, ls.getD j (0, false))] := by
              rw [take_step ls (0, false) j (by omega), evS_append, List.length_take, Nat.min_eq_left (by omega)]; rfl
            obtain ⟨⟨z, o⟩, hzo⟩ : ∃ q, ls.getD j (0, false) = q := ⟨_, rfl⟩
            rw [hzo, ← hsj] at hstp
            rw [hzo] at m0 m1
            dsimp only at m0 m1
            obtain ⟨E, hE⟩ : ∃ E, E = [] ++ evS s (ls.take j) := ⟨_, rfl⟩
            have HST := Lib.hid (show [] ++ evS s (ls.take (j + 1)) = E ++ [(2, sj, (z, o))] by rw [hstp, ← List.append_assoc, hE])
            rw [← hE] at hOr
            have hEl : E.length = nj := by
              rw [hE, List.length_append, evS_length, List.length_take]
              show 0 + _ = _
              omega
            clear hstp hzo hvr hTt hOt hKt hE
            have hsz : 0 ≤ (sj : Int) ∧ (sj : Int) ≤ 300000 := by omega
            have hnj9 : nj ≤ 33 := by omega
            have HSJ := Lib.hid hsj
            have HNJ := Lib.hid hnj
            clear hsj hnj
            go_wp2
            obtain ⟨m, hm⟩ : ∃ m, wr.heap.size = m := ⟨_, rfl⟩
            rw [hm]
            obtain ⟨wa, hwa⟩ : ∃ W, W = wr.alloc (.cells #[.int .i32 z, .bool o] 44) := ⟨_, rfl⟩
            rw [← hwa]
            have hMa : Has wa m 44 #[.int .i32 z, .bool o] := by rw [hwa, ← hm]; exact Has.new wr _ _
            have hTa : DecIs wa b r bs sj (gp) true q false := by rw [hwa]; exact Has.alloc hTr _
            have hOa : wa.ownsRow (p + 1) 46 4 (.slice A2 nj d2) nj (Row.flat evSh E) := by rw [hwa]; exact own_kept hOr ((Kept.refl [] wr).alloc _) (by simp)
            have hKa : Kept [b] w wa := by rw [hwa]; exact hKr.alloc _
            have hmA : m ∉ (Value.slice A2 nj d2).ownBlock.toList := fun hmem => by
              have := (own_block hOr m (by simpa using hmem)).2
              omega
            have hmb : m ≠ b := by have := Has.lt hTr; omega
            clear hwa hTr hOr hKr m0 m1
            refine Reg.begin_ (S := fun W => W.cell? ⟨b, 2, none⟩ = some (.int .i64 (sj : Nat)) ∧ W.cell? ⟨m, 0, none⟩ = some (.int .i32 z) ∧ W.cell? ⟨m, 1, none⟩ = some (.bool o)) (by kernel_rfl) (by exact ⟨Has.cell hTa 2, hMa.cell 0, hMa.cell 1⟩) (fun hHeld => ?_)
            have hMd : Has wa.drew m 44 #[.int .i32 z, .bool o] := hMa
            have hTd : DecIs wa.drew b r bs sj (gp) true q false := Has.drew hTa
            have hOd : wa.drew.ownsRow (p + 1) 46 4 (.slice A2 nj d2) nj (Row.flat evSh E) := own_kept hOa ((Kept.refl [] wa).drewN 1) (by simp)
            have hKd : Kept [b] w wa.drew := hKa.drewN 1
            generalize wa.drew = wd at *
            clear hMa hTa hOa hKa
            clear wa
            refine Reg.take (i := 0) (v := ?v41) rfl (by kernel_rfl) (by kernel_rfl) (by kernel_rfl) (by rfl) ?hv41 (by assumption) ?rest41
            case hv41 => first | (intro w hSw; (try dsimp only at hSw); go_simp; done) | (intro w hSw; (try dsimp only at hSw); go_simp; with_reducible rfl)
            (try simp only [Act.put, List.setIfInBounds_toArray, List.set_cons_zero, List.set_cons_succ])
            refine Reg.take (i := 1) (v := ?v42) rfl (by kernel_rfl) (by kernel_rfl) (by kernel_rfl) (by rfl) ?hv42 (by assumption) ?rest42
            case hv42 => first | (intro w hSw; (try dsimp only at hSw); go_simp; done) | (intro w hSw; (try dsimp only at hSw); go_simp; with_reducible rfl)
            (try simp only [Act.put, List.setIfInBounds_toArray, List.set_cons_zero, List.set_cons_succ])
            refine Reg.take (i := 2) (v := ?v43) rfl (by kernel_rfl) (by kernel_rfl) (by kernel_rfl) (by rfl) ?hv43 (by assumption) ?rest43
            case hv43 => first | (intro w hSw; (try dsimp only at hSw); go_simp; done) | (intro w hSw; (try dsimp only at hSw); go_simp; with_reducible rfl)
            (try simp only [Act.put, List.setIfInBounds_toArray, List.set_cons_zero, List.set_cons_succ])
            refine Reg.take (i := 3) (v := ?v44) rfl (by kernel_rfl) (by kernel_rfl) (by kernel_rfl) (by rfl) ?hv44 (by assumption) ?rest44
            case hv44 => first | (intro w hSw; (try dsimp only at hSw); go_simp; done) | (intro w hSw; (try dsimp only at hSw); go_simp; with_reducible rfl)
            (try simp only [Act.put, List.setIfInBounds_toArray, List.set_cons_zero, List.set_cons_succ])
            refine Reg.take (i := 4) (v := ?v45) rfl (by kernel_rfl) (by kernel_rfl) (by kernel_rfl) (by rfl) ?hv45 (by assumption) ?rest45
            case hv45 => first | (intro w hSw; (try dsimp only at hSw); go_simp; done) | (intro w hSw; (try dsimp only at hSw); go_simp; with_reducible rfl)
            (try simp only [Act.put, List.setIfInBounds_toArray, List.set_cons_zero, List.set_cons_succ])
            refine Reg.take (i := 5) (v := ?v46) rfl (by kernel_rfl) (by kernel_rfl) (by kernel_rfl) (by rfl) ?hv46 (by assumption) ?rest46
            case hv46 => first | (intro w hSw; (try dsimp only at hSw); go_simp; done) | (intro w hSw; (try dsimp only at hSw); go_simp; with_reducible rfl)
            (try simp only [Act.put, List.setIfInBounds_toArray, List.set_cons_zero, List.set_cons_succ])
            refine Reg.take (i := 6) (v := ?v47) rfl (by kernel_rfl) (by kernel_rfl) (by kernel_rfl) (by rfl) ?hv47 (by assumption) ?rest47
            case hv47 => first | (intro w hSw; (try dsimp only at hSw); go_simp; done) | (intro w hSw; (try dsimp only at hSw); go_simp; with_reducible rfl)
            (try simp only [Act.put, List.setIfInBounds_toArray, List.set_cons_zero, List.set_cons_succ])
            have hMe := hMd.alloc (.cells #[.int .i64 2, .int .i64 (sj : Nat), .int .i32 z, .bool o] 46)
            have hTe := Has.alloc hTd (.cells #[.int .i64 2, .int .i64 (sj : Nat), .int .i32 z, .bool o] 46)
            have hOe := own_kept hOd ((Kept.refl [] wd).alloc (.cells #[.int .i64 2, .int .i64 (sj : Nat), .int .i32 z, .bool o] 46)) (by simp)
            have hKe := hKd.alloc (.cells #[.int .i64 2, .int .i64 (sj : Nat), .int .i32 z, .bool o] 46)
            have hVn : Row.Vals evSh (wd.alloc (.cells #[.int .i64 2, .int .i64 (sj : Nat), .int .i32 z, .bool o] 46)) (some ⟨wd.heap.size, 0, none⟩) 1 [(2,sj,(z,o))] := one_new wd 46 (2, sj, (z, o))
            have hBase : p + 1 ≤ (wd.alloc (.cells #[.int .i64 2, .int .i64 (sj : Nat), .int .i32 z, .bool o] 46)).heap.size := by rw [World.size_alloc]; have := hKd.size; omega
            refine Reg.call (i := 7) rfl (by kernel_rfl) (by rfl) ?_
            intro K hK
            go_simp
            refine hK.out _ _ ⟨Has.cell hTe 2, hMe.cell 0, hMe.cell 1⟩ (fun hHeld2 => ?_)
            clear hK K
            (try simp only [Act.put, List.setIfInBounds_toArray, List.set_cons_zero, List.set_cons_succ])
            refine Reg.call (i := 8) rfl (by kernel_rfl) (by rfl) ?_
            intro K hK
            refine Row.wp_append (S := evSh) (.tmp 66) (.tmp 73) _ rfl (p + 1) 46 _ 24 (by omega) Try.underlying27 HInfo.out (by kernel_rfl) (.slice A2 nj d2) nj E rfl hOe (some ⟨wd.heap.size, 0, none⟩) 1 1 [(2,sj,(z,o))] rfl hVn (by omega) hBase ?_
            intro v9 W3 hO9 hg9 hat9
            obtain ⟨A9, d9, rfl, _, _, hx1, hx2⟩ := Row.Vals.own hO9
            clear hx1 hx2
            have hK9 := Kept.of_grown hg9
            have hT9 := hK9.has hTe (own_apart hOe (by omega))
            have hM9 := hK9.has hMe hmA
            have hk9 := hKe.grown hg9 (fun k hk => .inr (by have := (own_block hOe k hk).1; omega))
            refine hK.out _ _ ⟨Has.cell hT9 2, hM9.cell 0, hM9.cell 1⟩ (fun hHeld3 => ?_)
            clear hK K
            (try simp only [Act.put, List.setIfInBounds_toArray, List.set_cons_zero, List.set_cons_succ])
            refine Reg.take (i := 9) (v := ?v48) rfl (by kernel_rfl) (by kernel_rfl) (by kernel_rfl) (by rfl) ?hv48 (by assumption) ?rest48
            case hv48 => first | (intro w hSw; (try dsimp only at hSw); go_simp; done) | (intro w hSw; (try dsimp only at hSw); go_simp; with_reducible rfl)
            (try simp only [Act.put, List.setIfInBounds_toArray, List.set_cons_zero, List.set_cons_succ])
            refine Reg.done (by kernel_rfl) ?_ _
            clear hHeld hHeld2 hHeld3 hVn hBase hOe hMe hTe hKe hMd hTd hOd hKd hK9 hM9 hg9 hat9 hmA
            have t2 : W3.cell? ⟨b, 2, none⟩ = some (.int .i64 (sj : Nat)) := Has.cell hT9 2
            have g2 := Has.frozen hT9 2
            have hT5 := Has.set_ hT9 2 (.int .i64 ((sj : Int) + 1))
            have hK5 := hk9.setCell (p := ⟨b, 2, none⟩) (.inl (by simp)) (.int .i64 ((sj : Int) + 1))
            have hO5 := own_kept hO9 ((Kept.refl [b] W3).setCell (p := ⟨b, 2, none⟩) (.inl (by simp)) (.int .i64 ((sj : Int) + 1))) (fun y hy => by simp at hy; omega)
            clear hT9 hk9 hO9
            go_wp2
            go_roundw
            case rel => exact ⟨j + 1, A9, d9, sj + 1, nj + 1, by omega, rfl, by go_num, by have := HSJ.out; omega, by have := HNJ.out; omega, by rw [HST.out]; exact hO5, by simpa [DecIs] using hT5, hK5⟩
            case measure => simp [intOf]; omega
          · have hjL2 : j = L := by omega
            subst hjL2
            rw [List.take_of_length_le (by omega)] at hOr
            clear hTt hOt hKt
            obtain ⟨A9, d9, h9, h91, h92, h93, h94, _⟩ := Row.Vals.own (S := evSh) hOr
            injection h9 with e1 e2 e3
            subst e1 e3
            have HF := Lib.hid (show nj ≤ d2 ∧ d2 ≤ 9223372036854775807 ∧ nj ≤ 33 ∧ Row.Vals evSh wr A2 nj (metT true false last s q ls) ∧ (∀ x, A2 = some x → p ≤ x.block) ∧
                DecIs wr b r bs (s + countL 2 (metT true false last s q ls)) (gp + countL 1 (metT true false last s q ls)) true q (!dIn true last q) ∧ Kept [b] w wr by
              rw [hI, hmet, hc1, hc2, hll]
              exact ⟨h91, h92, by omega, h93, (fun x hx => by have := (h94 x hx).1; omega), by rw [← hsj]; exact hTr, hKr⟩)
            clear hI hmet hc1 hc2 hsj hnj h91 h92 h93 h94 hOr hTr hKr
            go_wp2
            go_ret
            exact ⟨_, _, _, rfl, HF.out⟩
      | true =>
        go_enter Try.func23, Try.ntmps23
        go_wp2
        go_quiet ((go_at_call 38; exact Calls.quiet_of (hnxt _)))
        go_wp2
        obtain ⟨w0, hw0⟩ : ∃ W, W = (w.alloc (.cells #[.int .u8 (q : Nat), .slice A L c] 52)).drewN nq := ⟨_, rfl⟩
        rw [← hw0]
        have hk0 : Kept [] w w0 := by rw [hw0]; exact hkA.drewN nq
        have hT0 := show DecIs w0 b r bs s gp _ last _ from (by rw [hw0]; exact Has.drewN hTA nq)
        have hP0 : Has w0 p 52 #[.int .u8 (q : Nat), .slice A L c] := by rw [hw0]; exact hPA.drewN nq
        clear hw0 hkA hTA hPA c4 c5 c6 p0 f4 f5 f6 hnxt h
        refine Reg.begin_ (S := fun W => W.cell? ⟨p, 0, none⟩ = some (.int .u8 (q : Nat))) (by kernel_rfl) (by exact hP0.cell 0) (fun hHeld => ?_)
        have hTd := show DecIs w0.drew b r bs s gp _ last _ from Has.drew hT0
        have hPd : Has w0.drew p 52 #[.int .u8 (q : Nat), .slice A L c] := hP0
        have hKd : Kept [] w w0.drew := hk0.drewN 1
        generalize w0.drew = wd at *
        clear hk0 hT0 hP0
        refine Reg.take (i := 0) (v := ?v49) rfl (by kernel_rfl) (by kernel_rfl) (by kernel_rfl) (by rfl) ?hv49 (by assumption) ?rest49
        case hv49 => first | (intro w hSw; (try dsimp only at hSw); go_simp; done) | (intro w hSw; (try dsimp only at hSw); go_simp; with_reducible rfl)
        (try simp only [Act.put, List.setIfInBounds_toArray, List.set_cons_zero, List.set_cons_succ])
        refine Reg.take (i := 1) (v := ?v50) rfl (by kernel_rfl) (by kernel_rfl) (by kernel_rfl) (by rfl) ?hv50 (by assumption) ?rest50
        case hv50 => first | (intro w hSw; (try dsimp only at hSw); go_simp; done) | (intro w hSw; (try dsimp only at hSw); go_simp; with_reducible rfl)
        (try simp only [Act.put, List.setIfInBounds_toArray, List.set_cons_zero, List.set_cons_succ])
        refine Reg.take (i := 2) (v := ?v51) rfl (by kernel_rfl) (by kernel_rfl) (by kernel_rfl) (by rfl) ?hv51 (by assumption) ?rest51
        case hv51 => first | (intro w hSw; (try dsimp only at hSw); go_simp; done) | (intro w hSw; (try dsimp only at hSw); go_simp; with_reducible rfl)
        (try simp only [Act.put, List.setIfInBounds_toArray, List.set_cons_zero, List.set_cons_succ])
        refine Reg.take (i := 3) (v := ?v52) rfl (by kernel_rfl) (by kernel_rfl) (by kernel_rfl) (by rfl) ?hv52 (by assumption) ?rest52
        case hv52 => first | (intro w hSw; (try dsimp only at hSw); go_simp; done) | (intro w hSw; (try dsimp only at hSw); go_simp; with_reducible rfl)
        (try simp only [Act.put, List.setIfInBounds_toArray, List.set_cons_zero, List.set_cons_succ])
        refine Reg.take (i := 4) (v := ?v53) rfl (by kernel_rfl) (by kernel_rfl) (by kernel_rfl) (by rfl) ?hv53 (by assumption) ?rest53
        case hv53 => first | (intro w hSw; (try dsimp only at hSw); go_simp; done) | (intro w hSw; (try dsimp only at hSw); go_simp; with_reducible rfl)
        (try simp only [Act.put, List.setIfInBounds_toArray, List.set_cons_zero, List.set_cons_succ])
        refine Reg.take (i := 5) (v := ?v54) rfl (by kernel_rfl) (by kernel_rfl) (by kernel_rfl) (by rfl) ?hv54 (by assumption) ?rest54
        case hv54 => first | (intro w hSw; (try dsimp only at hSw); go_simp; done) | (intro w hSw; (try dsimp only at hSw); go_simp; with_reducible rfl)
        (try simp only [Act.put, List.setIfInBounds_toArray, List.set_cons_zero, List.set_cons_succ])
        have t4 := Has.cell hTd 4
        have g4 := Has.frozen hTd 4
        refine Reg.call (i := 6) rfl (by kernel_rfl) (by rfl) ?_
        intro K hK
        go_simp
        have hT1 := Has.set_ hTd 4 (.bool true)
        have hP1 := hPd.far (p := ⟨b, 4, none⟩) (by show p ≠ b; omega) (.bool true)
        have hK1 := (hKd.wide (T := [b]) (by simp)).setCell (p := ⟨b, 4, none⟩) (.inl (by simp)) (.bool true)
        refine hK.out _ _ (hP1.cell 0) (fun hHeld2 => ?_)
        clear hK K
        (try simp only [Act.put, List.setIfInBounds_toArray, List.set_cons_zero, List.set_cons_succ])
        refine Reg.take (i := 7) (v := ?v55) rfl (by kernel_rfl) (by kernel_rfl) (by kernel_rfl) (by rfl) ?hv55 (by assumption) ?rest55
        case hv55 => first | (intro w hSw; (try dsimp only at hSw); go_simp; done) | (intro w hSw; (try dsimp only at hSw); go_simp; with_reducible rfl)
        (try simp only [Act.put, List.setIfInBounds_toArray, List.set_cons_zero, List.set_cons_succ])
        refine Reg.take (i := 8) (v := ?v56) rfl (by kernel_rfl) (by kernel_rfl) (by kernel_rfl) (by rfl) ?hv56 (by assumption) ?rest56
        case hv56 => first | (intro w hSw; (try dsimp only at hSw); go_simp; done) | (intro w hSw; (try dsimp only at hSw); go_simp; with_reducible rfl)
        (try simp only [Act.put, List.setIfInBounds_toArray, List.set_cons_zero, List.set_cons_succ])
        have t5 := hT1.cell 5
        have g5 := hT1.frozen 5
        refine Reg.call (i := 9) rfl (by kernel_rfl) (by rfl) ?_
        intro K hK
        go_simp
        have hT2 := hT1.set_ 5 (.int .u8 (q : Nat))
        have hP2 := hP1.far (p := ⟨b, 5, none⟩) (by show p ≠ b; omega) (.int .u8 (q : Nat))
        have hK2 := hK1.setCell (p := ⟨b, 5, none⟩) (.inl (by simp)) (.int .u8 (q : Nat))
        refine hK.out _ _ (hP2.cell 0) (fun hHeld3 => ?_)
        clear hK K
        (try simp only [Act.put, List.setIfInBounds_toArray, List.set_cons_zero, List.set_cons_succ])
        refine Reg.done (by kernel_rfl) ?_ _
        clear t4 g4 t5 g5 hHeld hHeld2 hHeld3
        have hTb : DecIs ((wd.setCell ⟨b, 4, none⟩ (.bool true)).setCell ⟨b, 5, none⟩ (.int .u8 (q : Nat))) b r bs s gp true q true := by simpa [DecIs] using hT2
        generalize (wd.setCell ⟨b, 4, none⟩ (.bool true)).setCell ⟨b, 5, none⟩ (.int .u8 (q : Nat)) = wb at *
        clear hTd hPd hKd hT1 hP1 hK1 hT2
        clear wd
        have t2 : wb.cell? ⟨b, 2, none⟩ = some (.int .i64 (s : Nat)) := Has.cell hTb 2
        have t6 : wb.cell? ⟨b, 6, none⟩ = some (.bool true) := Has.cell hTb 6
        have g6 := Has.frozen hTb 6
        have hTc : DecIs (wb.setCell ⟨b, 6, none⟩ (.bool false)) b r bs s gp true q false := by have := Has.set_ hTb 6 (.bool false); simpa [DecIs] using this
        have hTn := Has.alloc hTc (.cells #[.int .i64 1, .int .i64 (s : Nat), .int .i32 0, .bool false] 46)
        have hPn := (hP2.far (p := ⟨b, 6, none⟩) (by show p ≠ b; omega) (.bool false)).alloc (.cells #[.int .i64 1, .int .i64 (s : Nat), .int .i32 0, .bool false] 46)
        have hKn := (hK2.setCell (p := ⟨b, 6, none⟩) (.inl (by simp)) (.bool false)).alloc (.cells #[.int .i64 1, .int .i64 (s : Nat), .int .i32 0, .bool false] 46)
        have hVn : Row.Vals evSh ((wb.setCell ⟨b, 6, none⟩ (.bool false)).alloc (.cells #[.int .i64 1, .int .i64 (s : Nat), .int .i32 0, .bool false] 46)) (some ⟨wb.heap.size, 0, none⟩) 1 [(1, s, (0, false))] := by
          have := one_new (wb.setCell ⟨b, 6, none⟩ (.bool false)) 46 (1, s, (0, false))
          rw [World.size_setCell] at this
          exact this
        have hBase : p + 1 ≤ ((wb.setCell ⟨b, 6, none⟩ (.bool false)).alloc (.cells #[.int .i64 1, .int .i64 (s : Nat), .int .i32 0, .bool false] 46)).heap.size := hPn.lt
        have hO0 := Row.own_none (S := evSh) ((wb.setCell ⟨b, 6, none⟩ (.bool false)).alloc (.cells #[.int .i64 1, .int .i64 (s : Nat), .int .i32 0, .bool false] 46)) (p + 1) 46
        have hgz : 0 ≤ (gp : Int) ∧ (gp : Int) ≤ 300000 := by omega
        have hmet : metT true true last s q ls = [(1, s, (0, false))] ++ evS s ls := by unfold metT; rw [hI]; rfl
        have hc1 : countL 2 ([(1, s, (0, false))] ++ evS s ls) = ls.length := by rw [countL_append, (count_evS s ls).1]; show 0 + _ = _; omega
        have hc2 : countL 1 ([(1, s, (0, false))] ++ evS s ls) = 1 := by rw [countL_append, (count_evS s ls).2]; rfl
        go_wp2_with (at_builtin; refine Row.wpList_append (S := evSh) rfl (.tmp 44) (.tmp 50) _ rfl (p + 1) 46 _ 24 (by omega) Try.underlying27 HInfo.out (by kernel_rfl) (.slice none 0 0) 0 [] rfl (by exact hO0) _ 1 1 [(1, s, (0, false))] rfl (by exact hVn) (by omega) (by exact hBase) ?_; intro v9 W3 hO9 hg9 hat9; have hK9 := (Kept.of_grown hg9); have hT9 := (hK9.has hTn (own_apart hO0 (by omega))); have hP9 := (hK9.has hPn (own_apart hO0 (by omega))); have hk9 := (hKn.grown hg9 (fun k hk => by cases hk)); have t3 := (Has.cell hT9 3); have g3 := (Has.frozen hT9 3); have p1 := (hP9.cell 1); obtain ⟨A9, d9, rfl, h91, h92, h93, h94⟩ := (Row.Vals.own hO9))
        have hTt : DecIs (W3.setCell ⟨b, 3, none⟩ (.int .i64 ((gp : Int) + 1))) b r bs s (gp + 1) true q false := by have := Has.set_ hT9 3 (.int .i64 ((gp : Int) + 1)); simpa [DecIs] using this
        have hOt := own_kept hO9 ((Kept.refl [b] W3).setCell (p := ⟨b, 3, none⟩) (.inl (by simp)) (.int .i64 ((gp : Int) + 1))) (fun y hy => by simp at hy; omega)
        have hKt := hk9.setCell (p := ⟨b, 3, none⟩) (.inl (by simp)) (.int .i64 ((gp : Int) + 1))
        clear hO9 hg9 hat9 hK9 hT9 hP9 hk9 t3 g3 p1 h91 h92 h93 h94 hTn hPn hKn hVn hBase hO0 hTc
        generalize W3.setCell ⟨b, 3, none⟩ (.int .i64 ((gp : Int) + 1)) = wt at *
        clear hP2 hK2 hTb
        go_loopw [6, 62] (fun v i wr => ∃ (j : Nat) (A2 : Option Addr) (d2 sj nj : Nat), j ≤ L ∧ v = .slice A2 nj d2 ∧ i = .int .i64 (j : Nat) ∧ sj = s + j ∧ nj = 1 + j ∧ wr.ownsRow (p + 1) 46 4 (.slice A2 nj d2) nj (Row.flat evSh ([(1,s,(0,false))] ++ evS s (ls.take j))) ∧ DecIs wr b r bs sj (gp+1) true q false ∧ Kept [b] w wr) (fun _ i _ => L - (intOf i).toNat)
        case atStart => exact ⟨0, _, _, _, _, by omega, rfl, rfl, rfl, rfl, by rw [List.take_zero]; show World.ownsRow _ _ _ 4 _ _ (Row.flat evSh ([(1,s,(0,false))] ++ [])); rw [List.append_nil]; exact hOt, hTt, hKt⟩
        case round =>
          obtain ⟨j, A2, d2, sj, nj, hj, rfl, rfl, hsj, hnj, hOr, hTr, hKr⟩ := hrel
          by_cases hjL : j < L
          · obtain ⟨x, rfl, _⟩ := hv.cells (by omega)
            have hvr := hv.kept hKr (fun _ y hy => by simpa using hfar y hy)
            obtain ⟨m0, m1⟩ := samp_cells hvr j hjL
            have hstp : evS s (ls.take (j + 1)) = evS s (ls.take j) ++ [(2, s + j, ls.getD j (0, false))] := by
              rw [take_step ls (0, false) j (by omega), evS_append, List.length_take, Nat.min_eq_left (by omega)]; rfl
            obtain ⟨⟨z, o⟩, hzo⟩ : ∃ q, ls.getD j (0, false) = q := ⟨_, rfl⟩
            rw [hzo, ← hsj] at hstp
            rw [hzo] at m0 m1
            dsimp only at m0 m1
            obtain ⟨E, hE⟩ : ∃ E, E = [(1,s,(0,false))] ++ evS s (ls.take j) := ⟨_, rfl⟩
            have HST := Lib.hid (show [(1,s,(0,false))] ++ evS s (ls.take (j + 1)) = E ++ [(2, sj, (z, o))] by rw [hstp, ← List.append_assoc, hE])
            rw [← hE] at hOr
            have hEl : E.length = nj := by
              rw [hE, List.length_append, evS_length, List.length_take]
              show 1 + _ = _
              omega
            clear hstp hzo hvr hTt hOt hKt hE
            have hsz : 0 ≤ (sj : Int) ∧ (sj : Int) ≤ 300000 := by omega
            have hnj9 : nj ≤ 33 := by omega
            have HSJ := Lib.hid hsj
            have HNJ := Lib.hid hnj
            clear hsj hnj
            go_wp2
            obtain ⟨m, hm⟩ : ∃ m, wr.heap.size = m := ⟨_, rfl⟩
            rw [hm]
            obtain ⟨wa, hwa⟩ : ∃ W, W = wr.alloc (.cells #[.int .i32 z, .bool o] 44) := ⟨_, rfl⟩
            rw [← hwa]
            have hMa : Has wa m 44 #[.int .i32 z, .bool o] := by rw [hwa, ← hm]; exact Has.new wr _ _
            have hTa : DecIs wa b r bs sj (gp+1) true q false := by rw [hwa]; exact Has.alloc hTr _
            have hOa : wa.ownsRow (p + 1) 46 4 (.slice A2 nj d2) nj (Row.flat evSh E) := by rw [hwa]; exact own_kept hOr ((Kept.refl [] wr).alloc _) (by simp)
            have hKa : Kept [b] w wa := by rw [hwa]; exact hKr.alloc _
            have hmA : m ∉ (Value.slice A2 nj d2).ownBlock.toList := fun hmem => by
              have := (own_block hOr m (by simpa using hmem)).2
              omega
            have hmb : m ≠ b := by have := Has.lt hTr; omega
            clear hwa hTr hOr hKr m0 m1
            refine Reg.begin_ (S := fun W => W.cell? ⟨b, 2, none⟩ = some (.int .i64 (sj : Nat)) ∧ W.cell? ⟨m, 0, none⟩ = some (.int .i32 z) ∧ W.cell? ⟨m, 1, none⟩ = some (.bool o)) (by kernel_rfl) (by exact ⟨Has.cell hTa 2, hMa.cell 0, hMa.cell 1⟩) (fun hHeld => ?_)
            have hMd : Has wa.drew m 44 #[.int .i32 z, .bool o] := hMa
            have hTd : DecIs wa.drew b r bs sj (gp+1) true q false := Has.drew hTa
            have hOd : wa.drew.ownsRow (p + 1) 46 4 (.slice A2 nj d2) nj (Row.flat evSh E) := own_kept hOa ((Kept.refl [] wa).drewN 1) (by simp)
            have hKd : Kept [b] w wa.drew := hKa.drewN 1
            generalize wa.drew = wd at *
            clear hMa hTa hOa hKa
            clear wa
            refine Reg.take (i := 0) (v := ?v57) rfl (by kernel_rfl) (by kernel_rfl) (by kernel_rfl) (by rfl) ?hv57 (by assumption) ?rest57
            case hv57 => first | (intro w hSw; (try dsimp only at hSw); go_simp; done) | (intro w hSw; (try dsimp only at hSw); go_simp; with_reducible rfl)
            (try simp only [Act.put, List.setIfInBounds_toArray, List.set_cons_zero, List.set_cons_succ])
            refine Reg.take (i := 1) (v := ?v58) rfl (by kernel_rfl) (by kernel_rfl) (by kernel_rfl) (by rfl) ?hv58 (by assumption) ?rest58
            case hv58 => first | (intro w hSw; (try dsimp only at hSw); go_simp; done) | (intro w hSw; (try dsimp only at hSw); go_simp; with_reducible rfl)
            (try simp only [Act.put, List.setIfInBounds_toArray, List.set_cons_zero, List.set_cons_succ])
            refine Reg.take (i := 2) (v := ?v59) rfl (by kernel_rfl) (by kernel_rfl) (by kernel_rfl) (by rfl) ?hv59 (by assumption) ?rest59
            case hv59 => first | (intro w hSw; (try dsimp only at hSw); go_simp; done) | (intro w hSw; (try dsimp only at hSw); go_simp; with_reducible rfl)
            (try simp only [Act.put, List.setIfInBounds_toArray, List.set_cons_zero, List.set_cons_succ])
            refine Reg.take (i := 3) (v := ?v60) rfl (by kernel_rfl) (by kernel_rfl) (by kernel_rfl) (by rfl) ?hv60 (by assumption) ?rest60
            case hv60 => first | (intro w hSw; (try dsimp only at hSw); go_simp; done) | (intro w hSw; (try dsimp only at hSw); go_simp; with_reducible rfl)
            (try simp only [Act.put, List.setIfInBounds_toArray, List.set_cons_zero, List.set_cons_succ])
            refine Reg.take (i := 4) (v := ?v61) rfl (by kernel_rfl) (by kernel_rfl) (by kernel_rfl) (by rfl) ?hv61 (by assumption) ?rest61
            case hv61 => first | (intro w hSw; (try dsimp only at hSw); go_simp; done) | (intro w hSw; (try dsimp only at hSw); go_simp; with_reducible rfl)
            (try simp only [Act.put, List.setIfInBounds_toArray, List.set_cons_zero, List.set_cons_succ])
            refine Reg.take (i := 5) (v := ?v62) rfl (by kernel_rfl) (by kernel_rfl) (by kernel_rfl) (by rfl) ?hv62 (by assumption) ?rest62
            case hv62 => first | (intro w hSw; (try dsimp only at hSw); go_simp; done) | (intro w hSw; (try dsimp only at hSw); go_simp; with_reducible rfl)
            (try simp only [Act.put, List.setIfInBounds_toArray, List.set_cons_zero, List.set_cons_succ])
            refine Reg.take (i := 6) (v := ?v63) rfl (by kernel_rfl) (by kernel_rfl) (by kernel_rfl) (by rfl) ?hv63 (by assumption) ?rest63
            case hv63 => first | (intro w hSw; (try dsimp only at hSw); go_simp; done) | (intro w hSw; (try dsimp only at hSw); go_simp; with_reducible rfl)
            (try simp only [Act.put, List.setIfInBounds_toArray, List.set_cons_zero, List.set_cons_succ])
            have hMe := hMd.alloc (.cells #[.int .i64 2, .int .i64 (sj : Nat), .int .i32 z, .bool o] 46)
            have hTe := Has.alloc hTd (.cells #[.int .i64 2, .int .i64 (sj : Nat), .int .i32 z, .bool o] 46)
            have hOe := own_kept hOd ((Kept.refl [] wd).alloc (.cells #[.int .i64 2, .int .i64 (sj : Nat), .int .i32 z, .bool o] 46)) (by simp)
            have hKe := hKd.alloc (.cells #[.int .i64 2, .int .i64 (sj : Nat), .int .i32 z, .bool o] 46)
            have hVn : Row.Vals evSh (wd.alloc (.cells #[.int .i64 2, .int .i64 (sj : Nat), .int .i32 z, .bool o] 46)) (some ⟨wd.heap.size, 0, none⟩) 1 [(2,sj,(z,o))] := one_new wd 46 (2, sj, (z, o))
            have hBase : p + 1 ≤ (wd.alloc (.cells #[.int .i64 2, .int .i64 (sj : Nat), .int .i32 z, .bool o] 46)).heap.size := by rw [World.size_alloc]; have := hKd.size; omega
            refine Reg.call (i := 7) rfl (by kernel_rfl) (by rfl) ?_
            intro K hK
            go_simp
            refine hK.out _ _ ⟨Has.cell hTe 2, hMe.cell 0, hMe.cell 1⟩ (fun hHeld2 => ?_)
            clear hK K
            (try simp only [Act.put, List.setIfInBounds_toArray, List.set_cons_zero, List.set_cons_succ])
            refine Reg.call (i := 8) rfl (by kernel_rfl) (by rfl) ?_
            intro K hK
            refine Row.wp_append (S := evSh) (.tmp 66) (.tmp 73) _ rfl (p + 1) 46 _ 24 (by omega) Try.underlying27 HInfo.out (by kernel_rfl) (.slice A2 nj d2) nj E rfl hOe (some ⟨wd.heap.size, 0, none⟩) 1 1 [(2,sj,(z,o))] rfl hVn (by omega) hBase ?_
            intro v9 W3 hO9 hg9 hat9
            obtain ⟨A9, d9, rfl, _, _, hx1, hx2⟩ := Row.Vals.own hO9
            clear hx1 hx2
            have hK9 := Kept.of_grown hg9
            have hT9 := hK9.has hTe (own_apart hOe (by omega))
            have hM9 := hK9.has hMe hmA
            have hk9 := hKe.grown hg9 (fun k hk => .inr (by have := (own_block hOe k hk).1; omega))
            refine hK.out _ _ ⟨Has.cell hT9 2, hM9.cell 0, hM9.cell 1⟩ (fun hHeld3 => ?_)
            clear hK K
            (try simp only [Act.put, List.setIfInBounds_toArray, List.set_cons_zero, List.set_cons_succ])
            refine Reg.take (i := 9) (v := ?v64) rfl (by kernel_rfl) (by kernel_rfl) (by kernel_rfl) (by rfl) ?hv64 (by assumption) ?rest64
            case hv64 => first | (intro w hSw; (try dsimp only at hSw); go_simp; done) | (intro w hSw; (try dsimp only at hSw); go_simp; with_reducible rfl)
            (try simp only [Act.put, List.setIfInBounds_toArray, List.set_cons_zero, List.set_cons_succ])
            refine Reg.done (by kernel_rfl) ?_ _
            clear hHeld hHeld2 hHeld3 hVn hBase hOe hMe hTe hKe hMd hTd hOd hKd hK9 hM9 hg9 hat9 hmA
            have t2 : W3.cell? ⟨b, 2, none⟩ = some (.int .i64 (sj : Nat)) := Has.cell hT9 2
            have g2 := Has.frozen hT9 2
            have hT5 := Has.set_ hT9 2 (.int .i64 ((sj : Int) + 1))
            have hK5 := hk9.setCell (p := ⟨b, 2, none⟩) (.inl (by simp)) (.int .i64 ((sj : Int) + 1))
            have hO5 := own_kept hO9 ((Kept.refl [b] W3).setCell (p := ⟨b, 2, none⟩) (.inl (by simp)) (.int .i64 ((sj : Int) + 1))) (fun y hy => by simp at hy; omega)
            clear hT9 hk9 hO9
            go_wp2
            go_roundw
            case rel => exact ⟨j + 1, A9, d9, sj + 1, nj + 1, by omega, rfl, by go_num, by have := HSJ.out; omega, by have := HNJ.out; omega, by rw [HST.out]; exact hO5, by simpa [DecIs] using hT5, hK5⟩
            case measure => simp [intOf]; omega
          · have hjL2 : j = L := by omega
            subst hjL2
            rw [List.take_of_length_le (by omega)] at hOr
            clear hTt hOt hKt
            obtain ⟨A9, d9, h9, h91, h92, h93, h94, _⟩ := Row.Vals.own (S := evSh) hOr
            injection h9 with e1 e2 e3
            subst e1 e3
            have HF := Lib.hid (show nj ≤ d2 ∧ d2 ≤ 9223372036854775807 ∧ nj ≤ 33 ∧ Row.Vals evSh wr A2 nj (metT true true last s q ls) ∧ (∀ x, A2 = some x → p ≤ x.block) ∧
                DecIs wr b r bs (s + countL 2 (metT true true last s q ls)) (gp + countL 1 (metT true true last s q ls)) true q (!dIn true last q) ∧ Kept [b] w wr by
              rw [hI, hmet, hc1, hc2, hll]
              exact ⟨h91, h92, by omega, h93, (fun x hx => by have := (h94 x hx).1; omega), by rw [← hsj]; exact hTr, hKr⟩)
            clear hI hmet hc1 hc2 hsj hnj h91 h92 h93 h94 hOr hTr hKr
            go_wp2
            go_ret
            exact ⟨_, _, _, rfl, HF.out⟩
    · have hI : dIn true last q = false := by simp [dIn, hq1, hqn]
      have hqz : ((q : Int) == (q1 : Int)) = false := by simp; omega
      go_enter Try.func23, Try.ntmps23
      go_wp2
      go_quiet ((go_at_call 38; exact Calls.quiet_of (hnxt _)))
      go_wp2
      obtain ⟨w0, hw0⟩ : ∃ W, W = (w.alloc (.cells #[.int .u8 (q : Nat), .slice A L c] 52)).drewN nq := ⟨_, rfl⟩
      rw [← hw0]
      have hk0 : Kept [] w w0 := by rw [hw0]; exact hkA.drewN nq
      have hT0 := show DecIs w0 b r bs s gp _ last _ from (by rw [hw0]; exact Has.drewN hTA nq)
      have hP0 : Has w0 p 52 #[.int .u8 (q : Nat), .slice A L c] := by rw [hw0]; exact hPA.drewN nq
      clear hw0 hkA hTA hPA c4 c5 c6 p0 f4 f5 f6 hnxt h
      refine Reg.begin_ (S := fun W => W.cell? ⟨p, 0, none⟩ = some (.int .u8 (q : Nat))) (by kernel_rfl) (by exact hP0.cell 0) (fun hHeld => ?_)
      have hTd := show DecIs w0.drew b r bs s gp _ last _ from Has.drew hT0
      have hPd : Has w0.drew p 52 #[.int .u8 (q : Nat), .slice A L c] := hP0
      have hKd : Kept [] w w0.drew := hk0.drewN 1
      generalize w0.drew = wd at *
      clear hk0 hT0 hP0
      refine Reg.take (i := 0) (v := ?v65) rfl (by kernel_rfl) (by kernel_rfl) (by kernel_rfl) (by rfl) ?hv65 (by assumption) ?rest65
      case hv65 => first | (intro w hSw; (try dsimp only at hSw); go_simp; done) | (intro w hSw; (try dsimp only at hSw); go_simp; with_reducible rfl)
      (try simp only [Act.put, List.setIfInBounds_toArray, List.set_cons_zero, List.set_cons_succ])
      refine Reg.take (i := 1) (v := ?v66) rfl (by kernel_rfl) (by kernel_rfl) (by kernel_rfl) (by rfl) ?hv66 (by assumption) ?rest66
      case hv66 => first | (intro w hSw; (try dsimp only at hSw); go_simp; done) | (intro w hSw; (try dsimp only at hSw); go_simp; with_reducible rfl)
      (try simp only [Act.put, List.setIfInBounds_toArray, List.set_cons_zero, List.set_cons_succ])
      refine Reg.take (i := 2) (v := ?v67) rfl (by kernel_rfl) (by kernel_rfl) (by kernel_rfl) (by rfl) ?hv67 (by assumption) ?rest67
      case hv67 => first | (intro w hSw; (try dsimp only at hSw); go_simp; done) | (intro w hSw; (try dsimp only at hSw); go_simp; with_reducible rfl)
      (try simp only [Act.put, List.setIfInBounds_toArray, List.set_cons_zero, List.set_cons_succ])
      refine Reg.take (i := 3) (v := ?v68) rfl (by kernel_rfl) (by kernel_rfl) (by kernel_rfl) (by rfl) ?hv68 (by assumption) ?rest68
      case hv68 => first | (intro w hSw; (try dsimp only at hSw); go_simp; done) | (intro w hSw; (try dsimp only at hSw); go_simp; with_reducible rfl)
      (try simp only [Act.put, List.setIfInBounds_toArray, List.set_cons_zero, List.set_cons_succ])
      refine Reg.take (i := 4) (v := ?v69) rfl (by kernel_rfl) (by kernel_rfl) (by kernel_rfl) (by rfl) ?hv69 (by assumption) ?rest69
      case hv69 => first | (intro w hSw; (try dsimp only at hSw); go_simp; done) | (intro w hSw; (try dsimp only at hSw); go_simp; with_reducible rfl)
      (try simp only [Act.put, List.setIfInBounds_toArray, List.set_cons_zero, List.set_cons_succ])
      refine Reg.take (i := 5) (v := ?v70) rfl (by kernel_rfl) (by kernel_rfl) (by kernel_rfl) (by rfl) ?hv70 (by assumption) ?rest70
      case hv70 => first | (intro w hSw; (try dsimp only at hSw); go_simp; done) | (intro w hSw; (try dsimp only at hSw); go_simp; with_reducible rfl)
      (try simp only [Act.put, List.setIfInBounds_toArray, List.set_cons_zero, List.set_cons_succ])
      have t4 := Has.cell hTd 4
      have g4 := Has.frozen hTd 4
      refine Reg.call (i := 6) rfl (by kernel_rfl) (by rfl) ?_
      intro K hK
      go_simp
      have hT1 := Has.set_ hTd 4 (.bool true)
      have hP1 := hPd.far (p := ⟨b, 4, none⟩) (by show p ≠ b; omega) (.bool true)
      have hK1 := (hKd.wide (T := [b]) (by simp)).setCell (p := ⟨b, 4, none⟩) (.inl (by simp)) (.bool true)
      refine hK.out _ _ (hP1.cell 0) (fun hHeld2 => ?_)
      clear hK K
      (try simp only [Act.put, List.setIfInBounds_toArray, List.set_cons_zero, List.set_cons_succ])
      refine Reg.take (i := 7) (v := ?v71) rfl (by kernel_rfl) (by kernel_rfl) (by kernel_rfl) (by rfl) ?hv71 (by assumption) ?rest71
      case hv71 => first | (intro w hSw; (try dsimp only at hSw); go_simp; done) | (intro w hSw; (try dsimp only at hSw); go_simp; with_reducible rfl)
      (try simp only [Act.put, List.setIfInBounds_toArray, List.set_cons_zero, List.set_cons_succ])
      refine Reg.take (i := 8) (v := ?v72) rfl (by kernel_rfl) (by kernel_rfl) (by kernel_rfl) (by rfl) ?hv72 (by assumption) ?rest72
      case hv72 => first | (intro w hSw; (try dsimp only at hSw); go_simp; done) | (intro w hSw; (try dsimp only at hSw); go_simp; with_reducible rfl)
      (try simp only [Act.put, List.setIfInBounds_toArray, List.set_cons_zero, List.set_cons_succ])
      have t5 := hT1.cell 5
      have g5 := hT1.frozen 5
      refine Reg.call (i := 9) rfl (by kernel_rfl) (by rfl) ?_
      intro K hK
      go_simp
      have hT2 := hT1.set_ 5 (.int .u8 (q : Nat))
      have hP2 := hP1.far (p := ⟨b, 5, none⟩) (by show p ≠ b; omega) (.int .u8 (q : Nat))
      have hK2 := hK1.setCell (p := ⟨b, 5, none⟩) (.inl (by simp)) (.int .u8 (q : Nat))
      refine hK.out _ _ (hP2.cell 0) (fun hHeld3 => ?_)
      clear hK K
      (try simp only [Act.put, List.setIfInBounds_toArray, List.set_cons_zero, List.set_cons_succ])
      refine Reg.done (by kernel_rfl) ?_ _
      clear t4 g4 t5 g5 hHeld hHeld2 hHeld3
      have hTb : DecIs ((wd.setCell ⟨b, 4, none⟩ (.bool true)).setCell ⟨b, 5, none⟩ (.int .u8 (q : Nat))) b r bs s gp true q br := by simpa [DecIs] using hT2
      generalize (wd.setCell ⟨b, 4, none⟩ (.bool true)).setCell ⟨b, 5, none⟩ (.int .u8 (q : Nat)) = wb at *
      clear hTd hPd hKd hT1 hP1 hK1 hT2
      clear wd
      have t6 : wb.cell? ⟨b, 6, none⟩ = some (.bool br) := Has.cell hTb 6
      have g6 := Has.frozen hTb 6
      have hm : metT true br last s q ls = [] := by unfold metT; rw [hI]; rfl
      
      go_wp2
      go_ret
      have hT3 := Has.set_ hTb 6 (.bool true)
      rw [hm, hI]
      exact ⟨none, 0, 0, rfl, Nat.le_refl _, by omega, by omega, Row.Vals.none_ _, (fun x hx => by cases hx), by simpa [DecIs, countL] using hT3, hK2.setCell (p := ⟨b, 6, none⟩) (.inl (by simp)) _⟩
end Go.Proofs.Ytfimgkomfnfjkaa.Par
end
section
/- frame's flagFault: is a sample's first byte neither 0 nor 1? -/
set_option linter.unusedSimpArgs false
set_option linter.unusedVariables false
namespace Go.Proofs.Ytfimgkomfnfjkaa.Frm
open Go.RowKit Go.Shelf RU8 Chunk

attribute [local go_sem] Oper.semAt_some

/-- Does the chunk with this number begin with a byte that is no flag? -/
def BadAt (ys : List Nat) (k : Nat) : Prop := 1 < ys.getD (3 * k) 0
open Classical in
noncomputable def flagsE (ys : List Nat) : Int := if ∃ k, k < chunks ys.length ∧ BadAt ys k then 62 else 0
theorem chunk_pos {len : Nat} (k : Fin (chunks len)) : 3 * k.1 < len ∧ 0 < size len k.1 ∧ size len k.1 ≤ 3 := by
  have := k.2
  unfold chunks at this
  unfold size
  omega
set_option maxRecDepth 100000 in
set_option maxHeartbeats 2000000 in
theorem flags_any (A : Option Addr) (len cap : Nat) (ys : List Nat) (w : World) (hv : Vals w A len ys) (hlc : len ≤ cap) (hbig : cap ≤ 9223372036854775807) (hl : len ≤ 1000) :
    Calls Try.prog 35 #[.slice A len cap] w fun e w' => e = .returned (.int .i64 (flagsE ys)) ∧ Below w.heap.size w w' := by
  have hlen := hv.len_
  have hA : 0 < len → ∃ x, A = some x := fun h => by obtain ⟨x, hx, _⟩ := hv.cells h; exact ⟨x, hx⟩
  have hbad : ∀ k : Fin (chunks len), BadAt ys k.1 → flagsE ys = 62 := fun k hk => by unfold flagsE; rw [if_pos ⟨k.1, by rw [hlen]; exact k.2, hk⟩]
  have hgood : (∀ k : Fin (chunks len), ¬ BadAt ys k.1) → flagsE ys = 0 := fun h => by
    unfold flagsE
    rw [if_neg]
    rintro ⟨k, hk, hb⟩
    exact h ⟨k, by rw [← hlen]; exact hk⟩ hb
  have HBad := Lib.hid hbad
  have HGood := Lib.hid hgood
  clear hbad hgood
  refine (callsIn_wide (n := 3)).1 ?_
  refine callsIn_of_wp_marks Try.func35 rfl trivial ?_ rfl
  simp only [Try.ntmps35, List.size_toArray, List.length_cons, List.length_nil, Nat.reduceAdd, Nat.reduceSub, Array.replicate_succ, Array.replicate_zero, List.push_toArray, List.append_toArray, List.nil_append, List.cons_append]
  gi_wp2_with (refine ⟨trivial, ?_⟩; gi_at_call 45; refine (Chunk.chunk_in _ _ _ _ _).mono ?_; rintro e w' ⟨rfl, rfl⟩)
  have bR := Boxed.new w 38 (.int .i64 0)
  have bS := Boxed.new (w.alloc (.cells #[.int .i64 0] 38)) 25 (.slice A len cap)
  have bN := Boxed.new ((w.alloc (.cells #[.int .i64 0] 38)).alloc (.cells #[.slice A len cap] 25)) 3 (.int .i64 3)
  simp only [World.size_alloc] at bS bN
  have hB0 : Below w.heap.size w (((w.alloc (.cells #[.int .i64 0] 38)).alloc (.cells #[.slice A len cap] 25)).alloc (.cells #[.int .i64 3] 3)) := (((Below.refl _ w).alloc (Nat.le_refl _) _).alloc (by simp) _).alloc (by simp; omega) _
  have h12 : 1 ≤ 3 := by decide
  refine wpIn_rangeFunc_ownG (α := Fin (chunks len)) (n := 3) rfl h12 (gf := 49) (lb := #[.pointer (some ⟨w.heap.size + 1, 0, none⟩), .pointer (some ⟨w.heap.size + 1 + 1, 0, none⟩)]) rfl trivial (enters_of Try.func49 (by kernel_rfl) rfl)
    (Chunk.chunk_stops 2 (by decide) (w.heap.size + 1) (w.heap.size + 1 + 1) (w.heap.size + 3) [w.heap.size] A len cap hA hlc hbig (by omega) _ (by omega) (by simp) (by omega) (by simp; omega) (by simp) (by simp) ((bS.alloc _).cell) bN.cell) KeptTo.trans (keptTo_b (by simp)) (Below.refl _ _) (fun _ => rfl)
    (fun (pre : List (Fin (chunks len))) W => ((∀ k ∈ pre, ¬ BadAt ys k.1) ∧ W.cell? ⟨w.heap.size, 0, none⟩ = some (.int .i64 0) ∧ W.frozen? ⟨w.heap.size, 0, none⟩ = false) ∧ Below w.heap.size w W)
    (fun c (pre : List (Fin (chunks len))) W => (c = .ret ∧ flagsE ys = 62 ∧ W.cell? ⟨w.heap.size, 0, none⟩ = some (.int .i64 62)) ∧ Below w.heap.size w W)
    (OwnFrom.and (Own.from (fun s A B row hs hg hr => ⟨hs.1, cell_kept hs.2.1 hg hr, (frozen_kept hs.2.1 hg hr).trans hs.2.2⟩) _) (ownFrom_below (Nat.le_refl _) (by simp; omega)))
    (fun c => OwnFrom.and (Own.from (fun s A B row hs hg hr => ⟨hs.1, hs.2.1, cell_kept hs.2.2 hg hr⟩) _) (ownFrom_below (Nat.le_refl _) (by simp; omega)))
    ⟨⟨by simp, ((bR.alloc _).alloc _).cell, ((bR.alloc _).alloc _).frozen⟩, hB0⟩
    (fun (k : Fin (chunks len)) => { tmps := #[.slice A len cap, undef, .pointer (some ⟨w.heap.size, 0, none⟩), chunk A len k.1, .slice A len cap, .func (.func 49) #[] #[.pointer (some ⟨w.heap.size + 1, 0, none⟩), .pointer (some ⟨w.heap.size + 1 + 1, 0, none⟩)], chunk A len k.1, undef, undef, undef, undef], defers := [] }) ?assign ?body ?done ?stop
  case assign =>
    intro l x W K hK
    gi_wp2
    exact hK
  case body =>
    rintro l pre k W ⟨⟨hp, hcr, hfr⟩, hB⟩ _
    obtain ⟨hk1, hk2, hk3⟩ := chunk_pos k
    obtain ⟨x, rfl⟩ := hA (by omega)
    obtain ⟨y, hy, hcs⟩ := (hv.below hB).cells (by omega)
    injection hy with hy
    subst hy
    have hc0 := hcs (3 * k.1) hk1
    have hbk : ∀ v, ys.getD (3 * k.1) 0 = v → (BadAt ys k.1 ↔ 1 < v) := fun v hv => by unfold BadAt; rw [hv]
    unfold chunk
    rw [Option.map_some]
    generalize 3 * k.1 = j at *
    generalize size len k.1 = e at *
    obtain ⟨v, hv0⟩ : ∃ v, ys.getD j 0 = v := ⟨_, rfl⟩
    rw [hv0] at hc0
    have hbk2 := Lib.hid (hbk v hv0)
    clear hbk hcs hv0
    rcases Nat.lt_or_ge 1 v with h1 | h1
    · gi_wp2
      exact ⟨(KeepsOthers.setCell _ _ _).from _, ⟨rfl, HBad.out k (hbk2.out.2 h1), World.cell?_setCell_same' _ _ _ (by rw [hcr]; rfl)⟩, hB.setCell (p := ⟨w.heap.size, 0, none⟩) (Nat.le_refl _) _⟩
    · gi_wp2
      refine ⟨KeepsFrom.refl _ _, KeptTo.refl _ _ _, ⟨fun i hi => ?_, hcr, hfr⟩, hB⟩
      rcases List.mem_append.1 hi with h2 | h2
      · exact hp i h2
      · obtain rfl : i = k := by simpa using h2
        exact fun h3 => by have := hbk2.out.1 h3; omega
  case done =>
    rintro D xs W hD rfl ⟨⟨hne, hcr, hfr⟩, hB⟩ hK
    have hres := Lib.hid (HGood.out fun k => hne k (List.mem_finRange k))
    gi_wp2
    have hK' := (KeepsOthers.setCell W ⟨w.heap.size, 0, none⟩ (.int .i64 0)).same D _ hK rfl
    refine ⟨by simp, .inl ⟨_, _, rfl, run_takeDeferred hK', ?_⟩⟩
    have hc5 := cell_kept (World.cell?_setCell_same' W ⟨w.heap.size, 0, none⟩ (.int .i64 0) (by rw [hcr]; rfl)) (grownBy_putObj' _ D (.deferred none)) (fun r e => by cases e; exact ⟨_, hK', rfl⟩)
    refine ⟨.int .i64 0, ?_, by rw [hres.out], (hB.setCell (p := ⟨w.heap.size, 0, none⟩) (Nat.le_refl _) _).trans (belowK_b (w := w) (Nat.le_refl _) _ D _ _ (by simp at hD; omega) hK' rfl rfl)⟩
    simp [results, Try.results35, go_sem, hc5]
  case stop =>
    rintro D c pre W hD _ ⟨⟨rfl, h62, hcr⟩, hB⟩ hK
    have hres := Lib.hid h62
    clear h62
    gi_wp2
    refine ⟨by simp, .inl ⟨_, _, rfl, run_takeDeferred hK, ?_⟩⟩
    have hc5 := cell_kept hcr (grownBy_putObj' _ D (.deferred none)) (fun r e => by cases e; exact ⟨_, hK, rfl⟩)
    refine ⟨.int .i64 62, ?_, by rw [hres.out], hB.trans (belowK_b (w := w) (Nat.le_refl _) W D _ _ (by simp at hD; omega) hK rfl rfl)⟩
    simp [results, Try.results35, go_sem, hc5]
end Go.Proofs.Ytfimgkomfnfjkaa.Frm
end
section
/- frame's samples: whole samples' bytes, as samples. -/
set_option linter.unusedSimpArgs false
set_option linter.unusedVariables false
namespace Go.Proofs.Ytfimgkomfnfjkaa.Frm
open Go.RowKit Go.Shelf RU8 Chunk

attribute [local go_sem] Oper.semAt_some

theorem wrap_u16_ (n : Int) : IntKind.u16.wrap n = n % 65536 := by simp [IntKind.wrap, IntKind.bits, IntKind.signed]
theorem wrap_i16_ (n : Int) : IntKind.i16.wrap n = (n + 32768) % 65536 - 32768 := by
  simp [IntKind.wrap, IntKind.bits, IntKind.signed]
  omega
theorem val_join {v1 v2 : Nat} (h1 : v1 < 256) (h2 : v2 < 256) : IntKind.i16.wrap (bits .or .u16 (IntKind.u16.wrap (v1 : Int)) (IntKind.u16.wrap (IntKind.u16.wrap (v2 : Int) * 256))) = valT2 v1 v2 := by
  have e1 : IntKind.u16.wrap (v1 : Int) = (v1 : Int) := by rw [wrap_u16_]; omega
  have e2 : IntKind.u16.wrap (IntKind.u16.wrap (v2 : Int) * 256) = (v2 : Int) * 256 := by rw [wrap_u16_, wrap_u16_]; omega
  rw [e1, e2, show bits .or .u16 (v1 : Int) ((v2 : Int) * 256) = bits .or .u16 ((v2 : Int) * 256) (v1 : Int) by simp only [bits, BitVec.or_comm],
    bits_join .u16 16 (by decide) (fun n h0 h1 => by rw [wrap_u16_]; omega) 8 ((v2 : Int) * 256) (v1 : Int) (by omega) (by omega) (by omega) (by omega) (by omega) (by omega), wrap_i16_]
  unfold valT2
  split <;> omega
theorem valT2_range {v1 v2 : Nat} (h1 : v1 < 256) (h2 : v2 < 256) : -32768 ≤ valT2 v1 v2 ∧ valT2 v1 v2 ≤ 32767 := by
  unfold valT2
  split <;> omega
/-- The sample of the chunk with this number. -/
def smp (ys : List Nat) (k : Nat) : Samp := (valT2 (ys.getD (3 * k + 1) 0) (ys.getD (3 * k + 2) 0), decide (ys.getD (3 * k) 0 = 1))
theorem ownFrom_size {β : Type} (B n : Nat) : OwnFrom B (fun (_ : β) W => n ≤ W.heap.size) := fun _ _ _ _ hs hg _ => Nat.le_trans hs hg.size
theorem row_cells {w : World} {base : Nat} {e : TypeId} {size n : Nat} {v : Value} {xs : List Value} (h : w.ownsRow base e size v n xs) : ∀ (j : Nat) (o : Obj), v.ownBlock = some j → w.heap[j]? = some o → o.isCells = true := by
  intro j o hj ho
  rcases h.2 with ⟨rfl, _⟩ | ⟨k, cap, cur, rfl, _, hh, _⟩
  · cases hj
  · injection hj with hj
    have : k = j := hj
    subst this
    rw [hh] at ho
    injection ho with ho
    rw [← ho]
    rfl
set_option maxRecDepth 100000 in
set_option maxHeartbeats 2000000 in
theorem samples_any (A : Option Addr) (m cap : Nat) (ys : List Nat) (w : World) (hv : Vals w A (3 * m) ys) (hb : Bytes ys) (hlc : 3 * m ≤ cap) (hbig : cap ≤ 9223372036854775807) (hl : m ≤ 100) :
    Calls Try.prog 37 #[.slice A (3 * m : Nat) cap] w fun e w' => ∃ v, e = .returned v ∧ w'.ownsRow (w.heap.size + 3) 44 2 v m (Row.flat sampS ((List.range m).map (smp ys))) ∧ Below w.heap.size w w' := by
  have hlen := hv.len_
  obtain ⟨len, hln⟩ : ∃ len, 3 * m = len := ⟨_, rfl⟩
  rw [hln] at hv hlc hlen ⊢
  have hA : 0 < len → ∃ x, A = some x := fun h => by obtain ⟨x, hx, _⟩ := hv.cells h; exact ⟨x, hx⟩
  have hck : chunks len = m := by unfold chunks; omega
  have HLN := Lib.hid hln
  have HCK := Lib.hid hck
  clear hln hck
  refine (callsIn_wide (n := 3)).1 ?_
  refine callsIn_of_wp_marks Try.func37 rfl trivial ?_ rfl
  simp only [Try.ntmps37, List.size_toArray, List.length_cons, List.length_nil, Nat.reduceAdd, Nat.reduceSub, Array.replicate_succ, Array.replicate_zero, List.push_toArray, List.append_toArray, List.nil_append, List.cons_append]
  gi_wp2_with (refine ⟨trivial, ?_⟩; gi_at_call 45; refine (Chunk.chunk_in _ _ _ _ _).mono ?_; rintro e w' ⟨rfl, rfl⟩)
  have bR := Boxed.new w 50 (.slice none 0 0)
  have bS := Boxed.new (w.alloc (.cells #[.slice none 0 0] 50)) 25 (.slice A len cap)
  have bN := Boxed.new ((w.alloc (.cells #[.slice none 0 0] 50)).alloc (.cells #[.slice A len cap] 25)) 3 (.int .i64 3)
  simp only [World.size_alloc] at bS bN
  have hB0 : Below w.heap.size w (((w.alloc (.cells #[.slice none 0 0] 50)).alloc (.cells #[.slice A len cap] 25)).alloc (.cells #[.int .i64 3] 3)) := (((Below.refl _ w).alloc (Nat.le_refl _) _).alloc (by simp) _).alloc (by simp; omega) _
  have h12 : 1 ≤ 3 := by decide
  refine wpIn_rangeFunc_ownG (α := Fin (chunks len)) (n := 3) rfl h12 (gf := 49) (lb := #[.pointer (some ⟨w.heap.size + 1, 0, none⟩), .pointer (some ⟨w.heap.size + 1 + 1, 0, none⟩)]) rfl trivial (enters_of Try.func49 (by kernel_rfl) rfl)
    (Chunk.chunk_stops 2 (by decide) (w.heap.size + 1) (w.heap.size + 1 + 1) (w.heap.size + 3) [w.heap.size] A len cap hA hlc hbig (by have := HLN.out; omega) _ (by omega) (by simp) (by omega) (by simp; omega) (by simp) (by simp) ((bS.alloc _).cell) bN.cell) KeptTo.trans (keptTo_b (by simp)) (Below.refl _ _) (fun _ => rfl)
    (fun (pre : List (Fin (chunks len))) W => (∃ v, Boxed W w.heap.size 50 v ∧ W.ownsRow (w.heap.size + 3) 44 2 v pre.length (Row.flat sampS (pre.map fun k => smp ys k.1)) ∧ True) ∧ Below w.heap.size w W ∧ w.heap.size + 3 ≤ W.heap.size)
    (fun _ (_ : List (Fin (chunks len))) _ => False)
    (OwnFrom.and (Own.from (holdsRow_own (w.heap.size + 3) w.heap.size 50 44 2 (fun pre : List (Fin (chunks len)) => pre.length) (fun pre => Row.flat sampS (pre.map fun k => smp ys k.1)) (fun _ _ => True)) _) (OwnFrom.and (ownFrom_below (Nat.le_refl _) (by simp; omega)) (ownFrom_size _ _)))
    (fun _ _ _ _ _ hs _ _ => hs)
    ⟨⟨_, (bR.alloc _).alloc _, Row.own_none _ _ _, trivial⟩, hB0, by simp⟩
    (fun (k : Fin (chunks len)) => { tmps := #[.slice A len cap, undef, .slice none 0 0, .pointer (some ⟨w.heap.size, 0, none⟩), chunk A len k.1, undef, .slice A len cap, .func (.func 49) #[] #[.pointer (some ⟨w.heap.size + 1, 0, none⟩), .pointer (some ⟨w.heap.size + 1 + 1, 0, none⟩)], chunk A len k.1, undef, undef, undef, undef, undef, undef, undef, undef, undef, undef, undef, undef, undef, undef, undef, undef, undef, undef, undef, undef, undef, undef], defers := [] }) ?assign ?body ?done ?stop
  case assign =>
    intro l x W K hK
    gi_wp2
    exact hK
  case body =>
    rintro l pre k W ⟨⟨v, hbx, hrow, _⟩, hB, hWs⟩ hpre
    obtain ⟨hk1, hk2, hk3⟩ := chunk_pos k
    obtain ⟨x, rfl⟩ := hA (by omega)
    obtain ⟨y, hy, hcs⟩ := (hv.below hB).cells (by omega)
    injection hy with hy
    subst hy
    have hsz : size len k.1 = 3 := by unfold size; have := HLN.out; omega
    have hk3m : 3 * k.1 + 2 < len := by have := HLN.out; omega
    have hc0 := hcs (3 * k.1) hk1
    have hc1 := hcs (3 * k.1 + 1) (by omega)
    have hc2 := hcs (3 * k.1 + 2) (by omega)
    rw [← addr_add] at hc1 hc2
    obtain ⟨x3, hx3⟩ : ∃ x3, x.add (3 * k.1) = x3 := ⟨_, rfl⟩
    have hxl : x3.block < w.heap.size := by
      have := World.block_lt_of_cell? _ _ ((hv.cells (by omega)).choose_spec.2 (3 * k.1) hk1)
      have e := (hv.cells (by omega)).choose_spec.1
      injection e with e
      rw [← e, hx3] at this
      exact this
    unfold chunk
    rw [Option.map_some, hsz]
    rw [hx3] at hc0 hc1 hc2 ⊢
    rw [show x3.add 1 = ⟨x3.block, x3.off + 1, none⟩ by simp [Addr.add]] at hc1
    rw [show x3.add 2 = ⟨x3.block, x3.off + 2, none⟩ by simp [Addr.add]] at hc2
    have hsmp : ∀ a b c, ys.getD (3 * k.1) 0 = a → ys.getD (3 * k.1 + 1) 0 = b → ys.getD (3 * k.1 + 2) 0 = c → smp ys k.1 = (valT2 b c, decide (a = 1)) := fun a b c ha hb hc => by unfold smp; rw [ha, hb, hc]
    have hy0 := hb.at_ (3 * k.1)
    have hy1 := hb.at_ (3 * k.1 + 1)
    have hy2 := hb.at_ (3 * k.1 + 2)
    obtain ⟨v0, hv0⟩ : ∃ v, ys.getD (3 * k.1) 0 = v := ⟨_, rfl⟩
    obtain ⟨v1, hv1⟩ : ∃ v, ys.getD (3 * k.1 + 1) 0 = v := ⟨_, rfl⟩
    obtain ⟨v2, hv2⟩ : ∃ v, ys.getD (3 * k.1 + 2) 0 = v := ⟨_, rfl⟩
    have HS := Lib.hid (hsmp v0 v1 v2 hv0 hv1 hv2)
    rw [hv0] at hc0 hy0
    rw [hv1] at hc1 hy1
    rw [hv2] at hc2 hy2
    clear hcs hsmp hv0 hv1 hv2 hx3 hk1 hk2 hk3 hsz hk3m
    obtain ⟨A', c', rfl, e1, e2, hVo, _⟩ := Row.Vals.own (S := sampS) hrow
    gi_wp2
    refine Reg.beginW (Reg.wide_round l) (S := fun W => W.cell? x3 = some (.int .u8 v0) ∧ W.cell? ⟨x3.block, x3.off + 1, none⟩ = some (.int .u8 v1) ∧ W.cell? ⟨x3.block, x3.off + 2, none⟩ = some (.int .u8 v2)) (by kernel_rfl) (by kernel_rfl) ⟨hc0, hc1, hc2⟩ (fun hHeld => ?_)
    refine Reg.take (i := 0) (v := ?v1) rfl (by kernel_rfl) (by kernel_rfl) (by kernel_rfl) (by rfl) ?hv1 (by assumption) ?rest1
    case hv1 => first | (intro w hSw; (try dsimp only at hSw); go_simp; done) | (intro w hSw; (try dsimp only at hSw); go_simp; with_reducible rfl)
    (try simp only [Act.put, List.setIfInBounds_toArray, List.set_cons_zero, List.set_cons_succ])
    refine Reg.take (i := 1) (v := ?v2) rfl (by kernel_rfl) (by kernel_rfl) (by kernel_rfl) (by rfl) ?hv2 (by assumption) ?rest2
    case hv2 => first | (intro w hSw; (try dsimp only at hSw); go_simp; done) | (intro w hSw; (try dsimp only at hSw); go_simp; with_reducible rfl)
    (try simp only [Act.put, List.setIfInBounds_toArray, List.set_cons_zero, List.set_cons_succ])
    refine Reg.take (i := 2) (v := ?v3) rfl (by kernel_rfl) (by kernel_rfl) (by kernel_rfl) (by rfl) ?hv3 (by assumption) ?rest3
    case hv3 => first | (intro w hSw; (try dsimp only at hSw); go_simp; done) | (intro w hSw; (try dsimp only at hSw); go_simp; with_reducible rfl)
    (try simp only [Act.put, List.setIfInBounds_toArray, List.set_cons_zero, List.set_cons_succ])
    refine Reg.take (i := 3) (v := ?v4) rfl (by kernel_rfl) (by kernel_rfl) (by kernel_rfl) (by rfl) ?hv4 (by assumption) ?rest4
    case hv4 => first | (intro w hSw; (try dsimp only at hSw); go_simp; done) | (intro w hSw; (try dsimp only at hSw); go_simp; with_reducible rfl)
    (try simp only [Act.put, List.setIfInBounds_toArray, List.set_cons_zero, List.set_cons_succ])
    refine Reg.take (i := 4) (v := ?v5) rfl (by kernel_rfl) (by kernel_rfl) (by kernel_rfl) (by rfl) ?hv5 (by assumption) ?rest5
    case hv5 => first | (intro w hSw; (try dsimp only at hSw); go_simp; done) | (intro w hSw; (try dsimp only at hSw); go_simp; with_reducible rfl)
    (try simp only [Act.put, List.setIfInBounds_toArray, List.set_cons_zero, List.set_cons_succ])
    refine Reg.take (i := 5) (v := ?v6) rfl (by kernel_rfl) (by kernel_rfl) (by kernel_rfl) (by rfl) ?hv6 (by assumption) ?rest6
    case hv6 => first | (intro w hSw; (try dsimp only at hSw); go_simp; done) | (intro w hSw; (try dsimp only at hSw); go_simp; with_reducible rfl)
    (try simp only [Act.put, List.setIfInBounds_toArray, List.set_cons_zero, List.set_cons_succ])
    refine Reg.take (i := 6) (v := ?v7) rfl (by kernel_rfl) (by kernel_rfl) (by kernel_rfl) (by rfl) ?hv7 (by assumption) ?rest7
    case hv7 => first | (intro w hSw; (try dsimp only at hSw); go_simp; done) | (intro w hSw; (try dsimp only at hSw); go_simp; with_reducible rfl)
    (try simp only [Act.put, List.setIfInBounds_toArray, List.set_cons_zero, List.set_cons_succ])
    refine Reg.take (i := 7) (v := ?v8) rfl (by kernel_rfl) (by kernel_rfl) (by kernel_rfl) (by rfl) ?hv8 (by assumption) ?rest8
    case hv8 => first | (intro w hSw; (try dsimp only at hSw); go_simp; done) | (intro w hSw; (try dsimp only at hSw); go_simp; with_reducible rfl)
    (try simp only [Act.put, List.setIfInBounds_toArray, List.set_cons_zero, List.set_cons_succ])
    refine Reg.take (i := 8) (v := ?v9) rfl (by kernel_rfl) (by kernel_rfl) (by kernel_rfl) (by rfl) ?hv9 (by assumption) ?rest9
    case hv9 => first | (intro w hSw; (try dsimp only at hSw); go_simp; done) | (intro w hSw; (try dsimp only at hSw); go_simp; with_reducible rfl)
    (try simp only [Act.put, List.setIfInBounds_toArray, List.set_cons_zero, List.set_cons_succ])
    refine Reg.take (i := 9) (v := ?v10) rfl (by kernel_rfl) (by kernel_rfl) (by kernel_rfl) (by rfl) ?hv10 (by assumption) ?rest10
    case hv10 => first | (intro w hSw; (try dsimp only at hSw); go_simp; done) | (intro w hSw; (try dsimp only at hSw); go_simp; with_reducible rfl)
    (try simp only [Act.put, List.setIfInBounds_toArray, List.set_cons_zero, List.set_cons_succ])
    refine Reg.take (i := 10) (v := ?v11) rfl (by kernel_rfl) (by kernel_rfl) (by kernel_rfl) (by rfl) ?hv11 (by assumption) ?rest11
    case hv11 => first | (intro w hSw; (try dsimp only at hSw); go_simp; done) | (intro w hSw; (try dsimp only at hSw); go_simp; with_reducible rfl)
    (try simp only [Act.put, List.setIfInBounds_toArray, List.set_cons_zero, List.set_cons_succ])
    refine Reg.take (i := 11) (v := ?v12) rfl (by kernel_rfl) (by kernel_rfl) (by kernel_rfl) (by rfl) ?hv12 (by assumption) ?rest12
    case hv12 => first | (intro w hSw; (try dsimp only at hSw); go_simp; done) | (intro w hSw; (try dsimp only at hSw); go_simp; with_reducible rfl)
    (try simp only [Act.put, List.setIfInBounds_toArray, List.set_cons_zero, List.set_cons_succ])
    refine Reg.doneW (by kernel_rfl) ?_ _
    gi_wp2
    rw [val_join hy1 hy2]
    have hVr := valT2_range hy1 hy2
    obtain ⟨V, hV⟩ : ∃ V, valT2 v1 v2 = V := ⟨_, rfl⟩
    rw [hV] at hVr ⊢
    have HV := Lib.hid hV
    have hw32 : IntKind.i32.wrap V = V := by rw [IntKind.wrap_i32]; omega
    have hInfo : (Try.prog.info? 44).map (fun i => (i.zero, i.size, i.bytes)) = some (some (.agg #[.int .i32 0, .bool false]), 2, 8) := by kernel_rfl
    have HInfo := Lib.hid hInfo
    clear hInfo hV hc1 hc2 hHeld
    have hci0 : w.cell? x3 = some (.int .u8 v0) := (hB.cell hxl).symm.trans hc0
    have hpl : pre.length ≤ 100 := by have h9 := HCK.out; omega
    obtain ⟨pl, hpl2⟩ : ∃ pl, pre.length = pl := ⟨_, rfl⟩
    rw [hpl2] at hrow hbx hpl
    have HPL := Lib.hid hpl2
    clear hpl2
    refine Reg.beginW (Reg.wide_round l) (S := fun W => W.cell? x3 = some (.int .u8 v0)) (by kernel_rfl) (by kernel_rfl) (by exact hc0) (fun hHeld => ?_)
    have hFd : Has W.drew.drew w.heap.size 50 #[.slice A' pl c'] := hbx
    have hOd : World.ownsRow W.drew.drew (w.heap.size + 3) 44 2 (.slice A' pl c') pl (Row.flat sampS (pre.map fun k => smp ys k.1)) := hrow
    have hBd : Below w.heap.size w W.drew.drew := below_drewN hB 2
    have hTd : KeptTo (w.heap.size + 3) [w.heap.size] W W.drew.drew := (KeptTo.refl _ _ W.drew.drew).drew_.drew_
    have hGd : KeepsFrom (w.heap.size + 3) W W.drew.drew := ((KeepsOthers.drew W).trans (KeepsOthers.drew _)).from _
    generalize W.drew.drew = wd at *
    refine Reg.take (i := 1) (v := ?v13) rfl (by kernel_rfl) (by kernel_rfl) (by kernel_rfl) (by rfl) ?hv13 (by assumption) ?rest13
    case hv13 => first | (intro w hSw; (try dsimp only at hSw); go_simp; done) | (intro w hSw; (try dsimp only at hSw); go_simp; with_reducible rfl)
    (try simp only [Act.put, List.setIfInBounds_toArray, List.set_cons_zero, List.set_cons_succ])
    refine Reg.take (i := 2) (v := ?v14) rfl (by kernel_rfl) (by kernel_rfl) (by kernel_rfl) (by rfl) ?hv14 (by assumption) ?rest14
    case hv14 => first | (intro w hSw; (try dsimp only at hSw); go_simp; done) | (intro w hSw; (try dsimp only at hSw); go_simp; with_reducible rfl)
    (try simp only [Act.put, List.setIfInBounds_toArray, List.set_cons_zero, List.set_cons_succ])
    refine Reg.take (i := 3) (v := ?v15) rfl (by kernel_rfl) (by kernel_rfl) (by kernel_rfl) (by rfl) ?hv15 (by assumption) ?rest15
    case hv15 => first | (intro w hSw; (try dsimp only at hSw); go_simp; done) | (intro w hSw; (try dsimp only at hSw); go_simp; with_reducible rfl)
    (try simp only [Act.put, List.setIfInBounds_toArray, List.set_cons_zero, List.set_cons_succ])
    refine Reg.take (i := 4) (v := ?v16) rfl (by kernel_rfl) (by kernel_rfl) (by kernel_rfl) (by rfl) ?hv16 (by assumption) ?rest16
    case hv16 => first | (intro w hSw; (try dsimp only at hSw); go_simp; done) | (intro w hSw; (try dsimp only at hSw); go_simp; with_reducible rfl)
    (try simp only [Act.put, List.setIfInBounds_toArray, List.set_cons_zero, List.set_cons_succ])
    refine Reg.take (i := 5) (v := ?v17) rfl (by kernel_rfl) (by kernel_rfl) (by kernel_rfl) (by rfl) ?hv17 (by assumption) ?rest17
    case hv17 => first | (intro w hSw; (try dsimp only at hSw); go_simp; done) | (intro w hSw; (try dsimp only at hSw); go_simp; with_reducible rfl)
    (try simp only [Act.put, List.setIfInBounds_toArray, List.set_cons_zero, List.set_cons_succ])
    refine Reg.take (i := 6) (v := ?v18) rfl (by kernel_rfl) (by kernel_rfl) (by kernel_rfl) (by rfl) ?hv18 (by assumption) ?rest18
    case hv18 => first | (intro w hSw; (try dsimp only at hSw); go_simp; done) | (intro w hSw; (try dsimp only at hSw); go_simp; with_reducible rfl)
    (try simp only [Act.put, List.setIfInBounds_toArray, List.set_cons_zero, List.set_cons_succ])
    refine Reg.take (i := 7) (v := ?v19) rfl (by kernel_rfl) (by kernel_rfl) (by kernel_rfl) (by rfl) ?hv19 (by assumption) ?rest19
    case hv19 => first | (intro w hSw; (try dsimp only at hSw); go_simp; done) | (intro w hSw; (try dsimp only at hSw); go_simp; with_reducible rfl)
    (try simp only [Act.put, List.setIfInBounds_toArray, List.set_cons_zero, List.set_cons_succ])
    have hcia := ((hBd.alloc hBd.size (.cells #[.int .i32 V, .bool ((v0 : Int) == 1)] 44)).cell hxl).trans hci0
    have hKA := (Kept.refl [] wd).alloc (.cells #[.int .i32 V, .bool ((v0 : Int) == 1)] 44)
    have hOa := own_kept hOd hKA (by simp)
    have hBa := hBd.alloc hBd.size (.cells #[.int .i32 V, .bool ((v0 : Int) == 1)] 44)
    have hFa := hFd.alloc (.cells #[.int .i32 V, .bool ((v0 : Int) == 1)] 44)
    have hsz3 : w.heap.size + 3 ≤ wd.heap.size := by have := hGd.size; omega
    have hTa := hTd.trans (KeptTo.of_kept hKA hsz3 (by simp))
    have hGa := hGd.trans ((KeepsOthers.alloc wd (.cells #[.int .i32 V, .bool ((v0 : Int) == 1)] 44)).from (w.heap.size + 3))
    have hVn : Row.Vals sampS (wd.alloc (.cells #[.int .i32 V, .bool ((v0 : Int) == 1)] 44)) (some ⟨wd.heap.size, 0, none⟩) 1 [(V, ((v0 : Int) == 1))] := Row.Vals.has (ys := [(V, ((v0 : Int) == 1))]) (tl := []) (Has.new wd _ _)
    have hBase : w.heap.size + 3 ≤ (wd.alloc (.cells #[.int .i32 V, .bool ((v0 : Int) == 1)] 44)).heap.size := by simp; omega
    have l1 := hFd.cell 0
    have l2 := hFa.cell 0
    refine Reg.call2 (i := 0) (j := 8) rfl rfl (by kernel_rfl) (by rfl) (by rfl) ?_ ?_
    · intro K hK
      go_simp
      refine hK.out _ _ (by assumption) (fun hHeld2 => ?_)
      clear hK K
      (try simp only [Act.put, List.setIfInBounds_toArray, List.set_cons_zero, List.set_cons_succ])
      refine Reg.call (i := 8) rfl (by kernel_rfl) (by rfl) ?_
      intro K hK
      go_simp
      refine hK.out _ _ hcia (fun hHeld3 => ?_)
      clear hK K
      (try simp only [Act.put, List.setIfInBounds_toArray, List.set_cons_zero, List.set_cons_succ])
      refine Reg.call (i := 9) rfl (by kernel_rfl) (by rfl) ?_
      intro K hK
      refine Row.wp_append (S := sampS) (.tmp 20) (.tmp 28) _ rfl (w.heap.size + 3) 44 _ 8 (by omega) Try.underlying50 HInfo.out (by kernel_rfl) (.slice A' pl c') pl (pre.map fun k : Fin (chunks len) => smp ys k.1) rfl hOa (some ⟨wd.heap.size, 0, none⟩) 1 1 [(V, ((v0 : Int) == 1))] rfl hVn (by omega) hBase ?_
      intro v9 W3 hO1 hg1 hat1
      have hK1 := Kept.of_grown hg1
      have hF3 := hK1.has hFa (own_apart hOa (by omega))
      have hB3 := below_kept hBa hK1 hBa.size (fun y hy => by have := own_in hOa y hy; omega)
      have hT3 := hTa.trans (KeptTo.of_kept hK1 hBase (fun y hy hlt => by have := own_in hOa y hy; omega))
      have hG3 := hGa.trans ((KeepsOthers.of_grownBy hg1 (row_cells hOa)).from (w.heap.size + 3))
      have hci3 := (hB3.cell hxl).trans hci0
      obtain ⟨A1, d1, rfl, e3, e4, hV1, _⟩ := Row.Vals.own hO1
      refine hK.out _ _ hci3 (fun hHeld4 => ?_)
      clear hK K
      (try simp only [Act.put, List.setIfInBounds_toArray, List.set_cons_zero, List.set_cons_succ])
      have hF4 : Has (W3.setCell ⟨w.heap.size, 0, none⟩ (.slice A1 (pl + 1) d1)) w.heap.size 50 #[.slice A1 (pl + 1) d1] := by
        have := hF3.set_ 0 (.slice A1 (pl + 1) d1)
        simpa using this
      have hO4 := own_kept hO1 ((Kept.refl [w.heap.size] W3).setCell (p := ⟨w.heap.size, 0, none⟩) (.inl (by simp)) (.slice A1 (pl + 1) d1)) (fun y hy => by simp at hy; omega)
      have hB4 := hB3.setCell (p := ⟨w.heap.size, 0, none⟩) (Nat.le_refl _) (.slice A1 (pl + 1) d1)
      have hT4 := hT3.trans (KeptTo.of_kept ((Kept.refl [w.heap.size] W3).setCell (p := ⟨w.heap.size, 0, none⟩) (.inl (by simp)) (.slice A1 (pl + 1) d1)) (Nat.le_trans hBase hg1.size) (fun y hy _ => hy))
      have hG4 := hG3.trans ((KeepsOthers.setCell W3 ⟨w.heap.size, 0, none⟩ (.slice A1 (pl + 1) d1)).from (w.heap.size + 3))
      have hci4 := (hB4.cell hxl).trans hci0
      refine Reg.call (i := 10) rfl (by kernel_rfl) (by rfl) ?_
      intro K hK
      have t1 := hF3.cell 0
      have g1 := hF3.frozen 0
      go_simp
      refine hK.out _ _ hci4 (fun hHeld5 => ?_)
      clear hK K
      (try simp only [Act.put, List.setIfInBounds_toArray, List.set_cons_zero, List.set_cons_succ])
      refine Reg.doneW (by kernel_rfl) ?_ _
      gi_wp2
      have hb1 : ((v0 : Int) == 1) = decide (v0 = 1) := by rw [Bool.eq_iff_iff]; simp; omega
      have hm9 : (pre ++ [k]).map (fun k : Fin (chunks len) => smp ys k.1) = pre.map (fun k : Fin (chunks len) => smp ys k.1) ++ [(V, ((v0 : Int) == 1))] := by rw [List.map_append, List.map_cons, List.map_nil, HS.out, HV.out, hb1]
      have hsz9 : w.heap.size + 3 ≤ (W3.setCell ⟨w.heap.size, 0, none⟩ (.slice A1 (pl + 1) d1)).heap.size := Nat.le_trans hsz3 (Nat.le_trans (by simp) (Nat.le_trans hg1.size (KeepsOthers.setCell W3 _ _).size))
      exact ⟨by have := hG4; simp only [World.size_alloc]; exact this, hT4, ⟨⟨_, hF4, by rw [hm9, List.length_append, HPL.out]; exact hO4, trivial⟩, hB4, hsz9⟩⟩
    · intro K hK
      go_simp
      refine hK.out _ _ hcia (fun hHeld2 => ?_)
      clear hK K
      (try simp only [Act.put, List.setIfInBounds_toArray, List.set_cons_zero, List.set_cons_succ])
      refine Reg.call (i := 0) rfl (by kernel_rfl) (by rfl) ?_
      intro K hK
      go_simp
      refine hK.out _ _ hcia (fun hHeld3 => ?_)
      clear hK K
      (try simp only [Act.put, List.setIfInBounds_toArray, List.set_cons_zero, List.set_cons_succ])
      refine Reg.call (i := 9) rfl (by kernel_rfl) (by rfl) ?_
      intro K hK
      refine Row.wp_append (S := sampS) (.tmp 20) (.tmp 28) _ rfl (w.heap.size + 3) 44 _ 8 (by omega) Try.underlying50 HInfo.out (by kernel_rfl) (.slice A' pl c') pl (pre.map fun k : Fin (chunks len) => smp ys k.1) rfl hOa (some ⟨wd.heap.size, 0, none⟩) 1 1 [(V, ((v0 : Int) == 1))] rfl hVn (by omega) hBase ?_
      intro v9 W3 hO1 hg1 hat1
      have hK1 := Kept.of_grown hg1
      have hF3 := hK1.has hFa (own_apart hOa (by omega))
      have hB3 := below_kept hBa hK1 hBa.size (fun y hy => by have := own_in hOa y hy; omega)
      have hT3 := hTa.trans (KeptTo.of_kept hK1 hBase (fun y hy hlt => by have := own_in hOa y hy; omega))
      have hG3 := hGa.trans ((KeepsOthers.of_grownBy hg1 (row_cells hOa)).from (w.heap.size + 3))
      have hci3 := (hB3.cell hxl).trans hci0
      obtain ⟨A1, d1, rfl, e3, e4, hV1, _⟩ := Row.Vals.own hO1
      refine hK.out _ _ hci3 (fun hHeld4 => ?_)
      clear hK K
      (try simp only [Act.put, List.setIfInBounds_toArray, List.set_cons_zero, List.set_cons_succ])
      have hF4 : Has (W3.setCell ⟨w.heap.size, 0, none⟩ (.slice A1 (pl + 1) d1)) w.heap.size 50 #[.slice A1 (pl + 1) d1] := by
        have := hF3.set_ 0 (.slice A1 (pl + 1) d1)
        simpa using this
      have hO4 := own_kept hO1 ((Kept.refl [w.heap.size] W3).setCell (p := ⟨w.heap.size, 0, none⟩) (.inl (by simp)) (.slice A1 (pl + 1) d1)) (fun y hy => by simp at hy; omega)
      have hB4 := hB3.setCell (p := ⟨w.heap.size, 0, none⟩) (Nat.le_refl _) (.slice A1 (pl + 1) d1)
      have hT4 := hT3.trans (KeptTo.of_kept ((Kept.refl [w.heap.size] W3).setCell (p := ⟨w.heap.size, 0, none⟩) (.inl (by simp)) (.slice A1 (pl + 1) d1)) (Nat.le_trans hBase hg1.size) (fun y hy _ => hy))
      have hG4 := hG3.trans ((KeepsOthers.setCell W3 ⟨w.heap.size, 0, none⟩ (.slice A1 (pl + 1) d1)).from (w.heap.size + 3))
      have hci4 := (hB4.cell hxl).trans hci0
      refine Reg.call (i := 10) rfl (by kernel_rfl) (by rfl) ?_
      intro K hK
      have t1 := hF3.cell 0
      have g1 := hF3.frozen 0
      go_simp
      refine hK.out _ _ hci4 (fun hHeld5 => ?_)
      clear hK K
      (try simp only [Act.put, List.setIfInBounds_toArray, List.set_cons_zero, List.set_cons_succ])
      refine Reg.doneW (by kernel_rfl) ?_ _
      gi_wp2
      have hb1 : ((v0 : Int) == 1) = decide (v0 = 1) := by rw [Bool.eq_iff_iff]; simp; omega
      have hm9 : (pre ++ [k]).map (fun k : Fin (chunks len) => smp ys k.1) = pre.map (fun k : Fin (chunks len) => smp ys k.1) ++ [(V, ((v0 : Int) == 1))] := by rw [List.map_append, List.map_cons, List.map_nil, HS.out, HV.out, hb1]
      have hsz9 : w.heap.size + 3 ≤ (W3.setCell ⟨w.heap.size, 0, none⟩ (.slice A1 (pl + 1) d1)).heap.size := Nat.le_trans hsz3 (Nat.le_trans (by simp) (Nat.le_trans hg1.size (KeepsOthers.setCell W3 _ _).size))
      exact ⟨by have := hG4; simp only [World.size_alloc]; exact this, hT4, ⟨⟨_, hF4, by rw [hm9, List.length_append, HPL.out]; exact hO4, trivial⟩, hB4, hsz9⟩⟩
  case done =>
    rintro D xs W hD rfl ⟨⟨v, hbx, hrow, _⟩, hB, _⟩ hK
    have hc := hbx.cell
    have hmp : (List.finRange (chunks len)).map (fun k : Fin (chunks len) => smp ys k.1) = (List.range m).map (smp ys) := by
      rw [← HCK.out]
      apply List.ext_getElem
      · simp
      · intro i h1 h2
        simp
    have hlm : (List.finRange (chunks len)).length = m := by rw [List.length_finRange, HCK.out]
    rw [hmp, hlm] at hrow
    gi_wp2
    refine ⟨by simp, .inl ⟨_, _, rfl, run_takeDeferred hK, ?_⟩⟩
    exact ⟨_, results_tmp rfl _ _ _, v, rfl, ownsRow_putObj hrow _ hK rfl, hB.trans (belowK_b (w := w) (Nat.le_refl _) W D _ _ (by simp at hD; omega) hK rfl rfl)⟩
  case stop =>
    rintro D c pre W _ _ h _
    exact h.elim
end Go.Proofs.Ytfimgkomfnfjkaa.Frm
end
