/- What parse's calls are to answer; frames one behind the other, walked. -/
import Derived.Test.YtlhjligeigkbnaaParseRefEvents
set_option linter.unusedSimpArgs false
set_option linter.unusedVariables false
namespace Go.Proofs.Ytlhjligeigkbnaa.Par
open Go.RowKit RU8 Frm
/-- Frames as they lie. -/
def fvs (ps : List Place) (qs : List Ptr) : List (Nat × Ptr) := List.zipWith (fun p q => (p.seq, q)) ps qs
theorem fvs_length (ps : List Place) (qs : List Ptr) (h : qs.length = ps.length) : (fvs ps qs).length = ps.length := by simp [fvs, h]
theorem fvs_get (ps : List Place) (qs : List Ptr) (h : qs.length = ps.length) (i : Nat) (hi : i < ps.length) (hi2 : i < (fvs ps qs).length) : (fvs ps qs)[i] = ((ps.getD i noPlace).seq, qs.getD i Ptr.none_) := by
  simp [fvs, List.getElem?_eq_getElem hi, List.getElem?_eq_getElem (show i < qs.length by omega)]
theorem fvs_take (ps : List Place) (qs : List Ptr) (h : qs.length = ps.length) (i : Nat) (hi : i < ps.length) : fvs (ps.take (i + 1)) (qs.take (i + 1)) = fvs (ps.take i) (qs.take i) ++ [((ps.getD i noPlace).seq, qs.getD i Ptr.none_)] := by
  rw [take_step ps noPlace i hi, take_step qs Ptr.none_ i (by omega)]
  unfold fvs
  rw [List.zipWith_append (by rw [List.length_take, List.length_take]; omega)]
  rfl
theorem frame_cells {w : World} {x : Addr} {len : Nat} {ps : List Place} {qs : List Ptr} (h : Row.Vals frameS w (some x) len (fvs ps qs)) (hq : qs.length = ps.length) (i : Nat) (hi : i < len) :
    w.cell? (x.add (i * 2)) = some (.int .u8 ((ps.getD i noPlace).seq : Nat)) ∧ w.cell? ⟨(x.add (i * 2)).block, (x.add (i * 2)).off + 1, none⟩ = some (.slice (qs.getD i Ptr.none_).A (qs.getD i Ptr.none_).n (qs.getD i Ptr.none_).c) := by
  have hl := h.len_
  have hpl := fvs_length ps qs hq
  have e := fvs_get ps qs hq i (by omega) (by omega)
  have key : ∀ m u, (frameS.enc ((fvs ps qs)[i]'(by omega)))[m]? = some u → m < 2 → w.cell? (if m = 0 then x.add (i * 2) else ⟨(x.add (i * 2)).block, (x.add (i * 2)).off + m, none⟩) = some u := fun m u hu hm => by
    have h1 := h.at_ i m (by omega) u hu
    rw [show frameS.k = 2 from rfl] at h1
    by_cases h0 : m = 0
    · subst h0; simpa using h1
    · rw [if_neg h0]
      rw [show x.add (i * 2 + m) = ⟨(x.add (i * 2)).block, (x.add (i * 2)).off + m, none⟩ by
        unfold Addr.add
        by_cases h2 : i * 2 = 0 <;> simp [h2, h0, Nat.add_assoc]] at h1
      exact h1
  rw [e] at key
  exact ⟨key 0 _ rfl (by omega), key 1 _ rfl (by omega)⟩
/-- What a Frames answers. -/
def FramesIs (w : World) (b : List Nat) (e : Ending) (w' : World) : Prop :=
  ∃ A n c qs, e = .returned (.tuple #[.slice A n c, .int .i64 (endT b : Nat)]) ∧ n ≤ c ∧ c ≤ 9223372036854775807 ∧ n ≤ b.length ∧ Row.Vals frameS w' A n (fvs (walkP 0 b) qs) ∧ Held w' w.heap.size none qs ((walkP 0 b).map (·.l)) ∧ (∀ x, A = some x → w.heap.size ≤ x.block) ∧ Below w.heap.size w w'
theorem frames_len {W : World} {A : Option Addr} {n : Nat} {ps : List Place} {qs : List Ptr} {base : Nat} {g : Option Nat} (h : Row.Vals frameS W A n (fvs ps qs)) (hh : Held W base g qs (ps.map (·.l))) : n = ps.length ∧ qs.length = ps.length := by
  have hq : qs.length = ps.length := by rw [hh.len, List.length_map]
  exact ⟨by rw [← h.len_, fvs_length ps qs hq], hq⟩
theorem places_len {W : World} {A : Option Addr} {n : Nat} {ps : List Place} {qs : List Ptr} {base : Nat} {g : Option Nat} (h : Row.Vals placeS W A n (pvs 0 ps qs)) (hh : Held W base g qs (ps.map (·.l))) : n = ps.length ∧ qs.length = ps.length := by
  have hq : qs.length = ps.length := by rw [hh.len, List.length_map]
  exact ⟨by rw [← h.len_, pvs_length 0 ps qs hq], hq⟩
/-- Element i of frames that lie: its samples. -/
theorem held_at {w : World} {base : Nat} {g : Option Nat} {ps : List Place} {qs : List Ptr} (h : Held w base g qs (ps.map (·.l))) (i : Nat) (hi : i < ps.length) : Row.Vals sampS w (qs.getD i Ptr.none_).A (qs.getD i Ptr.none_).n (ps.getD i noPlace).l := by
  have := h.read i (by rw [List.length_map]; exact hi)
  rwa [show (ps.map (·.l)).getD i [] = (ps.getD i noPlace).l by
    rw [List.getD_eq_getElem?_getD, List.getElem?_map, List.getElem?_eq_getElem hi, List.getD_eq_getElem?_getD, List.getElem?_eq_getElem hi]; rfl] at this
theorem held_small {w : World} {base : Nat} {g : Option Nat} {qs : List Ptr} {ls : List (List Samp)} (h : Held w base g qs ls) (i : Nat) (hi : i < ls.length) : (qs.getD i Ptr.none_).n ≤ 32 := (h.cap _ (getD_mem _ _ i (by rw [h.len]; exact hi))).2.2
theorem first_cell {w : World} {x : Addr} {len : Nat} {ps : List Place} {qs : List Ptr} (h : Row.Vals placeS w (some x) len (pvs 0 ps qs)) (hq : qs.length = ps.length) (hl : 0 < len) : w.cell? x = some (.int .i64 ((ps.getD 0 noPlace).at_ : Nat)) := by
  have := (place_cells h hq 0 hl).1
  simpa [Addr.add] using this
def firstT (b : List Nat) : Nat := ((walkP 0 b).getD 0 noPlace).at_
/-- Frames one behind the other, walked. -/
theorem walk_frame (o : Nat) (q : Nat) (l : List Samp) (hm : mayT l = true) (r : List Nat) : walkP o (frameT q l ++ r) = ⟨o, q, l⟩ :: walkP (o + (6 + 3 * l.length)) r ∧ endP o (frameT q l ++ r) = endP (o + (6 + 3 * l.length)) r := by
  obtain ⟨h0, h1, h2, h3⟩ := look_frame hm r (seq := q)
  obtain ⟨g1, g2⟩ := walk_good o h0
  rw [g1, g2, h1, h2, h3, List.drop_left' (by rw [frameT_length])]
  exact ⟨rfl, rfl⟩
end Go.Proofs.Ytlhjligeigkbnaa.Par
