/- Frames in memory: rows of structs whose samples lie in rows of their own; and where the events stand behind so many of them. -/
import Derived.Test.YtlhjligeigkbnaaParseMath
set_option linter.unusedSimpArgs false
set_option linter.unusedVariables false
namespace Go.Proofs.Ytlhjligeigkbnaa.Par
open Go.RowKit RU8 Frm

/-- A slice that a struct holds. -/
structure Ptr where
  A : Option Addr
  n : Nat
  c : Nat
def Ptr.none_ : Ptr := ⟨none, 0, 0⟩
/-- These slices read as these lists of samples, and lie apart from block g. -/
structure Held (w : World) (base : Nat) (g : Option Nat) (qs : List Ptr) (ls : List (List Samp)) : Prop where
  len : qs.length = ls.length
  read : ∀ i, i < ls.length → Row.Vals sampS w (qs.getD i Ptr.none_).A (qs.getD i Ptr.none_).n (ls.getD i [])
  cap : ∀ q ∈ qs, q.n ≤ q.c ∧ q.c ≤ 9223372036854775807 ∧ q.n ≤ 32
  far : ∀ q ∈ qs, ∀ x, q.A = some x → base ≤ x.block ∧ x.block < w.heap.size ∧ some x.block ≠ g
theorem getD_mem {α : Type} (l : List α) (d : α) (i : Nat) (h : i < l.length) : l.getD i d ∈ l := by
  rw [List.getD_eq_getElem?_getD, List.getElem?_eq_getElem h]; exact List.getElem_mem h
theorem Held.none_ (w : World) (base : Nat) (g : Option Nat) : Held w base g [] [] := ⟨rfl, (fun i h => by simp at h), (fun q h => by cases h), (fun q h => by cases h)⟩
theorem Held.kept {w w' : World} {base : Nat} {g : Option Nat} {qs : List Ptr} {ls : List (List Samp)} {S : List Nat} (h : Held w base g qs ls) (hk : Kept S w w') (hS : ∀ k ∈ S, some k = g ∨ k < base) : Held w' base g qs ls :=
  ⟨h.len, fun i hi => (h.read i hi).kept hk fun _ x hx hm => by
      obtain ⟨h1, h2, h3⟩ := h.far _ (getD_mem _ _ i (by rw [h.len]; exact hi)) x hx
      rcases hS _ hm with e | e
      · exact h3 e
      · omega,
    h.cap, fun q hq x hx => by
      obtain ⟨h1, h2, h3⟩ := h.far q hq x hx
      exact ⟨h1, Nat.lt_of_lt_of_le h2 hk.size, h3⟩⟩
theorem Held.below {w w' : World} {base : Nat} {g : Option Nat} {qs : List Ptr} {ls : List (List Samp)} (h : Held w base g qs ls) (hB : Below w.heap.size w w') : Held w' base g qs ls :=
  h.kept (Kept.of_below (S := []) hB) (fun k hk => by cases hk)
theorem Held.alloc {w : World} {base : Nat} {g : Option Nat} {qs : List Ptr} {ls : List (List Samp)} (h : Held w base g qs ls) (o : Obj) : Held (w.alloc o) base g qs ls :=
  h.kept ((Kept.refl [] w).alloc o) (fun k hk => by cases hk)
/-- The row that holds the structs has grown. -/
theorem Held.grown {w w' : World} {base : Nat} {v v' : Value} {qs : List Ptr} {ls : List (List Samp)} (h : Held w base v.ownBlock qs ls) (hg : w.grownBy w' v.ownBlock) (ho : v'.ownBlock = v.ownBlock ∨ v'.ownBlock = some w.heap.size) : Held w' base v'.ownBlock qs ls := by
  have h1 := h.kept (Kept.of_grown hg) (fun k hk => .inl (by cases e : v.ownBlock with
    | none => rw [e] at hk; cases hk
    | some g => rw [e] at hk; simp at hk; rw [hk]))
  refine ⟨h1.len, h1.read, h1.cap, fun q hq x hx => ?_⟩
  obtain ⟨a1, a2, a3⟩ := h.far q hq x hx
  obtain ⟨b1, b2, b3⟩ := h1.far q hq x hx
  refine ⟨b1, b2, ?_⟩
  rcases ho with e | e
  · rw [e]; exact b3
  · rw [e]; intro e2; injection e2 with e2; omega
theorem Held.snoc {w : World} {base : Nat} {g : Option Nat} {qs : List Ptr} {ls : List (List Samp)} (h : Held w base g qs ls) {q : Ptr} {l : List Samp} (hv : Row.Vals sampS w q.A q.n l) (h1 : q.n ≤ q.c ∧ q.c ≤ 9223372036854775807 ∧ q.n ≤ 32)
    (h2 : ∀ x, q.A = some x → base ≤ x.block ∧ x.block < w.heap.size ∧ some x.block ≠ g) : Held w base g (qs ++ [q]) (ls ++ [l]) := by
  refine ⟨by simp [h.len], fun i hi => ?_, fun r hr => ?_, fun r hr => ?_⟩
  · rw [List.length_append, List.length_singleton] at hi
    rcases Nat.lt_or_ge i ls.length with h3 | h3
    · have := h.read i h3
      rwa [List.getD_eq_getElem?_getD, List.getD_eq_getElem?_getD, List.getElem?_append_left (by rw [h.len]; exact h3), List.getElem?_append_left h3, ← List.getD_eq_getElem?_getD, ← List.getD_eq_getElem?_getD]
    · obtain rfl : i = ls.length := by omega
      rw [show (qs ++ [q]).getD ls.length Ptr.none_ = q by rw [← h.len]; simp, show (ls ++ [l]).getD ls.length [] = l by simp]
      exact hv
  · rcases List.mem_append.1 hr with h3 | h3
    · exact h.cap r h3
    · rw [List.mem_singleton.1 h3]; exact h1
  · rcases List.mem_append.1 hr with h3 | h3
    · exact h.far r h3
    · rw [List.mem_singleton.1 h3]; exact h2
theorem Held.wide {w : World} {base base' : Nat} {g : Option Nat} {qs : List Ptr} {ls : List (List Samp)} (h : Held w base g qs ls) (hb : base' ≤ base) : Held w base' g qs ls :=
  ⟨h.len, h.read, h.cap, fun q hq x hx => by obtain ⟨h1, h2, h3⟩ := h.far q hq x hx; exact ⟨by omega, h2, h3⟩⟩

/-- A place as it lies: where it begins, whether there is garbage ahead, its number, its samples' slice. -/
structure PV where
  at_ : Nat
  dirty : Bool
  seq : Nat
  q : Ptr
def placeS : Row.Shape PV := ⟨4, fun p => [.int .i64 (p.at_ : Nat), .bool p.dirty, .int .u8 (p.seq : Nat), .slice p.q.A p.q.n p.q.c], fun _ => rfl, by decide, fun p u hu => by
  simp at hu
  rcases hu with rfl | rfl | rfl | rfl <;> rfl⟩
/-- A frame as it lies. -/
def frameS : Row.Shape (Nat × Ptr) := ⟨2, fun p => [.int .u8 (p.1 : Nat), .slice p.2.A p.2.n p.2.c], fun _ => rfl, by decide, fun p u hu => by
  simp at hu
  rcases hu with rfl | rfl <;> rfl⟩
/-- An event as it lies. -/
def evSh : Row.Shape Ev := ⟨4, fun e => [.int .i64 (e.1 : Nat), .int .i64 (e.2.1 : Nat), .int .i32 e.2.2.1, .bool e.2.2.2], fun _ => rfl, by decide, fun p u hu => by
  simp at hu
  rcases hu with rfl | rfl | rfl | rfl <;> rfl⟩
def lastEnd (pend : Nat) (ps : List Place) : Nat := ps.foldl (fun _ p => p.end_) pend
theorem lastEnd_snoc (pend : Nat) (ps : List Place) (p : Place) : lastEnd pend (ps ++ [p]) = p.end_ := by simp [lastEnd, List.foldl_append]
def pvs (pend : Nat) : List Place → List Ptr → List PV
  | p :: ps, q :: qs => ⟨p.at_, decide (p.at_ ≠ pend), p.seq, q⟩ :: pvs p.end_ ps qs
  | _, _ => []
theorem pvs_length (pend : Nat) (ps : List Place) (qs : List Ptr) (h : qs.length = ps.length) : (pvs pend ps qs).length = ps.length := by
  induction ps generalizing pend qs with
  | nil => cases qs <;> rfl
  | cons p ps ih =>
    cases qs with
    | nil => simp at h
    | cons q qs => simp only [pvs, List.length_cons, ih p.end_ qs (by simpa using h)]
theorem pvs_snoc (pend : Nat) (ps : List Place) (qs : List Ptr) (h : qs.length = ps.length) (p : Place) (q : Ptr) : pvs pend (ps ++ [p]) (qs ++ [q]) = pvs pend ps qs ++ [⟨p.at_, decide (p.at_ ≠ lastEnd pend ps), p.seq, q⟩] := by
  induction ps generalizing pend qs with
  | nil =>
    cases qs with
    | nil => rfl
    | cons => simp at h
  | cons a ps ih =>
    cases qs with
    | nil => simp at h
    | cons b qs =>
      simp only [List.cons_append, pvs, ih a.end_ qs (by simpa using h)]
      rfl
def noPlace : Place := ⟨0, 0, []⟩
theorem pvs_get (pend : Nat) (ps : List Place) (qs : List Ptr) (h : qs.length = ps.length) (i : Nat) (hi : i < ps.length) (hi2 : i < (pvs pend ps qs).length) :
    (pvs pend ps qs)[i] = ⟨(ps.getD i noPlace).at_, decide ((ps.getD i noPlace).at_ ≠ lastEnd pend (ps.take i)), (ps.getD i noPlace).seq, qs.getD i Ptr.none_⟩ := by
  induction ps generalizing pend qs i with
  | nil => simp at hi
  | cons a ps ih =>
    cases qs with
    | nil => simp at h
    | cons b qs =>
      cases i with
      | zero => rfl
      | succ i =>
        have := ih a.end_ qs (by simpa using h) i (by simpa using hi) (by simpa [pvs] using hi2)
        simp only [pvs, List.getElem_cons_succ, this]
        rfl
/-! ### Where the events stand behind so many places -/
def stAt (ps : List Place) (i : Nat) : St := afterL start (ps.take i)
theorem take_step {α : Type} (l : List α) (d : α) (i : Nat) (h : i < l.length) : l.take (i + 1) = l.take i ++ [l.getD i d] := by
  rw [List.take_succ_eq_append_getElem h, List.getD_eq_getElem?_getD, List.getElem?_eq_getElem h]; rfl
theorem st_step (ps : List Place) (i : Nat) (h : i < ps.length) : stAt ps (i + 1) = (stAt ps i).next (ps.getD i noPlace) := by
  unfold stAt
  rw [take_step ps noPlace i h, after_append]; rfl
theorem ev_step (ps : List Place) (i : Nat) (h : i < ps.length) : eventsL start (ps.take (i + 1)) = eventsL start (ps.take i) ++ (stAt ps i).evs (ps.getD i noPlace) := by
  rw [take_step ps noPlace i h, events_append]
  simp only [eventsL, List.append_nil]
  rfl
theorem next_pend (st : St) (p : Place) : (st.next p).pend = p.end_ ∧ (st.next p).prev = some p.seq := by unfold St.next; split <;> exact ⟨rfl, rfl⟩
theorem st_pend (ps : List Place) (i : Nat) (h : i ≤ ps.length) : (stAt ps i).pend = lastEnd 0 (ps.take i) := by
  cases i with
  | zero => rfl
  | succ i => rw [st_step ps i (by omega), (next_pend _ _).1, take_step ps noPlace i (by omega), lastEnd_snoc]
theorem st_prev (ps : List Place) (i : Nat) (h : i ≤ ps.length) : (stAt ps i).prev = if i = 0 then none else some (ps.getD (i - 1) noPlace).seq := by
  cases i with
  | zero => rfl
  | succ i => rw [st_step ps i (by omega), (next_pend _ _).2]; simp
end Go.Proofs.Ytlhjligeigkbnaa.Par
