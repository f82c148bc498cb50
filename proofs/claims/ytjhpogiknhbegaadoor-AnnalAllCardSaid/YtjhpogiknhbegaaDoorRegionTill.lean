/- A walk through a region that draws its order and stores at its end: till the operations of T (each of which waits for all that is taken first) every world meets S; the moves, typed out; and a walk by what holds between (one goal for each operation, whatever the order). -/
import Derived.WalkKit
import Derived.Deep.RegionHeld3
set_option linter.unusedVariables false
namespace Go.Proofs.YtjhpogiknhbegaaDoor.Till
open Go.RowKit
section
variable {P : Program} {md : Region.Mode} {l : List Oper} {Q : Exit → Act → World → Prop} {S : World → Prop} {T : List Nat}
/-- Whatever comes up next, S holds behind it, if it isn't of T; and so on. -/
def Any (P : Program) (md : Region.Mode) (l : List Oper) (Q : Exit → Act → World → Prop) (S : World → Prop) (T : List Nat) : Nat → Array Bool → Act → World → Prop
  | 0, L, a, w => Region.ready md l.toArray L = [] ∧ Q .normal a w
  | n + 1, L, a, w => (Region.ready md l.toArray L = [] → Q .normal a w) ∧
      ∀ i, i ∈ Region.ready md l.toArray L → wpOp P l.toArray Q i (fun b v => (i ∉ T → S v) ∧ Any P md l Q S T n (L.setIfInBounds i true) b v) a w
theorem plain : ∀ (n : Nat) (L : Array Bool) (a : Act) (w : World), Any P md l Q S T n L a w → wpAny P md l.toArray Q n L a w
  | 0, _, _, _, h => h
  | n + 1, _, _, _, h => ⟨h.1, fun i hi => wpOp_mono (fun b v hh => plain n _ b v hh.2) (h.2 i hi)⟩
/-- Operation j waits for this one, or for one that hasn't come up and is itself behind it (by so many links). -/
def behind (md : Region.Mode) (l : List Oper) (L : Array Bool) (i : Nat) : Nat → Nat → Bool
  | 0, _ => false
  | n + 1, j => match l[j]? with
    | some o => o.after.any fun e => Region.binds md e && (e.on == i || (!(L.getD e.on true) && behind md l L i n e.on))
    | none => false
theorem getD_both {L : Array Bool} {i : Nat} (h : L.getD i true = false) : L.getD i false = false := by
  rcases Nat.lt_or_ge i L.size with h' | h'
  · simp [h'] at h ⊢; exact h
  · simp [Array.getElem?_eq_none h'] at h
theorem behind_spec {L : Array Bool} {i n j : Nat} {o : Oper} (h : behind md l L i (n + 1) j = true) (ho : l[j]? = some o) : ∃ e ∈ o.after, Region.binds md e = true ∧ (e.on = i ∨ (L.getD e.on true = false ∧ behind md l L i n e.on = true)) := by
  unfold behind at h
  rw [ho] at h
  obtain ⟨e, he, hb⟩ := Array.any_eq_true'.1 h
  simp only [Bool.and_eq_true, Bool.or_eq_true, beq_iff_eq, Bool.not_eq_true'] at hb
  exact ⟨e, he, hb.1, hb.2⟩
/-- What is behind it can't come up ahead of it. -/
theorem behind_not {L : Array Bool} {i n j : Nat} (hi : L.getD i true = false) (h : behind md l L i n j = true) : j ∉ Region.ready md l.toArray L := fun hj => by
  obtain ⟨_, o, ho, hall⟩ := mem_ready.1 hj
  cases n with
  | zero => cases h
  | succ n =>
    obtain ⟨e, he, hb, heq | ⟨hm, _⟩⟩ := behind_spec h (by rw [← List.getElem?_toArray]; exact ho)
    · have h9 := hall e he hb
      rw [heq, getD_both hi] at h9
      cases h9
    · have h9 := hall e he hb
      rw [getD_both hm] at h9
      cases h9
/-- And it stays behind it, whatever else comes up. -/
theorem behind_set {L : Array Bool} {i k : Nat} (hi : L.getD i true = false) (hk : k ∈ Region.ready md l.toArray L) : ∀ (n j : Nat), behind md l L i n j = true → behind md l (L.setIfInBounds k true) i n j = true
  | 0, _, h => by cases h
  | n + 1, j, h => by
    cases ho : l[j]? with
    | none => unfold behind at h; rw [ho] at h; cases h
    | some o =>
      obtain ⟨e, he, hb, hor⟩ := behind_spec h ho
      unfold behind
      rw [ho]
      refine Array.any_eq_true'.2 ⟨e, he, ?_⟩
      simp only [Bool.and_eq_true, Bool.or_eq_true, beq_iff_eq, Bool.not_eq_true']
      refine ⟨hb, hor.imp id fun ⟨hm, hw⟩ => ⟨?_, behind_set hi hk n _ hw⟩⟩
      rw [getD_set_ne true (show k ≠ e.on from fun hkm => behind_not hi hw (by rw [← hkm]; exact hk))]
      exact hm
/-- Each operation of T is behind this one. -/
def stuck (md : Region.Mode) (l : List Oper) (T : List Nat) (L : Array Bool) (i : Nat) : Bool := T.all (behind md l L i 5)
theorem first {i : Nat} {oi : Oper} {v : Value} (hi : l.toArray[i]? = some oi) (hsel : ∀ (j : Nat) (o : Oper) cs b, l.toArray[j]? = some o → o.op ≠ .select cs b) (hQ : ∀ c a w, Q (.panic c) (a.put oi.dst v) w → Q (.panic c) a w) :
    ∀ (n : Nat) (L : Array Bool) (a : Act) (w : World), stuck md l T L i = true →
      (∀ j oj, l.toArray[j]? = some oj → j ≠ i → L.getD j true = false → (∀ e ∈ oj.after, Region.binds md e = true → e.on ≠ i) → oi.apart l.toArray oj = true) →
      i ∈ Region.ready md l.toArray L → YieldsIf P l.toArray S oi v a → S w → Any P md l Q S T n (L.setIfInBounds i true) (a.put oi.dst v) w → Any P md l Q S T (n + 1) L a w
  | 0, L, a, w, hT, hfree, hr, hy, hS, H => by
    refine ⟨fun h => (by rw [h] at hr; cases hr), fun j hj => ?_⟩
    rcases Decidable.em (j = i) with rfl | hji
    · exact hy.wpOp hi hS ⟨fun _ => hS, H⟩
    · have := ready_mono hj hji
      rw [H.1] at this
      cases this
  | n + 1, L, a, w, hT, hfree, hr, hy, hS, H => by
    refine ⟨fun h => (by rw [h] at hr; cases hr), fun j hj => ?_⟩
    rcases Decidable.em (j = i) with rfl | hji
    · exact hy.wpOp hi hS ⟨fun _ => hS, H⟩
    · have hstep := H.2 j (ready_mono hj hji)
      obtain ⟨hjun, oj, hoj, hall⟩ := mem_ready.1 hj
      have hun := getD_both (mem_ready.1 hr).1
      have hoj' : l[j]? = some oj := by rw [← List.getElem?_toArray]; exact hoj
      have hnot : ∀ e ∈ oj.after, Region.binds md e = true → e.on ≠ i := fun e he hb heq => by
        have h9 := hall e he hb
        rw [heq, hun] at h9
        cases h9
      have hjT : j ∉ T := fun hj' => by
        exact behind_not (mem_ready.1 hr).1 (List.all_eq_true.1 hT j hj') hj
      have hput := wpOp_putIf hoj (hfree j oj hoj hji hjun hnot) (fun cs b => hsel i oi cs b hi) (fun cs b => hsel j oj cs b hoj) hQ hy hstep
      refine wpOp_mono (fun b v' hh => ⟨fun _ => hh.2.1 hjT, first hi hsel hQ n _ b v' ?_ ?_ (ready_mono hr (Ne.symm hji)) hh.1 (hh.2.1 hjT) ?_⟩) hput
      · exact List.all_eq_true.2 fun t ht => behind_set (mem_ready.1 hr).1 hj 5 t (List.all_eq_true.1 hT t ht)
      · intro k ok hk hki hkun hno
        refine hfree k ok hk hki ?_ hno
        rcases Decidable.em (j = k) with rfl | hjk
        · exact hjun
        · rwa [getD_set_ne true hjk] at hkun
      · rw [Array.setIfInBounds_comm _ _ hji]
        exact hh.2.2
theorem begin_ {id : Nat} {a : Act} {w : World} (hm : P.follows .mixedOrders = true) (hS : S w.drew)
    (h : S w.drew → Any P .any l (NoPanic Q) S T l.toArray.size (Array.replicate l.toArray.size false) a w.drew) : (Code.region id l.toArray true).wp P Q a w :=
  wp_region_noPanic (wp_region_any hm (plain _ _ _ _ (h hS)))
theorem take {i : Nat} {oi : Oper} {v : Value} {n : Nat} {L : Array Bool} {a : Act} {w : World} (hi : l[i]? = some oi) (hs : Region.noSelect l.toArray = true) (hT : stuck md l T L i = true) (hf : Region.free md l.toArray L i = true)
    (hr : (Region.ready md l.toArray L).contains i = true) (hw : Region.wanted oi (yielded l.toArray a.tmps) = true) (hv : ∀ w, S w → (execOp a.eval oi).run P w = .ok (.value v) w) (hS : S w)
    (h : Any P md l (NoPanic Q) S T n (L.setIfInBounds i true) (a.put oi.dst v) w) : Any P md l (NoPanic Q) S T (n + 1) L a w := by
  have hi' : l.toArray[i]? = some oi := by rw [List.getElem?_toArray]; exact hi
  exact first hi' (Region.noSelect_spec hs) (fun _ _ _ h => h) n L a w hT (Region.free_spec hi' hf) (by simpa using hr) (.inl ⟨hw, hv⟩) hS h
/-- An operation whose guard says that it isn't wanted is left out. -/
theorem skip {i : Nat} {oi : Oper} {n : Nat} {L : Array Bool} {a : Act} {w : World} (hi : l[i]? = some oi) (hs : Region.noSelect l.toArray = true) (hT : stuck md l T L i = true) (hf : Region.free md l.toArray L i = true)
    (hr : (Region.ready md l.toArray L).contains i = true) (hw : Region.wanted oi (yielded l.toArray a.tmps) = false) (hS : S w)
    (h : Any P md l (NoPanic Q) S T n (L.setIfInBounds i true) (a.put oi.dst undef) w) : Any P md l (NoPanic Q) S T (n + 1) L a w := by
  have hi' : l.toArray[i]? = some oi := by rw [List.getElem?_toArray]; exact hi
  exact first hi' (Region.noSelect_spec hs) (fun _ _ _ h => h) n L a w hT (Region.free_spec hi' hf) (by simpa using hr) (.inr ⟨hw, rfl⟩) hS h
/-- The one that may come up, not of T. -/
theorem call {i : Nat} {oi : Oper} {n : Nat} {L : Array Bool} {a : Act} {w : World} (hi : l[i]? = some oi) (hr : Region.ready md l.toArray L = [i]) (hw : Region.wanted oi (yielded l.toArray a.tmps) = true)
    (h : ∀ K : Act → World → Prop, Shut (∀ a w, S w → (S w → Any P md l Q S T n (L.setIfInBounds i true) a w) → K a w) → Oper.wp P oi a w K Q) : Any P md l Q S T (n + 1) L a w := by
  refine ⟨fun h0 => (by rw [hr] at h0; cases h0), fun j hj => ?_⟩
  rw [hr] at hj
  obtain rfl : j = i := by simpa using hj
  exact wpOp_step (by rw [List.getElem?_toArray]; exact hi) (fun K hK => by rw [if_pos hw]; exact h K (fun a w hS hW => hK a w ⟨fun _ => hS, hW hS⟩))
/-- Two may come up, neither of T: each is walked. -/
theorem both {i j : Nat} {oi oj : Oper} {n : Nat} {L : Array Bool} {a : Act} {w : World} (hi : l[i]? = some oi) (hj : l[j]? = some oj) (hr : Region.ready md l.toArray L = [i, j]) (hwi : Region.wanted oi (yielded l.toArray a.tmps) = true) (hwj : Region.wanted oj (yielded l.toArray a.tmps) = true)
    (h : ∀ K : Act → World → Prop, Shut (∀ a w, S w → (S w → Any P md l Q S T n (L.setIfInBounds i true) a w) → K a w) → Oper.wp P oi a w K Q)
    (h' : ∀ K : Act → World → Prop, Shut (∀ a w, S w → (S w → Any P md l Q S T n (L.setIfInBounds j true) a w) → K a w) → Oper.wp P oj a w K Q) : Any P md l Q S T (n + 1) L a w := by
  refine ⟨fun h0 => (by rw [hr] at h0; cases h0), fun k hk => ?_⟩
  rw [hr] at hk
  rcases List.mem_cons.1 hk with rfl | hk
  · exact wpOp_step (by rw [List.getElem?_toArray]; exact hi) (fun K hK => by rw [if_pos hwi]; exact h K (fun a w hS hW => hK a w ⟨fun _ => hS, hW hS⟩))
  · obtain rfl : k = j := by simpa using hk
    exact wpOp_step (by rw [List.getElem?_toArray]; exact hj) (fun K hK => by rw [if_pos hwj]; exact h' K (fun a w hS hW => hK a w ⟨fun _ => hS, hW hS⟩))
/-- The one that may come up, of T. -/
theorem put {i : Nat} {oi : Oper} {n : Nat} {L : Array Bool} {a : Act} {w : World} (hi : l[i]? = some oi) (hr : Region.ready md l.toArray L = [i]) (hw : Region.wanted oi (yielded l.toArray a.tmps) = true) (hT : T.contains i = true)
    (h : ∀ K : Act → World → Prop, Shut (∀ a w, Any P md l Q S T n (L.setIfInBounds i true) a w → K a w) → Oper.wp P oi a w K Q) : Any P md l Q S T (n + 1) L a w := by
  refine ⟨fun h0 => (by rw [hr] at h0; cases h0), fun j hj => ?_⟩
  rw [hr] at hj
  obtain rfl : j = i := by simpa using hj
  exact wpOp_step (by rw [List.getElem?_toArray]; exact hi) (fun K hK => by rw [if_pos hw]; exact h K (fun a w hW => hK a w ⟨fun hn => absurd (by simpa using hT) hn, hW⟩))
theorem done {L : Array Bool} {a : Act} {w : World} (hr : Region.ready md l.toArray L = []) (h : Q .normal a w) (n : Nat) : Any P md l (NoPanic Q) S T n L a w := by
  cases n with
  | zero => exact ⟨hr, NoPanic.normal h⟩
  | succ n => exact ⟨fun _ => NoPanic.normal h, by rw [hr]; simp⟩
/-- How many haven't come up. -/
def left (L : Array Bool) : Nat := (L.toList.filter (fun b => !b)).length
theorem left_set {L : Array Bool} {i : Nat} (h : L.getD i true = false) : left (L.setIfInBounds i true) + 1 = left L := by
  unfold left
  rw [Array.toList_setIfInBounds]
  have hl : L.toList[i]? = some false := by
    rcases Nat.lt_or_ge i L.size with h' | h'
    · rw [Array.getElem?_toList, Array.getElem?_eq_getElem h']
      simp [Array.getD, h'] at h
      rw [h]
    · simp [Array.getD, Nat.not_lt.2 h'] at h
  clear h
  generalize L.toList = m at *
  induction m generalizing i with
  | nil => simp at hl
  | cons b m ih => cases i with
    | zero =>
      simp at hl
      subst hl
      simp
    | succ i =>
      simp at hl
      have h1 := ih hl
      rw [List.set_cons_succ]
      cases b
      · simp at h1 ⊢; omega
      · simp at h1 ⊢; omega
/-- By what holds between: whatever comes up, it holds behind it too. -/
theorem through (J : Array Bool → Act → World → Prop) (hstep : ∀ (L : Array Bool) (a : Act) (w : World), J L a w → ∀ i o, l[i]? = some o → L.getD i true = false → (∀ e ∈ o.after, Region.binds md e = true → L.getD e.on false = true) →
      wpOp P l.toArray Q i (fun b v => (i ∉ T → S v) ∧ J (L.setIfInBounds i true) b v) a w)
    (hdone : ∀ (L : Array Bool) (a : Act) (w : World), J L a w → Region.ready md l.toArray L = [] → Q .normal a w) :
    ∀ (n : Nat) (L : Array Bool) (a : Act) (w : World), left L ≤ n → J L a w → Any P md l Q S T n L a w := by
  intro n
  induction n with
  | zero =>
    intro L a w hl hJ
    have hr : Region.ready md l.toArray L = [] := by
      rcases hq : Region.ready md l.toArray L with _ | ⟨i, r⟩
      · rfl
      · have hi : i ∈ Region.ready md l.toArray L := by rw [hq]; simp
        have := left_set (mem_ready.1 hi).1
        omega
    exact ⟨hr, hdone L a w hJ hr⟩
  | succ n ih =>
    intro L a w hl hJ
    refine ⟨fun hr => hdone L a w hJ hr, fun i hi => ?_⟩
    obtain ⟨h1, o, h2, h3⟩ := mem_ready.1 hi
    have h4 := left_set h1
    refine wpOp_mono (fun b v hh => ⟨hh.1, ih _ b v (by omega) hh.2⟩) (hstep L a w hJ i o (by rw [← List.getElem?_toArray]; exact h2) h1 h3)
/-- Of each operation of a row, with its number. -/
def Each (p : Nat → Oper → Prop) : Nat → List Oper → Prop
  | _, [] => True
  | k, o :: r => p k o ∧ Each p (k + 1) r
theorem Each.get {p : Nat → Oper → Prop} : ∀ (l : List Oper) (k i : Nat) (o : Oper), Each p k l → l[i]? = some o → p (k + i) o
  | [], _, _, _, _, h => by cases h
  | x :: r, k, 0, o, h, hi => by
    obtain rfl : x = o := by simpa using hi
    exact h.1
  | x :: r, k, i + 1, o, h, hi => by
    have h9 := Each.get r (k + 1) i o h.2 (by simpa using hi)
    rwa [show k + 1 + i = k + (i + 1) by omega] at h9
/-- Each waits for such alone as stand ahead of it. -/
def forward (md : Region.Mode) (l : List Oper) : Bool := (List.range l.length).all fun i => match l[i]? with
  | some o => o.after.all fun e => !Region.binds md e || decide (e.on < i)
  | none => true
theorem forward_spec {i : Nat} {o : Oper} (h : forward md l = true) (hi : l[i]? = some o) : ∀ e ∈ o.after, Region.binds md e = true → e.on < i := fun e he hb => by
  have hl : i < l.length := (List.getElem?_eq_some_iff.1 hi).1
  have h1 := List.all_eq_true.1 h i (by simpa using hl)
  rw [hi] at h1
  have h2 := (Array.all_eq_true_iff_forall_mem.1 h1) e he
  simpa [hb] using h2
theorem all_up {L : Array Bool} (hf : forward md l = true) (hs : L.size = l.length) (hr : Region.ready md l.toArray L = []) : ∀ i, i < l.length → L.getD i false = true := by
  intro i
  induction i using Nat.strongRecOn with
  | _ i ih =>
    intro hi
    have ho := List.getElem?_eq_getElem hi
    by_cases hu : L.getD i true = false
    · have : i ∈ Region.ready md l.toArray L := mem_ready.2 ⟨hu, l[i], by rw [List.getElem?_toArray]; exact ho, fun e he hb => ih e.on (forward_spec hf ho e he hb) (by have := forward_spec hf ho e he hb; omega)⟩
      rw [hr] at this
      cases this
    · have hL : i < L.size := by omega
      simp [hL] at hu ⊢
      exact hu
/-- By what holds between, seen from the frame at hand: one goal for each operation. -/
theorem walk_ {a0 : Act} {w0 : World} {n : Nat} {L0 : Array Bool} (Z : Act → Array Bool → Act → World → Prop) (hf : forward md l = true) (hs : L0.size = l.length) (hn : left L0 ≤ n) (h0 : Z a0 L0 a0 w0)
    (hstep : Each (fun k o => ∀ (L : Array Bool) (a : Act) (w : World), Z a0 L a w → L.getD k true = false → (∀ e ∈ o.after, Region.binds md e = true → L.getD e.on false = true) →
      ∀ K : Act → World → Prop, Shut (∀ b v, (k ∉ T → S v) → Z a0 (L.setIfInBounds k true) b v → K b v) → Region.wanted o (yielded l.toArray a.tmps) = true ∧ Oper.wp P o a w K Q) 0 l)
    (hdone : ∀ (L : Array Bool) (a : Act) (w : World), Z a0 L a w → (∀ i, i < l.length → L.getD i false = true) → Q .normal a w) : Any P md l Q S T n L0 a0 w0 := by
  refine through (fun L a w => L.size = l.length ∧ Z a0 L a w) ?_ (fun L a w h hr => hdone L a w h.2 (all_up hf h.1 hr)) n L0 a0 w0 hn ⟨hs, h0⟩
  intro L a w ⟨hz, hZ⟩ i o hi hun hall
  have h9 := hstep.get l 0 i o hi
  rw [Nat.zero_add] at h9
  refine wpOp_step (by rw [List.getElem?_toArray]; exact hi) (fun K hK => ?_)
  obtain ⟨hw, hop⟩ := h9 L a w hZ hun hall K (fun b v h1 h2 => hK b v ⟨h1, by simpa using hz, h2⟩)
  rw [if_pos hw]
  exact hop
end
end Go.Proofs.YtjhpogiknhbegaaDoor.Till
