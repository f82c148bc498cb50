/- What the proofs stand on, part 1. -/
import Derived.WalkKit
import Derived.Deep.RegionHeld3
import Derived.OpenShut
import Derived.Deep.Draws
import Derived.Below
import GoSem.Claim
import Derived.IntWalk
import Derived.ProofKit
import Derived.OwnWalk
import Derived.Laws.BitsAllLaws
import Derived.Laws.BitsLemmas
import Derived.Test.YtnoppoimahfknaaChecked
import Derived.Lib.BitFns
import Derived.Lib.Hide
import Derived.Maps.AppendAt
import Derived.KernelRfl
section
/- A walk through a region that draws its order and stores at its end: till the operations of T (each of which waits for all that is taken first) every world meets S; the moves, typed out; and a walk by what holds between (one goal for each operation, whatever the order). -/
set_option linter.unusedVariables false
namespace Go.Proofs.Ytnoppoimahfknaa.Till
open Go.RowKit
section
variable {P : Program} {md : Region.Mode} {l : List Oper} {Q : Exit → Act → World → Prop} {S : World → Prop} {T : List Nat}
/-- Whatever comes up next, S holds behind it, if it isn't of T; and so on. -/
def Any (P : Program) (md : Region.Mode) (l : List Oper) (Q : Exit → Act → World → Prop) (S : World → Prop) (T : List Nat) : Nat → Array Bool → Act → World → Prop
  | 0, L, a, w => Region.ready md l.toArray L = [] ∧ Q .normal a w
  | n + 1, L, a, w => (Region.ready md l.toArray L = [] → Q .normal a w) ∧
      ∀ i, i ∈ Region.ready md l.toArray L → wpOp P l.toArray Q i (fun b v => (i ∉ T → S v) ∧ Any P md l Q S T n (L.setIfInBounds i true) b v) a w
theorem plain : ∀ (n : Nat) (L : Array Bool) (a : Act) (w : World), Any P md l Q S T n L a w → wpAny P md l.toArray Q n L a w
  | 0, _, _, _, h => h
  | n + 1, _, _, _, h => ⟨h.1, fun i hi => wpOp_mono (fun b v hh => plain n _ b v hh.2) (h.2 i hi)⟩
/-- Operation j waits for this one, or for one that hasn't come up and is itself behind it (by so many links). -/
def behind (md : Region.Mode) (l : List Oper) (L : Array Bool) (i : Nat) : Nat → Nat → Bool
  | 0, _ => false
  | n + 1, j => match l[j]? with
    | some o => o.after.any fun e => Region.binds md e && (e.on == i || (!(L.getD e.on true) && behind md l L i n e.on))
    | none => false
theorem getD_both {L : Array Bool} {i : Nat} (h : L.getD i true = false) : L.getD i false = false := by
  rcases Nat.lt_or_ge i L.size with h' | h'
  · simp [h'] at h ⊢; exact h
  · simp [Array.getElem?_eq_none h'] at h
theorem behind_spec {L : Array Bool} {i n j : Nat} {o : Oper} (h : behind md l L i (n + 1) j = true) (ho : l[j]? = some o) : ∃ e ∈ o.after, Region.binds md e = true ∧ (e.on = i ∨ (L.getD e.on true = false ∧ behind md l L i n e.on = true)) := by
  unfold behind at h
  rw [ho] at h
  obtain ⟨e, he, hb⟩ := Array.any_eq_true'.1 h
  simp only [Bool.and_eq_true, Bool.or_eq_true, beq_iff_eq, Bool.not_eq_true'] at hb
  exact ⟨e, he, hb.1, hb.2⟩
/-- What is behind it can't come up ahead of it. -/
theorem behind_not {L : Array Bool} {i n j : Nat} (hi : L.getD i true = false) (h : behind md l L i n j = true) : j ∉ Region.ready md l.toArray L := fun hj => by
  obtain ⟨_, o, ho, hall⟩ := mem_ready.1 hj
  cases n with
  | zero => cases h
  | succ n =>
    obtain ⟨e, he, hb, heq | ⟨hm, _⟩⟩ := behind_spec h (by rw [← List.getElem?_toArray]; exact ho)
    · have h9 := hall e he hb
      rw [heq, getD_both hi] at h9
      cases h9
    · have h9 := hall e he hb
      rw [getD_both hm] at h9
      cases h9
/-- And it stays behind it, whatever else comes up. -/
theorem behind_set {L : Array Bool} {i k : Nat} (hi : L.getD i true = false) (hk : k ∈ Region.ready md l.toArray L) : ∀ (n j : Nat), behind md l L i n j = true → behind md l (L.setIfInBounds k true) i n j = true
  | 0, _, h => by cases h
  | n + 1, j, h => by
    cases ho : l[j]? with
    | none => unfold behind at h; rw [ho] at h; cases h
    | some o =>
      obtain ⟨e, he, hb, hor⟩ := behind_spec h ho
      unfold behind
      rw [ho]
      refine Array.any_eq_true'.2 ⟨e, he, ?_⟩
      simp only [Bool.and_eq_true, Bool.or_eq_true, beq_iff_eq, Bool.not_eq_true']
      refine ⟨hb, hor.imp id fun ⟨hm, hw⟩ => ⟨?_, behind_set hi hk n _ hw⟩⟩
      rw [getD_set_ne true (show k ≠ e.on from fun hkm => behind_not hi hw (by rw [← hkm]; exact hk))]
      exact hm
/-- Each operation of T is behind this one. -/
def stuck (md : Region.Mode) (l : List Oper) (T : List Nat) (L : Array Bool) (i : Nat) : Bool := T.all (behind md l L i 5)
theorem first {i : Nat} {oi : Oper} {v : Value} (hi : l.toArray[i]? = some oi) (hsel : ∀ (j : Nat) (o : Oper) cs b, l.toArray[j]? = some o → o.op ≠ .select cs b) (hQ : ∀ c a w, Q (.panic c) (a.put oi.dst v) w → Q (.panic c) a w) :
    ∀ (n : Nat) (L : Array Bool) (a : Act) (w : World), stuck md l T L i = true →
      (∀ j oj, l.toArray[j]? = some oj → j ≠ i → L.getD j true = false → (∀ e ∈ oj.after, Region.binds md e = true → e.on ≠ i) → oi.apart l.toArray oj = true) →
      i ∈ Region.ready md l.toArray L → YieldsIf P l.toArray S oi v a → S w → Any P md l Q S T n (L.setIfInBounds i true) (a.put oi.dst v) w → Any P md l Q S T (n + 1) L a w
  | 0, L, a, w, hT, hfree, hr, hy, hS, H => by
    refine ⟨fun h => (by rw [h] at hr; cases hr), fun j hj => ?_⟩
    rcases Decidable.em (j = i) with rfl | hji
    · exact hy.wpOp hi hS ⟨fun _ => hS, H⟩
    · have := ready_mono hj hji
      rw [H.1] at this
      cases this
  | n + 1, L, a, w, hT, hfree, hr, hy, hS, H => by
    refine ⟨fun h => (by rw [h] at hr; cases hr), fun j hj => ?_⟩
    rcases Decidable.em (j = i) with rfl | hji
    · exact hy.wpOp hi hS ⟨fun _ => hS, H⟩
    · have hstep := H.2 j (ready_mono hj hji)
      obtain ⟨hjun, oj, hoj, hall⟩ := mem_ready.1 hj
      have hun := getD_both (mem_ready.1 hr).1
      have hoj' : l[j]? = some oj := by rw [← List.getElem?_toArray]; exact hoj
      have hnot : ∀ e ∈ oj.after, Region.binds md e = true → e.on ≠ i := fun e he hb heq => by
        have h9 := hall e he hb
        rw [heq, hun] at h9
        cases h9
      have hjT : j ∉ T := fun hj' => by
        exact behind_not (mem_ready.1 hr).1 (List.all_eq_true.1 hT j hj') hj
      have hput := wpOp_putIf hoj (hfree j oj hoj hji hjun hnot) (fun cs b => hsel i oi cs b hi) (fun cs b => hsel j oj cs b hoj) hQ hy hstep
      refine wpOp_mono (fun b v' hh => ⟨fun _ => hh.2.1 hjT, first hi hsel hQ n _ b v' ?_ ?_ (ready_mono hr (Ne.symm hji)) hh.1 (hh.2.1 hjT) ?_⟩) hput
      · exact List.all_eq_true.2 fun t ht => behind_set (mem_ready.1 hr).1 hj 5 t (List.all_eq_true.1 hT t ht)
      · intro k ok hk hki hkun hno
        refine hfree k ok hk hki ?_ hno
        rcases Decidable.em (j = k) with rfl | hjk
        · exact hjun
        · rwa [getD_set_ne true hjk] at hkun
      · rw [Array.setIfInBounds_comm _ _ hji]
        exact hh.2.2
theorem begin_ {id : Nat} {a : Act} {w : World} (hm : P.follows .mixedOrders = true) (hS : S w.drew)
    (h : S w.drew → Any P .any l (NoPanic Q) S T l.toArray.size (Array.replicate l.toArray.size false) a w.drew) : (Code.region id l.toArray true).wp P Q a w :=
  wp_region_noPanic (wp_region_any hm (plain _ _ _ _ (h hS)))
theorem take {i : Nat} {oi : Oper} {v : Value} {n : Nat} {L : Array Bool} {a : Act} {w : World} (hi : l[i]? = some oi) (hs : Region.noSelect l.toArray = true) (hT : stuck md l T L i = true) (hf : Region.free md l.toArray L i = true)
    (hr : (Region.ready md l.toArray L).contains i = true) (hw : Region.wanted oi (yielded l.toArray a.tmps) = true) (hv : ∀ w, S w → (execOp a.eval oi).run P w = .ok (.value v) w) (hS : S w)
    (h : Any P md l (NoPanic Q) S T n (L.setIfInBounds i true) (a.put oi.dst v) w) : Any P md l (NoPanic Q) S T (n + 1) L a w := by
  have hi' : l.toArray[i]? = some oi := by rw [List.getElem?_toArray]; exact hi
  exact first hi' (Region.noSelect_spec hs) (fun _ _ _ h => h) n L a w hT (Region.free_spec hi' hf) (by simpa using hr) (.inl ⟨hw, hv⟩) hS h
/-- The one that may come up, not of T. -/
theorem call {i : Nat} {oi : Oper} {n : Nat} {L : Array Bool} {a : Act} {w : World} (hi : l[i]? = some oi) (hr : Region.ready md l.toArray L = [i]) (hw : Region.wanted oi (yielded l.toArray a.tmps) = true)
    (h : ∀ K : Act → World → Prop, Shut (∀ a w, S w → (S w → Any P md l Q S T n (L.setIfInBounds i true) a w) → K a w) → Oper.wp P oi a w K Q) : Any P md l Q S T (n + 1) L a w := by
  refine ⟨fun h0 => (by rw [hr] at h0; cases h0), fun j hj => ?_⟩
  rw [hr] at hj
  obtain rfl : j = i := by simpa using hj
  exact wpOp_step (by rw [List.getElem?_toArray]; exact hi) (fun K hK => by rw [if_pos hw]; exact h K (fun a w hS hW => hK a w ⟨fun _ => hS, hW hS⟩))
/-- Two may come up, neither of T: each is walked. -/
theorem both {i j : Nat} {oi oj : Oper} {n : Nat} {L : Array Bool} {a : Act} {w : World} (hi : l[i]? = some oi) (hj : l[j]? = some oj) (hr : Region.ready md l.toArray L = [i, j]) (hwi : Region.wanted oi (yielded l.toArray a.tmps) = true) (hwj : Region.wanted oj (yielded l.toArray a.tmps) = true)
    (h : ∀ K : Act → World → Prop, Shut (∀ a w, S w → (S w → Any P md l Q S T n (L.setIfInBounds i true) a w) → K a w) → Oper.wp P oi a w K Q)
    (h' : ∀ K : Act → World → Prop, Shut (∀ a w, S w → (S w → Any P md l Q S T n (L.setIfInBounds j true) a w) → K a w) → Oper.wp P oj a w K Q) : Any P md l Q S T (n + 1) L a w := by
  refine ⟨fun h0 => (by rw [hr] at h0; cases h0), fun k hk => ?_⟩
  rw [hr] at hk
  rcases List.mem_cons.1 hk with rfl | hk
  · exact wpOp_step (by rw [List.getElem?_toArray]; exact hi) (fun K hK => by rw [if_pos hwi]; exact h K (fun a w hS hW => hK a w ⟨fun _ => hS, hW hS⟩))
  · obtain rfl : k = j := by simpa using hk
    exact wpOp_step (by rw [List.getElem?_toArray]; exact hj) (fun K hK => by rw [if_pos hwj]; exact h' K (fun a w hS hW => hK a w ⟨fun _ => hS, hW hS⟩))
/-- The one that may come up, of T. -/
theorem put {i : Nat} {oi : Oper} {n : Nat} {L : Array Bool} {a : Act} {w : World} (hi : l[i]? = some oi) (hr : Region.ready md l.toArray L = [i]) (hw : Region.wanted oi (yielded l.toArray a.tmps) = true) (hT : T.contains i = true)
    (h : ∀ K : Act → World → Prop, Shut (∀ a w, Any P md l Q S T n (L.setIfInBounds i true) a w → K a w) → Oper.wp P oi a w K Q) : Any P md l Q S T (n + 1) L a w := by
  refine ⟨fun h0 => (by rw [hr] at h0; cases h0), fun j hj => ?_⟩
  rw [hr] at hj
  obtain rfl : j = i := by simpa using hj
  exact wpOp_step (by rw [List.getElem?_toArray]; exact hi) (fun K hK => by rw [if_pos hw]; exact h K (fun a w hW => hK a w ⟨fun hn => absurd (by simpa using hT) hn, hW⟩))
theorem done {L : Array Bool} {a : Act} {w : World} (hr : Region.ready md l.toArray L = []) (h : Q .normal a w) (n : Nat) : Any P md l (NoPanic Q) S T n L a w := by
  cases n with
  | zero => exact ⟨hr, NoPanic.normal h⟩
  | succ n => exact ⟨fun _ => NoPanic.normal h, by rw [hr]; simp⟩
/-- How many haven't come up. -/
def left (L : Array Bool) : Nat := (L.toList.filter (fun b => !b)).length
theorem left_set {L : Array Bool} {i : Nat} (h : L.getD i true = false) : left (L.setIfInBounds i true) + 1 = left L := by
  unfold left
  rw [Array.toList_setIfInBounds]
  have hl : L.toList[i]? = some false := by
    rcases Nat.lt_or_ge i L.size with h' | h'
    · rw [Array.getElem?_toList, Array.getElem?_eq_getElem h']
      simp [Array.getD, h'] at h
      rw [h]
    · simp [Array.getD, Nat.not_lt.2 h'] at h
  clear h
  generalize L.toList = m at *
  induction m generalizing i with
  | nil => simp at hl
  | cons b m ih => cases i with
    | zero =>
      simp at hl
      subst hl
      simp
    | succ i =>
      simp at hl
      have h1 := ih hl
      rw [List.set_cons_succ]
      cases b
      · simp at h1 ⊢; omega
      · simp at h1 ⊢; omega
/-- By what holds between: whatever comes up, it holds behind it too. -/
theorem through (J : Array Bool → Act → World → Prop) (hstep : ∀ (L : Array Bool) (a : Act) (w : World), J L a w → ∀ i o, l[i]? = some o → L.getD i true = false → (∀ e ∈ o.after, Region.binds md e = true → L.getD e.on false = true) →
      wpOp P l.toArray Q i (fun b v => (i ∉ T → S v) ∧ J (L.setIfInBounds i true) b v) a w)
    (hdone : ∀ (L : Array Bool) (a : Act) (w : World), J L a w → Region.ready md l.toArray L = [] → Q .normal a w) :
    ∀ (n : Nat) (L : Array Bool) (a : Act) (w : World), left L ≤ n → J L a w → Any P md l Q S T n L a w := by
  intro n
  induction n with
  | zero =>
    intro L a w hl hJ
    have hr : Region.ready md l.toArray L = [] := by
      rcases hq : Region.ready md l.toArray L with _ | ⟨i, r⟩
      · rfl
      · have hi : i ∈ Region.ready md l.toArray L := by rw [hq]; simp
        have := left_set (mem_ready.1 hi).1
        omega
    exact ⟨hr, hdone L a w hJ hr⟩
  | succ n ih =>
    intro L a w hl hJ
    refine ⟨fun hr => hdone L a w hJ hr, fun i hi => ?_⟩
    obtain ⟨h1, o, h2, h3⟩ := mem_ready.1 hi
    have h4 := left_set h1
    refine wpOp_mono (fun b v hh => ⟨hh.1, ih _ b v (by omega) hh.2⟩) (hstep L a w hJ i o (by rw [← List.getElem?_toArray]; exact h2) h1 h3)
/-- Of each operation of a row, with its number. -/
def Each (p : Nat → Oper → Prop) : Nat → List Oper → Prop
  | _, [] => True
  | k, o :: r => p k o ∧ Each p (k + 1) r
theorem Each.get {p : Nat → Oper → Prop} : ∀ (l : List Oper) (k i : Nat) (o : Oper), Each p k l → l[i]? = some o → p (k + i) o
  | [], _, _, _, _, h => by cases h
  | x :: r, k, 0, o, h, hi => by
    obtain rfl : x = o := by simpa using hi
    exact h.1
  | x :: r, k, i + 1, o, h, hi => by
    have h9 := Each.get r (k + 1) i o h.2 (by simpa using hi)
    rwa [show k + 1 + i = k + (i + 1) by omega] at h9
/-- Each waits for such alone as stand ahead of it. -/
def forward (md : Region.Mode) (l : List Oper) : Bool := (List.range l.length).all fun i => match l[i]? with
  | some o => o.after.all fun e => !Region.binds md e || decide (e.on < i)
  | none => true
theorem forward_spec {i : Nat} {o : Oper} (h : forward md l = true) (hi : l[i]? = some o) : ∀ e ∈ o.after, Region.binds md e = true → e.on < i := fun e he hb => by
  have hl : i < l.length := (List.getElem?_eq_some_iff.1 hi).1
  have h1 := List.all_eq_true.1 h i (by simpa using hl)
  rw [hi] at h1
  have h2 := (Array.all_eq_true_iff_forall_mem.1 h1) e he
  simpa [hb] using h2
theorem all_up {L : Array Bool} (hf : forward md l = true) (hs : L.size = l.length) (hr : Region.ready md l.toArray L = []) : ∀ i, i < l.length → L.getD i false = true := by
  intro i
  induction i using Nat.strongRecOn with
  | _ i ih =>
    intro hi
    have ho := List.getElem?_eq_getElem hi
    by_cases hu : L.getD i true = false
    · have : i ∈ Region.ready md l.toArray L := mem_ready.2 ⟨hu, l[i], by rw [List.getElem?_toArray]; exact ho, fun e he hb => ih e.on (forward_spec hf ho e he hb) (by have := forward_spec hf ho e he hb; omega)⟩
      rw [hr] at this
      cases this
    · have hL : i < L.size := by omega
      simp [hL] at hu ⊢
      exact hu
/-- By what holds between, seen from the frame at hand: one goal for each operation. -/
theorem walk_ {a0 : Act} {w0 : World} {n : Nat} {L0 : Array Bool} (Z : Act → Array Bool → Act → World → Prop) (hf : forward md l = true) (hs : L0.size = l.length) (hn : left L0 ≤ n) (h0 : Z a0 L0 a0 w0)
    (hstep : Each (fun k o => ∀ (L : Array Bool) (a : Act) (w : World), Z a0 L a w → L.getD k true = false → (∀ e ∈ o.after, Region.binds md e = true → L.getD e.on false = true) →
      ∀ K : Act → World → Prop, Shut (∀ b v, (k ∉ T → S v) → Z a0 (L.setIfInBounds k true) b v → K b v) → Region.wanted o (yielded l.toArray a.tmps) = true ∧ Oper.wp P o a w K Q) 0 l)
    (hdone : ∀ (L : Array Bool) (a : Act) (w : World), Z a0 L a w → (∀ i, i < l.length → L.getD i false = true) → Q .normal a w) : Any P md l Q S T n L0 a0 w0 := by
  refine through (fun L a w => L.size = l.length ∧ Z a0 L a w) ?_ (fun L a w h hr => hdone L a w h.2 (all_up hf h.1 hr)) n L0 a0 w0 hn ⟨hs, h0⟩
  intro L a w ⟨hz, hZ⟩ i o hi hun hall
  have h9 := hstep.get l 0 i o hi
  rw [Nat.zero_add] at h9
  refine wpOp_step (by rw [List.getElem?_toArray]; exact hi) (fun K hK => ?_)
  obtain ⟨hw, hop⟩ := h9 L a w hZ hun hall K (fun b v h1 h2 => hK b v ⟨h1, by simpa using hz, h2⟩)
  rw [if_pos hw]
  exact hop
end
end Go.Proofs.Ytnoppoimahfknaa.Till
end
section
/- The moves of a walk through a region that draws its order, typed out: an operation is taken first; the one that is left is carried out; what every world meets is made stronger behind it. -/
set_option linter.unusedVariables false
namespace Go.Proofs.Ytnoppoimahfknaa.Reg
open Go.RowKit
section
variable {P : Program} {md : Region.Mode} {l : List Oper} {Q : Exit → Act → World → Prop} {S S' : World → Prop}
theorem begin_ {id : Nat} {a : Act} {w : World} (hm : P.follows .mixedOrders = true) (hS : S w.drew)
    (h : S w.drew → wpAnyH P .any l.toArray (NoPanic Q) S l.toArray.size (Array.replicate l.toArray.size false) a w.drew) : (Code.region id l.toArray true).wp P Q a w :=
  wp_region_noPanic (wp_region_held_drew hm hS h)
theorem take {i : Nat} {oi : Oper} {v : Value} {fuel : Nat} {listed : Array Bool} {a : Act} {w : World} (hi : l[i]? = some oi) (hs : Region.noSelect l.toArray = true) (hf : Region.free md l.toArray listed i = true)
    (hr : (Region.ready md l.toArray listed).contains i = true) (hw : Region.wanted oi (yielded l.toArray a.tmps) = true) (hv : ∀ w, S w → (execOp a.eval oi).run P w = .ok (.value v) w) (hS : S w)
    (h : wpAnyH P md l.toArray (NoPanic Q) S fuel (listed.setIfInBounds i true) (a.put oi.dst v) w) : wpAnyH P md l.toArray (NoPanic Q) S (fuel + 1) listed a w :=
  wpAnyH_take (by rw [List.getElem?_toArray]; exact hi) hs hf hr (fun _ _ _ h => h) (.inl ⟨hw, hv⟩) hS h
theorem call {i : Nat} {oi : Oper} {fuel : Nat} {listed : Array Bool} {a : Act} {w : World} (hi : l[i]? = some oi) (hr : Region.ready md l.toArray listed = [i]) (hw : Region.wanted oi (yielded l.toArray a.tmps) = true)
    (h : ∀ K : Act → World → Prop, Shut (∀ a w, S w → (S w → wpAnyH P md l.toArray Q S fuel (listed.setIfInBounds i true) a w) → K a w) → Oper.wp P oi a w K Q) : wpAnyH P md l.toArray Q S (fuel + 1) listed a w :=
  wpAnyH_ready hr (by simp) (AllReadyH.cons (o := oi) (by rw [List.getElem?_toArray]; exact hi) (fun K hK => by rw [if_pos hw]; exact h K hK) AllReadyH.nil)
/-- An operation whose guard says that it isn't wanted is left out. -/
theorem skip {i : Nat} {oi : Oper} {fuel : Nat} {listed : Array Bool} {a : Act} {w : World} (hi : l[i]? = some oi) (hs : Region.noSelect l.toArray = true) (hf : Region.free md l.toArray listed i = true)
    (hr : (Region.ready md l.toArray listed).contains i = true) (hw : Region.wanted oi (yielded l.toArray a.tmps) = false) (hS : S w)
    (h : wpAnyH P md l.toArray (NoPanic Q) S fuel (listed.setIfInBounds i true) (a.put oi.dst undef) w) : wpAnyH P md l.toArray (NoPanic Q) S (fuel + 1) listed a w :=
  wpAnyH_take (by rw [List.getElem?_toArray]; exact hi) hs hf hr (fun _ _ _ h => h) (.inr ⟨hw, rfl⟩) hS h
theorem done {listed : Array Bool} {a : Act} {w : World} (hr : Region.ready md l.toArray listed = []) (h : Q .normal a w) (fuel : Nat) : wpAnyH P md l.toArray (NoPanic Q) S fuel listed a w := wpAnyH_done (Q := NoPanic Q) hr (NoPanic.normal h) fuel
theorem mono (h : ∀ w, S' w → S w) : ∀ (fuel : Nat) (listed : Array Bool) (a : Act) (w : World), wpAnyH P md l.toArray Q S' fuel listed a w → wpAnyH P md l.toArray Q S fuel listed a w
  | 0, _, _, _, H => H
  | fuel + 1, listed, a, w, H => ⟨H.1, fun i hi => wpOp_mono (fun a' w' h3 => ⟨h _ h3.1, mono h fuel _ a' w' h3.2⟩) (H.2 i hi)⟩
theorem more {fuel : Nat} {listed : Array Bool} {a : Act} {w : World} (T : World → Prop) (hT : T w) (hS : S w) (H : T w ∧ S w → wpAnyH P md l.toArray Q (fun W => T W ∧ S W) fuel listed a w) : wpAnyH P md l.toArray Q S fuel listed a w :=
  mono (fun _ h => h.2) fuel listed a w (H ⟨hT, hS⟩)
end
end Go.Proofs.Ytnoppoimahfknaa.Reg
end
section
/- Plain arithmetic beneath fixq: floors, ranges, words of two halves. Nothing here speaks of a program. -/
set_option linter.unusedSimpArgs false
set_option linter.unusedVariables false
namespace Go.Proofs.Ytnoppoimahfknaa
open Go.RowKit

theorem ret_int {k : IntKind} {a b : Int} (h : a = b) : Ending.returned (.int k a) = .returned (.int k b) := by rw [h]
theorem ret_two {k l : IntKind} {a b c d : Int} (h : a = b) (h' : c = d) : Ending.returned (.tuple #[.int k a, .int l c]) = .returned (.tuple #[.int k b, .int l d]) := by rw [h, h']
theorem u64_wrap (n : Int) : IntKind.u64.wrap n = n % 18446744073709551616 := IntKind.wrap_u64 n

def clampZ (n lo hi : Int) : Int := if n < lo ∨ hi < lo then lo else if hi < n then hi else n
def nearZ (n : Int) : Int := clampZ n (-2147483648) 2147483647
theorem near_bd (n : Int) : -2147483648 ≤ nearZ n ∧ nearZ n ≤ 2147483647 := by
  unfold nearZ clampZ; split <;> (try split) <;> omega

theorem natAbs_tdiv' (n b : Int) : (n.tdiv b).natAbs = n.natAbs / b.natAbs := Int.natAbs_tdiv n b
theorem tdiv_le' (n b : Int) : (n.tdiv b).natAbs ≤ n.natAbs := by
  rw [natAbs_tdiv']; exact Nat.div_le_self _ _
theorem tdiv_in (n b : Int) (hn : -9223372036854775808 ≤ n ∧ n ≤ 9223372036854775807) (hb : b ≠ 0) (h : ¬ (n = -9223372036854775808 ∧ b = -1)) :
    -9223372036854775808 ≤ n.tdiv b ∧ n.tdiv b ≤ 9223372036854775807 := by
  have h1 := tdiv_le' n b
  have h2 : n.tdiv b ≠ 9223372036854775808 := by
    intro he
    have h3 : (n.tdiv b).natAbs = 9223372036854775808 := by rw [he]; rfl
    rw [natAbs_tdiv'] at h3
    have h4 : n.natAbs = 9223372036854775808 := by omega
    rw [h4] at h3
    have h5 : b.natAbs = 1 := by
      rcases Nat.lt_or_ge b.natAbs 2 with h6 | h6
      · omega
      · have := Nat.div_le_div_left (a := 9223372036854775808) h6 (by omega)
        rw [h3] at this
        exact absurd this (by decide)
    have h6 : n = -9223372036854775808 := by omega
    rcases (by omega : b = 1 ∨ b = -1) with h7 | h7
    · rw [h6, h7] at he
      revert he; decide
    · exact h ⟨h6, h7⟩
  omega

theorem fdiv_of (n b : Int) (hb : b ≠ 0) : n.fdiv b = if n.tmod b ≠ 0 ∧ (decide (n < 0) ≠ decide (b < 0)) then n.tdiv b - 1 else n.tdiv b := by
  rw [Int.fdiv_eq_tdiv]
  by_cases h0 : n.tmod b = 0
  · rw [if_pos (Int.dvd_iff_tmod_eq_zero.2 h0), if_neg (by simp [h0])]; omega
  · rw [if_neg (fun h => h0 (Int.dvd_iff_tmod_eq_zero.1 h))]
    rcases Int.lt_or_lt_of_ne hb with h2 | h2
    · have hs : b.sign = -1 := Int.sign_eq_neg_one_of_neg h2
      by_cases h1 : n < 0
      · rw [if_neg (by omega), if_neg (by omega), if_neg (by simp [h1, h2]), hs]; omega
      · rw [if_pos (by omega), if_neg (by omega), if_pos (by simp [h0, h1, h2])]
    · have hs : b.sign = 1 := Int.sign_eq_one_of_pos h2
      have h2' : ¬ b < 0 := by omega
      by_cases h1 : n < 0
      · rw [if_neg (by omega), if_pos (by omega), if_pos (by simp [h0, h1, h2']), hs]
      · rw [if_pos (by omega), if_pos (by omega), if_neg (by simp [h1, h2'])]; omega

theorem fdiv_in (n b : Int) (hn : -9223372036854775808 ≤ n ∧ n ≤ 9223372036854775807) (hb : b ≠ 0) (h : ¬ (n = -9223372036854775808 ∧ b = -1)) :
    -9223372036854775808 ≤ n.fdiv b ∧ n.fdiv b ≤ 9223372036854775807 := by
  have h1 := tdiv_in n b hn hb h
  rw [fdiv_of n b hb]
  split
  · rename_i hc
    have h2 : n.tdiv b ≠ -9223372036854775808 := by
      intro he
      have h3 : (n.tdiv b).natAbs = 9223372036854775808 := by rw [he]; rfl
      have h4 := tdiv_le' n b
      have h5 : n = -9223372036854775808 := by omega
      rw [natAbs_tdiv', h5] at h3
      have h6 : b.natAbs = 1 := by
        rcases Nat.lt_or_ge b.natAbs 2 with h6 | h6
        · omega
        · have := Nat.div_le_div_left (a := 9223372036854775808) h6 (by omega)
          have h7 : Int.natAbs (-9223372036854775808) = 9223372036854775808 := rfl
          rw [h7] at h3
          rw [h3] at this
          exact absurd this (by decide)
      apply hc.1
      rcases (by omega : b = 1 ∨ b = -1) with h7 | h7 <;> rw [h7] <;> simp [Int.tmod_one, Int.tmod_neg]
    omega
  · exact h1

theorem rest_pos (n b : Int) (hb : 0 < b) : 0 ≤ n - n.fdiv b * b ∧ n - n.fdiv b * b < b := by
  have h := Int.mul_fdiv_add_fmod n b
  have e : n.fdiv b * b = b * n.fdiv b := Int.mul_comm _ _
  have h1 := Int.fmod_nonneg_of_pos n hb
  have h2 := Int.fmod_lt_of_pos n hb
  omega
theorem rest_neg (n b : Int) (hb : b < 0) : n - n.fdiv b * b ≤ 0 ∧ b < n - n.fdiv b * b := by
  have h := Int.mul_fdiv_add_fmod n b
  have e : n.fdiv b * b = b * n.fdiv b := Int.mul_comm _ _
  have h0 := Int.neg_fmod_neg n b
  have h1 := Int.fmod_nonneg_of_pos (-n) (b := -b) (by omega)
  have h2 := Int.fmod_lt_of_pos (-n) (b := -b) (by omega)
  omega

theorem bcell {W w1 : World} (hb : Below W.heap.size W w1) : (∀ b o, b < W.heap.size → w1.cell? ⟨b, o, none⟩ = W.cell? ⟨b, o, none⟩) ∧ (∀ b o, b < W.heap.size → w1.frozen? ⟨b, o, none⟩ = W.frozen? ⟨b, o, none⟩) :=
  ⟨fun b o h => hb.cell (p := ⟨b, o, none⟩) h, fun b o h => hb.frozen (p := ⟨b, o, none⟩) h⟩
theorem chain {a b c : World} (h : Below a.heap.size a b) (k : Below b.heap.size b c) : Below a.heap.size a c := h.trans (k.mono h.size)
theorem below_drew0 {w : World} (n : Nat) : Below w.heap.size w (w.drewN n) := ⟨rfl, rfl, rfl, Nat.le_refl _, fun _ _ => rfl⟩

/-! ### Words of two halves -/
def hiW (V : Int) : Int := wrap64 (V / 18446744073709551616)
def loW (V : Int) : Int := V % 18446744073709551616
theorem hi_of_neg (n : Int) (hn : -9223372036854775808 ≤ n ∧ n ≤ 9223372036854775807) (h : n < 0) : -1 = hiW n := by unfold hiW wrap64; omega
theorem hi_of_pos (n : Int) (hn : -9223372036854775808 ≤ n ∧ n ≤ 9223372036854775807) (h : 0 ≤ n) : 0 = hiW n := by unfold hiW wrap64; omega
theorem hi_carry (A B : Int) (h : IntKind.u64.wrap (loW A + loW B) < loW A) : wrap64 (wrap64 (hiW A + hiW B) + 1) = hiW (A + B) := by
  rw [u64_wrap] at h; unfold loW at h; unfold hiW wrap64; omega
theorem hi_plain (A B : Int) (h : ¬ IntKind.u64.wrap (loW A + loW B) < loW A) : wrap64 (hiW A + hiW B) = hiW (A + B) := by
  rw [u64_wrap] at h; unfold loW at h; unfold hiW wrap64; omega
theorem lo_plus (A B : Int) : IntKind.u64.wrap (loW A + loW B) = loW (A + B) := by rw [u64_wrap]; unfold loW; omega
theorem lo_le (A : Int) : 0 ≤ loW A ∧ loW A ≤ 18446744073709551615 := by unfold loW; omega
theorem hi_minus (A : Int) : wrap64 (-1 - hiW A) = hiW (-1 - A) := by unfold hiW wrap64; omega
theorem lo_minus (A : Int) : 18446744073709551615 - loW A = loW (-1 - A) := by unfold loW; omega
def fits64 (V : Int) : Prop := -9223372036854775808 ≤ V ∧ V ≤ 9223372036854775807
instance (V : Int) : Decidable (fits64 V) := by unfold fits64; infer_instance
def wide (V : Int) : Prop := -170141183460469231731687303715884105728 ≤ V ∧ V ≤ 170141183460469231731687303715884105727
end Go.Proofs.Ytnoppoimahfknaa
end
section
/- Filters over what came (the last value first): the nearest value within a bound, weights, the answers of many pushes. Nothing here speaks of a program. -/
set_option linter.unusedVariables false
namespace Go.Proofs.Ytnoppoimahfknaa
open Go.RowKit
/-- The nearest number that is not farther from 0 than B. -/
def nearTo (B v : Int) : Int := if B < v then B else if v < -B then -B else v
theorem nearTo_bd (B v : Int) (hB : 0 ≤ B) : -B ≤ nearTo B v ∧ nearTo B v ≤ B := by unfold nearTo; split <;> (try split) <;> omega
theorem nearTo_zero (B : Int) (hB : 0 ≤ B) : nearTo B 0 = 0 := by unfold nearTo; rw [if_neg (by omega), if_neg (by omega)]
theorem nearTo_in (B v : Int) (h1 : -B ≤ v) (h2 : v ≤ B) : nearTo B v = v := by unfold nearTo; rw [if_neg (by omega), if_neg (by omega)]
theorem nearTo_clamp (B v : Int) (hB : 0 ≤ B) : clampZ v (-B) B = nearTo B v := by unfold nearTo clampZ; split <;> (try split) <;> (try split) <;> omega
theorem nearTo_mono (B u v : Int) (hB : 0 ≤ B) (h : u ≤ v) : nearTo B u ≤ nearTo B v := by unfold nearTo; split <;> split <;> (try split) <;> (try split) <;> omega
/-- What counts of what came k steps ago. -/
def cameT (B : Int) (h : List Int) (k : Nat) : Int := nearTo B (h.getD k 0)
theorem came_bd (B : Int) (h : List Int) (k : Nat) (hB : 0 ≤ B) : -B ≤ cameT B h k ∧ cameT B h k ≤ B := nearTo_bd B _ hB
theorem came_map (B : Int) (h : List Int) (k : Nat) (hB : 0 ≤ B) : (h.map (nearTo B)).getD k 0 = cameT B h k := by
  unfold cameT
  rw [List.getD_eq_getElem?_getD, List.getD_eq_getElem?_getD, List.getElem?_map]
  cases h[k]? with
  | none => simp [nearTo_zero B hB]
  | some v => rfl
theorem came_append (B : Int) (l h : List Int) (k : Nat) (hk : k < l.length) : cameT B (l ++ h) k = cameT B l k := by
  unfold cameT
  rw [List.getD_eq_getElem?_getD, List.getD_eq_getElem?_getD, List.getElem?_append_left hk]
theorem came_mem (B : Int) (h : List Int) (k : Nat) (v : Int) (hk : k < h.length) (hv : ∀ u ∈ h, u = v) : cameT B h k = nearTo B v := by
  unfold cameT
  rw [List.getD_eq_getElem?_getD, List.getElem?_eq_getElem hk]
  show nearTo B h[k] = _
  rw [hv _ (List.getElem_mem hk)]
/-- Weights from a place on, times what came. -/
def weighed (B : Int) (h : List Int) : Nat → List Int → Int
  | _, [] => 0
  | k, w :: ws => w * cameT B h k + weighed B h (k + 1) ws
theorem weighed_append (B : Int) (h : List Int) : ∀ (ws vs : List Int) (k : Nat), weighed B h k (ws ++ vs) = weighed B h k ws + weighed B h (k + ws.length) vs
  | [], vs, k => by simp [weighed]
  | w :: ws, vs, k => by
    simp only [List.cons_append, weighed, List.length_cons]
    rw [weighed_append B h ws vs (k + 1), show k + 1 + ws.length = k + (ws.length + 1) by omega]
    omega
theorem weighed_step (B : Int) (h ws : List Int) (j : Nat) (hj : j < ws.length) : weighed B h 0 (ws.take (j + 1)) = weighed B h 0 (ws.take j) + ws.getD j 0 * cameT B h j := by
  rw [List.take_succ_eq_append_getElem hj, weighed_append, List.length_take, Nat.min_eq_left (by omega), List.getD_eq_getElem?_getD, List.getElem?_eq_getElem hj]
  simp [weighed]
theorem mul_bd (w v M B : Int) (hw : -M ≤ w ∧ w ≤ M) (hv : -B ≤ v ∧ v ≤ B) : -(M * B) ≤ w * v ∧ w * v ≤ M * B := by
  have h1 : (w * v).natAbs ≤ M.toNat * B.toNat := by
    rw [Int.natAbs_mul]
    exact Nat.mul_le_mul (by omega) (by omega)
  have h2 : ((M.toNat * B.toNat : Nat) : Int) = M * B := by
    rw [Int.natCast_mul, Int.toNat_of_nonneg (by omega), Int.toNat_of_nonneg (by omega)]
  omega
theorem weighed_bd (B M : Int) (h : List Int) (hB : 0 ≤ B) (hM : 0 ≤ M) : ∀ (ws : List Int) (k : Nat), (∀ w ∈ ws, -M ≤ w ∧ w ≤ M) → -(ws.length * (M * B)) ≤ weighed B h k ws ∧ weighed B h k ws ≤ ws.length * (M * B)
  | [], k, _ => by simp [weighed]
  | w :: ws, k, hw => by
    have h1 := weighed_bd B M h hB hM ws (k + 1) (fun u hu => hw u (List.mem_cons_of_mem _ hu))
    have h2 := mul_bd w (cameT B h k) M B (hw w (List.mem_cons_self ..)) (came_bd B h k hB)
    simp only [weighed, List.length_cons]
    have h3 : ((ws.length + 1 : Nat) : Int) * (M * B) = ws.length * (M * B) + M * B := by rw [Int.natCast_add, Int.add_mul]; simp
    rw [h3]
    omega
/-- The answers of many pushes, one by one. -/
def outsT (F : List Int → Int) : List Int → List Int → List Int
  | _, [] => []
  | h, y :: ys => F (y :: h) :: outsT F (y :: h) ys
section
variable (F : List Int → Int)
theorem outs_len : ∀ (h ys : List Int), (outsT F h ys).length = ys.length
  | _, [] => rfl
  | h, y :: ys => by simp [outsT, outs_len (y :: h) ys]
theorem outs_append : ∀ (h xs ys : List Int), outsT F h (xs ++ ys) = outsT F h xs ++ outsT F (xs.reverse ++ h) ys
  | _, [], _ => rfl
  | h, x :: xs, ys => by simp [outsT, outs_append (x :: h) xs ys]
theorem outs_at : ∀ (h ys : List Int) (i : Nat), i < ys.length → (outsT F h ys).getD i 0 = F ((ys.take (i + 1)).reverse ++ h)
  | _, [], i, hi => absurd hi (by simp)
  | h, y :: ys, 0, _ => by simp [outsT]
  | h, y :: ys, i + 1, hi => by
    have := outs_at (y :: h) ys i (by simpa using hi)
    simpa [outsT] using this
theorem outs_step (h ys : List Int) (j : Nat) (hj : j < ys.length) : outsT F h (ys.take (j + 1)) = outsT F h (ys.take j) ++ [F (ys.getD j 0 :: ((ys.take j).reverse ++ h))] := by
  rw [List.take_succ_eq_append_getElem hj, outs_append, List.getD_eq_getElem?_getD, List.getElem?_eq_getElem hj]
  rfl
theorem came_step (h ys : List Int) (j : Nat) (hj : j < ys.length) : ys.getD j 0 :: ((ys.take j).reverse ++ h) = (ys.take (j + 1)).reverse ++ h := by
  rw [List.take_succ_eq_append_getElem hj, List.reverse_append, List.getD_eq_getElem?_getD, List.getElem?_eq_getElem hj]
  simp
end
end Go.Proofs.Ytnoppoimahfknaa
end
section
/- What a slope filter answers of all that came; what follows of it (bounds, lines); squares and the steepest. Nothing here speaks of a program. -/
set_option linter.unusedVariables false
namespace Go.Proofs.Ytnoppoimahfknaa.Slope
open Go.RowKit
/-- What came last against what came as far behind the middle. -/
def sumT (h : List Int) : Int := 2 * cameT 142847 h 0 + cameT 142847 h 1 - cameT 142847 h 3 - 2 * cameT 142847 h 4
/-- What a slope filter answers of all that came. -/
def slopeT (h : List Int) : Int := sumT h / 8
theorem came_slope (h : List Int) (k : Nat) : -142847 ≤ cameT 142847 h k ∧ cameT 142847 h k ≤ 142847 := came_bd 142847 h k (by omega)
theorem sum_bd (h : List Int) : -857082 ≤ sumT h ∧ sumT h ≤ 857082 := by
  have h0 := came_slope h 0; have h1 := came_slope h 1; have h3 := came_slope h 3; have h4 := came_slope h 4
  unfold sumT; omega
theorem slope_bd (h : List Int) : -107136 ≤ slopeT h ∧ slopeT h ≤ 107136 := by
  have := sum_bd h
  unfold slopeT; omega
/-- The first so many values of a line, the last one first. -/
def lineT (f k : Int) : Nat → List Int
  | 0 => []
  | i + 1 => (f + 4 * k * (i : Int)) :: lineT f k i
theorem line_at (f k : Int) (h : List Int) : ∀ (i j : Nat), j < i → (lineT f k i ++ h).getD j 0 = f + 4 * k * ((i : Int) - 1 - j)
  | 0, j, hj => absurd hj (by omega)
  | i + 1, 0, _ => by
    show f + 4 * k * (i : Int) = _
    rw [show ((i + 1 : Nat) : Int) - 1 - (0 : Nat) = (i : Int) by omega]
  | i + 1, j + 1, hj => by
    have h1 := line_at f k h i j (by omega)
    show (lineT f k i ++ h).getD j 0 = _
    rw [h1, show ((i + 1 : Nat) : Int) - 1 - (j + 1 : Nat) = (i : Int) - 1 - j by omega]
/-- Of values that rise by four times k in each step it is five times k, from the fifth one on. -/
theorem slope_line (f k : Int) (h : List Int) (i : Nat) (hi : 4 ≤ (i : Int)) (hi2 : i < 20) (hf : -32768 ≤ f ∧ f ≤ 32767) (hk : -999 ≤ k ∧ k ≤ 999) : slopeT (lineT f k (i + 1) ++ h) = 5 * k := by
  have hc : ∀ j : Nat, j ≤ 4 → cameT 142847 (lineT f k (i + 1) ++ h) j = f + 4 * k * ((i : Int) - j) := fun j hj => by
    have h1 := line_at f k h (i + 1) j (by omega)
    rw [show ((i + 1 : Nat) : Int) - 1 - j = (i : Int) - j by omega] at h1
    have h2 := mul_bd (4 * k) ((i : Int) - j) 3996 19 (by omega) (by omega)
    unfold cameT
    rw [h1]
    exact nearTo_in _ _ (by omega) (by omega)
  unfold slopeT sumT
  rw [hc 0 (by omega), hc 1 (by omega), hc 3 (by omega), hc 4 (by omega)]
  simp only [Int.mul_sub]
  generalize 4 * k * (i : Int) = q
  omega
theorem rise_bd (f k : Int) (i : Nat) (hi : i < 20) (hf : -32768 ≤ f ∧ f ≤ 32767) (hk : -999 ≤ k ∧ k ≤ 999) : -75924 ≤ 4 * k * (i : Int) ∧ 4 * k * (i : Int) ≤ 75924 := by
  have h2 := mul_bd (4 * k) (i : Int) 3996 19 (by omega) (by omega)
  omega
/-- The square of a number, at most the clamp. -/
def squareT (d : Int) : Int := if 8191 < d ∨ d < -8191 then 67108864 else d * d
theorem square_bd (d : Int) : 0 ≤ squareT d ∧ squareT d ≤ 67108864 := by
  unfold squareT
  split
  · omega
  · have h1 := mul_bd d d 8191 8191 (by omega) (by omega)
    have h2 : 0 ≤ d * d := by
      have := Int.natAbs_mul_self (a := d)
      omega
    omega
/-- The lesser of the true square and the clamp. -/
theorem square_min (d : Int) : (if 67108864 < d * d then 67108864 else d * d) = squareT d := by
  have h0 : d * d = ((d.natAbs * d.natAbs : Nat) : Int) := (Int.natAbs_mul_self (a := d)).symm
  unfold squareT
  by_cases hd : 8191 < d ∨ d < -8191
  · have h1 : 8192 * 8192 ≤ d.natAbs * d.natAbs := Nat.mul_le_mul (by omega) (by omega)
    rw [if_pos hd]
    split <;> omega
  · have h1 : d.natAbs * d.natAbs ≤ 8191 * 8191 := Nat.mul_le_mul (by omega) (by omega)
    rw [if_neg hd, if_neg (by omega)]
theorem square_over (d : Int) (h : ¬ fits64 (d * d)) : squareT d = 67108864 := by
  unfold squareT
  by_cases hd : 8191 < d ∨ d < -8191
  · rw [if_pos hd]
  · have h1 := mul_bd d d 8191 8191 (by omega) (by omega)
    unfold fits64 at h
    omega
/-- How far a number of 64 bits is from 0; that of -2^63 is one less. -/
def distT (d : Int) : Int := if d = -9223372036854775808 then 9223372036854775807 else if d < 0 then -d else d
/-- The greatest distance of all; of none 0. -/
def steepT : List Int → Int
  | [] => 0
  | d :: l => if steepT l < distT d then distT d else steepT l
theorem steep_bd (l : List Int) (h : ∀ d ∈ l, fits64 d) : 0 ≤ steepT l ∧ steepT l ≤ 9223372036854775807 := by
  induction l with
  | nil => decide
  | cons d l ih =>
    have h1 := ih (fun u hu => h u (List.mem_cons_of_mem _ hu))
    have h2 := h d (List.mem_cons_self ..)
    unfold fits64 at h2
    unfold steepT distT
    split <;> (try split) <;> (try split) <;> omega
theorem steep_snoc (d : Int) : ∀ l : List Int, steepT (l ++ [d]) = if steepT l < distT d then distT d else steepT l
  | [] => by simp [steepT]
  | u :: l => by
    have := steep_snoc d l
    simp only [List.cons_append, steepT, this]
    repeat' split
    all_goals omega
theorem steep_step (l : List Int) (j : Nat) (hj : j < l.length) : steepT (l.take (j + 1)) = if steepT (l.take j) < distT (l.getD j 0) then distT (l.getD j 0) else steepT (l.take j) := by
  rw [List.take_succ_eq_append_getElem hj, steep_snoc, List.getD_eq_getElem?_getD, List.getElem?_eq_getElem hj]
  rfl
end Go.Proofs.Ytnoppoimahfknaa.Slope
end
section
/- What a finder of peaks answers of all that came, as a machine; what follows of it (each a peak, apart, quiet, pulses). Nothing here speaks of a program. -/
set_option linter.unusedVariables false
namespace Go.Proofs.Ytnoppoimahfknaa.Peak
open Go.RowKit
/-- What a sum counts as. -/
def sumW (w : Int) : Int := clampZ w 0 62914560
theorem sumW_bd (w : Int) : 0 ≤ sumW w ∧ sumW w ≤ 62914560 := by unfold sumW clampZ; split <;> (try split) <;> omega
theorem sumW_in (w : Int) (h1 : 0 ≤ w) (h2 : w ≤ 62914560) : sumW w = w := by unfold sumW clampZ; rw [if_neg (by omega), if_neg (by omega)]
theorem sumW_mono (u v : Int) (h : u ≤ v) : sumW u ≤ sumW v := by unfold sumW clampZ; split <;> split <;> (try split) <;> (try split) <;> omega
theorem sumW_twice (w : Int) : sumW (sumW w) = sumW w := sumW_in _ (sumW_bd w).1 (sumW_bd w).2
/-- As min and max read. -/
theorem sumW_ifs (v : Int) : sumW v = if 62914560 < (if v < 0 then 0 else v) then 62914560 else (if v < 0 then 0 else v) := by unfold sumW clampZ; split <;> (try split) <;> (try split) <;> omega
/-- How far from 0 a slope counts as. -/
def distD (d : Int) : Int := Slope.distT (nearTo 107136 d)
theorem distD_bd (d : Int) : 0 ≤ distD d ∧ distD d ≤ 107136 := by
  have := nearTo_bd 107136 d (by omega)
  unfold distD Slope.distT
  split
  · omega
  · split <;> omega
/-- The first is how it stands while it falls (the valley, if there is one); the second while it rises: the top, at which step, how steep. -/
inductive St where
  | falls (o : Option Int)
  | rises (t a p : Int)
/-- A peak: at, seen, top, steep. -/
abbrev Pk := Int × Int × Int × Int
/-- The valley, with one more sum. -/
def valley (o : Option Int) (u : Int) : Int := match o with
  | none => u
  | some v => if u < v then u else v
def more (p q : Int) : Int := if p < q then q else p
/-- One step. -/
def stepT (s : St) (n w d : Int) : Option Pk × St := match s with
  | .falls o => if 2 * valley o (sumW w) + 64 < sumW w then (none, .rises (sumW w) n (distD d)) else (none, .falls (some (valley o (sumW w))))
  | .rises t a p => if t < sumW w then (none, .rises (sumW w) n (more p (distD d))) else if 2 * sumW w < t then (some (a, n, t, more p (distD d)), .falls (some (sumW w))) else (none, .rises t a (more p (distD d)))
/-- Many steps, the first one with this number: the peaks, and how it stands. -/
def runT (s : St) (n : Int) : List (Int × Int) → List Pk × St
  | [] => ([], s)
  | x :: l => ((stepT s n x.1 x.2).1.toList ++ (runT (stepT s n x.1 x.2).2 (n + 1) l).1, (runT (stepT s n x.1 x.2).2 (n + 1) l).2)
theorem run_append (m : List (Int × Int)) : ∀ (l : List (Int × Int)) (s : St) (n : Int), runT s n (l ++ m) = ((runT s n l).1 ++ (runT (runT s n l).2 (n + l.length) m).1, (runT (runT s n l).2 (n + l.length) m).2)
  | [], s, n => by simp [runT]
  | x :: l, s, n => by
    simp only [List.cons_append, runT, run_append m l, List.length_cons, List.append_assoc]
    rw [show n + 1 + (l.length : Int) = n + ((l.length + 1 : Nat) : Int) by omega]
theorem run_snoc (l : List (Int × Int)) (x : Int × Int) (s : St) (n : Int) : runT s n (l ++ [x]) = ((runT s n l).1 ++ (stepT (runT s n l).2 (n + l.length) x.1 x.2).1.toList, (stepT (runT s n l).2 (n + l.length) x.1 x.2).2) := by
  rw [run_append]; simp [runT]
theorem run_step (l : List (Int × Int)) (s : St) (n : Int) (j : Nat) (hj : j < l.length) (w d : Int) (h : l[j]? = some (w, d)) :
    runT s n (l.take (j + 1)) = ((runT s n (l.take j)).1 ++ (stepT (runT s n (l.take j)).2 (n + j) w d).1.toList, (stepT (runT s n (l.take j)).2 (n + j) w d).2) := by
  have h1 : l[j] = (w, d) := by rw [List.getElem?_eq_getElem hj] at h; exact Option.some.inj h
  rw [List.take_succ_eq_append_getElem hj, run_snoc, List.length_take, Nat.min_eq_left (by omega), h1]
/-- Is it rising? -/
def up : St → Bool
  | .falls _ => false
  | .rises _ _ _ => true
/-- What it rises to, when nothing was seen yet. -/
theorem valley_none (u : Int) (h : 0 ≤ u) : ¬ 2 * valley none u + 64 < u := by show ¬ 2 * u + 64 < u; omega
theorem valley_bd (o : Option Int) (u : Int) : valley o u ≤ u := by unfold valley; split <;> (try split) <;> omega
/-- A first sum never rises, and is the valley. -/
theorem run_first (n w d : Int) (l : List (Int × Int)) : runT (.falls none) n ((w, d) :: l) = runT (.falls (some (sumW w))) (n + 1) l := by
  have h := valley_none (sumW w) (sumW_bd w).1
  simp only [runT, stepT]
  rw [if_neg h]
  simp [valley]
theorem run_low (o : Option Int) (n w d : Int) (l : List (Int × Int)) (h : ¬ 2 * valley o (sumW w) + 64 < sumW w) : runT (.falls o) n ((w, d) :: l) = runT (.falls (some (valley o (sumW w)))) (n + 1) l := by
  simp only [runT, stepT]
  rw [if_neg h]
  simp
theorem run_up (o : Option Int) (n w d : Int) (l : List (Int × Int)) (h : 2 * valley o (sumW w) + 64 < sumW w) : runT (.falls o) n ((w, d) :: l) = runT (.rises (sumW w) n (distD d)) (n + 1) l := by
  simp only [runT, stepT]
  rw [if_pos h]
  simp
theorem run_top (t a p n w d : Int) (l : List (Int × Int)) (h : t < sumW w) : runT (.rises t a p) n ((w, d) :: l) = runT (.rises (sumW w) n (more p (distD d))) (n + 1) l := by
  simp only [runT, stepT]
  rw [if_pos h]
  simp
theorem run_on (t a p n w d : Int) (l : List (Int × Int)) (h : ¬ t < sumW w) (h2 : ¬ 2 * sumW w < t) : runT (.rises t a p) n ((w, d) :: l) = runT (.rises t a (more p (distD d))) (n + 1) l := by
  simp only [runT, stepT]
  rw [if_neg h, if_neg h2]
  simp
/-- The step at which a peak is seen is the first one of the fall behind it. -/
theorem run_down (t a p n w d : Int) (l : List (Int × Int)) (h : ¬ t < sumW w) (h2 : 2 * sumW w < t) :
    runT (.rises t a p) n ((w, d) :: l) = ((a, n, t, more p (distD d)) :: (runT (.falls none) n ((w, d) :: l)).1, (runT (.falls none) n ((w, d) :: l)).2) := by
  rw [run_first]
  simp only [runT, stepT]
  rw [if_neg h, if_pos h2]
  simp
/-- A peak of sums that are themselves, all slopes 1: behind the one ahead, the highest up to where it was seen. -/
def Good (ws : List Int) (last : Int) (q : Pk) : Prop :=
  ∃ at_ seen : Nat, q.1 = (at_ : Int) ∧ q.2.1 = (seen : Int) ∧ last < (at_ : Int) ∧ at_ < seen ∧ seen < ws.length ∧ ws.getD at_ 0 = q.2.2.1 ∧ 2 * ws.getD seen 0 < q.2.2.1 ∧ 64 < q.2.2.1 ∧ q.2.2.2 = 1 ∧
    ∀ k, at_ ≤ k → k ≤ seen → ws.getD k 0 ≤ q.2.2.1 ∧ (k < seen → ¬ 2 * ws.getD k 0 < q.2.2.1)
/-- Each of them is good, and behind the one ahead. -/
def Goods (ws : List Int) : Int → List Pk → Prop
  | _, [] => True
  | last, q :: l => Good ws last q ∧ Goods ws q.2.1 l
/-- How it stands ahead of step j, when the last peak was seen at last. -/
def Stood (ws : List Int) (last : Int) (j : Nat) : St → Prop
  | .falls o => last < (j : Int) ∧ ∀ v, o = some v → 0 ≤ v
  | .rises t a p => ∃ at_ : Nat, a = (at_ : Int) ∧ last < a ∧ at_ < j ∧ ws.getD at_ 0 = t ∧ 64 < t ∧ p = 1 ∧ ∀ k, at_ ≤ k → k < j → ws.getD k 0 ≤ t ∧ ¬ 2 * ws.getD k 0 < t
theorem dist_one : distD 1 = 1 := by decide
theorem goods_run (ws : List Int) (hw : ∀ k, 0 ≤ ws.getD k 0 ∧ ws.getD k 0 ≤ 62914560) : ∀ (l : List Int) (j : Nat) (last : Int) (s : St), ws = ws.take j ++ l → j ≤ ws.length → Stood ws last j s →
    Goods ws last (runT s (j : Int) (l.map fun w => (w, 1))).1
  | [], _, _, _, _, _, _ => trivial
  | w :: l, j, last, s, hws, hj, hs => by
    have hl := congrArg List.length hws
    rw [List.length_append, List.length_take, List.length_cons, Nat.min_eq_left hj] at hl
    have hjl : j < ws.length := by omega
    have hat : ws.getD j 0 = w := by
      have h1 : ws[j]? = some w := by
        rw [hws, List.getElem?_append_right (by rw [List.length_take]; omega), List.length_take, Nat.min_eq_left hj]
        simp
      rw [List.getD_eq_getElem?_getD, h1]; rfl
    have hb := hw j
    rw [hat] at hb
    have hsw : sumW w = w := sumW_in w hb.1 hb.2
    have hnext : ws = ws.take (j + 1) ++ l := by
      have h2 : ws.drop j = w :: l := by
        have h3 : ws.drop j = (ws.take j ++ (w :: l)).drop j := by rw [← hws]
        rw [h3, List.drop_append_of_le_length (by rw [List.length_take]; omega), List.drop_of_length_le (by rw [List.length_take]; omega), List.nil_append]
      have h4 : ws.drop (j + 1) = l := by
        rw [← List.drop_drop, h2]; rfl
      rw [← h4, List.take_append_drop]
    have hcast : (j : Int) + 1 = ((j + 1 : Nat) : Int) := by omega
    rw [List.map_cons]
    cases s with
    | falls o =>
      obtain ⟨hs1, hs2⟩ := hs
      by_cases hr : 2 * valley o (sumW w) + 64 < sumW w
      · rw [run_up _ _ _ _ _ hr, hcast]
        refine goods_run ws hw l (j + 1) last _ hnext (by omega) ⟨j, rfl, hs1, by omega, by rw [hat, hsw], ?_, dist_one, ?_⟩
        · have : 0 ≤ valley o (sumW w) := by
            unfold valley
            cases o with
            | none => exact (sumW_bd w).1
            | some v => have := hs2 v rfl; have := (sumW_bd w).1; simp only; split <;> omega
          omega
        · intro k h1 h2
          obtain rfl : k = j := by omega
          rw [hat, hsw]; omega
      · rw [run_low _ _ _ _ _ hr, hcast]
        refine goods_run ws hw l (j + 1) last _ hnext (by omega) ⟨by omega, ?_⟩
        intro v hv
        obtain rfl := Option.some.inj hv
        unfold valley
        cases o with
        | none => exact (sumW_bd w).1
        | some v => have := hs2 v rfl; have := (sumW_bd w).1; simp only; split <;> omega
    | rises t a p =>
      obtain ⟨at_, rfl, h1, h2, h3, h4, rfl, h6⟩ := hs
      have hm : more 1 (distD 1) = 1 := by rw [dist_one]; rfl
      by_cases hr : t < sumW w
      · rw [run_top _ _ _ _ _ _ _ hr, hcast, hm]
        refine goods_run ws hw l (j + 1) last _ hnext (by omega) ⟨j, rfl, by omega, by omega, by rw [hat, hsw], by omega, rfl, ?_⟩
        intro k h7 h8
        obtain rfl : k = j := by omega
        rw [hat, hsw]; omega
      · by_cases hd : 2 * sumW w < t
        · rw [run_down _ _ _ _ _ _ _ hr hd, run_first, hcast, hm]
          refine ⟨⟨at_, j, rfl, rfl, h1, by omega, hjl, h3, by rw [hat]; show 2 * w < t; omega, h4, rfl, ?_⟩, ?_⟩
          · intro k h7 h8
            by_cases hk : k < j
            · exact ⟨(h6 k h7 hk).1, fun _ => (h6 k h7 hk).2⟩
            · obtain rfl : k = j := by omega
              exact ⟨by rw [hat]; show w ≤ t; omega, fun h => absurd h hk⟩
          · exact goods_run ws hw l (j + 1) (j : Int) _ hnext (by omega) ⟨by omega, fun v hv => by obtain rfl := Option.some.inj hv; exact (sumW_bd w).1⟩
        · rw [run_on _ _ _ _ _ _ _ hr hd, hcast, hm]
          refine goods_run ws hw l (j + 1) last _ hnext (by omega) ⟨at_, rfl, h1, by omega, h3, h4, rfl, ?_⟩
          intro k h7 h8
          by_cases hk : k < j
          · exact h6 k h7 hk
          · obtain rfl : k = j := by omega
            rw [hat]; omega
theorem goods_all (ws : List Int) (hw : ∀ k, 0 ≤ ws.getD k 0 ∧ ws.getD k 0 ≤ 62914560) : Goods ws (-1) (runT (.falls none) 0 (ws.map fun w => (w, 1))).1 :=
  goods_run ws hw ws 0 (-1) (.falls none) (by simp) (by omega) ⟨by omega, fun v hv => by cases hv⟩
/-- Sums that are all the same: no peak. -/
def Same (u : Int) : St → Prop
  | .falls o => o = none ∨ o = some u
  | .rises _ _ _ => False
theorem same_step (v n d : Int) (s : St) (h : Same (sumW v) s) : stepT s n v d = (none, .falls (some (sumW v))) := by
  have hb := sumW_bd v
  cases s with
  | rises t a p => exact absurd h id
  | falls o =>
    have hv : valley o (sumW v) = sumW v := by
      rcases h with rfl | rfl
      · rfl
      · unfold valley; simp
    unfold stepT
    simp only [hv]
    rw [if_neg (by omega)]
/-- Sums that never fall: no peak. -/
def Grow (u : Int) : St → Prop
  | .falls o => True
  | .rises t _ _ => t ≤ u
theorem grow_step (v n d u : Int) (s : St) (h : Grow (sumW u) s) (hu : u ≤ v) : (stepT s n v d).1 = none ∧ Grow (sumW v) (stepT s n v d).2 := by
  have hm := sumW_mono u v hu
  have hb := sumW_bd v
  cases s with
  | falls o =>
    unfold stepT
    simp only
    split
    · exact ⟨rfl, Int.le_refl _⟩
    · exact ⟨rfl, trivial⟩
  | rises t a p =>
    have ht : t ≤ sumW u := h
    unfold stepT
    simp only
    split
    · exact ⟨rfl, Int.le_refl _⟩
    · rw [if_neg (by omega)]
      exact ⟨rfl, by show t ≤ sumW v; omega⟩
/-- Sums from 1000 to 1999: no peak. -/
def Flat : St → Prop
  | .falls o => ∀ v, o = some v → 1000 ≤ v
  | .rises _ _ _ => False
theorem flat_step (v n d : Int) (s : St) (h : Flat s) (h1 : 1000 ≤ v) (h2 : v ≤ 1999) : (stepT s n v d).1 = none ∧ Flat (stepT s n v d).2 := by
  have hv := sumW_in v (by omega) (by omega)
  cases s with
  | rises t a p => exact absurd h id
  | falls o =>
    have hy : 1000 ≤ valley o (sumW v) := by
      unfold valley
      cases o with
      | none => simp only; omega
      | some u => have := h u rfl; simp only; split <;> omega
    unfold stepT
    simp only
    rw [if_neg (by omega)]
    exact ⟨rfl, fun u hu => by obtain rfl := Option.some.inj hu; exact hy⟩
/-- A pulse: it stands so behind k of its steps, the first one with the number n; ahead of it there was a sum of 0, or none. -/
def Pulse (o : Option Int) (top n : Int) (k : Nat) : St :=
  if k = 0 then .falls o else if o = some 0 ∧ 64 < top then .rises top n 3 else .falls (some (valley o top))
theorem dist_three : distD 3 = 3 := by decide
theorem dist_nine : distD 9 = 9 := by decide
theorem pulse_step (o : Option Int) (ho : o = none ∨ o = some 0) (top n : Int) (k : Nat) (h1 : 0 ≤ top) (h2 : top ≤ 62914560) : stepT (Pulse o top n k) (n + k) top 3 = (none, Pulse o top n (k + 1)) := by
  have hs := sumW_in top h1 h2
  unfold Pulse
  rw [if_neg (by omega : ¬ k + 1 = 0)]
  rcases ho with rfl | rfl
  · by_cases hk : k = 0
    · subst hk
      simp [stepT, hs, valley]
      omega
    · simp [stepT, hs, valley, hk]
      omega
  · by_cases hk : k = 0
    · subst hk
      by_cases ht : 64 < top
      · have hn : ¬ top < 0 := by omega
        simp [stepT, hs, valley, ht, dist_three, hn]
      · have hn : ¬ top < 0 := by omega
        simp [stepT, hs, valley, ht, hn]
    · by_cases ht : 64 < top
      · have hn : ¬ 2 * top < top := by omega
        simp [stepT, hs, hk, ht, dist_three, more, hn]
      · have hn : ¬ top < 0 := by omega
        simp [stepT, hs, hk, ht, valley, hn]
/-- The first sum of 0 behind it: a peak, if it was high enough. -/
theorem pulse_end (top n m : Int) (k : Nat) (hk : 0 < k) (h1 : 0 ≤ top) (h2 : top ≤ 62914560) : stepT (Pulse (some 0) top n k) m 0 9 = (if 64 < top then some (n, m, top, 9) else none, .falls (some 0)) := by
  have hs : sumW 0 = 0 := rfl
  have hk0 : ¬ k = 0 := by omega
  unfold Pulse
  by_cases ht : 64 < top
  · have hn : ¬ top < 0 := by omega
    have hp : 0 < top := by omega
    simp [stepT, hs, hk0, ht, dist_nine, more, hn, hp]
  · have hn : ¬ top < 0 := by omega
    simp [stepT, hs, hk0, ht, valley, hn]
theorem pulse_end0 (top n m : Int) (k : Nat) (hk : 0 < k) (h1 : 0 ≤ top) (h2 : top ≤ 62914560) : stepT (Pulse none top n k) m 0 9 = (none, .falls (some 0)) := by
  have hs : sumW 0 = 0 := rfl
  have hk0 : ¬ k = 0 := by omega
  unfold Pulse
  rcases Int.lt_or_le 0 top with ht | ht
  · simp [stepT, hs, hk0, valley, ht]
  · obtain rfl : top = 0 := by omega
    simp [stepT, hs, hk0, valley]
theorem zero_step (m : Int) : stepT (.falls (some 0)) m 0 0 = (none, .falls (some 0)) := by
  have hs : sumW 0 = 0 := rfl
  simp [stepT, hs, valley]
end Go.Proofs.Ytnoppoimahfknaa.Peak
end
section
/- What levels come to, behind any tops; what follows of it (between, kept, above). Nothing here speaks of a program. -/
set_option linter.unusedVariables false
namespace Go.Proofs.Ytnoppoimahfknaa.Level
open Go.RowKit
/-- A number as it counts. -/
def nearB (n : Int) : Int := clampZ n 0 62914560
theorem nearB_bd (n : Int) : 0 ≤ nearB n ∧ nearB n ≤ 62914560 := by unfold nearB clampZ; split <;> (try split) <;> omega
theorem nearB_in (n : Int) (h : 0 ≤ n ∧ n ≤ 62914560) : nearB n = n := by unfold nearB clampZ; rw [if_neg (by omega), if_neg (by omega)]
theorem nearB_two (n : Int) : nearB (nearB n) = nearB n := nearB_in _ (nearB_bd n)
/-- To go by a k-th from a towards b. -/
def goes (a b k : Int) : Int := a + (b - a) / k
theorem goes_bd (a b k : Int) (hk : k = 8 ∨ k = 4) (ha : 0 ≤ a ∧ a ≤ 62914560) (hb : 0 ≤ b ∧ b ≤ 62914560) : 0 ≤ goes a b k ∧ goes a b k ≤ 62914560 := by
  unfold goes; rcases hk with rfl | rfl <;> omega
theorem goes_between (a b k : Int) (hk : k = 8 ∨ k = 4) : (a ≤ goes a b k ∨ b ≤ goes a b k) ∧ (goes a b k ≤ a ∨ goes a b k ≤ b) := by
  unfold goes; rcases hk with rfl | rfl <;> omega
abbrev Lv := Int × Int
/-- A level, as a value. -/
def lvV (l : Lv) : Value := .agg #[.int .i64 l.1, .int .i64 l.2]
/-- A level as it counts. -/
def nearL (l : Lv) : Lv := (nearB l.1, nearB l.2)
/-- Top by top by an 8th. -/
def followT (a : Int) (ts : List Int) : Int := ts.foldl (fun n t => goes n (nearB t) 8) a
theorem follow_step (a : Int) (ts : List Int) (j : Nat) (hj : j < ts.length) : followT a (ts.take (j + 1)) = goes (followT a (ts.take j)) (nearB (ts.getD j 0)) 8 := by
  unfold followT
  rw [List.take_succ_eq_append_getElem hj, List.foldl_append, List.getD_eq_getElem?_getD, List.getElem?_eq_getElem hj]
  rfl
theorem follow_bd (ts : List Int) : ∀ a, 0 ≤ a ∧ a ≤ 62914560 → 0 ≤ followT a ts ∧ followT a ts ≤ 62914560 := by
  induction ts with
  | nil => exact fun a h => h
  | cons t ts ih => exact fun a h => ih _ (goes_bd _ _ _ (.inl rfl) h (nearB_bd t))
theorem follow_none (a : Int) : followT a [] = a := rfl
theorem follow_one (a t : Int) : followT a [t] = goes a (nearB t) 8 := rfl
/-- The greatest top, of none 0. -/
def firstT (ts : List Int) : Int := ts.foldl (fun s t => if s < nearB t then nearB t else s) 0
theorem first_step (ts : List Int) (j : Nat) (hj : j < ts.length) : firstT (ts.take (j + 1)) = if firstT (ts.take j) < nearB (ts.getD j 0) then nearB (ts.getD j 0) else firstT (ts.take j) := by
  unfold firstT
  rw [List.take_succ_eq_append_getElem hj, List.foldl_append, List.getD_eq_getElem?_getD, List.getElem?_eq_getElem hj]
  rfl
theorem first_one (t : Int) (h : 0 ≤ t ∧ t ≤ 62914560) : firstT [t] = t := by
  unfold firstT
  simp only [List.foldl_cons, List.foldl_nil, nearB_in t h]
  split <;> omega
def signalT (l : Lv) (ts : List Int) : Lv := (followT (nearB l.1) ts, nearB l.2)
def noiseT (l : Lv) (ts : List Int) : Lv := (nearB l.1, followT (nearB l.2) ts)
def againT (l : Lv) (t : Int) : Lv := (goes (nearB l.1) (nearB t) 4, nearB l.2)
def upperT (l : Lv) : Int := if goes (nearB l.2) (nearB l.1) 4 < 256 then 256 else goes (nearB l.2) (nearB l.1) 4
def lowerT (l : Lv) : Int := upperT l / 2
theorem upper_bd (l : Lv) : 256 ≤ upperT l ∧ upperT l ≤ 62914560 := by
  have := goes_bd (nearB l.2) (nearB l.1) 4 (.inr rfl) (nearB_bd _) (nearB_bd _)
  unfold upperT; split <;> omega
/-- One top, k times. -/
def goN (a t : Int) : Nat → Int
  | 0 => a
  | k + 1 => goes (goN a t k) t 8
def dn : Nat → Int
  | 0 => 62914560
  | k + 1 => dn k * 7 / 8
def up : Nat → Int
  | 0 => 62914560
  | k + 1 => up k - up k / 8
theorem goN_dn (a t : Int) (h : t ≤ a) (h' : a ≤ t + 62914560) : ∀ k, t ≤ goN a t k ∧ goN a t k ≤ t + dn k
  | 0 => ⟨h, h'⟩
  | k + 1 => by
    have ih := goN_dn a t h h' k
    simp only [goN, dn, goes]
    omega
theorem goN_up (a t : Int) (h : a ≤ t) (h' : t ≤ a + 62914560) : ∀ k, goN a t k ≤ t ∧ t ≤ goN a t k + up k
  | 0 => ⟨h, h'⟩
  | k + 1 => by
    have ih := goN_up a t h h' k
    simp only [goN, up, goes]
    omega
theorem dn_250 : dn 250 = 0 := by decide +kernel
theorem up_250 : up 250 ≤ 7 := by decide +kernel
theorem goN_above (a t : Int) (h : t ≤ a) (h' : a ≤ t + 62914560) : goN a t 250 = t := by
  have := goN_dn a t h h' 250
  rw [dn_250] at this; omega
theorem goN_below (a t : Int) (h : a ≤ t) (h' : t ≤ a + 62914560) : goN a t 250 ≤ t ∧ t - 8 < goN a t 250 := by
  have := goN_up a t h h' 250
  have := up_250; omega
theorem goN_bd (a t : Int) (ha : 0 ≤ a ∧ a ≤ 62914560) (ht : 0 ≤ t ∧ t ≤ 62914560) : ∀ k, 0 ≤ goN a t k ∧ goN a t k ≤ 62914560
  | 0 => ha
  | k + 1 => goes_bd _ _ _ (.inl rfl) (goN_bd a t ha ht k) ht
/-- Of tops from base to twice base the signal stays there; each is above the upper threshold. -/
theorem above_step (base s top : Int) (hb : 257 ≤ base ∧ base ≤ 31457280) (hs : base ≤ s ∧ s ≤ 2 * base) (ht : base ≤ top ∧ top ≤ 2 * base) : upperT (s, 0) < base ∧ base ≤ goes s top 8 ∧ goes s top 8 ≤ 2 * base := by
  refine ⟨?_, ?_, ?_⟩
  · unfold upperT
    rw [nearB_in s (by omega), nearB_in 0 (by omega)]
    unfold goes
    split <;> omega
  all_goals unfold goes; omega
end Go.Proofs.Ytnoppoimahfknaa.Level
end
section
/- What a pace answers of all distances that came (the last one first): means, what is late, rates; what follows of it. Nothing here speaks of a program. -/
set_option linter.unusedVariables false
namespace Go.Proofs.Ytnoppoimahfknaa.Pace
open Go.RowKit
/-- What a distance counts as. -/
def distR (v : Int) : Int := clampZ v 1 1073741824
theorem distR_bd (v : Int) : 1 ≤ distR v ∧ distR v ≤ 1073741824 := by unfold distR clampZ; split <;> (try split) <;> omega
theorem distR_in (v : Int) (h : 1 ≤ v ∧ v ≤ 1073741824) : distR v = v := by unfold distR clampZ; rw [if_neg (by omega), if_neg (by omega)]
/-- As min and max read. -/
theorem distR_ifs (v m : Int) (hm : (if v < 1 then 1 else v) = m) : (if 1073741824 < m then 1073741824 else m) = distR v := by
  subst hm; unfold distR clampZ; repeat' split
  all_goals omega
/-- How many count. -/
def many (h : List Int) : Nat := min h.length 8
/-- The sum of the last ones, as they count. -/
def sumR (h : List Int) : Int := ((h.map distR).take 8).sum
def meanT (h : List Int) : Int := if h.length = 0 then 0 else sumR h / (many h : Int)
def lateT (h : List Int) (since : Int) : Bool := decide (0 < h.length) && decide (5 * meanT h / 3 < since)
def rateT (rr : Int) : Int := if rr < 1 then 0 else 12000 / rr
theorem sums_bd : ∀ (l : List Int) (lo hi : Int), (∀ v ∈ l, lo ≤ v ∧ v ≤ hi) → lo * (l.length : Int) ≤ l.sum ∧ l.sum ≤ hi * (l.length : Int)
  | [], _, _, _ => by simp
  | x :: l, lo, hi, h => by
    have h1 := h x (by simp)
    have h2 := sums_bd l lo hi (fun v hv => h v (by simp [hv]))
    rw [List.sum_cons, List.length_cons]
    push_cast
    rw [Int.mul_add, Int.mul_add]
    omega
theorem sum_len (h : List Int) : ((h.map distR).take 8).length = many h := by simp [many, Nat.min_comm]
theorem sumR_bd (h : List Int) : (many h : Int) ≤ sumR h ∧ sumR h ≤ 1073741824 * (many h : Int) := by
  have h1 := sums_bd ((h.map distR).take 8) 1 1073741824 (fun v hv => by
    obtain ⟨u, _, rfl⟩ := List.mem_map.1 (List.mem_of_mem_take hv)
    exact distR_bd u)
  rw [sum_len] at h1
  unfold sumR
  omega
theorem many_bd (h : List Int) : many h ≤ 8 := by unfold many; omega
theorem mean_none : meanT [] = 0 := rfl
/-- A mean between. -/
theorem mean_between (h : List Int) (lo hi : Int) (h0 : 0 < h.length) (hb : ∀ v ∈ (h.map distR).take 8, lo ≤ v ∧ v ≤ hi) : lo ≤ meanT h ∧ meanT h ≤ hi := by
  have h1 := sums_bd _ lo hi hb
  rw [sum_len] at h1
  have hm : 0 < (many h : Int) := by unfold many; omega
  unfold meanT
  rw [if_neg (by omega)]
  exact ⟨(Int.le_ediv_iff_mul_le hm).2 h1.1, Int.le_of_lt_add_one (Int.ediv_lt_of_lt_mul hm (by rw [Int.add_mul]; unfold sumR; omega))⟩
theorem mean_bd (h : List Int) : 0 ≤ meanT h ∧ meanT h ≤ 1073741824 := by
  by_cases h0 : h.length = 0
  · unfold meanT; rw [if_pos h0]; omega
  · have := mean_between h 1 1073741824 (by omega) (fun v hv => by
      obtain ⟨u, _, rfl⟩ := List.mem_map.1 (List.mem_of_mem_take hv)
      exact distR_bd u)
    omega
theorem late_later (h : List Int) (s : Int) (hl : lateT h s = true) : lateT h (s + 1) = true := by
  unfold lateT at *
  simp only [Bool.and_eq_true, decide_eq_true_eq] at *
  omega
theorem late_not (h : List Int) (s : Int) (hs : s ≤ 0) : lateT h s = false := by
  have := mean_bd h
  unfold lateT
  simp only [Bool.and_eq_false_iff, decide_eq_false_iff_not]
  right; omega
/-- What comes to 5 times the greatest is late. -/
theorem late_most (h : List Int) (m : Int) (h0 : 0 < h.length) (hm : meanT h ≤ m) (h1 : 1 ≤ meanT h) : lateT h (5 * m) = true := by
  unfold lateT
  simp only [Bool.and_eq_true, decide_eq_true_eq]
  omega
/-- The sum, of the list in its order, from place a on. -/
theorem sum_drop (l : List Int) : ((l.drop (l.length - 8)).map distR).sum = sumR l.reverse := by
  unfold sumR
  rw [List.map_reverse, List.take_reverse, List.sum_reverse, List.length_map, List.map_drop]
theorem rate_bd (rr : Int) : 0 ≤ rateT rr ∧ rateT rr ≤ 12000 := by
  unfold rateT
  split
  · omega
  · rename_i h
    exact ⟨Int.ediv_nonneg (by omega) (by omega), Int.ediv_le_self _ (by omega)⟩
/-- A rate is a floor. -/
theorem rate_floor (rr : Int) (h1 : 1 ≤ rr) : rateT rr * rr ≤ 12000 ∧ 12000 < (rateT rr + 1) * rr := by
  unfold rateT
  rw [if_neg (by omega)]
  exact ⟨Int.ediv_mul_le _ (by omega), Int.lt_ediv_add_one_mul_self _ (by omega)⟩
end Go.Proofs.Ytnoppoimahfknaa.Pace
end
section
/- A detector of beats, as a machine; what follows of it (learning, apart, quiet, alike). Nothing here speaks of a program. -/
set_option linter.unusedVariables false
namespace Go.Proofs.Ytnoppoimahfknaa.Qrs
open Go.RowKit
abbrev Pk := Peak.Pk
/-- A beat: at, seen, RR, back. -/
abbrev Bt := Int × Int × Int × Bool
/-- How a detector stands. -/
structure D where
  n : Int
  start : Int
  fin : Peak.St
  tops : List Int
  lv : Level.Lv
  ds : List Int
  last : Option Pk
  cand : Option Pk
def noD : D := ⟨0, 0, .falls none, [], (0, 0), [], none, none⟩
/-- How far behind the last beat (0, if there is none). -/
def behind (d : D) (p : Pk) : Int := match d.last with
  | none => 0
  | some l => p.1 - l.1
/-- A beat is told. -/
def tell (d : D) (p : Pk) (back : Bool) : Bt × D :=
  ((d.start + (if p.1 - 38 < 0 then 0 else p.1 - 38), d.start + d.n, behind d p, back),
   { d with lv := if back then Level.againT d.lv p.2.2.1 else Level.signalT d.lv [p.2.2.1], ds := match d.last with | none => d.ds | some l => (p.1 - l.1) :: d.ds, last := some p, cand := none })
/-- Is it nothing, as it is too near? -/
def near (d : D) (p : Pk) : Bool := match d.last with
  | none => false
  | some l => decide (p.1 - l.1 < 40)
/-- Is it a wave behind a beat? -/
def flatter (d : D) (p : Pk) : Bool := match d.last with
  | none => false
  | some l => decide (p.1 - l.1 < 72) && decide (2 * p.2.2.2 < l.2.2.2)
/-- The candidate, with one more. -/
def best (o : Option Pk) (p : Pk) : Option Pk := match o with
  | none => some p
  | some c => if c.2.2.1 < p.2.2.1 then some p else some c
/-- A peak that is seen behind the learning. -/
def seenT (d : D) (p : Pk) : Option Bt × D :=
  if near d p then (none, d)
  else if Level.upperT d.lv < p.2.2.1 then
    if flatter d p then (none, { d with lv := Level.noiseT d.lv [p.2.2.1] }) else (some (tell d p false).1, (tell d p false).2)
  else (none, { d with lv := Level.noiseT d.lv [p.2.2.1], cand := best d.cand p })
/-- Looking back. -/
def backT (d : D) : Option Bt × D := match d.last, d.cand with
  | some l, some c => if Pace.lateT d.ds (d.n - l.1) && decide (Level.lowerT d.lv < c.2.2.1) then (some (tell d c true).1, (tell d c true).2) else (none, d)
  | _, _ => (none, d)
/-- The start, and the level at step Learn. -/
def openT (d : D) (at_ : Int) : D := { d with start := if d.n = 0 then clampZ at_ 0 1099511627776 else d.start, lv := if d.n = 400 then (Level.firstT d.tops, 0) else d.lv }
/-- One step: the beats, and how it stands. -/
def stepT (d0 : D) (at_ w ds : Int) : List Bt × D :=
  let d := { openT d0 at_ with fin := (Peak.stepT d0.fin d0.n w ds).2 }
  if d0.n < 400 then ([], { d with n := d0.n + 1, tops := d.tops ++ ((Peak.stepT d0.fin d0.n w ds).1.map fun p => p.2.2.1).toList })
  else match (Peak.stepT d0.fin d0.n w ds).1 with
    | none => ((backT d).1.toList, { (backT d).2 with n := d0.n + 1 })
    | some p => ((seenT d p).1.toList ++ (backT (seenT d p).2).1.toList, { (backT (seenT d p).2).2 with n := d0.n + 1 })
theorem step_n (d : D) (a w s : Int) : (stepT d a w s).2.n = d.n + 1 := by
  unfold stepT
  split
  · rfl
  · split <;> rfl
theorem step_learn (d : D) (a w s : Int) (h : d.n < 400) (hl : d.lv = (0, 0)) : (stepT d a w s).1 = [] ∧ (stepT d a w s).2.lv = (0, 0) := by
  unfold stepT
  rw [if_pos h]
  refine ⟨rfl, ?_⟩
  show (if d.n = 400 then (Level.firstT d.tops, 0) else d.lv) = (0, 0)
  rw [if_neg (by omega), hl]
theorem step_len (d : D) (a w s : Int) : (stepT d a w s).1.length ≤ 2 := by
  have ho : ∀ o : Option Bt, o.toList.length ≤ 1 := fun o => by cases o <;> simp
  unfold stepT
  split
  · simp
  · split
    · exact Nat.le_trans (ho _) (by omega)
    · rw [List.length_append]
      exact Nat.add_le_add (ho _) (ho _)
/-! ### Apart -/
/-- What holds between steps: peaks lie behind; a candidate lies apart from the last beat. -/
structure OkB (d : D) : Prop where
  n0 : 0 ≤ d.n
  st : 0 ≤ d.start
  lastn : ∀ l, d.last = some l → 0 ≤ l.1 ∧ l.1 < d.n
  candn : ∀ c, d.cand = some c → 0 ≤ c.1 ∧ c.1 < d.n ∧ ∀ l, d.last = some l → 40 ≤ c.1 - l.1
structure Ok (d : D) : Prop where
  base : OkB d
  fin : ∀ t a p, d.fin = .rises t a p → 0 ≤ a ∧ a < d.n
theorem ok_no : Ok noD := ⟨⟨by decide, by decide, (fun _ h => by cases h), (fun _ h => by cases h)⟩, (fun _ _ _ h => by cases h)⟩
theorem near_not (d : D) (p : Pk) (h : near d p = false) : ∀ l, d.last = some l → 40 ≤ p.1 - l.1 := fun l hl => by
  unfold near at h
  rw [hl] at h
  simp at h
  omega
/-- Where a peak comes from. -/
theorem peak_from (s : Peak.St) (n w d : Int) (p : Pk) (h : (Peak.stepT s n w d).1 = some p) : ∃ t a q, s = .rises t a q ∧ p.1 = a := by
  cases s with
  | falls o =>
    unfold Peak.stepT at h
    simp only at h
    split at h <;> cases h
  | rises t a q =>
    refine ⟨t, a, q, rfl, ?_⟩
    unfold Peak.stepT at h
    simp only at h
    split at h
    · cases h
    · split at h
      · obtain rfl := Option.some.inj h
        rfl
      · cases h
/-- Where it rises behind a step. -/
theorem rise_from (s : Peak.St) (n w d t a q : Int) (h : (Peak.stepT s n w d).2 = .rises t a q) : a = n ∨ ∃ t' q', s = .rises t' a q' := by
  cases s with
  | falls o =>
    unfold Peak.stepT at h
    simp only at h
    split at h
    · injection h with _ h2
      exact .inl h2.symm
    · cases h
  | rises t' a' q' =>
    unfold Peak.stepT at h
    simp only at h
    split at h
    · injection h with _ h2
      exact .inl h2.symm
    · split at h
      · cases h
      · injection h with _ h2
        subst h2
        exact .inr ⟨t', q', rfl⟩
theorem seen_cases (d : D) (p : Pk) : (∃ x, seenT d p = (none, { d with lv := x })) ∨ (near d p = false ∧ ∃ x, seenT d p = (none, { d with lv := x, cand := best d.cand p })) ∨ (near d p = false ∧ seenT d p = (some (tell d p false).1, (tell d p false).2)) := by
  unfold seenT
  split
  · exact .inl ⟨d.lv, rfl⟩
  · rename_i hn
    have hn : near d p = false := by simpa using hn
    split
    · split
      · exact .inl ⟨_, rfl⟩
      · exact .inr (.inr ⟨hn, rfl⟩)
    · exact .inr (.inl ⟨hn, _, rfl⟩)
theorem back_cases (d : D) : backT d = (none, d) ∨ ∃ l c, d.last = some l ∧ d.cand = some c ∧ backT d = (some (tell d c true).1, (tell d c true).2) := by
  unfold backT
  cases hl : d.last with
  | none => exact .inl rfl
  | some l =>
    cases hc : d.cand with
    | none => exact .inl rfl
    | some c =>
      simp only
      split
      · exact .inr ⟨l, c, rfl, rfl, rfl⟩
      · exact .inl rfl
theorem back_none (d : D) (h : d.cand = none) : backT d = (none, d) := by
  rcases back_cases d with h1 | ⟨l, c, _, h2, _⟩
  · exact h1
  · rw [h] at h2; cases h2
theorem best_cases (o : Option Pk) (p c : Pk) (h : best o p = some c) : c = p ∨ o = some c := by
  unfold best at h
  cases o with
  | none => exact .inl (Option.some.inj h).symm
  | some e =>
    simp only at h
    split at h
    · exact .inl (Option.some.inj h).symm
    · exact .inr h
/-- What a step does behind the learning: nothing is told, and the last beat stays; or just one beat is told, of a peak that is apart. -/
def Does (d : D) (r : List Bt × D) : Prop :=
  (r.1 = [] ∧ r.2.last = d.last ∧ ∀ c, r.2.cand = some c → 0 ≤ c.1 ∧ c.1 < d.n + 1 ∧ ∀ l, d.last = some l → 40 ≤ c.1 - l.1) ∨
  ∃ (p : Pk) (back : Bool), r.1 = [(d.start + (if p.1 - 38 < 0 then 0 else p.1 - 38), d.start + d.n, behind d p, back)] ∧ r.2.last = some p ∧ r.2.cand = none ∧ 0 ≤ p.1 ∧ p.1 < d.n ∧ (∀ l, d.last = some l → 40 ≤ p.1 - l.1) ∧ (d.last = none → back = false)
theorem back_does (d : D) (h : OkB d) (b : List Bt × D) (hb : b.1 = (backT d).1.toList ∧ b.2.last = (backT d).2.last ∧ b.2.cand = (backT d).2.cand) : Does d b := by
  obtain ⟨h1, h2, h3⟩ := hb
  rcases back_cases d with he | ⟨l, c, hl, hc, he⟩
  · rw [he] at h1 h2 h3
    refine .inl ⟨h1, h2, fun c hc => ?_⟩
    have := h.candn c (h3 ▸ hc)
    exact ⟨this.1, by omega, this.2.2⟩
  · rw [he] at h1 h2 h3
    have := h.candn c hc
    exact .inr ⟨c, true, h1, h2, h3, this.1, this.2.1, this.2.2, fun h9 => by rw [hl] at h9; cases h9⟩
theorem step_does (d0 : D) (h : Ok d0) (a w s : Int) (hn : ¬ d0.n < 400) : Does { openT d0 a with fin := (Peak.stepT d0.fin d0.n w s).2 } (stepT d0 a w s) := by
  have hst : 0 ≤ (openT d0 a).start := by
    show 0 ≤ (if d0.n = 0 then clampZ a 0 1099511627776 else d0.start)
    rw [if_neg (by omega)]; exact h.base.st
  unfold stepT
  rw [if_neg hn]
  cases hp : (Peak.stepT d0.fin d0.n w s).1 with
  | none =>
    simp only
    generalize (Peak.stepT d0.fin d0.n w s).2 = f
    exact back_does { openT d0 a with fin := f } ⟨h.base.n0, hst, h.base.lastn, h.base.candn⟩ _ ⟨rfl, rfl, rfl⟩
  | some p =>
    simp only
    obtain ⟨t, at_, q, hf, hpa⟩ := peak_from _ _ _ _ _ hp
    have hpb := h.fin t at_ q hf
    rw [← hpa] at hpb
    generalize (Peak.stepT d0.fin d0.n w s).2 = f
    rcases seen_cases { openT d0 a with fin := f } p with ⟨x, he⟩ | ⟨hne, x, he⟩ | ⟨hne, he⟩
    · rw [he]
      have := back_does { openT d0 a with fin := f, lv := x } ⟨h.base.n0, hst, h.base.lastn, h.base.candn⟩ ((backT { openT d0 a with fin := f, lv := x }).1.toList, { (backT { openT d0 a with fin := f, lv := x }).2 with n := d0.n + 1 }) ⟨rfl, rfl, rfl⟩
      exact this
    · rw [he]
      have hap := near_not _ _ hne
      have := back_does { openT d0 a with fin := f, lv := x, cand := best d0.cand p } ⟨h.base.n0, hst, h.base.lastn, fun c hc => by
        rcases best_cases _ _ _ hc with rfl | hc
        · exact ⟨hpb.1, hpb.2, hap⟩
        · exact h.base.candn c hc⟩ ((backT { openT d0 a with fin := f, lv := x, cand := best d0.cand p }).1.toList, { (backT { openT d0 a with fin := f, lv := x, cand := best d0.cand p }).2 with n := d0.n + 1 }) ⟨rfl, rfl, rfl⟩
      exact this
    · rw [he]
      have hap := near_not _ _ hne
      simp only
      rw [back_none _ rfl]
      exact .inr ⟨p, false, rfl, rfl, rfl, hpb.1, hpb.2, hap, fun _ => rfl⟩
theorem step_start (d : D) (a w s : Int) : (stepT d a w s).2.start = if d.n = 0 then clampZ a 0 1099511627776 else d.start := by
  have hb : ∀ e : D, (backT e).2.start = e.start := fun e => by rcases back_cases e with h | ⟨l, c, _, _, h⟩ <;> rw [h] <;> rfl
  unfold stepT
  split
  · rfl
  · split
    · rw [show ∀ (x : D) (y : Int), ({ x with n := y } : D).start = x.start from fun _ _ => rfl, hb]; rfl
    · rename_i p _
      rw [show ∀ (x : D) (y : Int), ({ x with n := y } : D).start = x.start from fun _ _ => rfl, hb]
      rcases seen_cases { openT d a with fin := (Peak.stepT d.fin d.n w s).2 } p with ⟨x, h⟩ | ⟨_, x, h⟩ | ⟨_, h⟩ <;> rw [h] <;> rfl
theorem step_fin (d : D) (a w s : Int) : (stepT d a w s).2.fin = (Peak.stepT d.fin d.n w s).2 := by
  have hb : ∀ e : D, (backT e).2.fin = e.fin := fun e => by rcases back_cases e with h | ⟨l, c, _, _, h⟩ <;> rw [h] <;> rfl
  unfold stepT
  split
  · rfl
  · split
    · rw [show ∀ (x : D) (y : Int), ({ x with n := y } : D).fin = x.fin from fun _ _ => rfl, hb]
    · rename_i p _
      rw [show ∀ (x : D) (y : Int), ({ x with n := y } : D).fin = x.fin from fun _ _ => rfl, hb]
      rcases seen_cases { openT d a with fin := (Peak.stepT d.fin d.n w s).2 } p with ⟨x, h⟩ | ⟨_, x, h⟩ | ⟨_, h⟩ <;> rw [h] <;> rfl
theorem clampA_bd (a : Int) : 0 ≤ clampZ a 0 1099511627776 ∧ clampZ a 0 1099511627776 ≤ 1099511627776 := by unfold clampZ; split <;> (try split) <;> omega
theorem clampA_in (a : Int) (h : 0 ≤ a ∧ a ≤ 1099511627776) : clampZ a 0 1099511627776 = a := by unfold clampZ; rw [if_neg (by omega), if_neg (by omega)]
theorem ok_step (d : D) (a w s : Int) (h : Ok d) : Ok (stepT d a w s).2 := by
  have hst : 0 ≤ (stepT d a w s).2.start := by
    rw [step_start]
    split
    · exact (clampA_bd a).1
    · exact h.base.st
  have hfin : ∀ t b p, (stepT d a w s).2.fin = .rises t b p → 0 ≤ b ∧ b < (stepT d a w s).2.n := fun t b p hf => by
    rw [step_fin] at hf
    rw [step_n]
    have := h.base.n0
    rcases rise_from _ _ _ _ _ _ _ hf with rfl | ⟨t', q', h9⟩
    · omega
    · have := h.fin _ _ _ h9; omega
  have hn := step_n d a w s
  by_cases hl : d.n < 400
  · have hla : (stepT d a w s).2.last = d.last := by unfold stepT; rw [if_pos hl]; rfl
    have hca : (stepT d a w s).2.cand = d.cand := by unfold stepT; rw [if_pos hl]; rfl
    refine ⟨⟨by have := h.base.n0; omega, hst, ?_, ?_⟩, hfin⟩
    · intro l h1
      rw [hla] at h1
      have := h.base.lastn l h1; omega
    · intro c h1
      rw [hca] at h1
      rw [hla]
      have := h.base.candn c h1
      exact ⟨this.1, by omega, this.2.2⟩
  · rcases step_does d h a w s hl with ⟨_, h1, h2⟩ | ⟨p, back, _, h1, h2, h3, h4, _, _⟩
    · refine ⟨⟨by have := h.base.n0; omega, hst, ?_, ?_⟩, hfin⟩
      · intro l h9
        rw [h1] at h9
        have := h.base.lastn l h9; omega
      · intro c h9
        have := h2 c h9
        rw [h1]
        exact ⟨this.1, by rw [hn]; exact this.2.1, this.2.2⟩
    · have h4 : p.1 < d.n := h4
      refine ⟨⟨by have := h.base.n0; omega, hst, ?_, ?_⟩, hfin⟩
      · intro l h9
        rw [h1] at h9
        obtain rfl := Option.some.inj h9
        omega
      · intro c h9
        rw [h2] at h9
        cases h9
/-- How it stands when so many were told, the last one at last, from start on. -/
structure Told (start : Int) (d : D) (cnt last : Int) : Prop where
  ok : Ok d
  st : d.n = 0 ∨ d.start = start
  cnt0 : 0 ≤ cnt
  none_ : d.last = none → cnt = 0 ∧ last = -1
  some_ : ∀ l, d.last = some l → 0 < cnt ∧ last = start + (if l.1 - 38 < 0 then 0 else l.1 - 38)
theorem told_no (start : Int) : Told start noD 0 (-1) := ⟨ok_no, .inl rfl, by omega, fun _ => ⟨rfl, rfl⟩, fun _ h => by cases h⟩
theorem told_step (start : Int) (d : D) (cnt last w s : Int) (h : Told start d cnt last) (hs : 0 ≤ start ∧ start ≤ 65535) :
    ((stepT d (start + d.n) w s).1 = [] ∧ Told start (stepT d (start + d.n) w s).2 cnt last) ∨
    ∃ b : Bt, (stepT d (start + d.n) w s).1 = [b] ∧ Told start (stepT d (start + d.n) w s).2 (cnt + 1) b.1 ∧ (cnt = 0 ↔ b.2.2.1 = 0) ∧ (0 < cnt → 40 ≤ b.2.2.1) ∧ b.2.1 = start + d.n ∧ b.1 ≤ start + d.n ∧ start ≤ b.1 ∧ last ≤ b.1 ∧ (cnt = 0 → b.2.2.2 = false) := by
  have hok := ok_step d (start + d.n) w s h.ok
  have hst : (stepT d (start + d.n) w s).2.start = start := by
    rw [step_start]
    split
    · rename_i h0
      rw [h0, Int.add_zero, clampA_in _ (by omega)]
    · rcases h.st with h1 | h1
      · omega
      · exact h1
  have hop : (openT d (start + d.n)).start = start := by
    show (if d.n = 0 then clampZ (start + d.n) 0 1099511627776 else d.start) = start
    split
    · rename_i h0
      rw [h0, Int.add_zero, clampA_in _ (by omega)]
    · rcases h.st with h1 | h1
      · omega
      · exact h1
  by_cases hl : d.n < 400
  · have hla : (stepT d (start + d.n) w s).2.last = d.last := by unfold stepT; rw [if_pos hl]; rfl
    refine .inl ⟨by unfold stepT; rw [if_pos hl], hok, .inr hst, h.cnt0, ?_, ?_⟩
    · rw [hla]; exact h.none_
    · rw [hla]; exact h.some_
  · rcases step_does d h.ok (start + d.n) w s hl with ⟨h1, h2, _⟩ | ⟨p, back, h1, h2, _, h3, h4, h5, h6⟩
    · have h2 : (stepT d (start + d.n) w s).2.last = d.last := h2
      refine .inl ⟨h1, hok, .inr hst, h.cnt0, ?_, ?_⟩
      · rw [h2]; exact h.none_
      · rw [h2]; exact h.some_
    · have h4 : p.1 < d.n := h4
      have h5 : ∀ l, d.last = some l → 40 ≤ p.1 - l.1 := h5
      have h6 : d.last = none → back = false := h6
      refine .inr ⟨_, h1, ⟨hok, .inr hst, (by have := h.cnt0; omega), (fun h9 => by rw [h2] at h9; cases h9), fun l h9 => ?_⟩, ?_⟩
      · rw [h2] at h9
        obtain rfl := Option.some.inj h9
        refine ⟨by have := h.cnt0; omega, ?_⟩
        show (openT d (start + d.n)).start + _ = _
        rw [hop]
      · show (cnt = 0 ↔ behind d p = 0) ∧ (0 < cnt → 40 ≤ behind d p) ∧ (openT d (start + d.n)).start + d.n = start + d.n ∧ (openT d (start + d.n)).start + (if p.1 - 38 < 0 then 0 else p.1 - 38) ≤ start + d.n ∧ start ≤ (openT d (start + d.n)).start + (if p.1 - 38 < 0 then 0 else p.1 - 38) ∧ last ≤ (openT d (start + d.n)).start + (if p.1 - 38 < 0 then 0 else p.1 - 38) ∧ (cnt = 0 → back = false)
        rw [hop]
        have hm : (if p.1 - 38 < 0 then 0 else p.1 - 38) ≤ d.n ∧ 0 ≤ (if p.1 - 38 < 0 then 0 else p.1 - 38) := by have := h.ok.base.n0; split <;> omega
        cases hlast : d.last with
        | none =>
          have hc := h.none_ hlast
          have hbe : behind d p = 0 := by unfold behind; rw [hlast]
          rw [hbe]
          exact ⟨⟨fun _ => rfl, fun _ => hc.1⟩, fun h0 => by omega, rfl, by omega, by omega, by omega, fun _ => h6 hlast⟩
        | some l =>
          have hc := h.some_ l hlast
          have hbe : behind d p = p.1 - l.1 := by unfold behind; rw [hlast]
          have h40 := h5 l hlast
          rw [hbe]
          have hmm : (if l.1 - 38 < 0 then 0 else l.1 - 38) ≤ (if p.1 - 38 < 0 then 0 else p.1 - 38) := by split <;> split <;> omega
          exact ⟨⟨fun _ => by omega, fun _ => by omega⟩, fun _ => h40, rfl, by omega, by omega, by omega, fun _ => by omega⟩
/-! ### Quiet -/
structure Still (d : D) : Prop where
  fin : Peak.Same 0 d.fin
  last : d.last = none
  cand : d.cand = none
theorem still_no : Still noD := ⟨.inl rfl, rfl, rfl⟩
theorem still_step (d : D) (a s : Int) (h : Still d) : (stepT d a 0 s).1 = [] ∧ Still (stepT d a 0 s).2 := by
  have hp := Peak.same_step 0 d.n s d.fin h.fin
  unfold stepT
  rw [hp]
  split
  · exact ⟨rfl, .inr rfl, h.last, h.cand⟩
  · simp only
    have hb := back_none { openT d a with fin := .falls (some (Peak.sumW 0)) } h.cand
    rw [hb]
    exact ⟨rfl, .inr rfl, h.last, h.cand⟩
/-! ### Alike -/
/-- Between two peaks that are alike (so many were learnt from): the last one is at least so far behind. -/
structure Calm (base : Int) (k : Nat) (g : Int) (d : D) : Prop where
  n0 : 0 ≤ d.n
  cand : d.cand = none
  lo : d.n ≤ 400 → d.lv = (0, 0) ∧ d.last = none ∧ d.tops = List.replicate k base
  hi : 400 < d.n → ∃ s, d.lv = (s, 0) ∧ base ≤ s ∧ s ≤ 2 * base
  far : ∀ l, d.last = some l → l.1 + g ≤ d.n
theorem calm_no (base g : Int) : Calm base 0 g noD := ⟨by decide, rfl, fun _ => ⟨rfl, rfl, rfl⟩, (fun h => by cases h), fun _ h => by cases h⟩
theorem first_same (base : Int) (hb : 0 ≤ base ∧ base ≤ 62914560) : ∀ k, 0 < k → Level.firstT (List.replicate k base) = base
  | 0, h => by omega
  | 1, _ => Level.first_one base hb
  | k + 2, _ => by
    have ih := first_same base hb (k + 1) (by omega)
    unfold Level.firstT at ih ⊢
    rw [show List.replicate (k + 2) base = List.replicate (k + 1) base ++ [base] from List.replicate_succ', List.foldl_append, ih]
    simp only [List.foldl_cons, List.foldl_nil, Level.nearB_in base hb]
    split <;> rfl
/-- A step without a peak. -/
theorem calm_step (base : Int) (k : Nat) (g : Int) (d : D) (a w s : Int) (hb : 257 ≤ base ∧ base ≤ 31457280) (h : Calm base k g d) (h4 : d.n = 400 → 0 < k) (hp : (Peak.stepT d.fin d.n w s).1 = none) :
    (stepT d a w s).1 = [] ∧ Calm base k (g + 1) (stepT d a w s).2 := by
  have hn := step_n d a w s
  have h0 := h.n0
  by_cases hl : d.n < 400
  · have hlo := h.lo (by omega)
    unfold stepT
    rw [if_pos hl, hp]
    refine ⟨rfl, by show 0 ≤ d.n + 1; omega, h.cand, fun _ => ⟨?_, hlo.2.1, ?_⟩, fun h9 => ?_, fun l h9 => ?_⟩
    · show (if d.n = 400 then (Level.firstT d.tops, 0) else d.lv) = (0, 0)
      rw [if_neg (by omega)]; exact hlo.1
    · show d.tops ++ (Option.map (fun p => p.2.2.1) (none : Option Pk)).toList = _
      rw [hlo.2.2]; simp
    · have : (400 : Int) < d.n + 1 := h9
      omega
    · have := h.far l h9
      show l.1 + (g + 1) ≤ d.n + 1
      omega
  · unfold stepT
    rw [if_neg hl, hp]
    simp only
    have hbk := back_none { openT d a with fin := (Peak.stepT d.fin d.n w s).2 } h.cand
    rw [hbk]
    refine ⟨rfl, by show 0 ≤ d.n + 1; omega, h.cand, fun h9 => ?_, fun _ => ?_, fun l h9 => ?_⟩
    · have : d.n + 1 ≤ 400 := h9
      omega
    · show ∃ s, (if d.n = 400 then (Level.firstT d.tops, 0) else d.lv) = (s, 0) ∧ base ≤ s ∧ s ≤ 2 * base
      by_cases h9 : d.n = 400
      · rw [if_pos h9, (h.lo (by omega)).2.2, first_same base (by omega) k (h4 h9)]
        exact ⟨base, rfl, by omega, by omega⟩
      · rw [if_neg h9]
        exact h.hi (by omega)
    · have := h.far l h9
      show l.1 + (g + 1) ≤ d.n + 1
      omega
/-- A peak that is learnt from. -/
theorem learn_step (base : Int) (k : Nat) (g : Int) (d : D) (a w s : Int) (h : Calm base k g d) (hl : d.n < 400) (p : Pk) (hp : (Peak.stepT d.fin d.n w s).1 = some p) (ht : p.2.2.1 = base) :
    (stepT d a w s).1 = [] ∧ Calm base (k + 1) (g + 1) (stepT d a w s).2 := by
  have h0 := h.n0
  have hlo := h.lo (by omega)
  unfold stepT
  rw [if_pos hl, hp]
  refine ⟨rfl, by show 0 ≤ d.n + 1; omega, h.cand, fun _ => ⟨?_, hlo.2.1, ?_⟩, fun h9 => ?_, fun l h9 => ?_⟩
  · show (if d.n = 400 then (Level.firstT d.tops, 0) else d.lv) = (0, 0)
    rw [if_neg (by omega)]; exact hlo.1
  · show d.tops ++ (Option.map (fun p => p.2.2.1) (some p)).toList = _
    rw [hlo.2.2]
    show List.replicate k base ++ [p.2.2.1] = _
    rw [ht, List.replicate_succ']
  · have : (400 : Int) < d.n + 1 := h9
    omega
  · have := h.far l h9
    show l.1 + (g + 1) ≤ d.n + 1
    omega
/-- A peak that is a beat. -/
theorem beat_step (base : Int) (k : Nat) (g : Int) (d : D) (a w s : Int) (hb : 257 ≤ base ∧ base ≤ 31457280) (h : Calm base k g d) (hl : 400 < d.n) (p : Pk) (hp : (Peak.stepT d.fin d.n w s).1 = some p) (ht : base ≤ p.2.2.1 ∧ p.2.2.1 ≤ 2 * base) (hg : d.n - p.1 + 72 ≤ g) (j : Int) (hj : p.1 + j = d.n) :
    (stepT d a w s).1.length = 1 ∧ Calm base k (j + 1) (stepT d a w s).2 := by
  have h0 := h.n0
  obtain ⟨sg, hlv, hs1, hs2⟩ := h.hi hl
  obtain ⟨hup, hgo1, hgo2⟩ := Level.above_step base sg p.2.2.1 hb ⟨hs1, hs2⟩ ht
  have hop : (openT d a).lv = (sg, 0) := by
    show (if d.n = 400 then (Level.firstT d.tops, 0) else d.lv) = (sg, 0)
    rw [if_neg (by omega)]; exact hlv
  have hsee : seenT { openT d a with fin := (Peak.stepT d.fin d.n w s).2 } p = (some (tell { openT d a with fin := (Peak.stepT d.fin d.n w s).2 } p false).1, (tell { openT d a with fin := (Peak.stepT d.fin d.n w s).2 } p false).2) := by
    unfold seenT
    have h1 : near { openT d a with fin := (Peak.stepT d.fin d.n w s).2 } p = false := by
      show (match d.last with | none => false | some l => decide (p.1 - l.1 < 40)) = false
      cases hla : d.last with
      | none => rfl
      | some l =>
        have := h.far l hla
        simp only [decide_eq_false_iff_not]; omega
    have h2 : flatter { openT d a with fin := (Peak.stepT d.fin d.n w s).2 } p = false := by
      show (match d.last with | none => false | some l => decide (p.1 - l.1 < 72) && decide (2 * p.2.2.2 < l.2.2.2)) = false
      cases hla : d.last with
      | none => rfl
      | some l =>
        have := h.far l hla
        simp only [Bool.and_eq_false_iff, decide_eq_false_iff_not]
        left; omega
    rw [h1, h2]
    rw [if_neg (by simp), if_pos (show Level.upperT (openT d a).lv < p.2.2.1 by rw [hop]; omega), if_neg (by simp)]
  unfold stepT
  rw [if_neg (by omega), hp]
  simp only
  rw [hsee]
  simp only
  rw [back_none _ rfl]
  refine ⟨rfl, by show 0 ≤ d.n + 1; omega, rfl, fun h9 => ?_, fun _ => ?_, fun l h9 => ?_⟩
  · have : d.n + 1 ≤ 400 := h9
    omega
  · refine ⟨Level.goes sg p.2.2.1 8, ?_, hgo1, hgo2⟩
    show Level.signalT (openT d a).lv [p.2.2.1] = _
    rw [hop]
    unfold Level.signalT
    rw [Level.follow_one, Level.nearB_in sg (by omega), Level.nearB_in p.2.2.1 (by omega)]
    rfl
  · have h9 : some p = some l := h9
    obtain rfl := Option.some.inj h9
    show p.1 + (j + 1) ≤ d.n + 1
    omega
/-- So many steps of one wave, each at its own number: how many beats are told, and how it stands. -/
def goT (d : D) (w s : Int) : Nat → Nat × D
  | 0 => (0, d)
  | k + 1 => ((goT d w s k).1 + (stepT (goT d w s k).2 (goT d w s k).2.n w s).1.length, (stepT (goT d w s k).2 (goT d w s k).2.n w s).2)
theorem go_n (d : D) (w s : Int) : ∀ k, (goT d w s k).2.n = d.n + (k : Int)
  | 0 => by simp [goT]
  | k + 1 => by
    rw [show (goT d w s (k + 1)).2 = (stepT (goT d w s k).2 (goT d w s k).2.n w s).2 from rfl, step_n, go_n d w s k]
    push_cast; omega
/-- Steps of nothing. -/
theorem go_calm (base : Int) (k : Nat) (hb : 257 ≤ base ∧ base ≤ 31457280) (d : D) (g : Int) (h : Calm base k g d) (hf : d.fin = .falls none ∨ d.fin = .falls (some 0)) : ∀ q : Nat, (d.n ≤ 400 → 400 < d.n + (q : Int) → 0 < k) →
    (goT d 0 0 q).1 = 0 ∧ Calm base k (g + (q : Int)) (goT d 0 0 q).2 ∧ ((goT d 0 0 q).2.fin = .falls (some 0) ∨ q = 0 ∧ (goT d 0 0 q).2.fin = d.fin)
  | 0, _ => by
    refine ⟨rfl, ?_, .inr ⟨rfl, rfl⟩⟩
    show Calm base k (g + 0) d
    rw [Int.add_zero]; exact h
  | q + 1, h4 => by
    obtain ⟨h1, h2, h3⟩ := go_calm base k hb d g h hf q (fun h5 h6 => h4 h5 (by push_cast; omega))
    have hn := go_n d 0 0 q
    have hfin : Peak.Same 0 (goT d 0 0 q).2.fin := by
      rcases h3 with h3 | ⟨_, h3⟩
      · rw [h3]; exact .inr rfl
      · rw [h3]
        rcases hf with hf | hf <;> rw [hf]
        · exact .inl rfl
        · exact .inr rfl
    have hp := Peak.same_step 0 (goT d 0 0 q).2.n 0 _ hfin
    obtain ⟨e1, e2⟩ := calm_step base k (g + (q : Int)) (goT d 0 0 q).2 (goT d 0 0 q).2.n 0 0 hb h2 (fun h9 => h4 (by omega) (by push_cast; omega)) (by rw [hp])
    refine ⟨?_, ?_, .inl ?_⟩
    · show (goT d 0 0 q).1 + (stepT _ _ 0 0).1.length = 0
      rw [h1, e1]; rfl
    · rw [show g + ((q + 1 : Nat) : Int) = g + (q : Int) + 1 by push_cast; omega]
      exact e2
    · show (stepT _ _ 0 0).2.fin = _
      rw [step_fin, hp]; rfl
theorem dist_five : Peak.distD 5 = 5 := by decide
/-- A pulse of three steps: it rises, and nothing is told. -/
theorem go_pulse (base : Int) (k : Nat) (hb : 257 ≤ base ∧ base ≤ 31457280) (d : D) (g : Int) (h : Calm base k g d) (hf : d.fin = .falls (some 0)) (top : Int) (ht : base ≤ top ∧ top ≤ 2 * base) (hn : d.n + 3 < 400 ∨ 400 < d.n) :
    (goT d top 5 3).1 = 0 ∧ Calm base k (g + 3) (goT d top 5 3).2 ∧ (goT d top 5 3).2.fin = .rises top d.n 5 := by
  have hs := Peak.sumW_in top (by omega) (by omega)
  have hp1 : Peak.stepT (.falls (some 0)) d.n top 5 = (none, .rises top d.n 5) := by
    have hv : Peak.valley (some 0) top = 0 := by unfold Peak.valley; simp only; rw [if_neg (by omega)]
    unfold Peak.stepT
    simp only [hs, hv, dist_five]
    rw [if_pos (by omega)]
  have hp2 : ∀ m, Peak.stepT (.rises top d.n 5) m top 5 = (none, .rises top d.n 5) := fun m => by
    unfold Peak.stepT
    simp only [hs, dist_five]
    rw [if_neg (by omega), if_neg (by omega)]
    rfl
  have n1 : (goT d top 5 1).2.n = d.n + 1 := go_n d top 5 1
  have n2 : (goT d top 5 2).2.n = d.n + 2 := go_n d top 5 2
  obtain ⟨a1, a2⟩ := calm_step base k g d d.n top 5 hb h (fun _ => by omega) (by rw [hf, hp1])
  have f1 : (goT d top 5 1).2.fin = .rises top d.n 5 := by
    show (stepT d d.n top 5).2.fin = _
    rw [step_fin, hf, hp1]
  obtain ⟨b1, b2⟩ := calm_step base k (g + 1) (goT d top 5 1).2 (goT d top 5 1).2.n top 5 hb a2 (fun _ => by omega) (by rw [f1, hp2])
  have f2 : (goT d top 5 2).2.fin = .rises top d.n 5 := by
    show (stepT (goT d top 5 1).2 _ top 5).2.fin = _
    rw [step_fin, f1, hp2]
  obtain ⟨c1, c2⟩ := calm_step base k (g + 1 + 1) (goT d top 5 2).2 (goT d top 5 2).2.n top 5 hb b2 (fun _ => by omega) (by rw [f2, hp2])
  refine ⟨?_, ?_, ?_⟩
  · show 0 + (stepT d d.n top 5).1.length + (stepT (goT d top 5 1).2 _ top 5).1.length + (stepT (goT d top 5 2).2 _ top 5).1.length = 0
    rw [a1, b1, c1]; rfl
  · rw [show g + 3 = g + 1 + 1 + 1 by omega]
    exact c2
  · show (stepT (goT d top 5 2).2 _ top 5).2.fin = _
    rw [step_fin, f2, hp2]
theorem go_add (d : D) (w s : Int) (m : Nat) : ∀ k, goT d w s (m + k) = ((goT d w s m).1 + (goT (goT d w s m).2 w s k).1, (goT (goT d w s m).2 w s k).2)
  | 0 => by simp [goT]
  | k + 1 => by
    rw [show m + (k + 1) = (m + k) + 1 from rfl]
    show ((goT d w s (m + k)).1 + _, _) = _
    rw [go_add d w s m k]
    simp only [goT]
    rw [Nat.add_assoc]
/-- A pulse, and so many steps of nothing: a beat, if it is seen behind the learning. -/
theorem go_round (base : Int) (k : Nat) (hb : 257 ≤ base ∧ base ≤ 31457280) (d : D) (g : Int) (h : Calm base k g d) (hf : d.fin = .falls (some 0)) (top : Int) (ht : base ≤ top ∧ top ≤ 2 * base) (q : Nat) (hq : 80 ≤ q)
    (hn : d.n + 3 < 400 ∧ top = base ∨ 400 < d.n ∧ 72 ≤ g ∧ 0 < k) :
    (goT d top 5 3).1 = 0 ∧ (goT (goT d top 5 3).2 0 0 q).1 = (if 400 ≤ d.n + 3 then 1 else 0) ∧ (∃ k' g', 0 < k' ∧ 72 ≤ g' ∧ Calm base k' g' (goT (goT d top 5 3).2 0 0 q).2) ∧ (goT (goT d top 5 3).2 0 0 q).2.fin = .falls (some 0) ∧ (goT (goT d top 5 3).2 0 0 q).2.n = d.n + 3 + (q : Int) := by
  obtain ⟨h1, h2, h3⟩ := go_pulse base k hb d g h hf top ht (by omega)
  have hn3 : (goT d top 5 3).2.n = d.n + 3 := go_n d top 5 3
  refine ⟨h1, ?_⟩
  generalize (goT d top 5 3).2 = e at *
  have h0 := h.n0
  have hp : Peak.stepT e.fin e.n 0 0 = (some (d.n, e.n, top, 5), .falls (some 0)) := by
    rw [h3]
    have h9 : Peak.sumW 0 = 0 := rfl
    have h8 : Peak.distD 0 = 0 := by decide
    unfold Peak.stepT
    simp only [h9, h8]
    rw [if_neg (by omega), if_pos (by omega)]
    rfl
  have hfin : (stepT e e.n 0 0).2.fin = .falls (some 0) := by rw [step_fin, hp]
  have hn1 : (stepT e e.n 0 0).2.n = d.n + 4 := by rw [step_n, hn3]; omega
  obtain ⟨m, rfl⟩ : ∃ m, q = 1 + m := ⟨q - 1, by omega⟩
  rw [go_add e 0 0 1 m]
  have hone : (goT e 0 0 1).2 = (stepT e e.n 0 0).2 := rfl
  have hone1 : (goT e 0 0 1).1 = (stepT e e.n 0 0).1.length := by show 0 + (stepT e e.n 0 0).1.length = _; rw [Nat.zero_add]
  rw [hone, hone1]
  have hgn := go_n (stepT e e.n 0 0).2 0 0 m
  rcases hn with ⟨hn, rfl⟩ | ⟨hn, hg, hk⟩
  · obtain ⟨e1, e2⟩ := learn_step top k (g + 3) e e.n 0 0 h2 (by omega) _ (by rw [hp]) rfl
    have hno : ∀ l, (stepT e e.n 0 0).2.last = some l → False := fun l hl => by
      have := (e2.lo (by omega)).2.1
      rw [this] at hl; cases hl
    have e3 : Calm top (k + 1) 72 (stepT e e.n 0 0).2 := ⟨e2.n0, e2.cand, e2.lo, e2.hi, fun l hl => (hno l hl).elim⟩
    obtain ⟨f1, f2, f3⟩ := go_calm top (k + 1) hb _ 72 e3 (.inr hfin) m (fun _ _ => by omega)
    refine ⟨?_, ⟨k + 1, 72 + (m : Int), by omega, by omega, f2⟩, ?_, ?_⟩
    · show (stepT e e.n 0 0).1.length + _ = _
      rw [e1, f1, if_neg (by omega)]; rfl
    · rcases f3 with f3 | ⟨_, f3⟩
      · exact f3
      · rw [f3]; exact hfin
    · show (goT _ 0 0 m).2.n = _
      rw [hgn, hn1]; push_cast; omega
  · obtain ⟨e1, e2⟩ := beat_step base k (g + 3) e e.n 0 0 hb h2 (by omega) _ (by rw [hp]) ht (by show e.n - d.n + 72 ≤ g + 3; omega) 3 (by show d.n + 3 = e.n; omega)
    obtain ⟨f1, f2, f3⟩ := go_calm base k hb _ _ e2 (.inr hfin) m (fun _ _ => hk)
    refine ⟨?_, ⟨k, 3 + 1 + (m : Int), hk, by omega, f2⟩, ?_, ?_⟩
    · show (stepT e e.n 0 0).1.length + _ = _
      rw [e1, f1, if_pos (by omega)]
    · rcases f3 with f3 | ⟨_, f3⟩
      · exact f3
      · rw [f3]; exact hfin
    · show (goT _ 0 0 m).2.n = _
      rw [hgn, hn1]; push_cast; omega
/-- The steps of nothing with which it begins. -/
theorem go_begin (base : Int) (hb : 257 ≤ base ∧ base ≤ 31457280) : (goT noD 0 0 80).1 = 0 ∧ Calm base 0 80 (goT noD 0 0 80).2 ∧ (goT noD 0 0 80).2.fin = .falls (some 0) ∧ (goT noD 0 0 80).2.n = 80 := by
  have hn := go_n noD 0 0 80
  obtain ⟨h1, h2, h3⟩ := go_calm base 0 hb noD 0 (calm_no base 0) (.inl rfl) 80 (fun _ h => by exact absurd h (by decide))
  refine ⟨h1, ?_, ?_, ?_⟩
  · simpa using h2
  · rcases h3 with h3 | ⟨h3, _⟩
    · exact h3
    · cases h3
  · rw [hn]; rfl
end Go.Proofs.Ytnoppoimahfknaa.Qrs
end
section
/- A block of memory that is known whole, and stays so. -/
set_option linter.unusedVariables false
namespace Go.Proofs.Ytnoppoimahfknaa
open Go.RowKit

/-- Block b of the world is just these cells, of this element type, none of them frozen. -/
def Has (w : World) (b : Nat) (t : TypeId) (cs : Array Value) : Prop := w.heap[b]? = some (.cells cs t (0, 0))
section
variable {w w' : World} {b : Nat} {t : TypeId} {cs : Array Value}
theorem Has.lt (h : Has w b t cs) : b < w.heap.size := by
  rcases Nat.lt_or_ge b w.heap.size with hl | hg
  · exact hl
  · unfold Has at h; rw [Array.getElem?_eq_none hg] at h; cases h
theorem Has.cell (h : Has w b t cs) (i : Nat) : w.cell? ⟨b, i, none⟩ = cs[i]? := cell_of_row w b i cs t (0, 0) h
theorem Has.frozen (h : Has w b t cs) (i : Nat) : w.frozen? ⟨b, i, none⟩ = false := by
  unfold Has at h; simp [World.frozen?, h]
theorem Has.new (w : World) (t : TypeId) (cs : Array Value) : Has (w.alloc (.cells cs t)) w.heap.size t cs := heap_alloc_new w _
theorem Has.drew (h : Has w b t cs) : Has w.drew b t cs := h
theorem Has.drewN (h : Has w b t cs) (n : Nat) : Has (w.drewN n) b t cs := h
theorem Has.alloc (h : Has w b t cs) (o : Obj) : Has (w.alloc o) b t cs := (Below.heap_alloc w o b h.lt).trans h
theorem Has.set_ (h : Has w b t cs) (i : Nat) (u : Value) : Has (w.setCell ⟨b, i, none⟩ u) b t (cs.setIfInBounds i u) := by
  unfold Has at h ⊢
  simp [World.setCell, Array.getElem?_modify, h]
theorem Has.far (h : Has w b t cs) {p : Addr} (hp : b ≠ p.block) (u : Value) : Has (w.setCell p u) b t cs := (Below.heap_setCell w p u b hp).trans h
theorem Has.below {B : Nat} (h : Has w b t cs) (hb : Below B w w') (hg : b < B) : Has w' b t cs := (hb.block b hg).trans h
theorem Has.two {u v : Value} (h : Has w b t #[u, v]) : w.cell? ⟨b, 0, none⟩ = some u ∧ w.cell? ⟨b, 1, none⟩ = some v ∧ w.frozen? ⟨b, 0, none⟩ = false ∧ w.frozen? ⟨b, 1, none⟩ = false :=
  ⟨h.cell 0, h.cell 1, h.frozen 0, h.frozen 1⟩
theorem Has.put2 {u v : Value} (h : Has w b t #[u, v]) (x y : Value) : Has ((w.setCell ⟨b, 0, none⟩ x).setCell ⟨b, 1, none⟩ y) b t #[x, y] := by
  have := (h.set_ 0 x).set_ 1 y
  simpa using this
theorem Has.far2 (h : Has w b t cs) {c : Nat} (hp : b ≠ c) (x y : Value) : Has ((w.setCell ⟨c, 0, none⟩ x).setCell ⟨c, 1, none⟩ y) b t cs :=
  (h.far (p := ⟨c, 0, none⟩) hp x).far (p := ⟨c, 1, none⟩) hp y
theorem below_put2 {B : Nat} (h : Below B w w') {c : Nat} (hc : B ≤ c) (x y : Value) : Below B w ((w'.setCell ⟨c, 0, none⟩ x).setCell ⟨c, 1, none⟩ y) :=
  (h.setCell (p := ⟨c, 0, none⟩) hc x).setCell (p := ⟨c, 1, none⟩) hc y
end
end Go.Proofs.Ytnoppoimahfknaa
end
section
/- The chapter's example of layer 19, by the machine. -/
set_option linter.unusedVariables false
namespace Go.Proofs.Ytnoppoimahfknaa.Qrs
open Go.RowKit
/-- The wave of step i: its sum, and its slope. -/
def liveW (i : Nat) : Int × Int := if 50 ≤ i % 100 ∧ i % 100 < 55 then (1000, 9) else (0, 0)
/-- So many beats, the last one, and how it stands; one more step. -/
def liveS (i : Nat) (s : Int × Bt × D) : Int × Bt × D := (s.1 + ((stepT s.2.2 (i : Int) (liveW i).1 (liveW i).2).1.length : Int), ((stepT s.2.2 (i : Int) (liveW i).1 (liveW i).2).1.getLast?).getD s.2.1, (stepT s.2.2 (i : Int) (liveW i).1 (liveW i).2).2)
def liveT : Nat → Int × Bt × D
  | 0 => (0, (0, 0, 0, false), noD)
  | k + 1 => liveS k (liveT k)
/-- From one step on. -/
def liveF (i : Nat) (s : Int × Bt × D) : Nat → Int × Bt × D
  | 0 => s
  | k + 1 => liveS (i + k) (liveF i s k)
theorem live_add (i : Nat) : ∀ k, liveT (i + k) = liveF i (liveT i) k
  | 0 => rfl
  | k + 1 => by
    show liveS (i + k) (liveT (i + k)) = liveS (i + k) (liveF i (liveT i) k)
    rw [live_add i k]
set_option maxRecDepth 100000 in
theorem live_100 : liveF 0 (0, (0, 0, 0, false), ⟨0, 0, .falls none, [], (0, 0), [], none, none⟩) 100 = (0, (0, 0, 0, false), ⟨100, 0, .falls (some 0), [1000], (0, 0), [], none, none⟩) := by kernel_rfl
set_option maxRecDepth 100000 in
theorem live_200 : liveF 100 (0, (0, 0, 0, false), ⟨100, 0, .falls (some 0), [1000], (0, 0), [], none, none⟩) 100 = (0, (0, 0, 0, false), ⟨200, 0, .falls (some 0), [1000, 1000], (0, 0), [], none, none⟩) := by kernel_rfl
set_option maxRecDepth 100000 in
theorem live_300 : liveF 200 (0, (0, 0, 0, false), ⟨200, 0, .falls (some 0), [1000, 1000], (0, 0), [], none, none⟩) 100 = (0, (0, 0, 0, false), ⟨300, 0, .falls (some 0), [1000, 1000, 1000], (0, 0), [], none, none⟩) := by kernel_rfl
set_option maxRecDepth 100000 in
theorem live_400 : liveF 300 (0, (0, 0, 0, false), ⟨300, 0, .falls (some 0), [1000, 1000, 1000], (0, 0), [], none, none⟩) 100 = (0, (0, 0, 0, false), ⟨400, 0, .falls (some 0), [1000, 1000, 1000, 1000], (0, 0), [], none, none⟩) := by kernel_rfl
set_option maxRecDepth 100000 in
theorem live_500 : liveF 400 (0, (0, 0, 0, false), ⟨400, 0, .falls (some 0), [1000, 1000, 1000, 1000], (0, 0), [], none, none⟩) 100 = (1, (412, 455, 0, false), ⟨500, 0, .falls (some 0), [1000, 1000, 1000, 1000], (1000, 0), [], some (450, 455, 1000, 9), none⟩) := by kernel_rfl
set_option maxRecDepth 100000 in
theorem live_600 : liveF 500 (1, (412, 455, 0, false), ⟨500, 0, .falls (some 0), [1000, 1000, 1000, 1000], (1000, 0), [], some (450, 455, 1000, 9), none⟩) 100 = (2, (512, 555, 100, false), ⟨600, 0, .falls (some 0), [1000, 1000, 1000, 1000], (1000, 0), [100], some (550, 555, 1000, 9), none⟩) := by kernel_rfl
set_option maxRecDepth 100000 in
theorem live_700 : liveF 600 (2, (512, 555, 100, false), ⟨600, 0, .falls (some 0), [1000, 1000, 1000, 1000], (1000, 0), [100], some (550, 555, 1000, 9), none⟩) 100 = (3, (612, 655, 100, false), ⟨700, 0, .falls (some 0), [1000, 1000, 1000, 1000], (1000, 0), [100, 100], some (650, 655, 1000, 9), none⟩) := by kernel_rfl
set_option maxRecDepth 100000 in
theorem live_800 : liveF 700 (3, (612, 655, 100, false), ⟨700, 0, .falls (some 0), [1000, 1000, 1000, 1000], (1000, 0), [100, 100], some (650, 655, 1000, 9), none⟩) 100 = (4, (712, 755, 100, false), ⟨800, 0, .falls (some 0), [1000, 1000, 1000, 1000], (1000, 0), [100, 100, 100], some (750, 755, 1000, 9), none⟩) := by kernel_rfl
set_option maxRecDepth 100000 in
theorem live_900 : liveF 800 (4, (712, 755, 100, false), ⟨800, 0, .falls (some 0), [1000, 1000, 1000, 1000], (1000, 0), [100, 100, 100], some (750, 755, 1000, 9), none⟩) 100 = (5, (812, 855, 100, false), ⟨900, 0, .falls (some 0), [1000, 1000, 1000, 1000], (1000, 0), [100, 100, 100, 100], some (850, 855, 1000, 9), none⟩) := by kernel_rfl
set_option maxRecDepth 100000 in
theorem live_1000 : liveF 900 (5, (812, 855, 100, false), ⟨900, 0, .falls (some 0), [1000, 1000, 1000, 1000], (1000, 0), [100, 100, 100, 100], some (850, 855, 1000, 9), none⟩) 100 = (6, (912, 955, 100, false), ⟨1000, 0, .falls (some 0), [1000, 1000, 1000, 1000], (1000, 0), [100, 100, 100, 100, 100], some (950, 955, 1000, 9), none⟩) := by kernel_rfl
theorem at_100 : liveT 100 = (0, (0, 0, 0, false), ⟨100, 0, .falls (some 0), [1000], (0, 0), [], none, none⟩) := by
  rw [show 100 = 0 + 100 from rfl, live_add 0 100, show liveT 0 = (0, (0, 0, 0, false), ⟨0, 0, .falls none, [], (0, 0), [], none, none⟩) from rfl, live_100]
theorem at_200 : liveT 200 = (0, (0, 0, 0, false), ⟨200, 0, .falls (some 0), [1000, 1000], (0, 0), [], none, none⟩) := by
  rw [show 200 = 100 + 100 from rfl, live_add 100 100, at_100, live_200]
theorem at_300 : liveT 300 = (0, (0, 0, 0, false), ⟨300, 0, .falls (some 0), [1000, 1000, 1000], (0, 0), [], none, none⟩) := by
  rw [show 300 = 200 + 100 from rfl, live_add 200 100, at_200, live_300]
theorem at_400 : liveT 400 = (0, (0, 0, 0, false), ⟨400, 0, .falls (some 0), [1000, 1000, 1000, 1000], (0, 0), [], none, none⟩) := by
  rw [show 400 = 300 + 100 from rfl, live_add 300 100, at_300, live_400]
theorem at_500 : liveT 500 = (1, (412, 455, 0, false), ⟨500, 0, .falls (some 0), [1000, 1000, 1000, 1000], (1000, 0), [], some (450, 455, 1000, 9), none⟩) := by
  rw [show 500 = 400 + 100 from rfl, live_add 400 100, at_400, live_500]
theorem at_600 : liveT 600 = (2, (512, 555, 100, false), ⟨600, 0, .falls (some 0), [1000, 1000, 1000, 1000], (1000, 0), [100], some (550, 555, 1000, 9), none⟩) := by
  rw [show 600 = 500 + 100 from rfl, live_add 500 100, at_500, live_600]
theorem at_700 : liveT 700 = (3, (612, 655, 100, false), ⟨700, 0, .falls (some 0), [1000, 1000, 1000, 1000], (1000, 0), [100, 100], some (650, 655, 1000, 9), none⟩) := by
  rw [show 700 = 600 + 100 from rfl, live_add 600 100, at_600, live_700]
theorem at_800 : liveT 800 = (4, (712, 755, 100, false), ⟨800, 0, .falls (some 0), [1000, 1000, 1000, 1000], (1000, 0), [100, 100, 100], some (750, 755, 1000, 9), none⟩) := by
  rw [show 800 = 700 + 100 from rfl, live_add 700 100, at_700, live_800]
theorem at_900 : liveT 900 = (5, (812, 855, 100, false), ⟨900, 0, .falls (some 0), [1000, 1000, 1000, 1000], (1000, 0), [100, 100, 100, 100], some (850, 855, 1000, 9), none⟩) := by
  rw [show 900 = 800 + 100 from rfl, live_add 800 100, at_800, live_900]
theorem at_1000 : liveT 1000 = (6, (912, 955, 100, false), ⟨1000, 0, .falls (some 0), [1000, 1000, 1000, 1000], (1000, 0), [100, 100, 100, 100, 100], some (950, 955, 1000, 9), none⟩) := by
  rw [show 1000 = 900 + 100 from rfl, live_add 900 100, at_900, live_1000]
theorem live_out : (liveT 1000).1 = 6 ∧ (liveT 1000).2.1 = (912, 955, 100, false) := by rw [at_1000]; exact ⟨rfl, rfl⟩
end Go.Proofs.Ytnoppoimahfknaa.Qrs
end
section
/- What came k steps ago, of a list that has the last value first; sums modulo 2^64. -/
namespace Go.Proofs.Ytnoppoimahfknaa
open Go.RowKit
/-- What came k steps ago (the last value first), 0 of any other k. -/
def ago (h : List Int) (k : Int) : Int := if k < 0 then 0 else h.getD k.toNat 0
/-- .. of a line that looks back so far. -/
def agoTo (most : Nat) (h : List Int) (k : Int) : Int := if (most : Int) < k then 0 else ago h k
theorem ago_nat (h : List Int) (k : Nat) : ago h k = h.getD k 0 := by simp [ago, show ¬ (k : Int) < 0 by omega]
theorem ago_neg (h : List Int) (k : Int) (hk : k < 0) : ago h k = 0 := by simp [ago, hk]
theorem ago_far (h : List Int) (k : Int) (hk : (h.length : Int) ≤ k) : ago h k = 0 := by
  unfold ago
  split
  · rfl
  · rw [List.getD_eq_getElem?_getD, List.getElem?_eq_none (by omega)]; rfl
theorem agoTo_in (most : Nat) (h : List Int) (k : Nat) (hk : k ≤ most) : agoTo most h k = h.getD k 0 := by
  unfold agoTo
  rw [if_neg (by omega), ago_nat]
/-- A line's things behind one more. -/
theorem kept_push (most : Nat) (h : List Int) (v : Int) :
    ((v :: h).take (most + 1)).reverse = (if most < (h.take (most + 1)).reverse.length then (h.take (most + 1)).reverse.drop 1 else (h.take (most + 1)).reverse) ++ [v] := by
  rw [List.take_succ_cons, List.reverse_cons]
  congr 1
  rw [List.length_reverse, List.length_take]
  split
  · rename_i hl
    have hl2 : most < h.length := by omega
    rw [List.take_succ_eq_append_getElem hl2, List.reverse_append]
    simp
  · rename_i hl
    rw [List.take_of_length_le (by omega), List.take_of_length_le (by omega)]
theorem kept_len (most : Nat) (h : List Int) : (h.take (most + 1)).reverse.length ≤ most + 1 := by
  rw [List.length_reverse, List.length_take]; omega
/-- What a line's ring has at a place from behind. -/
theorem kept_back (most : Nat) (h : List Int) (k : Nat) (hk : k < (h.take (most + 1)).reverse.length) :
    (h.take (most + 1)).reverse.getD ((h.take (most + 1)).reverse.length - 1 - k) 0 = agoTo most h k := by
  rw [List.length_reverse] at hk ⊢
  have hk2 := hk
  rw [List.length_take] at hk2
  rw [agoTo_in most h k (by omega), List.getD_eq_getElem?_getD, List.getElem?_reverse (by omega), show (h.take (most + 1)).length - 1 - ((h.take (most + 1)).length - 1 - k) = k by omega, List.getElem?_take_of_lt (by omega),
    List.getD_eq_getElem?_getD]
theorem kept_far (most : Nat) (h : List Int) (k : Int) (hk : k < 0 ∨ ((h.take (most + 1)).reverse.length : Int) ≤ k) : agoTo most h k = 0 := by
  rw [List.length_reverse, List.length_take] at hk
  unfold agoTo
  split
  · rfl
  · rcases hk with hk | hk
    · exact ago_neg h k hk
    · exact ago_far h k (by omega)
/-- The sum of the last values of a window that looks back so far. -/
def winSum (most : Nat) (h : List Int) : Int := (h.take (most + 1)).sum
theorem winSum_push (most : Nat) (h : List Int) (v : Int) : winSum most (v :: h) = winSum most h + v - h.getD most 0 := by
  unfold winSum
  rw [List.take_succ_cons, List.sum_cons]
  rcases Nat.lt_or_ge most h.length with hl | hl
  · rw [List.take_succ_eq_append_getElem hl, List.sum_append, List.getD_eq_getElem?_getD, List.getElem?_eq_getElem hl]
    simp
    omega
  · rw [List.take_of_length_le hl, List.take_of_length_le (by omega), List.getD_eq_getElem?_getD, List.getElem?_eq_none hl]
    simp
    omega
theorem winSum_nil (most : Nat) : winSum most [] = 0 := by simp [winSum]
theorem wrap64_idem (a : Int) : wrap64 (wrap64 a) = wrap64 a := by unfold wrap64; omega
theorem wrap64_add (a b : Int) : wrap64 (wrap64 a + b) = wrap64 (a + b) := by unfold wrap64; omega
theorem wrap64_sum (S v a : Int) : wrap64 (wrap64 S + wrap64 (v - a)) = wrap64 (S + v - a) := by unfold wrap64; omega
end Go.Proofs.Ytnoppoimahfknaa
end
section
/- What a law's walk is told of a slice of whole numbers that came in; that laws end. -/
set_option linter.unusedVariables false
namespace Go.Proofs.Ytnoppoimahfknaa
open Go.RowKit

/-- A slice of whole numbers that came in: nil, or a row of 'cap' cells, the numbers 'zs', of which the first 'len' are its elements. -/
def IsRow (k : IntKind) (w : World) (a : Option Addr) (len cap : Nat) (zs : List Int) : Prop :=
  (a = none ∧ len = 0 ∧ cap = 0 ∧ zs = []) ∨
  ∃ x, a = some x ∧ len ≤ cap ∧ cap ≤ maxLen ∧ zs.length = cap ∧ (∀ i, i < zs.length → w.cell? (x.add i) = some (.int k (zs.getD i 0))) ∧ ∀ n ∈ zs, (Lit.int k n).wf = true
theorem isRow_some {k : IntKind} {w : World} {x : Addr} {len cap : Nat} {zs : List Int} (hl : len ≤ cap) (hm : cap ≤ maxLen) (hz : zs.length = cap)
    (hc : ∀ i, i < zs.length → w.cell? (x.add i) = some (.int k (zs.getD i 0))) (hw : ∀ n ∈ zs, (Lit.int k n).wf = true) : IsRow k w (some x) len cap zs :=
  .inr ⟨x, rfl, hl, hm, hz, hc, hw⟩

/-- A slice of strings that came in: nil, or a row of 'cap' cells, the strings 'ss'. -/
def IsTexts (w : World) (a : Option Addr) (len cap : Nat) (ss : List ByteArray) : Prop :=
  (a = none ∧ len = 0 ∧ cap = 0 ∧ ss = []) ∨ ∃ x, a = some x ∧ len ≤ cap ∧ cap ≤ maxLen ∧ ss.length = cap ∧ ∀ i, i < ss.length → w.cell? (x.add i) = some (.string (ss.getD i ByteArray.empty))
/-- A slice of slices of whole numbers that came in. -/
def IsRows (k : IntKind) (w : World) (a : Option Addr) (len cap : Nat) : Prop :=
  (a = none ∧ len = 0 ∧ cap = 0) ∨ ∃ x, a = some x ∧ len ≤ cap ∧ cap ≤ maxLen ∧ ∀ r, r < cap → ∃ A L C Z, w.cell? (x.add r) = some (.slice A L C) ∧ IsRow k w A L C Z
theorem isRows_some {k : IntKind} {w : World} {x : Addr} {len cap : Nat} {A : Nat → Option Addr} {L C : Nat → Nat} {Z : Nat → List Int} (hl : len ≤ cap) (hm : cap ≤ maxLen)
    (h : ∀ r, r < cap → w.cell? (x.add r) = some (.slice (A r) (L r) (C r)) ∧ L r ≤ C r ∧ C r ≤ maxLen ∧ (Z r).length = C r ∧ (∀ n ∈ Z r, (Lit.int k n).wf = true) ∧ (A r = none → C r = 0) ∧
        ∀ a', A r = some a' → 0 ≤ a'.block ∧ ∀ c, c < C r → w.cell? (a'.add c) = some (.int k ((Z r).getD c 0))) : IsRows k w (some x) len cap := by
  refine .inr ⟨x, rfl, hl, hm, fun r hr => ?_⟩
  obtain ⟨h1, h2, h3, h4, h5, h6, h7⟩ := h r hr
  refine ⟨_, _, _, Z r, h1, ?_⟩
  cases hA : A r with
  | none =>
    have := h6 hA
    exact .inl ⟨rfl, by omega, by omega, List.eq_nil_of_length_eq_zero (by omega)⟩
  | some y => exact isRow_some h2 h3 h4 (fun i hi => (h7 y hA).2 i (by omega)) h5
end Go.Proofs.Ytnoppoimahfknaa
end
section
/- Two blocks may have turned, and all else that was there is as it was. -/
set_option linter.unusedVariables false
namespace Go.Proofs.Ytnoppoimahfknaa
open Go.RowKit
theorem block_add (a : Addr) (n : Nat) : (a.add n).block = a.block := by unfold Addr.add; split <;> rfl
/-- Of what was there, only blocks b and g may have turned. -/
structure Turned (b g : Nat) (w w' : World) : Prop where
  os : w'.os = w.os
  tape : w'.tape = w.tape
  output : w'.output = w.output
  size : w.heap.size ≤ w'.heap.size
  block : ∀ k, k < w.heap.size → k ≠ b → k ≠ g → w'.heap[k]? = w.heap[k]?
section
variable {b g : Nat} {w w' a c : World}
theorem Turned.refl (b g : Nat) (w : World) : Turned b g w w := ⟨rfl, rfl, rfl, Nat.le_refl _, fun _ _ _ _ => rfl⟩
theorem Turned.trans (h : Turned b g a w) (k : Turned b g w c) : Turned b g a c :=
  ⟨k.os.trans h.os, k.tape.trans h.tape, k.output.trans h.output, Nat.le_trans h.size k.size, fun i hi h1 h2 => (k.block i (Nat.lt_of_lt_of_le hi h.size) h1 h2).trans (h.block i hi h1 h2)⟩
theorem Turned.drew (h : Turned b g a w) : Turned b g a w.drew := ⟨h.os, h.tape, h.output, h.size, h.block⟩
theorem Turned.drewN (h : Turned b g a w) (n : Nat) : Turned b g a (w.drewN n) := ⟨h.os, h.tape, h.output, h.size, h.block⟩
theorem Turned.like (h : Turned b g a w) (h1 : w'.os = w.os) (h2 : w'.tape = w.tape) (h3 : w'.output = w.output) (h4 : w'.heap = w.heap) : Turned b g a w' :=
  ⟨h1.trans h.os, h2.trans h.tape, h3.trans h.output, by rw [h4]; exact h.size, fun k hk e1 e2 => by rw [h4]; exact h.block k hk e1 e2⟩
theorem Turned.alloc (h : Turned b g a w) (o : Obj) : Turned b g a (w.alloc o) :=
  h.trans ⟨rfl, rfl, rfl, by simp, fun k hk _ _ => Below.heap_alloc _ _ _ hk⟩
theorem Turned.setCell (h : Turned b g a w) {p : Addr} (hp : p.block = b ∨ p.block = g ∨ a.heap.size ≤ p.block) (u : Value) : Turned b g a (w.setCell p u) :=
  ⟨h.os, h.tape, h.output, by simpa [World.setCell] using h.size, fun k hk h1 h2 => (Below.heap_setCell w p u k (by
    rcases hp with hp | hp | hp <;> omega)).trans (h.block k hk h1 h2)⟩
theorem Turned.of_below (h : Below a.heap.size a w) : Turned b g a w := ⟨h.os, h.tape, h.output, h.size, fun k hk _ _ => h.block k hk⟩
theorem Turned.below {B : Nat} (h : Turned b g a w) (hB : B ≤ a.heap.size) (h1 : B ≤ b) (h2 : B ≤ g) : Below B a w :=
  ⟨h.os, h.tape, h.output, h.size, fun k hk => h.block k (by omega) (by omega) (by omega)⟩
theorem Turned.cell (h : Turned b g a w) {p : Addr} (hl : p.block < a.heap.size) (h1 : p.block ≠ b) (h2 : p.block ≠ g) : w.cell? p = a.cell? p := World.cell?_of_block (w := a) (h.block p.block hl h1 h2)
theorem Turned.frozen (h : Turned b g a w) {p : Addr} (hl : p.block < a.heap.size) (h1 : p.block ≠ b) (h2 : p.block ≠ g) : w.frozen? p = a.frozen? p := World.frozen?_of_block (w := a) (h.block p.block hl h1 h2)
theorem Turned.has (h : Turned b g a w) {i : Nat} {t : TypeId} {cs : Array Value} (hh : Has a i t cs) (h1 : i ≠ b) (h2 : i ≠ g) : Has w i t cs := (h.block i hh.lt h1 h2).trans hh
theorem Turned.grown {row : Option Nat} (h : Turned b g a w) (hg : w.grownBy w' row) (hr : ∀ k, row = some k → k = b ∨ k = g ∨ a.heap.size ≤ k) : Turned b g a w' :=
  ⟨hg.os.trans h.os, hg.tape.trans h.tape, hg.output.trans h.output, Nat.le_trans h.size hg.size, fun k hk h1 h2 => (hg.block k (Nat.lt_of_lt_of_le hk h.size) (fun e => by have := hr k e.symm; omega)).trans (h.block k hk h1 h2)⟩
theorem below_drewN {B : Nat} (h : Below B a w) (n : Nat) : Below B a (w.drewN n) := ⟨h.os, h.tape, h.output, h.size, h.block⟩
theorem below_turned {B : Nat} (h : Below B a w) (k : Turned b g w c) (hB : B ≤ w.heap.size) (h1 : B ≤ b) (h2 : B ≤ g) : Below B a c := h.trans (k.below hB h1 h2)
end
end Go.Proofs.Ytnoppoimahfknaa
end
section
/- Some blocks may have turned, and all else that was there is as it was; rows of a call's own over such turns. -/
set_option linter.unusedVariables false
namespace Go.Proofs.Ytnoppoimahfknaa
open Go.RowKit
/-- Of what was there, only the blocks of S may have turned. -/
structure Kept (S : List Nat) (w w' : World) : Prop where
  os : w'.os = w.os
  tape : w'.tape = w.tape
  output : w'.output = w.output
  size : w.heap.size ≤ w'.heap.size
  block : ∀ k, k < w.heap.size → k ∉ S → w'.heap[k]? = w.heap[k]?
section
variable {S T : List Nat} {w w' a c : World}
theorem Kept.refl (S : List Nat) (w : World) : Kept S w w := ⟨rfl, rfl, rfl, Nat.le_refl _, fun _ _ _ => rfl⟩
theorem Kept.trans (h : Kept S a w) (k : Kept S w c) : Kept S a c :=
  ⟨k.os.trans h.os, k.tape.trans h.tape, k.output.trans h.output, Nat.le_trans h.size k.size, fun i hi h1 => (k.block i (Nat.lt_of_lt_of_le hi h.size) h1).trans (h.block i hi h1)⟩
theorem Kept.wide (h : Kept S a w) (hs : ∀ k ∈ S, k < a.heap.size → k ∈ T) : Kept T a w := ⟨h.os, h.tape, h.output, h.size, fun k hk h1 => h.block k hk fun h2 => h1 (hs k h2 hk)⟩
theorem Kept.drewN (h : Kept S a w) (n : Nat) : Kept S a (w.drewN n) := ⟨h.os, h.tape, h.output, h.size, h.block⟩
theorem Kept.like (h : Kept S a w) (h1 : w'.os = w.os) (h2 : w'.tape = w.tape) (h3 : w'.output = w.output) (h4 : w'.heap = w.heap) : Kept S a w' :=
  ⟨h1.trans h.os, h2.trans h.tape, h3.trans h.output, by rw [h4]; exact h.size, fun k hk e => by rw [h4]; exact h.block k hk e⟩
theorem Kept.alloc (h : Kept S a w) (o : Obj) : Kept S a (w.alloc o) :=
  h.trans ⟨rfl, rfl, rfl, by simp, fun k hk _ => Below.heap_alloc _ _ _ hk⟩
theorem Kept.setCell (h : Kept S a w) {p : Addr} (hp : p.block ∈ S ∨ a.heap.size ≤ p.block) (u : Value) : Kept S a (w.setCell p u) :=
  ⟨h.os, h.tape, h.output, by simpa [World.setCell] using h.size, fun k hk h1 => (Below.heap_setCell w p u k (by
    rcases hp with hp | hp
    · rintro rfl; exact h1 hp
    · omega)).trans (h.block k hk h1)⟩
theorem Kept.of_turned {b g : Nat} (h : Turned b g a w) : Kept [b, g] a w := ⟨h.os, h.tape, h.output, h.size, fun k hk e => h.block k hk (fun e1 => e (by simp [e1])) (fun e1 => e (by simp [e1]))⟩
theorem Kept.of_below (h : Below a.heap.size a w) : Kept S a w := ⟨h.os, h.tape, h.output, h.size, fun k hk _ => h.block k hk⟩
theorem Kept.below {B : Nat} (h : Kept S a w) (hB : B ≤ a.heap.size) (hs : ∀ k ∈ S, B ≤ k) : Below B a w :=
  ⟨h.os, h.tape, h.output, h.size, fun k hk => h.block k (by omega) fun e => by have := hs k e; omega⟩
theorem Kept.cell (h : Kept S a w) {p : Addr} (hl : p.block < a.heap.size) (h1 : p.block ∉ S) : w.cell? p = a.cell? p := World.cell?_of_block (w := a) (h.block p.block hl h1)
theorem Kept.frozen (h : Kept S a w) {p : Addr} (hl : p.block < a.heap.size) (h1 : p.block ∉ S) : w.frozen? p = a.frozen? p := World.frozen?_of_block (w := a) (h.block p.block hl h1)
theorem Kept.has (h : Kept S a w) {i : Nat} {t : TypeId} {cs : Array Value} (hh : Has a i t cs) (h1 : i ∉ S) : Has w i t cs := (h.block i hh.lt h1).trans hh
theorem Kept.grown {row : Option Nat} (h : Kept S a w) (hg : w.grownBy w' row) (hr : ∀ k, row = some k → k ∈ S ∨ a.heap.size ≤ k) : Kept S a w' :=
  ⟨hg.os.trans h.os, hg.tape.trans h.tape, hg.output.trans h.output, Nat.le_trans h.size hg.size, fun k hk h1 => (hg.block k (Nat.lt_of_lt_of_le hk h.size) (fun e => by
    rcases hr k e.symm with h2 | h2
    · exact h1 h2
    · omega)).trans (h.block k hk h1)⟩
theorem below_kept {B : Nat} (h : Below B a w) (k : Kept S w c) (hB : B ≤ w.heap.size) (hs : ∀ k ∈ S, B ≤ k) : Below B a c := h.trans (k.below hB hs)
theorem own_kept {base : Nat} {e : TypeId} {size n : Nat} {v : Value} {xs : List Value} (h : w.ownsRow base e size v n xs) (ht : Kept S w w') (hs : ∀ k ∈ S, k < base) : w'.ownsRow base e size v n xs := by
  obtain ⟨h1, h2⟩ := h
  refine ⟨h1, ?_⟩
  rcases h2 with h2 | ⟨k, cap, cur, rfl, hk, hh, h3⟩
  · exact .inl h2
  · exact .inr ⟨k, cap, cur, rfl, hk, (ht.block k (Has.lt (w := w) hh) (fun e => by have := hs k e; omega)).trans hh, h3⟩
theorem own_block {base : Nat} {e : TypeId} {size n : Nat} {v : Value} {xs : List Value} (h : w.ownsRow base e size v n xs) : ∀ k, v.ownBlock = some k → base ≤ k ∧ k < w.heap.size := by
  intro k hk
  rcases h.2 with ⟨rfl, _⟩ | ⟨k', cap, cur, rfl, hk', hh, _⟩
  · cases hk
  · injection hk with hk
    have : k' = k := hk
    subst this
    exact ⟨hk', Has.lt (w := w) hh⟩
end
/-- Two rows never lie in one block. -/
def Apart (v u : Value) : Prop := ∀ k, v.ownBlock = some k → u.ownBlock ≠ some k
theorem Apart.symm {v u : Value} (h : Apart v u) : Apart u v := fun k hk hv => h k hv hk
theorem Apart.kept {v u : Value} (h : Apart v u) : v.ownBlock = none ∨ v.ownBlock ≠ u.ownBlock := by
  cases hv : v.ownBlock with
  | none => exact .inl rfl
  | some k => exact .inr fun e => h k hv e.symm
/-- .. nor behind an append to one of them. -/
theorem Apart.step {w : World} {base : Nat} {e : TypeId} {size n : Nat} {v v' u : Value} {xs : List Value} (h : Apart v u) (hu : w.ownsRow base e size u n xs) (hs : v'.ownBlock = v.ownBlock ∨ v'.ownBlock = some w.heap.size) : Apart v' u := by
  intro k hk he
  rcases hs with hs | hs
  · exact h k (hs ▸ hk) he
  · have h1 := (own_block hu k he).2
    rw [hs] at hk
    injection hk with hk
    omega
end Go.Proofs.Ytnoppoimahfknaa
end
section
/- What an append to a row of the call's own leaves as it was. -/
set_option linter.unusedVariables false
namespace Go.Proofs.Ytnoppoimahfknaa
open Go.RowKit
theorem Kept.of_grown {w w' : World} {row : Option Nat} (hg : w.grownBy w' row) : Kept row.toList w w' :=
  ⟨hg.os, hg.tape, hg.output, hg.size, fun k hk h1 => hg.block k hk fun e => h1 (by simp [← e])⟩
theorem own_apart {w : World} {base : Nat} {e : TypeId} {size n : Nat} {v : Value} {xs : List Value} (h : w.ownsRow base e size v n xs) {x : Nat} (hx : x < base) : x ∉ v.ownBlock.toList := by
  intro hm
  have := (own_block h x (by simpa using hm)).1
  omega
theorem own_in {w : World} {base : Nat} {e : TypeId} {size n : Nat} {v : Value} {xs : List Value} (h : w.ownsRow base e size v n xs) : ∀ k ∈ v.ownBlock.toList, base ≤ k := by
  intro k hm
  exact (own_block h k (by simpa using hm)).1
end Go.Proofs.Ytnoppoimahfknaa
end
section
/- The first so many numbers of a row that came in. -/
set_option linter.unusedVariables false
namespace Go.Proofs.Ytnoppoimahfknaa
open Go.RowKit
/-- The first so many numbers of a row that came in. -/
theorem row_first {k : IntKind} {lo hi : Int} (hb : ∀ {n : Int}, (Lit.int k n).wf = true → lo ≤ n ∧ n ≤ hi) {w : World} {a : Option Addr} {len cap : Nat} {zs : List Int} (h : IsRow k w a len cap zs) (p : Nat) (hp : p ≤ len) :
    len ≤ cap ∧ cap ≤ 9223372036854775807 ∧ (zs.take p).length = p ∧ (0 < p → ∃ x, a = some x ∧ ∀ i, i < p → w.cell? (x.add i) = some (.int k ((zs.take p).getD i 0)) ∧ lo ≤ (zs.take p).getD i 0 ∧ (zs.take p).getD i 0 ≤ hi) := by
  rcases h with ⟨rfl, rfl, rfl, rfl⟩ | ⟨x, rfl, h1, h2, h3, h4, h5⟩
  · exact ⟨by omega, by omega, by simp; omega, fun h => by omega⟩
  · unfold maxLen at h2
    refine ⟨h1, by omega, by rw [List.length_take]; omega, fun _ => ⟨x, rfl, fun i hi => ?_⟩⟩
    have hg : (zs.take p).getD i 0 = zs.getD i 0 := by simp [List.getD_eq_getElem?_getD, hi]
    rw [hg]
    exact ⟨h4 i (by omega), hb (h5 (zs.getD i 0) (by rw [List.getD_eq_getElem?_getD, List.getElem?_eq_getElem (by omega)]; simp))⟩
end Go.Proofs.Ytnoppoimahfknaa
end
section
/- Plain numbers: a mask is the rest of a division by a power of two; lists that go round. -/
namespace Go.Proofs.Ytnoppoimahfknaa
theorem ofInt_i64 (a : Nat) (ha : a < 9223372036854775808) : (BitVec.ofInt 64 (a : Int)).toNat = a := by
  rw [BitVec.ofInt_natCast, BitVec.toNat_ofNat]; exact Nat.mod_eq_of_lt (by omega)
theorem i64_and_nat (a b : Nat) (ha : a < 9223372036854775808) (hb : b < 9223372036854775808) : bits .and .i64 (a : Int) (b : Int) = ((a &&& b : Nat) : Int) := by
  have hx : a &&& b < 2 ^ 63 := Nat.and_lt_two_pow _ (by omega)
  show IntKind.i64.wrap ((BitVec.ofInt 64 (a : Int) &&& BitVec.ofInt 64 (b : Int)).toNat : Int) = _
  rw [BitVec.toNat_and, ofInt_i64 a ha, ofInt_i64 b hb, IntKind.wrap_i64]
  omega
theorem mask_int (a k n : Nat) (ha : a < 9223372036854775808) (hn : n = 2 ^ k) (hl : n ≤ 65536) : bits .and .i64 (a : Int) ((n : Int) - 1) = ((a % n : Nat) : Int) := by
  have h1 : 1 ≤ n := by subst hn; exact Nat.one_le_two_pow
  rw [show ((n : Int) - 1) = ((n - 1 : Nat) : Int) by omega, i64_and_nat a (n - 1) ha (by omega), hn, Nat.and_two_pow_sub_one_eq_mod]
theorem rot_ne {f n i k : Nat} (hi : i < n) (hk : k < n) (h : i ≠ k) : (f + i) % n ≠ (f + k) % n := by
  intro he
  rcases Nat.lt_or_ge i k with hl | hl
  · have h1 := Nat.sub_mod_eq_zero_of_mod_eq he.symm
    rw [show f + k - (f + i) = k - i by omega, Nat.mod_eq_of_lt (by omega)] at h1
    omega
  · have h1 := Nat.sub_mod_eq_zero_of_mod_eq he
    rw [show f + i - (f + k) = i - k by omega, Nat.mod_eq_of_lt (by omega)] at h1
    omega
theorem rot_add (f m i n : Nat) : ((f + m) % n + i) % n = (f + (m + i)) % n := by
  rw [Nat.mod_add_mod, Nat.add_assoc]
theorem getD_set {α : Type} (l : List α) (i j : Nat) (v d : α) (hj : j < l.length) : (l.set j v).getD i d = if j = i then v else l.getD i d := by
  rw [List.getD_eq_getElem?_getD, List.getD_eq_getElem?_getD, List.getElem?_set]
  by_cases h : j = i
  · subst h; simp [hj]
  · simp [h]
theorem getD_drop {α : Type} (l : List α) (m i : Nat) (d : α) : (l.drop m).getD i d = l.getD (m + i) d := by
  rw [List.getD_eq_getElem?_getD, List.getD_eq_getElem?_getD, List.getElem?_drop]
theorem getD_left {α : Type} (l r : List α) (i : Nat) (d : α) (h : i < l.length) : (l ++ r).getD i d = l.getD i d := by
  rw [List.getD_eq_getElem?_getD, List.getD_eq_getElem?_getD, List.getElem?_append_left h]
theorem getD_right {α : Type} (l r : List α) (i : Nat) (d : α) : (l ++ r).getD (l.length + i) d = r.getD i d := by
  rw [List.getD_eq_getElem?_getD, List.getD_eq_getElem?_getD, List.getElem?_append_right (by omega)]
  simp
theorem getD_take {α : Type} (l r : List α) (m i : Nat) (d : α) (h : i < l.length + m) : (l ++ r).getD i d = (l ++ r.take m).getD i d := by
  rcases Nat.lt_or_ge i l.length with h1 | h1
  · rw [getD_left _ _ _ _ h1, getD_left _ _ _ _ h1]
  · obtain ⟨j, rfl⟩ : ∃ j, i = l.length + j := ⟨i - l.length, by omega⟩
    rw [getD_right, getD_right, List.getD_eq_getElem?_getD, List.getD_eq_getElem?_getD, List.getElem?_take_of_lt (by omega)]
theorem fill_step {α : Type} (xs : List α) (d : α) (m k : Nat) (hk : k < m) (hm : m ≤ xs.length) :
    (xs.take k ++ List.replicate (m - k) d).set k (xs.getD k d) = xs.take (k + 1) ++ List.replicate (m - (k + 1)) d := by
  have hl : (xs.take k).length = k := by rw [List.length_take]; omega
  rw [List.set_append_right _ _ (by omega), hl, Nat.sub_self, show m - k = (m - (k + 1)) + 1 by omega, List.replicate_succ, List.set_cons_zero,
    List.take_succ_eq_append_getElem (by omega), List.append_assoc, List.getD_eq_getElem?_getD, List.getElem?_eq_getElem (by omega)]
  simp
theorem fill_at {α : Type} (xs : List α) (d : α) (m k : Nat) (hk : k < m) (hm : m ≤ xs.length) : (xs.take k ++ List.replicate (m - k) d)[k]? = some d := by
  have hl : (xs.take k).length = k := by rw [List.length_take]; omega
  rw [List.getElem?_append_right (by omega), hl, Nat.sub_self, show m - k = (m - (k + 1)) + 1 by omega, List.replicate_succ]
  rfl
end Go.Proofs.Ytnoppoimahfknaa
end
section
/- How many bits a small number wants: enough that it is below that power of two. -/
set_option linter.unusedSimpArgs false
set_option linter.unusedVariables false
namespace Go.Proofs.Ytnoppoimahfknaa
open Go.RowKit

theorem small_bits : ∀ n : Fin 256, n.val < 2 ^ Lib.bitLen n.val := by decide +kernel
theorem small_bits5 : ∀ n : Fin 5, Lib.bitLen n.val ≤ 3 := by decide +kernel
theorem byte_bits (b : Nat) (hb : b < 256) : b < 2 ^ Lib.bitLen b ∧ Lib.bitLen b ≤ 8 := ⟨small_bits ⟨b, hb⟩, Lib.bitLen_le8 ⟨b, hb⟩⟩
theorem bits_mid (x : Nat) (h1 : 256 ≤ x) (h2 : x ≤ 1024) : x < 2 ^ (8 + Lib.bitLen (x / 256)) ∧ 8 + Lib.bitLen (x / 256) ≤ 11 := by
  have h := (byte_bits (x / 256) (by omega)).1
  have h3 := small_bits5 ⟨x / 256, by omega⟩
  refine ⟨?_, by simp only at h3; omega⟩
  rw [Nat.pow_add]
  omega
set_option maxHeartbeats 2000000 in
set_option maxRecDepth 100000 in
theorem len64_low (x : Int) (w : World) (h0 : 0 ≤ x) (h1 : x ≤ 255) :
    Calls Try.prog 88 #[.int .u64 x] w fun e w' => e = .returned (.int .i64 (Lib.len8 x)) ∧ w = w' := by
  have b1 := Lib.len8_of x (by omega) (by omega)
  have b2 := Lib.bitLen_le8' x (by omega) (by omega)
  have B1 := Lib.hid (show 0 ≤ Lib.len8 x ∧ Lib.len8 x ≤ 8 by omega)
  clear b1 b2
  go_enter Try.func88, Try.ntmps88
  go_wp2
  go_ret
  have e1 := B1.out
  refine ⟨congrArg Ending.returned (congrArg (Value.int IntKind.i64) ?_), rfl⟩
  try unfold wrap64
  omega
set_option maxHeartbeats 2000000 in
set_option maxRecDepth 100000 in
theorem len64_mid (x : Int) (w : World) (h0 : 256 ≤ x) (h1 : x ≤ 1024) :
    Calls Try.prog 88 #[.int .u64 x] w fun e w' => e = .returned (.int .i64 (8 + Lib.len8 (x / 256))) ∧ w = w' := by
  have q0 : 0 ≤ x / 256 := by omega
  have q1 : x / 256 ≤ 255 := by omega
  have b1 := Lib.len8_of (x / 256) (by omega) (by omega)
  have b2 := Lib.bitLen_le8' (x / 256) (by omega) (by omega)
  have B1 := Lib.hid (show 0 ≤ Lib.len8 (x / 256) ∧ Lib.len8 (x / 256) ≤ 8 by omega)
  clear b1 b2
  go_enter Try.func88, Try.ntmps88
  go_wp2
  go_ret
  have e1 := B1.out
  refine ⟨congrArg Ending.returned (congrArg (Value.int IntKind.i64) ?_), rfl⟩
  try unfold wrap64
  omega
theorem len64_small (x : Nat) (w : World) (h1 : x ≤ 1024) :
    Calls Try.prog 88 #[.int .u64 (x : Int)] w fun e w' => (∃ k : Nat, e = .returned (.int .i64 k) ∧ x < 2 ^ k ∧ k ≤ 11) ∧ w = w' := by
  rcases Nat.lt_or_ge x 256 with h4 | h4
  · refine (len64_low (x : Int) w (by omega) (by omega)).mono ?_
    rintro e w' ⟨rfl, rfl⟩
    obtain ⟨e1, e2⟩ := byte_bits x (by omega)
    rw [Lib.len8_of (x : Int) (by omega) (by omega), Int.toNat_natCast]
    exact ⟨⟨_, rfl, e1, by omega⟩, rfl⟩
  · refine (len64_mid (x : Int) w (by omega) (by omega)).mono ?_
    rintro e w' ⟨rfl, rfl⟩
    obtain ⟨e1, e2⟩ := bits_mid x (by omega) (by omega)
    rw [Lib.len8_of ((x : Int) / 256) (by omega) (by omega), show ((x : Int) / 256).toNat = x / 256 by omega]
    exact ⟨⟨8 + Lib.bitLen (x / 256), by rw [Int.natCast_add]; rfl, e1, e2⟩, rfl⟩
theorem len_small (x : Nat) (w : World) (h1 : x ≤ 1024) :
    Calls Try.prog 84 #[.int .u64 (x : Int)] w fun e w' => (∃ k : Nat, e = .returned (.int .i64 k) ∧ x < 2 ^ k ∧ k ≤ 11) ∧ w = w' := by
  go_enter Try.func84, Try.ntmps84
  go_wp2_with (go_at_call 88; ((with_reducible refine (len64_small x _ h1).mono ?_); rintro e w' ⟨⟨k, rfl, hk⟩, rfl⟩))
  go_ret
  exact ⟨⟨k, rfl, hk⟩, rfl⟩
end Go.Proofs.Ytnoppoimahfknaa
end
section
/- Rows of elements of several cells each (structs), as lists: what reads so, rows of the call's own, appending. Of no program. -/
set_option linter.unusedSimpArgs false
set_option linter.unusedVariables false
namespace Go.Proofs.Ytnoppoimahfknaa.Row
open Go.RowKit

/-- How an element lies: k cells. -/
structure Shape (α : Type) where
  k : Nat
  enc : α → List Value
  len : ∀ a, (enc a).length = k
  pos : 0 < k
  one : ∀ a, ∀ u ∈ enc a, u.oneCell' = true
section
variable {α : Type} {S : Shape α}
def flat (S : Shape α) (ys : List α) : List Value := ys.flatMap S.enc
theorem flat_nil : flat S [] = [] := rfl
theorem flat_append (xs ys : List α) : flat S (xs ++ ys) = flat S xs ++ flat S ys := List.flatMap_append
theorem flat_length (ys : List α) : (flat S ys).length = ys.length * S.k := by
  induction ys with
  | nil => simp [flat]
  | cons y ys ih => rw [show flat S (y :: ys) = S.enc y ++ flat S ys from rfl, List.length_append, S.len, ih, List.length_cons, Nat.add_mul, Nat.one_mul, Nat.add_comm]
theorem flat_one (ys : List α) : ∀ u ∈ flat S ys, u.oneCell' = true := by
  intro u hu
  obtain ⟨y, _, hy⟩ := List.mem_flatMap.1 hu
  exact S.one y u hy
theorem flat_get (ys : List α) (i m : Nat) (hi : i < ys.length) (hm : m < S.k) : (flat S ys)[i * S.k + m]? = (S.enc ys[i])[m]? := by
  induction ys generalizing i with
  | nil => simp at hi
  | cons y ys ih =>
    rw [show flat S (y :: ys) = S.enc y ++ flat S ys from rfl]
    cases i with
    | zero => rw [Nat.zero_mul, Nat.zero_add, List.getElem?_append_left (by rw [S.len]; exact hm)]; rfl
    | succ i =>
      rw [Nat.add_mul, Nat.one_mul, List.getElem?_append_right (by rw [S.len]; omega), S.len, show i * S.k + S.k + m - S.k = i * S.k + m by omega]
      exact ih i (by simpa using hi)
theorem flat_take (ys : List α) (n : Nat) : (flat S ys).take (n * S.k) = flat S (ys.take n) := by
  induction ys generalizing n with
  | nil => simp [flat]
  | cons y ys ih =>
    cases n with
    | zero => simp [flat]
    | succ n =>
      rw [show flat S (y :: ys) = S.enc y ++ flat S ys from rfl, List.take_succ_cons, show flat S (y :: ys.take n) = S.enc y ++ flat S (ys.take n) from rfl, ← ih n, List.take_append, S.len, Nat.add_mul, Nat.one_mul]
      rw [List.take_of_length_le (by rw [S.len]; omega), Nat.add_sub_cancel]

/-- The slice (a, len) reads as these elements. -/
structure Vals (S : Shape α) (w : World) (a : Option Addr) (len : Nat) (ys : List α) : Prop where
  len_ : ys.length = len
  cells : 0 < len → ∃ x, a = some x ∧ ∀ j u, (flat S ys)[j]? = some u → w.cell? (x.add j) = some u
theorem Vals.none_ (w : World) : Vals S w none 0 [] := ⟨rfl, fun h => absurd h (by omega)⟩
theorem Vals.same {w w' : World} {a : Option Addr} {len : Nat} {ys : List α} (h : Vals S w a len ys) (e : w'.heap = w.heap) : Vals S w' a len ys :=
  ⟨h.len_, fun hl => by
    obtain ⟨x, hx, hc⟩ := h.cells hl
    exact ⟨x, hx, fun j u hu => by have := hc j u hu; unfold World.cell? at *; rw [e]; exact this⟩⟩
theorem Vals.drewN {w : World} {a : Option Addr} {len : Nat} {ys : List α} (h : Vals S w a len ys) (k : Nat) : Vals S (w.drewN k) a len ys := h.same rfl
theorem Vals.below {w w' : World} {a : Option Addr} {len : Nat} {ys : List α} (h : Vals S w a len ys) (hb : Below w.heap.size w w') : Vals S w' a len ys :=
  ⟨h.len_, fun hl => by
    obtain ⟨x, hx, hc⟩ := h.cells hl
    exact ⟨x, hx, fun j u hu => (hb.cell (World.block_lt_of_cell? _ _ (hc j u hu))).trans (hc j u hu)⟩⟩
theorem Vals.alloc {w : World} {a : Option Addr} {len : Nat} {ys : List α} (h : Vals S w a len ys) (o : Obj) : Vals S (w.alloc o) a len ys := h.below ((Below.refl _ _).alloc (Nat.le_refl _) _)
theorem Vals.kept {w w' : World} {T : List Nat} {a : Option Addr} {len : Nat} {ys : List α} (h : Vals S w a len ys) (hb : Kept T w w') (h1 : 0 < len → ∀ x, a = some x → x.block ∉ T) : Vals S w' a len ys :=
  ⟨h.len_, fun hl => by
    obtain ⟨x, hx, hc⟩ := h.cells hl
    have hxb := h1 hl x hx
    exact ⟨x, hx, fun j u hu => (hb.cell (World.block_lt_of_cell? _ _ (hc j u hu)) (by rw [block_add]; exact hxb)).trans (hc j u hu)⟩⟩
/-- Cell m of element i. -/
theorem Vals.at_ {w : World} {x : Addr} {len : Nat} {ys : List α} (h : Vals S w (some x) len ys) (i m : Nat) (hi : i < ys.length) (u : Value) (hu : (S.enc ys[i])[m]? = some u) : w.cell? (x.add (i * S.k + m)) = some u := by
  have hm : m < S.k := by rw [← S.len ys[i]]; exact (List.getElem?_eq_some_iff.1 hu).1
  obtain ⟨y, hy, hc⟩ := h.cells (by have := h.len_; omega)
  injection hy with hy
  subst hy
  exact hc _ u (by rw [flat_get ys i m hi hm]; exact hu)
theorem Vals.take {w : World} {a : Option Addr} {len : Nat} {ys : List α} (h : Vals S w a len ys) (p : Nat) (hp : p ≤ len) : Vals S w a p (ys.take p) := by
  have hl := h.len_
  refine ⟨by rw [List.length_take]; omega, fun h0 => ?_⟩
  obtain ⟨x, hx, hc⟩ := h.cells (by omega)
  refine ⟨x, hx, fun j u hu => hc j u ?_⟩
  rw [← flat_take] at hu
  rw [List.getElem?_take] at hu
  split at hu
  · exact hu
  · cases hu
theorem Vals.has {w : World} {g : Nat} {t : TypeId} {ys : List α} {tl : List Value} (h : Has w g t (flat S ys ++ tl).toArray) : Vals S w (some ⟨g, 0, none⟩) ys.length ys :=
  ⟨rfl, fun _ => ⟨_, rfl, fun j u hu => by
    have hj : j < (flat S ys).length := (List.getElem?_eq_some_iff.1 hu).1
    have h9 := h.cell j
    rw [List.getElem?_toArray, List.getElem?_append_left hj, hu] at h9
    rwa [show (Addr.add ⟨g, 0, none⟩ j) = ⟨g, j, none⟩ by simp [Addr.add]; rintro rfl; rfl]⟩⟩
theorem Vals.own {w : World} {base : Nat} {t : TypeId} {v : Value} {n : Nat} {xs : List α} (h : w.ownsRow base t S.k v n (flat S xs)) : ∃ A c, v = .slice A n c ∧ n ≤ c ∧ c ≤ 9223372036854775807 ∧ Vals S w A n xs ∧ (∀ x, A = some x → base ≤ x.block ∧ x.block < w.heap.size) ∧ Value.ownBlock v = A.map (·.block) := by
  have hl : xs.length = n := by
    have := h.1
    rw [flat_length] at this
    exact Nat.eq_of_mul_eq_mul_right S.pos this
  rcases h.2 with ⟨rfl, rfl⟩ | ⟨g, cap, cur, rfl, hb, hh, h1, h2, h3, h4⟩
  · exact ⟨_, _, rfl, Nat.le_refl _, by omega, ⟨hl, fun h0 => absurd h0 (by omega)⟩, (fun x hx => by cases hx), rfl⟩
  · unfold maxLen at h2
    have hlt : g < w.heap.size := Has.lt (w := w) (b := g) hh
    refine ⟨_, _, rfl, h1, by omega, ⟨hl, fun _ => ⟨_, rfl, fun j u hu => ?_⟩⟩, (fun x hx => by injection hx with hx; subst hx; exact ⟨hb, hlt⟩), rfl⟩
    exact h.cells (g := g) rfl j u hu
theorem own_none (w : World) (base : Nat) (e : TypeId) : w.ownsRow base e S.k (.slice none 0 0) 0 (flat S ([] : List α)) := ⟨by simp [flat], .inl ⟨rfl, rfl⟩⟩
theorem own_empty (w : World) (e : TypeId) : World.ownsRow (w.alloc (.cells #[] e)) w.heap.size e S.k (.slice (some ⟨w.heap.size, 0, none⟩) 0 0) 0 (flat S ([] : List α)) :=
  ⟨by simp [flat], .inr ⟨_, 0, #[], rfl, Nat.le_refl _, Has.new w e #[], Nat.le_refl _, by unfold maxLen; omega, by simp, by simp [flat]⟩⟩
variable {P : Program} {w : World}
theorem run_append (base : Nat) (t ty e : TypeId) (z : Value) (bytes : Nat) (hby : bytes ≤ 64) (ht : P.underlying t = some (.slice e)) (hinfo : (P.info? e).map (fun i => (i.zero, i.size, i.bytes)) = some (some z, S.k, bytes)) (hzs : z.cells.size = S.k)
    (v : Value) (n : Nat) (xs : List α) (hown : w.ownsRow base e S.k v n (flat S xs)) (A : Option Addr) (m c : Nat) (ys : List α) (hr : Vals S w A m ys)
    (h63 : n + m ≤ 1048576) (hbase : base ≤ w.heap.size) :
    ∃ v' w', (Builtin.append_ #[t, t] ty #[v, .slice A m c]).run P w = .ok v' w' ∧ w'.ownsRow base e S.k v' (n + m) (flat S (xs ++ ys)) ∧ w.grownBy w' v.ownBlock ∧
      (v'.ownBlock = v.ownBlock ∨ v'.ownBlock = some w.heap.size) := by
  obtain ⟨i, hi, hz0, hz1, hz2⟩ := info_parts hinfo
  rcases A with _ | ad
  · have hm : m = 0 := by
      rcases Nat.eq_zero_or_pos m with h0 | h0
      · exact h0
      · obtain ⟨x, hx, _⟩ := hr.cells h0
        cases hx
    subst hm
    have hy : ys = [] := List.eq_nil_of_length_eq_zero hr.len_
    subst hy
    refine ⟨v, w, ?_, by simpa using hown, World.grownBy.refl w _, .inl rfl⟩
    rcases hown.2 with ⟨rfl, rfl⟩ | ⟨g, cap, cur, rfl, _, _, hnc, _⟩
    · simp [Builtin.append_, run_underlying ht, sizeOf, typeInfo, hi, Builtin.lenOf, Builtin.firstCells]
    · simp [Builtin.append_, run_underlying ht, sizeOf, typeInfo, hi, Builtin.lenOf, Builtin.firstCells, hnc, storeCells]
  · rcases Nat.eq_zero_or_pos m with h0 | h0
    · subst h0
      have hy : ys = [] := List.eq_nil_of_length_eq_zero hr.len_
      subst hy
      obtain ⟨v', w', hrun, h2, h3, _, h5⟩ := run_append_own_at (P := P) w base t ty e i z S.k bytes ht hi hz0 hz1 hz2 hzs S.pos v n (flat S xs) hown ad 0 c (flat S []) (by simp [flat]) (fun j u hu => by simp [flat] at hu) (flat_one _)
        (by simp only [maxLen]; omega) (by
          have : (n + 0) * bytes ≤ 1048576 * 64 := Nat.mul_le_mul h63 hby
          omega) hbase
      exact ⟨v', w', hrun, by rw [flat_append]; exact h2, h3, h5⟩
    · obtain ⟨x, hx, hc⟩ := hr.cells h0
      injection hx with hx
      subst hx
      obtain ⟨v', w', hrun, h2, h3, _, h5⟩ := run_append_own_at (P := P) w base t ty e i z S.k bytes ht hi hz0 hz1 hz2 hzs S.pos v n (flat S xs) hown ad m c (flat S ys) (by rw [flat_length, hr.len_]) hc (flat_one _)
        (by simp only [maxLen]; omega) (by
          have : (n + m) * bytes ≤ 1048576 * 64 := Nat.mul_le_mul h63 hby
          omega) hbase
      exact ⟨v', w', hrun, by rw [flat_append]; exact h2, h3, h5⟩
theorem wpList_append {ops : Array Oper} {rest : List Oper} {o : Oper} {a : Act} {Q : Exit → Act → World → Prop} (hgd : o.guard = none) (s x : Operand) (t : TypeId)
    (ho : o.op = .call { callee := .builtin .append, args := #[s, x], argTypes := #[t, t] })
    (base : Nat) (e : TypeId) (z : Value) (bytes : Nat) (hby : bytes ≤ 64) (ht : P.underlying t = some (.slice e)) (hinfo : (P.info? e).map (fun i => (i.zero, i.size, i.bytes)) = some (some z, S.k, bytes)) (hzs : z.cells.size = S.k)
    (v : Value) (n : Nat) (xs : List α) (hs : a.eval s = v) (hown : w.ownsRow base e S.k v n (flat S xs)) (A : Option Addr) (m c : Nat) (ys : List α) (hx : a.eval x = .slice A m c) (hr : Vals S w A m ys)
    (h63 : n + m ≤ 1048576) (hbase : base ≤ w.heap.size)
    (h : ∀ v' w', w'.ownsRow base e S.k v' (n + m) (flat S (xs ++ ys)) → w.grownBy w' v.ownBlock → (v'.ownBlock = v.ownBlock ∨ v'.ownBlock = some w.heap.size) → wpList P ops Q rest (a.put o.dst v') w') : wpList P ops Q (o :: rest) a w := by
  refine wpList_plain hgd fun _ hK => ?_
  obtain ⟨v', w', hrun, h2, h3, h4⟩ := run_append (P := P) base t o.type e z bytes hby ht hinfo hzs v n xs hown A m c ys hr h63 hbase
  unfold Oper.wp execOp
  simp only [ho, resolve, invoke, builtin, Sem.run_bind, Sem.run_pure, Result.andThen_ok, List.map_toArray, List.map_cons, List.map_nil, hs, hx, hrun]
  exact hK _ _ (h v' w' h2 h3 h4)
/-- The same as one operation, wherever it stands. -/
theorem wp_append {o : Oper} {a : Act} {K : Act → World → Prop} {Q : Exit → Act → World → Prop} (s x : Operand) (t : TypeId)
    (ho : o.op = .call { callee := .builtin .append, args := #[s, x], argTypes := #[t, t] })
    (base : Nat) (e : TypeId) (z : Value) (bytes : Nat) (hby : bytes ≤ 64) (ht : P.underlying t = some (.slice e)) (hinfo : (P.info? e).map (fun i => (i.zero, i.size, i.bytes)) = some (some z, S.k, bytes)) (hzs : z.cells.size = S.k)
    (v : Value) (n : Nat) (xs : List α) (hs : a.eval s = v) (hown : w.ownsRow base e S.k v n (flat S xs)) (A : Option Addr) (m c : Nat) (ys : List α) (hx : a.eval x = .slice A m c) (hr : Vals S w A m ys)
    (h63 : n + m ≤ 1048576) (hbase : base ≤ w.heap.size)
    (h : ∀ v' w', w'.ownsRow base e S.k v' (n + m) (flat S (xs ++ ys)) → w.grownBy w' v.ownBlock → (v'.ownBlock = v.ownBlock ∨ v'.ownBlock = some w.heap.size) → K (a.put o.dst v') w') : Oper.wp P o a w K Q := by
  obtain ⟨v', w', hrun, h2, h3, h4⟩ := run_append (P := P) base t o.type e z bytes hby ht hinfo hzs v n xs hown A m c ys hr h63 hbase
  unfold Oper.wp execOp
  simp only [ho, resolve, invoke, builtin, Sem.run_bind, Sem.run_pure, Result.andThen_ok, List.map_toArray, List.map_cons, List.map_nil, hs, hx, hrun]
  exact h v' w' h2 h3 h4
end
end Go.Proofs.Ytnoppoimahfknaa.Row
end
