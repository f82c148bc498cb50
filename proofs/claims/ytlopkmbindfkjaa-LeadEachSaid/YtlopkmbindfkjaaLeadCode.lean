/- lead's calls over the landed code, as one kit. -/
import Derived.Test.YtlopkmbindfkjaaLeadTake
set_option linter.unusedSimpArgs false
set_option linter.unusedVariables false
namespace Go.Proofs.Ytlopkmbindfkjaa.Lead
open Go.RowKit
theorem run_le (st : St) (o : Bool) : st.run o ≤ st.n + 1 := by unfold St.run; split <;> omega
theorem next_le (st : St) (e : Ev) : (st.next e).n ≤ st.n + 1 := by
  unfold St.next
  split
  · exact Nat.zero_le _
  · split
    · exact run_le st _
    · omega
theorem after_le (st : St) (l : List Ev) : (afterL st l).n ≤ st.n + l.length := by
  induction l generalizing st with
  | nil => exact Nat.le_refl _
  | cons e l ih =>
    have h1 := next_le st e
    have h2 := ih (st.next e)
    simp only [afterL, List.length_cons]
    omega
theorem step_take (st : St) (l : List Ev) (k : Nat) (h : k < l.length) : itemsL st (l.take (k + 1)) = itemsL st (l.take k) ++ (afterL st (l.take k)).items (l.getD k noEv) ∧ afterL st (l.take (k + 1)) = (afterL st (l.take k)).next (l.getD k noEv) := by
  rw [take_get l k h, items_append, after_append]
  exact ⟨by simp [itemsL], rfl⟩
theorem new_k (w : World) : Calls Try.prog 7 #[] w fun e w' => ∃ b, e = .returned (.pointer (some ⟨b, 0, none⟩)) ∧ StIs w' b start ∧ w.heap.size ≤ b ∧ Below w.heap.size w w' := by
  go_enter Try.func7, Try.ntmps7
  go_wp2
  go_ret
  exact ⟨_, rfl, Has.new w 45 #[.bool false, .int .i64 0, .bool true], Nat.le_refl _, (Below.refl _ w).alloc (Nat.le_refl _) _⟩
theorem on_k (b : Nat) (st : St) (w : World) (h : StIs w b st) : Calls Try.prog 11 #[.pointer (some ⟨b, 0, none⟩)] w fun e w' => e = .returned (.bool st.on) ∧ w = w' := by
  obtain ⟨on, off, n⟩ := st
  have c2 : w.cell? ⟨b, 2, none⟩ = some (.bool on) := Has.cell h 2
  clear h
  go_enter Try.func11, Try.ntmps11
  go_wp2
  go_ret
  exact ⟨rfl, rfl⟩
theorem clone_k (b : Nat) (st : St) (w : World) (h : StIs w b st) : Calls Try.prog 12 #[.pointer (some ⟨b, 0, none⟩)] w fun e w' => ∃ b', e = .returned (.pointer (some ⟨b', 0, none⟩)) ∧ StIs w' b' st ∧ w.heap.size ≤ b' ∧ Below w.heap.size w w' := by
  obtain ⟨on, off, n⟩ := st
  have c0 : w.cell? ⟨b, 0, none⟩ = some (.bool off) := Has.cell h 0
  have c1 : w.cell? ⟨b, 1, none⟩ = some (.int .i64 (n : Nat)) := Has.cell h 1
  have c2 : w.cell? ⟨b, 2, none⟩ = some (.bool on) := Has.cell h 2
  clear h
  go_enter Try.func12, Try.ntmps12
  go_wp2
  go_ret
  exact ⟨_, rfl, Has.new w 45 #[.bool off, .int .i64 (n : Nat), .bool on], Nat.le_refl _, (Below.refl _ w).alloc (Nat.le_refl _) _⟩
theorem no_on_k (w : World) : Calls Try.prog 11 #[.pointer none] w fun e w' => e = .returned (.bool false) ∧ Below w.heap.size w w' := by
  go_enter Try.func11, Try.ntmps11
  go_wp2
  go_ret
  exact ⟨rfl, Below.refl _ _⟩
theorem no_clone_k (w : World) : Calls Try.prog 12 #[.pointer none] w fun e w' => e = .returned (.pointer none) ∧ Below w.heap.size w w' := by
  go_enter Try.func12, Try.ntmps12
  go_wp2
  go_ret
  exact ⟨rfl, Below.refl _ _⟩
theorem no_push_k (A : Option Addr) (n c : Nat) (w : World) : Calls Try.prog 10 #[.pointer none, .slice A n c] w fun e w' => ∃ B d, e = .returned (.slice B 0 d) ∧ Below w.heap.size w w' := by
  go_enter Try.func10, Try.ntmps10
  go_wp2
  go_ret
  exact ⟨_, _, rfl, Below.refl _ _⟩
/-- What a Push answers of a lead that stands so. -/
def PushedIs (w : World) (b : Nat) (st : St) (ys : List Ev) (e : Ending) (w' : World) : Prop :=
  ∃ B m d, e = .returned (.slice B m d) ∧ m ≤ d ∧ d ≤ 9223372036854775807 ∧ Row.Vals itS w' B m (itemsL st ys) ∧ (∀ x, B = some x → w.heap.size ≤ x.block) ∧ StIs w' b (afterL st ys) ∧ Kept [b] w w'
set_option maxHeartbeats 1000000 in
theorem push_k (b : Nat) (st : St) (A : Option Addr) (n c : Nat) (ys : List Ev) (w : World) (h : StIs w b st) (hst : st.n ≤ 10000) (hv : Row.Vals evS w A n ys) (hn : n ≤ 10000) (hnc : n ≤ c) (hc : c ≤ 9223372036854775807) (hfar : 0 < n → ∀ x, A = some x → x.block ≠ b) :
    Calls Try.prog 10 #[.pointer (some ⟨b, 0, none⟩), .slice A n c] w (PushedIs w b st ys) := by
  have hlen := hv.len_
  have hlt := Has.lt h
  unfold PushedIs
  go_enter Try.func10, Try.ntmps10
  go_wp2
  go_loopw [5, 12] (fun v i wr => ∃ j : Nat, j ≤ n ∧ i = .int .i64 (j : Nat) ∧ Mid w b wr (afterL st (ys.take j)) v (itemsL st (ys.take j))) (fun _ i _ => n - (intOf i).toNat)
  case atStart => exact ⟨0, by omega, rfl, ⟨h, Row.own_none (S := itS) _ _ _, Kept.refl _ _, hlt⟩⟩
  case round =>
    obtain ⟨j, hj, rfl, hM⟩ := hrel
    by_cases hjn : j < n
    · obtain ⟨x, rfl, _⟩ := hv.cells (by omega)
      have hVr := hv.kept hM.kept (fun h0 y hy => by simpa using hfar h0 y hy)
      obtain ⟨e0, e1, e2, e3⟩ := ev_cells hVr j hjn
      obtain ⟨hit, haf⟩ := step_take st ys j (by omega)
      have hal := after_le st (ys.take j)
      have hEl := itemsL_few st (ys.take j)
      rw [List.length_take] at hal hEl
      obtain ⟨ev, hev⟩ : ∃ ev, ys.getD j noEv = ev := ⟨_, rfl⟩
      rw [hev] at hit haf e0 e1 e2 e3
      obtain ⟨kd, at_, v, o⟩ := ev
      dsimp only at e0 e1 e2 e3
      have hA := hM.alloc (.cells #[.int .i64 kd, .int .i64 at_, .int .i32 v, .bool o] 37)
      have htk := take_k b _ kd at_ v o w _ _ _ hA (by omega) (by omega)
      rw [← hit, ← haf] at htk
      have hsm : (itemsL st (ys.take j)).length ≤ 100000 := by omega
      clear hit haf hal hEl hev hA hVr h
      go_wp2_with (go_at_call 17; ((with_reducible refine htk.mono ?_); rintro e W1 ⟨V1, rfl, hM1⟩))
      go_roundw
      case rel => exact ⟨j + 1, by omega, by go_num, hM1⟩
      case measure => simp [intOf]; omega
    · obtain rfl : j = n := by omega
      rw [List.take_of_length_le (by omega)] at hM
      obtain ⟨A1, c1, rfl, e1, e2, hV1, hfar1, _⟩ := Row.Vals.own (S := itS) hM.own
      have HF := Lib.hid (show _ ∧ _ ∧ _ ∧ _ ∧ _ ∧ _ from ⟨e1, e2, hV1, (fun x hx => (hfar1 x hx).1), hM.st, hM.kept⟩)
      clear e1 e2 hV1 hfar1 hM h hv
      go_wp2
      go_ret
      exact ⟨_, _, _, rfl, HF.out⟩
theorem items_k (A : Option Addr) (n c : Nat) (ys : List Ev) (w : World) (hv : Row.Vals evS w A n ys) (hn : n ≤ 2000) (hnc : n ≤ c) (hc : c ≤ 9223372036854775807) :
    Calls Try.prog 14 #[.slice A n c] w fun e w' => ∃ B m d, e = .returned (.slice B m d) ∧ m ≤ d ∧ d ≤ 9223372036854775807 ∧ Row.Vals itS w' B m (itemsT ys) ∧ (∀ x, B = some x → w.heap.size ≤ x.block) ∧ Below w.heap.size w w' := by
  have hlt : 0 < n → ∀ x, A = some x → x.block < w.heap.size := fun h0 x hx => by
    obtain ⟨y, hy, hcs⟩ := hv.cells h0
    rw [hx] at hy
    injection hy with hy
    subst hy
    have hl := hv.len_
    cases ys with
    | nil => simp at hl; omega
    | cons z zs =>
      have := World.block_lt_of_cell? _ _ (hcs 0 _ (by rfl))
      rwa [block_add] at this
  go_enter Try.func14, Try.ntmps14
  go_wp2_with (first
    | (go_at_call 7; ((with_reducible refine (new_k _).mono ?_); rintro e W1 ⟨b, rfl, hS1, hb1, hB1⟩))
    | (go_at_call 10; ((with_reducible refine (push_k b start A n c ys _ hS1 (by decide) (hv.below hB1) (by omega) hnc hc (fun h0 x hx => by have := hlt h0 x hx; omega)).mono ?_); rintro e W2 ⟨B, m, d, rfl, g1, g2, hV2, hf2, hS2, hK2⟩)))
  go_ret
  exact ⟨B, m, d, rfl, g1, g2, hV2, (fun x hx => Nat.le_trans hB1.size (hf2 x hx)), below_kept hB1 hK2 hB1.size (by simpa using hb1)⟩
/-- The kit: a lead's only block is its struct's. -/
def kit : LeadKit where
  Led := fun w b S all => S = [b] ∧ StIs w b (afterL start all)
  lt := by
    rintro w b S all ⟨rfl, h⟩ k hk
    simp at hk
    subst hk
    exact Has.lt h
  kept := by
    rintro w w' b S T all ⟨rfl, h⟩ hk hd
    exact ⟨rfl, h.kept hk (hd b (by simp))⟩
  new_any := fun w => (new_k w).mono (by
    rintro e w' ⟨b, rfl, h, h1, hB⟩
    exact ⟨b, [b], rfl, ⟨rfl, h⟩, (fun k hk => by simp at hk; omega), hB⟩)
  push_any := by
    rintro b S all A n c ys w ⟨rfl, h⟩ hal hv hn hnc hc hfar
    have hle := after_le start all
    have h0 : start.n = 0 := rfl
    refine (push_k b _ A n c ys w h (by omega) hv (by omega) hnc hc (fun h0 x hx => by simpa using hfar h0 x hx)).mono ?_
    rintro e w' ⟨B, m, d, rfl, g1, g2, hV, hf, hS, hK⟩
    refine ⟨B, m, d, [b], rfl, g1, g2, hV, (fun x hx => ⟨hf x hx, ?_⟩), ⟨rfl, by rw [after_append]; exact hS⟩, (fun k hk => .inl hk), hK⟩
    have h1 := Has.lt h
    have h2 := hf x hx
    simp
    omega
  on_any := by
    rintro b S all w ⟨rfl, h⟩ hal
    refine (on_k b _ w h).mono ?_
    rintro e w' ⟨rfl, rfl⟩
    exact ⟨rfl, Below.refl _ _⟩
  clone_any := by
    rintro b S all w ⟨rfl, h⟩ hal
    refine (clone_k b _ w h).mono ?_
    rintro e w' ⟨b', rfl, h', h1, hB⟩
    exact ⟨b', [b'], rfl, ⟨rfl, h'⟩, (fun k hk => by simp at hk; omega), hB⟩
  items_any := fun A n c ys w hv hn hnc hc => items_k A n c ys w hv hn hnc hc
  no_push := fun A n c ys w hv hn hnc hc => no_push_k A n c w
  no_on := no_on_k
  no_clone := no_clone_k
end Go.Proofs.Ytlopkmbindfkjaa.Lead
