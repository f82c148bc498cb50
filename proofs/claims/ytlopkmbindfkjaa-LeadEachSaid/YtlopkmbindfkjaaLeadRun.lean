/- A lead in memory, and its run; what the run's calls, turn and sample answer. -/
import Derived.Test.YtlopkmbindfkjaaLeadKit
import Derived.Test.YtlopkmbindfkjaaRegion
set_option linter.unusedSimpArgs false
set_option linter.unusedVariables false
namespace Go.Proofs.Ytlopkmbindfkjaa.Lead
open Go.RowKit
/-- Block b is a lead's struct that stands so. -/
def StIs (w : World) (b : Nat) (st : St) : Prop := Has w b 45 #[.bool st.off, .int .i64 (st.n : Nat), .bool st.on]
theorem StIs.kept {w w' : World} {b : Nat} {st : St} {T : List Nat} (h : StIs w b st) (hk : Kept T w w') (hb : b ∉ T) : StIs w' b st := hk.has h hb
theorem end_k (b : Nat) (st : St) (w : World) (h : StIs w b st) :
    Calls Try.prog 20 #[.pointer (some ⟨b, 0, none⟩)] w fun e w' => e = .returned (.tuple #[]) ∧ StIs w' b { st with n := 0 } ∧ Kept [b] w w' := by
  have c1 : w.cell? ⟨b, 1, none⟩ = some (.int .i64 (st.n : Nat)) := Has.cell h 1
  have f1 := Has.frozen h 1
  have hS := Has.set_ h 1 (.int .i64 0)
  have hK := (Kept.refl [b] w).setCell (p := ⟨b, 1, none⟩) (.inl (by simp)) (.int .i64 0)
  go_enter Try.func20, Try.ntmps20
  go_wp2
  go_end0
  exact ⟨rfl, by simpa [StIs] using hS, hK⟩
theorem add_k (b : Nat) (st : St) (o : Bool) (w : World) (h : StIs w b st) (hn : st.n ≤ 100000) :
    Calls Try.prog 21 #[.pointer (some ⟨b, 0, none⟩), .bool o] w fun e w' => e = .returned (.tuple #[]) ∧ StIs w' b ⟨st.on, o, st.run o⟩ ∧ Kept [b] w w' := by
  obtain ⟨on, off, n⟩ := st
  dsimp only at hn
  have c0 : w.cell? ⟨b, 0, none⟩ = some (.bool off) := Has.cell h 0
  have c1 : w.cell? ⟨b, 1, none⟩ = some (.int .i64 (n : Nat)) := Has.cell h 1
  have f0 := Has.frozen h 0
  have f1 := Has.frozen h 1
  by_cases ho : o = off
  · subst ho
    have hne : (!(o == o)) = false := by simp
    have hS := Has.set_ h 1 (.int .i64 ((n : Int) + 1))
    have hK := (Kept.refl [b] w).setCell (p := ⟨b, 1, none⟩) (.inl (by simp)) (.int .i64 ((n : Int) + 1))
    have hr : (St.mk on o n).run o = n + 1 := by
      unfold St.run
      by_cases h0 : n = 0
      · rw [if_neg (fun h => h.1 h0), h0]
      · rw [if_pos ⟨h0, rfl⟩]
    rw [hr]
    clear h
    go_enter Try.func21, Try.ntmps21
    go_wp2
    go_end0
    exact ⟨rfl, by simpa [StIs] using hS, hK⟩
  · have hne : (!(o == off)) = true := by simpa using ho
    have hr : (St.mk on off n).run o = 1 := by
      unfold St.run
      rw [if_neg (fun h => ho h.2.symm)]
    rw [hr]
    have hS := Has.set_ (Has.set_ h 0 (.bool o)) 1 (.int .i64 0)
    have hK := ((Kept.refl [b] w).setCell (p := ⟨b, 0, none⟩) (.inl (by simp)) (.bool o)).setCell (p := ⟨b, 1, none⟩) (.inl (by simp)) (.int .i64 0)
    have c2 := Has.cell hS 1
    have f2 := Has.frozen hS 1
    have hS2 := Has.set_ hS 1 (.int .i64 1)
    have hK2 := hK.setCell (p := ⟨b, 1, none⟩) (.inl (by simp)) (.int .i64 1)
    clear h
    go_enter Try.func21, Try.ntmps21
    go_wp2
    go_end0
    exact ⟨rfl, by simpa [StIs] using hS2, hK2⟩
theorem turn_k (b : Nat) (st : St) (w : World) (h : StIs w b st) :
    Calls Try.prog 22 #[.pointer (some ⟨b, 0, none⟩)] w fun e w' => e = .returned (.int .i64 (if st.on = true ∧ st.off = true ∧ 20 ≤ st.n then 2 else if st.on = false ∧ st.off = false ∧ 100 ≤ st.n then 3 else 4)) ∧ w = w' := by
  obtain ⟨on, off, n⟩ := st
  have c0 : w.cell? ⟨b, 0, none⟩ = some (.bool off) := Has.cell h 0
  have c1 : w.cell? ⟨b, 1, none⟩ = some (.int .i64 (n : Nat)) := Has.cell h 1
  have c2 : w.cell? ⟨b, 2, none⟩ = some (.bool on) := Has.cell h 2
  clear h
  dsimp only
  obtain ⟨R, hR⟩ : ∃ R : Int, R = if on = true ∧ off = true ∧ 20 ≤ n then 2 else if on = false ∧ off = false ∧ 100 ≤ n then 3 else 4 := ⟨_, rfl⟩
  rw [← hR]
  rcases Bool.eq_false_or_eq_true on with hon | hon <;> rcases Bool.eq_false_or_eq_true off with hoff | hoff
  · by_cases hn : 20 ≤ n
    · have hz : (20 : Int) ≤ (n : Int) := by omega
      obtain rfl : R = 2 := by rw [hR, if_pos ⟨hon, hoff, hn⟩]
      clear hR
      go_enter Try.func22, Try.ntmps22
      go_wp2
      go_ret
      exact ⟨rfl, rfl⟩
    · have hz : ¬ (20 : Int) ≤ (n : Int) := by omega
      obtain rfl : R = 4 := by rw [hR, if_neg (fun h => hn h.2.2), if_neg (fun h => by rw [hon] at h; cases h.1)]
      clear hR
      go_enter Try.func22, Try.ntmps22
      go_wp2
      go_ret
      exact ⟨rfl, rfl⟩
  · obtain rfl : R = 4 := by rw [hR, if_neg (fun h => by rw [hoff] at h; cases h.2.1), if_neg (fun h => by rw [hon] at h; cases h.1)]
    clear hR
    go_enter Try.func22, Try.ntmps22
    go_wp2
    go_ret
    exact ⟨rfl, rfl⟩
  · obtain rfl : R = 4 := by rw [hR, if_neg (fun h => by rw [hon] at h; cases h.1), if_neg (fun h => by rw [hoff] at h; cases h.2.1)]
    clear hR
    go_enter Try.func22, Try.ntmps22
    go_wp2
    go_ret
    exact ⟨rfl, rfl⟩
  · by_cases hn : 100 ≤ n
    · have hz : (100 : Int) ≤ (n : Int) := by omega
      obtain rfl : R = 3 := by rw [hR, if_neg (fun h => by rw [hon] at h; cases h.1), if_pos ⟨hon, hoff, hn⟩]
      clear hR
      go_enter Try.func22, Try.ntmps22
      go_wp2
      go_ret
      exact ⟨rfl, rfl⟩
    · have hz : ¬ (100 : Int) ≤ (n : Int) := by omega
      obtain rfl : R = 4 := by rw [hR, if_neg (fun h => by rw [hon] at h; cases h.1), if_neg (fun h => hn h.2.2)]
      clear hR
      go_enter Try.func22, Try.ntmps22
      go_wp2
      go_ret
      exact ⟨rfl, rfl⟩
/-- A sample's item, as the lead stands. -/
def sampT (on : Bool) (e : Ev) : It := if on then (4, e.2.1, e.2.2.1) else (5, e.2.1, 0)
theorem sample_k (b : Nat) (st : St) (k a v : Int) (o : Bool) (w : World) (h : StIs w b st) :
    Calls Try.prog 19 #[.pointer (some ⟨b, 0, none⟩), .agg #[.int .i64 k, .int .i64 a, .int .i32 v, .bool o]] w fun e w' => e = .returned (.agg #[.int .i64 (sampT st.on (k, a, v, o)).1, .int .i64 (sampT st.on (k, a, v, o)).2.1, .int .i32 (sampT st.on (k, a, v, o)).2.2]) ∧ Below w.heap.size w w' := by
  obtain ⟨on, off, n⟩ := st
  have c2 : w.cell? ⟨b, 2, none⟩ = some (.bool on) := Has.cell h 2
  have hlt := Has.lt h
  clear h
  dsimp only
  rcases Bool.eq_false_or_eq_true on with hon | hon
  · have hs : sampT on (k, a, v, o) = (4, a, v) := by rw [hon]; rfl
    simp only [hs]
    go_enter Try.func19, Try.ntmps19
    go_wp2
    refine bodyPost_ret (v := .agg #[.int .i64 4, .int .i64 a, .int .i32 v]) (by simp [results, Try.results19, go_sem]) rfl ⟨rfl, ((Below.refl w.heap.size w).alloc (Nat.le_refl _) _).alloc (by simp) _⟩
  · have hs : sampT on (k, a, v, o) = (5, a, 0) := by rw [hon]; rfl
    simp only [hs]
    go_enter Try.func19, Try.ntmps19
    go_wp2
    refine bodyPost_ret (v := .agg #[.int .i64 5, .int .i64 a, .int .i32 0]) (by simp [results, Try.results19, go_sem]) rfl ⟨rfl, ((Below.refl w.heap.size w).alloc (Nat.le_refl _) _).alloc (by simp) _⟩
/-- How a lead stands where only its run has met an event. -/
def St.met (st : St) (e : Ev) : St := if e.1 = 1 then { st with n := 0 } else if e.1 = 2 then ⟨st.on, e.2.2.2, st.run e.2.2.2⟩ else st
/-- With which kind of item an event's telling begins. -/
def kindT (st : St) (e : Ev) : Int := if e.1 = 1 then 1 else if e.1 = 2 then (if st.on = true ∧ e.2.2.2 = true ∧ 20 ≤ st.run e.2.2.2 then 2 else if st.on = false ∧ e.2.2.2 = false ∧ 100 ≤ st.run e.2.2.2 then 3 else 4) else 0
set_option maxHeartbeats 1000000 in
theorem meet_k (b : Nat) (st : St) (k a v : Int) (o : Bool) (w : World) (h : StIs w b st) (hn : st.n ≤ 100000) :
    Calls Try.prog 18 #[.pointer (some ⟨b, 0, none⟩), .agg #[.int .i64 k, .int .i64 a, .int .i32 v, .bool o]] w fun e w' => e = .returned (.int .i64 (kindT st (k, a, v, o))) ∧ StIs w' b (st.met (k, a, v, o)) ∧ Kept [b] w w' := by
  have hlt := Has.lt h
  have hA := StIs.kept h ((Kept.refl [] w).alloc (.cells #[.int .i64 k, .int .i64 a, .int .i32 v, .bool o] 37)) (by simp)
  have hKA := (Kept.refl [b] w).alloc (.cells #[.int .i64 k, .int .i64 a, .int .i32 v, .bool o] 37)
  unfold kindT St.met
  dsimp only
  by_cases h1 : k = 1
  · subst h1
    simp only [if_true]
    have hen := end_k b st _ hA
    go_enter Try.func18, Try.ntmps18
    go_wp2_with (go_at_call 20; ((with_reducible refine hen.mono ?_); rintro e W1 ⟨rfl, hS1, hK1⟩))
    go_ret
    exact ⟨rfl, hS1, hKA.trans hK1⟩
  · by_cases h2 : k = 2
    · subst h2
      simp only [if_neg h1, if_true]
      obtain ⟨R, hR⟩ : ∃ R : Int, R = if st.on = true ∧ o = true ∧ 20 ≤ st.run o then 2 else if st.on = false ∧ o = false ∧ 100 ≤ st.run o then 3 else 4 := ⟨_, rfl⟩
      rw [← hR]
      have HR := Lib.hid hR
      clear hR
      go_enter Try.func18, Try.ntmps18
      go_wp2
      have hE := Has.new w 37 #[.int .i64 2, .int .i64 a, .int .i32 v, .bool o]
      obtain ⟨p, hp⟩ : ∃ p, w.heap.size = p := ⟨_, rfl⟩
      obtain ⟨wa, hwa⟩ : ∃ W, W = w.alloc (.cells #[.int .i64 2, .int .i64 a, .int .i32 v, .bool o] 37) := ⟨_, rfl⟩
      rw [← hwa] at hA hKA hE ⊢
      rw [hp] at hE hlt ⊢
      clear hwa h
      refine Reg.begin_ (S := fun W => W.cell? ⟨p, 3, none⟩ = some (.bool o)) (by kernel_rfl) (by exact hE.cell 3) (fun hHeld => ?_)
      have hAd := show StIs wa.drew b st from Has.drew hA
      have hKd := hKA.drewN 1
      have hEd : Has wa.drew p 37 #[.int .i64 2, .int .i64 a, .int .i32 v, .bool o] := hE
      have hKd : Kept [b] w wa.drew := hKd
      generalize wa.drew = wd at *
      clear hA hKA hE
      refine Reg.take (i := 0) (v := ?v1) rfl (by kernel_rfl) (by kernel_rfl) (by kernel_rfl) (by rfl) ?hv1 (by assumption) ?rest1
      case hv1 => first | (intro w hSw; (try dsimp only at hSw); go_simp; done) | (intro w hSw; (try dsimp only at hSw); go_simp; with_reducible rfl)
      (try simp only [Act.put, List.setIfInBounds_toArray, List.set_cons_zero, List.set_cons_succ])
      refine Reg.take (i := 1) (v := ?v2) rfl (by kernel_rfl) (by kernel_rfl) (by kernel_rfl) (by rfl) ?hv2 (by assumption) ?rest2
      case hv2 => first | (intro w hSw; (try dsimp only at hSw); go_simp; done) | (intro w hSw; (try dsimp only at hSw); go_simp; with_reducible rfl)
      (try simp only [Act.put, List.setIfInBounds_toArray, List.set_cons_zero, List.set_cons_succ])
      refine Reg.take (i := 2) (v := ?v3) rfl (by kernel_rfl) (by kernel_rfl) (by kernel_rfl) (by rfl) ?hv3 (by assumption) ?rest3
      case hv3 => first | (intro w hSw; (try dsimp only at hSw); go_simp; done) | (intro w hSw; (try dsimp only at hSw); go_simp; with_reducible rfl)
      (try simp only [Act.put, List.setIfInBounds_toArray, List.set_cons_zero, List.set_cons_succ])
      refine Reg.take (i := 3) (v := ?v4) rfl (by kernel_rfl) (by kernel_rfl) (by kernel_rfl) (by rfl) ?hv4 (by assumption) ?rest4
      case hv4 => first | (intro w hSw; (try dsimp only at hSw); go_simp; done) | (intro w hSw; (try dsimp only at hSw); go_simp; with_reducible rfl)
      (try simp only [Act.put, List.setIfInBounds_toArray, List.set_cons_zero, List.set_cons_succ])
      refine Reg.take (i := 4) (v := ?v5) rfl (by kernel_rfl) (by kernel_rfl) (by kernel_rfl) (by rfl) ?hv5 (by assumption) ?rest5
      case hv5 => first | (intro w hSw; (try dsimp only at hSw); go_simp; done) | (intro w hSw; (try dsimp only at hSw); go_simp; with_reducible rfl)
      (try simp only [Act.put, List.setIfInBounds_toArray, List.set_cons_zero, List.set_cons_succ])
      refine Reg.take (i := 5) (v := ?v6) rfl (by kernel_rfl) (by kernel_rfl) (by kernel_rfl) (by rfl) ?hv6 (by assumption) ?rest6
      case hv6 => first | (intro w hSw; (try dsimp only at hSw); go_simp; done) | (intro w hSw; (try dsimp only at hSw); go_simp; with_reducible rfl)
      (try simp only [Act.put, List.setIfInBounds_toArray, List.set_cons_zero, List.set_cons_succ])
      refine Reg.call (i := 6) rfl (by kernel_rfl) (by rfl) ?_
      intro K hK
      go_simp
      go_at_call 21
      (with_reducible refine (add_k b st o _ hAd hn).mono ?_)
      rintro e W1 ⟨rfl, hS1, hK1⟩
      have hE1 := hK1.has hEd (by simp; omega)
      refine hK.out _ _ (hE1.cell 3) (fun hHeld2 => ?_)
      clear hK K
      (try simp only [Act.put, List.setIfInBounds_toArray, List.set_cons_zero, List.set_cons_succ])
      refine Reg.done (by kernel_rfl) ?_ _
      have htn := turn_k b _ _ hS1
      dsimp only at htn
      rw [← HR.out] at htn
      go_wp2_with (go_at_call 22; ((with_reducible refine htn.mono ?_); rintro e W2 ⟨rfl, rfl⟩))
      go_ret
      exact ⟨rfl, hS1, hKd.trans hK1⟩
    · simp only [if_neg h1, if_neg h2]
      go_enter Try.func18, Try.ntmps18
      go_wp2
      go_ret
      exact ⟨rfl, hA, hKA⟩
end Go.Proofs.Ytlopkmbindfkjaa.Lead
