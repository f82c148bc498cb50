/- What the proofs stand on, part 5. -/
import Derived.Test.YtnoppoimahfknaaPack4
import Derived.Test.YtnoppoimahfknaaPack1
section
/- The landed lookBack. -/
set_option linter.unusedSimpArgs false
set_option linter.unusedVariables false
namespace Go.Proofs.Ytnoppoimahfknaa.Qrs
open Go.RowKit
theorem againT_bd (v : Level.Lv) (t : Int) : (0 ≤ (Level.againT v t).1 ∧ (Level.againT v t).1 ≤ 62914560) ∧ 0 ≤ (Level.againT v t).2 ∧ (Level.againT v t).2 ≤ 62914560 :=
  ⟨Level.goes_bd _ _ 4 (.inr rfl) (Level.nearB_bd v.1) (Level.nearB_bd t), Level.nearB_bd v.2⟩
theorem again_put {W : World} {b f p : Nat} {v : Level.Lv} {l c : Pk} {st : Int} (h : Has W b 88 (cellsD f p v l c st)) (a e : Int) :
    Has ((W.setCell ⟨b, 2, none⟩ (.int .i64 a)).setCell ⟨b, 3, none⟩ (.int .i64 e)) b 88 (cellsD f p (a, e) l c st) ∧ Kept [b] W ((W.setCell ⟨b, 2, none⟩ (.int .i64 a)).setCell ⟨b, 3, none⟩ (.int .i64 e)) := by
  constructor
  · have h9 := (h.set_ 2 (.int .i64 a)).set_ 3 (.int .i64 e)
    simpa [cellsD] using h9
  · exact ((Kept.refl [b] W).setCell (p := ⟨b, 2, none⟩) (.inl (by simp)) _).setCell (p := ⟨b, 3, none⟩) (.inl (by simp)) _
theorem lower_pos (v : Level.Lv) : 0 ≤ Level.lowerT v := by
  have : 256 ≤ Level.upperT v := by unfold Level.upperT; split <;> omega
  unfold Level.lowerT
  omega
theorem back_no {d : D} (h : Fine d) (hr : Pace.lateT d.ds (d.n - (Peak.nums d.last).1) = false ∨ (Peak.nums d.cand).2.2.1 ≤ Level.lowerT d.lv) : backT d = (none, d) := by
  unfold backT
  cases hl : d.last with
  | none => rfl
  | some l => cases hc : d.cand with
    | none => rfl
    | some c =>
      rw [hl, hc] at hr
      simp only
      rw [if_neg]
      intro h9
      rw [Bool.and_eq_true, decide_eq_true_eq] at h9
      rcases hr with hr | hr
      · rw [show (Peak.nums (some l)).1 = l.1 from rfl, h9.1] at hr
        cases hr
      · exact absurd h9.2 (by show ¬ _ < c.2.2.1; have : c.2.2.1 ≤ _ := hr; omega)
theorem back_yes {d : D} (h : Fine d) (h1 : Pace.lateT d.ds (d.n - (Peak.nums d.last).1) = true) (h2 : Level.lowerT d.lv < (Peak.nums d.cand).2.2.1) : ∃ c, d.cand = some c ∧ PkOk c ∧ backT d = (some (tell d c true).1, (tell d c true).2) := by
  unfold backT
  cases hl : d.last with
  | none =>
    rw [h.ds hl] at h1
    unfold Pace.lateT at h1
    simp at h1
  | some l => cases hc : d.cand with
    | none =>
      rw [hc] at h2
      have h3 := lower_pos d.lv
      have h4 : Level.lowerT d.lv < 0 := h2
      omega
    | some c =>
      refine ⟨c, rfl, h.cand c hc, ?_⟩
      rw [hl] at h1
      rw [hc] at h2
      simp only
      rw [if_pos]
      rw [Bool.and_eq_true, decide_eq_true_eq]
      exact ⟨h1, h2⟩
set_option maxHeartbeats 2000000 in
theorem look_k {w0 : World} {b f p : Nat} {Sp : List Nat} {x : Nat} {d : D} {ys : List Bt} {w : World} (M : Mid w0 b f p Sp x d ys w) (hy : ys.length ≤ 900) :
    Calls Try.prog 48 #[.pointer (some ⟨b, 0, none⟩), .int .i64 d.n, .func (.func 47) #[.pointer (some ⟨x, 0, none⟩)] #[]] w fun e w' => e = .returned (.tuple #[]) ∧
      Mid w0 b f p Sp x (backT d).2 (ys ++ (backT d).1.toList) w' := by
  have hf := M.fine
  have hn0 := hf.n0
  have hnb := nums_bd d.last hf.last
  have hwr : IntKind.i64.wrap (d.n - (Peak.nums d.last).1) = d.n - (Peak.nums d.last).1 := by rw [IntKind.wrap_i64]; omega
  have hla := fun (W : World) (M : Mid w0 b f p Sp x d ys W) => Pace.kit.late_any W p Sp d.ds (d.n - (Peak.nums d.last).1) M.pac
  have hlo := fun W => Level.lower_any d.lv.1 d.lv.2 W
  rw [show Level.lowerT (d.lv.1, d.lv.2) = Level.lowerT d.lv from rfl] at hlo
  have HNO := Lib.hid (back_no hf)
  have HYE := Lib.hid (back_yes hf)
  have e1 := (has_all M.head).2.1
  go_enter Try.func48, Try.ntmps48
  go_wp2
  refine Reg.begin_ (S := fun W => W.cell? ⟨b, 1, none⟩ = some (.pointer (some ⟨p, 0, none⟩)) ∧ W.cell? ⟨b, 2, none⟩ = some (.int .i64 d.lv.1) ∧ W.cell? ⟨b, 3, none⟩ = some (.int .i64 d.lv.2) ∧ W.cell? ⟨b, 4, none⟩ = some (.int .i64 (Peak.nums d.last).1) ∧ W.cell? ⟨b, 10, none⟩ = some (.int .i64 (Peak.nums d.cand).2.2.1)) (by kernel_rfl) (by exact ⟨M.head.cell 1, M.head.cell 2, M.head.cell 3, M.head.cell 4, M.head.cell 10⟩) (fun hHeld => ?_)
  refine Reg.take (i := 0) (v := ?v1) rfl (by kernel_rfl) (by kernel_rfl) (by kernel_rfl) (by rfl) ?hv1 (by assumption) ?rest1
  case hv1 => first | (intro w hSw; (try dsimp only at hSw); go_simp; done) | (intro w hSw; (try dsimp only at hSw); go_simp; with_reducible rfl)
  (try simp only [Act.put, List.setIfInBounds_toArray, List.set_cons_zero, List.set_cons_succ])
  refine Reg.take (i := 1) (v := ?v2) rfl (by kernel_rfl) (by kernel_rfl) (by kernel_rfl) (by rfl) ?hv2 (by assumption) ?rest2
  case hv2 => first | (intro w hSw; (try dsimp only at hSw); go_simp; done) | (intro w hSw; (try dsimp only at hSw); go_simp; with_reducible rfl)
  (try simp only [Act.put, List.setIfInBounds_toArray, List.set_cons_zero, List.set_cons_succ])
  refine Reg.take (i := 2) (v := ?v3) rfl (by kernel_rfl) (by kernel_rfl) (by kernel_rfl) (by rfl) ?hv3 (by assumption) ?rest3
  case hv3 => first | (intro w hSw; (try dsimp only at hSw); go_simp; done) | (intro w hSw; (try dsimp only at hSw); go_simp; with_reducible rfl)
  (try simp only [Act.put, List.setIfInBounds_toArray, List.set_cons_zero, List.set_cons_succ])
  refine Reg.take (i := 3) (v := ?v4) rfl (by kernel_rfl) (by kernel_rfl) (by kernel_rfl) (by rfl) ?hv4 (by assumption) ?rest4
  case hv4 => first | (intro w hSw; (try dsimp only at hSw); go_simp; done) | (intro w hSw; (try dsimp only at hSw); go_simp; with_reducible rfl)
  (try simp only [Act.put, List.setIfInBounds_toArray, List.set_cons_zero, List.set_cons_succ])
  refine Reg.take (i := 4) (v := ?v5) rfl (by kernel_rfl) (by kernel_rfl) (by kernel_rfl) (by rfl) ?hv5 (by assumption) ?rest5
  case hv5 => first | (intro w hSw; (try dsimp only at hSw); go_simp; done) | (intro w hSw; (try dsimp only at hSw); go_simp; with_reducible rfl)
  (try simp only [Act.put, List.setIfInBounds_toArray, List.set_cons_zero, List.set_cons_succ])
  refine Reg.take (i := 5) (v := ?v6) rfl (by kernel_rfl) (by kernel_rfl) (by kernel_rfl) (by rfl) ?hv6 (by assumption) ?rest6
  case hv6 => first | (intro w hSw; (try dsimp only at hSw); go_simp; done) | (intro w hSw; (try dsimp only at hSw); go_simp; with_reducible rfl)
  (try simp only [Act.put, List.setIfInBounds_toArray, List.set_cons_zero, List.set_cons_succ])
  refine Reg.take (i := 6) (v := ?v7) rfl (by kernel_rfl) (by kernel_rfl) (by kernel_rfl) (by rfl) ?hv7 (by assumption) ?rest7
  case hv7 => first | (intro w hSw; (try dsimp only at hSw); go_simp; done) | (intro w hSw; (try dsimp only at hSw); go_simp; with_reducible rfl)
  (try simp only [Act.put, List.setIfInBounds_toArray, List.set_cons_zero, List.set_cons_succ])
  refine Reg.take (i := 7) (v := ?v8) rfl (by kernel_rfl) (by kernel_rfl) (by kernel_rfl) (by rfl) ?hv8 (by assumption) ?rest8
  case hv8 => first | (intro w hSw; (try dsimp only at hSw); go_simp; done) | (intro w hSw; (try dsimp only at hSw); go_simp; with_reducible rfl)
  (try simp only [Act.put, List.setIfInBounds_toArray, List.set_cons_zero, List.set_cons_succ])
  refine Reg.take (i := 8) (v := ?v9) rfl (by kernel_rfl) (by kernel_rfl) (by kernel_rfl) (by rfl) ?hv9 (by assumption) ?rest9
  case hv9 => first | (intro w hSw; (try dsimp only at hSw); go_simp; done) | (intro w hSw; (try dsimp only at hSw); go_simp; with_reducible rfl)
  (try simp only [Act.put, List.setIfInBounds_toArray, List.set_cons_zero, List.set_cons_succ])
  refine Reg.take (i := 9) (v := ?v10) rfl (by kernel_rfl) (by kernel_rfl) (by kernel_rfl) (by rfl) ?hv10 (by assumption) ?rest10
  case hv10 => first | (intro w hSw; (try dsimp only at hSw); go_simp; done) | (intro w hSw; (try dsimp only at hSw); go_simp; with_reducible rfl)
  (try simp only [Act.put, List.setIfInBounds_toArray, List.set_cons_zero, List.set_cons_succ])
  refine Reg.take (i := 10) (v := ?v11) rfl (by kernel_rfl) (by kernel_rfl) (by kernel_rfl) (by rfl) ?hv11 (by assumption) ?rest11
  case hv11 => first | (intro w hSw; (try dsimp only at hSw); go_simp; done) | (intro w hSw; (try dsimp only at hSw); go_simp; with_reducible rfl)
  (try simp only [Act.put, List.setIfInBounds_toArray, List.set_cons_zero, List.set_cons_succ])
  refine Reg.take (i := 11) (v := ?v12) rfl (by kernel_rfl) (by kernel_rfl) (by kernel_rfl) (by rfl) ?hv12 (by assumption) ?rest12
  case hv12 => first | (intro w hSw; (try dsimp only at hSw); go_simp; done) | (intro w hSw; (try dsimp only at hSw); go_simp; with_reducible rfl)
  (try simp only [Act.put, List.setIfInBounds_toArray, List.set_cons_zero, List.set_cons_succ])
  refine Reg.take (i := 12) (v := ?v13) rfl (by kernel_rfl) (by kernel_rfl) (by kernel_rfl) (by rfl) ?hv13 (by assumption) ?rest13
  case hv13 => first | (intro w hSw; (try dsimp only at hSw); go_simp; done) | (intro w hSw; (try dsimp only at hSw); go_simp; with_reducible rfl)
  (try simp only [Act.put, List.setIfInBounds_toArray, List.set_cons_zero, List.set_cons_succ])
  have M0 := M.drew
  clear hHeld e1
  generalize w.drew = W0 at *
  refine Reg.call (i := 13) rfl (by kernel_rfl) (by rfl) ?_
  intro K hK
  go_simp
  go_at_call 68
  (refine Calls.mono (by exact hla _ M0) ?_)
  rintro e W1 ⟨rfl, hB1⟩
  have M1 := M0.below hB1
  generalize hr : Pace.lateT d.ds (d.n - (Peak.nums d.last).1) = r at *
  refine hK.out _ _ (by exact ⟨M1.head.cell 1, M1.head.cell 2, M1.head.cell 3, M1.head.cell 4, M1.head.cell 10⟩) (fun hHeld => ?_)
  clear hK K
  (try simp only [Act.put, List.setIfInBounds_toArray, List.set_cons_zero, List.set_cons_succ])
  clear M0
  cases r with
  | false =>
    refine Reg.take (i := 14) (v := ?v14) rfl (by kernel_rfl) (by kernel_rfl) (by kernel_rfl) (by rfl) ?hv14 (by assumption) ?rest14
    case hv14 => first | (intro w hSw; (try dsimp only at hSw); go_simp; done) | (intro w hSw; (try dsimp only at hSw); go_simp; with_reducible rfl)
    (try simp only [Act.put, List.setIfInBounds_toArray, List.set_cons_zero, List.set_cons_succ])
    refine Reg.take (i := 15) (v := ?v15) rfl (by kernel_rfl) (by kernel_rfl) (by kernel_rfl) (by rfl) ?hv15 (by assumption) ?rest15
    case hv15 => first | (intro w hSw; (try dsimp only at hSw); go_simp; done) | (intro w hSw; (try dsimp only at hSw); go_simp; with_reducible rfl)
    (try simp only [Act.put, List.setIfInBounds_toArray, List.set_cons_zero, List.set_cons_succ])
    refine Reg.skip (i := 16) rfl (by kernel_rfl) (by kernel_rfl) (by kernel_rfl) (by rfl) (by assumption) ?_
    (try simp only [Act.put, List.setIfInBounds_toArray, List.set_cons_zero, List.set_cons_succ])
    refine Reg.skip (i := 17) rfl (by kernel_rfl) (by kernel_rfl) (by kernel_rfl) (by rfl) (by assumption) ?_
    (try simp only [Act.put, List.setIfInBounds_toArray, List.set_cons_zero, List.set_cons_succ])
    refine Reg.skip (i := 18) rfl (by kernel_rfl) (by kernel_rfl) (by kernel_rfl) (by rfl) (by assumption) ?_
    (try simp only [Act.put, List.setIfInBounds_toArray, List.set_cons_zero, List.set_cons_succ])
    refine Reg.skip (i := 19) rfl (by kernel_rfl) (by kernel_rfl) (by kernel_rfl) (by rfl) (by assumption) ?_
    (try simp only [Act.put, List.setIfInBounds_toArray, List.set_cons_zero, List.set_cons_succ])
    refine Reg.skip (i := 20) rfl (by kernel_rfl) (by kernel_rfl) (by kernel_rfl) (by rfl) (by assumption) ?_
    (try simp only [Act.put, List.setIfInBounds_toArray, List.set_cons_zero, List.set_cons_succ])
    refine Reg.skip (i := 21) rfl (by kernel_rfl) (by kernel_rfl) (by kernel_rfl) (by rfl) (by assumption) ?_
    (try simp only [Act.put, List.setIfInBounds_toArray, List.set_cons_zero, List.set_cons_succ])
    refine Reg.skip (i := 22) rfl (by kernel_rfl) (by kernel_rfl) (by kernel_rfl) (by rfl) (by assumption) ?_
    (try simp only [Act.put, List.setIfInBounds_toArray, List.set_cons_zero, List.set_cons_succ])
    refine Reg.skip (i := 23) rfl (by kernel_rfl) (by kernel_rfl) (by kernel_rfl) (by rfl) (by assumption) ?_
    (try simp only [Act.put, List.setIfInBounds_toArray, List.set_cons_zero, List.set_cons_succ])
    refine Reg.skip (i := 24) rfl (by kernel_rfl) (by kernel_rfl) (by kernel_rfl) (by rfl) (by assumption) ?_
    (try simp only [Act.put, List.setIfInBounds_toArray, List.set_cons_zero, List.set_cons_succ])
    refine Reg.skip (i := 25) rfl (by kernel_rfl) (by kernel_rfl) (by kernel_rfl) (by rfl) (by assumption) ?_
    (try simp only [Act.put, List.setIfInBounds_toArray, List.set_cons_zero, List.set_cons_succ])
    refine Reg.skip (i := 26) rfl (by kernel_rfl) (by kernel_rfl) (by kernel_rfl) (by rfl) (by assumption) ?_
    (try simp only [Act.put, List.setIfInBounds_toArray, List.set_cons_zero, List.set_cons_succ])
    refine Reg.skip (i := 27) rfl (by kernel_rfl) (by kernel_rfl) (by kernel_rfl) (by rfl) (by assumption) ?_
    (try simp only [Act.put, List.setIfInBounds_toArray, List.set_cons_zero, List.set_cons_succ])
    refine Reg.skip (i := 28) rfl (by kernel_rfl) (by kernel_rfl) (by kernel_rfl) (by rfl) (by assumption) ?_
    (try simp only [Act.put, List.setIfInBounds_toArray, List.set_cons_zero, List.set_cons_succ])
    refine Reg.take (i := 29) (v := ?v16) rfl (by kernel_rfl) (by kernel_rfl) (by kernel_rfl) (by rfl) ?hv16 (by assumption) ?rest16
    case hv16 => first | (intro w hSw; (try dsimp only at hSw); go_simp; done) | (intro w hSw; (try dsimp only at hSw); go_simp; with_reducible rfl)
    (try simp only [Act.put, List.setIfInBounds_toArray, List.set_cons_zero, List.set_cons_succ])
    refine Reg.done (by kernel_rfl) ?_ _
    clear hHeld
    go_wp2
    refine bodyPost_ret (results_none rfl _ _ _) rfl ⟨rfl, ?_⟩
    rw [HNO.out (.inl (by first | exact hr | trivial))]
    simpa using M1
  | true =>
    generalize hu : Level.lowerT d.lv = u at *
    generalize ht : (Peak.nums d.cand).2.2.1 = t at *
    refine Reg.take (i := 14) (v := ?v17) rfl (by kernel_rfl) (by kernel_rfl) (by kernel_rfl) (by rfl) ?hv17 (by assumption) ?rest17
    case hv17 => first | (intro w hSw; (try dsimp only at hSw); go_simp; done) | (intro w hSw; (try dsimp only at hSw); go_simp; with_reducible rfl)
    (try simp only [Act.put, List.setIfInBounds_toArray, List.set_cons_zero, List.set_cons_succ])
    refine Reg.take (i := 15) (v := ?v18) rfl (by kernel_rfl) (by kernel_rfl) (by kernel_rfl) (by rfl) ?hv18 (by assumption) ?rest18
    case hv18 => first | (intro w hSw; (try dsimp only at hSw); go_simp; done) | (intro w hSw; (try dsimp only at hSw); go_simp; with_reducible rfl)
    (try simp only [Act.put, List.setIfInBounds_toArray, List.set_cons_zero, List.set_cons_succ])
    refine Reg.take (i := 16) (v := ?v19) rfl (by kernel_rfl) (by kernel_rfl) (by kernel_rfl) (by rfl) ?hv19 (by assumption) ?rest19
    case hv19 => first | (intro w hSw; (try dsimp only at hSw); go_simp; done) | (intro w hSw; (try dsimp only at hSw); go_simp; with_reducible rfl)
    (try simp only [Act.put, List.setIfInBounds_toArray, List.set_cons_zero, List.set_cons_succ])
    refine Reg.take (i := 17) (v := ?v20) rfl (by kernel_rfl) (by kernel_rfl) (by kernel_rfl) (by rfl) ?hv20 (by assumption) ?rest20
    case hv20 => first | (intro w hSw; (try dsimp only at hSw); go_simp; done) | (intro w hSw; (try dsimp only at hSw); go_simp; with_reducible rfl)
    (try simp only [Act.put, List.setIfInBounds_toArray, List.set_cons_zero, List.set_cons_succ])
    refine Reg.take (i := 18) (v := ?v21) rfl (by kernel_rfl) (by kernel_rfl) (by kernel_rfl) (by rfl) ?hv21 (by assumption) ?rest21
    case hv21 => first | (intro w hSw; (try dsimp only at hSw); go_simp; done) | (intro w hSw; (try dsimp only at hSw); go_simp; with_reducible rfl)
    (try simp only [Act.put, List.setIfInBounds_toArray, List.set_cons_zero, List.set_cons_succ])
    refine Reg.take (i := 19) (v := ?v22) rfl (by kernel_rfl) (by kernel_rfl) (by kernel_rfl) (by rfl) ?hv22 (by assumption) ?rest22
    case hv22 => first | (intro w hSw; (try dsimp only at hSw); go_simp; done) | (intro w hSw; (try dsimp only at hSw); go_simp; with_reducible rfl)
    (try simp only [Act.put, List.setIfInBounds_toArray, List.set_cons_zero, List.set_cons_succ])
    refine Reg.take (i := 20) (v := ?v23) rfl (by kernel_rfl) (by kernel_rfl) (by kernel_rfl) (by rfl) ?hv23 (by assumption) ?rest23
    case hv23 => first | (intro w hSw; (try dsimp only at hSw); go_simp; done) | (intro w hSw; (try dsimp only at hSw); go_simp; with_reducible rfl)
    (try simp only [Act.put, List.setIfInBounds_toArray, List.set_cons_zero, List.set_cons_succ])
    refine Reg.take (i := 21) (v := ?v24) rfl (by kernel_rfl) (by kernel_rfl) (by kernel_rfl) (by rfl) ?hv24 (by assumption) ?rest24
    case hv24 => first | (intro w hSw; (try dsimp only at hSw); go_simp; done) | (intro w hSw; (try dsimp only at hSw); go_simp; with_reducible rfl)
    (try simp only [Act.put, List.setIfInBounds_toArray, List.set_cons_zero, List.set_cons_succ])
    refine Reg.take (i := 22) (v := ?v25) rfl (by kernel_rfl) (by kernel_rfl) (by kernel_rfl) (by rfl) ?hv25 (by assumption) ?rest25
    case hv25 => first | (intro w hSw; (try dsimp only at hSw); go_simp; done) | (intro w hSw; (try dsimp only at hSw); go_simp; with_reducible rfl)
    (try simp only [Act.put, List.setIfInBounds_toArray, List.set_cons_zero, List.set_cons_succ])
    refine Reg.take (i := 23) (v := ?v26) rfl (by kernel_rfl) (by kernel_rfl) (by kernel_rfl) (by rfl) ?hv26 (by assumption) ?rest26
    case hv26 => first | (intro w hSw; (try dsimp only at hSw); go_simp; done) | (intro w hSw; (try dsimp only at hSw); go_simp; with_reducible rfl)
    (try simp only [Act.put, List.setIfInBounds_toArray, List.set_cons_zero, List.set_cons_succ])
    refine Reg.take (i := 24) (v := ?v27) rfl (by kernel_rfl) (by kernel_rfl) (by kernel_rfl) (by rfl) ?hv27 (by assumption) ?rest27
    case hv27 => first | (intro w hSw; (try dsimp only at hSw); go_simp; done) | (intro w hSw; (try dsimp only at hSw); go_simp; with_reducible rfl)
    (try simp only [Act.put, List.setIfInBounds_toArray, List.set_cons_zero, List.set_cons_succ])
    refine Reg.take (i := 25) (v := ?v28) rfl (by kernel_rfl) (by kernel_rfl) (by kernel_rfl) (by rfl) ?hv28 (by assumption) ?rest28
    case hv28 => first | (intro w hSw; (try dsimp only at hSw); go_simp; done) | (intro w hSw; (try dsimp only at hSw); go_simp; with_reducible rfl)
    (try simp only [Act.put, List.setIfInBounds_toArray, List.set_cons_zero, List.set_cons_succ])
    refine Reg.take (i := 26) (v := ?v29) rfl (by kernel_rfl) (by kernel_rfl) (by kernel_rfl) (by rfl) ?hv29 (by assumption) ?rest29
    case hv29 => first | (intro w hSw; (try dsimp only at hSw); go_simp; done) | (intro w hSw; (try dsimp only at hSw); go_simp; with_reducible rfl)
    (try simp only [Act.put, List.setIfInBounds_toArray, List.set_cons_zero, List.set_cons_succ])
    refine Reg.call (i := 27) rfl (by kernel_rfl) (by rfl) ?_
    intro K hK
    go_simp
    go_at_call 69
    (refine Calls.mono (by exact hlo _) ?_)
    rintro e W2 ⟨rfl, hB2⟩
    have M2 := M1.below hB2
    have t10 : W2.cell? ⟨b, 10, none⟩ = some (.int .i64 t) := by rw [← ht]; exact M2.head.cell 10
    refine hK.out _ _ (by exact ⟨M2.head.cell 1, M2.head.cell 2, M2.head.cell 3, M2.head.cell 4, t10⟩) (fun hHeld => ?_)
    clear hK K
    (try simp only [Act.put, List.setIfInBounds_toArray, List.set_cons_zero, List.set_cons_succ])
    clear M1
    refine Reg.take (i := 28) (v := ?v30) rfl (by kernel_rfl) (by kernel_rfl) (by kernel_rfl) (by rfl) ?hv30 (by assumption) ?rest30
    case hv30 => first | (intro w hSw; (try dsimp only at hSw); go_simp; done) | (intro w hSw; (try dsimp only at hSw); go_simp; with_reducible rfl)
    (try simp only [Act.put, List.setIfInBounds_toArray, List.set_cons_zero, List.set_cons_succ])
    refine Reg.take (i := 29) (v := ?v31) rfl (by kernel_rfl) (by kernel_rfl) (by kernel_rfl) (by rfl) ?hv31 (by assumption) ?rest31
    case hv31 => first | (intro w hSw; (try dsimp only at hSw); go_simp; done) | (intro w hSw; (try dsimp only at hSw); go_simp; with_reducible rfl)
    (try simp only [Act.put, List.setIfInBounds_toArray, List.set_cons_zero, List.set_cons_succ])
    refine Reg.done (by kernel_rfl) ?_ _
    clear hHeld
    by_cases hle : t ≤ u
    · go_wp2
      refine bodyPost_ret (results_none rfl _ _ _) rfl ⟨rfl, ?_⟩
      rw [HNO.out (.inr hle)]
      simpa using M2
    · go_wp2
      obtain ⟨c, hc, hco, hbk⟩ := HYE.out (by first | exact hr | trivial) (by omega)
      have hct : t = c.2.2.1 := by rw [← ht, hc]; rfl
      obtain ⟨c0, c1, c2, c3⟩ := c
      dsimp only at hct
      rw [hct] at ht hle t10 ⊢
      clear t10 HNO HYE hct
      have hal := Level.again_any c2 d.lv.1 d.lv.2
      have hLb := againT_bd d.lv c2
      rw [show Level.againT (d.lv.1, d.lv.2) c2 = Level.againT d.lv c2 from rfl] at hal
      generalize hL : Level.againT d.lv c2 = L at hal hLb
      obtain ⟨L1, L2⟩ := L
      unfold Level.lvV at hal
      dsimp only at hal hLb
      have m10 : W2.cell? ⟨b, 10, none⟩ = some (.int .i64 c2) := by rw [← ht]; exact M2.head.cell 10
      refine Till.begin_ (T := [16]) (S := fun W => W.cell? ⟨b, 2, none⟩ = some (.int .i64 d.lv.1) ∧ W.cell? ⟨b, 3, none⟩ = some (.int .i64 d.lv.2) ∧ W.cell? ⟨b, 10, none⟩ = some (.int .i64 c2)) (by kernel_rfl) (by exact ⟨M2.head.cell 2, M2.head.cell 3, m10⟩) (fun hHeld => ?_)
      refine Till.take (i := 0) (v := ?v32) rfl (by kernel_rfl) (by kernel_rfl) (by kernel_rfl) (by kernel_rfl) (by rfl) ?hv32 (by assumption) ?rest32
      case hv32 => first | (intro w hSw; (try dsimp only at hSw); go_simp; done) | (intro w hSw; (try dsimp only at hSw); go_simp; with_reducible rfl)
      (try simp only [Act.put, List.setIfInBounds_toArray, List.set_cons_zero, List.set_cons_succ])
      refine Till.take (i := 1) (v := ?v33) rfl (by kernel_rfl) (by kernel_rfl) (by kernel_rfl) (by kernel_rfl) (by rfl) ?hv33 (by assumption) ?rest33
      case hv33 => first | (intro w hSw; (try dsimp only at hSw); go_simp; done) | (intro w hSw; (try dsimp only at hSw); go_simp; with_reducible rfl)
      (try simp only [Act.put, List.setIfInBounds_toArray, List.set_cons_zero, List.set_cons_succ])
      refine Till.take (i := 2) (v := ?v34) rfl (by kernel_rfl) (by kernel_rfl) (by kernel_rfl) (by kernel_rfl) (by rfl) ?hv34 (by assumption) ?rest34
      case hv34 => first | (intro w hSw; (try dsimp only at hSw); go_simp; done) | (intro w hSw; (try dsimp only at hSw); go_simp; with_reducible rfl)
      (try simp only [Act.put, List.setIfInBounds_toArray, List.set_cons_zero, List.set_cons_succ])
      refine Till.take (i := 3) (v := ?v35) rfl (by kernel_rfl) (by kernel_rfl) (by kernel_rfl) (by kernel_rfl) (by rfl) ?hv35 (by assumption) ?rest35
      case hv35 => first | (intro w hSw; (try dsimp only at hSw); go_simp; done) | (intro w hSw; (try dsimp only at hSw); go_simp; with_reducible rfl)
      (try simp only [Act.put, List.setIfInBounds_toArray, List.set_cons_zero, List.set_cons_succ])
      refine Till.take (i := 4) (v := ?v36) rfl (by kernel_rfl) (by kernel_rfl) (by kernel_rfl) (by kernel_rfl) (by rfl) ?hv36 (by assumption) ?rest36
      case hv36 => first | (intro w hSw; (try dsimp only at hSw); go_simp; done) | (intro w hSw; (try dsimp only at hSw); go_simp; with_reducible rfl)
      (try simp only [Act.put, List.setIfInBounds_toArray, List.set_cons_zero, List.set_cons_succ])
      refine Till.take (i := 5) (v := ?v37) rfl (by kernel_rfl) (by kernel_rfl) (by kernel_rfl) (by kernel_rfl) (by rfl) ?hv37 (by assumption) ?rest37
      case hv37 => first | (intro w hSw; (try dsimp only at hSw); go_simp; done) | (intro w hSw; (try dsimp only at hSw); go_simp; with_reducible rfl)
      (try simp only [Act.put, List.setIfInBounds_toArray, List.set_cons_zero, List.set_cons_succ])
      refine Till.take (i := 6) (v := ?v38) rfl (by kernel_rfl) (by kernel_rfl) (by kernel_rfl) (by kernel_rfl) (by rfl) ?hv38 (by assumption) ?rest38
      case hv38 => first | (intro w hSw; (try dsimp only at hSw); go_simp; done) | (intro w hSw; (try dsimp only at hSw); go_simp; with_reducible rfl)
      (try simp only [Act.put, List.setIfInBounds_toArray, List.set_cons_zero, List.set_cons_succ])
      refine Till.take (i := 7) (v := ?v39) rfl (by kernel_rfl) (by kernel_rfl) (by kernel_rfl) (by kernel_rfl) (by rfl) ?hv39 (by assumption) ?rest39
      case hv39 => first | (intro w hSw; (try dsimp only at hSw); go_simp; done) | (intro w hSw; (try dsimp only at hSw); go_simp; with_reducible rfl)
      (try simp only [Act.put, List.setIfInBounds_toArray, List.set_cons_zero, List.set_cons_succ])
      refine Till.take (i := 8) (v := ?v40) rfl (by kernel_rfl) (by kernel_rfl) (by kernel_rfl) (by kernel_rfl) (by rfl) ?hv40 (by assumption) ?rest40
      case hv40 => first | (intro w hSw; (try dsimp only at hSw); go_simp; done) | (intro w hSw; (try dsimp only at hSw); go_simp; with_reducible rfl)
      (try simp only [Act.put, List.setIfInBounds_toArray, List.set_cons_zero, List.set_cons_succ])
      refine Till.take (i := 9) (v := ?v41) rfl (by kernel_rfl) (by kernel_rfl) (by kernel_rfl) (by kernel_rfl) (by rfl) ?hv41 (by assumption) ?rest41
      case hv41 => first | (intro w hSw; (try dsimp only at hSw); go_simp; done) | (intro w hSw; (try dsimp only at hSw); go_simp; with_reducible rfl)
      (try simp only [Act.put, List.setIfInBounds_toArray, List.set_cons_zero, List.set_cons_succ])
      refine Till.take (i := 10) (v := ?v42) rfl (by kernel_rfl) (by kernel_rfl) (by kernel_rfl) (by kernel_rfl) (by rfl) ?hv42 (by assumption) ?rest42
      case hv42 => first | (intro w hSw; (try dsimp only at hSw); go_simp; done) | (intro w hSw; (try dsimp only at hSw); go_simp; with_reducible rfl)
      (try simp only [Act.put, List.setIfInBounds_toArray, List.set_cons_zero, List.set_cons_succ])
      refine Till.take (i := 11) (v := ?v43) rfl (by kernel_rfl) (by kernel_rfl) (by kernel_rfl) (by kernel_rfl) (by rfl) ?hv43 (by assumption) ?rest43
      case hv43 => first | (intro w hSw; (try dsimp only at hSw); go_simp; done) | (intro w hSw; (try dsimp only at hSw); go_simp; with_reducible rfl)
      (try simp only [Act.put, List.setIfInBounds_toArray, List.set_cons_zero, List.set_cons_succ])
      have Ma := M2.drew
      clear hHeld M2 m10
      generalize W2.drew = Wa at *
      refine Till.call (i := 12) rfl (by kernel_rfl) (by rfl) ?_
      intro K hK
      go_simp
      go_at_call 70
      (refine Calls.mono (by exact hal _) ?_)
      rintro e Wc ⟨rfl, hBc⟩
      have Mc := Ma.below hBc
      have m10 : Wc.cell? ⟨b, 10, none⟩ = some (.int .i64 c2) := by rw [← ht]; exact Mc.head.cell 10
      refine hK.out _ _ (by exact ⟨Mc.head.cell 2, Mc.head.cell 3, m10⟩) (fun hHeld2 => ?_)
      clear hK K Ma
      (try simp only [Act.put, List.setIfInBounds_toArray, List.set_cons_zero, List.set_cons_succ])
      refine Till.take (i := 13) (v := ?v44) rfl (by kernel_rfl) (by kernel_rfl) (by kernel_rfl) (by kernel_rfl) (by rfl) ?hv44 (by assumption) ?rest44
      case hv44 => first | (intro w hSw; (try dsimp only at hSw); go_simp; done) | (intro w hSw; (try dsimp only at hSw); go_simp; with_reducible rfl)
      (try simp only [Act.put, List.setIfInBounds_toArray, List.set_cons_zero, List.set_cons_succ])
      refine Till.take (i := 14) (v := ?v45) rfl (by kernel_rfl) (by kernel_rfl) (by kernel_rfl) (by kernel_rfl) (by rfl) ?hv45 (by assumption) ?rest45
      case hv45 => first | (intro w hSw; (try dsimp only at hSw); go_simp; done) | (intro w hSw; (try dsimp only at hSw); go_simp; with_reducible rfl)
      (try simp only [Act.put, List.setIfInBounds_toArray, List.set_cons_zero, List.set_cons_succ])
      refine Till.take (i := 15) (v := ?v46) rfl (by kernel_rfl) (by kernel_rfl) (by kernel_rfl) (by kernel_rfl) (by rfl) ?hv46 (by assumption) ?rest46
      case hv46 => first | (intro w hSw; (try dsimp only at hSw); go_simp; done) | (intro w hSw; (try dsimp only at hSw); go_simp; with_reducible rfl)
      (try simp only [Act.put, List.setIfInBounds_toArray, List.set_cons_zero, List.set_cons_succ])
      clear hHeld2
      have c2' : Wc.cell? ⟨b, 2, none⟩ = some (.int .i64 d.lv.1) := Mc.head.cell 2
      have c3' : Wc.cell? ⟨b, 3, none⟩ = some (.int .i64 d.lv.2) := Mc.head.cell 3
      have g2 := Mc.head.frozen 2
      have g3 := Mc.head.frozen 3
      have hP := again_put Mc.head L1 L2
      have M6 : Mid w0 b f p Sp x { d with lv := (L1, L2) } ys _ := Mc.cells hP.2 hP.1 ⟨hf.n0, hf.st, hLb, hf.last, hf.cand, hf.ds⟩ rfl rfl rfl rfl
      refine Till.put (i := 16) rfl (by kernel_rfl) (by rfl) (by rfl) ?_
      intro K hK
      go_simp
      refine hK.out _ _ ?_
      clear hK K
      (try simp only [Act.put, List.setIfInBounds_toArray, List.set_cons_zero, List.set_cons_succ])
      refine Till.done (by kernel_rfl) ?_ _
      clear c2' c3' g2 g3 hP Mc m10
      generalize (Wc.setCell ⟨b, 2, none⟩ (.int .i64 L1)).setCell ⟨b, 3, none⟩ (.int .i64 L2) = W6 at *
      have bt := beat_k (c0, c1, c2, c3) true M6 hco (by omega)
      unfold pkI at bt
      dsimp only at bt
      have hH6 := M6.head
      rw [show ({ d with lv := (L1, L2) } : D).cand = d.cand from rfl, hc] at hH6
      have x0 : W6.cell? ⟨b, 8, none⟩ = some (.int .i64 c0) := hH6.cell 8
      have x1 : W6.cell? ⟨b, 9, none⟩ = some (.int .i64 c1) := hH6.cell 9
      have x2 : W6.cell? ⟨b, 10, none⟩ = some (.int .i64 c2) := hH6.cell 10
      have x3 : W6.cell? ⟨b, 11, none⟩ = some (.int .i64 c3) := hH6.cell 11
      clear hH6 M6
      go_wp2_with (go_at_call 67; ((refine Calls.mono (by exact bt) ?_); rintro e W9 ⟨rfl, M9⟩))
      go_end0
      refine ⟨rfl, ?_⟩
      rw [hbk]
      have hT2 : (tell d (c0, c1, c2, c3) true).2 = beatT { d with lv := (L1, L2) } (c0, c1, c2, c3) := by rw [← hL]; rfl
      rw [hT2]
      exact M9
end Go.Proofs.Ytnoppoimahfknaa.Qrs
end
section
/- The landed detector: New, learn, Push. -/
set_option linter.unusedSimpArgs false
set_option linter.unusedVariables false
namespace Go.Proofs.Ytnoppoimahfknaa.Qrs
open Go.RowKit
theorem first_bd (ts : List Int) : 0 ≤ Level.firstT ts ∧ Level.firstT ts ≤ 62914560 := by
  have : ∀ (ts : List Int) (s : Int), 0 ≤ s ∧ s ≤ 62914560 → 0 ≤ ts.foldl (fun s t => if s < Level.nearB t then Level.nearB t else s) s ∧ ts.foldl (fun s t => if s < Level.nearB t then Level.nearB t else s) s ≤ 62914560 := fun ts => by
    induction ts with
    | nil => exact fun s h => h
    | cons t ts ih =>
      intro s h
      rw [List.foldl_cons]
      refine ih _ ?_
      have := Level.nearB_bd t
      split <;> omega
  exact this ts 0 (by omega)
theorem first_more (ts : List Int) (t : Int) : Level.firstT (ts ++ [t]) = (if Level.firstT ts < Level.firstT [t] then Level.firstT [t] else Level.firstT ts) := by
  have h1 : Level.firstT [t] = Level.nearB t := by
    have := Level.nearB_bd t
    show (if (0 : Int) < Level.nearB t then Level.nearB t else 0) = _
    split <;> omega
  rw [h1]
  unfold Level.firstT
  rw [List.foldl_append]
  rfl
theorem first_none (ts : List Int) : (if Level.firstT ts < Level.firstT [0] then Level.firstT [0] else Level.firstT ts) = Level.firstT ts := by
  have := (first_bd ts).1
  rw [show Level.firstT [0] = 0 from by decide, if_neg (by omega)]
set_option maxHeartbeats 1000000 in
theorem learn_k (b f p : Nat) (v : Level.Lv) (l c : Pk) (st t : Int) (A : Option Addr) (k : Nat) (w : World) (hH : Has w b 88 (cellsD f p v l c st)) (hV : RI64.Vals w A 1 [t]) (hv : 0 ≤ v.1 ∧ v.1 ≤ 62914560) :
    Calls Try.prog 45 #[.pointer (some ⟨b, 0, none⟩), .slice A 1 k] w fun e w' => e = .returned (.tuple #[]) ∧
      Has w' b 88 (cellsD f p (if v.1 < Level.firstT [t] then Level.firstT [t] else v.1, v.2) l c st) ∧ Kept [b] w w' := by
  obtain ⟨s1, s2⟩ := v
  have hfi := Level.first_any A 1 k [t]
  have hfb := first_bd [t]
  dsimp only at hv ⊢
  unfold Level.lvV at hfi
  dsimp only at hfi
  generalize Level.firstT [t] = u at *
  have hfd : ∀ w : World, (Instr.field 33 (.agg #[.int .i64 u, .int .i64 0]) 0).run Try.prog w = .ok (.int .i64 u) w := fun _ => by kernel_rfl
  generalize hm : (if s1 < u then u else s1) = m at *
  go_enter Try.func45, Try.ntmps45
  go_wp2
  refine Till.begin_ (T := [13]) (S := fun W => W.cell? ⟨b, 2, none⟩ = some (.int .i64 s1)) (by kernel_rfl) (by exact hH.cell 2) (fun hHeld => ?_)
  refine Till.take (i := 0) (v := ?v1) rfl (by kernel_rfl) (by kernel_rfl) (by kernel_rfl) (by kernel_rfl) (by rfl) ?hv1 (by assumption) ?rest1
  case hv1 => first | (intro w hSw; (try dsimp only at hSw); go_simp; done) | (intro w hSw; (try dsimp only at hSw); go_simp; with_reducible rfl)
  (try simp only [Act.put, List.setIfInBounds_toArray, List.set_cons_zero, List.set_cons_succ])
  refine Till.take (i := 1) (v := ?v2) rfl (by kernel_rfl) (by kernel_rfl) (by kernel_rfl) (by kernel_rfl) (by rfl) ?hv2 (by assumption) ?rest2
  case hv2 => first | (intro w hSw; (try dsimp only at hSw); go_simp; done) | (intro w hSw; (try dsimp only at hSw); go_simp; with_reducible rfl)
  (try simp only [Act.put, List.setIfInBounds_toArray, List.set_cons_zero, List.set_cons_succ])
  refine Till.take (i := 2) (v := ?v3) rfl (by kernel_rfl) (by kernel_rfl) (by kernel_rfl) (by kernel_rfl) (by rfl) ?hv3 (by assumption) ?rest3
  case hv3 => first | (intro w hSw; (try dsimp only at hSw); go_simp; done) | (intro w hSw; (try dsimp only at hSw); go_simp; with_reducible rfl)
  (try simp only [Act.put, List.setIfInBounds_toArray, List.set_cons_zero, List.set_cons_succ])
  refine Till.take (i := 3) (v := ?v4) rfl (by kernel_rfl) (by kernel_rfl) (by kernel_rfl) (by kernel_rfl) (by rfl) ?hv4 (by assumption) ?rest4
  case hv4 => first | (intro w hSw; (try dsimp only at hSw); go_simp; done) | (intro w hSw; (try dsimp only at hSw); go_simp; with_reducible rfl)
  (try simp only [Act.put, List.setIfInBounds_toArray, List.set_cons_zero, List.set_cons_succ])
  refine Till.take (i := 4) (v := ?v5) rfl (by kernel_rfl) (by kernel_rfl) (by kernel_rfl) (by kernel_rfl) (by rfl) ?hv5 (by assumption) ?rest5
  case hv5 => first | (intro w hSw; (try dsimp only at hSw); go_simp; done) | (intro w hSw; (try dsimp only at hSw); go_simp; with_reducible rfl)
  (try simp only [Act.put, List.setIfInBounds_toArray, List.set_cons_zero, List.set_cons_succ])
  refine Till.take (i := 5) (v := ?v6) rfl (by kernel_rfl) (by kernel_rfl) (by kernel_rfl) (by kernel_rfl) (by rfl) ?hv6 (by assumption) ?rest6
  case hv6 => first | (intro w hSw; (try dsimp only at hSw); go_simp; done) | (intro w hSw; (try dsimp only at hSw); go_simp; with_reducible rfl)
  (try simp only [Act.put, List.setIfInBounds_toArray, List.set_cons_zero, List.set_cons_succ])
  refine Till.take (i := 6) (v := ?v7) rfl (by kernel_rfl) (by kernel_rfl) (by kernel_rfl) (by kernel_rfl) (by rfl) ?hv7 (by assumption) ?rest7
  case hv7 => first | (intro w hSw; (try dsimp only at hSw); go_simp; done) | (intro w hSw; (try dsimp only at hSw); go_simp; with_reducible rfl)
  (try simp only [Act.put, List.setIfInBounds_toArray, List.set_cons_zero, List.set_cons_succ])
  have hHd : Has w.drew b 88 (cellsD f p (s1, s2) l c st) := hH
  have hVd : RI64.Vals w.drew A 1 [t] := hV.kept ((Kept.refl [] w).drewN 1) (by simp)
  have hKd : Kept [b] w w.drew := (Kept.refl [b] w).drewN 1
  clear hHeld
  generalize w.drew = W1 at *
  refine Till.call (i := 7) rfl (by kernel_rfl) (by rfl) ?_
  intro K hK
  go_simp
  go_at_call 61
  (refine Calls.mono (by exact hfi W1 hVd (by omega)) ?_)
  rintro e W2 ⟨rfl, hB2⟩
  have hH2 := hHd.below hB2 hHd.lt
  have hK2 : Kept [b] w W2 := hKd.trans (Kept.of_below hB2)
  refine hK.out _ _ (by exact hH2.cell 2) (fun hHeld => ?_)
  clear hK K hHd hVd hKd hB2
  (try simp only [Act.put, List.setIfInBounds_toArray, List.set_cons_zero, List.set_cons_succ])
  refine Till.take (i := 8) (v := ?v8) rfl (by kernel_rfl) (by kernel_rfl) (by kernel_rfl) (by kernel_rfl) (by rfl) ?hv8 (by assumption) ?rest8
  case hv8 => first | (intro w hSw; (try dsimp only at hSw); go_simp; done) | (intro w hSw; (try dsimp only at hSw); go_simp; with_reducible rfl)
  (try simp only [Act.put, List.setIfInBounds_toArray, List.set_cons_zero, List.set_cons_succ])
  refine Till.call (i := 9) rfl (by kernel_rfl) (by rfl) ?_
  intro K hK
  go_simp
  refine hK.out _ _ (by exact hH2.cell 2) (fun hHeld2 => ?_)
  clear hK K
  (try simp only [Act.put, List.setIfInBounds_toArray, List.set_cons_zero, List.set_cons_succ])
  refine Till.take (i := 10) (v := ?v9) rfl (by kernel_rfl) (by kernel_rfl) (by kernel_rfl) (by kernel_rfl) (by rfl) ?hv9 (by assumption) ?rest9
  case hv9 => first | (intro w hSw; (try dsimp only at hSw); go_simp; done) | (intro w hSw; (try dsimp only at hSw); go_simp; with_reducible rfl)
  (try simp only [Act.put, List.setIfInBounds_toArray, List.set_cons_zero, List.set_cons_succ])
  refine Till.take (i := 11) (v := ?v10) rfl (by kernel_rfl) (by kernel_rfl) (by kernel_rfl) (by kernel_rfl) (by rfl) ?hv10 (by assumption) ?rest10
  case hv10 => first | (intro w hSw; (try dsimp only at hSw); go_simp; done) | (intro w hSw; (try dsimp only at hSw); go_simp; with_reducible rfl)
  (try simp only [Act.put, List.setIfInBounds_toArray, List.set_cons_zero, List.set_cons_succ])
  refine Till.take (i := 12) (v := ?v11) rfl (by kernel_rfl) (by kernel_rfl) (by kernel_rfl) (by kernel_rfl) (by rfl) ?hv11 (by assumption) ?rest11
  case hv11 => first | (intro w hSw; (try dsimp only at hSw); go_simp; done) | (intro w hSw; (try dsimp only at hSw); go_simp; with_reducible rfl)
  (try simp only [Act.put, List.setIfInBounds_toArray, List.set_cons_zero, List.set_cons_succ])
  have c2 : W2.cell? ⟨b, 2, none⟩ = some (.int .i64 s1) := hH2.cell 2
  have g2 := hH2.frozen 2
  have hH3 : Has (W2.setCell ⟨b, 2, none⟩ (.int .i64 m)) b 88 (cellsD f p (m, s2) l c st) := by
    have h9 := hH2.set_ 2 (.int .i64 m)
    simpa [cellsD] using h9
  have hK3 := hK2.setCell (p := ⟨b, 2, none⟩) (.inl (by simp)) (.int .i64 m)
  refine Till.put (i := 13) rfl (by kernel_rfl) (by rfl) (by rfl) ?_
  intro K hK
  go_simp
  refine hK.out _ _ ?_
  clear hK K
  (try simp only [Act.put, List.setIfInBounds_toArray, List.set_cons_zero, List.set_cons_succ])
  refine Till.done (by kernel_rfl) ?_ _
  clear c2 g2 hHeld hHeld2
  go_wp2
  go_end0
  exact ⟨rfl, hH3, hK3⟩
/-- A peak that a finder finds. -/
theorem pk_ok {w : World} {f : Nat} {s : Peak.St} {n : Int} (h : Peak.Fil w f s n) (hn : 0 ≤ n ∧ n ≤ 1000000000) (ho : ∀ t a p, s = .rises t a p → 0 ≤ a ∧ a < n) (x e : Int) (p : Pk) (hp : (Peak.stepT s n x e).1 = some p) : PkOk p := by
  obtain ⟨v, _, hO⟩ := h
  cases s with
  | falls o =>
    unfold Peak.stepT at hp
    simp only at hp
    split at hp <;> cases hp
  | rises t a q =>
    obtain ⟨_, h1, h2, h3⟩ := hO
    have ha := ho t a q rfl
    have hd := Peak.more_bd q _ h3 (Peak.distD_bd e)
    unfold Peak.stepT at hp
    simp only at hp
    split at hp
    · cases hp
    · split at hp
      · injection hp with hp
        subst hp
        exact ⟨⟨ha.1, by show a ≤ _; omega⟩, ⟨hn.1, by show n ≤ _; omega⟩, ⟨by show 0 < t; omega, h2⟩, hd⟩
      · cases hp
/-- The detector in block b between two calls of a step: its cells with this level and start, its finder at this step. -/
structure Bare (w0 : World) (b f p : Nat) (Sp : List Nat) (v : Level.Lv) (st : Int) (d : D) (s : Peak.St) (m : Int) (w : World) : Prop where
  head : Has w b 88 (cellsD f p v (Peak.nums d.last) (Peak.nums d.cand) st)
  fil : Peak.Fil w f s m
  pac : Pace.Pac w p Sp d.ds
  bf : b ≠ f
  bp : b ∉ Sp
  fp : f ∉ Sp
  lo : ∀ k ∈ b :: f :: Sp, k < w0.heap.size
  kept : Kept (b :: f :: Sp) w0 w
section
variable {w0 w w' : World} {b f p : Nat} {Sp : List Nat} {v v' : Level.Lv} {st st' m m' : Int} {d : D} {s s' : Peak.St}
theorem Bare.below (M : Bare w0 b f p Sp v st d s m w) (hB : Below w.heap.size w w') : Bare w0 b f p Sp v st d s m w' :=
  ⟨(Kept.of_below (S := []) hB).has M.head (by simp), M.fil.below hB, Pace.kit.below M.pac hB, M.bf, M.bp, M.fp, M.lo, M.kept.trans (Kept.of_below hB)⟩
theorem Bare.alloc (M : Bare w0 b f p Sp v st d s m w) (o : Obj) : Bare w0 b f p Sp v st d s m (w.alloc o) := M.below ((Below.refl _ w).alloc (Nat.le_refl _) o)
theorem Bare.drew (M : Bare w0 b f p Sp v st d s m w) : Bare w0 b f p Sp v st d s m w.drew := M.below (below_drewN (Below.refl _ w) 1)
theorem Bare.cells (M : Bare w0 b f p Sp v st d s m w) (hK : Kept [b] w w') (hH : Has w' b 88 (cellsD f p v' (Peak.nums d.last) (Peak.nums d.cand) st')) : Bare w0 b f p Sp v' st' d s m w' :=
  ⟨hH, M.fil.kept hK (by simp; exact M.bf.symm), Pace.kit.kept M.pac hK (fun k hk hb => by simp at hb; exact M.bp (hb ▸ hk)), M.bf, M.bp, M.fp, M.lo, M.kept.trans (hK.wide (fun k hk _ => by simp at hk; simp [hk]))⟩
theorem Bare.found (M : Bare w0 b f p Sp v st d s m w) (hK : Kept [f] w w') (hF : Peak.Fil w' f s' m') : Bare w0 b f p Sp v st d s' m' w' :=
  ⟨hK.has M.head (by simp; exact M.bf), hF, Pace.kit.kept M.pac hK (fun k hk hb => by simp at hb; exact M.fp (hb ▸ hk)), M.bf, M.bp, M.fp, M.lo, M.kept.trans (hK.wide (fun k hk _ => by simp at hk; simp [hk]))⟩
/-- A block that came later turned. -/
theorem Bare.late (M : Bare w0 b f p Sp v st d s m w) {z : Nat} (hK : Kept [z] w w') (hz : z ∉ b :: f :: Sp) (h0 : w0.heap.size ≤ z) : Bare w0 b f p Sp v st d s m w' := by
  simp at hz
  exact ⟨hK.has M.head (by simp; omega), M.fil.kept hK (by simp; omega), Pace.kit.kept M.pac hK (fun k hk hb => by simp at hb; exact hz.2.2 (hb ▸ hk)), M.bf, M.bp, M.fp, M.lo,
    kept_late M.kept hK.os hK.tape hK.output hK.size (fun k h1 _ => hK.block k (Nat.lt_of_lt_of_le h1 M.kept.size) (by simp; omega))⟩
/-- A block that isn't its own, and not of its beginning. -/
theorem Bare.far (M : Bare w0 b f p Sp v st d s m w) {k : Nat} (hk : w0.heap.size ≤ k) : k ∉ b :: f :: Sp := fun h => by have := M.lo k h; omega
end
/-- The level as it stands in the cells. -/
def lvC (d : D) : Level.Lv := if d.n ≤ 400 then (Level.firstT d.tops, 0) else d.lv
/-- Block b is a detector's struct, its finder in block f, its pace in block p and the blocks Sp. -/
structure DetIs (w : World) (b f p : Nat) (Sp : List Nat) (d : D) : Prop where
  head : Has w b 88 (cellsD f p (lvC d) (Peak.nums d.last) (Peak.nums d.cand) d.start)
  fil : Peak.Fil w f d.fin d.n
  pac : Pace.Pac w p Sp d.ds
  fine : Fine d
  ok : Ok d
  lo : d.n ≤ 400 → d.lv = (0, 0)
  bf : b ≠ f
  bp : b ∉ Sp
  fp : f ∉ Sp
def Det (w : World) (b : Nat) (S : List Nat) (d : D) : Prop := ∃ f p Sp, S = b :: f :: Sp ∧ DetIs w b f p Sp d
theorem DetIs.lt {w : World} {b f p : Nat} {Sp : List Nat} {d : D} (h : DetIs w b f p Sp d) : ∀ k ∈ b :: f :: Sp, k < w.heap.size := fun k hk => by
  rcases List.mem_cons.1 hk with rfl | hk
  · exact h.head.lt
  · rcases List.mem_cons.1 hk with rfl | hk
    · exact h.fil.lt
    · exact (Pace.kit.lt h.pac).2 k hk
theorem DetIs.bare {w : World} {b f p : Nat} {Sp : List Nat} {d : D} (h : DetIs w b f p Sp d) : Bare w b f p Sp (lvC d) d.start d d.fin d.n w :=
  ⟨h.head, h.fil, h.pac, h.bf, h.bp, h.fp, h.lt, Kept.refl _ w⟩
theorem wv_box (w : World) (v : Wv) : Has (w.alloc (.cells #[.int .i64 v.1, .int .i64 v.2.1, .int .i64 v.2.2.1, .int .i64 v.2.2.2] 28)) w.heap.size 28 #[.int .i64 v.1, .int .i64 v.2.1, .int .i64 v.2.2.1, .int .i64 v.2.2.2] := Has.new w _ _
theorem lvC_bd {d : D} (h : Fine d) : (0 ≤ (lvC d).1 ∧ (lvC d).1 ≤ 62914560) ∧ 0 ≤ (lvC d).2 ∧ (lvC d).2 ≤ 62914560 := by
  unfold lvC
  split
  · exact ⟨first_bd d.tops, Int.le_refl 0, by show (0 : Int) ≤ 62914560; decide⟩
  · exact h.lv
theorem step_low (d : D) (a w e : Int) (o : Option Pk) (s : Peak.St) (hl : d.n < 400) (hP : Peak.stepT d.fin d.n w e = (o, s)) :
    stepT d a w e = ([], { openT d a with fin := s, n := d.n + 1, tops := d.tops ++ (o.map fun p => p.2.2.1).toList }) := by
  unfold stepT
  rw [if_pos hl, hP]
  rfl
theorem learn_is (d : D) (o : Option Pk) (hl : d.n < 400) : (if (lvC d).1 < Level.firstT [(Peak.nums o).2.2.1] then Level.firstT [(Peak.nums o).2.2.1] else (lvC d).1, (lvC d).2) = (Level.firstT (d.tops ++ (o.map fun p => p.2.2.1).toList), (0 : Int)) := by
  have h1 : lvC d = (Level.firstT d.tops, 0) := by unfold lvC; rw [if_pos (by omega)]
  rw [h1]
  cases o with
  | none =>
    show ((if Level.firstT d.tops < Level.firstT [0] then Level.firstT [0] else Level.firstT d.tops), (0 : Int)) = (Level.firstT (d.tops ++ []), 0)
    rw [first_none, List.append_nil]
  | some q =>
    show ((if Level.firstT d.tops < Level.firstT [q.2.2.1] then Level.firstT [q.2.2.1] else Level.firstT d.tops), (0 : Int)) = (Level.firstT (d.tops ++ [q.2.2.1]), 0)
    rw [first_more]
/-- The end of a step at which it learns. -/
theorem bare_low {w0 w : World} {b f p : Nat} {Sp : List Nat} {a : Int} {d : D} {s : Peak.St} {ts : List Int} (M : Bare w0 b f p Sp (Level.firstT ts, 0) (openT d a).start d s (d.n + 1) w) (hf : Fine d) (hlo : d.n ≤ 400 → d.lv = (0, 0)) (hl : d.n < 400) (hn : d.n ≤ 1000000000)
    (hok : Ok { openT d a with fin := s, n := d.n + 1, tops := ts }) : DetIs w b f p Sp { openT d a with fin := s, n := d.n + 1, tops := ts } := by
  have h0 : (openT d a).lv = d.lv := by show (if d.n = 400 then _ else _) = _; rw [if_neg (by omega)]
  have hs : 0 ≤ (openT d a).start ∧ (openT d a).start ≤ 1099511627776 := by
    show 0 ≤ (if d.n = 0 then _ else _) ∧ (if d.n = 0 then _ else _) ≤ _
    split
    · exact clampA_bd a
    · exact hf.st
  have hn0 := hf.n0
  refine ⟨?_, M.fil, M.pac, ⟨⟨by show 0 ≤ d.n + 1; omega, by show d.n + 1 ≤ _; omega⟩, hs, ?_, hf.last, hf.cand, hf.ds⟩, hok, fun _ => ?_, M.bf, M.bp, M.fp⟩
  · have h9 := M.head
    rw [show lvC { openT d a with fin := s, n := d.n + 1, tops := ts } = (Level.firstT ts, 0) by unfold lvC; rw [if_pos (by show d.n + 1 ≤ 400; omega)]]
    exact h9
  · show (0 ≤ (openT d a).lv.1 ∧ _) ∧ _
    rw [h0]; exact hf.lv
  · show (openT d a).lv = _
    rw [h0]; exact hlo (by omega)
theorem step_high (d : D) (a w e : Int) (o : Option Pk) (s : Peak.St) (hl : ¬ d.n < 400) (hP : Peak.stepT d.fin d.n w e = (o, s)) :
    stepT d a w e = (match o with
      | none => ([] ++ (backT { openT d a with fin := s }).1.toList, { (backT { openT d a with fin := s }).2 with n := d.n + 1 })
      | some q => ([] ++ (seenT { openT d a with fin := s } q).1.toList ++ (backT (seenT { openT d a with fin := s } q).2).1.toList, { (backT (seenT { openT d a with fin := s } q).2).2 with n := d.n + 1 })) := by
  have h1 : (Peak.stepT d.fin d.n w e).1 = o := by rw [hP]
  have h2 : (Peak.stepT d.fin d.n w e).2 = s := by rw [hP]
  unfold stepT
  rw [if_neg hl]
  split
  · next h => rw [h1] at h; subst h; rw [h2]; rfl
  · next p h => rw [h1] at h; subst h; rw [h2]; rfl
theorem back_n (d : D) : (backT d).2.n = d.n := by
  rcases back_cases d with h | ⟨l, c, _, _, h⟩ <;> rw [h]
  rfl
theorem seen_n (d : D) (q : Pk) : (seenT d q).2.n = d.n := by
  unfold seenT
  split
  · rfl
  · split
    · split <;> rfl
    · rfl
/-- The beginning of a step at which peaks are judged. -/
theorem bare_mid {w0 w : World} {b f p : Nat} {Sp : List Nat} {a : Int} {d : D} {s : Peak.St} (M : Bare w0 b f p Sp (lvC d) (openT d a).start d s (d.n + 1) w) (hf : Fine d) (hl : ¬ d.n < 400) :
    Mid w0 b f p Sp w.heap.size { openT d a with fin := s } [] (w.alloc (.cells #[.int .i64 (openT d a).start, .int .i64 d.n, .slice none 0 0] 95)) := by
  have M1 := M.alloc (.cells #[.int .i64 (openT d a).start, .int .i64 d.n, .slice none 0 0] 95)
  have h0 : (openT d a).lv = lvC d := by
    show (if d.n = 400 then _ else _) = _
    unfold lvC
    split
    · rw [if_pos (by omega)]
    · rw [if_neg (by omega)]
  have hs : 0 ≤ (openT d a).start ∧ (openT d a).start ≤ 1099511627776 := by
    show 0 ≤ (if d.n = 0 then _ else _) ∧ (if d.n = 0 then _ else _) ≤ _
    split
    · exact clampA_bd a
    · exact hf.st
  refine ⟨?_, M1.fil, M1.pac, ⟨.slice none 0 0, Has.new w _ _, Row.own_none _ _ _⟩, ⟨hf.n0, hs, ?_, hf.last, hf.cand, hf.ds⟩, M1.bf, M1.bp, M1.fp, M1.lo, M.kept.size, M1.kept⟩
  · show Has _ b _ (cellsD f p (openT d a).lv _ _ _)
    rw [h0]; exact M1.head
  · show (0 ≤ (openT d a).lv.1 ∧ _) ∧ _
    rw [h0]; exact lvC_bd hf
/-- The end of such a step. -/
theorem mid_end {w0 w : World} {b f p x : Nat} {Sp : List Nat} {d : D} {ys : List Bt} {k : Int} (M : Mid w0 b f p Sp x d ys w) (hk : d.n = k) (hl : 400 < k + 1) (hn : k + 1 ≤ 1900000000) (hok : Ok { d with n := k + 1 }) : DetIs w b f p Sp { d with n := k + 1 } := by
  have hf := M.fine
  have hn0 := hf.n0
  refine ⟨?_, by have h9 := M.fil; rw [hk] at h9; exact h9, M.pac, ⟨⟨by show 0 ≤ k + 1; omega, hn⟩, hf.st, hf.lv, hf.last, hf.cand, hf.ds⟩, hok, fun h => by have : k + 1 ≤ 400 := h; omega, M.bf, M.bp, M.fp⟩
  have h9 := M.head
  rw [show lvC { d with n := k + 1 } = d.lv by unfold lvC; rw [if_neg (by show ¬ k + 1 ≤ 400; omega)]]
  exact h9
theorem told_few (o : Option Bt) : ([] ++ o.toList).length ≤ 900 := by cases o <;> simp
theorem Mid.own_far {w0 w : World} {b f p x : Nat} {Sp : List Nat} {d : D} {ys : List Bt} (M : Mid w0 b f p Sp x d ys w) {k : Nat} (hk : x + 1 ≤ k) : k ∉ b :: f :: Sp := fun h => by
  have h1 := M.lo k h
  have h2 := M.hi
  omega
theorem start_put {W : World} {b f p : Nat} {v : Level.Lv} {l c : Pk} {st : Int} (h : Has W b 88 (cellsD f p v l c st)) (a : Int) :
    Has (W.setCell ⟨b, 12, none⟩ (.int .i64 a)) b 88 (cellsD f p v l c a) ∧ Kept [b] W (W.setCell ⟨b, 12, none⟩ (.int .i64 a)) := by
  constructor
  · have h9 := h.set_ 12 (.int .i64 a)
    simpa [cellsD] using h9
  · exact (Kept.refl [b] W).setCell (p := ⟨b, 12, none⟩) (.inl (by simp)) _
set_option maxHeartbeats 2000000 in
theorem push_k (w : World) (b f p : Nat) (Sp : List Nat) (d : D) (a : Int) (v : Wv) (hD : DetIs w b f p Sp d) (hn : d.n ≤ 1000000000) (ha : fits64 a) (hv1 : fits64 v.2.1) (hv2 : fits64 v.2.2.2) :
    Calls Try.prog 14 #[.pointer (some ⟨b, 0, none⟩), .int .i64 a, wvV v] w fun e w' => ∃ (B : Option Addr) (c : Nat), e = .returned (.slice B (stepT d a v.2.2.2 v.2.1).1.length c) ∧ (stepT d a v.2.2.2 v.2.1).1.length ≤ c ∧ Row.Vals btS w' B (stepT d a v.2.2.2 v.2.1).1.length (stepT d a v.2.2.2 v.2.1).1 ∧
      DetIs w' b f p Sp (stepT d a v.2.2.2 v.2.1).2 ∧ (∀ x, B = some x → w.heap.size ≤ x.block ∧ x.block ∉ b :: f :: Sp) ∧ Kept (b :: f :: Sp) w w' := by
  have hf := hD.fine
  have hok := hD.ok
  have hok2 := ok_step d a v.2.2.2 v.2.1 hok
  have hn0 := hf.n0
  obtain ⟨v0, v1, v2, v3⟩ := v
  have M0 := hD.bare.alloc (.cells #[.int .i64 v0, .int .i64 v1, .int .i64 v2, .int .i64 v3] 28)
  have hX := wv_box w (v0, v1, v2, v3)
  unfold wvV
  dsimp only at hX hv1 hv2 hok2 ⊢
  have hst := fun (W : World) (M : Bare w b f p Sp (lvC d) d.start d d.fin d.n W) => Peak.steps_any f d.fin d.n W M.fil
  have hcl := fun W => clamp_any a 0 1099511627776 W
  have c0 := (has_all M0.head).1
  have f12 := M0.head.frozen 12
  have c12 := (has_all M0.head).2.2.2.2.2.2.2.2.2.2.2.2
  have HL := Lib.hid (hD.lt)
  have hC0 := start_put M0.head
  have hyb : w.heap.size ∉ [b] := by have := hD.head.lt; simp; omega
  go_enter Try.func14, Try.ntmps14
  by_cases h0 : d.n = 0
  · have hb0 : (d.n == 0) = true := by rw [h0]; rfl
    have H0 := Lib.hid h0
    clear h0
    go_wp2_with (first
      | (go_at_call 42; ((refine Calls.mono (by exact hst _ M0) ?_); rintro e W1 ⟨rfl, rfl⟩))
      | (go_at_call 43; ((refine Calls.mono (by exact hcl _) ?_); rintro e W1 ⟨rfl, rfl⟩)))
    have hW1 : Bare w b f p Sp (lvC d) (openT d a).start d d.fin d.n _ := M0.cells (hC0 _).2 (by rw [show (openT d a).start = clampZ a 0 1099511627776 from by show (if d.n = 0 then _ else _) = _; rw [if_pos H0.out]]; exact (hC0 _).1)
    have hX1 := (hC0 (clampZ a 0 1099511627776)).2.has hX hyb
    generalize (w.alloc (.cells #[.int .i64 v0, .int .i64 v1, .int .i64 v2, .int .i64 v3] 28)).setCell ⟨b, 12, none⟩ (.int .i64 (clampZ a 0 1099511627776)) = W1 at *
    clear M0 hC0 hX f12 c12 c0 hst
    have hY : w.heap.size < W1.heap.size := hX1.lt
    refine Reg.begin_ (S := fun W => W.cell? ⟨b, 0, none⟩ = some (.pointer (some ⟨f, 0, none⟩)) ∧ W.cell? ⟨w.heap.size, 1, none⟩ = some (.int .i64 v1) ∧ W.cell? ⟨w.heap.size, 3, none⟩ = some (.int .i64 v3)) (by kernel_rfl) (by exact ⟨hW1.head.cell 0, hX1.cell 1, hX1.cell 3⟩) (fun hHeld => ?_)
    refine Reg.take (i := 0) (v := ?v12) rfl (by kernel_rfl) (by kernel_rfl) (by kernel_rfl) (by rfl) ?hv12 (by assumption) ?rest12
    case hv12 => first | (intro w hSw; (try dsimp only at hSw); go_simp; done) | (intro w hSw; (try dsimp only at hSw); go_simp; with_reducible rfl)
    (try simp only [Act.put, List.setIfInBounds_toArray, List.set_cons_zero, List.set_cons_succ])
    refine Reg.take (i := 1) (v := ?v13) rfl (by kernel_rfl) (by kernel_rfl) (by kernel_rfl) (by rfl) ?hv13 (by assumption) ?rest13
    case hv13 => first | (intro w hSw; (try dsimp only at hSw); go_simp; done) | (intro w hSw; (try dsimp only at hSw); go_simp; with_reducible rfl)
    (try simp only [Act.put, List.setIfInBounds_toArray, List.set_cons_zero, List.set_cons_succ])
    refine Reg.take (i := 2) (v := ?v14) rfl (by kernel_rfl) (by kernel_rfl) (by kernel_rfl) (by rfl) ?hv14 (by assumption) ?rest14
    case hv14 => first | (intro w hSw; (try dsimp only at hSw); go_simp; done) | (intro w hSw; (try dsimp only at hSw); go_simp; with_reducible rfl)
    (try simp only [Act.put, List.setIfInBounds_toArray, List.set_cons_zero, List.set_cons_succ])
    refine Reg.take (i := 3) (v := ?v15) rfl (by kernel_rfl) (by kernel_rfl) (by kernel_rfl) (by rfl) ?hv15 (by assumption) ?rest15
    case hv15 => first | (intro w hSw; (try dsimp only at hSw); go_simp; done) | (intro w hSw; (try dsimp only at hSw); go_simp; with_reducible rfl)
    (try simp only [Act.put, List.setIfInBounds_toArray, List.set_cons_zero, List.set_cons_succ])
    refine Reg.take (i := 4) (v := ?v16) rfl (by kernel_rfl) (by kernel_rfl) (by kernel_rfl) (by rfl) ?hv16 (by assumption) ?rest16
    case hv16 => first | (intro w hSw; (try dsimp only at hSw); go_simp; done) | (intro w hSw; (try dsimp only at hSw); go_simp; with_reducible rfl)
    (try simp only [Act.put, List.setIfInBounds_toArray, List.set_cons_zero, List.set_cons_succ])
    refine Reg.take (i := 5) (v := ?v17) rfl (by kernel_rfl) (by kernel_rfl) (by kernel_rfl) (by rfl) ?hv17 (by assumption) ?rest17
    case hv17 => first | (intro w hSw; (try dsimp only at hSw); go_simp; done) | (intro w hSw; (try dsimp only at hSw); go_simp; with_reducible rfl)
    (try simp only [Act.put, List.setIfInBounds_toArray, List.set_cons_zero, List.set_cons_succ])
    refine Reg.take (i := 6) (v := ?v18) rfl (by kernel_rfl) (by kernel_rfl) (by kernel_rfl) (by rfl) ?hv18 (by assumption) ?rest18
    case hv18 => first | (intro w hSw; (try dsimp only at hSw); go_simp; done) | (intro w hSw; (try dsimp only at hSw); go_simp; with_reducible rfl)
    (try simp only [Act.put, List.setIfInBounds_toArray, List.set_cons_zero, List.set_cons_succ])
    refine Reg.take (i := 7) (v := ?v19) rfl (by kernel_rfl) (by kernel_rfl) (by kernel_rfl) (by rfl) ?hv19 (by assumption) ?rest19
    case hv19 => first | (intro w hSw; (try dsimp only at hSw); go_simp; done) | (intro w hSw; (try dsimp only at hSw); go_simp; with_reducible rfl)
    (try simp only [Act.put, List.setIfInBounds_toArray, List.set_cons_zero, List.set_cons_succ])
    refine Reg.take (i := 8) (v := ?v20) rfl (by kernel_rfl) (by kernel_rfl) (by kernel_rfl) (by rfl) ?hv20 (by assumption) ?rest20
    case hv20 => first | (intro w hSw; (try dsimp only at hSw); go_simp; done) | (intro w hSw; (try dsimp only at hSw); go_simp; with_reducible rfl)
    (try simp only [Act.put, List.setIfInBounds_toArray, List.set_cons_zero, List.set_cons_succ])
    have M1 := hW1.drew
    have hX2 : Has W1.drew w.heap.size 28 #[.int .i64 v0, .int .i64 v1, .int .i64 v2, .int .i64 v3] := hX1
    clear hW1 hX1 hHeld hY
    generalize W1.drew = W2 at *
    have hpu := fun (W : World) (M : Bare w b f p Sp (lvC d) (openT d a).start d d.fin d.n W) => Peak.push_any f d.fin d.n v3 v1 W M.fil ⟨hn0.1, by omega⟩
    have hpo := fun q hq => pk_ok M1.fil ⟨hn0.1, hn⟩ hok.fin v3 v1 q hq
    generalize hP : Peak.stepT d.fin d.n v3 v1 = P at *
    obtain ⟨o, s'⟩ := P
    unfold Peak.pkV at hpu
    dsimp only at hpu hpo
    rcases hqo : Peak.nums o with ⟨q0, q1, q2, q3⟩
    rw [hqo] at hpu
    dsimp only at hpu
    have hyf : w.heap.size ∉ [f] := by have := hD.fil.lt; simp; omega
    refine Reg.both (i := 9) (j := 13) rfl rfl (by kernel_rfl) (by rfl) (by rfl) ?_ ?_
    · intro K hK
      go_simp
      go_at_call 44
      (refine Calls.mono (by exact hpu _ M1) ?_)
      rintro e W3 ⟨rfl, hF3, hK3⟩
      have M3 := M1.found hK3 hF3
      have hX3 := hK3.has hX2 hyf
      refine hK.out _ _ (by exact ⟨M3.head.cell 0, hX3.cell 1, hX3.cell 3⟩) (fun hHeld => ?_)
      clear hK K
      (try simp only [Act.put, List.setIfInBounds_toArray, List.set_cons_zero, List.set_cons_succ])
      refine Reg.take (i := 10) (v := ?v21) rfl (by kernel_rfl) (by kernel_rfl) (by kernel_rfl) (by rfl) ?hv21 (by assumption) ?rest21
      case hv21 => first | (intro w hSw; (try dsimp only at hSw); go_simp; done) | (intro w hSw; (try dsimp only at hSw); go_simp; with_reducible rfl)
      (try simp only [Act.put, List.setIfInBounds_toArray, List.set_cons_zero, List.set_cons_succ])
      refine Reg.take (i := 11) (v := ?v22) rfl (by kernel_rfl) (by kernel_rfl) (by kernel_rfl) (by rfl) ?hv22 (by assumption) ?rest22
      case hv22 => first | (intro w hSw; (try dsimp only at hSw); go_simp; done) | (intro w hSw; (try dsimp only at hSw); go_simp; with_reducible rfl)
      (try simp only [Act.put, List.setIfInBounds_toArray, List.set_cons_zero, List.set_cons_succ])
      refine Reg.take (i := 12) (v := ?v23) rfl (by kernel_rfl) (by kernel_rfl) (by kernel_rfl) (by rfl) ?hv23 (by assumption) ?rest23
      case hv23 => first | (intro w hSw; (try dsimp only at hSw); go_simp; done) | (intro w hSw; (try dsimp only at hSw); go_simp; with_reducible rfl)
      (try simp only [Act.put, List.setIfInBounds_toArray, List.set_cons_zero, List.set_cons_succ])
      refine Reg.call (i := 13) rfl (by kernel_rfl) (by rfl) ?_
      intro K hK
      go_simp
      refine hK.out _ _ (by exact ⟨(M3.alloc _).head.cell 0, (hX3.alloc _).cell 1, (hX3.alloc _).cell 3⟩) (fun hHeld => ?_)
      clear hK K
      (try simp only [Act.put, List.setIfInBounds_toArray, List.set_cons_zero, List.set_cons_succ])
      have hZ := Has.new W3 84 #[.int .i64 0, .int .i64 0, .int .i64 0, .int .i64 0]
      have M4 := M3.alloc (.cells #[.int .i64 0, .int .i64 0, .int .i64 0, .int .i64 0] 84)
      have hX4 := hX3.alloc (.cells #[.int .i64 0, .int .i64 0, .int .i64 0, .int .i64 0] 84)
      have hzb : W3.heap.size ∉ b :: f :: Sp := M3.far M3.kept.size
      have hzw : w.heap.size ≤ W3.heap.size := M3.kept.size
      have hzy : w.heap.size ≠ W3.heap.size := by have := hX3.lt; omega
      clear M3 hX3
      generalize W3.alloc (.cells #[.int .i64 0, .int .i64 0, .int .i64 0, .int .i64 0] 84) = W4 at *
      generalize W3.heap.size = z at *
      have z0 := hZ.cell 0
      have z1 := hZ.cell 1
      have z2 := hZ.cell 2
      have z3 := hZ.cell 3
      have y0 := hZ.frozen 0
      have y1 := hZ.frozen 1
      have y2 := hZ.frozen 2
      have y3 := hZ.frozen 3
      have hZ5 := Peak.Has.put4 hZ (.int .i64 q0) (.int .i64 q1) (.int .i64 q2) (.int .i64 q3)
      have hB5 : Kept [z] W4 _ := Peak.Kept.put4 (c := z) (Kept.refl [z] W4) (.inl (by simp)) (.int .i64 q0) (.int .i64 q1) (.int .i64 q2) (.int .i64 q3)
      have M5 := M4.late hB5 (by simpa using hzb) hzw
      have hX5 := hB5.has hX4 (by simp; exact hzy)
      refine Reg.call (i := 14) rfl (by kernel_rfl) (by rfl) ?_
      intro K hK
      go_simp
      refine hK.out _ _ (by exact ⟨M5.head.cell 0, hX5.cell 1, hX5.cell 3⟩) (fun hHeld => ?_)
      clear hK K
      (try simp only [Act.put, List.setIfInBounds_toArray, List.set_cons_zero, List.set_cons_succ])
      refine Reg.take (i := 15) (v := ?v24) rfl (by kernel_rfl) (by kernel_rfl) (by kernel_rfl) (by rfl) ?hv24 (by assumption) ?rest24
      case hv24 => first | (intro w hSw; (try dsimp only at hSw); go_simp; done) | (intro w hSw; (try dsimp only at hSw); go_simp; with_reducible rfl)
      (try simp only [Act.put, List.setIfInBounds_toArray, List.set_cons_zero, List.set_cons_succ])
      refine Reg.done (by kernel_rfl) ?_ _
      clear hHeld z0 z1 z2 z3 y0 y1 y2 y3 hB5 M4 hX4 hZ
      generalize (((W4.setCell ⟨z, 0, none⟩ (.int .i64 q0)).setCell ⟨z, 1, none⟩ (.int .i64 q1)).setCell ⟨z, 2, none⟩ (.int .i64 q2)).setCell ⟨z, 3, none⟩ (.int .i64 q3) = W5 at *
      have hl : d.n < 400 := by have := H0.out; omega
      have HST := Lib.hid (step_low d a v3 v1 o s' hl hP)
      have hlr := learn_is d o hl
      rw [hqo] at hlr
      dsimp only at hlr
      have hvb := lvC_bd hf
      go_wp2
      refine Reg.begin_ (S := fun W => W.cell? ⟨z, 2, none⟩ = some (.int .i64 q2)) (by kernel_rfl) (by exact hZ5.cell 2) (fun hHeld => ?_)
      refine Reg.take (i := 0) (v := ?v25) rfl (by kernel_rfl) (by kernel_rfl) (by kernel_rfl) (by rfl) ?hv25 (by assumption) ?rest25
      case hv25 => first | (intro w hSw; (try dsimp only at hSw); go_simp; done) | (intro w hSw; (try dsimp only at hSw); go_simp; with_reducible rfl)
      (try simp only [Act.put, List.setIfInBounds_toArray, List.set_cons_zero, List.set_cons_succ])
      refine Reg.take (i := 1) (v := ?v26) rfl (by kernel_rfl) (by kernel_rfl) (by kernel_rfl) (by rfl) ?hv26 (by assumption) ?rest26
      case hv26 => first | (intro w hSw; (try dsimp only at hSw); go_simp; done) | (intro w hSw; (try dsimp only at hSw); go_simp; with_reducible rfl)
      (try simp only [Act.put, List.setIfInBounds_toArray, List.set_cons_zero, List.set_cons_succ])
      refine Reg.take (i := 2) (v := ?v27) rfl (by kernel_rfl) (by kernel_rfl) (by kernel_rfl) (by rfl) ?hv27 (by assumption) ?rest27
      case hv27 => first | (intro w hSw; (try dsimp only at hSw); go_simp; done) | (intro w hSw; (try dsimp only at hSw); go_simp; with_reducible rfl)
      (try simp only [Act.put, List.setIfInBounds_toArray, List.set_cons_zero, List.set_cons_succ])
      refine Reg.take (i := 3) (v := ?v28) rfl (by kernel_rfl) (by kernel_rfl) (by kernel_rfl) (by rfl) ?hv28 (by assumption) ?rest28
      case hv28 => first | (intro w hSw; (try dsimp only at hSw); go_simp; done) | (intro w hSw; (try dsimp only at hSw); go_simp; with_reducible rfl)
      (try simp only [Act.put, List.setIfInBounds_toArray, List.set_cons_zero, List.set_cons_succ])
      refine Reg.take (i := 4) (v := ?v29) rfl (by kernel_rfl) (by kernel_rfl) (by kernel_rfl) (by rfl) ?hv29 (by assumption) ?rest29
      case hv29 => first | (intro w hSw; (try dsimp only at hSw); go_simp; done) | (intro w hSw; (try dsimp only at hSw); go_simp; with_reducible rfl)
      (try simp only [Act.put, List.setIfInBounds_toArray, List.set_cons_zero, List.set_cons_succ])
      have M6 := M5.drew
      have hZ6 : Has W5.drew z 84 #[.int .i64 q0, .int .i64 q1, .int .i64 q2, .int .i64 q3] := hZ5
      clear M5 hX5 hZ5 hHeld
      generalize W5.drew = W6 at *
      have M7 := M6.alloc (.cells #[.int .i64 q2] 2)
      have hZ7 := hZ6.alloc (.cells #[.int .i64 q2] 2)
      have hV : RI64.Vals (W6.alloc (.cells #[.int .i64 q2] 2)) (some ⟨W6.heap.size, 0, none⟩) 1 [q2] := RI64.Vals.has (ys := [q2]) (tl := []) (Has.new W6 _ _)
      have hln := learn_k b f p (lvC d) (Peak.nums d.last) (Peak.nums d.cand) (openT d a).start q2 _ 1 _ M7.head hV hvb.1
      rw [hlr] at hln
      refine Reg.call (i := 5) rfl (by kernel_rfl) (by rfl) ?_
      intro K hK
      go_simp
      refine hK.out _ _ (by exact hZ7.cell 2) (fun hHeld => ?_)
      clear hK K
      (try simp only [Act.put, List.setIfInBounds_toArray, List.set_cons_zero, List.set_cons_succ])
      refine Reg.call (i := 6) rfl (by kernel_rfl) (by rfl) ?_
      intro K hK
      go_simp
      go_at_call 45
      (refine Calls.mono (by exact hln) ?_)
      rintro e W8 ⟨rfl, hH8, hK8⟩
      have M8 := M7.cells hK8 hH8
      have hZ8 := hK8.has hZ7 (by simp; simp at hzb; exact hzb.1)
      refine hK.out _ _ (by exact hZ8.cell 2) (fun hHeld => ?_)
      clear hK K
      (try simp only [Act.put, List.setIfInBounds_toArray, List.set_cons_zero, List.set_cons_succ])
      refine Reg.done (by kernel_rfl) ?_ _
      clear hHeld hlr hln
      go_wp2
      go_ret
      refine ⟨none, 0, ?_⟩
      rw [HST.out] at hok2 ⊢
      exact ⟨rfl, Nat.le_refl _, Row.Vals.none_ _, bare_low M8 hf hD.lo hl hn hok2, (fun x hx => by cases hx), M8.kept⟩
    · intro K hK
      go_simp
      refine hK.out _ _ (by exact ⟨(M1.alloc _).head.cell 0, (hX2.alloc _).cell 1, (hX2.alloc _).cell 3⟩) (fun hHeld => ?_)
      clear hK K
      (try simp only [Act.put, List.setIfInBounds_toArray, List.set_cons_zero, List.set_cons_succ])
      have hZ0 := Has.new W2 84 #[.int .i64 0, .int .i64 0, .int .i64 0, .int .i64 0]
      have M3 := M1.alloc (.cells #[.int .i64 0, .int .i64 0, .int .i64 0, .int .i64 0] 84)
      have hX3 := hX2.alloc (.cells #[.int .i64 0, .int .i64 0, .int .i64 0, .int .i64 0] 84)
      have hzb : W2.heap.size ∉ b :: f :: Sp := M1.far M1.kept.size
      have hzw : w.heap.size ≤ W2.heap.size := M1.kept.size
      have hzy : w.heap.size ≠ W2.heap.size := by have := hX2.lt; omega
      clear hX2 M1
      generalize W2.alloc (.cells #[.int .i64 0, .int .i64 0, .int .i64 0, .int .i64 0] 84) = W3 at *
      generalize W2.heap.size = z at *
      refine Reg.call (i := 9) rfl (by kernel_rfl) (by rfl) ?_
      intro K hK
      go_simp
      go_at_call 44
      (refine Calls.mono (by exact hpu _ M3) ?_)
      rintro e W4 ⟨rfl, hF3, hK3⟩
      have M4 := M3.found hK3 hF3
      have hX4 := hK3.has hX3 hyf
      have hZ := hK3.has hZ0 (by simp; simp at hzb; exact hzb.2.1)
      refine hK.out _ _ (by exact ⟨M4.head.cell 0, hX4.cell 1, hX4.cell 3⟩) (fun hHeld => ?_)
      clear hK K
      (try simp only [Act.put, List.setIfInBounds_toArray, List.set_cons_zero, List.set_cons_succ])
      clear M3 hX3 hZ0
      refine Reg.take (i := 10) (v := ?v30) rfl (by kernel_rfl) (by kernel_rfl) (by kernel_rfl) (by rfl) ?hv30 (by assumption) ?rest30
      case hv30 => first | (intro w hSw; (try dsimp only at hSw); go_simp; done) | (intro w hSw; (try dsimp only at hSw); go_simp; with_reducible rfl)
      (try simp only [Act.put, List.setIfInBounds_toArray, List.set_cons_zero, List.set_cons_succ])
      refine Reg.take (i := 11) (v := ?v31) rfl (by kernel_rfl) (by kernel_rfl) (by kernel_rfl) (by rfl) ?hv31 (by assumption) ?rest31
      case hv31 => first | (intro w hSw; (try dsimp only at hSw); go_simp; done) | (intro w hSw; (try dsimp only at hSw); go_simp; with_reducible rfl)
      (try simp only [Act.put, List.setIfInBounds_toArray, List.set_cons_zero, List.set_cons_succ])
      refine Reg.take (i := 12) (v := ?v32) rfl (by kernel_rfl) (by kernel_rfl) (by kernel_rfl) (by rfl) ?hv32 (by assumption) ?rest32
      case hv32 => first | (intro w hSw; (try dsimp only at hSw); go_simp; done) | (intro w hSw; (try dsimp only at hSw); go_simp; with_reducible rfl)
      (try simp only [Act.put, List.setIfInBounds_toArray, List.set_cons_zero, List.set_cons_succ])
      have z0 := hZ.cell 0
      have z1 := hZ.cell 1
      have z2 := hZ.cell 2
      have z3 := hZ.cell 3
      have y0 := hZ.frozen 0
      have y1 := hZ.frozen 1
      have y2 := hZ.frozen 2
      have y3 := hZ.frozen 3
      have hZ5 := Peak.Has.put4 hZ (.int .i64 q0) (.int .i64 q1) (.int .i64 q2) (.int .i64 q3)
      have hB5 : Kept [z] W4 _ := Peak.Kept.put4 (c := z) (Kept.refl [z] W4) (.inl (by simp)) (.int .i64 q0) (.int .i64 q1) (.int .i64 q2) (.int .i64 q3)
      have M5 := M4.late hB5 (by simpa using hzb) hzw
      have hX5 := hB5.has hX4 (by simp; exact hzy)
      refine Reg.call (i := 14) rfl (by kernel_rfl) (by rfl) ?_
      intro K hK
      go_simp
      refine hK.out _ _ (by exact ⟨M5.head.cell 0, hX5.cell 1, hX5.cell 3⟩) (fun hHeld => ?_)
      clear hK K
      (try simp only [Act.put, List.setIfInBounds_toArray, List.set_cons_zero, List.set_cons_succ])
      refine Reg.take (i := 15) (v := ?v33) rfl (by kernel_rfl) (by kernel_rfl) (by kernel_rfl) (by rfl) ?hv33 (by assumption) ?rest33
      case hv33 => first | (intro w hSw; (try dsimp only at hSw); go_simp; done) | (intro w hSw; (try dsimp only at hSw); go_simp; with_reducible rfl)
      (try simp only [Act.put, List.setIfInBounds_toArray, List.set_cons_zero, List.set_cons_succ])
      refine Reg.done (by kernel_rfl) ?_ _
      clear hHeld z0 z1 z2 z3 y0 y1 y2 y3 hB5 M4 hX4 hZ
      generalize (((W4.setCell ⟨z, 0, none⟩ (.int .i64 q0)).setCell ⟨z, 1, none⟩ (.int .i64 q1)).setCell ⟨z, 2, none⟩ (.int .i64 q2)).setCell ⟨z, 3, none⟩ (.int .i64 q3) = W5 at *
      have hl : d.n < 400 := by have := H0.out; omega
      have HST := Lib.hid (step_low d a v3 v1 o s' hl hP)
      have hlr := learn_is d o hl
      rw [hqo] at hlr
      dsimp only at hlr
      have hvb := lvC_bd hf
      go_wp2
      refine Reg.begin_ (S := fun W => W.cell? ⟨z, 2, none⟩ = some (.int .i64 q2)) (by kernel_rfl) (by exact hZ5.cell 2) (fun hHeld => ?_)
      refine Reg.take (i := 0) (v := ?v34) rfl (by kernel_rfl) (by kernel_rfl) (by kernel_rfl) (by rfl) ?hv34 (by assumption) ?rest34
      case hv34 => first | (intro w hSw; (try dsimp only at hSw); go_simp; done) | (intro w hSw; (try dsimp only at hSw); go_simp; with_reducible rfl)
      (try simp only [Act.put, List.setIfInBounds_toArray, List.set_cons_zero, List.set_cons_succ])
      refine Reg.take (i := 1) (v := ?v35) rfl (by kernel_rfl) (by kernel_rfl) (by kernel_rfl) (by rfl) ?hv35 (by assumption) ?rest35
      case hv35 => first | (intro w hSw; (try dsimp only at hSw); go_simp; done) | (intro w hSw; (try dsimp only at hSw); go_simp; with_reducible rfl)
      (try simp only [Act.put, List.setIfInBounds_toArray, List.set_cons_zero, List.set_cons_succ])
      refine Reg.take (i := 2) (v := ?v36) rfl (by kernel_rfl) (by kernel_rfl) (by kernel_rfl) (by rfl) ?hv36 (by assumption) ?rest36
      case hv36 => first | (intro w hSw; (try dsimp only at hSw); go_simp; done) | (intro w hSw; (try dsimp only at hSw); go_simp; with_reducible rfl)
      (try simp only [Act.put, List.setIfInBounds_toArray, List.set_cons_zero, List.set_cons_succ])
      refine Reg.take (i := 3) (v := ?v37) rfl (by kernel_rfl) (by kernel_rfl) (by kernel_rfl) (by rfl) ?hv37 (by assumption) ?rest37
      case hv37 => first | (intro w hSw; (try dsimp only at hSw); go_simp; done) | (intro w hSw; (try dsimp only at hSw); go_simp; with_reducible rfl)
      (try simp only [Act.put, List.setIfInBounds_toArray, List.set_cons_zero, List.set_cons_succ])
      refine Reg.take (i := 4) (v := ?v38) rfl (by kernel_rfl) (by kernel_rfl) (by kernel_rfl) (by rfl) ?hv38 (by assumption) ?rest38
      case hv38 => first | (intro w hSw; (try dsimp only at hSw); go_simp; done) | (intro w hSw; (try dsimp only at hSw); go_simp; with_reducible rfl)
      (try simp only [Act.put, List.setIfInBounds_toArray, List.set_cons_zero, List.set_cons_succ])
      have M6 := M5.drew
      have hZ6 : Has W5.drew z 84 #[.int .i64 q0, .int .i64 q1, .int .i64 q2, .int .i64 q3] := hZ5
      clear M5 hX5 hZ5 hHeld
      generalize W5.drew = W6 at *
      have M7 := M6.alloc (.cells #[.int .i64 q2] 2)
      have hZ7 := hZ6.alloc (.cells #[.int .i64 q2] 2)
      have hV : RI64.Vals (W6.alloc (.cells #[.int .i64 q2] 2)) (some ⟨W6.heap.size, 0, none⟩) 1 [q2] := RI64.Vals.has (ys := [q2]) (tl := []) (Has.new W6 _ _)
      have hln := learn_k b f p (lvC d) (Peak.nums d.last) (Peak.nums d.cand) (openT d a).start q2 _ 1 _ M7.head hV hvb.1
      rw [hlr] at hln
      refine Reg.call (i := 5) rfl (by kernel_rfl) (by rfl) ?_
      intro K hK
      go_simp
      refine hK.out _ _ (by exact hZ7.cell 2) (fun hHeld => ?_)
      clear hK K
      (try simp only [Act.put, List.setIfInBounds_toArray, List.set_cons_zero, List.set_cons_succ])
      refine Reg.call (i := 6) rfl (by kernel_rfl) (by rfl) ?_
      intro K hK
      go_simp
      go_at_call 45
      (refine Calls.mono (by exact hln) ?_)
      rintro e W8 ⟨rfl, hH8, hK8⟩
      have M8 := M7.cells hK8 hH8
      have hZ8 := hK8.has hZ7 (by simp; simp at hzb; exact hzb.1)
      refine hK.out _ _ (by exact hZ8.cell 2) (fun hHeld => ?_)
      clear hK K
      (try simp only [Act.put, List.setIfInBounds_toArray, List.set_cons_zero, List.set_cons_succ])
      refine Reg.done (by kernel_rfl) ?_ _
      clear hHeld hlr hln
      go_wp2
      go_ret
      refine ⟨none, 0, ?_⟩
      rw [HST.out] at hok2 ⊢
      exact ⟨rfl, Nat.le_refl _, Row.Vals.none_ _, bare_low M8 hf hD.lo hl hn hok2, (fun x hx => by cases hx), M8.kept⟩
  · have hb0 : (d.n == 0) = false := by simpa using h0
    have H0 := Lib.hid h0
    clear h0
    go_wp2_with (first
      | (go_at_call 42; ((refine Calls.mono (by exact hst _ M0) ?_); rintro e W1 ⟨rfl, rfl⟩))
      | (go_at_call 43; ((refine Calls.mono (by exact hcl _) ?_); rintro e W1 ⟨rfl, rfl⟩)))
    have hW1 : Bare w b f p Sp (lvC d) (openT d a).start d d.fin d.n (w.alloc (.cells #[.int .i64 v0, .int .i64 v1, .int .i64 v2, .int .i64 v3] 28)) := by rw [show (openT d a).start = d.start from by show (if d.n = 0 then _ else _) = _; rw [if_neg H0.out]]; exact M0
    have hX1 := hX
    generalize w.alloc (.cells #[.int .i64 v0, .int .i64 v1, .int .i64 v2, .int .i64 v3] 28) = W1 at *
    clear M0 hC0 hX f12 c12 c0 hst
    have hY : w.heap.size < W1.heap.size := hX1.lt
    refine Reg.begin_ (S := fun W => W.cell? ⟨b, 0, none⟩ = some (.pointer (some ⟨f, 0, none⟩)) ∧ W.cell? ⟨w.heap.size, 1, none⟩ = some (.int .i64 v1) ∧ W.cell? ⟨w.heap.size, 3, none⟩ = some (.int .i64 v3)) (by kernel_rfl) (by exact ⟨hW1.head.cell 0, hX1.cell 1, hX1.cell 3⟩) (fun hHeld => ?_)
    refine Reg.take (i := 0) (v := ?v39) rfl (by kernel_rfl) (by kernel_rfl) (by kernel_rfl) (by rfl) ?hv39 (by assumption) ?rest39
    case hv39 => first | (intro w hSw; (try dsimp only at hSw); go_simp; done) | (intro w hSw; (try dsimp only at hSw); go_simp; with_reducible rfl)
    (try simp only [Act.put, List.setIfInBounds_toArray, List.set_cons_zero, List.set_cons_succ])
    refine Reg.take (i := 1) (v := ?v40) rfl (by kernel_rfl) (by kernel_rfl) (by kernel_rfl) (by rfl) ?hv40 (by assumption) ?rest40
    case hv40 => first | (intro w hSw; (try dsimp only at hSw); go_simp; done) | (intro w hSw; (try dsimp only at hSw); go_simp; with_reducible rfl)
    (try simp only [Act.put, List.setIfInBounds_toArray, List.set_cons_zero, List.set_cons_succ])
    refine Reg.take (i := 2) (v := ?v41) rfl (by kernel_rfl) (by kernel_rfl) (by kernel_rfl) (by rfl) ?hv41 (by assumption) ?rest41
    case hv41 => first | (intro w hSw; (try dsimp only at hSw); go_simp; done) | (intro w hSw; (try dsimp only at hSw); go_simp; with_reducible rfl)
    (try simp only [Act.put, List.setIfInBounds_toArray, List.set_cons_zero, List.set_cons_succ])
    refine Reg.take (i := 3) (v := ?v42) rfl (by kernel_rfl) (by kernel_rfl) (by kernel_rfl) (by rfl) ?hv42 (by assumption) ?rest42
    case hv42 => first | (intro w hSw; (try dsimp only at hSw); go_simp; done) | (intro w hSw; (try dsimp only at hSw); go_simp; with_reducible rfl)
    (try simp only [Act.put, List.setIfInBounds_toArray, List.set_cons_zero, List.set_cons_succ])
    refine Reg.take (i := 4) (v := ?v43) rfl (by kernel_rfl) (by kernel_rfl) (by kernel_rfl) (by rfl) ?hv43 (by assumption) ?rest43
    case hv43 => first | (intro w hSw; (try dsimp only at hSw); go_simp; done) | (intro w hSw; (try dsimp only at hSw); go_simp; with_reducible rfl)
    (try simp only [Act.put, List.setIfInBounds_toArray, List.set_cons_zero, List.set_cons_succ])
    refine Reg.take (i := 5) (v := ?v44) rfl (by kernel_rfl) (by kernel_rfl) (by kernel_rfl) (by rfl) ?hv44 (by assumption) ?rest44
    case hv44 => first | (intro w hSw; (try dsimp only at hSw); go_simp; done) | (intro w hSw; (try dsimp only at hSw); go_simp; with_reducible rfl)
    (try simp only [Act.put, List.setIfInBounds_toArray, List.set_cons_zero, List.set_cons_succ])
    refine Reg.take (i := 6) (v := ?v45) rfl (by kernel_rfl) (by kernel_rfl) (by kernel_rfl) (by rfl) ?hv45 (by assumption) ?rest45
    case hv45 => first | (intro w hSw; (try dsimp only at hSw); go_simp; done) | (intro w hSw; (try dsimp only at hSw); go_simp; with_reducible rfl)
    (try simp only [Act.put, List.setIfInBounds_toArray, List.set_cons_zero, List.set_cons_succ])
    refine Reg.take (i := 7) (v := ?v46) rfl (by kernel_rfl) (by kernel_rfl) (by kernel_rfl) (by rfl) ?hv46 (by assumption) ?rest46
    case hv46 => first | (intro w hSw; (try dsimp only at hSw); go_simp; done) | (intro w hSw; (try dsimp only at hSw); go_simp; with_reducible rfl)
    (try simp only [Act.put, List.setIfInBounds_toArray, List.set_cons_zero, List.set_cons_succ])
    refine Reg.take (i := 8) (v := ?v47) rfl (by kernel_rfl) (by kernel_rfl) (by kernel_rfl) (by rfl) ?hv47 (by assumption) ?rest47
    case hv47 => first | (intro w hSw; (try dsimp only at hSw); go_simp; done) | (intro w hSw; (try dsimp only at hSw); go_simp; with_reducible rfl)
    (try simp only [Act.put, List.setIfInBounds_toArray, List.set_cons_zero, List.set_cons_succ])
    have M1 := hW1.drew
    have hX2 : Has W1.drew w.heap.size 28 #[.int .i64 v0, .int .i64 v1, .int .i64 v2, .int .i64 v3] := hX1
    clear hW1 hX1 hHeld hY
    generalize W1.drew = W2 at *
    have hpu := fun (W : World) (M : Bare w b f p Sp (lvC d) (openT d a).start d d.fin d.n W) => Peak.push_any f d.fin d.n v3 v1 W M.fil ⟨hn0.1, by omega⟩
    have hpo := fun q hq => pk_ok M1.fil ⟨hn0.1, hn⟩ hok.fin v3 v1 q hq
    generalize hP : Peak.stepT d.fin d.n v3 v1 = P at *
    obtain ⟨o, s'⟩ := P
    unfold Peak.pkV at hpu
    dsimp only at hpu hpo
    rcases hqo : Peak.nums o with ⟨q0, q1, q2, q3⟩
    rw [hqo] at hpu
    dsimp only at hpu
    have hyf : w.heap.size ∉ [f] := by have := hD.fil.lt; simp; omega
    refine Reg.both (i := 9) (j := 13) rfl rfl (by kernel_rfl) (by rfl) (by rfl) ?_ ?_
    · intro K hK
      go_simp
      go_at_call 44
      (refine Calls.mono (by exact hpu _ M1) ?_)
      rintro e W3 ⟨rfl, hF3, hK3⟩
      have M3 := M1.found hK3 hF3
      have hX3 := hK3.has hX2 hyf
      refine hK.out _ _ (by exact ⟨M3.head.cell 0, hX3.cell 1, hX3.cell 3⟩) (fun hHeld => ?_)
      clear hK K
      (try simp only [Act.put, List.setIfInBounds_toArray, List.set_cons_zero, List.set_cons_succ])
      refine Reg.take (i := 10) (v := ?v48) rfl (by kernel_rfl) (by kernel_rfl) (by kernel_rfl) (by rfl) ?hv48 (by assumption) ?rest48
      case hv48 => first | (intro w hSw; (try dsimp only at hSw); go_simp; done) | (intro w hSw; (try dsimp only at hSw); go_simp; with_reducible rfl)
      (try simp only [Act.put, List.setIfInBounds_toArray, List.set_cons_zero, List.set_cons_succ])
      refine Reg.take (i := 11) (v := ?v49) rfl (by kernel_rfl) (by kernel_rfl) (by kernel_rfl) (by rfl) ?hv49 (by assumption) ?rest49
      case hv49 => first | (intro w hSw; (try dsimp only at hSw); go_simp; done) | (intro w hSw; (try dsimp only at hSw); go_simp; with_reducible rfl)
      (try simp only [Act.put, List.setIfInBounds_toArray, List.set_cons_zero, List.set_cons_succ])
      refine Reg.take (i := 12) (v := ?v50) rfl (by kernel_rfl) (by kernel_rfl) (by kernel_rfl) (by rfl) ?hv50 (by assumption) ?rest50
      case hv50 => first | (intro w hSw; (try dsimp only at hSw); go_simp; done) | (intro w hSw; (try dsimp only at hSw); go_simp; with_reducible rfl)
      (try simp only [Act.put, List.setIfInBounds_toArray, List.set_cons_zero, List.set_cons_succ])
      refine Reg.call (i := 13) rfl (by kernel_rfl) (by rfl) ?_
      intro K hK
      go_simp
      refine hK.out _ _ (by exact ⟨(M3.alloc _).head.cell 0, (hX3.alloc _).cell 1, (hX3.alloc _).cell 3⟩) (fun hHeld => ?_)
      clear hK K
      (try simp only [Act.put, List.setIfInBounds_toArray, List.set_cons_zero, List.set_cons_succ])
      have hZ := Has.new W3 84 #[.int .i64 0, .int .i64 0, .int .i64 0, .int .i64 0]
      have M4 := M3.alloc (.cells #[.int .i64 0, .int .i64 0, .int .i64 0, .int .i64 0] 84)
      have hX4 := hX3.alloc (.cells #[.int .i64 0, .int .i64 0, .int .i64 0, .int .i64 0] 84)
      have hzb : W3.heap.size ∉ b :: f :: Sp := M3.far M3.kept.size
      have hzw : w.heap.size ≤ W3.heap.size := M3.kept.size
      have hzy : w.heap.size ≠ W3.heap.size := by have := hX3.lt; omega
      clear M3 hX3
      generalize W3.alloc (.cells #[.int .i64 0, .int .i64 0, .int .i64 0, .int .i64 0] 84) = W4 at *
      generalize W3.heap.size = z at *
      have z0 := hZ.cell 0
      have z1 := hZ.cell 1
      have z2 := hZ.cell 2
      have z3 := hZ.cell 3
      have y0 := hZ.frozen 0
      have y1 := hZ.frozen 1
      have y2 := hZ.frozen 2
      have y3 := hZ.frozen 3
      have hZ5 := Peak.Has.put4 hZ (.int .i64 q0) (.int .i64 q1) (.int .i64 q2) (.int .i64 q3)
      have hB5 : Kept [z] W4 _ := Peak.Kept.put4 (c := z) (Kept.refl [z] W4) (.inl (by simp)) (.int .i64 q0) (.int .i64 q1) (.int .i64 q2) (.int .i64 q3)
      have M5 := M4.late hB5 (by simpa using hzb) hzw
      have hX5 := hB5.has hX4 (by simp; exact hzy)
      refine Reg.call (i := 14) rfl (by kernel_rfl) (by rfl) ?_
      intro K hK
      go_simp
      refine hK.out _ _ (by exact ⟨M5.head.cell 0, hX5.cell 1, hX5.cell 3⟩) (fun hHeld => ?_)
      clear hK K
      (try simp only [Act.put, List.setIfInBounds_toArray, List.set_cons_zero, List.set_cons_succ])
      refine Reg.take (i := 15) (v := ?v51) rfl (by kernel_rfl) (by kernel_rfl) (by kernel_rfl) (by rfl) ?hv51 (by assumption) ?rest51
      case hv51 => first | (intro w hSw; (try dsimp only at hSw); go_simp; done) | (intro w hSw; (try dsimp only at hSw); go_simp; with_reducible rfl)
      (try simp only [Act.put, List.setIfInBounds_toArray, List.set_cons_zero, List.set_cons_succ])
      refine Reg.done (by kernel_rfl) ?_ _
      clear hHeld z0 z1 z2 z3 y0 y1 y2 y3 hB5 M4 hX4 hZ
      generalize (((W4.setCell ⟨z, 0, none⟩ (.int .i64 q0)).setCell ⟨z, 1, none⟩ (.int .i64 q1)).setCell ⟨z, 2, none⟩ (.int .i64 q2)).setCell ⟨z, 3, none⟩ (.int .i64 q3) = W5 at *
      by_cases hl : d.n < 400
      · skip
        have HST := Lib.hid (step_low d a v3 v1 o s' hl hP)
        have hlr := learn_is d o hl
        rw [hqo] at hlr
        dsimp only at hlr
        have hvb := lvC_bd hf
        go_wp2
        refine Reg.begin_ (S := fun W => W.cell? ⟨z, 2, none⟩ = some (.int .i64 q2)) (by kernel_rfl) (by exact hZ5.cell 2) (fun hHeld => ?_)
        refine Reg.take (i := 0) (v := ?v52) rfl (by kernel_rfl) (by kernel_rfl) (by kernel_rfl) (by rfl) ?hv52 (by assumption) ?rest52
        case hv52 => first | (intro w hSw; (try dsimp only at hSw); go_simp; done) | (intro w hSw; (try dsimp only at hSw); go_simp; with_reducible rfl)
        (try simp only [Act.put, List.setIfInBounds_toArray, List.set_cons_zero, List.set_cons_succ])
        refine Reg.take (i := 1) (v := ?v53) rfl (by kernel_rfl) (by kernel_rfl) (by kernel_rfl) (by rfl) ?hv53 (by assumption) ?rest53
        case hv53 => first | (intro w hSw; (try dsimp only at hSw); go_simp; done) | (intro w hSw; (try dsimp only at hSw); go_simp; with_reducible rfl)
        (try simp only [Act.put, List.setIfInBounds_toArray, List.set_cons_zero, List.set_cons_succ])
        refine Reg.take (i := 2) (v := ?v54) rfl (by kernel_rfl) (by kernel_rfl) (by kernel_rfl) (by rfl) ?hv54 (by assumption) ?rest54
        case hv54 => first | (intro w hSw; (try dsimp only at hSw); go_simp; done) | (intro w hSw; (try dsimp only at hSw); go_simp; with_reducible rfl)
        (try simp only [Act.put, List.setIfInBounds_toArray, List.set_cons_zero, List.set_cons_succ])
        refine Reg.take (i := 3) (v := ?v55) rfl (by kernel_rfl) (by kernel_rfl) (by kernel_rfl) (by rfl) ?hv55 (by assumption) ?rest55
        case hv55 => first | (intro w hSw; (try dsimp only at hSw); go_simp; done) | (intro w hSw; (try dsimp only at hSw); go_simp; with_reducible rfl)
        (try simp only [Act.put, List.setIfInBounds_toArray, List.set_cons_zero, List.set_cons_succ])
        refine Reg.take (i := 4) (v := ?v56) rfl (by kernel_rfl) (by kernel_rfl) (by kernel_rfl) (by rfl) ?hv56 (by assumption) ?rest56
        case hv56 => first | (intro w hSw; (try dsimp only at hSw); go_simp; done) | (intro w hSw; (try dsimp only at hSw); go_simp; with_reducible rfl)
        (try simp only [Act.put, List.setIfInBounds_toArray, List.set_cons_zero, List.set_cons_succ])
        have M6 := M5.drew
        have hZ6 : Has W5.drew z 84 #[.int .i64 q0, .int .i64 q1, .int .i64 q2, .int .i64 q3] := hZ5
        clear M5 hX5 hZ5 hHeld
        generalize W5.drew = W6 at *
        have M7 := M6.alloc (.cells #[.int .i64 q2] 2)
        have hZ7 := hZ6.alloc (.cells #[.int .i64 q2] 2)
        have hV : RI64.Vals (W6.alloc (.cells #[.int .i64 q2] 2)) (some ⟨W6.heap.size, 0, none⟩) 1 [q2] := RI64.Vals.has (ys := [q2]) (tl := []) (Has.new W6 _ _)
        have hln := learn_k b f p (lvC d) (Peak.nums d.last) (Peak.nums d.cand) (openT d a).start q2 _ 1 _ M7.head hV hvb.1
        rw [hlr] at hln
        refine Reg.call (i := 5) rfl (by kernel_rfl) (by rfl) ?_
        intro K hK
        go_simp
        refine hK.out _ _ (by exact hZ7.cell 2) (fun hHeld => ?_)
        clear hK K
        (try simp only [Act.put, List.setIfInBounds_toArray, List.set_cons_zero, List.set_cons_succ])
        refine Reg.call (i := 6) rfl (by kernel_rfl) (by rfl) ?_
        intro K hK
        go_simp
        go_at_call 45
        (refine Calls.mono (by exact hln) ?_)
        rintro e W8 ⟨rfl, hH8, hK8⟩
        have M8 := M7.cells hK8 hH8
        have hZ8 := hK8.has hZ7 (by simp; simp at hzb; exact hzb.1)
        refine hK.out _ _ (by exact hZ8.cell 2) (fun hHeld => ?_)
        clear hK K
        (try simp only [Act.put, List.setIfInBounds_toArray, List.set_cons_zero, List.set_cons_succ])
        refine Reg.done (by kernel_rfl) ?_ _
        clear hHeld hlr hln
        go_wp2
        go_ret
        refine ⟨none, 0, ?_⟩
        rw [HST.out] at hok2 ⊢
        exact ⟨rfl, Nat.le_refl _, Row.Vals.none_ _, bare_low M8 hf hD.lo hl hn hok2, (fun x hx => by cases hx), M8.kept⟩
      · have HST := Lib.hid (step_high d a v3 v1 o s' hl hP)
        have hB6 := M5.alloc (.cells #[.int .i64 (openT d a).start, .int .i64 d.n, .slice none 0 0] 95)
        have M6 := bare_mid M5 hf hl
        have hZ6 := hZ5.alloc (.cells #[.int .i64 (openT d a).start, .int .i64 d.n, .slice none 0 0] 95)
        have k12 : W5.cell? ⟨b, 12, none⟩ = some (.int .i64 (openT d a).start) := M5.head.cell 12
        have p0 := hZ6.cell 0
        have p1 := hZ6.cell 1
        have p2 := hZ6.cell 2
        have p3 := hZ6.cell 3
        cases o with
        | none =>
          have lk := look_k M6 (by simp)
          obtain ⟨Y, hY⟩ : ∃ Y, Y = ([] : List Bt) ++ (backT { openT d a with fin := s' }).1.toList := ⟨_, rfl⟩
          rw [← hY] at lk
          have HY := Lib.hid hY
          clear hY
          go_wp2_with (first
            | (go_at_call 48; ((refine Calls.mono (by exact lk) ?_); rintro e W9 ⟨rfl, M9⟩; obtain ⟨vT, hT1, hT2⟩ := M9.tel; obtain ⟨A9, c9, rfl, hA1, _, hA2, hA3, _⟩ := Row.Vals.own hT2; have t2 := hT1.cell 2))
            | fail)
          go_ret
          refine ⟨A9, c9, ?_⟩
          rw [HST.out] at hok2 ⊢
          dsimp only
          rw [← HY.out]
          exact ⟨rfl, hA1, hA2, mid_end M9 (back_n _) (by omega) (by omega) hok2, (fun y hy => ⟨by have := (hA3 y hy).1; have := M9.hi; omega, M9.own_far (hA3 y hy).1⟩), M9.kept⟩
        | some q =>
          obtain rfl : q = (q0, q1, q2, q3) := hqo
          have jk := judge_k (q0, q1, q2, q3) M6 (hpo _ rfl) (by simp)
          unfold pkI at jk
          dsimp only at jk
          obtain ⟨Y, hY⟩ : ∃ Y, Y = ([] : List Bt) ++ (seenT { openT d a with fin := s' } (q0, q1, q2, q3)).1.toList ++ (backT (seenT { openT d a with fin := s' } (q0, q1, q2, q3)).2).1.toList := ⟨_, rfl⟩
          have HY := Lib.hid hY
          clear hY
          go_wp2_with (first
            | (go_at_call 46; ((refine Calls.mono (by exact jk) ?_); rintro e W7 ⟨rfl, M7⟩; have lk := look_k M7 (told_few _); rw [show (seenT { openT d a with fin := s' } (q0, q1, q2, q3)).2.n = d.n from seen_n _ _, ← HY.out] at lk))
            | (go_at_call 48; ((refine Calls.mono (by exact lk) ?_); rintro e W9 ⟨rfl, M9⟩; obtain ⟨vT, hT1, hT2⟩ := M9.tel; obtain ⟨A9, c9, rfl, hA1, _, hA2, hA3, _⟩ := Row.Vals.own hT2; have t2 := hT1.cell 2))
            | fail)
          go_ret
          refine ⟨A9, c9, ?_⟩
          rw [HST.out] at hok2 ⊢
          dsimp only
          rw [← HY.out]
          exact ⟨rfl, hA1, hA2, mid_end M9 ((back_n _).trans (seen_n _ _)) (by omega) (by omega) hok2, (fun y hy => ⟨by have := (hA3 y hy).1; have := M9.hi; omega, M9.own_far (hA3 y hy).1⟩), M9.kept⟩
    · intro K hK
      go_simp
      refine hK.out _ _ (by exact ⟨(M1.alloc _).head.cell 0, (hX2.alloc _).cell 1, (hX2.alloc _).cell 3⟩) (fun hHeld => ?_)
      clear hK K
      (try simp only [Act.put, List.setIfInBounds_toArray, List.set_cons_zero, List.set_cons_succ])
      have hZ0 := Has.new W2 84 #[.int .i64 0, .int .i64 0, .int .i64 0, .int .i64 0]
      have M3 := M1.alloc (.cells #[.int .i64 0, .int .i64 0, .int .i64 0, .int .i64 0] 84)
      have hX3 := hX2.alloc (.cells #[.int .i64 0, .int .i64 0, .int .i64 0, .int .i64 0] 84)
      have hzb : W2.heap.size ∉ b :: f :: Sp := M1.far M1.kept.size
      have hzw : w.heap.size ≤ W2.heap.size := M1.kept.size
      have hzy : w.heap.size ≠ W2.heap.size := by have := hX2.lt; omega
      clear hX2 M1
      generalize W2.alloc (.cells #[.int .i64 0, .int .i64 0, .int .i64 0, .int .i64 0] 84) = W3 at *
      generalize W2.heap.size = z at *
      refine Reg.call (i := 9) rfl (by kernel_rfl) (by rfl) ?_
      intro K hK
      go_simp
      go_at_call 44
      (refine Calls.mono (by exact hpu _ M3) ?_)
      rintro e W4 ⟨rfl, hF3, hK3⟩
      have M4 := M3.found hK3 hF3
      have hX4 := hK3.has hX3 hyf
      have hZ := hK3.has hZ0 (by simp; simp at hzb; exact hzb.2.1)
      refine hK.out _ _ (by exact ⟨M4.head.cell 0, hX4.cell 1, hX4.cell 3⟩) (fun hHeld => ?_)
      clear hK K
      (try simp only [Act.put, List.setIfInBounds_toArray, List.set_cons_zero, List.set_cons_succ])
      clear M3 hX3 hZ0
      refine Reg.take (i := 10) (v := ?v57) rfl (by kernel_rfl) (by kernel_rfl) (by kernel_rfl) (by rfl) ?hv57 (by assumption) ?rest57
      case hv57 => first | (intro w hSw; (try dsimp only at hSw); go_simp; done) | (intro w hSw; (try dsimp only at hSw); go_simp; with_reducible rfl)
      (try simp only [Act.put, List.setIfInBounds_toArray, List.set_cons_zero, List.set_cons_succ])
      refine Reg.take (i := 11) (v := ?v58) rfl (by kernel_rfl) (by kernel_rfl) (by kernel_rfl) (by rfl) ?hv58 (by assumption) ?rest58
      case hv58 => first | (intro w hSw; (try dsimp only at hSw); go_simp; done) | (intro w hSw; (try dsimp only at hSw); go_simp; with_reducible rfl)
      (try simp only [Act.put, List.setIfInBounds_toArray, List.set_cons_zero, List.set_cons_succ])
      refine Reg.take (i := 12) (v := ?v59) rfl (by kernel_rfl) (by kernel_rfl) (by kernel_rfl) (by rfl) ?hv59 (by assumption) ?rest59
      case hv59 => first | (intro w hSw; (try dsimp only at hSw); go_simp; done) | (intro w hSw; (try dsimp only at hSw); go_simp; with_reducible rfl)
      (try simp only [Act.put, List.setIfInBounds_toArray, List.set_cons_zero, List.set_cons_succ])
      have z0 := hZ.cell 0
      have z1 := hZ.cell 1
      have z2 := hZ.cell 2
      have z3 := hZ.cell 3
      have y0 := hZ.frozen 0
      have y1 := hZ.frozen 1
      have y2 := hZ.frozen 2
      have y3 := hZ.frozen 3
      have hZ5 := Peak.Has.put4 hZ (.int .i64 q0) (.int .i64 q1) (.int .i64 q2) (.int .i64 q3)
      have hB5 : Kept [z] W4 _ := Peak.Kept.put4 (c := z) (Kept.refl [z] W4) (.inl (by simp)) (.int .i64 q0) (.int .i64 q1) (.int .i64 q2) (.int .i64 q3)
      have M5 := M4.late hB5 (by simpa using hzb) hzw
      have hX5 := hB5.has hX4 (by simp; exact hzy)
      refine Reg.call (i := 14) rfl (by kernel_rfl) (by rfl) ?_
      intro K hK
      go_simp
      refine hK.out _ _ (by exact ⟨M5.head.cell 0, hX5.cell 1, hX5.cell 3⟩) (fun hHeld => ?_)
      clear hK K
      (try simp only [Act.put, List.setIfInBounds_toArray, List.set_cons_zero, List.set_cons_succ])
      refine Reg.take (i := 15) (v := ?v60) rfl (by kernel_rfl) (by kernel_rfl) (by kernel_rfl) (by rfl) ?hv60 (by assumption) ?rest60
      case hv60 => first | (intro w hSw; (try dsimp only at hSw); go_simp; done) | (intro w hSw; (try dsimp only at hSw); go_simp; with_reducible rfl)
      (try simp only [Act.put, List.setIfInBounds_toArray, List.set_cons_zero, List.set_cons_succ])
      refine Reg.done (by kernel_rfl) ?_ _
      clear hHeld z0 z1 z2 z3 y0 y1 y2 y3 hB5 M4 hX4 hZ
      generalize (((W4.setCell ⟨z, 0, none⟩ (.int .i64 q0)).setCell ⟨z, 1, none⟩ (.int .i64 q1)).setCell ⟨z, 2, none⟩ (.int .i64 q2)).setCell ⟨z, 3, none⟩ (.int .i64 q3) = W5 at *
      by_cases hl : d.n < 400
      · skip
        have HST := Lib.hid (step_low d a v3 v1 o s' hl hP)
        have hlr := learn_is d o hl
        rw [hqo] at hlr
        dsimp only at hlr
        have hvb := lvC_bd hf
        go_wp2
        refine Reg.begin_ (S := fun W => W.cell? ⟨z, 2, none⟩ = some (.int .i64 q2)) (by kernel_rfl) (by exact hZ5.cell 2) (fun hHeld => ?_)
        refine Reg.take (i := 0) (v := ?v61) rfl (by kernel_rfl) (by kernel_rfl) (by kernel_rfl) (by rfl) ?hv61 (by assumption) ?rest61
        case hv61 => first | (intro w hSw; (try dsimp only at hSw); go_simp; done) | (intro w hSw; (try dsimp only at hSw); go_simp; with_reducible rfl)
        (try simp only [Act.put, List.setIfInBounds_toArray, List.set_cons_zero, List.set_cons_succ])
        refine Reg.take (i := 1) (v := ?v62) rfl (by kernel_rfl) (by kernel_rfl) (by kernel_rfl) (by rfl) ?hv62 (by assumption) ?rest62
        case hv62 => first | (intro w hSw; (try dsimp only at hSw); go_simp; done) | (intro w hSw; (try dsimp only at hSw); go_simp; with_reducible rfl)
        (try simp only [Act.put, List.setIfInBounds_toArray, List.set_cons_zero, List.set_cons_succ])
        refine Reg.take (i := 2) (v := ?v63) rfl (by kernel_rfl) (by kernel_rfl) (by kernel_rfl) (by rfl) ?hv63 (by assumption) ?rest63
        case hv63 => first | (intro w hSw; (try dsimp only at hSw); go_simp; done) | (intro w hSw; (try dsimp only at hSw); go_simp; with_reducible rfl)
        (try simp only [Act.put, List.setIfInBounds_toArray, List.set_cons_zero, List.set_cons_succ])
        refine Reg.take (i := 3) (v := ?v64) rfl (by kernel_rfl) (by kernel_rfl) (by kernel_rfl) (by rfl) ?hv64 (by assumption) ?rest64
        case hv64 => first | (intro w hSw; (try dsimp only at hSw); go_simp; done) | (intro w hSw; (try dsimp only at hSw); go_simp; with_reducible rfl)
        (try simp only [Act.put, List.setIfInBounds_toArray, List.set_cons_zero, List.set_cons_succ])
        refine Reg.take (i := 4) (v := ?v65) rfl (by kernel_rfl) (by kernel_rfl) (by kernel_rfl) (by rfl) ?hv65 (by assumption) ?rest65
        case hv65 => first | (intro w hSw; (try dsimp only at hSw); go_simp; done) | (intro w hSw; (try dsimp only at hSw); go_simp; with_reducible rfl)
        (try simp only [Act.put, List.setIfInBounds_toArray, List.set_cons_zero, List.set_cons_succ])
        have M6 := M5.drew
        have hZ6 : Has W5.drew z 84 #[.int .i64 q0, .int .i64 q1, .int .i64 q2, .int .i64 q3] := hZ5
        clear M5 hX5 hZ5 hHeld
        generalize W5.drew = W6 at *
        have M7 := M6.alloc (.cells #[.int .i64 q2] 2)
        have hZ7 := hZ6.alloc (.cells #[.int .i64 q2] 2)
        have hV : RI64.Vals (W6.alloc (.cells #[.int .i64 q2] 2)) (some ⟨W6.heap.size, 0, none⟩) 1 [q2] := RI64.Vals.has (ys := [q2]) (tl := []) (Has.new W6 _ _)
        have hln := learn_k b f p (lvC d) (Peak.nums d.last) (Peak.nums d.cand) (openT d a).start q2 _ 1 _ M7.head hV hvb.1
        rw [hlr] at hln
        refine Reg.call (i := 5) rfl (by kernel_rfl) (by rfl) ?_
        intro K hK
        go_simp
        refine hK.out _ _ (by exact hZ7.cell 2) (fun hHeld => ?_)
        clear hK K
        (try simp only [Act.put, List.setIfInBounds_toArray, List.set_cons_zero, List.set_cons_succ])
        refine Reg.call (i := 6) rfl (by kernel_rfl) (by rfl) ?_
        intro K hK
        go_simp
        go_at_call 45
        (refine Calls.mono (by exact hln) ?_)
        rintro e W8 ⟨rfl, hH8, hK8⟩
        have M8 := M7.cells hK8 hH8
        have hZ8 := hK8.has hZ7 (by simp; simp at hzb; exact hzb.1)
        refine hK.out _ _ (by exact hZ8.cell 2) (fun hHeld => ?_)
        clear hK K
        (try simp only [Act.put, List.setIfInBounds_toArray, List.set_cons_zero, List.set_cons_succ])
        refine Reg.done (by kernel_rfl) ?_ _
        clear hHeld hlr hln
        go_wp2
        go_ret
        refine ⟨none, 0, ?_⟩
        rw [HST.out] at hok2 ⊢
        exact ⟨rfl, Nat.le_refl _, Row.Vals.none_ _, bare_low M8 hf hD.lo hl hn hok2, (fun x hx => by cases hx), M8.kept⟩
      · have HST := Lib.hid (step_high d a v3 v1 o s' hl hP)
        have hB6 := M5.alloc (.cells #[.int .i64 (openT d a).start, .int .i64 d.n, .slice none 0 0] 95)
        have M6 := bare_mid M5 hf hl
        have hZ6 := hZ5.alloc (.cells #[.int .i64 (openT d a).start, .int .i64 d.n, .slice none 0 0] 95)
        have k12 : W5.cell? ⟨b, 12, none⟩ = some (.int .i64 (openT d a).start) := M5.head.cell 12
        have p0 := hZ6.cell 0
        have p1 := hZ6.cell 1
        have p2 := hZ6.cell 2
        have p3 := hZ6.cell 3
        cases o with
        | none =>
          have lk := look_k M6 (by simp)
          obtain ⟨Y, hY⟩ : ∃ Y, Y = ([] : List Bt) ++ (backT { openT d a with fin := s' }).1.toList := ⟨_, rfl⟩
          rw [← hY] at lk
          have HY := Lib.hid hY
          clear hY
          go_wp2_with (first
            | (go_at_call 48; ((refine Calls.mono (by exact lk) ?_); rintro e W9 ⟨rfl, M9⟩; obtain ⟨vT, hT1, hT2⟩ := M9.tel; obtain ⟨A9, c9, rfl, hA1, _, hA2, hA3, _⟩ := Row.Vals.own hT2; have t2 := hT1.cell 2))
            | fail)
          go_ret
          refine ⟨A9, c9, ?_⟩
          rw [HST.out] at hok2 ⊢
          dsimp only
          rw [← HY.out]
          exact ⟨rfl, hA1, hA2, mid_end M9 (back_n _) (by omega) (by omega) hok2, (fun y hy => ⟨by have := (hA3 y hy).1; have := M9.hi; omega, M9.own_far (hA3 y hy).1⟩), M9.kept⟩
        | some q =>
          obtain rfl : q = (q0, q1, q2, q3) := hqo
          have jk := judge_k (q0, q1, q2, q3) M6 (hpo _ rfl) (by simp)
          unfold pkI at jk
          dsimp only at jk
          obtain ⟨Y, hY⟩ : ∃ Y, Y = ([] : List Bt) ++ (seenT { openT d a with fin := s' } (q0, q1, q2, q3)).1.toList ++ (backT (seenT { openT d a with fin := s' } (q0, q1, q2, q3)).2).1.toList := ⟨_, rfl⟩
          have HY := Lib.hid hY
          clear hY
          go_wp2_with (first
            | (go_at_call 46; ((refine Calls.mono (by exact jk) ?_); rintro e W7 ⟨rfl, M7⟩; have lk := look_k M7 (told_few _); rw [show (seenT { openT d a with fin := s' } (q0, q1, q2, q3)).2.n = d.n from seen_n _ _, ← HY.out] at lk))
            | (go_at_call 48; ((refine Calls.mono (by exact lk) ?_); rintro e W9 ⟨rfl, M9⟩; obtain ⟨vT, hT1, hT2⟩ := M9.tel; obtain ⟨A9, c9, rfl, hA1, _, hA2, hA3, _⟩ := Row.Vals.own hT2; have t2 := hT1.cell 2))
            | fail)
          go_ret
          refine ⟨A9, c9, ?_⟩
          rw [HST.out] at hok2 ⊢
          dsimp only
          rw [← HY.out]
          exact ⟨rfl, hA1, hA2, mid_end M9 ((back_n _).trans (seen_n _ _)) (by omega) (by omega) hok2, (fun y hy => ⟨by have := (hA3 y hy).1; have := M9.hi; omega, M9.own_far (hA3 y hy).1⟩), M9.kept⟩
end Go.Proofs.Ytnoppoimahfknaa.Qrs
end
section
/- The landed detector: what all its calls answer and do. -/
set_option linter.unusedSimpArgs false
set_option linter.unusedVariables false
namespace Go.Proofs.Ytnoppoimahfknaa.Qrs
open Go.RowKit
theorem fine_no : Fine noD := ⟨by decide, by decide, by decide, fun l h => (by cases h), fun l h => (by cases h), fun _ => rfl⟩
/-- A new detector, of a finder and a pace. -/
theorem det_new {w : World} {b f p : Nat} {Sp : List Nat} (h : Has w b 88 (cellsD f p (0, 0) (0, 0, 0, 0) (0, 0, 0, 0) 0)) (hf : Peak.Fil w f (.falls none) 0) (hp : Pace.Pac w p Sp []) (h1 : b ≠ f) (h2 : b ∉ Sp) (h3 : f ∉ Sp) : DetIs w b f p Sp noD :=
  ⟨h, hf, hp, fine_no, ok_no, fun _ => rfl, h1, h2, h3⟩
set_option maxHeartbeats 1000000 in
theorem new_k (w : World) : Calls Try.prog 12 #[] w fun e w' => ∃ b f p Sp, e = .returned (.pointer (some ⟨b, 0, none⟩)) ∧ DetIs w' b f p Sp noD ∧ (∀ k ∈ b :: f :: Sp, w.heap.size ≤ k) ∧ Below w.heap.size w w' := by
  have hpe := Peak.new_any w
  have hpa := fun W => Pace.kit.new_any W
  go_enter Try.func12, Try.ntmps12
  go_wp2_with (first
    | (go_at_call 40; ((refine Calls.mono (by exact hpe) ?_); rintro e w1 ⟨f, rfl, hF1, hf1, hB1⟩))
    | (go_at_call 41; ((refine Calls.mono (by exact hpa _) ?_); rintro e w2 ⟨p, Sp, rfl, hP2, hS2, hB2⟩)))
  go_ret
  have hB3 := (Below.refl w2.heap.size w2).alloc (Nat.le_refl _) (.cells #[.pointer (some ⟨f, 0, none⟩), .pointer (some ⟨p, 0, none⟩), .int .i64 0, .int .i64 0, .int .i64 0, .int .i64 0, .int .i64 0, .int .i64 0, .int .i64 0, .int .i64 0, .int .i64 0, .int .i64 0, .int .i64 0] 88)
  have hF2 := hF1.below hB2
  have hf2 := hF1.lt
  have hl2 := (Pace.kit.lt hP2).2
  have hs1 := hB1.size
  have hs2 := hB2.size
  refine ⟨w2.heap.size, f, p, Sp, rfl, det_new (Has.new w2 _ _) (hF2.below hB3) (Pace.kit.below hP2 hB3) (by omega) (fun h => Nat.lt_irrefl _ (hl2 _ h)) (fun h => by have := hS2 f h; omega), fun k hk => ?_, (hB1.trans (hB2.mono hs1)).trans (hB3.mono (by omega))⟩
  rcases List.mem_cons.1 hk with rfl | hk
  · omega
  · rcases List.mem_cons.1 hk with rfl | hk
    · exact hf1
    · have := hS2 k hk; omega
theorem steps_k (w : World) (b f p : Nat) (Sp : List Nat) (d : D) (h : DetIs w b f p Sp d) : Calls Try.prog 18 #[.pointer (some ⟨b, 0, none⟩)] w fun e w' => e = .returned (.int .i64 d.n) ∧ w = w' := by
  have hst := Peak.steps_any f d.fin d.n w h.fil
  have c0 := (has_all h.head).1
  go_enter Try.func18, Try.ntmps18
  go_wp2_with (go_at_call 42; ((refine Calls.mono (by exact hst) ?_); rintro e W1 ⟨rfl, rfl⟩))
  go_ret
  exact ⟨rfl, rfl⟩
theorem mean_k (w : World) (b f p : Nat) (Sp : List Nat) (d : D) (h : DetIs w b f p Sp d) : Calls Try.prog 19 #[.pointer (some ⟨b, 0, none⟩)] w fun e w' => e = .returned (.int .i64 (Pace.meanT d.ds)) ∧ Below w.heap.size w w' := by
  have hst := Pace.kit.mean_any w p Sp d.ds h.pac
  have c1 := (has_all h.head).2.1
  go_enter Try.func19, Try.ntmps19
  go_wp2_with (go_at_call 49; ((refine Calls.mono (by exact hst) ?_); rintro e W1 ⟨rfl, hB⟩))
  go_ret
  exact ⟨rfl, hB⟩
theorem learning_k (w : World) (b f p : Nat) (Sp : List Nat) (d : D) (h : DetIs w b f p Sp d) : Calls Try.prog 15 #[.pointer (some ⟨b, 0, none⟩)] w fun e w' => e = .returned (.bool (decide (d.n ≤ 400))) ∧ w = w' := by
  have hst := Peak.steps_any f d.fin d.n w h.fil
  have c0 := (has_all h.head).1
  go_enter Try.func15, Try.ntmps15
  go_wp2_with (go_at_call 42; ((refine Calls.mono (by exact hst) ?_); rintro e W1 ⟨rfl, rfl⟩))
  go_ret
  exact ⟨rfl, rfl⟩
set_option maxHeartbeats 1000000 in
theorem level_k (w : World) (b f p : Nat) (Sp : List Nat) (d : D) (h : DetIs w b f p Sp d) : Calls Try.prog 16 #[.pointer (some ⟨b, 0, none⟩)] w fun e w' => e = .returned (Level.lvV d.lv) ∧ Below w.heap.size w w' := by
  have hB0 := (Below.refl w.heap.size w).alloc (Nat.le_refl _) (.cells #[.int .i64 0, .int .i64 0] 33)
  have hR := Has.new w 33 #[.int .i64 0, .int .i64 0]
  have r0 := hR.cell 0
  have r1 := hR.cell 1
  have f0 := hR.frozen 0
  have f1 := hR.frozen 1
  have hH := h.head.alloc (.cells #[.int .i64 0, .int .i64 0] 33)
  have c2 := (has_all hH).2.2.1
  have c3 := (has_all hH).2.2.2.1
  have hlr : ∀ W, W = w.alloc (.cells #[.int .i64 0, .int .i64 0] 33) → Calls Try.prog 15 #[.pointer (some ⟨b, 0, none⟩)] W fun e w' => e = .returned (.bool (decide (d.n ≤ 400))) ∧ W = w' := fun W hW => learning_k W b f p Sp d (by
    rw [hW]
    exact ⟨hH, h.fil.alloc _, Pace.kit.alloc h.pac _, h.fine, h.ok, h.lo, h.bf, h.bp, h.fp⟩)
  have hbn : b ≠ w.heap.size := by have := h.head.lt; omega
  by_cases hl : d.n ≤ 400
  · rw [decide_eq_true hl] at hlr
    have hz : d.lv = (0, 0) := h.lo hl
    rw [hz]
    unfold Level.lvV
    have hR9 := Has.put2 hR (.int .i64 0) (.int .i64 0)
    have hB9 := hB0
    have p0 := hR9.cell 0
    have p1 := hR9.cell 1
    clear hl
    go_enter Try.func16, Try.ntmps16
    go_wp2_with (go_at_call 15; ((refine Calls.mono (by exact hlr _ rfl) ?_); rintro e W1 ⟨rfl, rfl⟩))
    refine bodyPost_ret (v := .agg #[.int .i64 0, .int .i64 0]) (by simp [results, Try.results16, go_sem, p0, p1]) rfl ⟨rfl, hB9⟩
  · rw [decide_eq_false hl] at hlr
    have hlv : lvC d = d.lv := by unfold lvC; rw [if_neg hl]
    rw [hlv] at c2 c3
    unfold Level.lvV
    have hR9 := Has.put2 hR (.int .i64 d.lv.1) (.int .i64 d.lv.2)
    have hB9 := (Below.refl w.heap.size w).alloc (Nat.le_refl _) (.cells #[.int .i64 d.lv.1, .int .i64 d.lv.2] 33)
    have p0 := hR9.cell 0
    have p1 := hR9.cell 1
    clear hl
    go_enter Try.func16, Try.ntmps16
    go_wp2_with (go_at_call 15; ((refine Calls.mono (by exact hlr _ rfl) ?_); rintro e W1 ⟨rfl, rfl⟩))
    refine bodyPost_ret (v := .agg #[.int .i64 d.lv.1, .int .i64 d.lv.2]) (by simp [results, Try.results16, go_sem, p0, p1]) rfl ⟨rfl, hB9⟩
theorem all_put {W : World} {b f p f2 p2 : Nat} {v v2 : Level.Lv} {l c l2 c2 : Pk} {st st2 : Int} (h : Has W b 88 (cellsD f p v l c st)) :
    Has (((((((((((((W.setCell ⟨b, 0, none⟩ (.pointer (some ⟨f2, 0, none⟩))).setCell ⟨b, 1, none⟩ (.pointer (some ⟨p2, 0, none⟩))).setCell ⟨b, 2, none⟩ (.int .i64 v2.1)).setCell ⟨b, 3, none⟩ (.int .i64 v2.2)).setCell ⟨b, 4, none⟩ (.int .i64 l2.1)).setCell ⟨b, 5, none⟩ (.int .i64 l2.2.1)).setCell ⟨b, 6, none⟩ (.int .i64 l2.2.2.1)).setCell ⟨b, 7, none⟩ (.int .i64 l2.2.2.2)).setCell ⟨b, 8, none⟩ (.int .i64 c2.1)).setCell ⟨b, 9, none⟩ (.int .i64 c2.2.1)).setCell ⟨b, 10, none⟩ (.int .i64 c2.2.2.1)).setCell ⟨b, 11, none⟩ (.int .i64 c2.2.2.2)).setCell ⟨b, 12, none⟩ (.int .i64 st2)) b 88 (cellsD f2 p2 v2 l2 c2 st2) ∧
    Kept [b] W (((((((((((((W.setCell ⟨b, 0, none⟩ (.pointer (some ⟨f2, 0, none⟩))).setCell ⟨b, 1, none⟩ (.pointer (some ⟨p2, 0, none⟩))).setCell ⟨b, 2, none⟩ (.int .i64 v2.1)).setCell ⟨b, 3, none⟩ (.int .i64 v2.2)).setCell ⟨b, 4, none⟩ (.int .i64 l2.1)).setCell ⟨b, 5, none⟩ (.int .i64 l2.2.1)).setCell ⟨b, 6, none⟩ (.int .i64 l2.2.2.1)).setCell ⟨b, 7, none⟩ (.int .i64 l2.2.2.2)).setCell ⟨b, 8, none⟩ (.int .i64 c2.1)).setCell ⟨b, 9, none⟩ (.int .i64 c2.2.1)).setCell ⟨b, 10, none⟩ (.int .i64 c2.2.2.1)).setCell ⟨b, 11, none⟩ (.int .i64 c2.2.2.2)).setCell ⟨b, 12, none⟩ (.int .i64 st2)) := by
  constructor
  · have h9 := ((((((((((((h.set_ 0 (.pointer (some ⟨f2, 0, none⟩))).set_ 1 (.pointer (some ⟨p2, 0, none⟩))).set_ 2 (.int .i64 v2.1)).set_ 3 (.int .i64 v2.2)).set_ 4 (.int .i64 l2.1)).set_ 5 (.int .i64 l2.2.1)).set_ 6 (.int .i64 l2.2.2.1)).set_ 7 (.int .i64 l2.2.2.2)).set_ 8 (.int .i64 c2.1)).set_ 9 (.int .i64 c2.2.1)).set_ 10 (.int .i64 c2.2.2.1)).set_ 11 (.int .i64 c2.2.2.2)).set_ 12 (.int .i64 st2)
    simpa [cellsD] using h9
  · repeat' apply Kept.setCell
    · exact Kept.refl _ _
    all_goals exact .inl (by simp)
set_option maxHeartbeats 2000000 in
theorem reset_k (w : World) (b f p : Nat) (Sp : List Nat) (d : D) (h : DetIs w b f p Sp d) : Calls Try.prog 17 #[.pointer (some ⟨b, 0, none⟩)] w fun e w' => ∃ f2 p2 Sp2, e = .returned (.tuple #[]) ∧ DetIs w' b f2 p2 Sp2 noD ∧ (∀ k ∈ f2 :: Sp2, w.heap.size ≤ k) ∧ Kept [b] w w' := by
  have hne := new_k w
  have hlb := h.head.lt
  go_enter Try.func17, Try.ntmps17
  go_wp2_with (go_at_call 12; ((refine Calls.mono (by exact hne) ?_); rintro e W1 ⟨b2, f2, p2, Sp2, rfl, hD2, hS2, hB2⟩; have hH1 := h.head.below hB2 hlb; obtain ⟨a0, a1, a2, a3, a4, a5, a6, a7, a8, a9, a10, a11, a12⟩ := has_all hD2.head; obtain ⟨b0, b1, b2, b3, b4, b5, b6, b7, b8, b9, b10, b11, b12⟩ := has_all hH1; have g0 := hH1.frozen 0; have g1 := hH1.frozen 1; have g2 := hH1.frozen 2; have g3 := hH1.frozen 3; have g4 := hH1.frozen 4; have g5 := hH1.frozen 5; have g6 := hH1.frozen 6; have g7 := hH1.frozen 7; have g8 := hH1.frozen 8; have g9 := hH1.frozen 9; have g10 := hH1.frozen 10; have g11 := hH1.frozen 11; have g12 := hH1.frozen 12))
  go_end0
  have hP := all_put (f2 := f2) (p2 := p2) (v2 := lvC noD) (l2 := Peak.nums noD.last) (c2 := Peak.nums noD.cand) (st2 := noD.start) hH1
  have hbf : b ≠ f2 := by have := hS2 f2 (by simp); omega
  have hbp : b ∉ Sp2 := fun h9 => by have := hS2 b (by simp [h9]); omega
  exact ⟨f2, p2, Sp2, rfl, ⟨hP.1, hD2.fil.kept hP.2 (by simp; exact hbf.symm), Pace.kit.kept hD2.pac hP.2 (fun k hk hb => by simp at hb; exact hbp (hb ▸ hk)), hD2.fine, hD2.ok, hD2.lo, hbf, hbp, hD2.fp⟩, fun k hk => hS2 k (by simp at hk ⊢; rcases hk with rfl | hk <;> simp [*]), (Kept.of_below hB2).trans hP.2⟩
theorem no_push (w : World) (a : Int) (v : Wv) : Calls Try.prog 14 #[.pointer none, .int .i64 a, wvV v] w fun e w' => ∃ (B : Option Addr) (c : Nat), e = .returned (.slice B 0 c) ∧ Below w.heap.size w w' := by
  obtain ⟨v0, v1, v2, v3⟩ := v
  have hB := (Below.refl w.heap.size w).alloc (Nat.le_refl _) (.cells #[.int .i64 v0, .int .i64 v1, .int .i64 v2, .int .i64 v3] 28)
  unfold wvV
  dsimp only
  go_enter Try.func14, Try.ntmps14
  go_wp2
  go_ret
  exact ⟨none, 0, rfl, hB⟩
theorem no_steps (w : World) : Calls Try.prog 18 #[.pointer none] w fun e w' => e = .returned (.int .i64 0) ∧ w = w' := by
  go_enter Try.func18, Try.ntmps18
  go_wp2
  go_ret
  exact ⟨rfl, rfl⟩
theorem no_learning (w : World) : Calls Try.prog 15 #[.pointer none] w fun e w' => e = .returned (.bool false) ∧ w = w' := by
  go_enter Try.func15, Try.ntmps15
  go_wp2
  go_ret
  exact ⟨rfl, rfl⟩
theorem no_level (w : World) : Calls Try.prog 16 #[.pointer none] w fun e w' => e = .returned (Level.lvV (0, 0)) ∧ Below w.heap.size w w' := by
  have hB0 := (Below.refl w.heap.size w).alloc (Nat.le_refl _) (.cells #[.int .i64 0, .int .i64 0] 33)
  have hR := Has.new w 33 #[.int .i64 0, .int .i64 0]
  have r0 := hR.cell 0
  have r1 := hR.cell 1
  have f0 := hR.frozen 0
  have f1 := hR.frozen 1
  go_enter Try.func16, Try.ntmps16
  go_wp2
  refine bodyPost_ret (v := .agg #[.int .i64 0, .int .i64 0]) (by simp [results, Try.results16, go_sem]) rfl ⟨rfl, hB0⟩
theorem no_mean (w : World) : Calls Try.prog 19 #[.pointer none] w fun e w' => e = .returned (.int .i64 0) ∧ w = w' := by
  go_enter Try.func19, Try.ntmps19
  go_wp2
  go_ret
  exact ⟨rfl, rfl⟩
theorem no_reset (w : World) : Calls Try.prog 17 #[.pointer none] w fun e w' => e = .returned (.tuple #[]) ∧ w = w' := by
  go_enter Try.func17, Try.ntmps17
  go_wp2
  exact bodyPost_ret (results_none rfl _ _ _) rfl ⟨rfl, rfl⟩
/-- What the landed detector answers. -/
theorem kit : QrsKit Det where
  lt := by
    rintro w b S d ⟨f, p, Sp, rfl, h⟩
    exact ⟨by simp, h.lt⟩
  kept := by
    rintro w w' b S d T ⟨f, p, Sp, rfl, h⟩ hK hT
    exact ⟨f, p, Sp, rfl, hK.has h.head (hT b (by simp)), h.fil.kept hK (hT f (by simp)), Pace.kit.kept h.pac hK (fun k hk => hT k (by simp [hk])), h.fine, h.ok, h.lo, h.bf, h.bp, h.fp⟩
  new_any := fun w => (new_k w).mono fun e w' ⟨b, f, p, Sp, h1, h2, h3, h4⟩ => ⟨b, b :: f :: Sp, h1, ⟨f, p, Sp, rfl, h2⟩, h3, h4⟩
  push_any := by
    rintro w b S d a v ⟨f, p, Sp, rfl, h⟩ hn ha h1 h2
    exact (push_k w b f p Sp d a v h hn ha h1 h2).mono fun e w' ⟨B, c, e1, e2, e3, e4, e5, e6⟩ => ⟨B, b :: f :: Sp, c, e1, e2, e3, ⟨f, p, Sp, rfl, e4⟩, fun k hk => .inl hk, e5, e6⟩
  steps_any := by
    rintro w b S d ⟨f, p, Sp, rfl, h⟩
    exact (steps_k w b f p Sp d h).mono fun e w' ⟨h1, h2⟩ => ⟨h1, by rw [← h2]; exact Below.refl _ w⟩
  learning_any := by
    rintro w b S d ⟨f, p, Sp, rfl, h⟩
    exact (learning_k w b f p Sp d h).mono fun e w' ⟨h1, h2⟩ => ⟨h1, by rw [← h2]; exact Below.refl _ w⟩
  level_any := by
    rintro w b S d ⟨f, p, Sp, rfl, h⟩
    exact level_k w b f p Sp d h
  mean_any := by
    rintro w b S d ⟨f, p, Sp, rfl, h⟩
    exact mean_k w b f p Sp d h
  reset_any := by
    rintro w b S d ⟨f, p, Sp, rfl, h⟩
    exact (reset_k w b f p Sp d h).mono fun e w' ⟨f2, p2, Sp2, h1, h2, h3, h4⟩ => ⟨b :: f2 :: Sp2, h1, ⟨f2, p2, Sp2, rfl, h2⟩, fun k hk => by
      rcases List.mem_cons.1 hk with rfl | hk
      · exact .inl (by simp)
      · exact .inr (h3 k hk), h4.wide (fun k hk _ => by simp at hk; simp [hk])⟩
  no_push := no_push
  no_steps := fun w => (no_steps w).mono fun e w' ⟨h1, h2⟩ => ⟨h1, by rw [← h2]; exact Below.refl _ w⟩
  no_learning := fun w => (no_learning w).mono fun e w' ⟨h1, h2⟩ => ⟨h1, by rw [← h2]; exact Below.refl _ w⟩
  no_level := no_level
  no_mean := fun w => (no_mean w).mono fun e w' ⟨h1, h2⟩ => ⟨h1, by rw [← h2]; exact Below.refl _ w⟩
  no_reset := fun w => (no_reset w).mono fun e w' ⟨h1, h2⟩ => ⟨h1, by rw [← h2]; exact Below.refl _ w⟩
end Go.Proofs.Ytnoppoimahfknaa.Qrs
end
