/- The landed rhythm: a sample that comes, and any mark. -/
import Derived.Test.YtpmjgomfjfhfkaaRhythmCode
set_option linter.unusedSimpArgs false
set_option linter.unusedVariables false
namespace Go.Proofs.Ytpmjgomfjfhfkaa.Rhythm
open Go.RowKit
open Tally (Lim May mayT limV limC Tal)
set_option maxHeartbeats 1000000 in
theorem sample_k (b t c : Nat) (Sc : List Nat) (l : Lim) (s : St) (m : Mk) (w : World) (h : RhyIs w b t c Sc l s) : Calls Try.prog 37 #[.pointer (some ⟨b, 0, none⟩), mkV m] w fun e w' => e = .returned (.tuple #[]) ∧ RhyIs w' b t c Sc l ⟨s.dark, if s.t.begun then s.t else Tally.beginT m.at_, m.h :: s.h, s.on⟩ ∧ Kept (b :: t :: Sc) w w' := by
  obtain ⟨k, a, v, m3, m4, rr, bk⟩ := m
  unfold mkV
  dsimp only
  have h1 := h.alloc (.cells #[.int .i64 k, .int .i64 a, .int .i64 v, .int .i64 m3, .int .i64 m4, .int .i64 rr, .bool bk] 45)
  have hP1 := Has.new w 45 #[.int .i64 k, .int .i64 a, .int .i64 v, .int .i64 m3, .int .i64 m4, .int .i64 rr, .bool bk]
  have hL1 := (Kept.refl (b :: t :: Sc) w).alloc (.cells #[.int .i64 k, .int .i64 a, .int .i64 v, .int .i64 m3, .int .i64 m4, .int .i64 rr, .bool bk] 45)
  have hlt := h.lt
  have hpt : w.heap.size ∉ [t] := by simp; omega
  have hpc : w.heap.size ∉ Sc := fun hk => Nat.lt_irrefl _ (hlt.2.2 _ hk)
  have hbu := fun W hW => Tally.begun_k t l s.t W hW
  have hbg := fun W s' hW => Tally.begin_k t l s' a W hW
  clear h hlt
  generalize hp : w.heap.size = p at *
  have hc0 : (w.alloc (.cells #[.int .i64 k, .int .i64 a, .int .i64 v, .int .i64 m3, .int .i64 m4, .int .i64 rr, .bool bk] 45)).cell? ⟨b, 0, none⟩ = some (.pointer (some ⟨t, 0, none⟩)) := h1.head.cell 0
  by_cases hbn : s.t.begun = true
  · rw [if_pos hbn]
    rw [hbn] at hbu
    go_enter Try.func37, Try.ntmps37
    go_wp2_with (go_at_call 46; ((with_reducible refine (hbu _ h1.tal).mono ?_); rintro e w1 ⟨rfl, rfl⟩))
    generalize w.alloc (.cells #[.int .i64 k, .int .i64 a, .int .i64 v, .int .i64 m3, .int .i64 m4, .int .i64 rr, .bool bk] 45) = W1 at *
    have hb2 := (h1).drew
    have hp2 := (hP1).drew
    have hL2 : Kept (b :: t :: Sc) w (W1).drew := hL1.drewN 1
    refine Reg.begin_ (S := fun W => W.cell? ⟨b, 1, none⟩ = some (.pointer (some ⟨c, 0, none⟩)) ∧ W.cell? ⟨p, 2, none⟩ = some (.int .i64 v)) (by kernel_rfl) (by exact ⟨hb2.head.cell 1, hp2.cell 2⟩) (fun hHeld => ?_)
    refine Reg.take (i := 0) (v := ?v1) rfl (by kernel_rfl) (by kernel_rfl) (by kernel_rfl) (by rfl) ?hv1 (by assumption) ?rest1
    case hv1 => first | (intro w hSw; (try dsimp only at hSw); go_simp; done) | (intro w hSw; (try dsimp only at hSw); go_simp; with_reducible rfl)
    (try simp only [Act.put, List.setIfInBounds_toArray, List.set_cons_zero, List.set_cons_succ])
    refine Reg.take (i := 1) (v := ?v2) rfl (by kernel_rfl) (by kernel_rfl) (by kernel_rfl) (by rfl) ?hv2 (by assumption) ?rest2
    case hv2 => first | (intro w hSw; (try dsimp only at hSw); go_simp; done) | (intro w hSw; (try dsimp only at hSw); go_simp; with_reducible rfl)
    (try simp only [Act.put, List.setIfInBounds_toArray, List.set_cons_zero, List.set_cons_succ])
    refine Reg.take (i := 2) (v := ?v3) rfl (by kernel_rfl) (by kernel_rfl) (by kernel_rfl) (by rfl) ?hv3 (by assumption) ?rest3
    case hv3 => first | (intro w hSw; (try dsimp only at hSw); go_simp; done) | (intro w hSw; (try dsimp only at hSw); go_simp; with_reducible rfl)
    (try simp only [Act.put, List.setIfInBounds_toArray, List.set_cons_zero, List.set_cons_succ])
    refine Reg.take (i := 3) (v := ?v4) rfl (by kernel_rfl) (by kernel_rfl) (by kernel_rfl) (by rfl) ?hv4 (by assumption) ?rest4
    case hv4 => first | (intro w hSw; (try dsimp only at hSw); go_simp; done) | (intro w hSw; (try dsimp only at hSw); go_simp; with_reducible rfl)
    (try simp only [Act.put, List.setIfInBounds_toArray, List.set_cons_zero, List.set_cons_succ])
    refine Reg.take (i := 4) (v := ?v5) rfl (by kernel_rfl) (by kernel_rfl) (by kernel_rfl) (by rfl) ?hv5 (by assumption) ?rest5
    case hv5 => first | (intro w hSw; (try dsimp only at hSw); go_simp; done) | (intro w hSw; (try dsimp only at hSw); go_simp; with_reducible rfl)
    (try simp only [Act.put, List.setIfInBounds_toArray, List.set_cons_zero, List.set_cons_succ])
    refine Reg.take (i := 5) (v := ?v6) rfl (by kernel_rfl) (by kernel_rfl) (by kernel_rfl) (by rfl) ?hv6 (by assumption) ?rest6
    case hv6 => first | (intro w hSw; (try dsimp only at hSw); go_simp; done) | (intro w hSw; (try dsimp only at hSw); go_simp; with_reducible rfl)
    (try simp only [Act.put, List.setIfInBounds_toArray, List.set_cons_zero, List.set_cons_succ])
    generalize (W1).drew = W5 at *
    clear hHeld
    refine Reg.call (i := 6) rfl (by kernel_rfl) (by rfl) ?_
    intro K hK
    go_simp
    refine hK.out _ _ (by exact ⟨(hb2.alloc _).head.cell 1,(hp2.alloc _).cell 2⟩) (fun hHeld => ?_)
    clear hK K
    (try simp only [Act.put, List.setIfInBounds_toArray, List.set_cons_zero, List.set_cons_succ])
    refine Reg.call (i := 7) rfl (by kernel_rfl) (by rfl) ?_
    intro K hK
    go_simp
    go_at_call 47
    (refine Calls.mono (by exact Fib.kit.push_one W5 2 v hb2.cnt (Fib.kit.lt hb2.cnt).2 1) ?_)
    rintro e W6 ⟨rfl, hC6, hK6⟩
    have h6 := hb2.count hK6 hC6
    have hP6 := hK6.has hp2 hpc
    have hL6 : Kept (b :: t :: Sc) w W6 := hL2.trans (hK6.wide (fun k hk _ => by simp [hk]))
    clear hHeld
    refine hK.out _ _ (by exact ⟨h6.head.cell 1,hP6.cell 2⟩) (fun hHeld => ?_)
    clear hK K
    (try simp only [Act.put, List.setIfInBounds_toArray, List.set_cons_zero, List.set_cons_succ])
    refine Reg.done (by kernel_rfl) ?_ _
    go_wp2
    go_end0
    exact ⟨rfl, h6, hL6⟩
  · rw [if_neg hbn]
    rw [Bool.not_eq_true] at hbn
    rw [hbn] at hbu
    go_enter Try.func37, Try.ntmps37
    go_wp2_with (go_at_call 46; ((with_reducible refine (hbu _ h1.tal).mono ?_); rintro e w1 ⟨rfl, rfl⟩))
    generalize w.alloc (.cells #[.int .i64 k, .int .i64 a, .int .i64 v, .int .i64 m3, .int .i64 m4, .int .i64 rr, .bool bk] 45) = W1 at *
    have hb1 := (h1).drew
    have hp1 := (hP1).drew
    refine Reg.begin_ (S := fun W => W.cell? ⟨b, 0, none⟩ = some (.pointer (some ⟨t, 0, none⟩)) ∧ W.cell? ⟨p, 1, none⟩ = some (.int .i64 a)) (by kernel_rfl) (by exact ⟨hb1.head.cell 0, hp1.cell 1⟩) (fun hHeld => ?_)
    refine Reg.take (i := 0) (v := ?v7) rfl (by kernel_rfl) (by kernel_rfl) (by kernel_rfl) (by rfl) ?hv7 (by assumption) ?rest7
    case hv7 => first | (intro w hSw; (try dsimp only at hSw); go_simp; done) | (intro w hSw; (try dsimp only at hSw); go_simp; with_reducible rfl)
    (try simp only [Act.put, List.setIfInBounds_toArray, List.set_cons_zero, List.set_cons_succ])
    refine Reg.take (i := 1) (v := ?v8) rfl (by kernel_rfl) (by kernel_rfl) (by kernel_rfl) (by rfl) ?hv8 (by assumption) ?rest8
    case hv8 => first | (intro w hSw; (try dsimp only at hSw); go_simp; done) | (intro w hSw; (try dsimp only at hSw); go_simp; with_reducible rfl)
    (try simp only [Act.put, List.setIfInBounds_toArray, List.set_cons_zero, List.set_cons_succ])
    refine Reg.take (i := 2) (v := ?v9) rfl (by kernel_rfl) (by kernel_rfl) (by kernel_rfl) (by rfl) ?hv9 (by assumption) ?rest9
    case hv9 => first | (intro w hSw; (try dsimp only at hSw); go_simp; done) | (intro w hSw; (try dsimp only at hSw); go_simp; with_reducible rfl)
    (try simp only [Act.put, List.setIfInBounds_toArray, List.set_cons_zero, List.set_cons_succ])
    refine Reg.take (i := 3) (v := ?v10) rfl (by kernel_rfl) (by kernel_rfl) (by kernel_rfl) (by rfl) ?hv10 (by assumption) ?rest10
    case hv10 => first | (intro w hSw; (try dsimp only at hSw); go_simp; done) | (intro w hSw; (try dsimp only at hSw); go_simp; with_reducible rfl)
    (try simp only [Act.put, List.setIfInBounds_toArray, List.set_cons_zero, List.set_cons_succ])
    refine Reg.take (i := 4) (v := ?v11) rfl (by kernel_rfl) (by kernel_rfl) (by kernel_rfl) (by rfl) ?hv11 (by assumption) ?rest11
    case hv11 => first | (intro w hSw; (try dsimp only at hSw); go_simp; done) | (intro w hSw; (try dsimp only at hSw); go_simp; with_reducible rfl)
    (try simp only [Act.put, List.setIfInBounds_toArray, List.set_cons_zero, List.set_cons_succ])
    refine Reg.take (i := 5) (v := ?v12) rfl (by kernel_rfl) (by kernel_rfl) (by kernel_rfl) (by rfl) ?hv12 (by assumption) ?rest12
    case hv12 => first | (intro w hSw; (try dsimp only at hSw); go_simp; done) | (intro w hSw; (try dsimp only at hSw); go_simp; with_reducible rfl)
    (try simp only [Act.put, List.setIfInBounds_toArray, List.set_cons_zero, List.set_cons_succ])
    refine Reg.call (i := 6) rfl (by kernel_rfl) (by rfl) ?_
    intro K hK
    go_simp
    go_at_call 35
    (refine Calls.mono (by exact hbg _ _ hb1.tal) ?_)
    rintro e W9 ⟨rfl, hT9, hK9⟩
    have h9 := hb1.tally hK9 hT9
    have hP9 := hK9.has hp1 hpt
    have hL9 : Kept (b :: t :: Sc) w W9 := (show Kept (b :: t :: Sc) w (W1).drew from hL1.drewN 1).trans (hK9.wide (T := b :: t :: Sc) (fun k hk _ => by simp at hk; simp [hk]))
    clear hHeld
    refine hK.out _ _ (by exact ⟨h9.head.cell 0,hP9.cell 1⟩) (fun hHeld => ?_)
    clear hK K
    (try simp only [Act.put, List.setIfInBounds_toArray, List.set_cons_zero, List.set_cons_succ])
    refine Reg.done (by kernel_rfl) ?_ _
    go_wp2
    have hb2 := (h9).drew
    have hp2 := (hP9).drew
    have hL2 : Kept (b :: t :: Sc) w (W9).drew := hL9.drewN 1
    refine Reg.begin_ (S := fun W => W.cell? ⟨b, 1, none⟩ = some (.pointer (some ⟨c, 0, none⟩)) ∧ W.cell? ⟨p, 2, none⟩ = some (.int .i64 v)) (by kernel_rfl) (by exact ⟨hb2.head.cell 1, hp2.cell 2⟩) (fun hHeld => ?_)
    refine Reg.take (i := 0) (v := ?v13) rfl (by kernel_rfl) (by kernel_rfl) (by kernel_rfl) (by rfl) ?hv13 (by assumption) ?rest13
    case hv13 => first | (intro w hSw; (try dsimp only at hSw); go_simp; done) | (intro w hSw; (try dsimp only at hSw); go_simp; with_reducible rfl)
    (try simp only [Act.put, List.setIfInBounds_toArray, List.set_cons_zero, List.set_cons_succ])
    refine Reg.take (i := 1) (v := ?v14) rfl (by kernel_rfl) (by kernel_rfl) (by kernel_rfl) (by rfl) ?hv14 (by assumption) ?rest14
    case hv14 => first | (intro w hSw; (try dsimp only at hSw); go_simp; done) | (intro w hSw; (try dsimp only at hSw); go_simp; with_reducible rfl)
    (try simp only [Act.put, List.setIfInBounds_toArray, List.set_cons_zero, List.set_cons_succ])
    refine Reg.take (i := 2) (v := ?v15) rfl (by kernel_rfl) (by kernel_rfl) (by kernel_rfl) (by rfl) ?hv15 (by assumption) ?rest15
    case hv15 => first | (intro w hSw; (try dsimp only at hSw); go_simp; done) | (intro w hSw; (try dsimp only at hSw); go_simp; with_reducible rfl)
    (try simp only [Act.put, List.setIfInBounds_toArray, List.set_cons_zero, List.set_cons_succ])
    refine Reg.take (i := 3) (v := ?v16) rfl (by kernel_rfl) (by kernel_rfl) (by kernel_rfl) (by rfl) ?hv16 (by assumption) ?rest16
    case hv16 => first | (intro w hSw; (try dsimp only at hSw); go_simp; done) | (intro w hSw; (try dsimp only at hSw); go_simp; with_reducible rfl)
    (try simp only [Act.put, List.setIfInBounds_toArray, List.set_cons_zero, List.set_cons_succ])
    refine Reg.take (i := 4) (v := ?v17) rfl (by kernel_rfl) (by kernel_rfl) (by kernel_rfl) (by rfl) ?hv17 (by assumption) ?rest17
    case hv17 => first | (intro w hSw; (try dsimp only at hSw); go_simp; done) | (intro w hSw; (try dsimp only at hSw); go_simp; with_reducible rfl)
    (try simp only [Act.put, List.setIfInBounds_toArray, List.set_cons_zero, List.set_cons_succ])
    refine Reg.take (i := 5) (v := ?v18) rfl (by kernel_rfl) (by kernel_rfl) (by kernel_rfl) (by rfl) ?hv18 (by assumption) ?rest18
    case hv18 => first | (intro w hSw; (try dsimp only at hSw); go_simp; done) | (intro w hSw; (try dsimp only at hSw); go_simp; with_reducible rfl)
    (try simp only [Act.put, List.setIfInBounds_toArray, List.set_cons_zero, List.set_cons_succ])
    generalize (W9).drew = W5 at *
    clear hHeld
    refine Reg.call (i := 6) rfl (by kernel_rfl) (by rfl) ?_
    intro K hK
    go_simp
    refine hK.out _ _ (by exact ⟨(hb2.alloc _).head.cell 1,(hp2.alloc _).cell 2⟩) (fun hHeld => ?_)
    clear hK K
    (try simp only [Act.put, List.setIfInBounds_toArray, List.set_cons_zero, List.set_cons_succ])
    refine Reg.call (i := 7) rfl (by kernel_rfl) (by rfl) ?_
    intro K hK
    go_simp
    go_at_call 47
    (refine Calls.mono (by exact Fib.kit.push_one W5 2 v hb2.cnt (Fib.kit.lt hb2.cnt).2 1) ?_)
    rintro e W6 ⟨rfl, hC6, hK6⟩
    have h6 := hb2.count hK6 hC6
    have hP6 := hK6.has hp2 hpc
    have hL6 : Kept (b :: t :: Sc) w W6 := hL2.trans (hK6.wide (fun k hk _ => by simp [hk]))
    clear hHeld
    refine hK.out _ _ (by exact ⟨h6.head.cell 1,hP6.cell 2⟩) (fun hHeld => ?_)
    clear hK K
    (try simp only [Act.put, List.setIfInBounds_toArray, List.set_cons_zero, List.set_cons_succ])
    refine Reg.done (by kernel_rfl) ?_ _
    go_wp2
    go_end0
    exact ⟨rfl, h6, hL6⟩
/-- Its lead goes off, or on. -/
theorem RhyIs.lead {w : World} {b t c : Nat} {Sc : List Nat} {l : Lim} {s : St} (h : RhyIs w b t c Sc l s) (d : Bool) : RhyIs (w.setCell ⟨b, 2, none⟩ (.bool d)) b t c Sc l ⟨d, s.t, s.h, s.on⟩ ∧ Kept [b] w (w.setCell ⟨b, 2, none⟩ (.bool d)) := by
  have hK := (Kept.refl [b] w).setCell (p := ⟨b, 2, none⟩) (.inl (by simp)) (.bool d)
  have h9 := h.head.set_ 2 (.bool d)
  exact ⟨h.cells hK (by simpa [cellsR] using h9), hK⟩
set_option maxHeartbeats 2000000 in
theorem take_k (b t c : Nat) (Sc : List Nat) (l : Lim) (s : St) (m : Mk) (w : World) (h : RhyIs w b t c Sc l s) (hrs : s.t.rs.length ≤ 3000000000) : Calls Try.prog 24 #[.pointer (some ⟨b, 0, none⟩), mkV m] w fun e w' => e = .returned (.bool (counts s m)) ∧ RhyIs w' b t c Sc l (if counts s m then takeT s m else s) ∧ Kept (b :: t :: Sc) w w' := by
  obtain ⟨k, a, v, m3, m4, rr, bk⟩ := m
  have h1 := h.alloc (.cells #[.int .i64 k, .int .i64 a, .int .i64 v, .int .i64 m3, .int .i64 m4, .int .i64 rr, .bool bk] 45)
  have hP1 := Has.new w 45 #[.int .i64 k, .int .i64 a, .int .i64 v, .int .i64 m3, .int .i64 m4, .int .i64 rr, .bool bk]
  have hL1 := (Kept.refl (b :: t :: Sc) w).alloc (.cells #[.int .i64 k, .int .i64 a, .int .i64 v, .int .i64 m3, .int .i64 m4, .int .i64 rr, .bool bk] 45)
  have hlt := h.lt
  have hpb : w.heap.size ∉ [b] := by simp; omega
  have hpt : w.heap.size ∉ [t] := by simp; omega
  have hpc : w.heap.size ∉ Sc := fun hk => Nat.lt_irrefl _ (hlt.2.2 _ hk)
  have hpa : w.heap.size ∉ b :: t :: Sc := by simp at hpb hpt ⊢; exact ⟨hpb, hpt, hpc⟩
  have han := fun W s' hW => anew_k b t c Sc l s' W hW
  have hsa := fun W hW => sample_k b t c Sc l s ⟨k, a, v, m3, m4, rr, bk⟩ W hW
  have hbg := fun W s' hW => Tally.begin_k t l s' a W hW
  unfold mkV at hsa ⊢
  dsimp only at hsa ⊢
  clear h hlt
  have c0 := hP1.cell 0
  have hc2 : (w.alloc (.cells #[.int .i64 k, .int .i64 a, .int .i64 v, .int .i64 m3, .int .i64 m4, .int .i64 rr, .bool bk] 45)).cell? ⟨b, 2, none⟩ = some (.bool s.dark) := h1.head.cell 2
  generalize hp : w.heap.size = p at *
  by_cases k1 : k = 1
  · subst k1
    have e1 : counts s ⟨1, a, v, m3, m4, rr, bk⟩ = true := by simp [counts]
    have e2 : takeT s ⟨1, a, v, m3, m4, rr, bk⟩ = ⟨s.dark, Tally.beginT a, [], s.on⟩ := by simp [takeT]
    rw [e1, if_pos rfl, e2]
    clear e1 e2
    go_enter Try.func24, Try.ntmps24
    go_wp2_with
      (go_at_call 34; ((with_reducible refine (han _ _ h1).mono ?_); rintro e W3 ⟨rfl, h3, hK3⟩; have hP3 := hK3.has hP1 hpa; have hL3 := hL1.trans hK3; have e0 := hP3.cell 0))
    clear c0 h1 hP1 hL1 hK3 han hsa
    have hb1 := (h3).drew
    have hp1 := (hP3).drew
    refine Reg.begin_ (S := fun W => W.cell? ⟨b, 0, none⟩ = some (.pointer (some ⟨t, 0, none⟩)) ∧ W.cell? ⟨p, 1, none⟩ = some (.int .i64 a)) (by kernel_rfl) (by exact ⟨hb1.head.cell 0, hp1.cell 1⟩) (fun hHeld => ?_)
    refine Reg.take (i := 0) (v := ?v19) rfl (by kernel_rfl) (by kernel_rfl) (by kernel_rfl) (by rfl) ?hv19 (by assumption) ?rest19
    case hv19 => first | (intro w hSw; (try dsimp only at hSw); go_simp; done) | (intro w hSw; (try dsimp only at hSw); go_simp; with_reducible rfl)
    (try simp only [Act.put, List.setIfInBounds_toArray, List.set_cons_zero, List.set_cons_succ])
    refine Reg.take (i := 1) (v := ?v20) rfl (by kernel_rfl) (by kernel_rfl) (by kernel_rfl) (by rfl) ?hv20 (by assumption) ?rest20
    case hv20 => first | (intro w hSw; (try dsimp only at hSw); go_simp; done) | (intro w hSw; (try dsimp only at hSw); go_simp; with_reducible rfl)
    (try simp only [Act.put, List.setIfInBounds_toArray, List.set_cons_zero, List.set_cons_succ])
    refine Reg.take (i := 2) (v := ?v21) rfl (by kernel_rfl) (by kernel_rfl) (by kernel_rfl) (by rfl) ?hv21 (by assumption) ?rest21
    case hv21 => first | (intro w hSw; (try dsimp only at hSw); go_simp; done) | (intro w hSw; (try dsimp only at hSw); go_simp; with_reducible rfl)
    (try simp only [Act.put, List.setIfInBounds_toArray, List.set_cons_zero, List.set_cons_succ])
    refine Reg.take (i := 3) (v := ?v22) rfl (by kernel_rfl) (by kernel_rfl) (by kernel_rfl) (by rfl) ?hv22 (by assumption) ?rest22
    case hv22 => first | (intro w hSw; (try dsimp only at hSw); go_simp; done) | (intro w hSw; (try dsimp only at hSw); go_simp; with_reducible rfl)
    (try simp only [Act.put, List.setIfInBounds_toArray, List.set_cons_zero, List.set_cons_succ])
    refine Reg.take (i := 4) (v := ?v23) rfl (by kernel_rfl) (by kernel_rfl) (by kernel_rfl) (by rfl) ?hv23 (by assumption) ?rest23
    case hv23 => first | (intro w hSw; (try dsimp only at hSw); go_simp; done) | (intro w hSw; (try dsimp only at hSw); go_simp; with_reducible rfl)
    (try simp only [Act.put, List.setIfInBounds_toArray, List.set_cons_zero, List.set_cons_succ])
    refine Reg.take (i := 5) (v := ?v24) rfl (by kernel_rfl) (by kernel_rfl) (by kernel_rfl) (by rfl) ?hv24 (by assumption) ?rest24
    case hv24 => first | (intro w hSw; (try dsimp only at hSw); go_simp; done) | (intro w hSw; (try dsimp only at hSw); go_simp; with_reducible rfl)
    (try simp only [Act.put, List.setIfInBounds_toArray, List.set_cons_zero, List.set_cons_succ])
    refine Reg.call (i := 6) rfl (by kernel_rfl) (by rfl) ?_
    intro K hK
    go_simp
    go_at_call 35
    (refine Calls.mono (by exact hbg _ _ hb1.tal) ?_)
    rintro e W9 ⟨rfl, hT9, hK9⟩
    have h9 := hb1.tally hK9 hT9
    have hP9 := hK9.has hp1 hpt
    have hL9 : Kept (b :: t :: Sc) w W9 := (show Kept (b :: t :: Sc) w (W3).drew from hL3.drewN 1).trans (hK9.wide (T := b :: t :: Sc) (fun k hk _ => by simp at hk; simp [hk]))
    clear hHeld
    refine hK.out _ _ (by exact ⟨h9.head.cell 0,hP9.cell 1⟩) (fun hHeld => ?_)
    clear hK K
    (try simp only [Act.put, List.setIfInBounds_toArray, List.set_cons_zero, List.set_cons_succ])
    refine Reg.done (by kernel_rfl) ?_ _
    go_wp2
    go_ret
    exact ⟨rfl, h9, hL9⟩
  have n1 : (k == 1) = false := by simp [k1]
  by_cases k2 : k = 2
  · subst k2
    have e1 : counts s ⟨2, a, v, m3, m4, rr, bk⟩ = true := by simp [counts]
    have e2 : takeT s ⟨2, a, v, m3, m4, rr, bk⟩ = ⟨true, Tally.st0, [], s.on⟩ := by simp [takeT]
    rw [e1, if_pos rfl, e2]
    have c2 := hc2
    have f2 := h1.head.frozen 2
    have hd := h1.lead true
    have hPd := hd.2.has hP1 hpb
    have hLd := hL1.trans (hd.2.wide (T := b :: t :: Sc) (fun k hk _ => by simp at hk; simp [hk]))
    clear e1 e2
    go_enter Try.func24, Try.ntmps24
    go_wp2_with
      (go_at_call 34; ((with_reducible refine (han _ _ hd.1).mono ?_); rintro e W3 ⟨rfl, h3, hK3⟩; have hP3 := hK3.has hPd hpa; have hL3 := hLd.trans hK3; have e0 := hP3.cell 0))
    go_ret
    exact ⟨rfl, h3, hL3⟩
  have n2 : (k == 2) = false := by simp [k2]
  by_cases k3 : k = 3
  · subst k3
    have e1 : counts s ⟨3, a, v, m3, m4, rr, bk⟩ = true := by simp [counts]
    have e2 : takeT s ⟨3, a, v, m3, m4, rr, bk⟩ = ⟨false, Tally.beginT a, [], s.on⟩ := by simp [takeT]
    rw [e1, if_pos rfl, e2]
    have c2 := hc2
    have f2 := h1.head.frozen 2
    have hd := h1.lead false
    have hPd := hd.2.has hP1 hpb
    have hLd := hL1.trans (hd.2.wide (T := b :: t :: Sc) (fun k hk _ => by simp at hk; simp [hk]))
    clear e1 e2
    go_enter Try.func24, Try.ntmps24
    go_wp2_with
      (go_at_call 34; ((with_reducible refine (han _ _ hd.1).mono ?_); rintro e W3 ⟨rfl, h3, hK3⟩; have hP3 := hK3.has hPd hpa; have hL3 := hLd.trans hK3; have e0 := hP3.cell 0))
    clear c0 c2 f2 hd hPd hLd h1 hP1 hL1 hK3 han hsa
    have hb1 := (h3).drew
    have hp1 := (hP3).drew
    refine Reg.begin_ (S := fun W => W.cell? ⟨b, 0, none⟩ = some (.pointer (some ⟨t, 0, none⟩)) ∧ W.cell? ⟨p, 1, none⟩ = some (.int .i64 a)) (by kernel_rfl) (by exact ⟨hb1.head.cell 0, hp1.cell 1⟩) (fun hHeld => ?_)
    refine Reg.take (i := 0) (v := ?v25) rfl (by kernel_rfl) (by kernel_rfl) (by kernel_rfl) (by rfl) ?hv25 (by assumption) ?rest25
    case hv25 => first | (intro w hSw; (try dsimp only at hSw); go_simp; done) | (intro w hSw; (try dsimp only at hSw); go_simp; with_reducible rfl)
    (try simp only [Act.put, List.setIfInBounds_toArray, List.set_cons_zero, List.set_cons_succ])
    refine Reg.take (i := 1) (v := ?v26) rfl (by kernel_rfl) (by kernel_rfl) (by kernel_rfl) (by rfl) ?hv26 (by assumption) ?rest26
    case hv26 => first | (intro w hSw; (try dsimp only at hSw); go_simp; done) | (intro w hSw; (try dsimp only at hSw); go_simp; with_reducible rfl)
    (try simp only [Act.put, List.setIfInBounds_toArray, List.set_cons_zero, List.set_cons_succ])
    refine Reg.take (i := 2) (v := ?v27) rfl (by kernel_rfl) (by kernel_rfl) (by kernel_rfl) (by rfl) ?hv27 (by assumption) ?rest27
    case hv27 => first | (intro w hSw; (try dsimp only at hSw); go_simp; done) | (intro w hSw; (try dsimp only at hSw); go_simp; with_reducible rfl)
    (try simp only [Act.put, List.setIfInBounds_toArray, List.set_cons_zero, List.set_cons_succ])
    refine Reg.take (i := 3) (v := ?v28) rfl (by kernel_rfl) (by kernel_rfl) (by kernel_rfl) (by rfl) ?hv28 (by assumption) ?rest28
    case hv28 => first | (intro w hSw; (try dsimp only at hSw); go_simp; done) | (intro w hSw; (try dsimp only at hSw); go_simp; with_reducible rfl)
    (try simp only [Act.put, List.setIfInBounds_toArray, List.set_cons_zero, List.set_cons_succ])
    refine Reg.take (i := 4) (v := ?v29) rfl (by kernel_rfl) (by kernel_rfl) (by kernel_rfl) (by rfl) ?hv29 (by assumption) ?rest29
    case hv29 => first | (intro w hSw; (try dsimp only at hSw); go_simp; done) | (intro w hSw; (try dsimp only at hSw); go_simp; with_reducible rfl)
    (try simp only [Act.put, List.setIfInBounds_toArray, List.set_cons_zero, List.set_cons_succ])
    refine Reg.take (i := 5) (v := ?v30) rfl (by kernel_rfl) (by kernel_rfl) (by kernel_rfl) (by rfl) ?hv30 (by assumption) ?rest30
    case hv30 => first | (intro w hSw; (try dsimp only at hSw); go_simp; done) | (intro w hSw; (try dsimp only at hSw); go_simp; with_reducible rfl)
    (try simp only [Act.put, List.setIfInBounds_toArray, List.set_cons_zero, List.set_cons_succ])
    refine Reg.call (i := 6) rfl (by kernel_rfl) (by rfl) ?_
    intro K hK
    go_simp
    go_at_call 35
    (refine Calls.mono (by exact hbg _ _ hb1.tal) ?_)
    rintro e W9 ⟨rfl, hT9, hK9⟩
    have h9 := hb1.tally hK9 hT9
    have hP9 := hK9.has hp1 hpt
    have hL9 : Kept (b :: t :: Sc) w W9 := (show Kept (b :: t :: Sc) w (W3).drew from hL3.drewN 1).trans (hK9.wide (T := b :: t :: Sc) (fun k hk _ => by simp at hk; simp [hk]))
    clear hHeld
    refine hK.out _ _ (by exact ⟨h9.head.cell 0,hP9.cell 1⟩) (fun hHeld => ?_)
    clear hK K
    (try simp only [Act.put, List.setIfInBounds_toArray, List.set_cons_zero, List.set_cons_succ])
    refine Reg.done (by kernel_rfl) ?_ _
    go_wp2
    go_ret
    exact ⟨rfl, h9, hL9⟩
  have n3 : (k == 3) = false := by simp [k3]
  by_cases k6 : k = 6
  · subst k6
    have c2 := hc2
    by_cases hd : s.dark = true
    · have e1 : counts s ⟨6, a, v, m3, m4, rr, bk⟩ = false := by simp [counts, hd]
      rw [e1, if_neg (by decide)]
      clear e1
      rw [hd] at c2
      go_enter Try.func24, Try.ntmps24
      go_wp2
      go_ret
      exact ⟨rfl, h1, hL1⟩
    · rw [Bool.not_eq_true] at hd
      have e1 : counts s ⟨6, a, v, m3, m4, rr, bk⟩ = true := by simp [counts, hd]
      have e2 : takeT s ⟨6, a, v, m3, m4, rr, bk⟩ = ⟨s.dark, Tally.beatT s.t a [rr], s.h, s.on⟩ := by simp [takeT]
      rw [e1, if_pos rfl, e2]
      clear e1 e2
      rw [hd] at c2
      go_enter Try.func24, Try.ntmps24
      go_wp2
      generalize w.alloc (.cells #[.int .i64 6, .int .i64 a, .int .i64 v, .int .i64 m3, .int .i64 m4, .int .i64 rr, .bool bk] 45) = W1 at *
      have hb2 := (h1).drew
      have hp2 := (hP1).drew
      have hL2 : Kept (b :: t :: Sc) w (W1).drew := hL1.drewN 1
      refine Reg.begin_ (S := fun W => W.cell? ⟨b, 0, none⟩ = some (.pointer (some ⟨t, 0, none⟩)) ∧ W.cell? ⟨p, 1, none⟩ = some (.int .i64 a) ∧ W.cell? ⟨p, 5, none⟩ = some (.int .i64 rr)) (by kernel_rfl) (by exact ⟨hb2.head.cell 0, hp2.cell 1, hp2.cell 5⟩) (fun hHeld => ?_)
      refine Reg.take (i := 0) (v := ?v31) rfl (by kernel_rfl) (by kernel_rfl) (by kernel_rfl) (by rfl) ?hv31 (by assumption) ?rest31
      case hv31 => first | (intro w hSw; (try dsimp only at hSw); go_simp; done) | (intro w hSw; (try dsimp only at hSw); go_simp; with_reducible rfl)
      (try simp only [Act.put, List.setIfInBounds_toArray, List.set_cons_zero, List.set_cons_succ])
      refine Reg.take (i := 1) (v := ?v32) rfl (by kernel_rfl) (by kernel_rfl) (by kernel_rfl) (by rfl) ?hv32 (by assumption) ?rest32
      case hv32 => first | (intro w hSw; (try dsimp only at hSw); go_simp; done) | (intro w hSw; (try dsimp only at hSw); go_simp; with_reducible rfl)
      (try simp only [Act.put, List.setIfInBounds_toArray, List.set_cons_zero, List.set_cons_succ])
      refine Reg.take (i := 2) (v := ?v33) rfl (by kernel_rfl) (by kernel_rfl) (by kernel_rfl) (by rfl) ?hv33 (by assumption) ?rest33
      case hv33 => first | (intro w hSw; (try dsimp only at hSw); go_simp; done) | (intro w hSw; (try dsimp only at hSw); go_simp; with_reducible rfl)
      (try simp only [Act.put, List.setIfInBounds_toArray, List.set_cons_zero, List.set_cons_succ])
      refine Reg.take (i := 3) (v := ?v34) rfl (by kernel_rfl) (by kernel_rfl) (by kernel_rfl) (by rfl) ?hv34 (by assumption) ?rest34
      case hv34 => first | (intro w hSw; (try dsimp only at hSw); go_simp; done) | (intro w hSw; (try dsimp only at hSw); go_simp; with_reducible rfl)
      (try simp only [Act.put, List.setIfInBounds_toArray, List.set_cons_zero, List.set_cons_succ])
      refine Reg.take (i := 4) (v := ?v35) rfl (by kernel_rfl) (by kernel_rfl) (by kernel_rfl) (by rfl) ?hv35 (by assumption) ?rest35
      case hv35 => first | (intro w hSw; (try dsimp only at hSw); go_simp; done) | (intro w hSw; (try dsimp only at hSw); go_simp; with_reducible rfl)
      (try simp only [Act.put, List.setIfInBounds_toArray, List.set_cons_zero, List.set_cons_succ])
      refine Reg.take (i := 5) (v := ?v36) rfl (by kernel_rfl) (by kernel_rfl) (by kernel_rfl) (by rfl) ?hv36 (by assumption) ?rest36
      case hv36 => first | (intro w hSw; (try dsimp only at hSw); go_simp; done) | (intro w hSw; (try dsimp only at hSw); go_simp; with_reducible rfl)
      (try simp only [Act.put, List.setIfInBounds_toArray, List.set_cons_zero, List.set_cons_succ])
      refine Reg.take (i := 6) (v := ?v37) rfl (by kernel_rfl) (by kernel_rfl) (by kernel_rfl) (by rfl) ?hv37 (by assumption) ?rest37
      case hv37 => first | (intro w hSw; (try dsimp only at hSw); go_simp; done) | (intro w hSw; (try dsimp only at hSw); go_simp; with_reducible rfl)
      (try simp only [Act.put, List.setIfInBounds_toArray, List.set_cons_zero, List.set_cons_succ])
      refine Reg.take (i := 7) (v := ?v38) rfl (by kernel_rfl) (by kernel_rfl) (by kernel_rfl) (by rfl) ?hv38 (by assumption) ?rest38
      case hv38 => first | (intro w hSw; (try dsimp only at hSw); go_simp; done) | (intro w hSw; (try dsimp only at hSw); go_simp; with_reducible rfl)
      (try simp only [Act.put, List.setIfInBounds_toArray, List.set_cons_zero, List.set_cons_succ])
      refine Reg.take (i := 8) (v := ?v39) rfl (by kernel_rfl) (by kernel_rfl) (by kernel_rfl) (by rfl) ?hv39 (by assumption) ?rest39
      case hv39 => first | (intro w hSw; (try dsimp only at hSw); go_simp; done) | (intro w hSw; (try dsimp only at hSw); go_simp; with_reducible rfl)
      (try simp only [Act.put, List.setIfInBounds_toArray, List.set_cons_zero, List.set_cons_succ])
      generalize (W1).drew = W5 at *
      clear hHeld
      refine Reg.call (i := 9) rfl (by kernel_rfl) (by rfl) ?_
      intro K hK
      go_simp
      refine hK.out _ _ (by exact ⟨(hb2.alloc _).head.cell 0,(hp2.alloc _).cell 1,(hp2.alloc _).cell 5⟩) (fun hHeld => ?_)
      clear hK K
      (try simp only [Act.put, List.setIfInBounds_toArray, List.set_cons_zero, List.set_cons_succ])
      refine Reg.call (i := 10) rfl (by kernel_rfl) (by rfl) ?_
      intro K hK
      go_simp
      go_at_call 36
      (refine Calls.mono (by exact Tally.beat_k t l s.t a (some ⟨W5.heap.size, 0, none⟩) 1 1 [rr] _ (hb2.alloc (.cells #[.int .i64 rr] 2)).tal (RI64.Vals.has (ys := [rr]) (tl := []) (Has.new W5 _ _)) (by omega) hrs (fun x' _ hx => by injection hx with hx; subst hx; dsimp only; have := hb2.lt; omega)) ?_)
      rintro e W6 ⟨rfl, hT6, hK6⟩
      have h6 := (hb2.alloc _).tally hK6 hT6
      have hP6 := hK6.has (hp2.alloc _) hpt
      have hL6 : Kept (b :: t :: Sc) w W6 := (hL2.alloc _).trans (hK6.wide (fun k hk _ => by simp at hk; simp [hk]))
      clear hHeld
      refine hK.out _ _ (by exact ⟨h6.head.cell 0,hP6.cell 1,hP6.cell 5⟩) (fun hHeld => ?_)
      clear hK K
      (try simp only [Act.put, List.setIfInBounds_toArray, List.set_cons_zero, List.set_cons_succ])
      refine Reg.done (by kernel_rfl) ?_ _
      go_wp2
      go_ret
      exact ⟨rfl, h6, hL6⟩
  have n6 : (k == 6) = false := by simp [k6]
  by_cases k4 : k = 4
  · subst k4
    have c2 := hc2
    by_cases hd : s.dark = true
    · have e1 : counts s ⟨4, a, v, m3, m4, rr, bk⟩ = false := by simp [counts, hd]
      rw [e1, if_neg (by decide)]
      clear e1
      rw [hd] at c2
      go_enter Try.func24, Try.ntmps24
      go_wp2
      go_ret
      exact ⟨rfl, h1, hL1⟩
    · rw [Bool.not_eq_true] at hd
      have e1 : counts s ⟨4, a, v, m3, m4, rr, bk⟩ = true := by simp [counts, hd]
      have e2 : takeT s ⟨4, a, v, m3, m4, rr, bk⟩ = ⟨s.dark, if s.t.begun then s.t else Tally.beginT a, v :: s.h, s.on⟩ := by simp [takeT]
      rw [e1, if_pos rfl, e2]
      clear e1 e2
      rw [hd] at c2
      generalize (if s.t.begun = true then s.t else Tally.beginT a) = tn at *
      have c1 := hP1.cell 1
      have c2' := hP1.cell 2
      have c3 := hP1.cell 3
      have c4 := hP1.cell 4
      have c5 := hP1.cell 5
      have c6 := hP1.cell 6
      go_enter Try.func24, Try.ntmps24
      go_wp2_with (go_at_call 37; ((with_reducible refine (hsa _ h1).mono ?_); rintro e W3 ⟨rfl, h3, hK3⟩))
      go_ret
      exact ⟨rfl, h3, hL1.trans hK3⟩
  have n4 : (k == 4) = false := by simp [k4]
  have e1 : counts s ⟨k, a, v, m3, m4, rr, bk⟩ = false := by simp [counts, k1, k2, k3, k6, k4]
  rw [e1, if_neg (by decide)]
  go_enter Try.func24, Try.ntmps24
  go_wp2
  go_ret
  exact ⟨rfl, h1, hL1⟩
end Go.Proofs.Ytpmjgomfjfhfkaa.Rhythm
