/- The landed alarm: how an out is told; a condition that begins or ends; silence. -/
import Derived.Test.YtahoiaiknchehaaAlarmCode
import Derived.Test.YtahoiaiknchehaaOwnMore
set_option linter.unusedSimpArgs false
set_option linter.unusedVariables false
namespace Go.Proofs.Ytahoiaiknchehaa.Alarm
open Go.RowKit
/-- Where an answer stands: the alarm in block b stands so; what is told lies in block g: of sample a, a row of its own; all else is as it was in w0. -/
structure Mid (w0 : World) (b g : Nat) (a : Int) (W : World) (s : St) (E : List Ot) : Prop where
  alm : Has W b 66 (cellsA s)
  told : ∃ V, Has W g 68 #[.int .i64 a, V] ∧ W.ownsRow (g + 1) 53 4 V E.length (Row.flat otS E)
  kept : Kept [b] w0 W
  lo : b < w0.heap.size
  hi : w0.heap.size ≤ g
section
variable {w0 W W' : World} {b g : Nat} {a a' : Int} {s s' : St} {E : List Ot}
theorem Mid.turn (h : Mid w0 b g a W s E) (hA : Has W' b 66 (cellsA s')) (hK : Kept [b] W W') : Mid w0 b g a W' s' E := by
  obtain ⟨V, h1, h2⟩ := h.told
  have := h.lo
  have := h.hi
  exact ⟨hA, ⟨V, hK.has h1 (by simp; omega), own_kept h2 hK (fun k hk => by simp at hk; omega)⟩, h.kept.trans hK, h.lo, h.hi⟩
theorem Mid.below (h : Mid w0 b g a W s E) (hB : Below W.heap.size W W') : Mid w0 b g a W' s E := h.turn (h.alm.below hB h.alm.lt) (Kept.of_below hB)
theorem Mid.alloc (h : Mid w0 b g a W s E) (o : Obj) : Mid w0 b g a (W.alloc o) s E := h.below ((Below.refl _ W).alloc (Nat.le_refl _) o)
theorem Mid.drewN (h : Mid w0 b g a W s E) (n : Nat) : Mid w0 b g a (W.drewN n) s E := h.below (below_drewN (Below.refl _ W) n)
theorem Mid.drew (h : Mid w0 b g a W s E) : Mid w0 b g a W.drew s E := h.drewN 1
theorem Mid.at_ (h : Mid w0 b g a W s E) : W.cell? ⟨g, 0, none⟩ = some (.int .i64 a) ∧ W.frozen? ⟨g, 0, none⟩ = false := by
  obtain ⟨V, h1, _⟩ := h.told
  exact ⟨h1.cell 0, h1.frozen 0⟩
theorem Mid.far (h : Mid w0 b g a W s E) : b ≠ g := by have := h.lo; have := h.hi; omega
theorem Mid.gt (h : Mid w0 b g a W s E) : g < W.heap.size := by obtain ⟨V, h1, _⟩ := h.told; exact h1.lt
/-- Of another sample. -/
theorem Mid.now (h : Mid w0 b g a W s E) (a' : Int) : Mid w0 b g a' (W.setCell ⟨g, 0, none⟩ (.int .i64 a')) s E := by
  obtain ⟨V, h1, h2⟩ := h.told
  have := h.far
  have := h.hi
  have h4 := h1.set_ 0 (.int .i64 a')
  exact ⟨h.alm.far (p := ⟨g, 0, none⟩) (by simpa using h.far) _, ⟨V, by simpa using h4, own_kept h2 ((Kept.refl [g] W).setCell (p := ⟨g, 0, none⟩) (.inl (by simp)) _) (fun k hk => by simp at hk; omega)⟩,
    h.kept.setCell (p := ⟨g, 0, none⟩) (.inr h.hi) _, h.lo, h.hi⟩
/-- The five cells of a kind's alarm anew. -/
theorem Mid.put5 (h : Mid w0 b g a W s E) (k : Nat) (o : One) (hk : 1 ≤ k ∧ k ≤ 5) : Mid w0 b g a (((((W.setCell ⟨b, k * 5, none⟩ (.bool o.on)).setCell ⟨b, k * 5 + 1, none⟩ (.bool o.stands)).setCell ⟨b, k * 5 + 2, none⟩ (.bool o.acked)).setCell ⟨b, k * 5 + 3, none⟩ (.bool o.esc)).setCell ⟨b, k * 5 + 4, none⟩ (.int .i64 o.since)) (s.set k o) E := by
  obtain ⟨o1, o2, o3, o4, o5⟩ := o
  have hK := (((((Kept.refl [b] W).setCell (p := ⟨b, k * 5, none⟩) (.inl (by simp)) (.bool o1)).setCell (p := ⟨b, k * 5 + 1, none⟩) (.inl (by simp)) (.bool o2)).setCell (p := ⟨b, k * 5 + 2, none⟩) (.inl (by simp)) (.bool o3)).setCell (p := ⟨b, k * 5 + 3, none⟩) (.inl (by simp)) (.bool o4)).setCell (p := ⟨b, k * 5 + 4, none⟩) (.inl (by simp)) (.int .i64 o5)
  have hH := ((((h.alm.set_ (k * 5 + 0) (.bool o1)).set_ (k * 5 + 1) (.bool o2)).set_ (k * 5 + 2) (.bool o3)).set_ (k * 5 + 3) (.bool o4)).set_ (k * 5 + 4) (.int .i64 o5)
  rw [cells_set s k 0 hk (by omega) _ ⟨o1, (s.get k).stands, (s.get k).acked, (s.get k).esc, (s.get k).since⟩ rfl] at hH
  rw [cells_set _ k 1 hk (by omega) _ ⟨o1, o2, (s.get k).acked, (s.get k).esc, (s.get k).since⟩ (by rw [get_set _ _ _ hk]; rfl)] at hH
  rw [cells_set _ k 2 hk (by omega) _ ⟨o1, o2, o3, (s.get k).esc, (s.get k).since⟩ (by rw [get_set _ _ _ hk]; rfl)] at hH
  rw [cells_set _ k 3 hk (by omega) _ ⟨o1, o2, o3, o4, (s.get k).since⟩ (by rw [get_set _ _ _ hk]; rfl)] at hH
  rw [cells_set _ k 4 hk (by omega) _ ⟨o1, o2, o3, o4, o5⟩ (by rw [get_set _ _ _ hk]; rfl)] at hH
  simp only [set_set] at hH
  exact h.turn hH hK
/-- One of its flags anew. -/
theorem Mid.put1 (h : Mid w0 b g a W s E) (k m : Nat) (q : Bool) (o : One) (hk : 1 ≤ k ∧ k ≤ 5) (hm : m < 5) (he : oneC o = (oneC (s.get k)).set m (.bool q)) : Mid w0 b g a (W.setCell ⟨b, k * 5 + m, none⟩ (.bool q)) (s.set k o) E := by
  have hH := h.alm.set_ (k * 5 + m) (.bool q)
  rw [cells_set s k m hk hm _ o he] at hH
  exact h.turn hH ((Kept.refl [b] W).setCell (p := ⟨b, k * 5 + m, none⟩) (.inl (by simp)) _)
/-- Silenced till then; it sounds, or not. -/
theorem Mid.putTill (h : Mid w0 b g a W s E) (t : Int) : Mid w0 b g a (W.setCell ⟨b, 31, none⟩ (.int .i64 t)) { s with till := t } E :=
  h.turn (s' := { s with till := t }) (h.alm.set_ 31 (.int .i64 t)) ((Kept.refl [b] W).setCell (p := ⟨b, 31, none⟩) (.inl (by simp)) _)
theorem Mid.putSounds (h : Mid w0 b g a W s E) (q : Bool) : Mid w0 b g a (W.setCell ⟨b, 32, none⟩ (.bool q)) { s with sounds := q } E :=
  h.turn (s' := { s with sounds := q }) (h.alm.set_ 32 (.bool q)) ((Kept.refl [b] W).setCell (p := ⟨b, 32, none⟩) (.inl (by simp)) _)
theorem Mid.rest (h : Mid w0 b g a W s E) : W.cell? ⟨b, 30, none⟩ = some (.int .i64 s.escape) ∧ W.cell? ⟨b, 31, none⟩ = some (.int .i64 s.till) ∧ W.cell? ⟨b, 32, none⟩ = some (.bool s.sounds) ∧ W.frozen? ⟨b, 31, none⟩ = false ∧ W.frozen? ⟨b, 32, none⟩ = false :=
  ⟨h.alm.cell 30, h.alm.cell 31, h.alm.cell 32, h.alm.frozen 31, h.alm.frozen 32⟩
end
theorem ot_new (W : World) (t : TypeId) (e : Ot) : Row.Vals otS (W.alloc (.cells #[.int .i64 e.1, .int .i64 e.2.1, .int .i64 e.2.2.1, .int .i64 e.2.2.2] t)) (some ⟨W.heap.size, 0, none⟩) 1 [e] :=
  Row.Vals.has (S := otS) (ys := [e]) (tl := []) (Has.new W t _)
set_option maxHeartbeats 2000000 in
theorem say_k (w0 : World) (b g : Nat) (a : Int) (s : St) (E : List Ot) (kd al n : Int) (w : World) (h : Mid w0 b g a w s E) (hE : E.length ≤ 1000000) :
    Calls Try.prog 35 #[.pointer (some ⟨g, 0, none⟩), .int .i64 kd, .int .i64 al, .int .i64 n] w fun e w' => e = .returned (.tuple #[]) ∧ Mid w0 b g a w' s (E ++ [(kd, a, al, n)]) := by
  have hInfo : (Try.prog.info? 53).map (fun i => (i.zero, i.size, i.bytes)) = some (some (.agg #[.int .i64 0, .int .i64 0, .int .i64 0, .int .i64 0]), 4, 32) := by kernel_rfl
  obtain ⟨V, hH, hO⟩ := h.told
  have HM := Lib.hid h
  clear h
  have hlx := hH.lt
  go_enter Try.func35, Try.ntmps35
  refine Till.begin_ (T := [17]) (S := fun W => W.cell? ⟨g, 0, none⟩ = some (.int .i64 a) ∧ W.cell? ⟨g, 1, none⟩ = some V) (by kernel_rfl) (by exact ⟨hH.cell 0, hH.cell 1⟩) (fun hHeld => ?_)
  refine Till.take (i := 0) (v := ?v1) rfl (by kernel_rfl) (by kernel_rfl) (by kernel_rfl) (by kernel_rfl) (by rfl) ?hv1 (by assumption) ?rest1
  case hv1 => first | (intro w hSw; (try dsimp only at hSw); go_simp; done) | (intro w hSw; (try dsimp only at hSw); go_simp; with_reducible rfl)
  (try simp only [Act.put, List.setIfInBounds_toArray, List.set_cons_zero, List.set_cons_succ])
  refine Till.take (i := 1) (v := ?v2) rfl (by kernel_rfl) (by kernel_rfl) (by kernel_rfl) (by kernel_rfl) (by rfl) ?hv2 (by assumption) ?rest2
  case hv2 => first | (intro w hSw; (try dsimp only at hSw); go_simp; done) | (intro w hSw; (try dsimp only at hSw); go_simp; with_reducible rfl)
  (try simp only [Act.put, List.setIfInBounds_toArray, List.set_cons_zero, List.set_cons_succ])
  refine Till.take (i := 2) (v := ?v3) rfl (by kernel_rfl) (by kernel_rfl) (by kernel_rfl) (by kernel_rfl) (by rfl) ?hv3 (by assumption) ?rest3
  case hv3 => first | (intro w hSw; (try dsimp only at hSw); go_simp; done) | (intro w hSw; (try dsimp only at hSw); go_simp; with_reducible rfl)
  (try simp only [Act.put, List.setIfInBounds_toArray, List.set_cons_zero, List.set_cons_succ])
  refine Till.take (i := 3) (v := ?v4) rfl (by kernel_rfl) (by kernel_rfl) (by kernel_rfl) (by kernel_rfl) (by rfl) ?hv4 (by assumption) ?rest4
  case hv4 => first | (intro w hSw; (try dsimp only at hSw); go_simp; done) | (intro w hSw; (try dsimp only at hSw); go_simp; with_reducible rfl)
  (try simp only [Act.put, List.setIfInBounds_toArray, List.set_cons_zero, List.set_cons_succ])
  refine Till.take (i := 4) (v := ?v5) rfl (by kernel_rfl) (by kernel_rfl) (by kernel_rfl) (by kernel_rfl) (by rfl) ?hv5 (by assumption) ?rest5
  case hv5 => first | (intro w hSw; (try dsimp only at hSw); go_simp; done) | (intro w hSw; (try dsimp only at hSw); go_simp; with_reducible rfl)
  (try simp only [Act.put, List.setIfInBounds_toArray, List.set_cons_zero, List.set_cons_succ])
  refine Till.take (i := 5) (v := ?v6) rfl (by kernel_rfl) (by kernel_rfl) (by kernel_rfl) (by kernel_rfl) (by rfl) ?hv6 (by assumption) ?rest6
  case hv6 => first | (intro w hSw; (try dsimp only at hSw); go_simp; done) | (intro w hSw; (try dsimp only at hSw); go_simp; with_reducible rfl)
  (try simp only [Act.put, List.setIfInBounds_toArray, List.set_cons_zero, List.set_cons_succ])
  refine Till.take (i := 6) (v := ?v7) rfl (by kernel_rfl) (by kernel_rfl) (by kernel_rfl) (by kernel_rfl) (by rfl) ?hv7 (by assumption) ?rest7
  case hv7 => first | (intro w hSw; (try dsimp only at hSw); go_simp; done) | (intro w hSw; (try dsimp only at hSw); go_simp; with_reducible rfl)
  (try simp only [Act.put, List.setIfInBounds_toArray, List.set_cons_zero, List.set_cons_succ])
  refine Till.take (i := 7) (v := ?v8) rfl (by kernel_rfl) (by kernel_rfl) (by kernel_rfl) (by kernel_rfl) (by rfl) ?hv8 (by assumption) ?rest8
  case hv8 => first | (intro w hSw; (try dsimp only at hSw); go_simp; done) | (intro w hSw; (try dsimp only at hSw); go_simp; with_reducible rfl)
  (try simp only [Act.put, List.setIfInBounds_toArray, List.set_cons_zero, List.set_cons_succ])
  refine Till.take (i := 8) (v := ?v9) rfl (by kernel_rfl) (by kernel_rfl) (by kernel_rfl) (by kernel_rfl) (by rfl) ?hv9 (by assumption) ?rest9
  case hv9 => first | (intro w hSw; (try dsimp only at hSw); go_simp; done) | (intro w hSw; (try dsimp only at hSw); go_simp; with_reducible rfl)
  (try simp only [Act.put, List.setIfInBounds_toArray, List.set_cons_zero, List.set_cons_succ])
  refine Till.take (i := 9) (v := ?v10) rfl (by kernel_rfl) (by kernel_rfl) (by kernel_rfl) (by kernel_rfl) (by rfl) ?hv10 (by assumption) ?rest10
  case hv10 => first | (intro w hSw; (try dsimp only at hSw); go_simp; done) | (intro w hSw; (try dsimp only at hSw); go_simp; with_reducible rfl)
  (try simp only [Act.put, List.setIfInBounds_toArray, List.set_cons_zero, List.set_cons_succ])
  refine Till.take (i := 10) (v := ?v11) rfl (by kernel_rfl) (by kernel_rfl) (by kernel_rfl) (by kernel_rfl) (by rfl) ?hv11 (by assumption) ?rest11
  case hv11 => first | (intro w hSw; (try dsimp only at hSw); go_simp; done) | (intro w hSw; (try dsimp only at hSw); go_simp; with_reducible rfl)
  (try simp only [Act.put, List.setIfInBounds_toArray, List.set_cons_zero, List.set_cons_succ])
  refine Till.take (i := 11) (v := ?v12) rfl (by kernel_rfl) (by kernel_rfl) (by kernel_rfl) (by kernel_rfl) (by rfl) ?hv12 (by assumption) ?rest12
  case hv12 => first | (intro w hSw; (try dsimp only at hSw); go_simp; done) | (intro w hSw; (try dsimp only at hSw); go_simp; with_reducible rfl)
  (try simp only [Act.put, List.setIfInBounds_toArray, List.set_cons_zero, List.set_cons_succ])
  refine Till.take (i := 12) (v := ?v13) rfl (by kernel_rfl) (by kernel_rfl) (by kernel_rfl) (by kernel_rfl) (by rfl) ?hv13 (by assumption) ?rest13
  case hv13 => first | (intro w hSw; (try dsimp only at hSw); go_simp; done) | (intro w hSw; (try dsimp only at hSw); go_simp; with_reducible rfl)
  (try simp only [Act.put, List.setIfInBounds_toArray, List.set_cons_zero, List.set_cons_succ])
  have hM1 := HM.out.drew
  have hD1 : Has w.drew g 68 #[.int .i64 a, V] := hH
  have hO1 : w.drew.ownsRow (g + 1) 53 4 V E.length (Row.flat otS E) := own_kept hO ((Kept.refl [] w).drewN 1) (by simp)
  clear hHeld hH hO HM
  have hlg := hD1.lt
  generalize w.drew = W1 at *
  have hM2 := hM1.alloc (.cells #[.int .i64 kd, .int .i64 a, .int .i64 al, .int .i64 n] 53)
  have hD2 := hD1.alloc (.cells #[.int .i64 kd, .int .i64 a, .int .i64 al, .int .i64 n] 53)
  have hO2 := own_kept hO1 ((Kept.refl [] W1).alloc (.cells #[.int .i64 kd, .int .i64 a, .int .i64 al, .int .i64 n] 53)) (by simp)
  have hVn := ot_new W1 53 (kd, a, al, n)
  dsimp only at hVn
  have hsz : W1.heap.size < (W1.alloc (.cells #[.int .i64 kd, .int .i64 a, .int .i64 al, .int .i64 n] 53)).heap.size := by rw [World.size_alloc]; omega
  refine Till.call (i := 13) rfl (by kernel_rfl) (by rfl) ?_
  intro K hK
  go_simp
  refine hK.out _ _ (by exact ⟨hD2.cell 0, hD2.cell 1⟩) (fun hHeld => ?_)
  clear hK K
  (try simp only [Act.put, List.setIfInBounds_toArray, List.set_cons_zero, List.set_cons_succ])
  have hlg0 := hlg
  generalize W1.alloc (.cells #[.int .i64 kd, .int .i64 a, .int .i64 al, .int .i64 n] 53) = W2 at *
  obtain ⟨z, hz⟩ : ∃ z, W1.heap.size = z := ⟨_, rfl⟩
  rw [hz] at hVn hsz hlg0
  rw [hz]
  clear hHeld hM1 hD1 hO1 hlg hz
  refine Till.call (i := 14) rfl (by kernel_rfl) (by rfl) ?_
  intro K hK
  refine Row.wp_append (S := otS) (.tmp 12) (.tmp 21) _ rfl (g + 1) 53 _ 32 (by omega) Try.underlying37 hInfo (by kernel_rfl) V E.length E rfl hO2 (some ⟨z, 0, none⟩) 1 1 [(kd, a, al, n)] rfl hVn (by omega) (by omega) ?_
  intro v9 W4 hO9 hg9 hat9
  have hx9 : g ∉ V.ownBlock.toList := own_apart hO2 (by omega)
  have hD9 := (Kept.of_grown hg9).has hD2 hx9
  have hb9 : b ∉ V.ownBlock.toList := own_apart hO2 (by have := hM2.far; have := hM2.lo; have := hM2.hi; omega)
  have hA9 := (Kept.of_grown hg9).has hM2.alm hb9
  have hK9 := hM2.kept.grown hg9 (fun k hk => .inr (by have := (own_block hO2 k hk).1; have := hM2.hi; omega))
  refine hK.out _ _ (by exact ⟨hD9.cell 0, hD9.cell 1⟩) (fun hHeld => ?_)
  clear hK K
  (try simp only [Act.put, List.setIfInBounds_toArray, List.set_cons_zero, List.set_cons_succ])
  refine Till.take (i := 15) (v := ?v14) rfl (by kernel_rfl) (by kernel_rfl) (by kernel_rfl) (by kernel_rfl) (by rfl) ?hv14 (by assumption) ?rest14
  case hv14 => first | (intro w hSw; (try dsimp only at hSw); go_simp; done) | (intro w hSw; (try dsimp only at hSw); go_simp; with_reducible rfl)
  (try simp only [Act.put, List.setIfInBounds_toArray, List.set_cons_zero, List.set_cons_succ])
  refine Till.take (i := 16) (v := ?v15) rfl (by kernel_rfl) (by kernel_rfl) (by kernel_rfl) (by kernel_rfl) (by rfl) ?hv15 (by assumption) ?rest15
  case hv15 => first | (intro w hSw; (try dsimp only at hSw); go_simp; done) | (intro w hSw; (try dsimp only at hSw); go_simp; with_reducible rfl)
  (try simp only [Act.put, List.setIfInBounds_toArray, List.set_cons_zero, List.set_cons_succ])
  obtain ⟨A9, d9, rfl, _, _, hx1, hx2⟩ := Row.Vals.own hO9
  have t2 : W4.cell? ⟨g, 1, none⟩ = some V := hD9.cell 1
  have g2 := hD9.frozen 1
  have hT5 := hD9.set_ 1 (.slice A9 (E.length + 1) d9)
  have hO5 := own_kept hO9 ((Kept.refl [g] W4).setCell (p := ⟨g, 1, none⟩) (.inl (by simp)) (.slice A9 (E.length + 1) d9)) (fun y hy => by simp at hy; omega)
  have hA5 := hA9.far (p := ⟨g, 1, none⟩) (by simpa using hM2.far) (.slice A9 (E.length + 1) d9)
  have hK5 := hK9.setCell (p := ⟨g, 1, none⟩) (.inr hM2.hi) (.slice A9 (E.length + 1) d9)
  have HM := Lib.hid hM2
  clear hHeld hD9 hO9 hx1 hx2 hg9 hat9 hVn hO2 hD2 hsz hK9 hA9 hM2 hx9 hb9
  refine Till.put (i := 17) rfl (by kernel_rfl) (by rfl) (by rfl) ?_
  intro K hK
  go_simp
  refine hK.out _ _ ?_
  clear hK K
  (try simp only [Act.put, List.setIfInBounds_toArray, List.set_cons_zero, List.set_cons_succ])
  refine Till.done (by kernel_rfl) ?_ _
  clear t2 g2
  go_wp2
  go_end0
  refine ⟨rfl, hA5, ⟨.slice A9 (E.length + 1) d9, by simpa using hT5, ?_⟩, hK5, HM.out.lo, HM.out.hi⟩
  rw [List.length_append]
  exact hO5
set_option maxHeartbeats 1000000 in
theorem clear_k (w0 : World) (b g : Nat) (a : Int) (s : St) (E : List Ot) (k : Nat) (w : World) (h : Mid w0 b g a w s E) (hk : 1 ≤ k ∧ k ≤ 5) (hE : E.length ≤ 1000000) :
    Calls Try.prog 37 #[.pointer (some ⟨b, 0, none⟩), .int .i64 (k : Nat), .pointer (some ⟨g, 0, none⟩)] w fun e w' => e = .returned (.tuple #[]) ∧ Mid w0 b g a w' (s.set k noOne) (E ++ [(3, a, (k : Int), 0)]) := by
  have hM1 := h.put5 k noOne hk
  obtain ⟨c0, c1, c2, c3, c4⟩ := part h.alm (show k < 6 by omega)
  obtain ⟨f0, f1, f2, f3, f4⟩ := partF h.alm k
  have hk6 : k < 6 := by omega
  have hk0 : 0 ≤ (k : Int) ∧ (k : Int) ≤ 5 := by omega
  unfold noOne at hM1
  dsimp only at hM1
  clear h hk
  go_enter Try.func37, Try.ntmps37
  go_upto_region 1 with (fail)
  generalize ((((w.setCell ⟨b, k * 5, none⟩ (.bool false)).setCell ⟨b, k * 5 + 1, none⟩ (.bool false)).setCell ⟨b, k * 5 + 2, none⟩ (.bool false)).setCell ⟨b, k * 5 + 3, none⟩ (.bool false)).setCell ⟨b, k * 5 + 4, none⟩ (.int .i64 0) = W2 at *
  have hs := say_k w0 b g a _ E 3 k 0 W2 hM1 hE
  clear c0 c1 c2 c3 c4 f0 f1 f2 f3 f4
  go_wp2_with (go_at_call 35; ((with_reducible refine hs.mono ?_); rintro e W3 ⟨rfl, hM3⟩))
  go_end0
  exact ⟨rfl, hM3⟩
set_option maxHeartbeats 2000000 in
theorem end_k (w0 : World) (b g : Nat) (a : Int) (s : St) (E : List Ot) (k : Nat) (w : World) (h : Mid w0 b g a w s E) (hk : 1 ≤ k ∧ k ≤ 5) (hE : E.length ≤ 1000000) :
    Calls Try.prog 24 #[.pointer (some ⟨b, 0, none⟩), .int .i64 (k : Nat), .pointer (some ⟨g, 0, none⟩)] w fun e w' => e = .returned (.tuple #[]) ∧ Mid w0 b g a w' (endT s k a).1 (E ++ (endT s k a).2) := by
  obtain ⟨c0, c1, c2, c3, c4⟩ := part h.alm (show k < 6 by omega)
  obtain ⟨f0, f1, f2, f3, f4⟩ := partF h.alm k
  have hk6 : k < 6 := by omega
  have hk0 : 0 ≤ (k : Int) ∧ (k : Int) ≤ 5 := by omega
  unfold endT
  by_cases hon : (s.get k).on = true
  · rw [if_pos hon]
    rw [hon] at c0
    have hM1 := h.put1 k 0 false { s.get k with on := false } hk (by omega) rfl
    have hg : (s.set k { s.get k with on := false }).high k = s.high k := by unfold St.high; rw [get_set _ _ _ hk]
    have hcl := fun W hW => clear_k w0 b g a (s.set k { s.get k with on := false }) E k W hW hk hE
    rw [set_set] at hcl
    have hst := fun W hW => say_k w0 b g a (s.set k { s.get k with on := false }) E 4 k 0 W hW hE
    have hhi := fun W hW => high_k b (s.set k { s.get k with on := false }) k W hW
    rw [highZ_nat, hg] at hhi
    have hac : ∀ W, Mid w0 b g a W (s.set k { s.get k with on := false }) E → W.cell? ⟨b, k * 5 + 2, none⟩ = some (.bool (s.get k).acked) := fun W hW => by
      have h9 := (part hW.alm hk6).2.2.1
      rwa [get_set _ _ _ hk] at h9
    clear h hk
    generalize s.set k { s.get k with on := false } = s1 at *
    generalize s.set k noOne = s2 at *
    generalize (s.get k).acked = ak at *
    generalize s.high k = hi at *
    clear hg hon
    go_enter Try.func24, Try.ntmps24
    go_upto_region 3 with (fail)
    simp only [Nat.add_zero] at hM1
    generalize w.setCell ⟨b, k * 5, none⟩ (.bool false) = W2 at *
    clear c0 c1 c2 c3 c4 f0 f1 f2 f3 f4
    have hhi2 := hhi W2 hM1.alm
    cases hi
    · go_wp2_with (first
        | (go_at_call 33; ((with_reducible refine hhi2.mono ?_); rintro e W3 ⟨rfl, hB3⟩; have hM3 := hM1.below hB3))
        | (go_at_call 37; ((with_reducible refine (hcl _ hM3).mono ?_); rintro e W4 ⟨rfl, hM4⟩)))
      go_end0
      exact ⟨rfl, hM4⟩
    · cases ak
      · go_wp2_with (first
          | (go_at_call 33; ((with_reducible refine hhi2.mono ?_); rintro e W3 ⟨rfl, hB3⟩; have hM3 := hM1.below hB3; have c2 := hac _ hM3))
          | (go_at_call 35; ((with_reducible refine (hst _ hM3).mono ?_); rintro e W4 ⟨rfl, hM4⟩)))
        exact bodyPost_ret (results_none rfl _ _ _) rfl ⟨rfl, hM4⟩
      · go_wp2_with (first
          | (go_at_call 33; ((with_reducible refine hhi2.mono ?_); rintro e W3 ⟨rfl, hB3⟩; have hM3 := hM1.below hB3; have c2 := hac _ hM3))
          | (go_at_call 37; ((with_reducible refine (hcl _ hM3).mono ?_); rintro e W4 ⟨rfl, hM4⟩)))
        go_end0
        exact ⟨rfl, hM4⟩
  · rw [if_neg hon]
    rw [Bool.not_eq_true] at hon
    rw [hon] at c0
    rw [List.append_nil]
    have HM := Lib.hid h
    clear h hk hon
    go_enter Try.func24, Try.ntmps24
    go_wp2
    exact bodyPost_ret (results_none rfl _ _ _) rfl ⟨rfl, HM.out⟩
set_option maxHeartbeats 2000000 in
theorem begin_k (w0 : World) (b g : Nat) (a : Int) (s : St) (E : List Ot) (k : Nat) (w : World) (h : Mid w0 b g a w s E) (hk : 1 ≤ k ∧ k ≤ 5) (hE : E.length ≤ 1000000) :
    Calls Try.prog 23 #[.pointer (some ⟨b, 0, none⟩), .int .i64 (k : Nat), .pointer (some ⟨g, 0, none⟩)] w fun e w' => e = .returned (.tuple #[]) ∧ Mid w0 b g a w' (beginT s k a).1 (E ++ (beginT s k a).2) := by
  obtain ⟨c0, c1, c2, c3, c4⟩ := part h.alm (show k < 6 by omega)
  obtain ⟨f0, f1, f2, f3, f4⟩ := partF h.alm k
  have hk6 : k < 6 := by omega
  have hk0 : 0 ≤ (k : Int) ∧ (k : Int) ≤ 5 := by omega
  have hgr := fun W => grave_k k W
  rw [show (decide ((k : Int) = 2) || decide ((k : Int) = 3)) = grave k from by
    unfold grave
    rw [show decide ((k : Int) = 2) = (k == 2) from decide_eq_decide.2 (by omega), show decide ((k : Int) = 3) = (k == 3) from decide_eq_decide.2 (by omega)]] at hgr
  unfold beginT
  by_cases hon : (s.get k).stands = true
  · rw [if_pos hon, List.append_nil]
    rw [hon] at c1
    have hM1 := h.put1 k 0 true { s.get k with on := true } hk (by omega) rfl
    simp only [Nat.add_zero] at hM1
    clear h hk hon
    go_enter Try.func23, Try.ntmps23
    go_wp2
    exact bodyPost_ret (results_none rfl _ _ _) rfl ⟨rfl, hM1⟩
  · rw [if_neg hon]
    rw [Bool.not_eq_true] at hon
    rw [hon] at c1
    obtain ⟨x0, x1⟩ := h.at_
    have hM1 := h.put5 k ⟨true, true, false, false, a⟩ hk
    dsimp only at hM1 ⊢
    have hst := fun W hW => say_k w0 b g a (s.set k ⟨true, true, false, false, a⟩) E 2 k 0 W hW hE
    cases hgv : grave k
    · rw [hgv] at hgr
      clear hgv
      rw [if_neg (show ¬ (false = true) by decide)]
      clear h hk hon
      generalize s.set k ⟨true, true, false, false, a⟩ = s1 at *
      go_enter Try.func23, Try.ntmps23
      go_upto_region 4 with (fail)
      generalize ((((w.setCell ⟨b, k * 5, none⟩ (.bool true)).setCell ⟨b, k * 5 + 1, none⟩ (.bool true)).setCell ⟨b, k * 5 + 2, none⟩ (.bool false)).setCell ⟨b, k * 5 + 3, none⟩ (.bool false)).setCell ⟨b, k * 5 + 4, none⟩ (.int .i64 a) = W2 at *
      clear c0 c1 c2 c3 c4 f0 f1 f2 f3 f4
      have hs := hst W2 hM1
      go_wp2_with (first
        | (go_at_call 35; ((with_reducible refine hs.mono ?_); rintro e W3 ⟨rfl, hM3⟩))
        | (go_at_call 36; ((with_reducible refine (hgr _).mono ?_); rintro e W4 ⟨rfl, rfl⟩)))
      go_end0
      exact ⟨rfl, hM3⟩
    · rw [hgv] at hgr
      clear hgv
      rw [if_pos rfl]
      clear h hk hon
      generalize s.set k ⟨true, true, false, false, a⟩ = s1 at *
      go_enter Try.func23, Try.ntmps23
      go_upto_region 4 with (fail)
      generalize ((((w.setCell ⟨b, k * 5, none⟩ (.bool true)).setCell ⟨b, k * 5 + 1, none⟩ (.bool true)).setCell ⟨b, k * 5 + 2, none⟩ (.bool false)).setCell ⟨b, k * 5 + 3, none⟩ (.bool false)).setCell ⟨b, k * 5 + 4, none⟩ (.int .i64 a) = W2 at *
      clear c0 c1 c2 c3 c4 f0 f1 f2 f3 f4
      have hs := hst W2 hM1
      go_wp2_with (first
        | (go_at_call 35; ((with_reducible refine hs.mono ?_); rintro e W3 ⟨rfl, hM3⟩; obtain ⟨_, r1, _, r3, _⟩ := hM3.rest; have hM5 := hM3.putTill 0))
        | (go_at_call 36; ((with_reducible refine (hgr _).mono ?_); rintro e W4 ⟨rfl, rfl⟩)))
      go_end0
      exact ⟨rfl, hM5⟩
set_option maxHeartbeats 1000000 in
theorem silence_k (w0 : World) (b g : Nat) (a n : Int) (s : St) (E : List Ot) (w : World) (h : Mid w0 b g a w s E) (ha : 0 ≤ a ∧ a ≤ 1099511627776) (hE : E.length ≤ 1000000) :
    Calls Try.prog 28 #[.pointer (some ⟨b, 0, none⟩), .int .i64 n, .pointer (some ⟨g, 0, none⟩)] w fun e w' => e = .returned (.tuple #[]) ∧
      (1 ≤ n ∧ n ≤ 24000 → Mid w0 b g a w' { s with till := a + n } (E ++ [(8, a, 0, n)])) ∧ (¬ (1 ≤ n ∧ n ≤ 24000) → Mid w0 b g a w' s E) := by
  obtain ⟨x0, x1⟩ := h.at_
  obtain ⟨_, r1, _, r3, _⟩ := h.rest
  by_cases h1 : 1 ≤ n
  · have h1' : ¬ n < 1 := by omega
    by_cases h2 : n ≤ 24000
    · have h2' : ¬ 24000 < n := by omega
      have hwr : IntKind.i64.wrap (a + n) = a + n := by rw [IntKind.wrap_i64]; omega
      have hM1 := h.putTill (a + n)
      have hs := fun W hW => say_k w0 b g a { s with till := a + n } E 8 0 n W hW hE
      have HC := Lib.hid (And.intro h1 h2)
      clear h ha
      go_enter Try.func28, Try.ntmps28
      go_upto_region 2 with (fail)
      generalize w.setCell ⟨b, 31, none⟩ (.int .i64 (a + n)) = W2 at *
      have hs2 := hs W2 hM1
      clear x0 x1 r1 r3
      go_wp2_with (go_at_call 35; ((with_reducible refine hs2.mono ?_); rintro e W3 ⟨rfl, hM3⟩))
      go_end0
      exact ⟨rfl, fun _ => hM3, fun hn => absurd HC.out hn⟩
    · have h2' : 24000 < n := by omega
      have HM := Lib.hid h
      clear h ha
      go_enter Try.func28, Try.ntmps28
      go_wp2
      exact bodyPost_ret (results_none rfl _ _ _) rfl ⟨rfl, fun hn => (by exfalso; omega), by first | exact HM.out | exact fun _ => HM.out⟩
  · have h1' : n < 1 := by omega
    have HM := Lib.hid h
    clear h ha
    go_enter Try.func28, Try.ntmps28
    go_wp2
    exact bodyPost_ret (results_none rfl _ _ _) rfl ⟨rfl, fun hn => (by exfalso; omega), fun _ => HM.out⟩
end Go.Proofs.Ytahoiaiknchehaa.Alarm
