/- parse's told: what a walk's frames have said so far; a sample's event. -/
import Derived.Test.YtlhjligeigkbnaaParseWalk
set_option linter.unusedSimpArgs false
set_option linter.unusedVariables false
namespace Go.Proofs.Ytlhjligeigkbnaa.Par
open Go.RowKit RU8 Frm
/-- Block T is a told with these events. -/
structure ToldIs (w : World) (T : Nat) (v : Value) (es : List Ev) (s : Nat) (bg : Bool) (nx en : Nat) : Prop where
  has : Has w T 63 #[v, .int .i64 (s : Nat), .bool bg, .int .u8 (nx : Nat), .int .i64 (en : Nat)]
  own : w.ownsRow (T + 1) 51 4 v es.length (Row.flat evSh es)
/-- Only the block T and the row's have turned, and the row is the old one or new memory. -/
def Went (T : Nat) (w : World) (v : Value) (w' : World) (v' : Value) : Prop :=
  Kept (T :: v.ownBlock.toList) w w' ∧ ∀ k, v'.ownBlock = some k → v.ownBlock = some k ∨ w.heap.size ≤ k
theorem Went.refl (T : Nat) (w : World) (v : Value) : Went T w v w v := ⟨Kept.refl _ _, fun _ h => .inl h⟩
theorem Went.trans {T : Nat} {w w1 w2 : World} {v v1 v2 : Value} (h : Went T w v w1 v1) (h2 : Went T w1 v1 w2 v2) : Went T w v w2 v2 := by
  obtain ⟨k1, g1⟩ := h
  obtain ⟨k2, g2⟩ := h2
  refine ⟨⟨k2.os.trans k1.os, k2.tape.trans k1.tape, k2.output.trans k1.output, Nat.le_trans k1.size k2.size, fun k hk hn => (k2.block k (Nat.lt_of_lt_of_le hk k1.size) fun hm => ?_).trans (k1.block k hk hn)⟩, fun k hk => ?_⟩
  · rcases List.mem_cons.1 hm with e | e
    · exact hn (by rw [e]; exact List.mem_cons_self)
    · rcases g1 k (by simpa using e) with e2 | e2
      · exact hn (by rw [e2]; simp)
      · omega
  · rcases g2 k hk with e | e
    · exact g1 k e
    · exact .inr (Nat.le_trans k1.size e)
theorem Went.kept {T : Nat} {w w1 w2 : World} {v v1 : Value} (h : Went T w v w1 v1) (hk : Kept [] w1 w2) : Went T w v w2 v1 := h.trans ⟨hk.wide (fun k h => by cases h), fun _ h => .inl h⟩
theorem ToldIs.kept {w w' : World} {T : Nat} {v : Value} {es : List Ev} {s nx en : Nat} {bg : Bool} (h : ToldIs w T v es s bg nx en) (hk : Kept [] w w') : ToldIs w' T v es s bg nx en :=
  ⟨hk.has h.has (by simp), own_kept h.own hk (by simp)⟩
theorem ToldIs.set {w : World} {T : Nat} {v : Value} {es : List Ev} {s nx en : Nat} {bg : Bool} (h : ToldIs w T v es s bg nx en) {w' : World} {s' nx' en' : Nat} {bg' : Bool} (hk : Kept [T] w w') (hh : Has w' T 63 #[v, .int .i64 (s' : Nat), .bool bg', .int .u8 (nx' : Nat), .int .i64 (en' : Nat)]) : ToldIs w' T v es s' bg' nx' en' :=
  ⟨hh, own_kept h.own hk (by simp)⟩
theorem went_set {w w' : World} {T : Nat} {v : Value} (hk : Kept [T] w w') : Went T w v w' v := ⟨hk.wide (fun k h _ => by rw [List.mem_singleton.1 h]; exact List.mem_cons_self), fun _ h => .inl h⟩
/-- Behind an append to the row, and its store. -/
theorem told_grown {w w1 : World} {T : Nat} {v v1 : Value} {es es' : List Ev} {s nx en : Nat} {bg : Bool} (h : ToldIs w T v es s bg nx en) (hO : w1.ownsRow (T + 1) 51 4 v1 es'.length (Row.flat evSh es')) (hg : w.grownBy w1 v.ownBlock) (hat : v1.ownBlock = v.ownBlock ∨ v1.ownBlock = some w.heap.size) :
    ToldIs (w1.setCell ⟨T, 0, none⟩ v1) T v1 es' s bg nx en ∧ Went T w v (w1.setCell ⟨T, 0, none⟩ v1) v1 := by
  have hK1 := Kept.of_grown hg
  have hT1 := hK1.has h.has (own_apart h.own (by omega))
  have hK2 := (Kept.refl [T] w1).setCell (p := ⟨T, 0, none⟩) (.inl (by simp)) v1
  refine ⟨⟨by have := hT1.set_ 0 v1; simpa using this, own_kept hO hK2 (by simp)⟩, ⟨⟨?_, ?_, ?_, ?_, ?_⟩, fun k hk => ?_⟩⟩
  · exact hK2.os.trans hK1.os
  · exact hK2.tape.trans hK1.tape
  · exact hK2.output.trans hK1.output
  · exact Nat.le_trans hK1.size hK2.size
  · intro k hk hn
    refine (hK2.block k (Nat.lt_of_lt_of_le hk hK1.size) (fun e => hn (by rw [List.mem_singleton.1 e]; exact List.mem_cons_self))).trans (hK1.block k hk (fun e => hn (List.mem_cons_of_mem _ e)))
  · rcases hat with e | e
    · exact .inl (e ▸ hk)
    · rw [e] at hk; injection hk with hk; exact .inr (by omega)
set_option maxRecDepth 100000 in
set_option maxHeartbeats 2000000 in
theorem sample_any (T : Nat) (v : Value) (es : List Ev) (s nx en : Nat) (bg : Bool) (z : Int) (o : Bool) (w : World) (h : ToldIs w T v es s bg nx en) (hs : s ≤ 100000) (hes : es.length ≤ 100000) :
    Calls Try.prog 30 #[.pointer (some ⟨T, 0, none⟩), .agg #[.int .i32 z, .bool o]] w fun e w' => e = .returned (.tuple #[]) ∧ ∃ v', ToldIs w' T v' (es ++ [(2, s, (z, o))]) (s + 1) bg nx en ∧ Went T w v w' v' := by
  have hInfo : (Try.prog.info? 51).map (fun i => (i.zero, i.size, i.bytes)) = some (some (.agg #[.int .i64 0, .int .i64 0, .int .i32 0, .bool false]), 4, 24) := by kernel_rfl
  have HInfo := Lib.hid hInfo
  have hTl := h.has.lt
  have h1 := h.kept ((Kept.refl [] w).alloc (.cells #[.int .i32 z, .bool o] 49))
  have c1 : (w.alloc (.cells #[.int .i32 z, .bool o] 49)).cell? ⟨T, 1, none⟩ = some (.int .i64 (s : Nat)) := h1.has.cell 1
  clear hInfo
  go_enter Try.func30, Try.ntmps30
  go_wp2
  obtain ⟨wa, hwa⟩ : ∃ W, W = (w.alloc (.cells #[.int .i32 z, .bool o] 49)).alloc (.cells #[.int .i64 2, .int .i64 (s : Nat), .int .i32 0, .bool false] 51) := ⟨_, rfl⟩
  have hkA : Kept [] w wa := by rw [hwa]; exact ((Kept.refl [] w).alloc _).alloc _
  have hTA := h.kept hkA
  have hPA : Has wa w.heap.size 49 #[.int .i32 z, .bool o] := by rw [hwa]; exact (Has.new w _ _).alloc _
  have hEA : Has wa (w.heap.size + 1) 51 #[.int .i64 2, .int .i64 (s : Nat), .int .i32 0, .bool false] := by
    have := Has.new (w.alloc (.cells #[.int .i32 z, .bool o] 49)) 51 #[.int .i64 2, .int .i64 (s : Nat), .int .i32 0, .bool false]
    rw [hwa]; simpa using this
  have hsz : w.heap.size + 1 < wa.heap.size := hEA.lt
  rw [← hwa]
  have p0 : wa.cell? ⟨w.heap.size, 0, none⟩ = some (.int .i32 z) := hPA.cell 0
  have p1 : wa.cell? ⟨w.heap.size, 1, none⟩ = some (.bool o) := hPA.cell 1
  clear hwa h1 c1
  generalize hpw : w.heap.size = p at *
  refine Reg.begin_ (S := fun W => W.cell? ⟨p, 0, none⟩ = some (.int .i32 z) ∧ W.cell? ⟨p, 1, none⟩ = some (.bool o)) (by kernel_rfl) (by exact ⟨p0, p1⟩) (fun hHeld => ?_)
  have hEd : Has wa.drew (p + 1) 51 #[.int .i64 2, .int .i64 (s : Nat), .int .i32 0, .bool false] := hEA
  have hPd : Has wa.drew p 49 #[.int .i32 z, .bool o] := hPA
  have hTd : ToldIs wa.drew T v es s bg nx en := hTA.kept ((Kept.refl [] wa).drewN 1)
  have hKd : Kept [] w wa.drew := hkA.drewN 1
  clear hEA hPA hTA hkA p0 p1
  generalize wa.drew = wd at *
  refine Reg.take (i := 0) (v := ?v1) rfl (by kernel_rfl) (by kernel_rfl) (by kernel_rfl) (by rfl) ?hv1 (by assumption) ?rest1
  case hv1 => first | (intro w hSw; (try dsimp only at hSw); go_simp; done) | (intro w hSw; (try dsimp only at hSw); go_simp; with_reducible rfl)
  (try simp only [Act.put, List.setIfInBounds_toArray, List.set_cons_zero, List.set_cons_succ])
  refine Reg.take (i := 1) (v := ?v2) rfl (by kernel_rfl) (by kernel_rfl) (by kernel_rfl) (by rfl) ?hv2 (by assumption) ?rest2
  case hv2 => first | (intro w hSw; (try dsimp only at hSw); go_simp; done) | (intro w hSw; (try dsimp only at hSw); go_simp; with_reducible rfl)
  (try simp only [Act.put, List.setIfInBounds_toArray, List.set_cons_zero, List.set_cons_succ])
  refine Reg.take (i := 2) (v := ?v3) rfl (by kernel_rfl) (by kernel_rfl) (by kernel_rfl) (by rfl) ?hv3 (by assumption) ?rest3
  case hv3 => first | (intro w hSw; (try dsimp only at hSw); go_simp; done) | (intro w hSw; (try dsimp only at hSw); go_simp; with_reducible rfl)
  (try simp only [Act.put, List.setIfInBounds_toArray, List.set_cons_zero, List.set_cons_succ])
  refine Reg.take (i := 3) (v := ?v4) rfl (by kernel_rfl) (by kernel_rfl) (by kernel_rfl) (by rfl) ?hv4 (by assumption) ?rest4
  case hv4 => first | (intro w hSw; (try dsimp only at hSw); go_simp; done) | (intro w hSw; (try dsimp only at hSw); go_simp; with_reducible rfl)
  (try simp only [Act.put, List.setIfInBounds_toArray, List.set_cons_zero, List.set_cons_succ])
  refine Reg.take (i := 4) (v := ?v5) rfl (by kernel_rfl) (by kernel_rfl) (by kernel_rfl) (by rfl) ?hv5 (by assumption) ?rest5
  case hv5 => first | (intro w hSw; (try dsimp only at hSw); go_simp; done) | (intro w hSw; (try dsimp only at hSw); go_simp; with_reducible rfl)
  (try simp only [Act.put, List.setIfInBounds_toArray, List.set_cons_zero, List.set_cons_succ])
  refine Reg.take (i := 5) (v := ?v6) rfl (by kernel_rfl) (by kernel_rfl) (by kernel_rfl) (by rfl) ?hv6 (by assumption) ?rest6
  case hv6 => first | (intro w hSw; (try dsimp only at hSw); go_simp; done) | (intro w hSw; (try dsimp only at hSw); go_simp; with_reducible rfl)
  (try simp only [Act.put, List.setIfInBounds_toArray, List.set_cons_zero, List.set_cons_succ])
  have f2 := hEd.cell 2
  have f3 := hEd.cell 3
  have z2 := hEd.frozen 2
  have z3 := hEd.frozen 3
  refine Reg.call (i := 6) rfl (by kernel_rfl) (by rfl) ?_
  intro K hK
  go_simp
  have hE1 : Has (wd.setCell ⟨p + 1, 2, none⟩ (.int .i32 z)) (p + 1) 51 #[.int .i64 2, .int .i64 (s : Nat), .int .i32 z, .bool false] := by
    have := hEd.set_ 2 (.int .i32 z); simpa using this
  have hP1 := hPd.far (p := ⟨p + 1, 2, none⟩) (by simp) (.int .i32 z)
  have hk1 := hKd.setCell (p := ⟨p + 1, 2, none⟩) (.inr (by simp; omega)) (.int .i32 z)
  refine hK.out _ _ ⟨hP1.cell 0, hP1.cell 1⟩ (fun hHeld2 => ?_)
  clear hK K
  (try simp only [Act.put, List.setIfInBounds_toArray, List.set_cons_zero, List.set_cons_succ])
  refine Reg.take (i := 7) (v := ?v7) rfl (by kernel_rfl) (by kernel_rfl) (by kernel_rfl) (by rfl) ?hv7 (by assumption) ?rest7
  case hv7 => first | (intro w hSw; (try dsimp only at hSw); go_simp; done) | (intro w hSw; (try dsimp only at hSw); go_simp; with_reducible rfl)
  (try simp only [Act.put, List.setIfInBounds_toArray, List.set_cons_zero, List.set_cons_succ])
  refine Reg.take (i := 8) (v := ?v8) rfl (by kernel_rfl) (by kernel_rfl) (by kernel_rfl) (by rfl) ?hv8 (by assumption) ?rest8
  case hv8 => first | (intro w hSw; (try dsimp only at hSw); go_simp; done) | (intro w hSw; (try dsimp only at hSw); go_simp; with_reducible rfl)
  (try simp only [Act.put, List.setIfInBounds_toArray, List.set_cons_zero, List.set_cons_succ])
  refine Reg.call (i := 9) rfl (by kernel_rfl) (by rfl) ?_
  intro K hK
  have y3 := hE1.cell 3
  have x3 := hE1.frozen 3
  go_simp
  have hE2 : Has ((wd.setCell ⟨p + 1, 2, none⟩ (.int .i32 z)).setCell ⟨p + 1, 3, none⟩ (.bool o)) (p + 1) 51 #[.int .i64 2, .int .i64 (s : Nat), .int .i32 z, .bool o] := by
    have := hE1.set_ 3 (.bool o); simpa using this
  have hP2 := hP1.far (p := ⟨p + 1, 3, none⟩) (by simp) (.bool o)
  have hk2 := hk1.setCell (p := ⟨p + 1, 3, none⟩) (.inr (by simp; omega)) (.bool o)
  refine hK.out _ _ ⟨hP2.cell 0, hP2.cell 1⟩ (fun hHeld3 => ?_)
  clear hK K
  (try simp only [Act.put, List.setIfInBounds_toArray, List.set_cons_zero, List.set_cons_succ])
  refine Reg.done (by kernel_rfl) ?_ _
  have hsz2 : p + 1 < ((wd.setCell ⟨p + 1, 2, none⟩ (.int .i32 z)).setCell ⟨p + 1, 3, none⟩ (.bool o)).heap.size := hE2.lt
  have hT2 := h.kept hk2
  generalize (wd.setCell ⟨p + 1, 2, none⟩ (.int .i32 z)).setCell ⟨p + 1, 3, none⟩ (.bool o) = wb at *
  clear hHeld hHeld2 hHeld3 f2 f3 z2 z3 y3 x3 hE1 hP1 hP2 hk1 hEd hPd hTd hKd hsz
  clear wd
  go_wp2
  refine Reg.begin_ (S := fun W => W.cell? ⟨p + 1, 0, none⟩ = some (.int .i64 2) ∧ W.cell? ⟨p + 1, 1, none⟩ = some (.int .i64 (s : Nat)) ∧ W.cell? ⟨p + 1, 2, none⟩ = some (.int .i32 z) ∧ W.cell? ⟨p + 1, 3, none⟩ = some (.bool o)) (by kernel_rfl) (by exact ⟨hE2.cell 0, hE2.cell 1, hE2.cell 2, hE2.cell 3⟩) (fun hHeld => ?_)
  have hEd : Has wb.drew (p + 1) 51 #[.int .i64 2, .int .i64 (s : Nat), .int .i32 z, .bool o] := hE2
  have hTd : ToldIs wb.drew T v es s bg nx en := hT2.kept ((Kept.refl [] wb).drewN 1)
  have hKd : Kept [] w wb.drew := hk2.drewN 1
  generalize wb.drew = wd at *
  clear hE2 hT2 hk2 hsz2
  clear wb
  refine Reg.take (i := 0) (v := ?v9) rfl (by kernel_rfl) (by kernel_rfl) (by kernel_rfl) (by rfl) ?hv9 (by assumption) ?rest9
  case hv9 => first | (intro w hSw; (try dsimp only at hSw); go_simp; done) | (intro w hSw; (try dsimp only at hSw); go_simp; with_reducible rfl)
  (try simp only [Act.put, List.setIfInBounds_toArray, List.set_cons_zero, List.set_cons_succ])
  refine Reg.take (i := 1) (v := ?v10) rfl (by kernel_rfl) (by kernel_rfl) (by kernel_rfl) (by rfl) ?hv10 (by assumption) ?rest10
  case hv10 => first | (intro w hSw; (try dsimp only at hSw); go_simp; done) | (intro w hSw; (try dsimp only at hSw); go_simp; with_reducible rfl)
  (try simp only [Act.put, List.setIfInBounds_toArray, List.set_cons_zero, List.set_cons_succ])
  refine Reg.take (i := 2) (v := ?v11) rfl (by kernel_rfl) (by kernel_rfl) (by kernel_rfl) (by rfl) ?hv11 (by assumption) ?rest11
  case hv11 => first | (intro w hSw; (try dsimp only at hSw); go_simp; done) | (intro w hSw; (try dsimp only at hSw); go_simp; with_reducible rfl)
  (try simp only [Act.put, List.setIfInBounds_toArray, List.set_cons_zero, List.set_cons_succ])
  refine Reg.take (i := 3) (v := ?v12) rfl (by kernel_rfl) (by kernel_rfl) (by kernel_rfl) (by rfl) ?hv12 (by assumption) ?rest12
  case hv12 => first | (intro w hSw; (try dsimp only at hSw); go_simp; done) | (intro w hSw; (try dsimp only at hSw); go_simp; with_reducible rfl)
  (try simp only [Act.put, List.setIfInBounds_toArray, List.set_cons_zero, List.set_cons_succ])
  refine Reg.take (i := 5) (v := ?v13) rfl (by kernel_rfl) (by kernel_rfl) (by kernel_rfl) (by rfl) ?hv13 (by assumption) ?rest13
  case hv13 => first | (intro w hSw; (try dsimp only at hSw); go_simp; done) | (intro w hSw; (try dsimp only at hSw); go_simp; with_reducible rfl)
  (try simp only [Act.put, List.setIfInBounds_toArray, List.set_cons_zero, List.set_cons_succ])
  have l1 : wd.cell? ⟨T, 0, none⟩ = some v := hTd.has.cell 0
  have hTa := hTd.kept ((Kept.refl [] wd).alloc (.cells #[.int .i64 2, .int .i64 (s : Nat), .int .i32 z, .bool o] 51))
  have hVn : Row.Vals evSh (wd.alloc (.cells #[.int .i64 2, .int .i64 (s : Nat), .int .i32 z, .bool o] 51)) (some ⟨wd.heap.size, 0, none⟩) 1 [(2,s,(z,o))] := one_new wd 51 (2, s, (z, o))
  have l2 : (wd.alloc (.cells #[.int .i64 2, .int .i64 (s : Nat), .int .i32 z, .bool o] 51)).cell? ⟨T, 0, none⟩ = some v := hTa.has.cell 0
  have hBase : T + 1 ≤ (wd.alloc (.cells #[.int .i64 2, .int .i64 (s : Nat), .int .i32 z, .bool o] 51)).heap.size := by have := hTa.has.lt; omega
  have hEa := hEd.alloc (.cells #[.int .i64 2, .int .i64 (s : Nat), .int .i32 z, .bool o] 51)
  have hpv : p + 1 ∉ v.ownBlock.toList := by
    intro hm
    have := (own_block h.own (p + 1) (by simpa using hm)).2
    omega
  have hS0 := hHeld
  have hS1 := show _ ∧ _ ∧ _ ∧ _ from ⟨hEa.cell 0, hEa.cell 1, hEa.cell 2, hEa.cell 3⟩
  have hSk := fun (W : World) (hk : Kept v.ownBlock.toList (wd.alloc (.cells #[.int .i64 2, .int .i64 (s : Nat), .int .i32 z, .bool o] 51)) W) => (⟨⟨(hk.has hEa hpv).cell 0, (hk.has hEa hpv).cell 1, (hk.has hEa hpv).cell 2, (hk.has hEa hpv).cell 3⟩,
    fun u => by
      have h9 := (hk.has hEa hpv).far (p := ⟨T, 0, none⟩) (by show p + 1 ≠ T; omega) u
      exact ⟨h9.cell 0, h9.cell 1, h9.cell 2, h9.cell 3⟩⟩ : (W.cell? ⟨p + 1, 0, none⟩ = some (.int .i64 2) ∧ W.cell? ⟨p + 1, 1, none⟩ = some (.int .i64 (s : Nat)) ∧ W.cell? ⟨p + 1, 2, none⟩ = some (.int .i32 z) ∧ W.cell? ⟨p + 1, 3, none⟩ = some (.bool o)) ∧ ∀ u, (W.setCell ⟨T, 0, none⟩ u).cell? ⟨p + 1, 0, none⟩ = some (.int .i64 2) ∧ (W.setCell ⟨T, 0, none⟩ u).cell? ⟨p + 1, 1, none⟩ = some (.int .i64 (s : Nat)) ∧ (W.setCell ⟨T, 0, none⟩ u).cell? ⟨p + 1, 2, none⟩ = some (.int .i32 z) ∧ (W.setCell ⟨T, 0, none⟩ u).cell? ⟨p + 1, 3, none⟩ = some (.bool o))
  refine Reg.call2 (i := 4) (j := 6) rfl rfl (by kernel_rfl) (by rfl) (by rfl) ?_ ?_
  · intro K hK
    go_simp
    refine hK.out _ _ hS0 (fun hHeld2 => ?_)
    clear hK K
    (try simp only [Act.put, List.setIfInBounds_toArray, List.set_cons_zero, List.set_cons_succ])
    refine Reg.call (i := 6) rfl (by kernel_rfl) (by rfl) ?_
    intro K hK
    go_simp
    refine hK.out _ _ hS1 (fun hHeld3 => ?_)
    clear hK K
    (try simp only [Act.put, List.setIfInBounds_toArray, List.set_cons_zero, List.set_cons_succ])
    refine Reg.call (i := 7) rfl (by kernel_rfl) (by rfl) ?_
    intro K hK
    refine Row.wp_append (S := evSh) (.tmp 22) (.tmp 24) _ rfl (T + 1) 51 _ 24 (by omega) Try.underlying39 HInfo.out (by kernel_rfl) v es.length es rfl hTa.own (some ⟨wd.heap.size, 0, none⟩) 1 1 [(2,s,(z,o))] rfl hVn (by omega) hBase ?_
    intro v9 W3 hO1 hg1 hat1
    rw [show es.length + 1 = (es ++ [(2,s,(z,o))]).length by simp] at hO1
    obtain ⟨A9, d9, rfl, _, _, hx1, hx2⟩ := Row.Vals.own hO1
    clear hx1 hx2
    obtain ⟨hT4, hW4⟩ := told_grown hTa hO1 hg1 hat1
    have hF3 := (Kept.of_grown hg1).has hTa.has (own_apart hTa.own (by omega))
    obtain ⟨hS3, hS4⟩ := hSk _ (Kept.of_grown hg1)
    have hS5 := hS4 (.slice A9 (es ++ [(2,s,(z,o))]).length d9)
    obtain ⟨q9, hq9⟩ : ∃ q, (es ++ [(2,s,(z,o))]).length = q := ⟨_, rfl⟩
    rw [hq9] at hT4 hW4 hS5 ⊢
    clear hq9
    have hKw := hKd.alloc (.cells #[.int .i64 2, .int .i64 (s : Nat), .int .i32 z, .bool o] 51)
    have hWw := ((Went.refl T w v).kept hKw).trans hW4
    refine hK.out _ _ hS3 (fun hHeld4 => ?_)
    clear hK K
    (try simp only [Act.put, List.setIfInBounds_toArray, List.set_cons_zero, List.set_cons_succ])
    refine Reg.take (i := 8) (v := ?v14) rfl (by kernel_rfl) (by kernel_rfl) (by kernel_rfl) (by rfl) ?hv14 (by assumption) ?rest14
    case hv14 => first | (intro w hSw; (try dsimp only at hSw); go_simp; done) | (intro w hSw; (try dsimp only at hSw); go_simp; with_reducible rfl)
    (try simp only [Act.put, List.setIfInBounds_toArray, List.set_cons_zero, List.set_cons_succ])
    refine Reg.take (i := 9) (v := ?v15) rfl (by kernel_rfl) (by kernel_rfl) (by kernel_rfl) (by rfl) ?hv15 (by assumption) ?rest15
    case hv15 => first | (intro w hSw; (try dsimp only at hSw); go_simp; done) | (intro w hSw; (try dsimp only at hSw); go_simp; with_reducible rfl)
    (try simp only [Act.put, List.setIfInBounds_toArray, List.set_cons_zero, List.set_cons_succ])
    refine Reg.call (i := 10) rfl (by kernel_rfl) (by rfl) ?_
    intro K hK
    have t1 := hF3.cell 0
    have g1 := hF3.frozen 0
    go_simp
    refine hK.out _ _ hS5 (fun hHeld5 => ?_)
    clear hK K
    (try simp only [Act.put, List.setIfInBounds_toArray, List.set_cons_zero, List.set_cons_succ])
    refine Reg.done (by kernel_rfl) ?_ _
    clear hS3 hS4 hS5 hHeld4 hHeld5 t1 g1 hO1 hg1 hat1 hW4 hF3
    generalize W3.setCell ⟨T, 0, none⟩ (.slice A9 q9 d9) = wc at *
    generalize Value.slice A9 q9 d9 = v9 at *
    clear hTa hVn hBase hSk l1 l2 hKw hKd hTd
    have u1 : wc.cell? ⟨T, 1, none⟩ = some (.int .i64 (s : Nat)) := hT4.has.cell 1
    have f1 := hT4.has.frozen 1
    have hsz : 0 ≤ (s : Int) ∧ (s : Int) ≤ 100000 := by omega
    clear hHeld hEd hEa hpv hS0 hS1 hHeld2 hHeld3 hpw
    go_wp2
    go_end0
    have hk9 := (Kept.refl [T] wc).setCell (p := ⟨T, 1, none⟩) (.inl (by simp)) (.int .i64 ((s : Int) + 1))
    exact ⟨rfl, v9, hT4.set hk9 (by have := hT4.has.set_ 1 (.int .i64 ((s : Int) + 1)); simpa using this), hWw.trans (went_set hk9)⟩
  · intro K hK
    go_simp
    refine hK.out _ _ hS1 (fun hHeld2 => ?_)
    clear hK K
    (try simp only [Act.put, List.setIfInBounds_toArray, List.set_cons_zero, List.set_cons_succ])
    refine Reg.call (i := 4) rfl (by kernel_rfl) (by rfl) ?_
    intro K hK
    go_simp
    refine hK.out _ _ hS1 (fun hHeld3 => ?_)
    clear hK K
    (try simp only [Act.put, List.setIfInBounds_toArray, List.set_cons_zero, List.set_cons_succ])
    refine Reg.call (i := 7) rfl (by kernel_rfl) (by rfl) ?_
    intro K hK
    refine Row.wp_append (S := evSh) (.tmp 22) (.tmp 24) _ rfl (T + 1) 51 _ 24 (by omega) Try.underlying39 HInfo.out (by kernel_rfl) v es.length es rfl hTa.own (some ⟨wd.heap.size, 0, none⟩) 1 1 [(2,s,(z,o))] rfl hVn (by omega) hBase ?_
    intro v9 W3 hO1 hg1 hat1
    rw [show es.length + 1 = (es ++ [(2,s,(z,o))]).length by simp] at hO1
    obtain ⟨A9, d9, rfl, _, _, hx1, hx2⟩ := Row.Vals.own hO1
    clear hx1 hx2
    obtain ⟨hT4, hW4⟩ := told_grown hTa hO1 hg1 hat1
    have hF3 := (Kept.of_grown hg1).has hTa.has (own_apart hTa.own (by omega))
    obtain ⟨hS3, hS4⟩ := hSk _ (Kept.of_grown hg1)
    have hS5 := hS4 (.slice A9 (es ++ [(2,s,(z,o))]).length d9)
    obtain ⟨q9, hq9⟩ : ∃ q, (es ++ [(2,s,(z,o))]).length = q := ⟨_, rfl⟩
    rw [hq9] at hT4 hW4 hS5 ⊢
    clear hq9
    have hKw := hKd.alloc (.cells #[.int .i64 2, .int .i64 (s : Nat), .int .i32 z, .bool o] 51)
    have hWw := ((Went.refl T w v).kept hKw).trans hW4
    refine hK.out _ _ hS3 (fun hHeld4 => ?_)
    clear hK K
    (try simp only [Act.put, List.setIfInBounds_toArray, List.set_cons_zero, List.set_cons_succ])
    refine Reg.take (i := 8) (v := ?v16) rfl (by kernel_rfl) (by kernel_rfl) (by kernel_rfl) (by rfl) ?hv16 (by assumption) ?rest16
    case hv16 => first | (intro w hSw; (try dsimp only at hSw); go_simp; done) | (intro w hSw; (try dsimp only at hSw); go_simp; with_reducible rfl)
    (try simp only [Act.put, List.setIfInBounds_toArray, List.set_cons_zero, List.set_cons_succ])
    refine Reg.take (i := 9) (v := ?v17) rfl (by kernel_rfl) (by kernel_rfl) (by kernel_rfl) (by rfl) ?hv17 (by assumption) ?rest17
    case hv17 => first | (intro w hSw; (try dsimp only at hSw); go_simp; done) | (intro w hSw; (try dsimp only at hSw); go_simp; with_reducible rfl)
    (try simp only [Act.put, List.setIfInBounds_toArray, List.set_cons_zero, List.set_cons_succ])
    refine Reg.call (i := 10) rfl (by kernel_rfl) (by rfl) ?_
    intro K hK
    have t1 := hF3.cell 0
    have g1 := hF3.frozen 0
    go_simp
    refine hK.out _ _ hS5 (fun hHeld5 => ?_)
    clear hK K
    (try simp only [Act.put, List.setIfInBounds_toArray, List.set_cons_zero, List.set_cons_succ])
    refine Reg.done (by kernel_rfl) ?_ _
    clear hS3 hS4 hS5 hHeld4 hHeld5 t1 g1 hO1 hg1 hat1 hW4 hF3
    generalize W3.setCell ⟨T, 0, none⟩ (.slice A9 q9 d9) = wc at *
    generalize Value.slice A9 q9 d9 = v9 at *
    clear hTa hVn hBase hSk l1 l2 hKw hKd hTd
    have u1 : wc.cell? ⟨T, 1, none⟩ = some (.int .i64 (s : Nat)) := hT4.has.cell 1
    have f1 := hT4.has.frozen 1
    have hsz : 0 ≤ (s : Int) ∧ (s : Int) ≤ 100000 := by omega
    clear hHeld hEd hEa hpv hS0 hS1 hHeld2 hHeld3 hpw
    go_wp2
    go_end0
    have hk9 := (Kept.refl [T] wc).setCell (p := ⟨T, 1, none⟩) (.inl (by simp)) (.int .i64 ((s : Int) + 1))
    exact ⟨rfl, v9, hT4.set hk9 (by have := hT4.has.set_ 1 (.int .i64 ((s : Int) + 1)); simpa using this), hWw.trans (went_set hk9)⟩
end Go.Proofs.Ytlhjligeigkbnaa.Par
