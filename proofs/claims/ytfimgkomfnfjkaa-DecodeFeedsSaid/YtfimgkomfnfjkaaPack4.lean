/- What the proofs stand on, part 4. -/
import Derived.Test.YtfimgkomfnfjkaaPack3
import Derived.Test.YtfimgkomfnfjkaaPack1
import Derived.Test.YtfimgkomfnfjkaaPack2
import Derived.Laws.BitsLemmas
section
/- What a frame tells a decoder, and how the decoder stands behind it. -/
set_option linter.unusedSimpArgs false
set_option linter.unusedVariables false
namespace Go.Proofs.Ytfimgkomfnfjkaa.Par
open Go.RowKit RU8 Frm
def MetIs (w : World) (b r bs s gp : Nat) (bg : Bool) (last : Nat) (br : Bool) (q : Nat) (ls : List Samp) (e : Ending) (w' : World) : Prop :=
  ∃ A n c, e = .returned (.slice A n c) ∧ n ≤ c ∧ c ≤ 9223372036854775807 ∧ n ≤ 33 ∧ Row.Vals evSh w' A n (metT bg br last s q ls) ∧ (∀ x, A = some x → w.heap.size ≤ x.block) ∧
    DecIs w' b r bs (s + countL 2 (metT bg br last s q ls)) (gp + countL 1 (metT bg br last s q ls)) true q (!dIn bg last q) ∧ Kept [b] w w'
theorem DecIs.kept {w w' : World} {b r bs s gp last : Nat} {bg br : Bool} {T : List Nat} (h : DecIs w b r bs s gp bg last br) (hk : Kept T w w') (hb : b ∉ T) : DecIs w' b r bs s gp bg last br := hk.has h hb
set_option maxRecDepth 100000 in
set_option maxHeartbeats 2000000 in
theorem meet_k (b r bs s gp last q : Nat) (bg br : Bool) (A : Option Addr) (L c : Nat) (ls : List Samp) (w : World) (h : DecIs w b r bs s gp bg last br) (hv : Row.Vals sampS w A L ls) (hL : L ≤ 32) (hLc : L ≤ c) (hc : c ≤ 9223372036854775807)
    (hfar : ∀ x, A = some x → x.block ≠ b) (hlast : last < 256) (hq : q < 256) (hs : s ≤ 200000) (hgp : gp ≤ 200000) :
    Calls Try.prog 23 #[.pointer (some ⟨b, 0, none⟩), .agg #[.int .u8 (q : Nat), .slice A L c]] w (MetIs w b r bs s gp bg last br q ls) := by
  have hInfo : (Try.prog.info? 46).map (fun i => (i.zero, i.size, i.bytes)) = some (some (.agg #[.int .i64 0, .int .i64 0, .int .i32 0, .bool false]), 4, 24) := by kernel_rfl
  have HInfo := Lib.hid hInfo
  have hTl := Has.lt h
  have hnxt := fun W => next_any last hlast W
  have hkA : Kept [] w (w.alloc (.cells #[.int .u8 (q : Nat), .slice A L c] 52)) := (Kept.refl [] w).alloc _
  have hTA := h.kept hkA (by simp)
  have hPA := Has.new w 52 #[.int .u8 (q : Nat), .slice A L c]
  have c4 : (w.alloc (.cells #[.int .u8 (q : Nat), .slice A L c] 52)).cell? ⟨b, 4, none⟩ = some (.bool bg) := Has.cell hTA 4
  have c5 : (w.alloc (.cells #[.int .u8 (q : Nat), .slice A L c] 52)).cell? ⟨b, 5, none⟩ = some (.int .u8 (last : Nat)) := Has.cell hTA 5
  have p0 : (w.alloc (.cells #[.int .u8 (q : Nat), .slice A L c] 52)).cell? ⟨w.heap.size, 0, none⟩ = some (.int .u8 (q : Nat)) := hPA.cell 0
  have f4 := Has.frozen hTA 4
  have f5 := Has.frozen hTA 5
  have c6 : (w.alloc (.cells #[.int .u8 (q : Nat), .slice A L c] 52)).cell? ⟨b, 6, none⟩ = some (.bool br) := Has.cell hTA 6
  have f6 := Has.frozen hTA 6
  have hll := hv.len_
  clear hInfo
  obtain ⟨p, hpw⟩ : ∃ p, w.heap.size = p := ⟨_, rfl⟩
  rw [hpw] at hTl p0 hPA
  unfold MetIs
  obtain ⟨q1, hq1⟩ : ∃ q1, (last + 1) % 256 = q1 := ⟨_, rfl⟩
  simp only [hq1] at hnxt
  replace hnxt := fun W => (hnxt W).mono (fun e w' h => (⟨h.1, 0, h.2.symm⟩ : e = .returned (.int .u8 (q1 : Nat)) ∧ ∃ k, w' = W.drewN k))
  cases bg with
  | false =>
    have hI : dIn false last q = true := rfl
    cases br with
    | false =>
      go_enter Try.func23, Try.ntmps23
      go_wp2
      go_quiet ((go_at_call 38; exact Calls.quiet_of (hnxt _)))
      go_wp2
      obtain ⟨w0, hw0⟩ : ∃ W, W = (w.alloc (.cells #[.int .u8 (q : Nat), .slice A L c] 52)).drewN nq := ⟨_, rfl⟩
      rw [← hw0]
      have hk0 : Kept [] w w0 := by rw [hw0]; exact hkA.drewN nq
      have hT0 := show DecIs w0 b r bs s gp _ last _ from (by rw [hw0]; exact Has.drewN hTA nq)
      have hP0 : Has w0 p 52 #[.int .u8 (q : Nat), .slice A L c] := by rw [hw0]; exact hPA.drewN nq
      clear hw0 hkA hTA hPA c4 c5 c6 p0 f4 f5 f6 hnxt h
      refine Reg.begin_ (S := fun W => W.cell? ⟨p, 0, none⟩ = some (.int .u8 (q : Nat))) (by kernel_rfl) (by exact hP0.cell 0) (fun hHeld => ?_)
      have hTd := show DecIs w0.drew b r bs s gp _ last _ from Has.drew hT0
      have hPd : Has w0.drew p 52 #[.int .u8 (q : Nat), .slice A L c] := hP0
      have hKd : Kept [] w w0.drew := hk0.drewN 1
      generalize w0.drew = wd at *
      clear hk0 hT0 hP0
      refine Reg.take (i := 0) (v := ?v1) rfl (by kernel_rfl) (by kernel_rfl) (by kernel_rfl) (by rfl) ?hv1 (by assumption) ?rest1
      case hv1 => first | (intro w hSw; (try dsimp only at hSw); go_simp; done) | (intro w hSw; (try dsimp only at hSw); go_simp; with_reducible rfl)
      (try simp only [Act.put, List.setIfInBounds_toArray, List.set_cons_zero, List.set_cons_succ])
      refine Reg.take (i := 1) (v := ?v2) rfl (by kernel_rfl) (by kernel_rfl) (by kernel_rfl) (by rfl) ?hv2 (by assumption) ?rest2
      case hv2 => first | (intro w hSw; (try dsimp only at hSw); go_simp; done) | (intro w hSw; (try dsimp only at hSw); go_simp; with_reducible rfl)
      (try simp only [Act.put, List.setIfInBounds_toArray, List.set_cons_zero, List.set_cons_succ])
      refine Reg.take (i := 2) (v := ?v3) rfl (by kernel_rfl) (by kernel_rfl) (by kernel_rfl) (by rfl) ?hv3 (by assumption) ?rest3
      case hv3 => first | (intro w hSw; (try dsimp only at hSw); go_simp; done) | (intro w hSw; (try dsimp only at hSw); go_simp; with_reducible rfl)
      (try simp only [Act.put, List.setIfInBounds_toArray, List.set_cons_zero, List.set_cons_succ])
      refine Reg.take (i := 3) (v := ?v4) rfl (by kernel_rfl) (by kernel_rfl) (by kernel_rfl) (by rfl) ?hv4 (by assumption) ?rest4
      case hv4 => first | (intro w hSw; (try dsimp only at hSw); go_simp; done) | (intro w hSw; (try dsimp only at hSw); go_simp; with_reducible rfl)
      (try simp only [Act.put, List.setIfInBounds_toArray, List.set_cons_zero, List.set_cons_succ])
      refine Reg.take (i := 4) (v := ?v5) rfl (by kernel_rfl) (by kernel_rfl) (by kernel_rfl) (by rfl) ?hv5 (by assumption) ?rest5
      case hv5 => first | (intro w hSw; (try dsimp only at hSw); go_simp; done) | (intro w hSw; (try dsimp only at hSw); go_simp; with_reducible rfl)
      (try simp only [Act.put, List.setIfInBounds_toArray, List.set_cons_zero, List.set_cons_succ])
      refine Reg.take (i := 5) (v := ?v6) rfl (by kernel_rfl) (by kernel_rfl) (by kernel_rfl) (by rfl) ?hv6 (by assumption) ?rest6
      case hv6 => first | (intro w hSw; (try dsimp only at hSw); go_simp; done) | (intro w hSw; (try dsimp only at hSw); go_simp; with_reducible rfl)
      (try simp only [Act.put, List.setIfInBounds_toArray, List.set_cons_zero, List.set_cons_succ])
      have t4 := Has.cell hTd 4
      have g4 := Has.frozen hTd 4
      refine Reg.call (i := 6) rfl (by kernel_rfl) (by rfl) ?_
      intro K hK
      go_simp
      have hT1 := Has.set_ hTd 4 (.bool true)
      have hP1 := hPd.far (p := ⟨b, 4, none⟩) (by show p ≠ b; omega) (.bool true)
      have hK1 := (hKd.wide (T := [b]) (by simp)).setCell (p := ⟨b, 4, none⟩) (.inl (by simp)) (.bool true)
      refine hK.out _ _ (hP1.cell 0) (fun hHeld2 => ?_)
      clear hK K
      (try simp only [Act.put, List.setIfInBounds_toArray, List.set_cons_zero, List.set_cons_succ])
      refine Reg.take (i := 7) (v := ?v7) rfl (by kernel_rfl) (by kernel_rfl) (by kernel_rfl) (by rfl) ?hv7 (by assumption) ?rest7
      case hv7 => first | (intro w hSw; (try dsimp only at hSw); go_simp; done) | (intro w hSw; (try dsimp only at hSw); go_simp; with_reducible rfl)
      (try simp only [Act.put, List.setIfInBounds_toArray, List.set_cons_zero, List.set_cons_succ])
      refine Reg.take (i := 8) (v := ?v8) rfl (by kernel_rfl) (by kernel_rfl) (by kernel_rfl) (by rfl) ?hv8 (by assumption) ?rest8
      case hv8 => first | (intro w hSw; (try dsimp only at hSw); go_simp; done) | (intro w hSw; (try dsimp only at hSw); go_simp; with_reducible rfl)
      (try simp only [Act.put, List.setIfInBounds_toArray, List.set_cons_zero, List.set_cons_succ])
      have t5 := hT1.cell 5
      have g5 := hT1.frozen 5
      refine Reg.call (i := 9) rfl (by kernel_rfl) (by rfl) ?_
      intro K hK
      go_simp
      have hT2 := hT1.set_ 5 (.int .u8 (q : Nat))
      have hP2 := hP1.far (p := ⟨b, 5, none⟩) (by show p ≠ b; omega) (.int .u8 (q : Nat))
      have hK2 := hK1.setCell (p := ⟨b, 5, none⟩) (.inl (by simp)) (.int .u8 (q : Nat))
      refine hK.out _ _ (hP2.cell 0) (fun hHeld3 => ?_)
      clear hK K
      (try simp only [Act.put, List.setIfInBounds_toArray, List.set_cons_zero, List.set_cons_succ])
      refine Reg.done (by kernel_rfl) ?_ _
      clear t4 g4 t5 g5 hHeld hHeld2 hHeld3
      have hTb : DecIs ((wd.setCell ⟨b, 4, none⟩ (.bool true)).setCell ⟨b, 5, none⟩ (.int .u8 (q : Nat))) b r bs s gp true q false := by simpa [DecIs] using hT2
      generalize (wd.setCell ⟨b, 4, none⟩ (.bool true)).setCell ⟨b, 5, none⟩ (.int .u8 (q : Nat)) = wb at *
      clear hTd hPd hKd hT1 hP1 hK1 hT2
      clear wd
      have t6 : wb.cell? ⟨b, 6, none⟩ = some (.bool false) := Has.cell hTb 6
      have p1 : wb.cell? ⟨p, 1, none⟩ = some (.slice A L c) := hP2.cell 1
      have hmet : metT false false last s q ls = evS s ls := by unfold metT; rw [hI]; rfl
      have hc1 : countL 2 (evS s ls) = ls.length := (count_evS s ls).1
      have hc2 : countL 1 (evS s ls) = 0 := (count_evS s ls).2
      go_wp2
      have hOt := Row.own_none (S := evSh) wb (p + 1) 46
      have hTt := hTb
      have hKt := hK2
      clear hP2 hK2 hTb
      go_loopw [6, 62] (fun v i wr => ∃ (j : Nat) (A2 : Option Addr) (d2 sj nj : Nat), j ≤ L ∧ v = .slice A2 nj d2 ∧ i = .int .i64 (j : Nat) ∧ sj = s + j ∧ nj = 0 + j ∧ wr.ownsRow (p + 1) 46 4 (.slice A2 nj d2) nj (Row.flat evSh ([] ++ evS s (ls.take j))) ∧ DecIs wr b r bs sj (gp) true q false ∧ Kept [b] w wr) (fun _ i _ => L - (intOf i).toNat)
      case atStart => exact ⟨0, _, _, _, _, by omega, rfl, rfl, rfl, rfl, by rw [List.take_zero]; show World.ownsRow _ _ _ 4 _ _ (Row.flat evSh ([] ++ [])); rw [List.append_nil]; exact hOt, hTt, hKt⟩
      case round =>
        obtain ⟨j, A2, d2, sj, nj, hj, rfl, rfl, hsj, hnj, hOr, hTr, hKr⟩ := hrel
        by_cases hjL : j < L
        · obtain ⟨x, rfl, _⟩ := hv.cells (by omega)
          have hvr := hv.kept hKr (fun _ y hy => by simpa using hfar y hy)
          obtain ⟨m0, m1⟩ := samp_cells hvr j hjL
          have hstp : evS s (ls.take (j + 1)) = evS s (ls.take j) ++ [(2, s + j, ls.getD j (0, false))] := by
            rw [take_step ls (0, false) j (by omega), evS_append, List.length_take, Nat.min_eq_left (by omega)]; rfl
          obtain ⟨⟨z, o⟩, hzo⟩ : ∃ q, ls.getD j (0, false) = q := ⟨_, rfl⟩
          rw [hzo, ← hsj] at hstp
          rw [hzo] at m0 m1
          dsimp only at m0 m1
          obtain ⟨E, hE⟩ : ∃ E, E = [] ++ evS s (ls.take j) := ⟨_, rfl⟩
          have HST := Lib.hid (show [] ++ evS s (ls.take (j + 1)) = E ++ [(2, sj, (z, o))] by rw [hstp, ← List.append_assoc, hE])
          rw [← hE] at hOr
          have hEl : E.length = nj := by
            rw [hE, List.length_append, evS_length, List.length_take]
            show 0 + _ = _
            omega
          clear hstp hzo hvr hTt hOt hKt hE
          have hsz : 0 ≤ (sj : Int) ∧ (sj : Int) ≤ 300000 := by omega
          have hnj9 : nj ≤ 33 := by omega
          have HSJ := Lib.hid hsj
          have HNJ := Lib.hid hnj
          clear hsj hnj
          go_wp2
          obtain ⟨m, hm⟩ : ∃ m, wr.heap.size = m := ⟨_, rfl⟩
          rw [hm]
          obtain ⟨wa, hwa⟩ : ∃ W, W = wr.alloc (.cells #[.int .i32 z, .bool o] 44) := ⟨_, rfl⟩
          rw [← hwa]
          have hMa : Has wa m 44 #[.int .i32 z, .bool o] := by rw [hwa, ← hm]; exact Has.new wr _ _
          have hTa : DecIs wa b r bs sj (gp) true q false := by rw [hwa]; exact Has.alloc hTr _
          have hOa : wa.ownsRow (p + 1) 46 4 (.slice A2 nj d2) nj (Row.flat evSh E) := by rw [hwa]; exact own_kept hOr ((Kept.refl [] wr).alloc _) (by simp)
          have hKa : Kept [b] w wa := by rw [hwa]; exact hKr.alloc _
          have hmA : m ∉ (Value.slice A2 nj d2).ownBlock.toList := fun hmem => by
            have := (own_block hOr m (by simpa using hmem)).2
            omega
          have hmb : m ≠ b := by have := Has.lt hTr; omega
          clear hwa hTr hOr hKr m0 m1
          refine Reg.begin_ (S := fun W => W.cell? ⟨b, 2, none⟩ = some (.int .i64 (sj : Nat)) ∧ W.cell? ⟨m, 0, none⟩ = some (.int .i32 z) ∧ W.cell? ⟨m, 1, none⟩ = some (.bool o)) (by kernel_rfl) (by exact ⟨Has.cell hTa 2, hMa.cell 0, hMa.cell 1⟩) (fun hHeld => ?_)
          have hMd : Has wa.drew m 44 #[.int .i32 z, .bool o] := hMa
          have hTd : DecIs wa.drew b r bs sj (gp) true q false := Has.drew hTa
          have hOd : wa.drew.ownsRow (p + 1) 46 4 (.slice A2 nj d2) nj (Row.flat evSh E) := own_kept hOa ((Kept.refl [] wa).drewN 1) (by simp)
          have hKd : Kept [b] w wa.drew := hKa.drewN 1
          generalize wa.drew = wd at *
          clear hMa hTa hOa hKa
          clear wa
          refine Reg.take (i := 0) (v := ?v9) rfl (by kernel_rfl) (by kernel_rfl) (by kernel_rfl) (by rfl) ?hv9 (by assumption) ?rest9
          case hv9 => first | (intro w hSw; (try dsimp only at hSw); go_simp; done) | (intro w hSw; (try dsimp only at hSw); go_simp; with_reducible rfl)
          (try simp only [Act.put, List.setIfInBounds_toArray, List.set_cons_zero, List.set_cons_succ])
          refine Reg.take (i := 1) (v := ?v10) rfl (by kernel_rfl) (by kernel_rfl) (by kernel_rfl) (by rfl) ?hv10 (by assumption) ?rest10
          case hv10 => first | (intro w hSw; (try dsimp only at hSw); go_simp; done) | (intro w hSw; (try dsimp only at hSw); go_simp; with_reducible rfl)
          (try simp only [Act.put, List.setIfInBounds_toArray, List.set_cons_zero, List.set_cons_succ])
          refine Reg.take (i := 2) (v := ?v11) rfl (by kernel_rfl) (by kernel_rfl) (by kernel_rfl) (by rfl) ?hv11 (by assumption) ?rest11
          case hv11 => first | (intro w hSw; (try dsimp only at hSw); go_simp; done) | (intro w hSw; (try dsimp only at hSw); go_simp; with_reducible rfl)
          (try simp only [Act.put, List.setIfInBounds_toArray, List.set_cons_zero, List.set_cons_succ])
          refine Reg.take (i := 3) (v := ?v12) rfl (by kernel_rfl) (by kernel_rfl) (by kernel_rfl) (by rfl) ?hv12 (by assumption) ?rest12
          case hv12 => first | (intro w hSw; (try dsimp only at hSw); go_simp; done) | (intro w hSw; (try dsimp only at hSw); go_simp; with_reducible rfl)
          (try simp only [Act.put, List.setIfInBounds_toArray, List.set_cons_zero, List.set_cons_succ])
          refine Reg.take (i := 4) (v := ?v13) rfl (by kernel_rfl) (by kernel_rfl) (by kernel_rfl) (by rfl) ?hv13 (by assumption) ?rest13
          case hv13 => first | (intro w hSw; (try dsimp only at hSw); go_simp; done) | (intro w hSw; (try dsimp only at hSw); go_simp; with_reducible rfl)
          (try simp only [Act.put, List.setIfInBounds_toArray, List.set_cons_zero, List.set_cons_succ])
          refine Reg.take (i := 5) (v := ?v14) rfl (by kernel_rfl) (by kernel_rfl) (by kernel_rfl) (by rfl) ?hv14 (by assumption) ?rest14
          case hv14 => first | (intro w hSw; (try dsimp only at hSw); go_simp; done) | (intro w hSw; (try dsimp only at hSw); go_simp; with_reducible rfl)
          (try simp only [Act.put, List.setIfInBounds_toArray, List.set_cons_zero, List.set_cons_succ])
          refine Reg.take (i := 6) (v := ?v15) rfl (by kernel_rfl) (by kernel_rfl) (by kernel_rfl) (by rfl) ?hv15 (by assumption) ?rest15
          case hv15 => first | (intro w hSw; (try dsimp only at hSw); go_simp; done) | (intro w hSw; (try dsimp only at hSw); go_simp; with_reducible rfl)
          (try simp only [Act.put, List.setIfInBounds_toArray, List.set_cons_zero, List.set_cons_succ])
          have hMe := hMd.alloc (.cells #[.int .i64 2, .int .i64 (sj : Nat), .int .i32 z, .bool o] 46)
          have hTe := Has.alloc hTd (.cells #[.int .i64 2, .int .i64 (sj : Nat), .int .i32 z, .bool o] 46)
          have hOe := own_kept hOd ((Kept.refl [] wd).alloc (.cells #[.int .i64 2, .int .i64 (sj : Nat), .int .i32 z, .bool o] 46)) (by simp)
          have hKe := hKd.alloc (.cells #[.int .i64 2, .int .i64 (sj : Nat), .int .i32 z, .bool o] 46)
          have hVn : Row.Vals evSh (wd.alloc (.cells #[.int .i64 2, .int .i64 (sj : Nat), .int .i32 z, .bool o] 46)) (some ⟨wd.heap.size, 0, none⟩) 1 [(2,sj,(z,o))] := one_new wd 46 (2, sj, (z, o))
          have hBase : p + 1 ≤ (wd.alloc (.cells #[.int .i64 2, .int .i64 (sj : Nat), .int .i32 z, .bool o] 46)).heap.size := by rw [World.size_alloc]; have := hKd.size; omega
          refine Reg.call (i := 7) rfl (by kernel_rfl) (by rfl) ?_
          intro K hK
          go_simp
          refine hK.out _ _ ⟨Has.cell hTe 2, hMe.cell 0, hMe.cell 1⟩ (fun hHeld2 => ?_)
          clear hK K
          (try simp only [Act.put, List.setIfInBounds_toArray, List.set_cons_zero, List.set_cons_succ])
          refine Reg.call (i := 8) rfl (by kernel_rfl) (by rfl) ?_
          intro K hK
          refine Row.wp_append (S := evSh) (.tmp 66) (.tmp 73) _ rfl (p + 1) 46 _ 24 (by omega) Try.underlying27 HInfo.out (by kernel_rfl) (.slice A2 nj d2) nj E rfl hOe (some ⟨wd.heap.size, 0, none⟩) 1 1 [(2,sj,(z,o))] rfl hVn (by omega) hBase ?_
          intro v9 W3 hO9 hg9 hat9
          obtain ⟨A9, d9, rfl, _, _, hx1, hx2⟩ := Row.Vals.own hO9
          clear hx1 hx2
          have hK9 := Kept.of_grown hg9
          have hT9 := hK9.has hTe (own_apart hOe (by omega))
          have hM9 := hK9.has hMe hmA
          have hk9 := hKe.grown hg9 (fun k hk => .inr (by have := (own_block hOe k hk).1; omega))
          refine hK.out _ _ ⟨Has.cell hT9 2, hM9.cell 0, hM9.cell 1⟩ (fun hHeld3 => ?_)
          clear hK K
          (try simp only [Act.put, List.setIfInBounds_toArray, List.set_cons_zero, List.set_cons_succ])
          refine Reg.take (i := 9) (v := ?v16) rfl (by kernel_rfl) (by kernel_rfl) (by kernel_rfl) (by rfl) ?hv16 (by assumption) ?rest16
          case hv16 => first | (intro w hSw; (try dsimp only at hSw); go_simp; done) | (intro w hSw; (try dsimp only at hSw); go_simp; with_reducible rfl)
          (try simp only [Act.put, List.setIfInBounds_toArray, List.set_cons_zero, List.set_cons_succ])
          refine Reg.done (by kernel_rfl) ?_ _
          clear hHeld hHeld2 hHeld3 hVn hBase hOe hMe hTe hKe hMd hTd hOd hKd hK9 hM9 hg9 hat9 hmA
          have t2 : W3.cell? ⟨b, 2, none⟩ = some (.int .i64 (sj : Nat)) := Has.cell hT9 2
          have g2 := Has.frozen hT9 2
          have hT5 := Has.set_ hT9 2 (.int .i64 ((sj : Int) + 1))
          have hK5 := hk9.setCell (p := ⟨b, 2, none⟩) (.inl (by simp)) (.int .i64 ((sj : Int) + 1))
          have hO5 := own_kept hO9 ((Kept.refl [b] W3).setCell (p := ⟨b, 2, none⟩) (.inl (by simp)) (.int .i64 ((sj : Int) + 1))) (fun y hy => by simp at hy; omega)
          clear hT9 hk9 hO9
          go_wp2
          go_roundw
          case rel => exact ⟨j + 1, A9, d9, sj + 1, nj + 1, by omega, rfl, by go_num, by have := HSJ.out; omega, by have := HNJ.out; omega, by rw [HST.out]; exact hO5, by simpa [DecIs] using hT5, hK5⟩
          case measure => simp [intOf]; omega
        · have hjL2 : j = L := by omega
          subst hjL2
          rw [List.take_of_length_le (by omega)] at hOr
          clear hTt hOt hKt
          obtain ⟨A9, d9, h9, h91, h92, h93, h94, _⟩ := Row.Vals.own (S := evSh) hOr
          injection h9 with e1 e2 e3
          subst e1 e3
          have HF := Lib.hid (show nj ≤ d2 ∧ d2 ≤ 9223372036854775807 ∧ nj ≤ 33 ∧ Row.Vals evSh wr A2 nj (metT false false last s q ls) ∧ (∀ x, A2 = some x → p ≤ x.block) ∧
              DecIs wr b r bs (s + countL 2 (metT false false last s q ls)) (gp + countL 1 (metT false false last s q ls)) true q (!dIn false last q) ∧ Kept [b] w wr by
            rw [hI, hmet, hc1, hc2, hll]
            exact ⟨h91, h92, by omega, h93, (fun x hx => by have := (h94 x hx).1; omega), by rw [← hsj]; exact hTr, hKr⟩)
          clear hI hmet hc1 hc2 hsj hnj h91 h92 h93 h94 hOr hTr hKr
          go_wp2
          go_ret
          exact ⟨_, _, _, rfl, HF.out⟩
    | true =>
      go_enter Try.func23, Try.ntmps23
      go_wp2
      go_quiet ((go_at_call 38; exact Calls.quiet_of (hnxt _)))
      go_wp2
      obtain ⟨w0, hw0⟩ : ∃ W, W = (w.alloc (.cells #[.int .u8 (q : Nat), .slice A L c] 52)).drewN nq := ⟨_, rfl⟩
      rw [← hw0]
      have hk0 : Kept [] w w0 := by rw [hw0]; exact hkA.drewN nq
      have hT0 := show DecIs w0 b r bs s gp _ last _ from (by rw [hw0]; exact Has.drewN hTA nq)
      have hP0 : Has w0 p 52 #[.int .u8 (q : Nat), .slice A L c] := by rw [hw0]; exact hPA.drewN nq
      clear hw0 hkA hTA hPA c4 c5 c6 p0 f4 f5 f6 hnxt h
      refine Reg.begin_ (S := fun W => W.cell? ⟨p, 0, none⟩ = some (.int .u8 (q : Nat))) (by kernel_rfl) (by exact hP0.cell 0) (fun hHeld => ?_)
      have hTd := show DecIs w0.drew b r bs s gp _ last _ from Has.drew hT0
      have hPd : Has w0.drew p 52 #[.int .u8 (q : Nat), .slice A L c] := hP0
      have hKd : Kept [] w w0.drew := hk0.drewN 1
      generalize w0.drew = wd at *
      clear hk0 hT0 hP0
      refine Reg.take (i := 0) (v := ?v17) rfl (by kernel_rfl) (by kernel_rfl) (by kernel_rfl) (by rfl) ?hv17 (by assumption) ?rest17
      case hv17 => first | (intro w hSw; (try dsimp only at hSw); go_simp; done) | (intro w hSw; (try dsimp only at hSw); go_simp; with_reducible rfl)
      (try simp only [Act.put, List.setIfInBounds_toArray, List.set_cons_zero, List.set_cons_succ])
      refine Reg.take (i := 1) (v := ?v18) rfl (by kernel_rfl) (by kernel_rfl) (by kernel_rfl) (by rfl) ?hv18 (by assumption) ?rest18
      case hv18 => first | (intro w hSw; (try dsimp only at hSw); go_simp; done) | (intro w hSw; (try dsimp only at hSw); go_simp; with_reducible rfl)
      (try simp only [Act.put, List.setIfInBounds_toArray, List.set_cons_zero, List.set_cons_succ])
      refine Reg.take (i := 2) (v := ?v19) rfl (by kernel_rfl) (by kernel_rfl) (by kernel_rfl) (by rfl) ?hv19 (by assumption) ?rest19
      case hv19 => first | (intro w hSw; (try dsimp only at hSw); go_simp; done) | (intro w hSw; (try dsimp only at hSw); go_simp; with_reducible rfl)
      (try simp only [Act.put, List.setIfInBounds_toArray, List.set_cons_zero, List.set_cons_succ])
      refine Reg.take (i := 3) (v := ?v20) rfl (by kernel_rfl) (by kernel_rfl) (by kernel_rfl) (by rfl) ?hv20 (by assumption) ?rest20
      case hv20 => first | (intro w hSw; (try dsimp only at hSw); go_simp; done) | (intro w hSw; (try dsimp only at hSw); go_simp; with_reducible rfl)
      (try simp only [Act.put, List.setIfInBounds_toArray, List.set_cons_zero, List.set_cons_succ])
      refine Reg.take (i := 4) (v := ?v21) rfl (by kernel_rfl) (by kernel_rfl) (by kernel_rfl) (by rfl) ?hv21 (by assumption) ?rest21
      case hv21 => first | (intro w hSw; (try dsimp only at hSw); go_simp; done) | (intro w hSw; (try dsimp only at hSw); go_simp; with_reducible rfl)
      (try simp only [Act.put, List.setIfInBounds_toArray, List.set_cons_zero, List.set_cons_succ])
      refine Reg.take (i := 5) (v := ?v22) rfl (by kernel_rfl) (by kernel_rfl) (by kernel_rfl) (by rfl) ?hv22 (by assumption) ?rest22
      case hv22 => first | (intro w hSw; (try dsimp only at hSw); go_simp; done) | (intro w hSw; (try dsimp only at hSw); go_simp; with_reducible rfl)
      (try simp only [Act.put, List.setIfInBounds_toArray, List.set_cons_zero, List.set_cons_succ])
      have t4 := Has.cell hTd 4
      have g4 := Has.frozen hTd 4
      refine Reg.call (i := 6) rfl (by kernel_rfl) (by rfl) ?_
      intro K hK
      go_simp
      have hT1 := Has.set_ hTd 4 (.bool true)
      have hP1 := hPd.far (p := ⟨b, 4, none⟩) (by show p ≠ b; omega) (.bool true)
      have hK1 := (hKd.wide (T := [b]) (by simp)).setCell (p := ⟨b, 4, none⟩) (.inl (by simp)) (.bool true)
      refine hK.out _ _ (hP1.cell 0) (fun hHeld2 => ?_)
      clear hK K
      (try simp only [Act.put, List.setIfInBounds_toArray, List.set_cons_zero, List.set_cons_succ])
      refine Reg.take (i := 7) (v := ?v23) rfl (by kernel_rfl) (by kernel_rfl) (by kernel_rfl) (by rfl) ?hv23 (by assumption) ?rest23
      case hv23 => first | (intro w hSw; (try dsimp only at hSw); go_simp; done) | (intro w hSw; (try dsimp only at hSw); go_simp; with_reducible rfl)
      (try simp only [Act.put, List.setIfInBounds_toArray, List.set_cons_zero, List.set_cons_succ])
      refine Reg.take (i := 8) (v := ?v24) rfl (by kernel_rfl) (by kernel_rfl) (by kernel_rfl) (by rfl) ?hv24 (by assumption) ?rest24
      case hv24 => first | (intro w hSw; (try dsimp only at hSw); go_simp; done) | (intro w hSw; (try dsimp only at hSw); go_simp; with_reducible rfl)
      (try simp only [Act.put, List.setIfInBounds_toArray, List.set_cons_zero, List.set_cons_succ])
      have t5 := hT1.cell 5
      have g5 := hT1.frozen 5
      refine Reg.call (i := 9) rfl (by kernel_rfl) (by rfl) ?_
      intro K hK
      go_simp
      have hT2 := hT1.set_ 5 (.int .u8 (q : Nat))
      have hP2 := hP1.far (p := ⟨b, 5, none⟩) (by show p ≠ b; omega) (.int .u8 (q : Nat))
      have hK2 := hK1.setCell (p := ⟨b, 5, none⟩) (.inl (by simp)) (.int .u8 (q : Nat))
      refine hK.out _ _ (hP2.cell 0) (fun hHeld3 => ?_)
      clear hK K
      (try simp only [Act.put, List.setIfInBounds_toArray, List.set_cons_zero, List.set_cons_succ])
      refine Reg.done (by kernel_rfl) ?_ _
      clear t4 g4 t5 g5 hHeld hHeld2 hHeld3
      have hTb : DecIs ((wd.setCell ⟨b, 4, none⟩ (.bool true)).setCell ⟨b, 5, none⟩ (.int .u8 (q : Nat))) b r bs s gp true q true := by simpa [DecIs] using hT2
      generalize (wd.setCell ⟨b, 4, none⟩ (.bool true)).setCell ⟨b, 5, none⟩ (.int .u8 (q : Nat)) = wb at *
      clear hTd hPd hKd hT1 hP1 hK1 hT2
      clear wd
      have t2 : wb.cell? ⟨b, 2, none⟩ = some (.int .i64 (s : Nat)) := Has.cell hTb 2
      have t6 : wb.cell? ⟨b, 6, none⟩ = some (.bool true) := Has.cell hTb 6
      have g6 := Has.frozen hTb 6
      have hTc : DecIs (wb.setCell ⟨b, 6, none⟩ (.bool false)) b r bs s gp true q false := by have := Has.set_ hTb 6 (.bool false); simpa [DecIs] using this
      have hTn := Has.alloc hTc (.cells #[.int .i64 1, .int .i64 (s : Nat), .int .i32 0, .bool false] 46)
      have hPn := (hP2.far (p := ⟨b, 6, none⟩) (by show p ≠ b; omega) (.bool false)).alloc (.cells #[.int .i64 1, .int .i64 (s : Nat), .int .i32 0, .bool false] 46)
      have hKn := (hK2.setCell (p := ⟨b, 6, none⟩) (.inl (by simp)) (.bool false)).alloc (.cells #[.int .i64 1, .int .i64 (s : Nat), .int .i32 0, .bool false] 46)
      have hVn : Row.Vals evSh ((wb.setCell ⟨b, 6, none⟩ (.bool false)).alloc (.cells #[.int .i64 1, .int .i64 (s : Nat), .int .i32 0, .bool false] 46)) (some ⟨wb.heap.size, 0, none⟩) 1 [(1, s, (0, false))] := by
        have := one_new (wb.setCell ⟨b, 6, none⟩ (.bool false)) 46 (1, s, (0, false))
        rw [World.size_setCell] at this
        exact this
      have hBase : p + 1 ≤ ((wb.setCell ⟨b, 6, none⟩ (.bool false)).alloc (.cells #[.int .i64 1, .int .i64 (s : Nat), .int .i32 0, .bool false] 46)).heap.size := hPn.lt
      have hO0 := Row.own_none (S := evSh) ((wb.setCell ⟨b, 6, none⟩ (.bool false)).alloc (.cells #[.int .i64 1, .int .i64 (s : Nat), .int .i32 0, .bool false] 46)) (p + 1) 46
      have hgz : 0 ≤ (gp : Int) ∧ (gp : Int) ≤ 300000 := by omega
      have hmet : metT false true last s q ls = [(1, s, (0, false))] ++ evS s ls := by unfold metT; rw [hI]; rfl
      have hc1 : countL 2 ([(1, s, (0, false))] ++ evS s ls) = ls.length := by rw [countL_append, (count_evS s ls).1]; show 0 + _ = _; omega
      have hc2 : countL 1 ([(1, s, (0, false))] ++ evS s ls) = 1 := by rw [countL_append, (count_evS s ls).2]; rfl
      go_wp2_with (at_builtin; refine Row.wpList_append (S := evSh) rfl (.tmp 44) (.tmp 50) _ rfl (p + 1) 46 _ 24 (by omega) Try.underlying27 HInfo.out (by kernel_rfl) (.slice none 0 0) 0 [] rfl (by exact hO0) _ 1 1 [(1, s, (0, false))] rfl (by exact hVn) (by omega) (by exact hBase) ?_; intro v9 W3 hO9 hg9 hat9; have hK9 := (Kept.of_grown hg9); have hT9 := (hK9.has hTn (own_apart hO0 (by omega))); have hP9 := (hK9.has hPn (own_apart hO0 (by omega))); have hk9 := (hKn.grown hg9 (fun k hk => by cases hk)); have t3 := (Has.cell hT9 3); have g3 := (Has.frozen hT9 3); have p1 := (hP9.cell 1); obtain ⟨A9, d9, rfl, h91, h92, h93, h94⟩ := (Row.Vals.own hO9))
      have hTt : DecIs (W3.setCell ⟨b, 3, none⟩ (.int .i64 ((gp : Int) + 1))) b r bs s (gp + 1) true q false := by have := Has.set_ hT9 3 (.int .i64 ((gp : Int) + 1)); simpa [DecIs] using this
      have hOt := own_kept hO9 ((Kept.refl [b] W3).setCell (p := ⟨b, 3, none⟩) (.inl (by simp)) (.int .i64 ((gp : Int) + 1))) (fun y hy => by simp at hy; omega)
      have hKt := hk9.setCell (p := ⟨b, 3, none⟩) (.inl (by simp)) (.int .i64 ((gp : Int) + 1))
      clear hO9 hg9 hat9 hK9 hT9 hP9 hk9 t3 g3 p1 h91 h92 h93 h94 hTn hPn hKn hVn hBase hO0 hTc
      generalize W3.setCell ⟨b, 3, none⟩ (.int .i64 ((gp : Int) + 1)) = wt at *
      clear hP2 hK2 hTb
      go_loopw [6, 62] (fun v i wr => ∃ (j : Nat) (A2 : Option Addr) (d2 sj nj : Nat), j ≤ L ∧ v = .slice A2 nj d2 ∧ i = .int .i64 (j : Nat) ∧ sj = s + j ∧ nj = 1 + j ∧ wr.ownsRow (p + 1) 46 4 (.slice A2 nj d2) nj (Row.flat evSh ([(1,s,(0,false))] ++ evS s (ls.take j))) ∧ DecIs wr b r bs sj (gp+1) true q false ∧ Kept [b] w wr) (fun _ i _ => L - (intOf i).toNat)
      case atStart => exact ⟨0, _, _, _, _, by omega, rfl, rfl, rfl, rfl, by rw [List.take_zero]; show World.ownsRow _ _ _ 4 _ _ (Row.flat evSh ([(1,s,(0,false))] ++ [])); rw [List.append_nil]; exact hOt, hTt, hKt⟩
      case round =>
        obtain ⟨j, A2, d2, sj, nj, hj, rfl, rfl, hsj, hnj, hOr, hTr, hKr⟩ := hrel
        by_cases hjL : j < L
        · obtain ⟨x, rfl, _⟩ := hv.cells (by omega)
          have hvr := hv.kept hKr (fun _ y hy => by simpa using hfar y hy)
          obtain ⟨m0, m1⟩ := samp_cells hvr j hjL
          have hstp : evS s (ls.take (j + 1)) = evS s (ls.take j) ++ [(2, s + j, ls.getD j (0, false))] := by
            rw [take_step ls (0, false) j (by omega), evS_append, List.length_take, Nat.min_eq_left (by omega)]; rfl
          obtain ⟨⟨z, o⟩, hzo⟩ : ∃ q, ls.getD j (0, false) = q := ⟨_, rfl⟩
          rw [hzo, ← hsj] at hstp
          rw [hzo] at m0 m1
          dsimp only at m0 m1
          obtain ⟨E, hE⟩ : ∃ E, E = [(1,s,(0,false))] ++ evS s (ls.take j) := ⟨_, rfl⟩
          have HST := Lib.hid (show [(1,s,(0,false))] ++ evS s (ls.take (j + 1)) = E ++ [(2, sj, (z, o))] by rw [hstp, ← List.append_assoc, hE])
          rw [← hE] at hOr
          have hEl : E.length = nj := by
            rw [hE, List.length_append, evS_length, List.length_take]
            show 1 + _ = _
            omega
          clear hstp hzo hvr hTt hOt hKt hE
          have hsz : 0 ≤ (sj : Int) ∧ (sj : Int) ≤ 300000 := by omega
          have hnj9 : nj ≤ 33 := by omega
          have HSJ := Lib.hid hsj
          have HNJ := Lib.hid hnj
          clear hsj hnj
          go_wp2
          obtain ⟨m, hm⟩ : ∃ m, wr.heap.size = m := ⟨_, rfl⟩
          rw [hm]
          obtain ⟨wa, hwa⟩ : ∃ W, W = wr.alloc (.cells #[.int .i32 z, .bool o] 44) := ⟨_, rfl⟩
          rw [← hwa]
          have hMa : Has wa m 44 #[.int .i32 z, .bool o] := by rw [hwa, ← hm]; exact Has.new wr _ _
          have hTa : DecIs wa b r bs sj (gp+1) true q false := by rw [hwa]; exact Has.alloc hTr _
          have hOa : wa.ownsRow (p + 1) 46 4 (.slice A2 nj d2) nj (Row.flat evSh E) := by rw [hwa]; exact own_kept hOr ((Kept.refl [] wr).alloc _) (by simp)
          have hKa : Kept [b] w wa := by rw [hwa]; exact hKr.alloc _
          have hmA : m ∉ (Value.slice A2 nj d2).ownBlock.toList := fun hmem => by
            have := (own_block hOr m (by simpa using hmem)).2
            omega
          have hmb : m ≠ b := by have := Has.lt hTr; omega
          clear hwa hTr hOr hKr m0 m1
          refine Reg.begin_ (S := fun W => W.cell? ⟨b, 2, none⟩ = some (.int .i64 (sj : Nat)) ∧ W.cell? ⟨m, 0, none⟩ = some (.int .i32 z) ∧ W.cell? ⟨m, 1, none⟩ = some (.bool o)) (by kernel_rfl) (by exact ⟨Has.cell hTa 2, hMa.cell 0, hMa.cell 1⟩) (fun hHeld => ?_)
          have hMd : Has wa.drew m 44 #[.int .i32 z, .bool o] := hMa
          have hTd : DecIs wa.drew b r bs sj (gp+1) true q false := Has.drew hTa
          have hOd : wa.drew.ownsRow (p + 1) 46 4 (.slice A2 nj d2) nj (Row.flat evSh E) := own_kept hOa ((Kept.refl [] wa).drewN 1) (by simp)
          have hKd : Kept [b] w wa.drew := hKa.drewN 1
          generalize wa.drew = wd at *
          clear hMa hTa hOa hKa
          clear wa
          refine Reg.take (i := 0) (v := ?v25) rfl (by kernel_rfl) (by kernel_rfl) (by kernel_rfl) (by rfl) ?hv25 (by assumption) ?rest25
          case hv25 => first | (intro w hSw; (try dsimp only at hSw); go_simp; done) | (intro w hSw; (try dsimp only at hSw); go_simp; with_reducible rfl)
          (try simp only [Act.put, List.setIfInBounds_toArray, List.set_cons_zero, List.set_cons_succ])
          refine Reg.take (i := 1) (v := ?v26) rfl (by kernel_rfl) (by kernel_rfl) (by kernel_rfl) (by rfl) ?hv26 (by assumption) ?rest26
          case hv26 => first | (intro w hSw; (try dsimp only at hSw); go_simp; done) | (intro w hSw; (try dsimp only at hSw); go_simp; with_reducible rfl)
          (try simp only [Act.put, List.setIfInBounds_toArray, List.set_cons_zero, List.set_cons_succ])
          refine Reg.take (i := 2) (v := ?v27) rfl (by kernel_rfl) (by kernel_rfl) (by kernel_rfl) (by rfl) ?hv27 (by assumption) ?rest27
          case hv27 => first | (intro w hSw; (try dsimp only at hSw); go_simp; done) | (intro w hSw; (try dsimp only at hSw); go_simp; with_reducible rfl)
          (try simp only [Act.put, List.setIfInBounds_toArray, List.set_cons_zero, List.set_cons_succ])
          refine Reg.take (i := 3) (v := ?v28) rfl (by kernel_rfl) (by kernel_rfl) (by kernel_rfl) (by rfl) ?hv28 (by assumption) ?rest28
          case hv28 => first | (intro w hSw; (try dsimp only at hSw); go_simp; done) | (intro w hSw; (try dsimp only at hSw); go_simp; with_reducible rfl)
          (try simp only [Act.put, List.setIfInBounds_toArray, List.set_cons_zero, List.set_cons_succ])
          refine Reg.take (i := 4) (v := ?v29) rfl (by kernel_rfl) (by kernel_rfl) (by kernel_rfl) (by rfl) ?hv29 (by assumption) ?rest29
          case hv29 => first | (intro w hSw; (try dsimp only at hSw); go_simp; done) | (intro w hSw; (try dsimp only at hSw); go_simp; with_reducible rfl)
          (try simp only [Act.put, List.setIfInBounds_toArray, List.set_cons_zero, List.set_cons_succ])
          refine Reg.take (i := 5) (v := ?v30) rfl (by kernel_rfl) (by kernel_rfl) (by kernel_rfl) (by rfl) ?hv30 (by assumption) ?rest30
          case hv30 => first | (intro w hSw; (try dsimp only at hSw); go_simp; done) | (intro w hSw; (try dsimp only at hSw); go_simp; with_reducible rfl)
          (try simp only [Act.put, List.setIfInBounds_toArray, List.set_cons_zero, List.set_cons_succ])
          refine Reg.take (i := 6) (v := ?v31) rfl (by kernel_rfl) (by kernel_rfl) (by kernel_rfl) (by rfl) ?hv31 (by assumption) ?rest31
          case hv31 => first | (intro w hSw; (try dsimp only at hSw); go_simp; done) | (intro w hSw; (try dsimp only at hSw); go_simp; with_reducible rfl)
          (try simp only [Act.put, List.setIfInBounds_toArray, List.set_cons_zero, List.set_cons_succ])
          have hMe := hMd.alloc (.cells #[.int .i64 2, .int .i64 (sj : Nat), .int .i32 z, .bool o] 46)
          have hTe := Has.alloc hTd (.cells #[.int .i64 2, .int .i64 (sj : Nat), .int .i32 z, .bool o] 46)
          have hOe := own_kept hOd ((Kept.refl [] wd).alloc (.cells #[.int .i64 2, .int .i64 (sj : Nat), .int .i32 z, .bool o] 46)) (by simp)
          have hKe := hKd.alloc (.cells #[.int .i64 2, .int .i64 (sj : Nat), .int .i32 z, .bool o] 46)
          have hVn : Row.Vals evSh (wd.alloc (.cells #[.int .i64 2, .int .i64 (sj : Nat), .int .i32 z, .bool o] 46)) (some ⟨wd.heap.size, 0, none⟩) 1 [(2,sj,(z,o))] := one_new wd 46 (2, sj, (z, o))
          have hBase : p + 1 ≤ (wd.alloc (.cells #[.int .i64 2, .int .i64 (sj : Nat), .int .i32 z, .bool o] 46)).heap.size := by rw [World.size_alloc]; have := hKd.size; omega
          refine Reg.call (i := 7) rfl (by kernel_rfl) (by rfl) ?_
          intro K hK
          go_simp
          refine hK.out _ _ ⟨Has.cell hTe 2, hMe.cell 0, hMe.cell 1⟩ (fun hHeld2 => ?_)
          clear hK K
          (try simp only [Act.put, List.setIfInBounds_toArray, List.set_cons_zero, List.set_cons_succ])
          refine Reg.call (i := 8) rfl (by kernel_rfl) (by rfl) ?_
          intro K hK
          refine Row.wp_append (S := evSh) (.tmp 66) (.tmp 73) _ rfl (p + 1) 46 _ 24 (by omega) Try.underlying27 HInfo.out (by kernel_rfl) (.slice A2 nj d2) nj E rfl hOe (some ⟨wd.heap.size, 0, none⟩) 1 1 [(2,sj,(z,o))] rfl hVn (by omega) hBase ?_
          intro v9 W3 hO9 hg9 hat9
          obtain ⟨A9, d9, rfl, _, _, hx1, hx2⟩ := Row.Vals.own hO9
          clear hx1 hx2
          have hK9 := Kept.of_grown hg9
          have hT9 := hK9.has hTe (own_apart hOe (by omega))
          have hM9 := hK9.has hMe hmA
          have hk9 := hKe.grown hg9 (fun k hk => .inr (by have := (own_block hOe k hk).1; omega))
          refine hK.out _ _ ⟨Has.cell hT9 2, hM9.cell 0, hM9.cell 1⟩ (fun hHeld3 => ?_)
          clear hK K
          (try simp only [Act.put, List.setIfInBounds_toArray, List.set_cons_zero, List.set_cons_succ])
          refine Reg.take (i := 9) (v := ?v32) rfl (by kernel_rfl) (by kernel_rfl) (by kernel_rfl) (by rfl) ?hv32 (by assumption) ?rest32
          case hv32 => first | (intro w hSw; (try dsimp only at hSw); go_simp; done) | (intro w hSw; (try dsimp only at hSw); go_simp; with_reducible rfl)
          (try simp only [Act.put, List.setIfInBounds_toArray, List.set_cons_zero, List.set_cons_succ])
          refine Reg.done (by kernel_rfl) ?_ _
          clear hHeld hHeld2 hHeld3 hVn hBase hOe hMe hTe hKe hMd hTd hOd hKd hK9 hM9 hg9 hat9 hmA
          have t2 : W3.cell? ⟨b, 2, none⟩ = some (.int .i64 (sj : Nat)) := Has.cell hT9 2
          have g2 := Has.frozen hT9 2
          have hT5 := Has.set_ hT9 2 (.int .i64 ((sj : Int) + 1))
          have hK5 := hk9.setCell (p := ⟨b, 2, none⟩) (.inl (by simp)) (.int .i64 ((sj : Int) + 1))
          have hO5 := own_kept hO9 ((Kept.refl [b] W3).setCell (p := ⟨b, 2, none⟩) (.inl (by simp)) (.int .i64 ((sj : Int) + 1))) (fun y hy => by simp at hy; omega)
          clear hT9 hk9 hO9
          go_wp2
          go_roundw
          case rel => exact ⟨j + 1, A9, d9, sj + 1, nj + 1, by omega, rfl, by go_num, by have := HSJ.out; omega, by have := HNJ.out; omega, by rw [HST.out]; exact hO5, by simpa [DecIs] using hT5, hK5⟩
          case measure => simp [intOf]; omega
        · have hjL2 : j = L := by omega
          subst hjL2
          rw [List.take_of_length_le (by omega)] at hOr
          clear hTt hOt hKt
          obtain ⟨A9, d9, h9, h91, h92, h93, h94, _⟩ := Row.Vals.own (S := evSh) hOr
          injection h9 with e1 e2 e3
          subst e1 e3
          have HF := Lib.hid (show nj ≤ d2 ∧ d2 ≤ 9223372036854775807 ∧ nj ≤ 33 ∧ Row.Vals evSh wr A2 nj (metT false true last s q ls) ∧ (∀ x, A2 = some x → p ≤ x.block) ∧
              DecIs wr b r bs (s + countL 2 (metT false true last s q ls)) (gp + countL 1 (metT false true last s q ls)) true q (!dIn false last q) ∧ Kept [b] w wr by
            rw [hI, hmet, hc1, hc2, hll]
            exact ⟨h91, h92, by omega, h93, (fun x hx => by have := (h94 x hx).1; omega), by rw [← hsj]; exact hTr, hKr⟩)
          clear hI hmet hc1 hc2 hsj hnj h91 h92 h93 h94 hOr hTr hKr
          go_wp2
          go_ret
          exact ⟨_, _, _, rfl, HF.out⟩
  | true =>
    by_cases hqn : q = q1
    · have hI : dIn true last q = true := by simp [dIn, hq1, hqn]
      subst hqn
      cases br with
      | false =>
        go_enter Try.func23, Try.ntmps23
        go_wp2
        go_quiet ((go_at_call 38; exact Calls.quiet_of (hnxt _)))
        go_wp2
        obtain ⟨w0, hw0⟩ : ∃ W, W = (w.alloc (.cells #[.int .u8 (q : Nat), .slice A L c] 52)).drewN nq := ⟨_, rfl⟩
        rw [← hw0]
        have hk0 : Kept [] w w0 := by rw [hw0]; exact hkA.drewN nq
        have hT0 := show DecIs w0 b r bs s gp _ last _ from (by rw [hw0]; exact Has.drewN hTA nq)
        have hP0 : Has w0 p 52 #[.int .u8 (q : Nat), .slice A L c] := by rw [hw0]; exact hPA.drewN nq
        clear hw0 hkA hTA hPA c4 c5 c6 p0 f4 f5 f6 hnxt h
        refine Reg.begin_ (S := fun W => W.cell? ⟨p, 0, none⟩ = some (.int .u8 (q : Nat))) (by kernel_rfl) (by exact hP0.cell 0) (fun hHeld => ?_)
        have hTd := show DecIs w0.drew b r bs s gp _ last _ from Has.drew hT0
        have hPd : Has w0.drew p 52 #[.int .u8 (q : Nat), .slice A L c] := hP0
        have hKd : Kept [] w w0.drew := hk0.drewN 1
        generalize w0.drew = wd at *
        clear hk0 hT0 hP0
        refine Reg.take (i := 0) (v := ?v33) rfl (by kernel_rfl) (by kernel_rfl) (by kernel_rfl) (by rfl) ?hv33 (by assumption) ?rest33
        case hv33 => first | (intro w hSw; (try dsimp only at hSw); go_simp; done) | (intro w hSw; (try dsimp only at hSw); go_simp; with_reducible rfl)
        (try simp only [Act.put, List.setIfInBounds_toArray, List.set_cons_zero, List.set_cons_succ])
        refine Reg.take (i := 1) (v := ?v34) rfl (by kernel_rfl) (by kernel_rfl) (by kernel_rfl) (by rfl) ?hv34 (by assumption) ?rest34
        case hv34 => first | (intro w hSw; (try dsimp only at hSw); go_simp; done) | (intro w hSw; (try dsimp only at hSw); go_simp; with_reducible rfl)
        (try simp only [Act.put, List.setIfInBounds_toArray, List.set_cons_zero, List.set_cons_succ])
        refine Reg.take (i := 2) (v := ?v35) rfl (by kernel_rfl) (by kernel_rfl) (by kernel_rfl) (by rfl) ?hv35 (by assumption) ?rest35
        case hv35 => first | (intro w hSw; (try dsimp only at hSw); go_simp; done) | (intro w hSw; (try dsimp only at hSw); go_simp; with_reducible rfl)
        (try simp only [Act.put, List.setIfInBounds_toArray, List.set_cons_zero, List.set_cons_succ])
        refine Reg.take (i := 3) (v := ?v36) rfl (by kernel_rfl) (by kernel_rfl) (by kernel_rfl) (by rfl) ?hv36 (by assumption) ?rest36
        case hv36 => first | (intro w hSw; (try dsimp only at hSw); go_simp; done) | (intro w hSw; (try dsimp only at hSw); go_simp; with_reducible rfl)
        (try simp only [Act.put, List.setIfInBounds_toArray, List.set_cons_zero, List.set_cons_succ])
        refine Reg.take (i := 4) (v := ?v37) rfl (by kernel_rfl) (by kernel_rfl) (by kernel_rfl) (by rfl) ?hv37 (by assumption) ?rest37
        case hv37 => first | (intro w hSw; (try dsimp only at hSw); go_simp; done) | (intro w hSw; (try dsimp only at hSw); go_simp; with_reducible rfl)
        (try simp only [Act.put, List.setIfInBounds_toArray, List.set_cons_zero, List.set_cons_succ])
        refine Reg.take (i := 5) (v := ?v38) rfl (by kernel_rfl) (by kernel_rfl) (by kernel_rfl) (by rfl) ?hv38 (by assumption) ?rest38
        case hv38 => first | (intro w hSw; (try dsimp only at hSw); go_simp; done) | (intro w hSw; (try dsimp only at hSw); go_simp; with_reducible rfl)
        (try simp only [Act.put, List.setIfInBounds_toArray, List.set_cons_zero, List.set_cons_succ])
        have t4 := Has.cell hTd 4
        have g4 := Has.frozen hTd 4
        refine Reg.call (i := 6) rfl (by kernel_rfl) (by rfl) ?_
        intro K hK
        go_simp
        have hT1 := Has.set_ hTd 4 (.bool true)
        have hP1 := hPd.far (p := ⟨b, 4, none⟩) (by show p ≠ b; omega) (.bool true)
        have hK1 := (hKd.wide (T := [b]) (by simp)).setCell (p := ⟨b, 4, none⟩) (.inl (by simp)) (.bool true)
        refine hK.out _ _ (hP1.cell 0) (fun hHeld2 => ?_)
        clear hK K
        (try simp only [Act.put, List.setIfInBounds_toArray, List.set_cons_zero, List.set_cons_succ])
        refine Reg.take (i := 7) (v := ?v39) rfl (by kernel_rfl) (by kernel_rfl) (by kernel_rfl) (by rfl) ?hv39 (by assumption) ?rest39
        case hv39 => first | (intro w hSw; (try dsimp only at hSw); go_simp; done) | (intro w hSw; (try dsimp only at hSw); go_simp; with_reducible rfl)
        (try simp only [Act.put, List.setIfInBounds_toArray, List.set_cons_zero, List.set_cons_succ])
        refine Reg.take (i := 8) (v := ?v40) rfl (by kernel_rfl) (by kernel_rfl) (by kernel_rfl) (by rfl) ?hv40 (by assumption) ?rest40
        case hv40 => first | (intro w hSw; (try dsimp only at hSw); go_simp; done) | (intro w hSw; (try dsimp only at hSw); go_simp; with_reducible rfl)
        (try simp only [Act.put, List.setIfInBounds_toArray, List.set_cons_zero, List.set_cons_succ])
        have t5 := hT1.cell 5
        have g5 := hT1.frozen 5
        refine Reg.call (i := 9) rfl (by kernel_rfl) (by rfl) ?_
        intro K hK
        go_simp
        have hT2 := hT1.set_ 5 (.int .u8 (q : Nat))
        have hP2 := hP1.far (p := ⟨b, 5, none⟩) (by show p ≠ b; omega) (.int .u8 (q : Nat))
        have hK2 := hK1.setCell (p := ⟨b, 5, none⟩) (.inl (by simp)) (.int .u8 (q : Nat))
        refine hK.out _ _ (hP2.cell 0) (fun hHeld3 => ?_)
        clear hK K
        (try simp only [Act.put, List.setIfInBounds_toArray, List.set_cons_zero, List.set_cons_succ])
        refine Reg.done (by kernel_rfl) ?_ _
        clear t4 g4 t5 g5 hHeld hHeld2 hHeld3
        have hTb : DecIs ((wd.setCell ⟨b, 4, none⟩ (.bool true)).setCell ⟨b, 5, none⟩ (.int .u8 (q : Nat))) b r bs s gp true q false := by simpa [DecIs] using hT2
        generalize (wd.setCell ⟨b, 4, none⟩ (.bool true)).setCell ⟨b, 5, none⟩ (.int .u8 (q : Nat)) = wb at *
        clear hTd hPd hKd hT1 hP1 hK1 hT2
        clear wd
        have t6 : wb.cell? ⟨b, 6, none⟩ = some (.bool false) := Has.cell hTb 6
        have p1 : wb.cell? ⟨p, 1, none⟩ = some (.slice A L c) := hP2.cell 1
        have hmet : metT true false last s q ls = evS s ls := by unfold metT; rw [hI]; rfl
        have hc1 : countL 2 (evS s ls) = ls.length := (count_evS s ls).1
        have hc2 : countL 1 (evS s ls) = 0 := (count_evS s ls).2
        go_wp2
        have hOt := Row.own_none (S := evSh) wb (p + 1) 46
        have hTt := hTb
        have hKt := hK2
        clear hP2 hK2 hTb
        go_loopw [6, 62] (fun v i wr => ∃ (j : Nat) (A2 : Option Addr) (d2 sj nj : Nat), j ≤ L ∧ v = .slice A2 nj d2 ∧ i = .int .i64 (j : Nat) ∧ sj = s + j ∧ nj = 0 + j ∧ wr.ownsRow (p + 1) 46 4 (.slice A2 nj d2) nj (Row.flat evSh ([] ++ evS s (ls.take j))) ∧ DecIs wr b r bs sj (gp) true q false ∧ Kept [b] w wr) (fun _ i _ => L - (intOf i).toNat)
        case atStart => exact ⟨0, _, _, _, _, by omega, rfl, rfl, rfl, rfl, by rw [List.take_zero]; show World.ownsRow _ _ _ 4 _ _ (Row.flat evSh ([] ++ [])); rw [List.append_nil]; exact hOt, hTt, hKt⟩
        case round =>
          obtain ⟨j, A2, d2, sj, nj, hj, rfl, rfl, hsj, hnj, hOr, hTr, hKr⟩ := hrel
          by_cases hjL : j < L
          · obtain ⟨x, rfl, _⟩ := hv.cells (by omega)
            have hvr := hv.kept hKr (fun _ y hy => by simpa using hfar y hy)
            obtain ⟨m0, m1⟩ := samp_cells hvr j hjL
            have hstp : evS s (ls.take (j + 1)) = evS s (ls.take j) ++ [(2, s + j, ls.getD j (0, false))] := by
              rw [take_step ls (0, false) j (by omega), evS_append, List.length_take, Nat.min_eq_left (by omega)]; rfl
            obtain ⟨⟨z, o⟩, hzo⟩ : ∃ q, ls.getD j (0, false) = q := ⟨_, rfl⟩
            rw [hzo, ← hsj] at hstp
            rw [hzo] at m0 m1
            dsimp only at m0 m1
            obtain ⟨E, hE⟩ : ∃ E, E = [] ++ evS s (ls.take j) := ⟨_, rfl⟩
            have HST := Lib.hid (show [] ++ evS s (ls.take (j + 1)) = E ++ [(2, sj, (z, o))] by rw [hstp, ← List.append_assoc, hE])
            rw [← hE] at hOr
            have hEl : E.length = nj := by
              rw [hE, List.length_append, evS_length, List.length_take]
              show 0 + _ = _
              omega
            clear hstp hzo hvr hTt hOt hKt hE
            have hsz : 0 ≤ (sj : Int) ∧ (sj : Int) ≤ 300000 := by omega
            have hnj9 : nj ≤ 33 := by omega
            have HSJ := Lib.hid hsj
            have HNJ := Lib.hid hnj
            clear hsj hnj
            go_wp2
            obtain ⟨m, hm⟩ : ∃ m, wr.heap.size = m := ⟨_, rfl⟩
            rw [hm]
            obtain ⟨wa, hwa⟩ : ∃ W, W = wr.alloc (.cells #[.int .i32 z, .bool o] 44) := ⟨_, rfl⟩
            rw [← hwa]
            have hMa : Has wa m 44 #[.int .i32 z, .bool o] := by rw [hwa, ← hm]; exact Has.new wr _ _
            have hTa : DecIs wa b r bs sj (gp) true q false := by rw [hwa]; exact Has.alloc hTr _
            have hOa : wa.ownsRow (p + 1) 46 4 (.slice A2 nj d2) nj (Row.flat evSh E) := by rw [hwa]; exact own_kept hOr ((Kept.refl [] wr).alloc _) (by simp)
            have hKa : Kept [b] w wa := by rw [hwa]; exact hKr.alloc _
            have hmA : m ∉ (Value.slice A2 nj d2).ownBlock.toList := fun hmem => by
              have := (own_block hOr m (by simpa using hmem)).2
              omega
            have hmb : m ≠ b := by have := Has.lt hTr; omega
            clear hwa hTr hOr hKr m0 m1
            refine Reg.begin_ (S := fun W => W.cell? ⟨b, 2, none⟩ = some (.int .i64 (sj : Nat)) ∧ W.cell? ⟨m, 0, none⟩ = some (.int .i32 z) ∧ W.cell? ⟨m, 1, none⟩ = some (.bool o)) (by kernel_rfl) (by exact ⟨Has.cell hTa 2, hMa.cell 0, hMa.cell 1⟩) (fun hHeld => ?_)
            have hMd : Has wa.drew m 44 #[.int .i32 z, .bool o] := hMa
            have hTd : DecIs wa.drew b r bs sj (gp) true q false := Has.drew hTa
            have hOd : wa.drew.ownsRow (p + 1) 46 4 (.slice A2 nj d2) nj (Row.flat evSh E) := own_kept hOa ((Kept.refl [] wa).drewN 1) (by simp)
            have hKd : Kept [b] w wa.drew := hKa.drewN 1
            generalize wa.drew = wd at *
            clear hMa hTa hOa hKa
            clear wa
            refine Reg.take (i := 0) (v := ?v41) rfl (by kernel_rfl) (by kernel_rfl) (by kernel_rfl) (by rfl) ?hv41 (by assumption) ?rest41
            case hv41 => first | (intro w hSw; (try dsimp only at hSw); go_simp; done) | (intro w hSw; (try dsimp only at hSw); go_simp; with_reducible rfl)
            (try simp only [Act.put, List.setIfInBounds_toArray, List.set_cons_zero, List.set_cons_succ])
            refine Reg.take (i := 1) (v := ?v42) rfl (by kernel_rfl) (by kernel_rfl) (by kernel_rfl) (by rfl) ?hv42 (by assumption) ?rest42
            case hv42 => first | (intro w hSw; (try dsimp only at hSw); go_simp; done) | (intro w hSw; (try dsimp only at hSw); go_simp; with_reducible rfl)
            (try simp only [Act.put, List.setIfInBounds_toArray, List.set_cons_zero, List.set_cons_succ])
            refine Reg.take (i := 2) (v := ?v43) rfl (by kernel_rfl) (by kernel_rfl) (by kernel_rfl) (by rfl) ?hv43 (by assumption) ?rest43
            case hv43 => first | (intro w hSw; (try dsimp only at hSw); go_simp; done) | (intro w hSw; (try dsimp only at hSw); go_simp; with_reducible rfl)
            (try simp only [Act.put, List.setIfInBounds_toArray, List.set_cons_zero, List.set_cons_succ])
            refine Reg.take (i := 3) (v := ?v44) rfl (by kernel_rfl) (by kernel_rfl) (by kernel_rfl) (by rfl) ?hv44 (by assumption) ?rest44
            case hv44 => first | (intro w hSw; (try dsimp only at hSw); go_simp; done) | (intro w hSw; (try dsimp only at hSw); go_simp; with_reducible rfl)
            (try simp only [Act.put, List.setIfInBounds_toArray, List.set_cons_zero, List.set_cons_succ])
            refine Reg.take (i := 4) (v := ?v45) rfl (by kernel_rfl) (by kernel_rfl) (by kernel_rfl) (by rfl) ?hv45 (by assumption) ?rest45
            case hv45 => first | (intro w hSw; (try dsimp only at hSw); go_simp; done) | (intro w hSw; (try dsimp only at hSw); go_simp; with_reducible rfl)
            (try simp only [Act.put, List.setIfInBounds_toArray, List.set_cons_zero, List.set_cons_succ])
            refine Reg.take (i := 5) (v := ?v46) rfl (by kernel_rfl) (by kernel_rfl) (by kernel_rfl) (by rfl) ?hv46 (by assumption) ?rest46
            case hv46 => first | (intro w hSw; (try dsimp only at hSw); go_simp; done) | (intro w hSw; (try dsimp only at hSw); go_simp; with_reducible rfl)
            (try simp only [Act.put, List.setIfInBounds_toArray, List.set_cons_zero, List.set_cons_succ])
            refine Reg.take (i := 6) (v := ?v47) rfl (by kernel_rfl) (by kernel_rfl) (by kernel_rfl) (by rfl) ?hv47 (by assumption) ?rest47
            case hv47 => first | (intro w hSw; (try dsimp only at hSw); go_simp; done) | (intro w hSw; (try dsimp only at hSw); go_simp; with_reducible rfl)
            (try simp only [Act.put, List.setIfInBounds_toArray, List.set_cons_zero, List.set_cons_succ])
            have hMe := hMd.alloc (.cells #[.int .i64 2, .int .i64 (sj : Nat), .int .i32 z, .bool o] 46)
            have hTe := Has.alloc hTd (.cells #[.int .i64 2, .int .i64 (sj : Nat), .int .i32 z, .bool o] 46)
            have hOe := own_kept hOd ((Kept.refl [] wd).alloc (.cells #[.int .i64 2, .int .i64 (sj : Nat), .int .i32 z, .bool o] 46)) (by simp)
            have hKe := hKd.alloc (.cells #[.int .i64 2, .int .i64 (sj : Nat), .int .i32 z, .bool o] 46)
            have hVn : Row.Vals evSh (wd.alloc (.cells #[.int .i64 2, .int .i64 (sj : Nat), .int .i32 z, .bool o] 46)) (some ⟨wd.heap.size, 0, none⟩) 1 [(2,sj,(z,o))] := one_new wd 46 (2, sj, (z, o))
            have hBase : p + 1 ≤ (wd.alloc (.cells #[.int .i64 2, .int .i64 (sj : Nat), .int .i32 z, .bool o] 46)).heap.size := by rw [World.size_alloc]; have := hKd.size; omega
            refine Reg.call (i := 7) rfl (by kernel_rfl) (by rfl) ?_
            intro K hK
            go_simp
            refine hK.out _ _ ⟨Has.cell hTe 2, hMe.cell 0, hMe.cell 1⟩ (fun hHeld2 => ?_)
            clear hK K
            (try simp only [Act.put, List.setIfInBounds_toArray, List.set_cons_zero, List.set_cons_succ])
            refine Reg.call (i := 8) rfl (by kernel_rfl) (by rfl) ?_
            intro K hK
            refine Row.wp_append (S := evSh) (.tmp 66) (.tmp 73) _ rfl (p + 1) 46 _ 24 (by omega) Try.underlying27 HInfo.out (by kernel_rfl) (.slice A2 nj d2) nj E rfl hOe (some ⟨wd.heap.size, 0, none⟩) 1 1 [(2,sj,(z,o))] rfl hVn (by omega) hBase ?_
            intro v9 W3 hO9 hg9 hat9
            obtain ⟨A9, d9, rfl, _, _, hx1, hx2⟩ := Row.Vals.own hO9
            clear hx1 hx2
            have hK9 := Kept.of_grown hg9
            have hT9 := hK9.has hTe (own_apart hOe (by omega))
            have hM9 := hK9.has hMe hmA
            have hk9 := hKe.grown hg9 (fun k hk => .inr (by have := (own_block hOe k hk).1; omega))
            refine hK.out _ _ ⟨Has.cell hT9 2, hM9.cell 0, hM9.cell 1⟩ (fun hHeld3 => ?_)
            clear hK K
            (try simp only [Act.put, List.setIfInBounds_toArray, List.set_cons_zero, List.set_cons_succ])
            refine Reg.take (i := 9) (v := ?v48) rfl (by kernel_rfl) (by kernel_rfl) (by kernel_rfl) (by rfl) ?hv48 (by assumption) ?rest48
            case hv48 => first | (intro w hSw; (try dsimp only at hSw); go_simp; done) | (intro w hSw; (try dsimp only at hSw); go_simp; with_reducible rfl)
            (try simp only [Act.put, List.setIfInBounds_toArray, List.set_cons_zero, List.set_cons_succ])
            refine Reg.done (by kernel_rfl) ?_ _
            clear hHeld hHeld2 hHeld3 hVn hBase hOe hMe hTe hKe hMd hTd hOd hKd hK9 hM9 hg9 hat9 hmA
            have t2 : W3.cell? ⟨b, 2, none⟩ = some (.int .i64 (sj : Nat)) := Has.cell hT9 2
            have g2 := Has.frozen hT9 2
            have hT5 := Has.set_ hT9 2 (.int .i64 ((sj : Int) + 1))
            have hK5 := hk9.setCell (p := ⟨b, 2, none⟩) (.inl (by simp)) (.int .i64 ((sj : Int) + 1))
            have hO5 := own_kept hO9 ((Kept.refl [b] W3).setCell (p := ⟨b, 2, none⟩) (.inl (by simp)) (.int .i64 ((sj : Int) + 1))) (fun y hy => by simp at hy; omega)
            clear hT9 hk9 hO9
            go_wp2
            go_roundw
            case rel => exact ⟨j + 1, A9, d9, sj + 1, nj + 1, by omega, rfl, by go_num, by have := HSJ.out; omega, by have := HNJ.out; omega, by rw [HST.out]; exact hO5, by simpa [DecIs] using hT5, hK5⟩
            case measure => simp [intOf]; omega
          · have hjL2 : j = L := by omega
            subst hjL2
            rw [List.take_of_length_le (by omega)] at hOr
            clear hTt hOt hKt
            obtain ⟨A9, d9, h9, h91, h92, h93, h94, _⟩ := Row.Vals.own (S := evSh) hOr
            injection h9 with e1 e2 e3
            subst e1 e3
            have HF := Lib.hid (show nj ≤ d2 ∧ d2 ≤ 9223372036854775807 ∧ nj ≤ 33 ∧ Row.Vals evSh wr A2 nj (metT true false last s q ls) ∧ (∀ x, A2 = some x → p ≤ x.block) ∧
                DecIs wr b r bs (s + countL 2 (metT true false last s q ls)) (gp + countL 1 (metT true false last s q ls)) true q (!dIn true last q) ∧ Kept [b] w wr by
              rw [hI, hmet, hc1, hc2, hll]
              exact ⟨h91, h92, by omega, h93, (fun x hx => by have := (h94 x hx).1; omega), by rw [← hsj]; exact hTr, hKr⟩)
            clear hI hmet hc1 hc2 hsj hnj h91 h92 h93 h94 hOr hTr hKr
            go_wp2
            go_ret
            exact ⟨_, _, _, rfl, HF.out⟩
      | true =>
        go_enter Try.func23, Try.ntmps23
        go_wp2
        go_quiet ((go_at_call 38; exact Calls.quiet_of (hnxt _)))
        go_wp2
        obtain ⟨w0, hw0⟩ : ∃ W, W = (w.alloc (.cells #[.int .u8 (q : Nat), .slice A L c] 52)).drewN nq := ⟨_, rfl⟩
        rw [← hw0]
        have hk0 : Kept [] w w0 := by rw [hw0]; exact hkA.drewN nq
        have hT0 := show DecIs w0 b r bs s gp _ last _ from (by rw [hw0]; exact Has.drewN hTA nq)
        have hP0 : Has w0 p 52 #[.int .u8 (q : Nat), .slice A L c] := by rw [hw0]; exact hPA.drewN nq
        clear hw0 hkA hTA hPA c4 c5 c6 p0 f4 f5 f6 hnxt h
        refine Reg.begin_ (S := fun W => W.cell? ⟨p, 0, none⟩ = some (.int .u8 (q : Nat))) (by kernel_rfl) (by exact hP0.cell 0) (fun hHeld => ?_)
        have hTd := show DecIs w0.drew b r bs s gp _ last _ from Has.drew hT0
        have hPd : Has w0.drew p 52 #[.int .u8 (q : Nat), .slice A L c] := hP0
        have hKd : Kept [] w w0.drew := hk0.drewN 1
        generalize w0.drew = wd at *
        clear hk0 hT0 hP0
        refine Reg.take (i := 0) (v := ?v49) rfl (by kernel_rfl) (by kernel_rfl) (by kernel_rfl) (by rfl) ?hv49 (by assumption) ?rest49
        case hv49 => first | (intro w hSw; (try dsimp only at hSw); go_simp; done) | (intro w hSw; (try dsimp only at hSw); go_simp; with_reducible rfl)
        (try simp only [Act.put, List.setIfInBounds_toArray, List.set_cons_zero, List.set_cons_succ])
        refine Reg.take (i := 1) (v := ?v50) rfl (by kernel_rfl) (by kernel_rfl) (by kernel_rfl) (by rfl) ?hv50 (by assumption) ?rest50
        case hv50 => first | (intro w hSw; (try dsimp only at hSw); go_simp; done) | (intro w hSw; (try dsimp only at hSw); go_simp; with_reducible rfl)
        (try simp only [Act.put, List.setIfInBounds_toArray, List.set_cons_zero, List.set_cons_succ])
        refine Reg.take (i := 2) (v := ?v51) rfl (by kernel_rfl) (by kernel_rfl) (by kernel_rfl) (by rfl) ?hv51 (by assumption) ?rest51
        case hv51 => first | (intro w hSw; (try dsimp only at hSw); go_simp; done) | (intro w hSw; (try dsimp only at hSw); go_simp; with_reducible rfl)
        (try simp only [Act.put, List.setIfInBounds_toArray, List.set_cons_zero, List.set_cons_succ])
        refine Reg.take (i := 3) (v := ?v52) rfl (by kernel_rfl) (by kernel_rfl) (by kernel_rfl) (by rfl) ?hv52 (by assumption) ?rest52
        case hv52 => first | (intro w hSw; (try dsimp only at hSw); go_simp; done) | (intro w hSw; (try dsimp only at hSw); go_simp; with_reducible rfl)
        (try simp only [Act.put, List.setIfInBounds_toArray, List.set_cons_zero, List.set_cons_succ])
        refine Reg.take (i := 4) (v := ?v53) rfl (by kernel_rfl) (by kernel_rfl) (by kernel_rfl) (by rfl) ?hv53 (by assumption) ?rest53
        case hv53 => first | (intro w hSw; (try dsimp only at hSw); go_simp; done) | (intro w hSw; (try dsimp only at hSw); go_simp; with_reducible rfl)
        (try simp only [Act.put, List.setIfInBounds_toArray, List.set_cons_zero, List.set_cons_succ])
        refine Reg.take (i := 5) (v := ?v54) rfl (by kernel_rfl) (by kernel_rfl) (by kernel_rfl) (by rfl) ?hv54 (by assumption) ?rest54
        case hv54 => first | (intro w hSw; (try dsimp only at hSw); go_simp; done) | (intro w hSw; (try dsimp only at hSw); go_simp; with_reducible rfl)
        (try simp only [Act.put, List.setIfInBounds_toArray, List.set_cons_zero, List.set_cons_succ])
        have t4 := Has.cell hTd 4
        have g4 := Has.frozen hTd 4
        refine Reg.call (i := 6) rfl (by kernel_rfl) (by rfl) ?_
        intro K hK
        go_simp
        have hT1 := Has.set_ hTd 4 (.bool true)
        have hP1 := hPd.far (p := ⟨b, 4, none⟩) (by show p ≠ b; omega) (.bool true)
        have hK1 := (hKd.wide (T := [b]) (by simp)).setCell (p := ⟨b, 4, none⟩) (.inl (by simp)) (.bool true)
        refine hK.out _ _ (hP1.cell 0) (fun hHeld2 => ?_)
        clear hK K
        (try simp only [Act.put, List.setIfInBounds_toArray, List.set_cons_zero, List.set_cons_succ])
        refine Reg.take (i := 7) (v := ?v55) rfl (by kernel_rfl) (by kernel_rfl) (by kernel_rfl) (by rfl) ?hv55 (by assumption) ?rest55
        case hv55 => first | (intro w hSw; (try dsimp only at hSw); go_simp; done) | (intro w hSw; (try dsimp only at hSw); go_simp; with_reducible rfl)
        (try simp only [Act.put, List.setIfInBounds_toArray, List.set_cons_zero, List.set_cons_succ])
        refine Reg.take (i := 8) (v := ?v56) rfl (by kernel_rfl) (by kernel_rfl) (by kernel_rfl) (by rfl) ?hv56 (by assumption) ?rest56
        case hv56 => first | (intro w hSw; (try dsimp only at hSw); go_simp; done) | (intro w hSw; (try dsimp only at hSw); go_simp; with_reducible rfl)
        (try simp only [Act.put, List.setIfInBounds_toArray, List.set_cons_zero, List.set_cons_succ])
        have t5 := hT1.cell 5
        have g5 := hT1.frozen 5
        refine Reg.call (i := 9) rfl (by kernel_rfl) (by rfl) ?_
        intro K hK
        go_simp
        have hT2 := hT1.set_ 5 (.int .u8 (q : Nat))
        have hP2 := hP1.far (p := ⟨b, 5, none⟩) (by show p ≠ b; omega) (.int .u8 (q : Nat))
        have hK2 := hK1.setCell (p := ⟨b, 5, none⟩) (.inl (by simp)) (.int .u8 (q : Nat))
        refine hK.out _ _ (hP2.cell 0) (fun hHeld3 => ?_)
        clear hK K
        (try simp only [Act.put, List.setIfInBounds_toArray, List.set_cons_zero, List.set_cons_succ])
        refine Reg.done (by kernel_rfl) ?_ _
        clear t4 g4 t5 g5 hHeld hHeld2 hHeld3
        have hTb : DecIs ((wd.setCell ⟨b, 4, none⟩ (.bool true)).setCell ⟨b, 5, none⟩ (.int .u8 (q : Nat))) b r bs s gp true q true := by simpa [DecIs] using hT2
        generalize (wd.setCell ⟨b, 4, none⟩ (.bool true)).setCell ⟨b, 5, none⟩ (.int .u8 (q : Nat)) = wb at *
        clear hTd hPd hKd hT1 hP1 hK1 hT2
        clear wd
        have t2 : wb.cell? ⟨b, 2, none⟩ = some (.int .i64 (s : Nat)) := Has.cell hTb 2
        have t6 : wb.cell? ⟨b, 6, none⟩ = some (.bool true) := Has.cell hTb 6
        have g6 := Has.frozen hTb 6
        have hTc : DecIs (wb.setCell ⟨b, 6, none⟩ (.bool false)) b r bs s gp true q false := by have := Has.set_ hTb 6 (.bool false); simpa [DecIs] using this
        have hTn := Has.alloc hTc (.cells #[.int .i64 1, .int .i64 (s : Nat), .int .i32 0, .bool false] 46)
        have hPn := (hP2.far (p := ⟨b, 6, none⟩) (by show p ≠ b; omega) (.bool false)).alloc (.cells #[.int .i64 1, .int .i64 (s : Nat), .int .i32 0, .bool false] 46)
        have hKn := (hK2.setCell (p := ⟨b, 6, none⟩) (.inl (by simp)) (.bool false)).alloc (.cells #[.int .i64 1, .int .i64 (s : Nat), .int .i32 0, .bool false] 46)
        have hVn : Row.Vals evSh ((wb.setCell ⟨b, 6, none⟩ (.bool false)).alloc (.cells #[.int .i64 1, .int .i64 (s : Nat), .int .i32 0, .bool false] 46)) (some ⟨wb.heap.size, 0, none⟩) 1 [(1, s, (0, false))] := by
          have := one_new (wb.setCell ⟨b, 6, none⟩ (.bool false)) 46 (1, s, (0, false))
          rw [World.size_setCell] at this
          exact this
        have hBase : p + 1 ≤ ((wb.setCell ⟨b, 6, none⟩ (.bool false)).alloc (.cells #[.int .i64 1, .int .i64 (s : Nat), .int .i32 0, .bool false] 46)).heap.size := hPn.lt
        have hO0 := Row.own_none (S := evSh) ((wb.setCell ⟨b, 6, none⟩ (.bool false)).alloc (.cells #[.int .i64 1, .int .i64 (s : Nat), .int .i32 0, .bool false] 46)) (p + 1) 46
        have hgz : 0 ≤ (gp : Int) ∧ (gp : Int) ≤ 300000 := by omega
        have hmet : metT true true last s q ls = [(1, s, (0, false))] ++ evS s ls := by unfold metT; rw [hI]; rfl
        have hc1 : countL 2 ([(1, s, (0, false))] ++ evS s ls) = ls.length := by rw [countL_append, (count_evS s ls).1]; show 0 + _ = _; omega
        have hc2 : countL 1 ([(1, s, (0, false))] ++ evS s ls) = 1 := by rw [countL_append, (count_evS s ls).2]; rfl
        go_wp2_with (at_builtin; refine Row.wpList_append (S := evSh) rfl (.tmp 44) (.tmp 50) _ rfl (p + 1) 46 _ 24 (by omega) Try.underlying27 HInfo.out (by kernel_rfl) (.slice none 0 0) 0 [] rfl (by exact hO0) _ 1 1 [(1, s, (0, false))] rfl (by exact hVn) (by omega) (by exact hBase) ?_; intro v9 W3 hO9 hg9 hat9; have hK9 := (Kept.of_grown hg9); have hT9 := (hK9.has hTn (own_apart hO0 (by omega))); have hP9 := (hK9.has hPn (own_apart hO0 (by omega))); have hk9 := (hKn.grown hg9 (fun k hk => by cases hk)); have t3 := (Has.cell hT9 3); have g3 := (Has.frozen hT9 3); have p1 := (hP9.cell 1); obtain ⟨A9, d9, rfl, h91, h92, h93, h94⟩ := (Row.Vals.own hO9))
        have hTt : DecIs (W3.setCell ⟨b, 3, none⟩ (.int .i64 ((gp : Int) + 1))) b r bs s (gp + 1) true q false := by have := Has.set_ hT9 3 (.int .i64 ((gp : Int) + 1)); simpa [DecIs] using this
        have hOt := own_kept hO9 ((Kept.refl [b] W3).setCell (p := ⟨b, 3, none⟩) (.inl (by simp)) (.int .i64 ((gp : Int) + 1))) (fun y hy => by simp at hy; omega)
        have hKt := hk9.setCell (p := ⟨b, 3, none⟩) (.inl (by simp)) (.int .i64 ((gp : Int) + 1))
        clear hO9 hg9 hat9 hK9 hT9 hP9 hk9 t3 g3 p1 h91 h92 h93 h94 hTn hPn hKn hVn hBase hO0 hTc
        generalize W3.setCell ⟨b, 3, none⟩ (.int .i64 ((gp : Int) + 1)) = wt at *
        clear hP2 hK2 hTb
        go_loopw [6, 62] (fun v i wr => ∃ (j : Nat) (A2 : Option Addr) (d2 sj nj : Nat), j ≤ L ∧ v = .slice A2 nj d2 ∧ i = .int .i64 (j : Nat) ∧ sj = s + j ∧ nj = 1 + j ∧ wr.ownsRow (p + 1) 46 4 (.slice A2 nj d2) nj (Row.flat evSh ([(1,s,(0,false))] ++ evS s (ls.take j))) ∧ DecIs wr b r bs sj (gp+1) true q false ∧ Kept [b] w wr) (fun _ i _ => L - (intOf i).toNat)
        case atStart => exact ⟨0, _, _, _, _, by omega, rfl, rfl, rfl, rfl, by rw [List.take_zero]; show World.ownsRow _ _ _ 4 _ _ (Row.flat evSh ([(1,s,(0,false))] ++ [])); rw [List.append_nil]; exact hOt, hTt, hKt⟩
        case round =>
          obtain ⟨j, A2, d2, sj, nj, hj, rfl, rfl, hsj, hnj, hOr, hTr, hKr⟩ := hrel
          by_cases hjL : j < L
          · obtain ⟨x, rfl, _⟩ := hv.cells (by omega)
            have hvr := hv.kept hKr (fun _ y hy => by simpa using hfar y hy)
            obtain ⟨m0, m1⟩ := samp_cells hvr j hjL
            have hstp : evS s (ls.take (j + 1)) = evS s (ls.take j) ++ [(2, s + j, ls.getD j (0, false))] := by
              rw [take_step ls (0, false) j (by omega), evS_append, List.length_take, Nat.min_eq_left (by omega)]; rfl
            obtain ⟨⟨z, o⟩, hzo⟩ : ∃ q, ls.getD j (0, false) = q := ⟨_, rfl⟩
            rw [hzo, ← hsj] at hstp
            rw [hzo] at m0 m1
            dsimp only at m0 m1
            obtain ⟨E, hE⟩ : ∃ E, E = [(1,s,(0,false))] ++ evS s (ls.take j) := ⟨_, rfl⟩
            have HST := Lib.hid (show [(1,s,(0,false))] ++ evS s (ls.take (j + 1)) = E ++ [(2, sj, (z, o))] by rw [hstp, ← List.append_assoc, hE])
            rw [← hE] at hOr
            have hEl : E.length = nj := by
              rw [hE, List.length_append, evS_length, List.length_take]
              show 1 + _ = _
              omega
            clear hstp hzo hvr hTt hOt hKt hE
            have hsz : 0 ≤ (sj : Int) ∧ (sj : Int) ≤ 300000 := by omega
            have hnj9 : nj ≤ 33 := by omega
            have HSJ := Lib.hid hsj
            have HNJ := Lib.hid hnj
            clear hsj hnj
            go_wp2
            obtain ⟨m, hm⟩ : ∃ m, wr.heap.size = m := ⟨_, rfl⟩
            rw [hm]
            obtain ⟨wa, hwa⟩ : ∃ W, W = wr.alloc (.cells #[.int .i32 z, .bool o] 44) := ⟨_, rfl⟩
            rw [← hwa]
            have hMa : Has wa m 44 #[.int .i32 z, .bool o] := by rw [hwa, ← hm]; exact Has.new wr _ _
            have hTa : DecIs wa b r bs sj (gp+1) true q false := by rw [hwa]; exact Has.alloc hTr _
            have hOa : wa.ownsRow (p + 1) 46 4 (.slice A2 nj d2) nj (Row.flat evSh E) := by rw [hwa]; exact own_kept hOr ((Kept.refl [] wr).alloc _) (by simp)
            have hKa : Kept [b] w wa := by rw [hwa]; exact hKr.alloc _
            have hmA : m ∉ (Value.slice A2 nj d2).ownBlock.toList := fun hmem => by
              have := (own_block hOr m (by simpa using hmem)).2
              omega
            have hmb : m ≠ b := by have := Has.lt hTr; omega
            clear hwa hTr hOr hKr m0 m1
            refine Reg.begin_ (S := fun W => W.cell? ⟨b, 2, none⟩ = some (.int .i64 (sj : Nat)) ∧ W.cell? ⟨m, 0, none⟩ = some (.int .i32 z) ∧ W.cell? ⟨m, 1, none⟩ = some (.bool o)) (by kernel_rfl) (by exact ⟨Has.cell hTa 2, hMa.cell 0, hMa.cell 1⟩) (fun hHeld => ?_)
            have hMd : Has wa.drew m 44 #[.int .i32 z, .bool o] := hMa
            have hTd : DecIs wa.drew b r bs sj (gp+1) true q false := Has.drew hTa
            have hOd : wa.drew.ownsRow (p + 1) 46 4 (.slice A2 nj d2) nj (Row.flat evSh E) := own_kept hOa ((Kept.refl [] wa).drewN 1) (by simp)
            have hKd : Kept [b] w wa.drew := hKa.drewN 1
            generalize wa.drew = wd at *
            clear hMa hTa hOa hKa
            clear wa
            refine Reg.take (i := 0) (v := ?v57) rfl (by kernel_rfl) (by kernel_rfl) (by kernel_rfl) (by rfl) ?hv57 (by assumption) ?rest57
            case hv57 => first | (intro w hSw; (try dsimp only at hSw); go_simp; done) | (intro w hSw; (try dsimp only at hSw); go_simp; with_reducible rfl)
            (try simp only [Act.put, List.setIfInBounds_toArray, List.set_cons_zero, List.set_cons_succ])
            refine Reg.take (i := 1) (v := ?v58) rfl (by kernel_rfl) (by kernel_rfl) (by kernel_rfl) (by rfl) ?hv58 (by assumption) ?rest58
            case hv58 => first | (intro w hSw; (try dsimp only at hSw); go_simp; done) | (intro w hSw; (try dsimp only at hSw); go_simp; with_reducible rfl)
            (try simp only [Act.put, List.setIfInBounds_toArray, List.set_cons_zero, List.set_cons_succ])
            refine Reg.take (i := 2) (v := ?v59) rfl (by kernel_rfl) (by kernel_rfl) (by kernel_rfl) (by rfl) ?hv59 (by assumption) ?rest59
            case hv59 => first | (intro w hSw; (try dsimp only at hSw); go_simp; done) | (intro w hSw; (try dsimp only at hSw); go_simp; with_reducible rfl)
            (try simp only [Act.put, List.setIfInBounds_toArray, List.set_cons_zero, List.set_cons_succ])
            refine Reg.take (i := 3) (v := ?v60) rfl (by kernel_rfl) (by kernel_rfl) (by kernel_rfl) (by rfl) ?hv60 (by assumption) ?rest60
            case hv60 => first | (intro w hSw; (try dsimp only at hSw); go_simp; done) | (intro w hSw; (try dsimp only at hSw); go_simp; with_reducible rfl)
            (try simp only [Act.put, List.setIfInBounds_toArray, List.set_cons_zero, List.set_cons_succ])
            refine Reg.take (i := 4) (v := ?v61) rfl (by kernel_rfl) (by kernel_rfl) (by kernel_rfl) (by rfl) ?hv61 (by assumption) ?rest61
            case hv61 => first | (intro w hSw; (try dsimp only at hSw); go_simp; done) | (intro w hSw; (try dsimp only at hSw); go_simp; with_reducible rfl)
            (try simp only [Act.put, List.setIfInBounds_toArray, List.set_cons_zero, List.set_cons_succ])
            refine Reg.take (i := 5) (v := ?v62) rfl (by kernel_rfl) (by kernel_rfl) (by kernel_rfl) (by rfl) ?hv62 (by assumption) ?rest62
            case hv62 => first | (intro w hSw; (try dsimp only at hSw); go_simp; done) | (intro w hSw; (try dsimp only at hSw); go_simp; with_reducible rfl)
            (try simp only [Act.put, List.setIfInBounds_toArray, List.set_cons_zero, List.set_cons_succ])
            refine Reg.take (i := 6) (v := ?v63) rfl (by kernel_rfl) (by kernel_rfl) (by kernel_rfl) (by rfl) ?hv63 (by assumption) ?rest63
            case hv63 => first | (intro w hSw; (try dsimp only at hSw); go_simp; done) | (intro w hSw; (try dsimp only at hSw); go_simp; with_reducible rfl)
            (try simp only [Act.put, List.setIfInBounds_toArray, List.set_cons_zero, List.set_cons_succ])
            have hMe := hMd.alloc (.cells #[.int .i64 2, .int .i64 (sj : Nat), .int .i32 z, .bool o] 46)
            have hTe := Has.alloc hTd (.cells #[.int .i64 2, .int .i64 (sj : Nat), .int .i32 z, .bool o] 46)
            have hOe := own_kept hOd ((Kept.refl [] wd).alloc (.cells #[.int .i64 2, .int .i64 (sj : Nat), .int .i32 z, .bool o] 46)) (by simp)
            have hKe := hKd.alloc (.cells #[.int .i64 2, .int .i64 (sj : Nat), .int .i32 z, .bool o] 46)
            have hVn : Row.Vals evSh (wd.alloc (.cells #[.int .i64 2, .int .i64 (sj : Nat), .int .i32 z, .bool o] 46)) (some ⟨wd.heap.size, 0, none⟩) 1 [(2,sj,(z,o))] := one_new wd 46 (2, sj, (z, o))
            have hBase : p + 1 ≤ (wd.alloc (.cells #[.int .i64 2, .int .i64 (sj : Nat), .int .i32 z, .bool o] 46)).heap.size := by rw [World.size_alloc]; have := hKd.size; omega
            refine Reg.call (i := 7) rfl (by kernel_rfl) (by rfl) ?_
            intro K hK
            go_simp
            refine hK.out _ _ ⟨Has.cell hTe 2, hMe.cell 0, hMe.cell 1⟩ (fun hHeld2 => ?_)
            clear hK K
            (try simp only [Act.put, List.setIfInBounds_toArray, List.set_cons_zero, List.set_cons_succ])
            refine Reg.call (i := 8) rfl (by kernel_rfl) (by rfl) ?_
            intro K hK
            refine Row.wp_append (S := evSh) (.tmp 66) (.tmp 73) _ rfl (p + 1) 46 _ 24 (by omega) Try.underlying27 HInfo.out (by kernel_rfl) (.slice A2 nj d2) nj E rfl hOe (some ⟨wd.heap.size, 0, none⟩) 1 1 [(2,sj,(z,o))] rfl hVn (by omega) hBase ?_
            intro v9 W3 hO9 hg9 hat9
            obtain ⟨A9, d9, rfl, _, _, hx1, hx2⟩ := Row.Vals.own hO9
            clear hx1 hx2
            have hK9 := Kept.of_grown hg9
            have hT9 := hK9.has hTe (own_apart hOe (by omega))
            have hM9 := hK9.has hMe hmA
            have hk9 := hKe.grown hg9 (fun k hk => .inr (by have := (own_block hOe k hk).1; omega))
            refine hK.out _ _ ⟨Has.cell hT9 2, hM9.cell 0, hM9.cell 1⟩ (fun hHeld3 => ?_)
            clear hK K
            (try simp only [Act.put, List.setIfInBounds_toArray, List.set_cons_zero, List.set_cons_succ])
            refine Reg.take (i := 9) (v := ?v64) rfl (by kernel_rfl) (by kernel_rfl) (by kernel_rfl) (by rfl) ?hv64 (by assumption) ?rest64
            case hv64 => first | (intro w hSw; (try dsimp only at hSw); go_simp; done) | (intro w hSw; (try dsimp only at hSw); go_simp; with_reducible rfl)
            (try simp only [Act.put, List.setIfInBounds_toArray, List.set_cons_zero, List.set_cons_succ])
            refine Reg.done (by kernel_rfl) ?_ _
            clear hHeld hHeld2 hHeld3 hVn hBase hOe hMe hTe hKe hMd hTd hOd hKd hK9 hM9 hg9 hat9 hmA
            have t2 : W3.cell? ⟨b, 2, none⟩ = some (.int .i64 (sj : Nat)) := Has.cell hT9 2
            have g2 := Has.frozen hT9 2
            have hT5 := Has.set_ hT9 2 (.int .i64 ((sj : Int) + 1))
            have hK5 := hk9.setCell (p := ⟨b, 2, none⟩) (.inl (by simp)) (.int .i64 ((sj : Int) + 1))
            have hO5 := own_kept hO9 ((Kept.refl [b] W3).setCell (p := ⟨b, 2, none⟩) (.inl (by simp)) (.int .i64 ((sj : Int) + 1))) (fun y hy => by simp at hy; omega)
            clear hT9 hk9 hO9
            go_wp2
            go_roundw
            case rel => exact ⟨j + 1, A9, d9, sj + 1, nj + 1, by omega, rfl, by go_num, by have := HSJ.out; omega, by have := HNJ.out; omega, by rw [HST.out]; exact hO5, by simpa [DecIs] using hT5, hK5⟩
            case measure => simp [intOf]; omega
          · have hjL2 : j = L := by omega
            subst hjL2
            rw [List.take_of_length_le (by omega)] at hOr
            clear hTt hOt hKt
            obtain ⟨A9, d9, h9, h91, h92, h93, h94, _⟩ := Row.Vals.own (S := evSh) hOr
            injection h9 with e1 e2 e3
            subst e1 e3
            have HF := Lib.hid (show nj ≤ d2 ∧ d2 ≤ 9223372036854775807 ∧ nj ≤ 33 ∧ Row.Vals evSh wr A2 nj (metT true true last s q ls) ∧ (∀ x, A2 = some x → p ≤ x.block) ∧
                DecIs wr b r bs (s + countL 2 (metT true true last s q ls)) (gp + countL 1 (metT true true last s q ls)) true q (!dIn true last q) ∧ Kept [b] w wr by
              rw [hI, hmet, hc1, hc2, hll]
              exact ⟨h91, h92, by omega, h93, (fun x hx => by have := (h94 x hx).1; omega), by rw [← hsj]; exact hTr, hKr⟩)
            clear hI hmet hc1 hc2 hsj hnj h91 h92 h93 h94 hOr hTr hKr
            go_wp2
            go_ret
            exact ⟨_, _, _, rfl, HF.out⟩
    · have hI : dIn true last q = false := by simp [dIn, hq1, hqn]
      have hqz : ((q : Int) == (q1 : Int)) = false := by simp; omega
      go_enter Try.func23, Try.ntmps23
      go_wp2
      go_quiet ((go_at_call 38; exact Calls.quiet_of (hnxt _)))
      go_wp2
      obtain ⟨w0, hw0⟩ : ∃ W, W = (w.alloc (.cells #[.int .u8 (q : Nat), .slice A L c] 52)).drewN nq := ⟨_, rfl⟩
      rw [← hw0]
      have hk0 : Kept [] w w0 := by rw [hw0]; exact hkA.drewN nq
      have hT0 := show DecIs w0 b r bs s gp _ last _ from (by rw [hw0]; exact Has.drewN hTA nq)
      have hP0 : Has w0 p 52 #[.int .u8 (q : Nat), .slice A L c] := by rw [hw0]; exact hPA.drewN nq
      clear hw0 hkA hTA hPA c4 c5 c6 p0 f4 f5 f6 hnxt h
      refine Reg.begin_ (S := fun W => W.cell? ⟨p, 0, none⟩ = some (.int .u8 (q : Nat))) (by kernel_rfl) (by exact hP0.cell 0) (fun hHeld => ?_)
      have hTd := show DecIs w0.drew b r bs s gp _ last _ from Has.drew hT0
      have hPd : Has w0.drew p 52 #[.int .u8 (q : Nat), .slice A L c] := hP0
      have hKd : Kept [] w w0.drew := hk0.drewN 1
      generalize w0.drew = wd at *
      clear hk0 hT0 hP0
      refine Reg.take (i := 0) (v := ?v65) rfl (by kernel_rfl) (by kernel_rfl) (by kernel_rfl) (by rfl) ?hv65 (by assumption) ?rest65
      case hv65 => first | (intro w hSw; (try dsimp only at hSw); go_simp; done) | (intro w hSw; (try dsimp only at hSw); go_simp; with_reducible rfl)
      (try simp only [Act.put, List.setIfInBounds_toArray, List.set_cons_zero, List.set_cons_succ])
      refine Reg.take (i := 1) (v := ?v66) rfl (by kernel_rfl) (by kernel_rfl) (by kernel_rfl) (by rfl) ?hv66 (by assumption) ?rest66
      case hv66 => first | (intro w hSw; (try dsimp only at hSw); go_simp; done) | (intro w hSw; (try dsimp only at hSw); go_simp; with_reducible rfl)
      (try simp only [Act.put, List.setIfInBounds_toArray, List.set_cons_zero, List.set_cons_succ])
      refine Reg.take (i := 2) (v := ?v67) rfl (by kernel_rfl) (by kernel_rfl) (by kernel_rfl) (by rfl) ?hv67 (by assumption) ?rest67
      case hv67 => first | (intro w hSw; (try dsimp only at hSw); go_simp; done) | (intro w hSw; (try dsimp only at hSw); go_simp; with_reducible rfl)
      (try simp only [Act.put, List.setIfInBounds_toArray, List.set_cons_zero, List.set_cons_succ])
      refine Reg.take (i := 3) (v := ?v68) rfl (by kernel_rfl) (by kernel_rfl) (by kernel_rfl) (by rfl) ?hv68 (by assumption) ?rest68
      case hv68 => first | (intro w hSw; (try dsimp only at hSw); go_simp; done) | (intro w hSw; (try dsimp only at hSw); go_simp; with_reducible rfl)
      (try simp only [Act.put, List.setIfInBounds_toArray, List.set_cons_zero, List.set_cons_succ])
      refine Reg.take (i := 4) (v := ?v69) rfl (by kernel_rfl) (by kernel_rfl) (by kernel_rfl) (by rfl) ?hv69 (by assumption) ?rest69
      case hv69 => first | (intro w hSw; (try dsimp only at hSw); go_simp; done) | (intro w hSw; (try dsimp only at hSw); go_simp; with_reducible rfl)
      (try simp only [Act.put, List.setIfInBounds_toArray, List.set_cons_zero, List.set_cons_succ])
      refine Reg.take (i := 5) (v := ?v70) rfl (by kernel_rfl) (by kernel_rfl) (by kernel_rfl) (by rfl) ?hv70 (by assumption) ?rest70
      case hv70 => first | (intro w hSw; (try dsimp only at hSw); go_simp; done) | (intro w hSw; (try dsimp only at hSw); go_simp; with_reducible rfl)
      (try simp only [Act.put, List.setIfInBounds_toArray, List.set_cons_zero, List.set_cons_succ])
      have t4 := Has.cell hTd 4
      have g4 := Has.frozen hTd 4
      refine Reg.call (i := 6) rfl (by kernel_rfl) (by rfl) ?_
      intro K hK
      go_simp
      have hT1 := Has.set_ hTd 4 (.bool true)
      have hP1 := hPd.far (p := ⟨b, 4, none⟩) (by show p ≠ b; omega) (.bool true)
      have hK1 := (hKd.wide (T := [b]) (by simp)).setCell (p := ⟨b, 4, none⟩) (.inl (by simp)) (.bool true)
      refine hK.out _ _ (hP1.cell 0) (fun hHeld2 => ?_)
      clear hK K
      (try simp only [Act.put, List.setIfInBounds_toArray, List.set_cons_zero, List.set_cons_succ])
      refine Reg.take (i := 7) (v := ?v71) rfl (by kernel_rfl) (by kernel_rfl) (by kernel_rfl) (by rfl) ?hv71 (by assumption) ?rest71
      case hv71 => first | (intro w hSw; (try dsimp only at hSw); go_simp; done) | (intro w hSw; (try dsimp only at hSw); go_simp; with_reducible rfl)
      (try simp only [Act.put, List.setIfInBounds_toArray, List.set_cons_zero, List.set_cons_succ])
      refine Reg.take (i := 8) (v := ?v72) rfl (by kernel_rfl) (by kernel_rfl) (by kernel_rfl) (by rfl) ?hv72 (by assumption) ?rest72
      case hv72 => first | (intro w hSw; (try dsimp only at hSw); go_simp; done) | (intro w hSw; (try dsimp only at hSw); go_simp; with_reducible rfl)
      (try simp only [Act.put, List.setIfInBounds_toArray, List.set_cons_zero, List.set_cons_succ])
      have t5 := hT1.cell 5
      have g5 := hT1.frozen 5
      refine Reg.call (i := 9) rfl (by kernel_rfl) (by rfl) ?_
      intro K hK
      go_simp
      have hT2 := hT1.set_ 5 (.int .u8 (q : Nat))
      have hP2 := hP1.far (p := ⟨b, 5, none⟩) (by show p ≠ b; omega) (.int .u8 (q : Nat))
      have hK2 := hK1.setCell (p := ⟨b, 5, none⟩) (.inl (by simp)) (.int .u8 (q : Nat))
      refine hK.out _ _ (hP2.cell 0) (fun hHeld3 => ?_)
      clear hK K
      (try simp only [Act.put, List.setIfInBounds_toArray, List.set_cons_zero, List.set_cons_succ])
      refine Reg.done (by kernel_rfl) ?_ _
      clear t4 g4 t5 g5 hHeld hHeld2 hHeld3
      have hTb : DecIs ((wd.setCell ⟨b, 4, none⟩ (.bool true)).setCell ⟨b, 5, none⟩ (.int .u8 (q : Nat))) b r bs s gp true q br := by simpa [DecIs] using hT2
      generalize (wd.setCell ⟨b, 4, none⟩ (.bool true)).setCell ⟨b, 5, none⟩ (.int .u8 (q : Nat)) = wb at *
      clear hTd hPd hKd hT1 hP1 hK1 hT2
      clear wd
      have t6 : wb.cell? ⟨b, 6, none⟩ = some (.bool br) := Has.cell hTb 6
      have g6 := Has.frozen hTb 6
      have hm : metT true br last s q ls = [] := by unfold metT; rw [hI]; rfl
      
      go_wp2
      go_ret
      have hT3 := Has.set_ hTb 6 (.bool true)
      rw [hm, hI]
      exact ⟨none, 0, 0, rfl, Nat.le_refl _, by omega, by omega, Row.Vals.none_ _, (fun x hx => by cases hx), by simpa [DecIs, countL] using hT3, hK2.setCell (p := ⟨b, 6, none⟩) (.inl (by simp)) _⟩
end Go.Proofs.Ytfimgkomfnfjkaa.Par
end
section
/- frame's flagFault: is a sample's first byte neither 0 nor 1? -/
set_option linter.unusedSimpArgs false
set_option linter.unusedVariables false
namespace Go.Proofs.Ytfimgkomfnfjkaa.Frm
open Go.RowKit Go.Shelf RU8 Chunk

attribute [local go_sem] Oper.semAt_some

/-- Does the chunk with this number begin with a byte that is no flag? -/
def BadAt (ys : List Nat) (k : Nat) : Prop := 1 < ys.getD (3 * k) 0
open Classical in
noncomputable def flagsE (ys : List Nat) : Int := if ∃ k, k < chunks ys.length ∧ BadAt ys k then 62 else 0
theorem chunk_pos {len : Nat} (k : Fin (chunks len)) : 3 * k.1 < len ∧ 0 < size len k.1 ∧ size len k.1 ≤ 3 := by
  have := k.2
  unfold chunks at this
  unfold size
  omega
set_option maxRecDepth 100000 in
set_option maxHeartbeats 2000000 in
theorem flags_any (A : Option Addr) (len cap : Nat) (ys : List Nat) (w : World) (hv : Vals w A len ys) (hlc : len ≤ cap) (hbig : cap ≤ 9223372036854775807) (hl : len ≤ 1000) :
    Calls Try.prog 35 #[.slice A len cap] w fun e w' => e = .returned (.int .i64 (flagsE ys)) ∧ Below w.heap.size w w' := by
  have hlen := hv.len_
  have hA : 0 < len → ∃ x, A = some x := fun h => by obtain ⟨x, hx, _⟩ := hv.cells h; exact ⟨x, hx⟩
  have hbad : ∀ k : Fin (chunks len), BadAt ys k.1 → flagsE ys = 62 := fun k hk => by unfold flagsE; rw [if_pos ⟨k.1, by rw [hlen]; exact k.2, hk⟩]
  have hgood : (∀ k : Fin (chunks len), ¬ BadAt ys k.1) → flagsE ys = 0 := fun h => by
    unfold flagsE
    rw [if_neg]
    rintro ⟨k, hk, hb⟩
    exact h ⟨k, by rw [← hlen]; exact hk⟩ hb
  have HBad := Lib.hid hbad
  have HGood := Lib.hid hgood
  clear hbad hgood
  refine (callsIn_wide (n := 3)).1 ?_
  refine callsIn_of_wp_marks Try.func35 rfl trivial ?_ rfl
  simp only [Try.ntmps35, List.size_toArray, List.length_cons, List.length_nil, Nat.reduceAdd, Nat.reduceSub, Array.replicate_succ, Array.replicate_zero, List.push_toArray, List.append_toArray, List.nil_append, List.cons_append]
  gi_wp2_with (refine ⟨trivial, ?_⟩; gi_at_call 45; refine (Chunk.chunk_in _ _ _ _ _).mono ?_; rintro e w' ⟨rfl, rfl⟩)
  have bR := Boxed.new w 38 (.int .i64 0)
  have bS := Boxed.new (w.alloc (.cells #[.int .i64 0] 38)) 25 (.slice A len cap)
  have bN := Boxed.new ((w.alloc (.cells #[.int .i64 0] 38)).alloc (.cells #[.slice A len cap] 25)) 3 (.int .i64 3)
  simp only [World.size_alloc] at bS bN
  have hB0 : Below w.heap.size w (((w.alloc (.cells #[.int .i64 0] 38)).alloc (.cells #[.slice A len cap] 25)).alloc (.cells #[.int .i64 3] 3)) := (((Below.refl _ w).alloc (Nat.le_refl _) _).alloc (by simp) _).alloc (by simp; omega) _
  have h12 : 1 ≤ 3 := by decide
  refine wpIn_rangeFunc_ownG (α := Fin (chunks len)) (n := 3) rfl h12 (gf := 49) (lb := #[.pointer (some ⟨w.heap.size + 1, 0, none⟩), .pointer (some ⟨w.heap.size + 1 + 1, 0, none⟩)]) rfl trivial (enters_of Try.func49 (by kernel_rfl) rfl)
    (Chunk.chunk_stops 2 (by decide) (w.heap.size + 1) (w.heap.size + 1 + 1) (w.heap.size + 3) [w.heap.size] A len cap hA hlc hbig (by omega) _ (by omega) (by simp) (by omega) (by simp; omega) (by simp) (by simp) ((bS.alloc _).cell) bN.cell) KeptTo.trans (keptTo_b (by simp)) (Below.refl _ _) (fun _ => rfl)
    (fun (pre : List (Fin (chunks len))) W => ((∀ k ∈ pre, ¬ BadAt ys k.1) ∧ W.cell? ⟨w.heap.size, 0, none⟩ = some (.int .i64 0) ∧ W.frozen? ⟨w.heap.size, 0, none⟩ = false) ∧ Below w.heap.size w W)
    (fun c (pre : List (Fin (chunks len))) W => (c = .ret ∧ flagsE ys = 62 ∧ W.cell? ⟨w.heap.size, 0, none⟩ = some (.int .i64 62)) ∧ Below w.heap.size w W)
    (OwnFrom.and (Own.from (fun s A B row hs hg hr => ⟨hs.1, cell_kept hs.2.1 hg hr, (frozen_kept hs.2.1 hg hr).trans hs.2.2⟩) _) (ownFrom_below (Nat.le_refl _) (by simp; omega)))
    (fun c => OwnFrom.and (Own.from (fun s A B row hs hg hr => ⟨hs.1, hs.2.1, cell_kept hs.2.2 hg hr⟩) _) (ownFrom_below (Nat.le_refl _) (by simp; omega)))
    ⟨⟨by simp, ((bR.alloc _).alloc _).cell, ((bR.alloc _).alloc _).frozen⟩, hB0⟩
    (fun (k : Fin (chunks len)) => { tmps := #[.slice A len cap, undef, .pointer (some ⟨w.heap.size, 0, none⟩), chunk A len k.1, .slice A len cap, .func (.func 49) #[] #[.pointer (some ⟨w.heap.size + 1, 0, none⟩), .pointer (some ⟨w.heap.size + 1 + 1, 0, none⟩)], chunk A len k.1, undef, undef, undef, undef], defers := [] }) ?assign ?body ?done ?stop
  case assign =>
    intro l x W K hK
    gi_wp2
    exact hK
  case body =>
    rintro l pre k W ⟨⟨hp, hcr, hfr⟩, hB⟩ _
    obtain ⟨hk1, hk2, hk3⟩ := chunk_pos k
    obtain ⟨x, rfl⟩ := hA (by omega)
    obtain ⟨y, hy, hcs⟩ := (hv.below hB).cells (by omega)
    injection hy with hy
    subst hy
    have hc0 := hcs (3 * k.1) hk1
    have hbk : ∀ v, ys.getD (3 * k.1) 0 = v → (BadAt ys k.1 ↔ 1 < v) := fun v hv => by unfold BadAt; rw [hv]
    unfold chunk
    rw [Option.map_some]
    generalize 3 * k.1 = j at *
    generalize size len k.1 = e at *
    obtain ⟨v, hv0⟩ : ∃ v, ys.getD j 0 = v := ⟨_, rfl⟩
    rw [hv0] at hc0
    have hbk2 := Lib.hid (hbk v hv0)
    clear hbk hcs hv0
    rcases Nat.lt_or_ge 1 v with h1 | h1
    · gi_wp2
      exact ⟨(KeepsOthers.setCell _ _ _).from _, ⟨rfl, HBad.out k (hbk2.out.2 h1), World.cell?_setCell_same' _ _ _ (by rw [hcr]; rfl)⟩, hB.setCell (p := ⟨w.heap.size, 0, none⟩) (Nat.le_refl _) _⟩
    · gi_wp2
      refine ⟨KeepsFrom.refl _ _, KeptTo.refl _ _ _, ⟨fun i hi => ?_, hcr, hfr⟩, hB⟩
      rcases List.mem_append.1 hi with h2 | h2
      · exact hp i h2
      · obtain rfl : i = k := by simpa using h2
        exact fun h3 => by have := hbk2.out.1 h3; omega
  case done =>
    rintro D xs W hD rfl ⟨⟨hne, hcr, hfr⟩, hB⟩ hK
    have hres := Lib.hid (HGood.out fun k => hne k (List.mem_finRange k))
    gi_wp2
    have hK' := (KeepsOthers.setCell W ⟨w.heap.size, 0, none⟩ (.int .i64 0)).same D _ hK rfl
    refine ⟨by simp, .inl ⟨_, _, rfl, run_takeDeferred hK', ?_⟩⟩
    have hc5 := cell_kept (World.cell?_setCell_same' W ⟨w.heap.size, 0, none⟩ (.int .i64 0) (by rw [hcr]; rfl)) (grownBy_putObj' _ D (.deferred none)) (fun r e => by cases e; exact ⟨_, hK', rfl⟩)
    refine ⟨.int .i64 0, ?_, by rw [hres.out], (hB.setCell (p := ⟨w.heap.size, 0, none⟩) (Nat.le_refl _) _).trans (belowK_b (w := w) (Nat.le_refl _) _ D _ _ (by simp at hD; omega) hK' rfl rfl)⟩
    simp [results, Try.results35, go_sem, hc5]
  case stop =>
    rintro D c pre W hD _ ⟨⟨rfl, h62, hcr⟩, hB⟩ hK
    have hres := Lib.hid h62
    clear h62
    gi_wp2
    refine ⟨by simp, .inl ⟨_, _, rfl, run_takeDeferred hK, ?_⟩⟩
    have hc5 := cell_kept hcr (grownBy_putObj' _ D (.deferred none)) (fun r e => by cases e; exact ⟨_, hK, rfl⟩)
    refine ⟨.int .i64 62, ?_, by rw [hres.out], hB.trans (belowK_b (w := w) (Nat.le_refl _) W D _ _ (by simp at hD; omega) hK rfl rfl)⟩
    simp [results, Try.results35, go_sem, hc5]
end Go.Proofs.Ytfimgkomfnfjkaa.Frm
end
section
/- frame's samples: whole samples' bytes, as samples. -/
set_option linter.unusedSimpArgs false
set_option linter.unusedVariables false
namespace Go.Proofs.Ytfimgkomfnfjkaa.Frm
open Go.RowKit Go.Shelf RU8 Chunk

attribute [local go_sem] Oper.semAt_some

theorem wrap_u16_ (n : Int) : IntKind.u16.wrap n = n % 65536 := by simp [IntKind.wrap, IntKind.bits, IntKind.signed]
theorem wrap_i16_ (n : Int) : IntKind.i16.wrap n = (n + 32768) % 65536 - 32768 := by
  simp [IntKind.wrap, IntKind.bits, IntKind.signed]
  omega
theorem val_join {v1 v2 : Nat} (h1 : v1 < 256) (h2 : v2 < 256) : IntKind.i16.wrap (bits .or .u16 (IntKind.u16.wrap (v1 : Int)) (IntKind.u16.wrap (IntKind.u16.wrap (v2 : Int) * 256))) = valT2 v1 v2 := by
  have e1 : IntKind.u16.wrap (v1 : Int) = (v1 : Int) := by rw [wrap_u16_]; omega
  have e2 : IntKind.u16.wrap (IntKind.u16.wrap (v2 : Int) * 256) = (v2 : Int) * 256 := by rw [wrap_u16_, wrap_u16_]; omega
  rw [e1, e2, show bits .or .u16 (v1 : Int) ((v2 : Int) * 256) = bits .or .u16 ((v2 : Int) * 256) (v1 : Int) by simp only [bits, BitVec.or_comm],
    bits_join .u16 16 (by decide) (fun n h0 h1 => by rw [wrap_u16_]; omega) 8 ((v2 : Int) * 256) (v1 : Int) (by omega) (by omega) (by omega) (by omega) (by omega) (by omega), wrap_i16_]
  unfold valT2
  split <;> omega
theorem valT2_range {v1 v2 : Nat} (h1 : v1 < 256) (h2 : v2 < 256) : -32768 ≤ valT2 v1 v2 ∧ valT2 v1 v2 ≤ 32767 := by
  unfold valT2
  split <;> omega
/-- The sample of the chunk with this number. -/
def smp (ys : List Nat) (k : Nat) : Samp := (valT2 (ys.getD (3 * k + 1) 0) (ys.getD (3 * k + 2) 0), decide (ys.getD (3 * k) 0 = 1))
theorem ownFrom_size {β : Type} (B n : Nat) : OwnFrom B (fun (_ : β) W => n ≤ W.heap.size) := fun _ _ _ _ hs hg _ => Nat.le_trans hs hg.size
theorem row_cells {w : World} {base : Nat} {e : TypeId} {size n : Nat} {v : Value} {xs : List Value} (h : w.ownsRow base e size v n xs) : ∀ (j : Nat) (o : Obj), v.ownBlock = some j → w.heap[j]? = some o → o.isCells = true := by
  intro j o hj ho
  rcases h.2 with ⟨rfl, _⟩ | ⟨k, cap, cur, rfl, _, hh, _⟩
  · cases hj
  · injection hj with hj
    have : k = j := hj
    subst this
    rw [hh] at ho
    injection ho with ho
    rw [← ho]
    rfl
set_option maxRecDepth 100000 in
set_option maxHeartbeats 2000000 in
theorem samples_any (A : Option Addr) (m cap : Nat) (ys : List Nat) (w : World) (hv : Vals w A (3 * m) ys) (hb : Bytes ys) (hlc : 3 * m ≤ cap) (hbig : cap ≤ 9223372036854775807) (hl : m ≤ 100) :
    Calls Try.prog 37 #[.slice A (3 * m : Nat) cap] w fun e w' => ∃ v, e = .returned v ∧ w'.ownsRow (w.heap.size + 3) 44 2 v m (Row.flat sampS ((List.range m).map (smp ys))) ∧ Below w.heap.size w w' := by
  have hlen := hv.len_
  obtain ⟨len, hln⟩ : ∃ len, 3 * m = len := ⟨_, rfl⟩
  rw [hln] at hv hlc hlen ⊢
  have hA : 0 < len → ∃ x, A = some x := fun h => by obtain ⟨x, hx, _⟩ := hv.cells h; exact ⟨x, hx⟩
  have hck : chunks len = m := by unfold chunks; omega
  have HLN := Lib.hid hln
  have HCK := Lib.hid hck
  clear hln hck
  refine (callsIn_wide (n := 3)).1 ?_
  refine callsIn_of_wp_marks Try.func37 rfl trivial ?_ rfl
  simp only [Try.ntmps37, List.size_toArray, List.length_cons, List.length_nil, Nat.reduceAdd, Nat.reduceSub, Array.replicate_succ, Array.replicate_zero, List.push_toArray, List.append_toArray, List.nil_append, List.cons_append]
  gi_wp2_with (refine ⟨trivial, ?_⟩; gi_at_call 45; refine (Chunk.chunk_in _ _ _ _ _).mono ?_; rintro e w' ⟨rfl, rfl⟩)
  have bR := Boxed.new w 50 (.slice none 0 0)
  have bS := Boxed.new (w.alloc (.cells #[.slice none 0 0] 50)) 25 (.slice A len cap)
  have bN := Boxed.new ((w.alloc (.cells #[.slice none 0 0] 50)).alloc (.cells #[.slice A len cap] 25)) 3 (.int .i64 3)
  simp only [World.size_alloc] at bS bN
  have hB0 : Below w.heap.size w (((w.alloc (.cells #[.slice none 0 0] 50)).alloc (.cells #[.slice A len cap] 25)).alloc (.cells #[.int .i64 3] 3)) := (((Below.refl _ w).alloc (Nat.le_refl _) _).alloc (by simp) _).alloc (by simp; omega) _
  have h12 : 1 ≤ 3 := by decide
  refine wpIn_rangeFunc_ownG (α := Fin (chunks len)) (n := 3) rfl h12 (gf := 49) (lb := #[.pointer (some ⟨w.heap.size + 1, 0, none⟩), .pointer (some ⟨w.heap.size + 1 + 1, 0, none⟩)]) rfl trivial (enters_of Try.func49 (by kernel_rfl) rfl)
    (Chunk.chunk_stops 2 (by decide) (w.heap.size + 1) (w.heap.size + 1 + 1) (w.heap.size + 3) [w.heap.size] A len cap hA hlc hbig (by have := HLN.out; omega) _ (by omega) (by simp) (by omega) (by simp; omega) (by simp) (by simp) ((bS.alloc _).cell) bN.cell) KeptTo.trans (keptTo_b (by simp)) (Below.refl _ _) (fun _ => rfl)
    (fun (pre : List (Fin (chunks len))) W => (∃ v, Boxed W w.heap.size 50 v ∧ W.ownsRow (w.heap.size + 3) 44 2 v pre.length (Row.flat sampS (pre.map fun k => smp ys k.1)) ∧ True) ∧ Below w.heap.size w W ∧ w.heap.size + 3 ≤ W.heap.size)
    (fun _ (_ : List (Fin (chunks len))) _ => False)
    (OwnFrom.and (Own.from (holdsRow_own (w.heap.size + 3) w.heap.size 50 44 2 (fun pre : List (Fin (chunks len)) => pre.length) (fun pre => Row.flat sampS (pre.map fun k => smp ys k.1)) (fun _ _ => True)) _) (OwnFrom.and (ownFrom_below (Nat.le_refl _) (by simp; omega)) (ownFrom_size _ _)))
    (fun _ _ _ _ _ hs _ _ => hs)
    ⟨⟨_, (bR.alloc _).alloc _, Row.own_none _ _ _, trivial⟩, hB0, by simp⟩
    (fun (k : Fin (chunks len)) => { tmps := #[.slice A len cap, undef, .slice none 0 0, .pointer (some ⟨w.heap.size, 0, none⟩), chunk A len k.1, undef, .slice A len cap, .func (.func 49) #[] #[.pointer (some ⟨w.heap.size + 1, 0, none⟩), .pointer (some ⟨w.heap.size + 1 + 1, 0, none⟩)], chunk A len k.1, undef, undef, undef, undef, undef, undef, undef, undef, undef, undef, undef, undef, undef, undef, undef, undef, undef, undef, undef, undef, undef, undef], defers := [] }) ?assign ?body ?done ?stop
  case assign =>
    intro l x W K hK
    gi_wp2
    exact hK
  case body =>
    rintro l pre k W ⟨⟨v, hbx, hrow, _⟩, hB, hWs⟩ hpre
    obtain ⟨hk1, hk2, hk3⟩ := chunk_pos k
    obtain ⟨x, rfl⟩ := hA (by omega)
    obtain ⟨y, hy, hcs⟩ := (hv.below hB).cells (by omega)
    injection hy with hy
    subst hy
    have hsz : size len k.1 = 3 := by unfold size; have := HLN.out; omega
    have hk3m : 3 * k.1 + 2 < len := by have := HLN.out; omega
    have hc0 := hcs (3 * k.1) hk1
    have hc1 := hcs (3 * k.1 + 1) (by omega)
    have hc2 := hcs (3 * k.1 + 2) (by omega)
    rw [← addr_add] at hc1 hc2
    obtain ⟨x3, hx3⟩ : ∃ x3, x.add (3 * k.1) = x3 := ⟨_, rfl⟩
    have hxl : x3.block < w.heap.size := by
      have := World.block_lt_of_cell? _ _ ((hv.cells (by omega)).choose_spec.2 (3 * k.1) hk1)
      have e := (hv.cells (by omega)).choose_spec.1
      injection e with e
      rw [← e, hx3] at this
      exact this
    unfold chunk
    rw [Option.map_some, hsz]
    rw [hx3] at hc0 hc1 hc2 ⊢
    rw [show x3.add 1 = ⟨x3.block, x3.off + 1, none⟩ by simp [Addr.add]] at hc1
    rw [show x3.add 2 = ⟨x3.block, x3.off + 2, none⟩ by simp [Addr.add]] at hc2
    have hsmp : ∀ a b c, ys.getD (3 * k.1) 0 = a → ys.getD (3 * k.1 + 1) 0 = b → ys.getD (3 * k.1 + 2) 0 = c → smp ys k.1 = (valT2 b c, decide (a = 1)) := fun a b c ha hb hc => by unfold smp; rw [ha, hb, hc]
    have hy0 := hb.at_ (3 * k.1)
    have hy1 := hb.at_ (3 * k.1 + 1)
    have hy2 := hb.at_ (3 * k.1 + 2)
    obtain ⟨v0, hv0⟩ : ∃ v, ys.getD (3 * k.1) 0 = v := ⟨_, rfl⟩
    obtain ⟨v1, hv1⟩ : ∃ v, ys.getD (3 * k.1 + 1) 0 = v := ⟨_, rfl⟩
    obtain ⟨v2, hv2⟩ : ∃ v, ys.getD (3 * k.1 + 2) 0 = v := ⟨_, rfl⟩
    have HS := Lib.hid (hsmp v0 v1 v2 hv0 hv1 hv2)
    rw [hv0] at hc0 hy0
    rw [hv1] at hc1 hy1
    rw [hv2] at hc2 hy2
    clear hcs hsmp hv0 hv1 hv2 hx3 hk1 hk2 hk3 hsz hk3m
    obtain ⟨A', c', rfl, e1, e2, hVo, _⟩ := Row.Vals.own (S := sampS) hrow
    gi_wp2
    refine Reg.beginW (Reg.wide_round l) (S := fun W => W.cell? x3 = some (.int .u8 v0) ∧ W.cell? ⟨x3.block, x3.off + 1, none⟩ = some (.int .u8 v1) ∧ W.cell? ⟨x3.block, x3.off + 2, none⟩ = some (.int .u8 v2)) (by kernel_rfl) (by kernel_rfl) ⟨hc0, hc1, hc2⟩ (fun hHeld => ?_)
    refine Reg.take (i := 0) (v := ?v1) rfl (by kernel_rfl) (by kernel_rfl) (by kernel_rfl) (by rfl) ?hv1 (by assumption) ?rest1
    case hv1 => first | (intro w hSw; (try dsimp only at hSw); go_simp; done) | (intro w hSw; (try dsimp only at hSw); go_simp; with_reducible rfl)
    (try simp only [Act.put, List.setIfInBounds_toArray, List.set_cons_zero, List.set_cons_succ])
    refine Reg.take (i := 1) (v := ?v2) rfl (by kernel_rfl) (by kernel_rfl) (by kernel_rfl) (by rfl) ?hv2 (by assumption) ?rest2
    case hv2 => first | (intro w hSw; (try dsimp only at hSw); go_simp; done) | (intro w hSw; (try dsimp only at hSw); go_simp; with_reducible rfl)
    (try simp only [Act.put, List.setIfInBounds_toArray, List.set_cons_zero, List.set_cons_succ])
    refine Reg.take (i := 2) (v := ?v3) rfl (by kernel_rfl) (by kernel_rfl) (by kernel_rfl) (by rfl) ?hv3 (by assumption) ?rest3
    case hv3 => first | (intro w hSw; (try dsimp only at hSw); go_simp; done) | (intro w hSw; (try dsimp only at hSw); go_simp; with_reducible rfl)
    (try simp only [Act.put, List.setIfInBounds_toArray, List.set_cons_zero, List.set_cons_succ])
    refine Reg.take (i := 3) (v := ?v4) rfl (by kernel_rfl) (by kernel_rfl) (by kernel_rfl) (by rfl) ?hv4 (by assumption) ?rest4
    case hv4 => first | (intro w hSw; (try dsimp only at hSw); go_simp; done) | (intro w hSw; (try dsimp only at hSw); go_simp; with_reducible rfl)
    (try simp only [Act.put, List.setIfInBounds_toArray, List.set_cons_zero, List.set_cons_succ])
    refine Reg.take (i := 4) (v := ?v5) rfl (by kernel_rfl) (by kernel_rfl) (by kernel_rfl) (by rfl) ?hv5 (by assumption) ?rest5
    case hv5 => first | (intro w hSw; (try dsimp only at hSw); go_simp; done) | (intro w hSw; (try dsimp only at hSw); go_simp; with_reducible rfl)
    (try simp only [Act.put, List.setIfInBounds_toArray, List.set_cons_zero, List.set_cons_succ])
    refine Reg.take (i := 5) (v := ?v6) rfl (by kernel_rfl) (by kernel_rfl) (by kernel_rfl) (by rfl) ?hv6 (by assumption) ?rest6
    case hv6 => first | (intro w hSw; (try dsimp only at hSw); go_simp; done) | (intro w hSw; (try dsimp only at hSw); go_simp; with_reducible rfl)
    (try simp only [Act.put, List.setIfInBounds_toArray, List.set_cons_zero, List.set_cons_succ])
    refine Reg.take (i := 6) (v := ?v7) rfl (by kernel_rfl) (by kernel_rfl) (by kernel_rfl) (by rfl) ?hv7 (by assumption) ?rest7
    case hv7 => first | (intro w hSw; (try dsimp only at hSw); go_simp; done) | (intro w hSw; (try dsimp only at hSw); go_simp; with_reducible rfl)
    (try simp only [Act.put, List.setIfInBounds_toArray, List.set_cons_zero, List.set_cons_succ])
    refine Reg.take (i := 7) (v := ?v8) rfl (by kernel_rfl) (by kernel_rfl) (by kernel_rfl) (by rfl) ?hv8 (by assumption) ?rest8
    case hv8 => first | (intro w hSw; (try dsimp only at hSw); go_simp; done) | (intro w hSw; (try dsimp only at hSw); go_simp; with_reducible rfl)
    (try simp only [Act.put, List.setIfInBounds_toArray, List.set_cons_zero, List.set_cons_succ])
    refine Reg.take (i := 8) (v := ?v9) rfl (by kernel_rfl) (by kernel_rfl) (by kernel_rfl) (by rfl) ?hv9 (by assumption) ?rest9
    case hv9 => first | (intro w hSw; (try dsimp only at hSw); go_simp; done) | (intro w hSw; (try dsimp only at hSw); go_simp; with_reducible rfl)
    (try simp only [Act.put, List.setIfInBounds_toArray, List.set_cons_zero, List.set_cons_succ])
    refine Reg.take (i := 9) (v := ?v10) rfl (by kernel_rfl) (by kernel_rfl) (by kernel_rfl) (by rfl) ?hv10 (by assumption) ?rest10
    case hv10 => first | (intro w hSw; (try dsimp only at hSw); go_simp; done) | (intro w hSw; (try dsimp only at hSw); go_simp; with_reducible rfl)
    (try simp only [Act.put, List.setIfInBounds_toArray, List.set_cons_zero, List.set_cons_succ])
    refine Reg.take (i := 10) (v := ?v11) rfl (by kernel_rfl) (by kernel_rfl) (by kernel_rfl) (by rfl) ?hv11 (by assumption) ?rest11
    case hv11 => first | (intro w hSw; (try dsimp only at hSw); go_simp; done) | (intro w hSw; (try dsimp only at hSw); go_simp; with_reducible rfl)
    (try simp only [Act.put, List.setIfInBounds_toArray, List.set_cons_zero, List.set_cons_succ])
    refine Reg.take (i := 11) (v := ?v12) rfl (by kernel_rfl) (by kernel_rfl) (by kernel_rfl) (by rfl) ?hv12 (by assumption) ?rest12
    case hv12 => first | (intro w hSw; (try dsimp only at hSw); go_simp; done) | (intro w hSw; (try dsimp only at hSw); go_simp; with_reducible rfl)
    (try simp only [Act.put, List.setIfInBounds_toArray, List.set_cons_zero, List.set_cons_succ])
    refine Reg.doneW (by kernel_rfl) ?_ _
    gi_wp2
    rw [val_join hy1 hy2]
    have hVr := valT2_range hy1 hy2
    obtain ⟨V, hV⟩ : ∃ V, valT2 v1 v2 = V := ⟨_, rfl⟩
    rw [hV] at hVr ⊢
    have HV := Lib.hid hV
    have hw32 : IntKind.i32.wrap V = V := by rw [IntKind.wrap_i32]; omega
    have hInfo : (Try.prog.info? 44).map (fun i => (i.zero, i.size, i.bytes)) = some (some (.agg #[.int .i32 0, .bool false]), 2, 8) := by kernel_rfl
    have HInfo := Lib.hid hInfo
    clear hInfo hV hc1 hc2 hHeld
    have hci0 : w.cell? x3 = some (.int .u8 v0) := (hB.cell hxl).symm.trans hc0
    have hpl : pre.length ≤ 100 := by have h9 := HCK.out; omega
    obtain ⟨pl, hpl2⟩ : ∃ pl, pre.length = pl := ⟨_, rfl⟩
    rw [hpl2] at hrow hbx hpl
    have HPL := Lib.hid hpl2
    clear hpl2
    refine Reg.beginW (Reg.wide_round l) (S := fun W => W.cell? x3 = some (.int .u8 v0)) (by kernel_rfl) (by kernel_rfl) (by exact hc0) (fun hHeld => ?_)
    have hFd : Has W.drew.drew w.heap.size 50 #[.slice A' pl c'] := hbx
    have hOd : World.ownsRow W.drew.drew (w.heap.size + 3) 44 2 (.slice A' pl c') pl (Row.flat sampS (pre.map fun k => smp ys k.1)) := hrow
    have hBd : Below w.heap.size w W.drew.drew := below_drewN hB 2
    have hTd : KeptTo (w.heap.size + 3) [w.heap.size] W W.drew.drew := (KeptTo.refl _ _ W.drew.drew).drew_.drew_
    have hGd : KeepsFrom (w.heap.size + 3) W W.drew.drew := ((KeepsOthers.drew W).trans (KeepsOthers.drew _)).from _
    generalize W.drew.drew = wd at *
    refine Reg.take (i := 1) (v := ?v13) rfl (by kernel_rfl) (by kernel_rfl) (by kernel_rfl) (by rfl) ?hv13 (by assumption) ?rest13
    case hv13 => first | (intro w hSw; (try dsimp only at hSw); go_simp; done) | (intro w hSw; (try dsimp only at hSw); go_simp; with_reducible rfl)
    (try simp only [Act.put, List.setIfInBounds_toArray, List.set_cons_zero, List.set_cons_succ])
    refine Reg.take (i := 2) (v := ?v14) rfl (by kernel_rfl) (by kernel_rfl) (by kernel_rfl) (by rfl) ?hv14 (by assumption) ?rest14
    case hv14 => first | (intro w hSw; (try dsimp only at hSw); go_simp; done) | (intro w hSw; (try dsimp only at hSw); go_simp; with_reducible rfl)
    (try simp only [Act.put, List.setIfInBounds_toArray, List.set_cons_zero, List.set_cons_succ])
    refine Reg.take (i := 3) (v := ?v15) rfl (by kernel_rfl) (by kernel_rfl) (by kernel_rfl) (by rfl) ?hv15 (by assumption) ?rest15
    case hv15 => first | (intro w hSw; (try dsimp only at hSw); go_simp; done) | (intro w hSw; (try dsimp only at hSw); go_simp; with_reducible rfl)
    (try simp only [Act.put, List.setIfInBounds_toArray, List.set_cons_zero, List.set_cons_succ])
    refine Reg.take (i := 4) (v := ?v16) rfl (by kernel_rfl) (by kernel_rfl) (by kernel_rfl) (by rfl) ?hv16 (by assumption) ?rest16
    case hv16 => first | (intro w hSw; (try dsimp only at hSw); go_simp; done) | (intro w hSw; (try dsimp only at hSw); go_simp; with_reducible rfl)
    (try simp only [Act.put, List.setIfInBounds_toArray, List.set_cons_zero, List.set_cons_succ])
    refine Reg.take (i := 5) (v := ?v17) rfl (by kernel_rfl) (by kernel_rfl) (by kernel_rfl) (by rfl) ?hv17 (by assumption) ?rest17
    case hv17 => first | (intro w hSw; (try dsimp only at hSw); go_simp; done) | (intro w hSw; (try dsimp only at hSw); go_simp; with_reducible rfl)
    (try simp only [Act.put, List.setIfInBounds_toArray, List.set_cons_zero, List.set_cons_succ])
    refine Reg.take (i := 6) (v := ?v18) rfl (by kernel_rfl) (by kernel_rfl) (by kernel_rfl) (by rfl) ?hv18 (by assumption) ?rest18
    case hv18 => first | (intro w hSw; (try dsimp only at hSw); go_simp; done) | (intro w hSw; (try dsimp only at hSw); go_simp; with_reducible rfl)
    (try simp only [Act.put, List.setIfInBounds_toArray, List.set_cons_zero, List.set_cons_succ])
    refine Reg.take (i := 7) (v := ?v19) rfl (by kernel_rfl) (by kernel_rfl) (by kernel_rfl) (by rfl) ?hv19 (by assumption) ?rest19
    case hv19 => first | (intro w hSw; (try dsimp only at hSw); go_simp; done) | (intro w hSw; (try dsimp only at hSw); go_simp; with_reducible rfl)
    (try simp only [Act.put, List.setIfInBounds_toArray, List.set_cons_zero, List.set_cons_succ])
    have hcia := ((hBd.alloc hBd.size (.cells #[.int .i32 V, .bool ((v0 : Int) == 1)] 44)).cell hxl).trans hci0
    have hKA := (Kept.refl [] wd).alloc (.cells #[.int .i32 V, .bool ((v0 : Int) == 1)] 44)
    have hOa := own_kept hOd hKA (by simp)
    have hBa := hBd.alloc hBd.size (.cells #[.int .i32 V, .bool ((v0 : Int) == 1)] 44)
    have hFa := hFd.alloc (.cells #[.int .i32 V, .bool ((v0 : Int) == 1)] 44)
    have hsz3 : w.heap.size + 3 ≤ wd.heap.size := by have := hGd.size; omega
    have hTa := hTd.trans (KeptTo.of_kept hKA hsz3 (by simp))
    have hGa := hGd.trans ((KeepsOthers.alloc wd (.cells #[.int .i32 V, .bool ((v0 : Int) == 1)] 44)).from (w.heap.size + 3))
    have hVn : Row.Vals sampS (wd.alloc (.cells #[.int .i32 V, .bool ((v0 : Int) == 1)] 44)) (some ⟨wd.heap.size, 0, none⟩) 1 [(V, ((v0 : Int) == 1))] := Row.Vals.has (ys := [(V, ((v0 : Int) == 1))]) (tl := []) (Has.new wd _ _)
    have hBase : w.heap.size + 3 ≤ (wd.alloc (.cells #[.int .i32 V, .bool ((v0 : Int) == 1)] 44)).heap.size := by simp; omega
    have l1 := hFd.cell 0
    have l2 := hFa.cell 0
    refine Reg.call2 (i := 0) (j := 8) rfl rfl (by kernel_rfl) (by rfl) (by rfl) ?_ ?_
    · intro K hK
      go_simp
      refine hK.out _ _ (by assumption) (fun hHeld2 => ?_)
      clear hK K
      (try simp only [Act.put, List.setIfInBounds_toArray, List.set_cons_zero, List.set_cons_succ])
      refine Reg.call (i := 8) rfl (by kernel_rfl) (by rfl) ?_
      intro K hK
      go_simp
      refine hK.out _ _ hcia (fun hHeld3 => ?_)
      clear hK K
      (try simp only [Act.put, List.setIfInBounds_toArray, List.set_cons_zero, List.set_cons_succ])
      refine Reg.call (i := 9) rfl (by kernel_rfl) (by rfl) ?_
      intro K hK
      refine Row.wp_append (S := sampS) (.tmp 20) (.tmp 28) _ rfl (w.heap.size + 3) 44 _ 8 (by omega) Try.underlying50 HInfo.out (by kernel_rfl) (.slice A' pl c') pl (pre.map fun k : Fin (chunks len) => smp ys k.1) rfl hOa (some ⟨wd.heap.size, 0, none⟩) 1 1 [(V, ((v0 : Int) == 1))] rfl hVn (by omega) hBase ?_
      intro v9 W3 hO1 hg1 hat1
      have hK1 := Kept.of_grown hg1
      have hF3 := hK1.has hFa (own_apart hOa (by omega))
      have hB3 := below_kept hBa hK1 hBa.size (fun y hy => by have := own_in hOa y hy; omega)
      have hT3 := hTa.trans (KeptTo.of_kept hK1 hBase (fun y hy hlt => by have := own_in hOa y hy; omega))
      have hG3 := hGa.trans ((KeepsOthers.of_grownBy hg1 (row_cells hOa)).from (w.heap.size + 3))
      have hci3 := (hB3.cell hxl).trans hci0
      obtain ⟨A1, d1, rfl, e3, e4, hV1, _⟩ := Row.Vals.own hO1
      refine hK.out _ _ hci3 (fun hHeld4 => ?_)
      clear hK K
      (try simp only [Act.put, List.setIfInBounds_toArray, List.set_cons_zero, List.set_cons_succ])
      have hF4 : Has (W3.setCell ⟨w.heap.size, 0, none⟩ (.slice A1 (pl + 1) d1)) w.heap.size 50 #[.slice A1 (pl + 1) d1] := by
        have := hF3.set_ 0 (.slice A1 (pl + 1) d1)
        simpa using this
      have hO4 := own_kept hO1 ((Kept.refl [w.heap.size] W3).setCell (p := ⟨w.heap.size, 0, none⟩) (.inl (by simp)) (.slice A1 (pl + 1) d1)) (fun y hy => by simp at hy; omega)
      have hB4 := hB3.setCell (p := ⟨w.heap.size, 0, none⟩) (Nat.le_refl _) (.slice A1 (pl + 1) d1)
      have hT4 := hT3.trans (KeptTo.of_kept ((Kept.refl [w.heap.size] W3).setCell (p := ⟨w.heap.size, 0, none⟩) (.inl (by simp)) (.slice A1 (pl + 1) d1)) (Nat.le_trans hBase hg1.size) (fun y hy _ => hy))
      have hG4 := hG3.trans ((KeepsOthers.setCell W3 ⟨w.heap.size, 0, none⟩ (.slice A1 (pl + 1) d1)).from (w.heap.size + 3))
      have hci4 := (hB4.cell hxl).trans hci0
      refine Reg.call (i := 10) rfl (by kernel_rfl) (by rfl) ?_
      intro K hK
      have t1 := hF3.cell 0
      have g1 := hF3.frozen 0
      go_simp
      refine hK.out _ _ hci4 (fun hHeld5 => ?_)
      clear hK K
      (try simp only [Act.put, List.setIfInBounds_toArray, List.set_cons_zero, List.set_cons_succ])
      refine Reg.doneW (by kernel_rfl) ?_ _
      gi_wp2
      have hb1 : ((v0 : Int) == 1) = decide (v0 = 1) := by rw [Bool.eq_iff_iff]; simp; omega
      have hm9 : (pre ++ [k]).map (fun k : Fin (chunks len) => smp ys k.1) = pre.map (fun k : Fin (chunks len) => smp ys k.1) ++ [(V, ((v0 : Int) == 1))] := by rw [List.map_append, List.map_cons, List.map_nil, HS.out, HV.out, hb1]
      have hsz9 : w.heap.size + 3 ≤ (W3.setCell ⟨w.heap.size, 0, none⟩ (.slice A1 (pl + 1) d1)).heap.size := Nat.le_trans hsz3 (Nat.le_trans (by simp) (Nat.le_trans hg1.size (KeepsOthers.setCell W3 _ _).size))
      exact ⟨by have := hG4; simp only [World.size_alloc]; exact this, hT4, ⟨⟨_, hF4, by rw [hm9, List.length_append, HPL.out]; exact hO4, trivial⟩, hB4, hsz9⟩⟩
    · intro K hK
      go_simp
      refine hK.out _ _ hcia (fun hHeld2 => ?_)
      clear hK K
      (try simp only [Act.put, List.setIfInBounds_toArray, List.set_cons_zero, List.set_cons_succ])
      refine Reg.call (i := 0) rfl (by kernel_rfl) (by rfl) ?_
      intro K hK
      go_simp
      refine hK.out _ _ hcia (fun hHeld3 => ?_)
      clear hK K
      (try simp only [Act.put, List.setIfInBounds_toArray, List.set_cons_zero, List.set_cons_succ])
      refine Reg.call (i := 9) rfl (by kernel_rfl) (by rfl) ?_
      intro K hK
      refine Row.wp_append (S := sampS) (.tmp 20) (.tmp 28) _ rfl (w.heap.size + 3) 44 _ 8 (by omega) Try.underlying50 HInfo.out (by kernel_rfl) (.slice A' pl c') pl (pre.map fun k : Fin (chunks len) => smp ys k.1) rfl hOa (some ⟨wd.heap.size, 0, none⟩) 1 1 [(V, ((v0 : Int) == 1))] rfl hVn (by omega) hBase ?_
      intro v9 W3 hO1 hg1 hat1
      have hK1 := Kept.of_grown hg1
      have hF3 := hK1.has hFa (own_apart hOa (by omega))
      have hB3 := below_kept hBa hK1 hBa.size (fun y hy => by have := own_in hOa y hy; omega)
      have hT3 := hTa.trans (KeptTo.of_kept hK1 hBase (fun y hy hlt => by have := own_in hOa y hy; omega))
      have hG3 := hGa.trans ((KeepsOthers.of_grownBy hg1 (row_cells hOa)).from (w.heap.size + 3))
      have hci3 := (hB3.cell hxl).trans hci0
      obtain ⟨A1, d1, rfl, e3, e4, hV1, _⟩ := Row.Vals.own hO1
      refine hK.out _ _ hci3 (fun hHeld4 => ?_)
      clear hK K
      (try simp only [Act.put, List.setIfInBounds_toArray, List.set_cons_zero, List.set_cons_succ])
      have hF4 : Has (W3.setCell ⟨w.heap.size, 0, none⟩ (.slice A1 (pl + 1) d1)) w.heap.size 50 #[.slice A1 (pl + 1) d1] := by
        have := hF3.set_ 0 (.slice A1 (pl + 1) d1)
        simpa using this
      have hO4 := own_kept hO1 ((Kept.refl [w.heap.size] W3).setCell (p := ⟨w.heap.size, 0, none⟩) (.inl (by simp)) (.slice A1 (pl + 1) d1)) (fun y hy => by simp at hy; omega)
      have hB4 := hB3.setCell (p := ⟨w.heap.size, 0, none⟩) (Nat.le_refl _) (.slice A1 (pl + 1) d1)
      have hT4 := hT3.trans (KeptTo.of_kept ((Kept.refl [w.heap.size] W3).setCell (p := ⟨w.heap.size, 0, none⟩) (.inl (by simp)) (.slice A1 (pl + 1) d1)) (Nat.le_trans hBase hg1.size) (fun y hy _ => hy))
      have hG4 := hG3.trans ((KeepsOthers.setCell W3 ⟨w.heap.size, 0, none⟩ (.slice A1 (pl + 1) d1)).from (w.heap.size + 3))
      have hci4 := (hB4.cell hxl).trans hci0
      refine Reg.call (i := 10) rfl (by kernel_rfl) (by rfl) ?_
      intro K hK
      have t1 := hF3.cell 0
      have g1 := hF3.frozen 0
      go_simp
      refine hK.out _ _ hci4 (fun hHeld5 => ?_)
      clear hK K
      (try simp only [Act.put, List.setIfInBounds_toArray, List.set_cons_zero, List.set_cons_succ])
      refine Reg.doneW (by kernel_rfl) ?_ _
      gi_wp2
      have hb1 : ((v0 : Int) == 1) = decide (v0 = 1) := by rw [Bool.eq_iff_iff]; simp; omega
      have hm9 : (pre ++ [k]).map (fun k : Fin (chunks len) => smp ys k.1) = pre.map (fun k : Fin (chunks len) => smp ys k.1) ++ [(V, ((v0 : Int) == 1))] := by rw [List.map_append, List.map_cons, List.map_nil, HS.out, HV.out, hb1]
      have hsz9 : w.heap.size + 3 ≤ (W3.setCell ⟨w.heap.size, 0, none⟩ (.slice A1 (pl + 1) d1)).heap.size := Nat.le_trans hsz3 (Nat.le_trans (by simp) (Nat.le_trans hg1.size (KeepsOthers.setCell W3 _ _).size))
      exact ⟨by have := hG4; simp only [World.size_alloc]; exact this, hT4, ⟨⟨_, hF4, by rw [hm9, List.length_append, HPL.out]; exact hO4, trivial⟩, hB4, hsz9⟩⟩
  case done =>
    rintro D xs W hD rfl ⟨⟨v, hbx, hrow, _⟩, hB, _⟩ hK
    have hc := hbx.cell
    have hmp : (List.finRange (chunks len)).map (fun k : Fin (chunks len) => smp ys k.1) = (List.range m).map (smp ys) := by
      rw [← HCK.out]
      apply List.ext_getElem
      · simp
      · intro i h1 h2
        simp
    have hlm : (List.finRange (chunks len)).length = m := by rw [List.length_finRange, HCK.out]
    rw [hmp, hlm] at hrow
    gi_wp2
    refine ⟨by simp, .inl ⟨_, _, rfl, run_takeDeferred hK, ?_⟩⟩
    exact ⟨_, results_tmp rfl _ _ _, v, rfl, ownsRow_putObj hrow _ hK rfl, hB.trans (belowK_b (w := w) (Nat.le_refl _) W D _ _ (by simp at hD; omega) hK rfl rfl)⟩
  case stop =>
    rintro D c pre W _ _ h _
    exact h.elim
end Go.Proofs.Ytfimgkomfnfjkaa.Frm
end
section
/- Looking at a frame's bytes in pieces, reckoned: the head, the flags, the length, the check. -/
set_option linter.unusedSimpArgs false
set_option linter.unusedVariables false
namespace Go.Proofs.Ytfimgkomfnfjkaa.Frm
open Go.RowKit RU8 Chunk

/-- What is wrong ahead of the samples. -/
def headE (b : List Nat) : Int :=
  if b.length = 0 then 6 else if b.getD 0 0 ≠ 165 then 60 else if b.length = 1 then 6 else if b.getD 1 0 ≠ 90 then 60 else if b.length ≤ 3 then 6 else if b.getD 3 0 < 1 ∨ 32 < b.getD 3 0 then 61 else 0
theorem sound0 (b : List Nat) : Sound b 0 := ⟨rfl, fun h => absurd h (by omega)⟩
theorem sound_up {b : List Nat} {j : Nat} (h : Sound b j) (he : errAt b j = 0) (hj : j + 1 < 4) : Sound b (j + 1) := sound_next h he (fun h => absurd h (by omega))
theorem head_cases (b : List Nat) : (headE b ≠ 0 ∧ lookE b = headE b) ∨ (headE b = 0 ∧ 4 ≤ b.length ∧ 1 ≤ b.getD 3 0 ∧ b.getD 3 0 ≤ 32 ∧ firstErr b 4 = 0) := by
  unfold headE
  by_cases h0 : b.length = 0
  · rw [if_pos h0]
    exact .inl ⟨by decide, (sound_bad (sound0 b) (by omega) (err_short (sound0 b) (by omega)) (by decide)).1⟩
  · rw [if_neg h0]
    have e0 := err_at0 (b := b) (by omega)
    by_cases h1 : b.getD 0 0 ≠ 165
    · rw [if_pos h1] at e0 ⊢
      exact .inl ⟨by decide, (sound_bad (sound0 b) (by omega) e0 (by decide)).1⟩
    · rw [if_neg h1] at e0 ⊢
      have s1 := sound_up (sound0 b) e0 (by omega)
      by_cases h2 : b.length = 1
      · rw [if_pos h2]
        exact .inl ⟨by decide, (sound_bad s1 (by omega) (err_short s1 (by omega)) (by decide)).1⟩
      · rw [if_neg h2]
        have e1 := err_at1 (b := b) (by omega)
        by_cases h3 : b.getD 1 0 ≠ 90
        · rw [if_pos h3] at e1 ⊢
          exact .inl ⟨by decide, (sound_bad s1 (by omega) e1 (by decide)).1⟩
        · rw [if_neg h3] at e1 ⊢
          have s2 := sound_up s1 e1 (by omega)
          by_cases h4 : b.length ≤ 3
          · rw [if_pos h4]
            rcases (by omega : b.length = 2 ∨ 2 < b.length) with h5 | h5
            · exact .inl ⟨by decide, (sound_bad s2 (by omega) (err_short s2 (by omega)) (by decide)).1⟩
            · have s3 := sound_up s2 (err_at2 (by omega)) (by omega)
              exact .inl ⟨by decide, (sound_bad s3 (by omega) (err_short s3 (by omega)) (by decide)).1⟩
          · rw [if_neg h4]
            have s3 := sound_up s2 (err_at2 (by omega)) (by omega)
            have e3 := err_at3 (b := b) (by omega)
            by_cases h5 : b.getD 3 0 < 1 ∨ 32 < b.getD 3 0
            · rw [if_pos h5] at e3 ⊢
              exact .inl ⟨by decide, (sound_bad s3 (by omega) e3 (by decide)).1⟩
            · rw [if_neg h5] at e3 ⊢
              exact .inr ⟨rfl, by omega, by omega, by omega, firstErr_step s3.1 e3⟩
theorem errAt_mid {b : List Nat} {i : Nat} (h4 : 4 ≤ i) (hl : i < b.length) (hs : i + 1 < sizeT b) : errAt b i = if i + 2 < sizeT b ∧ i % 3 = 1 ∧ 1 < b.getD i 0 then 62 else 0 := by
  unfold errAt
  rw [if_neg (by omega), if_neg (by omega), if_neg (by omega), if_neg (by omega), if_neg (by omega)]
  split
  · rfl
  · rw [if_neg (by omega)]
theorem scan_to {b : List Nat} (h0 : firstErr b 4 = 0) (j : Nat) (hj : 4 ≤ j) (hl : j ≤ b.length) (hs : j + 1 ≤ sizeT b) (hg : ∀ i, 4 ≤ i → i < j → i + 2 < sizeT b → i % 3 = 1 → ¬ 1 < b.getD i 0) : firstErr b j = 0 := by
  induction j with
  | zero => omega
  | succ j ih =>
    rcases (by omega : j + 1 = 4 ∨ 4 ≤ j) with h | h
    · rw [h]; exact h0
    · refine firstErr_step (ih h (by omega) (by omega) (fun i h1 h2 => hg i h1 (by omega))) ?_
      rw [errAt_mid h (by omega) (by omega), if_neg]
      rintro ⟨a, c, d⟩
      exact hg j h (by omega) a c d
theorem scan_bad {b : List Nat} (h0 : firstErr b 4 = 0) (hsz : sizeT b ≤ 102) (i : Nat) (h4 : 4 ≤ i) (hl : i < b.length) (hs : i + 2 < sizeT b) (h3 : i % 3 = 1) (hb : 1 < b.getD i 0) : lookE b = 62 := by
  have key : ∀ j, 4 ≤ j → j ≤ i → firstErr b j = 0 ∨ firstErr b j = 62 := fun j => by
    induction j with
    | zero => intro h; omega
    | succ j ih =>
      intro h1 h2
      rcases (by omega : j + 1 = 4 ∨ 4 ≤ j) with h | h
      · rw [h]; exact .inl h0
      · rw [firstErr]
        rcases ih h (by omega) with e | e
        · rw [if_neg (by rw [e]; simp), errAt_mid h (by omega) (by omega)]
          split
          · exact .inr rfl
          · exact .inl rfl
        · rw [if_pos (by rw [e]; decide)]; exact .inr e
  have e1 : firstErr b (i + 1) = 62 := by
    rw [firstErr]
    rcases key i h4 (by omega) with e | e
    · rw [if_neg (by rw [e]; simp), errAt_mid h4 hl (by omega), if_pos ⟨hs, h3, hb⟩]
    · rw [if_pos (by rw [e]; decide)]; exact e
  unfold lookE
  rw [firstErr_stay (by rw [e1]; decide) 102 (by omega), e1]
/-- The bytes from the first flag to where the check begins, or b ends. -/
def flagged (b : List Nat) : List Nat := (b.take (min (sizeT b - 2) b.length)).drop 4
theorem flagged_get (b : List Nat) (i : Nat) (h : 4 + i < min (sizeT b - 2) b.length) : (flagged b).getD i 0 = b.getD (4 + i) 0 := by
  unfold flagged
  rw [List.getD_eq_getElem?_getD, List.getD_eq_getElem?_getD, List.getElem?_drop, List.getElem?_take, if_pos h]
theorem flagged_length (b : List Nat) : (flagged b).length = min (sizeT b - 2) b.length - 4 := by
  unfold flagged
  rw [List.length_drop, List.length_take]
  omega
theorem flags_cases {b : List Nat} (h4 : 4 ≤ b.length) (h1 : 1 ≤ b.getD 3 0) (h32 : b.getD 3 0 ≤ 32) (h0 : firstErr b 4 = 0) :
    (flagsE (flagged b) = 62 ∧ lookE b = 62) ∨ (flagsE (flagged b) = 0 ∧ (b.length < sizeT b → lookE b = 6) ∧
      (sizeT b ≤ b.length → (Crc.sealedB ((b.take (sizeT b)).drop 2) = false → lookE b = 63) ∧ (Crc.sealedB ((b.take (sizeT b)).drop 2) = true → lookE b = 0))) := by
  have hsz : sizeT b = 6 + 3 * b.getD 3 0 := rfl
  by_cases hf : ∃ k, k < chunks (flagged b).length ∧ BadAt (flagged b) k
  · left
    refine ⟨by unfold flagsE; rw [if_pos hf], ?_⟩
    obtain ⟨k, hk, hb⟩ := hf
    unfold chunks at hk
    rw [flagged_length] at hk
    unfold BadAt at hb
    rw [flagged_get b (3 * k) (by omega)] at hb
    exact scan_bad h0 (by omega) (4 + 3 * k) (by omega) (by omega) (by omega) (by omega) hb
  · right
    have hg : ∀ i, 4 ≤ i → i < b.length → i + 2 < sizeT b → i % 3 = 1 → ¬ 1 < b.getD i 0 := fun i a c d e hb => by
      refine hf ⟨(i - 4) / 3, ?_, ?_⟩
      · unfold chunks
        rw [flagged_length]
        omega
      · unfold BadAt
        rw [flagged_get b _ (by omega), show 4 + 3 * ((i - 4) / 3) = i by omega]
        exact hb
    refine ⟨by unfold flagsE; rw [if_neg hf], fun hs => ?_, fun hl => ?_⟩
    · have e := scan_to h0 b.length h4 (Nat.le_refl _) (by omega) (fun i a c d => hg i a c d)
      have S : Sound b b.length := ⟨e, fun _ => hs⟩
      exact (sound_bad S (by omega) (err_short S (Nat.le_refl _)) (by decide)).1
    · have e := scan_to h0 (sizeT b - 1) (by omega) (by omega) (by omega) (fun i a c d => hg i a (by omega) d)
      have S : Sound b (sizeT b - 1) := ⟨e, fun _ => by omega⟩
      have e9 := err_at4 S (by omega) (by omega)
      rw [if_neg (by omega)] at e9
      refine ⟨fun h => ?_, fun h => ?_⟩
      · rw [if_pos ⟨by omega, h⟩] at e9
        exact (sound_bad S (by omega) e9 (by decide)).1
      · rw [if_neg (fun h9 => by rw [h] at h9; cases h9.2)] at e9
        exact lookE_ok (firstErr_step e e9) (by omega) (by omega)
/-- The samples' bytes of a whole frame. -/
theorem samples_are {b : List Nat} (h1 : sizeT b ≤ b.length) : (List.range (b.getD 3 0)).map (smp ((b.take (sizeT b - 2)).drop 4)) = unsampsT b (b.getD 3 0) := by
  unfold unsampsT
  refine List.map_congr_left fun k hk => ?_
  have hk' : k < b.getD 3 0 := List.mem_range.1 hk
  have hsz : sizeT b = 6 + 3 * b.getD 3 0 := rfl
  have hget : ∀ i, 4 + i < sizeT b - 2 → ((b.take (sizeT b - 2)).drop 4).getD i 0 = b.getD (4 + i) 0 := fun i hi => by
    rw [List.getD_eq_getElem?_getD, List.getD_eq_getElem?_getD, List.getElem?_drop, List.getElem?_take, if_pos hi]
  unfold smp sampAt
  rw [hget (3 * k) (by omega), hget (3 * k + 1) (by omega), hget (3 * k + 2) (by omega), show 4 + (3 * k + 1) = 5 + 3 * k by omega, show 4 + (3 * k + 2) = 6 + 3 * k by omega]
end Go.Proofs.Ytfimgkomfnfjkaa.Frm
end
section
/- frame's headFault: what is wrong ahead of the samples. -/
set_option linter.unusedSimpArgs false
set_option linter.unusedVariables false
namespace Go.Proofs.Ytfimgkomfnfjkaa.Frm
open Go.RowKit RU8
theorem head_any (A : Option Addr) (n c : Nat) (b : List Nat) (w : World) (hv : Vals w A n b) (hb : Bytes b) (hn : n ≤ 100000) :
    Calls Try.prog 33 #[.slice A n c] w fun e w' => e = .returned (.int .i64 (headE b)) ∧ w = w' := by
  have hlen := hv.len_
  have hsz := fun W => size_any (b.getD 3 0 : Int) (by have := hb.at_ 3; omega) W
  unfold headE
  rw [hlen]
  rcases Nat.eq_zero_or_pos n with h0 | h0
  · rw [if_pos h0]
    subst h0
    clear hv
    go_enter Try.func33, Try.ntmps33
    go_wp2_with (go_at_call 34; ((with_reducible refine (hsz _).mono ?_); rintro e w' ⟨rfl, rfl⟩))
    go_ret
    exact ⟨rfl, rfl⟩
  · rw [if_neg (by omega)]
    have h0i : ¬ (n : Int) = 0 := by omega
    obtain ⟨x, rfl, hx⟩ := hv.cells h0
    have hc0 := hx 0 h0
    rw [show x.add 0 = x by simp [Addr.add]] at hc0
    obtain ⟨b0, hb0⟩ : ∃ v, b.getD 0 0 = v := ⟨_, rfl⟩
    rw [hb0] at hc0 ⊢
    by_cases h1 : b0 ≠ 165
    · rw [if_pos h1]
      have h1i : ¬ (b0 : Int) = 165 := by omega
      clear hv hx hb0 h1
      go_enter Try.func33, Try.ntmps33
      go_wp2_with (go_at_call 34; ((with_reducible refine (hsz _).mono ?_); rintro e w' ⟨rfl, rfl⟩))
      go_ret
      exact ⟨rfl, rfl⟩
    · rw [if_neg h1]
      have h1n : b0 = 165 := by omega
      clear h1 hb0
      subst h1n
      by_cases h2 : n = 1
      · rw [if_pos h2]
        subst h2
        clear hv hx h0i
        go_enter Try.func33, Try.ntmps33
        go_wp2_with (go_at_call 34; ((with_reducible refine (hsz _).mono ?_); rintro e w' ⟨rfl, rfl⟩))
        go_ret
        exact ⟨rfl, rfl⟩
      · rw [if_neg h2]
        have h2i : ¬ (n : Int) = 1 := by omega
        have hc1 := hx 1 (by omega)
        rw [show x.add 1 = ⟨x.block, x.off + 1, none⟩ by simp [Addr.add]] at hc1
        obtain ⟨b1, hb1⟩ : ∃ v, b.getD 1 0 = v := ⟨_, rfl⟩
        rw [hb1] at hc1 ⊢
        have h1l : 1 < n := by omega
        by_cases h3 : b1 ≠ 90
        · rw [if_pos h3]
          have h3i : ¬ (b1 : Int) = 90 := by omega
          clear hv hx hb1 h3
          go_enter Try.func33, Try.ntmps33
          go_wp2_with (go_at_call 34; ((with_reducible refine (hsz _).mono ?_); rintro e w' ⟨rfl, rfl⟩))
          go_ret
          exact ⟨rfl, rfl⟩
        · rw [if_neg h3]
          have h3n : b1 = 90 := by omega
          clear h3 hb1
          subst h3n
          by_cases h4 : n ≤ 3
          · rw [if_pos h4]
            have h4i : (n : Int) ≤ 3 := by omega
            clear hv hx
            go_enter Try.func33, Try.ntmps33
            go_wp2_with (go_at_call 34; ((with_reducible refine (hsz _).mono ?_); rintro e w' ⟨rfl, rfl⟩))
            go_ret
            exact ⟨rfl, rfl⟩
          · rw [if_neg h4]
            have h4i : ¬ (n : Int) ≤ 3 := by omega
            have hc3 := hx 3 (by omega)
            rw [show x.add 3 = ⟨x.block, x.off + 3, none⟩ by simp [Addr.add]] at hc3
            have hb3x := hb.at_ 3
            obtain ⟨b3, hb3⟩ : ∃ v, b.getD 3 0 = v := ⟨_, rfl⟩
            rw [hb3] at hc3 hb3x hsz ⊢
            have h3l : 3 < n := by omega
            unfold sizeZ at hsz
            by_cases h5 : b3 < 1 ∨ 32 < b3
            · rw [if_pos h5]
              rw [if_pos (by omega)] at hsz
              clear hv hx hb3 h5
              go_enter Try.func33, Try.ntmps33
              go_wp2_with (go_at_call 34; ((with_reducible refine (hsz _).mono ?_); rintro e w' ⟨rfl, rfl⟩))
              go_ret
              exact ⟨rfl, rfl⟩
            · rw [if_neg h5]
              rw [if_neg (by omega)] at hsz
              have h5i : ¬ 6 + 3 * (b3 : Int) = 0 := by omega
              clear hv hx hb3 h5
              go_enter Try.func33, Try.ntmps33
              go_wp2_with (go_at_call 34; ((with_reducible refine (hsz _).mono ?_); rintro e w' ⟨rfl, rfl⟩))
              go_ret
              exact ⟨rfl, rfl⟩
end Go.Proofs.Ytfimgkomfnfjkaa.Frm
end
