/- parse's told: what it takes from a frame. -/
import Derived.Test.YtlhjligeigkbnaaParseTold
import Derived.Test.YtlhjligeigkbnaaFrameSize
set_option linter.unusedSimpArgs false
set_option linter.unusedVariables false
namespace Go.Proofs.Ytlhjligeigkbnaa.Par
open Go.RowKit RU8 Frm
/-- Is a frame with this number in order? -/
def inO (bg : Bool) (nx q : Nat) : Bool := !bg || decide (q = nx)
/-- What is told behind a frame. -/
def Takn (T : Nat) (w : World) (v : Value) (es : List Ev) (s nx en : Nat) (bg : Bool) (at_ to q : Nat) (ls : List Samp) (e : Ending) (w' : World) : Prop :=
  e = .returned (.tuple #[]) ∧ ∃ v', (if inO bg nx q then ToldIs w' T v' (es ++ (if at_ ≠ en then [(1, s, (0, false))] else []) ++ evS s ls) (s + ls.length) true ((q + 1) % 256) to else ToldIs w' T v' es s true ((q + 1) % 256) en) ∧ Went T w v w' v'
set_option maxRecDepth 100000 in
set_option maxHeartbeats 2000000 in
theorem take_any (T : Nat) (v : Value) (es : List Ev) (s nx en : Nat) (bg : Bool) (at_ to q : Nat) (A : Option Addr) (L c : Nat) (ls : List Samp) (w : World) (h : ToldIs w T v es s bg nx en) (hv : Row.Vals sampS w A L ls) (hL : L ≤ 32) (hLc : L ≤ c) (hc : c ≤ 9223372036854775807)
    (hfar : ∀ x, A = some x → x.block ≠ T ∧ some x.block ≠ v.ownBlock) (hq : q < 256) (hs : s ≤ 90000) (hes : es.length ≤ 90000) :
    Calls Try.prog 25 #[.pointer (some ⟨T, 0, none⟩), .int .i64 (at_ : Nat), .int .i64 (to : Nat), .agg #[.int .u8 (q : Nat), .slice A L c]] w (Takn T w v es s nx en bg at_ to q ls) := by
  have hInfo : (Try.prog.info? 51).map (fun i => (i.zero, i.size, i.bytes)) = some (some (.agg #[.int .i64 0, .int .i64 0, .int .i32 0, .bool false]), 4, 24) := by kernel_rfl
  have HInfo := Lib.hid hInfo
  have hTl := h.has.lt
  have hnxt := fun W => next_any q hq W
  have hkA : Kept [] w (w.alloc (.cells #[.int .u8 (q : Nat), .slice A L c] 34)) := (Kept.refl [] w).alloc _
  have hTA := h.kept hkA
  have hPA := Has.new w 34 #[.int .u8 (q : Nat), .slice A L c]
  have c2 : (w.alloc (.cells #[.int .u8 (q : Nat), .slice A L c] 34)).cell? ⟨T, 2, none⟩ = some (.bool bg) := hTA.has.cell 2
  have c3 : (w.alloc (.cells #[.int .u8 (q : Nat), .slice A L c] 34)).cell? ⟨T, 3, none⟩ = some (.int .u8 (nx : Nat)) := hTA.has.cell 3
  have p0 : (w.alloc (.cells #[.int .u8 (q : Nat), .slice A L c] 34)).cell? ⟨w.heap.size, 0, none⟩ = some (.int .u8 (q : Nat)) := hPA.cell 0
  have f2 := hTA.has.frozen 2
  have f3 := hTA.has.frozen 3
  have f4 := hTA.has.frozen 4
  have hll := hv.len_
  clear hInfo
  have c4 : (w.alloc (.cells #[.int .u8 (q : Nat), .slice A L c] 34)).cell? ⟨T, 4, none⟩ = some (.int .i64 (en : Nat)) := hTA.has.cell 4
  obtain ⟨p, hpw⟩ : ∃ p, w.heap.size = p := ⟨_, rfl⟩
  rw [hpw] at hTl p0 hPA
  unfold Takn
  obtain ⟨q1, hq1⟩ : ∃ q1, (q + 1) % 256 = q1 := ⟨_, rfl⟩
  simp only [hq1] at hnxt ⊢
  clear hq1
  cases bg with
  | false =>
    have hI : inO false nx q = true := rfl
    simp only [hI, if_true]
    by_cases hat : at_ = en
    · subst hat
      simp only [ne_eq, not_true_eq_false, if_false, List.append_nil]
      go_enter Try.func25, Try.ntmps25
      go_wp2
      go_quiet (fail)
      go_wp2_with (go_at_call 29; ((with_reducible refine (hnxt _).mono ?_); rintro e W1 ⟨rfl, rfl⟩))
      obtain ⟨wb, hwb⟩ : ∃ W, W = (((w.alloc (.cells #[.int .u8 (q : Nat), .slice A L c] 34)).drewN nq).setCell ⟨T, 2, none⟩ (.bool true)).setCell ⟨T, 3, none⟩ (.int .u8 (q1 : Nat)) := ⟨_, rfl⟩
      rw [← hwb]
      have hkB : Kept [T] w wb := by rw [hwb]; exact (((hkA.drewN nq).wide (T := [T]) (by simp)).setCell (p := ⟨T, 2, none⟩) (.inl (by simp)) _).setCell (p := ⟨T, 3, none⟩) (.inl (by simp)) _
      have hHB : Has wb T 63 #[v, .int .i64 (s : Nat), .bool true, .int .u8 (q1 : Nat), .int .i64 (at_ : Nat)] := by
        have := ((hTA.has.drewN nq).set_ 2 (.bool true)).set_ 3 (.int .u8 (q1 : Nat))
        rw [hwb]; simpa using this
      have hPB : Has wb p 34 #[.int .u8 (q : Nat), .slice A L c] := by
        rw [hwb]
        exact ((hPA.drewN nq).far (p := ⟨T, 2, none⟩) (by show p ≠ T; omega) _).far (p := ⟨T, 3, none⟩) (by show p ≠ T; omega) _
      have hTB := h.set hkB hHB
      have hWB := went_set (v := v) hkB
      have hvB := hv.kept hkB (fun _ x hx => by simpa using (hfar x hx).1)
      clear hkA hTA hPA hwb c2 c3 c4 p0 f2 f3 f4 hkB hHB
      have hk4 := (Kept.refl [T] wb).setCell (p := ⟨T, 4, none⟩) (.inl (by simp)) (.int .i64 (to : Nat))
      have hTt := hTB.set hk4 (by have := hTB.has.set_ 4 (.int .i64 (to : Nat)); simpa using this)
      have hWt := hWB.trans (went_set hk4)
      generalize wb.setCell ⟨T, 4, none⟩ (.int .i64 (to : Nat)) = wt at *
      clear hTB hWB hk4
      clear hPB hvB
      have hes1 : es.length ≤ 90001 := by first | omega | (rw [List.length_append, List.length_singleton]; omega)
      obtain ⟨es1, hes9⟩ : ∃ z, z = es := ⟨_, rfl⟩
      rw [← hes9] at hes1 hTt
      have HES := Lib.hid hes9
      clear hnxt hes9
      go_loopw [63] (fun i wr => ∃ (j : Nat) (v2 : Value), j ≤ L ∧ i = .int .i64 (j : Nat) ∧ ToldIs wr T v2 (es1 ++ evS s (ls.take j)) (s + j) true q1 to ∧ Went T w v wr v2) (fun i _ => L - (intOf i).toNat)
      case atStart => exact ⟨0, _, by omega, rfl, by rw [List.take_zero]; show ToldIs _ T _ (es1 ++ []) s true q1 to; rw [List.append_nil]; exact hTt, hWt⟩
      case round =>
        obtain ⟨j, v2, hj, rfl, hTr, hWr⟩ := hrel
        by_cases hjL : j < L
        · obtain ⟨x, rfl, _⟩ := hv.cells (by omega)
          have hvr := hv.kept hWr.1 (fun _ y hy => by
            obtain ⟨h1, h2⟩ := hfar y hy
            intro hm
            rcases List.mem_cons.1 hm with e | e
            · exact h1 e
            · exact h2 (by simpa using e : v.ownBlock = some y.block).symm)
          obtain ⟨m0, m1⟩ := samp_cells hvr j hjL
          have hstp : evS s (ls.take (j + 1)) = evS s (ls.take j) ++ [(2, s + j, ls.getD j (0, false))] := by
            rw [take_step ls (0, false) j (by omega), evS_append, List.length_take, Nat.min_eq_left (by omega)]; rfl
          obtain ⟨⟨z, o⟩, hzo⟩ : ∃ q, ls.getD j (0, false) = q := ⟨_, rfl⟩
          rw [hzo] at m0 m1 hstp
          dsimp only at m0 m1
          have HST := Lib.hid hstp
          have hsm := sample_any T v2 (es1 ++ evS s (ls.take j)) (s + j) q1 to true z o (wr.alloc (.cells #[.int .i32 z, .bool o] 49)) (hTr.kept ((Kept.refl [] wr).alloc _)) (by omega) (by rw [List.length_append, evS_length, List.length_take]; omega)
          have hWa := hWr.kept ((Kept.refl [] wr).alloc (.cells #[.int .i32 z, .bool o] 49))
          clear hstp hzo hvr hTt hWt
          go_wp2_with (go_at_call 30; ((with_reducible refine hsm.mono ?_); rintro e W1 ⟨rfl, v3, hT3, hW3⟩))
          go_roundw
          case rel => exact ⟨j + 1, v3, by omega, by go_num, by rw [HST.out, ← List.append_assoc, ← Nat.add_assoc]; exact hT3, hWa.trans hW3⟩
          case measure => simp [intOf]; omega
        · have hjL2 : j = L := by omega
          subst hjL2
          rw [List.take_of_length_le (by omega)] at hTr
          clear hTt hWt
          go_wp2
          go_end0
          exact ⟨rfl, v2, by have h9 := HES.out; subst h9; rw [hll]; exact hTr, hWr⟩
    · have hatz : ¬ (at_ : Int) = (en : Int) := by omega
      simp only [ne_eq, hat, not_false_eq_true, if_true]
      go_enter Try.func25, Try.ntmps25
      go_wp2
      go_quiet (fail)
      go_wp2_with (go_at_call 29; ((with_reducible refine (hnxt _).mono ?_); rintro e W1 ⟨rfl, rfl⟩))
      obtain ⟨wb, hwb⟩ : ∃ W, W = (((w.alloc (.cells #[.int .u8 (q : Nat), .slice A L c] 34)).drewN nq).setCell ⟨T, 2, none⟩ (.bool true)).setCell ⟨T, 3, none⟩ (.int .u8 (q1 : Nat)) := ⟨_, rfl⟩
      rw [← hwb]
      have hkB : Kept [T] w wb := by rw [hwb]; exact (((hkA.drewN nq).wide (T := [T]) (by simp)).setCell (p := ⟨T, 2, none⟩) (.inl (by simp)) _).setCell (p := ⟨T, 3, none⟩) (.inl (by simp)) _
      have hHB : Has wb T 63 #[v, .int .i64 (s : Nat), .bool true, .int .u8 (q1 : Nat), .int .i64 (en : Nat)] := by
        have := ((hTA.has.drewN nq).set_ 2 (.bool true)).set_ 3 (.int .u8 (q1 : Nat))
        rw [hwb]; simpa using this
      have hPB : Has wb p 34 #[.int .u8 (q : Nat), .slice A L c] := by
        rw [hwb]
        exact ((hPA.drewN nq).far (p := ⟨T, 2, none⟩) (by show p ≠ T; omega) _).far (p := ⟨T, 3, none⟩) (by show p ≠ T; omega) _
      have hTB := h.set hkB hHB
      have hWB := went_set (v := v) hkB
      have hvB := hv.kept hkB (fun _ x hx => by simpa using (hfar x hx).1)
      clear hkA hTA hPA hwb c2 c3 c4 p0 f2 f3 f4 hkB hHB
      clear hvB
      refine Reg.begin_ (S := fun W => W.cell? ⟨T, 1, none⟩ = some (.int .i64 (s : Nat))) (by kernel_rfl) (by exact hTB.has.cell 1) (fun hHeld => ?_)
      have hTd : ToldIs wb.drew T v es s true q1 en := hTB.kept ((Kept.refl [] wb).drewN 1)
      have hWd : Went T w v wb.drew v := hWB.kept ((Kept.refl [] wb).drewN 1)
      have hPd : Has wb.drew p 34 #[.int .u8 (q : Nat), .slice A L c] := hPB
      generalize wb.drew = wd at *
      clear hTB hWB hPB
      clear wb
      refine Reg.take (i := 0) (v := ?v1) rfl (by kernel_rfl) (by kernel_rfl) (by kernel_rfl) (by rfl) ?hv1 (by assumption) ?rest1
      case hv1 => first | (intro w hSw; (try dsimp only at hSw); go_simp; done) | (intro w hSw; (try dsimp only at hSw); go_simp; with_reducible rfl)
      (try simp only [Act.put, List.setIfInBounds_toArray, List.set_cons_zero, List.set_cons_succ])
      refine Reg.take (i := 1) (v := ?v2) rfl (by kernel_rfl) (by kernel_rfl) (by kernel_rfl) (by rfl) ?hv2 (by assumption) ?rest2
      case hv2 => first | (intro w hSw; (try dsimp only at hSw); go_simp; done) | (intro w hSw; (try dsimp only at hSw); go_simp; with_reducible rfl)
      (try simp only [Act.put, List.setIfInBounds_toArray, List.set_cons_zero, List.set_cons_succ])
      refine Reg.take (i := 2) (v := ?v3) rfl (by kernel_rfl) (by kernel_rfl) (by kernel_rfl) (by rfl) ?hv3 (by assumption) ?rest3
      case hv3 => first | (intro w hSw; (try dsimp only at hSw); go_simp; done) | (intro w hSw; (try dsimp only at hSw); go_simp; with_reducible rfl)
      (try simp only [Act.put, List.setIfInBounds_toArray, List.set_cons_zero, List.set_cons_succ])
      refine Reg.take (i := 3) (v := ?v4) rfl (by kernel_rfl) (by kernel_rfl) (by kernel_rfl) (by rfl) ?hv4 (by assumption) ?rest4
      case hv4 => first | (intro w hSw; (try dsimp only at hSw); go_simp; done) | (intro w hSw; (try dsimp only at hSw); go_simp; with_reducible rfl)
      (try simp only [Act.put, List.setIfInBounds_toArray, List.set_cons_zero, List.set_cons_succ])
      refine Reg.take (i := 5) (v := ?v5) rfl (by kernel_rfl) (by kernel_rfl) (by kernel_rfl) (by rfl) ?hv5 (by assumption) ?rest5
      case hv5 => first | (intro w hSw; (try dsimp only at hSw); go_simp; done) | (intro w hSw; (try dsimp only at hSw); go_simp; with_reducible rfl)
      (try simp only [Act.put, List.setIfInBounds_toArray, List.set_cons_zero, List.set_cons_succ])
      refine Reg.take (i := 6) (v := ?v6) rfl (by kernel_rfl) (by kernel_rfl) (by kernel_rfl) (by rfl) ?hv6 (by assumption) ?rest6
      case hv6 => first | (intro w hSw; (try dsimp only at hSw); go_simp; done) | (intro w hSw; (try dsimp only at hSw); go_simp; with_reducible rfl)
      (try simp only [Act.put, List.setIfInBounds_toArray, List.set_cons_zero, List.set_cons_succ])
      refine Reg.take (i := 7) (v := ?v7) rfl (by kernel_rfl) (by kernel_rfl) (by kernel_rfl) (by rfl) ?hv7 (by assumption) ?rest7
      case hv7 => first | (intro w hSw; (try dsimp only at hSw); go_simp; done) | (intro w hSw; (try dsimp only at hSw); go_simp; with_reducible rfl)
      (try simp only [Act.put, List.setIfInBounds_toArray, List.set_cons_zero, List.set_cons_succ])
      refine Reg.take (i := 8) (v := ?v8) rfl (by kernel_rfl) (by kernel_rfl) (by kernel_rfl) (by rfl) ?hv8 (by assumption) ?rest8
      case hv8 => first | (intro w hSw; (try dsimp only at hSw); go_simp; done) | (intro w hSw; (try dsimp only at hSw); go_simp; with_reducible rfl)
      (try simp only [Act.put, List.setIfInBounds_toArray, List.set_cons_zero, List.set_cons_succ])
      refine Reg.take (i := 9) (v := ?v9) rfl (by kernel_rfl) (by kernel_rfl) (by kernel_rfl) (by rfl) ?hv9 (by assumption) ?rest9
      case hv9 => first | (intro w hSw; (try dsimp only at hSw); go_simp; done) | (intro w hSw; (try dsimp only at hSw); go_simp; with_reducible rfl)
      (try simp only [Act.put, List.setIfInBounds_toArray, List.set_cons_zero, List.set_cons_succ])
      have l1 : wd.cell? ⟨T, 0, none⟩ = some v := hTd.has.cell 0
      have hTa := hTd.kept ((Kept.refl [] wd).alloc (.cells #[.int .i64 1, .int .i64 (s : Nat), .int .i32 0, .bool false] 51))
      have hPa := hPd.alloc (.cells #[.int .i64 1, .int .i64 (s : Nat), .int .i32 0, .bool false] 51)
      have hVn : Row.Vals evSh (wd.alloc (.cells #[.int .i64 1, .int .i64 (s : Nat), .int .i32 0, .bool false] 51)) (some ⟨wd.heap.size, 0, none⟩) 1 [(1,s,(0,false))] := one_new wd 51 (1, s, (0, false))
      have l2 : (wd.alloc (.cells #[.int .i64 1, .int .i64 (s : Nat), .int .i32 0, .bool false] 51)).cell? ⟨T, 0, none⟩ = some v := hTa.has.cell 0
      have hBase : T + 1 ≤ (wd.alloc (.cells #[.int .i64 1, .int .i64 (s : Nat), .int .i32 0, .bool false] 51)).heap.size := by have := hTa.has.lt; omega
      have hpv : p ∉ v.ownBlock.toList := by
        intro hm
        have := (own_block h.own p (by simpa using hm)).2
        omega
      have hS0 := hHeld
      have hS1 : (wd.alloc (.cells #[.int .i64 1, .int .i64 (s : Nat), .int .i32 0, .bool false] 51)).cell? ⟨T, 1, none⟩ = some (.int .i64 (s : Nat)) := hTa.has.cell 1
      have hSk := fun (W : World) (hk : Kept v.ownBlock.toList (wd.alloc (.cells #[.int .i64 1, .int .i64 (s : Nat), .int .i32 0, .bool false] 51)) W) => (⟨(hk.has hTa.has (own_apart hTa.own (by omega))).cell 1, fun u => ((hk.has hTa.has (own_apart hTa.own (by omega))).set_ 0 u).cell 1⟩ : W.cell? ⟨T, 1, none⟩ = some (.int .i64 (s : Nat)) ∧ ∀ u, (W.setCell ⟨T, 0, none⟩ u).cell? ⟨T, 1, none⟩ = some (.int .i64 (s : Nat)))
      refine Reg.call2 (i := 4) (j := 10) rfl rfl (by kernel_rfl) (by rfl) (by rfl) ?_ ?_
      · intro K hK
        go_simp
        refine hK.out _ _ hS0 (fun hHeld2 => ?_)
        clear hK K
        (try simp only [Act.put, List.setIfInBounds_toArray, List.set_cons_zero, List.set_cons_succ])
        refine Reg.call (i := 10) rfl (by kernel_rfl) (by rfl) ?_
        intro K hK
        go_simp
        refine hK.out _ _ hS1 (fun hHeld3 => ?_)
        clear hK K
        (try simp only [Act.put, List.setIfInBounds_toArray, List.set_cons_zero, List.set_cons_succ])
        refine Reg.call (i := 11) rfl (by kernel_rfl) (by rfl) ?_
        intro K hK
        refine Row.wp_append (S := evSh) (.tmp 46) (.tmp 52) _ rfl (T + 1) 51 _ 24 (by omega) Try.underlying39 HInfo.out (by kernel_rfl) v es.length es rfl hTa.own (some ⟨wd.heap.size, 0, none⟩) 1 1 [(1,s,(0,false))] rfl hVn (by omega) hBase ?_
        intro v9 W3 hO1 hg1 hat1
        rw [show es.length + 1 = (es ++ [(1,s,(0,false))]).length by simp] at hO1
        obtain ⟨A9, d9, rfl, _, _, hx1, hx2⟩ := Row.Vals.own hO1
        clear hx1 hx2
        obtain ⟨hT4, hW4⟩ := told_grown hTa hO1 hg1 hat1
        have hF3 := (Kept.of_grown hg1).has hTa.has (own_apart hTa.own (by omega))
        obtain ⟨hS3, hS4⟩ := hSk _ (Kept.of_grown hg1)
        have hS5 := hS4 (.slice A9 (es ++ [(1,s,(0,false))]).length d9)
        have hWw := (hWd.kept ((Kept.refl [] wd).alloc (.cells #[.int .i64 1, .int .i64 (s : Nat), .int .i32 0, .bool false] 51))).trans hW4
        have hPc := ((Kept.of_grown hg1).has hPa hpv).far (p := ⟨T, 0, none⟩) (by show p ≠ T; omega) (.slice A9 (es ++ [(1,s,(0,false))]).length d9)
        obtain ⟨q9, hq9⟩ : ∃ q, (es ++ [(1,s,(0,false))]).length = q := ⟨_, rfl⟩
        rw [hq9] at hT4 hW4 hS5 hPc hWw ⊢
        clear hq9
        refine hK.out _ _ hS3 (fun hHeld4 => ?_)
        clear hK K
        (try simp only [Act.put, List.setIfInBounds_toArray, List.set_cons_zero, List.set_cons_succ])
        refine Reg.take (i := 12) (v := ?v10) rfl (by kernel_rfl) (by kernel_rfl) (by kernel_rfl) (by rfl) ?hv10 (by assumption) ?rest10
        case hv10 => first | (intro w hSw; (try dsimp only at hSw); go_simp; done) | (intro w hSw; (try dsimp only at hSw); go_simp; with_reducible rfl)
        (try simp only [Act.put, List.setIfInBounds_toArray, List.set_cons_zero, List.set_cons_succ])
        refine Reg.take (i := 13) (v := ?v11) rfl (by kernel_rfl) (by kernel_rfl) (by kernel_rfl) (by rfl) ?hv11 (by assumption) ?rest11
        case hv11 => first | (intro w hSw; (try dsimp only at hSw); go_simp; done) | (intro w hSw; (try dsimp only at hSw); go_simp; with_reducible rfl)
        (try simp only [Act.put, List.setIfInBounds_toArray, List.set_cons_zero, List.set_cons_succ])
        refine Reg.call (i := 14) rfl (by kernel_rfl) (by rfl) ?_
        intro K hK
        have t1 := hF3.cell 0
        have g1 := hF3.frozen 0
        go_simp
        refine hK.out _ _ hS5 (fun hHeld5 => ?_)
        clear hK K
        (try simp only [Act.put, List.setIfInBounds_toArray, List.set_cons_zero, List.set_cons_succ])
        refine Reg.done (by kernel_rfl) ?_ _
        clear hS3 hS4 hS5 hHeld4 hHeld5 t1 g1 hO1 hg1 hat1 hW4 hF3
        generalize W3.setCell ⟨T, 0, none⟩ (.slice A9 q9 d9) = wc at *
        generalize Value.slice A9 q9 d9 = v9 at *
        clear hTa hVn hBase hSk l1 l2 hTd hWd hPa hPd
        clear hHeld hHeld2 hHeld3 hpv hS0 hS1
        have q1c : wc.cell? ⟨p, 1, none⟩ = some (.slice A L c) := hPc.cell 1
        have f4 := hT4.has.frozen 4
        have u4 : wc.cell? ⟨T, 4, none⟩ = some (.int .i64 (en : Nat)) := hT4.has.cell 4
        go_wp2
        have hk4 := (Kept.refl [T] wc).setCell (p := ⟨T, 4, none⟩) (.inl (by simp)) (.int .i64 (to : Nat))
        have hTt := hT4.set hk4 (by have := hT4.has.set_ 4 (.int .i64 (to : Nat)); simpa using this)
        have hWt := hWw.trans (went_set hk4)
        generalize wc.setCell ⟨T, 4, none⟩ (.int .i64 (to : Nat)) = wt at *
        clear hT4 hWw hk4
        clear hPc
        have hes1 : (es++[(1,s,(0,false))]).length ≤ 90001 := by first | omega | (rw [List.length_append, List.length_singleton]; omega)
        obtain ⟨es1, hes9⟩ : ∃ z, z = (es++[(1,s,(0,false))]) := ⟨_, rfl⟩
        rw [← hes9] at hes1 hTt
        have HES := Lib.hid hes9
        clear hnxt hes9
        go_loopw [63] (fun i wr => ∃ (j : Nat) (v2 : Value), j ≤ L ∧ i = .int .i64 (j : Nat) ∧ ToldIs wr T v2 (es1 ++ evS s (ls.take j)) (s + j) true q1 to ∧ Went T w v wr v2) (fun i _ => L - (intOf i).toNat)
        case atStart => exact ⟨0, _, by omega, rfl, by rw [List.take_zero]; show ToldIs _ T _ (es1 ++ []) s true q1 to; rw [List.append_nil]; exact hTt, hWt⟩
        case round =>
          obtain ⟨j, v2, hj, rfl, hTr, hWr⟩ := hrel
          by_cases hjL : j < L
          · obtain ⟨x, rfl, _⟩ := hv.cells (by omega)
            have hvr := hv.kept hWr.1 (fun _ y hy => by
              obtain ⟨h1, h2⟩ := hfar y hy
              intro hm
              rcases List.mem_cons.1 hm with e | e
              · exact h1 e
              · exact h2 (by simpa using e : v.ownBlock = some y.block).symm)
            obtain ⟨m0, m1⟩ := samp_cells hvr j hjL
            have hstp : evS s (ls.take (j + 1)) = evS s (ls.take j) ++ [(2, s + j, ls.getD j (0, false))] := by
              rw [take_step ls (0, false) j (by omega), evS_append, List.length_take, Nat.min_eq_left (by omega)]; rfl
            obtain ⟨⟨z, o⟩, hzo⟩ : ∃ q, ls.getD j (0, false) = q := ⟨_, rfl⟩
            rw [hzo] at m0 m1 hstp
            dsimp only at m0 m1
            have HST := Lib.hid hstp
            have hsm := sample_any T v2 (es1 ++ evS s (ls.take j)) (s + j) q1 to true z o (wr.alloc (.cells #[.int .i32 z, .bool o] 49)) (hTr.kept ((Kept.refl [] wr).alloc _)) (by omega) (by rw [List.length_append, evS_length, List.length_take]; omega)
            have hWa := hWr.kept ((Kept.refl [] wr).alloc (.cells #[.int .i32 z, .bool o] 49))
            clear hstp hzo hvr hTt hWt
            go_wp2_with (go_at_call 30; ((with_reducible refine hsm.mono ?_); rintro e W1 ⟨rfl, v3, hT3, hW3⟩))
            go_roundw
            case rel => exact ⟨j + 1, v3, by omega, by go_num, by rw [HST.out, ← List.append_assoc, ← Nat.add_assoc]; exact hT3, hWa.trans hW3⟩
            case measure => simp [intOf]; omega
          · have hjL2 : j = L := by omega
            subst hjL2
            rw [List.take_of_length_le (by omega)] at hTr
            clear hTt hWt
            go_wp2
            go_end0
            exact ⟨rfl, v2, by have h9 := HES.out; subst h9; rw [hll]; exact hTr, hWr⟩
      · intro K hK
        go_simp
        refine hK.out _ _ hS1 (fun hHeld2 => ?_)
        clear hK K
        (try simp only [Act.put, List.setIfInBounds_toArray, List.set_cons_zero, List.set_cons_succ])
        refine Reg.call (i := 4) rfl (by kernel_rfl) (by rfl) ?_
        intro K hK
        go_simp
        refine hK.out _ _ hS1 (fun hHeld3 => ?_)
        clear hK K
        (try simp only [Act.put, List.setIfInBounds_toArray, List.set_cons_zero, List.set_cons_succ])
        refine Reg.call (i := 11) rfl (by kernel_rfl) (by rfl) ?_
        intro K hK
        refine Row.wp_append (S := evSh) (.tmp 46) (.tmp 52) _ rfl (T + 1) 51 _ 24 (by omega) Try.underlying39 HInfo.out (by kernel_rfl) v es.length es rfl hTa.own (some ⟨wd.heap.size, 0, none⟩) 1 1 [(1,s,(0,false))] rfl hVn (by omega) hBase ?_
        intro v9 W3 hO1 hg1 hat1
        rw [show es.length + 1 = (es ++ [(1,s,(0,false))]).length by simp] at hO1
        obtain ⟨A9, d9, rfl, _, _, hx1, hx2⟩ := Row.Vals.own hO1
        clear hx1 hx2
        obtain ⟨hT4, hW4⟩ := told_grown hTa hO1 hg1 hat1
        have hF3 := (Kept.of_grown hg1).has hTa.has (own_apart hTa.own (by omega))
        obtain ⟨hS3, hS4⟩ := hSk _ (Kept.of_grown hg1)
        have hS5 := hS4 (.slice A9 (es ++ [(1,s,(0,false))]).length d9)
        have hWw := (hWd.kept ((Kept.refl [] wd).alloc (.cells #[.int .i64 1, .int .i64 (s : Nat), .int .i32 0, .bool false] 51))).trans hW4
        have hPc := ((Kept.of_grown hg1).has hPa hpv).far (p := ⟨T, 0, none⟩) (by show p ≠ T; omega) (.slice A9 (es ++ [(1,s,(0,false))]).length d9)
        obtain ⟨q9, hq9⟩ : ∃ q, (es ++ [(1,s,(0,false))]).length = q := ⟨_, rfl⟩
        rw [hq9] at hT4 hW4 hS5 hPc hWw ⊢
        clear hq9
        refine hK.out _ _ hS3 (fun hHeld4 => ?_)
        clear hK K
        (try simp only [Act.put, List.setIfInBounds_toArray, List.set_cons_zero, List.set_cons_succ])
        refine Reg.take (i := 12) (v := ?v12) rfl (by kernel_rfl) (by kernel_rfl) (by kernel_rfl) (by rfl) ?hv12 (by assumption) ?rest12
        case hv12 => first | (intro w hSw; (try dsimp only at hSw); go_simp; done) | (intro w hSw; (try dsimp only at hSw); go_simp; with_reducible rfl)
        (try simp only [Act.put, List.setIfInBounds_toArray, List.set_cons_zero, List.set_cons_succ])
        refine Reg.take (i := 13) (v := ?v13) rfl (by kernel_rfl) (by kernel_rfl) (by kernel_rfl) (by rfl) ?hv13 (by assumption) ?rest13
        case hv13 => first | (intro w hSw; (try dsimp only at hSw); go_simp; done) | (intro w hSw; (try dsimp only at hSw); go_simp; with_reducible rfl)
        (try simp only [Act.put, List.setIfInBounds_toArray, List.set_cons_zero, List.set_cons_succ])
        refine Reg.call (i := 14) rfl (by kernel_rfl) (by rfl) ?_
        intro K hK
        have t1 := hF3.cell 0
        have g1 := hF3.frozen 0
        go_simp
        refine hK.out _ _ hS5 (fun hHeld5 => ?_)
        clear hK K
        (try simp only [Act.put, List.setIfInBounds_toArray, List.set_cons_zero, List.set_cons_succ])
        refine Reg.done (by kernel_rfl) ?_ _
        clear hS3 hS4 hS5 hHeld4 hHeld5 t1 g1 hO1 hg1 hat1 hW4 hF3
        generalize W3.setCell ⟨T, 0, none⟩ (.slice A9 q9 d9) = wc at *
        generalize Value.slice A9 q9 d9 = v9 at *
        clear hTa hVn hBase hSk l1 l2 hTd hWd hPa hPd
        clear hHeld hHeld2 hHeld3 hpv hS0 hS1
        have q1c : wc.cell? ⟨p, 1, none⟩ = some (.slice A L c) := hPc.cell 1
        have f4 := hT4.has.frozen 4
        have u4 : wc.cell? ⟨T, 4, none⟩ = some (.int .i64 (en : Nat)) := hT4.has.cell 4
        go_wp2
        have hk4 := (Kept.refl [T] wc).setCell (p := ⟨T, 4, none⟩) (.inl (by simp)) (.int .i64 (to : Nat))
        have hTt := hT4.set hk4 (by have := hT4.has.set_ 4 (.int .i64 (to : Nat)); simpa using this)
        have hWt := hWw.trans (went_set hk4)
        generalize wc.setCell ⟨T, 4, none⟩ (.int .i64 (to : Nat)) = wt at *
        clear hT4 hWw hk4
        clear hPc
        have hes1 : (es++[(1,s,(0,false))]).length ≤ 90001 := by first | omega | (rw [List.length_append, List.length_singleton]; omega)
        obtain ⟨es1, hes9⟩ : ∃ z, z = (es++[(1,s,(0,false))]) := ⟨_, rfl⟩
        rw [← hes9] at hes1 hTt
        have HES := Lib.hid hes9
        clear hnxt hes9
        go_loopw [63] (fun i wr => ∃ (j : Nat) (v2 : Value), j ≤ L ∧ i = .int .i64 (j : Nat) ∧ ToldIs wr T v2 (es1 ++ evS s (ls.take j)) (s + j) true q1 to ∧ Went T w v wr v2) (fun i _ => L - (intOf i).toNat)
        case atStart => exact ⟨0, _, by omega, rfl, by rw [List.take_zero]; show ToldIs _ T _ (es1 ++ []) s true q1 to; rw [List.append_nil]; exact hTt, hWt⟩
        case round =>
          obtain ⟨j, v2, hj, rfl, hTr, hWr⟩ := hrel
          by_cases hjL : j < L
          · obtain ⟨x, rfl, _⟩ := hv.cells (by omega)
            have hvr := hv.kept hWr.1 (fun _ y hy => by
              obtain ⟨h1, h2⟩ := hfar y hy
              intro hm
              rcases List.mem_cons.1 hm with e | e
              · exact h1 e
              · exact h2 (by simpa using e : v.ownBlock = some y.block).symm)
            obtain ⟨m0, m1⟩ := samp_cells hvr j hjL
            have hstp : evS s (ls.take (j + 1)) = evS s (ls.take j) ++ [(2, s + j, ls.getD j (0, false))] := by
              rw [take_step ls (0, false) j (by omega), evS_append, List.length_take, Nat.min_eq_left (by omega)]; rfl
            obtain ⟨⟨z, o⟩, hzo⟩ : ∃ q, ls.getD j (0, false) = q := ⟨_, rfl⟩
            rw [hzo] at m0 m1 hstp
            dsimp only at m0 m1
            have HST := Lib.hid hstp
            have hsm := sample_any T v2 (es1 ++ evS s (ls.take j)) (s + j) q1 to true z o (wr.alloc (.cells #[.int .i32 z, .bool o] 49)) (hTr.kept ((Kept.refl [] wr).alloc _)) (by omega) (by rw [List.length_append, evS_length, List.length_take]; omega)
            have hWa := hWr.kept ((Kept.refl [] wr).alloc (.cells #[.int .i32 z, .bool o] 49))
            clear hstp hzo hvr hTt hWt
            go_wp2_with (go_at_call 30; ((with_reducible refine hsm.mono ?_); rintro e W1 ⟨rfl, v3, hT3, hW3⟩))
            go_roundw
            case rel => exact ⟨j + 1, v3, by omega, by go_num, by rw [HST.out, ← List.append_assoc, ← Nat.add_assoc]; exact hT3, hWa.trans hW3⟩
            case measure => simp [intOf]; omega
          · have hjL2 : j = L := by omega
            subst hjL2
            rw [List.take_of_length_le (by omega)] at hTr
            clear hTt hWt
            go_wp2
            go_end0
            exact ⟨rfl, v2, by have h9 := HES.out; subst h9; rw [hll]; exact hTr, hWr⟩
  | true =>
    by_cases hqn : q = nx
    · subst hqn
      have hI : inO true q q = true := by simp [inO]
      simp only [hI, if_true]
      by_cases hat : at_ = en
      · subst hat
        simp only [ne_eq, not_true_eq_false, if_false, List.append_nil]
        go_enter Try.func25, Try.ntmps25
        go_wp2
        go_quiet (fail)
        go_wp2_with (go_at_call 29; ((with_reducible refine (hnxt _).mono ?_); rintro e W1 ⟨rfl, rfl⟩))
        obtain ⟨wb, hwb⟩ : ∃ W, W = (((w.alloc (.cells #[.int .u8 (q : Nat), .slice A L c] 34)).drewN nq).setCell ⟨T, 2, none⟩ (.bool true)).setCell ⟨T, 3, none⟩ (.int .u8 (q1 : Nat)) := ⟨_, rfl⟩
        rw [← hwb]
        have hkB : Kept [T] w wb := by rw [hwb]; exact (((hkA.drewN nq).wide (T := [T]) (by simp)).setCell (p := ⟨T, 2, none⟩) (.inl (by simp)) _).setCell (p := ⟨T, 3, none⟩) (.inl (by simp)) _
        have hHB : Has wb T 63 #[v, .int .i64 (s : Nat), .bool true, .int .u8 (q1 : Nat), .int .i64 (at_ : Nat)] := by
          have := ((hTA.has.drewN nq).set_ 2 (.bool true)).set_ 3 (.int .u8 (q1 : Nat))
          rw [hwb]; simpa using this
        have hPB : Has wb p 34 #[.int .u8 (q : Nat), .slice A L c] := by
          rw [hwb]
          exact ((hPA.drewN nq).far (p := ⟨T, 2, none⟩) (by show p ≠ T; omega) _).far (p := ⟨T, 3, none⟩) (by show p ≠ T; omega) _
        have hTB := h.set hkB hHB
        have hWB := went_set (v := v) hkB
        have hvB := hv.kept hkB (fun _ x hx => by simpa using (hfar x hx).1)
        clear hkA hTA hPA hwb c2 c3 c4 p0 f2 f3 f4 hkB hHB
        have hk4 := (Kept.refl [T] wb).setCell (p := ⟨T, 4, none⟩) (.inl (by simp)) (.int .i64 (to : Nat))
        have hTt := hTB.set hk4 (by have := hTB.has.set_ 4 (.int .i64 (to : Nat)); simpa using this)
        have hWt := hWB.trans (went_set hk4)
        generalize wb.setCell ⟨T, 4, none⟩ (.int .i64 (to : Nat)) = wt at *
        clear hTB hWB hk4
        clear hPB hvB
        have hes1 : es.length ≤ 90001 := by first | omega | (rw [List.length_append, List.length_singleton]; omega)
        obtain ⟨es1, hes9⟩ : ∃ z, z = es := ⟨_, rfl⟩
        rw [← hes9] at hes1 hTt
        have HES := Lib.hid hes9
        clear hnxt hes9
        go_loopw [63] (fun i wr => ∃ (j : Nat) (v2 : Value), j ≤ L ∧ i = .int .i64 (j : Nat) ∧ ToldIs wr T v2 (es1 ++ evS s (ls.take j)) (s + j) true q1 to ∧ Went T w v wr v2) (fun i _ => L - (intOf i).toNat)
        case atStart => exact ⟨0, _, by omega, rfl, by rw [List.take_zero]; show ToldIs _ T _ (es1 ++ []) s true q1 to; rw [List.append_nil]; exact hTt, hWt⟩
        case round =>
          obtain ⟨j, v2, hj, rfl, hTr, hWr⟩ := hrel
          by_cases hjL : j < L
          · obtain ⟨x, rfl, _⟩ := hv.cells (by omega)
            have hvr := hv.kept hWr.1 (fun _ y hy => by
              obtain ⟨h1, h2⟩ := hfar y hy
              intro hm
              rcases List.mem_cons.1 hm with e | e
              · exact h1 e
              · exact h2 (by simpa using e : v.ownBlock = some y.block).symm)
            obtain ⟨m0, m1⟩ := samp_cells hvr j hjL
            have hstp : evS s (ls.take (j + 1)) = evS s (ls.take j) ++ [(2, s + j, ls.getD j (0, false))] := by
              rw [take_step ls (0, false) j (by omega), evS_append, List.length_take, Nat.min_eq_left (by omega)]; rfl
            obtain ⟨⟨z, o⟩, hzo⟩ : ∃ q, ls.getD j (0, false) = q := ⟨_, rfl⟩
            rw [hzo] at m0 m1 hstp
            dsimp only at m0 m1
            have HST := Lib.hid hstp
            have hsm := sample_any T v2 (es1 ++ evS s (ls.take j)) (s + j) q1 to true z o (wr.alloc (.cells #[.int .i32 z, .bool o] 49)) (hTr.kept ((Kept.refl [] wr).alloc _)) (by omega) (by rw [List.length_append, evS_length, List.length_take]; omega)
            have hWa := hWr.kept ((Kept.refl [] wr).alloc (.cells #[.int .i32 z, .bool o] 49))
            clear hstp hzo hvr hTt hWt
            go_wp2_with (go_at_call 30; ((with_reducible refine hsm.mono ?_); rintro e W1 ⟨rfl, v3, hT3, hW3⟩))
            go_roundw
            case rel => exact ⟨j + 1, v3, by omega, by go_num, by rw [HST.out, ← List.append_assoc, ← Nat.add_assoc]; exact hT3, hWa.trans hW3⟩
            case measure => simp [intOf]; omega
          · have hjL2 : j = L := by omega
            subst hjL2
            rw [List.take_of_length_le (by omega)] at hTr
            clear hTt hWt
            go_wp2
            go_end0
            exact ⟨rfl, v2, by have h9 := HES.out; subst h9; rw [hll]; exact hTr, hWr⟩
      · have hatz : ¬ (at_ : Int) = (en : Int) := by omega
        simp only [ne_eq, hat, not_false_eq_true, if_true]
        go_enter Try.func25, Try.ntmps25
        go_wp2
        go_quiet (fail)
        go_wp2_with (go_at_call 29; ((with_reducible refine (hnxt _).mono ?_); rintro e W1 ⟨rfl, rfl⟩))
        obtain ⟨wb, hwb⟩ : ∃ W, W = (((w.alloc (.cells #[.int .u8 (q : Nat), .slice A L c] 34)).drewN nq).setCell ⟨T, 2, none⟩ (.bool true)).setCell ⟨T, 3, none⟩ (.int .u8 (q1 : Nat)) := ⟨_, rfl⟩
        rw [← hwb]
        have hkB : Kept [T] w wb := by rw [hwb]; exact (((hkA.drewN nq).wide (T := [T]) (by simp)).setCell (p := ⟨T, 2, none⟩) (.inl (by simp)) _).setCell (p := ⟨T, 3, none⟩) (.inl (by simp)) _
        have hHB : Has wb T 63 #[v, .int .i64 (s : Nat), .bool true, .int .u8 (q1 : Nat), .int .i64 (en : Nat)] := by
          have := ((hTA.has.drewN nq).set_ 2 (.bool true)).set_ 3 (.int .u8 (q1 : Nat))
          rw [hwb]; simpa using this
        have hPB : Has wb p 34 #[.int .u8 (q : Nat), .slice A L c] := by
          rw [hwb]
          exact ((hPA.drewN nq).far (p := ⟨T, 2, none⟩) (by show p ≠ T; omega) _).far (p := ⟨T, 3, none⟩) (by show p ≠ T; omega) _
        have hTB := h.set hkB hHB
        have hWB := went_set (v := v) hkB
        have hvB := hv.kept hkB (fun _ x hx => by simpa using (hfar x hx).1)
        clear hkA hTA hPA hwb c2 c3 c4 p0 f2 f3 f4 hkB hHB
        clear hvB
        refine Reg.begin_ (S := fun W => W.cell? ⟨T, 1, none⟩ = some (.int .i64 (s : Nat))) (by kernel_rfl) (by exact hTB.has.cell 1) (fun hHeld => ?_)
        have hTd : ToldIs wb.drew T v es s true q1 en := hTB.kept ((Kept.refl [] wb).drewN 1)
        have hWd : Went T w v wb.drew v := hWB.kept ((Kept.refl [] wb).drewN 1)
        have hPd : Has wb.drew p 34 #[.int .u8 (q : Nat), .slice A L c] := hPB
        generalize wb.drew = wd at *
        clear hTB hWB hPB
        clear wb
        refine Reg.take (i := 0) (v := ?v14) rfl (by kernel_rfl) (by kernel_rfl) (by kernel_rfl) (by rfl) ?hv14 (by assumption) ?rest14
        case hv14 => first | (intro w hSw; (try dsimp only at hSw); go_simp; done) | (intro w hSw; (try dsimp only at hSw); go_simp; with_reducible rfl)
        (try simp only [Act.put, List.setIfInBounds_toArray, List.set_cons_zero, List.set_cons_succ])
        refine Reg.take (i := 1) (v := ?v15) rfl (by kernel_rfl) (by kernel_rfl) (by kernel_rfl) (by rfl) ?hv15 (by assumption) ?rest15
        case hv15 => first | (intro w hSw; (try dsimp only at hSw); go_simp; done) | (intro w hSw; (try dsimp only at hSw); go_simp; with_reducible rfl)
        (try simp only [Act.put, List.setIfInBounds_toArray, List.set_cons_zero, List.set_cons_succ])
        refine Reg.take (i := 2) (v := ?v16) rfl (by kernel_rfl) (by kernel_rfl) (by kernel_rfl) (by rfl) ?hv16 (by assumption) ?rest16
        case hv16 => first | (intro w hSw; (try dsimp only at hSw); go_simp; done) | (intro w hSw; (try dsimp only at hSw); go_simp; with_reducible rfl)
        (try simp only [Act.put, List.setIfInBounds_toArray, List.set_cons_zero, List.set_cons_succ])
        refine Reg.take (i := 3) (v := ?v17) rfl (by kernel_rfl) (by kernel_rfl) (by kernel_rfl) (by rfl) ?hv17 (by assumption) ?rest17
        case hv17 => first | (intro w hSw; (try dsimp only at hSw); go_simp; done) | (intro w hSw; (try dsimp only at hSw); go_simp; with_reducible rfl)
        (try simp only [Act.put, List.setIfInBounds_toArray, List.set_cons_zero, List.set_cons_succ])
        refine Reg.take (i := 5) (v := ?v18) rfl (by kernel_rfl) (by kernel_rfl) (by kernel_rfl) (by rfl) ?hv18 (by assumption) ?rest18
        case hv18 => first | (intro w hSw; (try dsimp only at hSw); go_simp; done) | (intro w hSw; (try dsimp only at hSw); go_simp; with_reducible rfl)
        (try simp only [Act.put, List.setIfInBounds_toArray, List.set_cons_zero, List.set_cons_succ])
        refine Reg.take (i := 6) (v := ?v19) rfl (by kernel_rfl) (by kernel_rfl) (by kernel_rfl) (by rfl) ?hv19 (by assumption) ?rest19
        case hv19 => first | (intro w hSw; (try dsimp only at hSw); go_simp; done) | (intro w hSw; (try dsimp only at hSw); go_simp; with_reducible rfl)
        (try simp only [Act.put, List.setIfInBounds_toArray, List.set_cons_zero, List.set_cons_succ])
        refine Reg.take (i := 7) (v := ?v20) rfl (by kernel_rfl) (by kernel_rfl) (by kernel_rfl) (by rfl) ?hv20 (by assumption) ?rest20
        case hv20 => first | (intro w hSw; (try dsimp only at hSw); go_simp; done) | (intro w hSw; (try dsimp only at hSw); go_simp; with_reducible rfl)
        (try simp only [Act.put, List.setIfInBounds_toArray, List.set_cons_zero, List.set_cons_succ])
        refine Reg.take (i := 8) (v := ?v21) rfl (by kernel_rfl) (by kernel_rfl) (by kernel_rfl) (by rfl) ?hv21 (by assumption) ?rest21
        case hv21 => first | (intro w hSw; (try dsimp only at hSw); go_simp; done) | (intro w hSw; (try dsimp only at hSw); go_simp; with_reducible rfl)
        (try simp only [Act.put, List.setIfInBounds_toArray, List.set_cons_zero, List.set_cons_succ])
        refine Reg.take (i := 9) (v := ?v22) rfl (by kernel_rfl) (by kernel_rfl) (by kernel_rfl) (by rfl) ?hv22 (by assumption) ?rest22
        case hv22 => first | (intro w hSw; (try dsimp only at hSw); go_simp; done) | (intro w hSw; (try dsimp only at hSw); go_simp; with_reducible rfl)
        (try simp only [Act.put, List.setIfInBounds_toArray, List.set_cons_zero, List.set_cons_succ])
        have l1 : wd.cell? ⟨T, 0, none⟩ = some v := hTd.has.cell 0
        have hTa := hTd.kept ((Kept.refl [] wd).alloc (.cells #[.int .i64 1, .int .i64 (s : Nat), .int .i32 0, .bool false] 51))
        have hPa := hPd.alloc (.cells #[.int .i64 1, .int .i64 (s : Nat), .int .i32 0, .bool false] 51)
        have hVn : Row.Vals evSh (wd.alloc (.cells #[.int .i64 1, .int .i64 (s : Nat), .int .i32 0, .bool false] 51)) (some ⟨wd.heap.size, 0, none⟩) 1 [(1,s,(0,false))] := one_new wd 51 (1, s, (0, false))
        have l2 : (wd.alloc (.cells #[.int .i64 1, .int .i64 (s : Nat), .int .i32 0, .bool false] 51)).cell? ⟨T, 0, none⟩ = some v := hTa.has.cell 0
        have hBase : T + 1 ≤ (wd.alloc (.cells #[.int .i64 1, .int .i64 (s : Nat), .int .i32 0, .bool false] 51)).heap.size := by have := hTa.has.lt; omega
        have hpv : p ∉ v.ownBlock.toList := by
          intro hm
          have := (own_block h.own p (by simpa using hm)).2
          omega
        have hS0 := hHeld
        have hS1 : (wd.alloc (.cells #[.int .i64 1, .int .i64 (s : Nat), .int .i32 0, .bool false] 51)).cell? ⟨T, 1, none⟩ = some (.int .i64 (s : Nat)) := hTa.has.cell 1
        have hSk := fun (W : World) (hk : Kept v.ownBlock.toList (wd.alloc (.cells #[.int .i64 1, .int .i64 (s : Nat), .int .i32 0, .bool false] 51)) W) => (⟨(hk.has hTa.has (own_apart hTa.own (by omega))).cell 1, fun u => ((hk.has hTa.has (own_apart hTa.own (by omega))).set_ 0 u).cell 1⟩ : W.cell? ⟨T, 1, none⟩ = some (.int .i64 (s : Nat)) ∧ ∀ u, (W.setCell ⟨T, 0, none⟩ u).cell? ⟨T, 1, none⟩ = some (.int .i64 (s : Nat)))
        refine Reg.call2 (i := 4) (j := 10) rfl rfl (by kernel_rfl) (by rfl) (by rfl) ?_ ?_
        · intro K hK
          go_simp
          refine hK.out _ _ hS0 (fun hHeld2 => ?_)
          clear hK K
          (try simp only [Act.put, List.setIfInBounds_toArray, List.set_cons_zero, List.set_cons_succ])
          refine Reg.call (i := 10) rfl (by kernel_rfl) (by rfl) ?_
          intro K hK
          go_simp
          refine hK.out _ _ hS1 (fun hHeld3 => ?_)
          clear hK K
          (try simp only [Act.put, List.setIfInBounds_toArray, List.set_cons_zero, List.set_cons_succ])
          refine Reg.call (i := 11) rfl (by kernel_rfl) (by rfl) ?_
          intro K hK
          refine Row.wp_append (S := evSh) (.tmp 46) (.tmp 52) _ rfl (T + 1) 51 _ 24 (by omega) Try.underlying39 HInfo.out (by kernel_rfl) v es.length es rfl hTa.own (some ⟨wd.heap.size, 0, none⟩) 1 1 [(1,s,(0,false))] rfl hVn (by omega) hBase ?_
          intro v9 W3 hO1 hg1 hat1
          rw [show es.length + 1 = (es ++ [(1,s,(0,false))]).length by simp] at hO1
          obtain ⟨A9, d9, rfl, _, _, hx1, hx2⟩ := Row.Vals.own hO1
          clear hx1 hx2
          obtain ⟨hT4, hW4⟩ := told_grown hTa hO1 hg1 hat1
          have hF3 := (Kept.of_grown hg1).has hTa.has (own_apart hTa.own (by omega))
          obtain ⟨hS3, hS4⟩ := hSk _ (Kept.of_grown hg1)
          have hS5 := hS4 (.slice A9 (es ++ [(1,s,(0,false))]).length d9)
          have hWw := (hWd.kept ((Kept.refl [] wd).alloc (.cells #[.int .i64 1, .int .i64 (s : Nat), .int .i32 0, .bool false] 51))).trans hW4
          have hPc := ((Kept.of_grown hg1).has hPa hpv).far (p := ⟨T, 0, none⟩) (by show p ≠ T; omega) (.slice A9 (es ++ [(1,s,(0,false))]).length d9)
          obtain ⟨q9, hq9⟩ : ∃ q, (es ++ [(1,s,(0,false))]).length = q := ⟨_, rfl⟩
          rw [hq9] at hT4 hW4 hS5 hPc hWw ⊢
          clear hq9
          refine hK.out _ _ hS3 (fun hHeld4 => ?_)
          clear hK K
          (try simp only [Act.put, List.setIfInBounds_toArray, List.set_cons_zero, List.set_cons_succ])
          refine Reg.take (i := 12) (v := ?v23) rfl (by kernel_rfl) (by kernel_rfl) (by kernel_rfl) (by rfl) ?hv23 (by assumption) ?rest23
          case hv23 => first | (intro w hSw; (try dsimp only at hSw); go_simp; done) | (intro w hSw; (try dsimp only at hSw); go_simp; with_reducible rfl)
          (try simp only [Act.put, List.setIfInBounds_toArray, List.set_cons_zero, List.set_cons_succ])
          refine Reg.take (i := 13) (v := ?v24) rfl (by kernel_rfl) (by kernel_rfl) (by kernel_rfl) (by rfl) ?hv24 (by assumption) ?rest24
          case hv24 => first | (intro w hSw; (try dsimp only at hSw); go_simp; done) | (intro w hSw; (try dsimp only at hSw); go_simp; with_reducible rfl)
          (try simp only [Act.put, List.setIfInBounds_toArray, List.set_cons_zero, List.set_cons_succ])
          refine Reg.call (i := 14) rfl (by kernel_rfl) (by rfl) ?_
          intro K hK
          have t1 := hF3.cell 0
          have g1 := hF3.frozen 0
          go_simp
          refine hK.out _ _ hS5 (fun hHeld5 => ?_)
          clear hK K
          (try simp only [Act.put, List.setIfInBounds_toArray, List.set_cons_zero, List.set_cons_succ])
          refine Reg.done (by kernel_rfl) ?_ _
          clear hS3 hS4 hS5 hHeld4 hHeld5 t1 g1 hO1 hg1 hat1 hW4 hF3
          generalize W3.setCell ⟨T, 0, none⟩ (.slice A9 q9 d9) = wc at *
          generalize Value.slice A9 q9 d9 = v9 at *
          clear hTa hVn hBase hSk l1 l2 hTd hWd hPa hPd
          clear hHeld hHeld2 hHeld3 hpv hS0 hS1
          have q1c : wc.cell? ⟨p, 1, none⟩ = some (.slice A L c) := hPc.cell 1
          have f4 := hT4.has.frozen 4
          have u4 : wc.cell? ⟨T, 4, none⟩ = some (.int .i64 (en : Nat)) := hT4.has.cell 4
          go_wp2
          have hk4 := (Kept.refl [T] wc).setCell (p := ⟨T, 4, none⟩) (.inl (by simp)) (.int .i64 (to : Nat))
          have hTt := hT4.set hk4 (by have := hT4.has.set_ 4 (.int .i64 (to : Nat)); simpa using this)
          have hWt := hWw.trans (went_set hk4)
          generalize wc.setCell ⟨T, 4, none⟩ (.int .i64 (to : Nat)) = wt at *
          clear hT4 hWw hk4
          clear hPc
          have hes1 : (es++[(1,s,(0,false))]).length ≤ 90001 := by first | omega | (rw [List.length_append, List.length_singleton]; omega)
          obtain ⟨es1, hes9⟩ : ∃ z, z = (es++[(1,s,(0,false))]) := ⟨_, rfl⟩
          rw [← hes9] at hes1 hTt
          have HES := Lib.hid hes9
          clear hnxt hes9
          go_loopw [63] (fun i wr => ∃ (j : Nat) (v2 : Value), j ≤ L ∧ i = .int .i64 (j : Nat) ∧ ToldIs wr T v2 (es1 ++ evS s (ls.take j)) (s + j) true q1 to ∧ Went T w v wr v2) (fun i _ => L - (intOf i).toNat)
          case atStart => exact ⟨0, _, by omega, rfl, by rw [List.take_zero]; show ToldIs _ T _ (es1 ++ []) s true q1 to; rw [List.append_nil]; exact hTt, hWt⟩
          case round =>
            obtain ⟨j, v2, hj, rfl, hTr, hWr⟩ := hrel
            by_cases hjL : j < L
            · obtain ⟨x, rfl, _⟩ := hv.cells (by omega)
              have hvr := hv.kept hWr.1 (fun _ y hy => by
                obtain ⟨h1, h2⟩ := hfar y hy
                intro hm
                rcases List.mem_cons.1 hm with e | e
                · exact h1 e
                · exact h2 (by simpa using e : v.ownBlock = some y.block).symm)
              obtain ⟨m0, m1⟩ := samp_cells hvr j hjL
              have hstp : evS s (ls.take (j + 1)) = evS s (ls.take j) ++ [(2, s + j, ls.getD j (0, false))] := by
                rw [take_step ls (0, false) j (by omega), evS_append, List.length_take, Nat.min_eq_left (by omega)]; rfl
              obtain ⟨⟨z, o⟩, hzo⟩ : ∃ q, ls.getD j (0, false) = q := ⟨_, rfl⟩
              rw [hzo] at m0 m1 hstp
              dsimp only at m0 m1
              have HST := Lib.hid hstp
              have hsm := sample_any T v2 (es1 ++ evS s (ls.take j)) (s + j) q1 to true z o (wr.alloc (.cells #[.int .i32 z, .bool o] 49)) (hTr.kept ((Kept.refl [] wr).alloc _)) (by omega) (by rw [List.length_append, evS_length, List.length_take]; omega)
              have hWa := hWr.kept ((Kept.refl [] wr).alloc (.cells #[.int .i32 z, .bool o] 49))
              clear hstp hzo hvr hTt hWt
              go_wp2_with (go_at_call 30; ((with_reducible refine hsm.mono ?_); rintro e W1 ⟨rfl, v3, hT3, hW3⟩))
              go_roundw
              case rel => exact ⟨j + 1, v3, by omega, by go_num, by rw [HST.out, ← List.append_assoc, ← Nat.add_assoc]; exact hT3, hWa.trans hW3⟩
              case measure => simp [intOf]; omega
            · have hjL2 : j = L := by omega
              subst hjL2
              rw [List.take_of_length_le (by omega)] at hTr
              clear hTt hWt
              go_wp2
              go_end0
              exact ⟨rfl, v2, by have h9 := HES.out; subst h9; rw [hll]; exact hTr, hWr⟩
        · intro K hK
          go_simp
          refine hK.out _ _ hS1 (fun hHeld2 => ?_)
          clear hK K
          (try simp only [Act.put, List.setIfInBounds_toArray, List.set_cons_zero, List.set_cons_succ])
          refine Reg.call (i := 4) rfl (by kernel_rfl) (by rfl) ?_
          intro K hK
          go_simp
          refine hK.out _ _ hS1 (fun hHeld3 => ?_)
          clear hK K
          (try simp only [Act.put, List.setIfInBounds_toArray, List.set_cons_zero, List.set_cons_succ])
          refine Reg.call (i := 11) rfl (by kernel_rfl) (by rfl) ?_
          intro K hK
          refine Row.wp_append (S := evSh) (.tmp 46) (.tmp 52) _ rfl (T + 1) 51 _ 24 (by omega) Try.underlying39 HInfo.out (by kernel_rfl) v es.length es rfl hTa.own (some ⟨wd.heap.size, 0, none⟩) 1 1 [(1,s,(0,false))] rfl hVn (by omega) hBase ?_
          intro v9 W3 hO1 hg1 hat1
          rw [show es.length + 1 = (es ++ [(1,s,(0,false))]).length by simp] at hO1
          obtain ⟨A9, d9, rfl, _, _, hx1, hx2⟩ := Row.Vals.own hO1
          clear hx1 hx2
          obtain ⟨hT4, hW4⟩ := told_grown hTa hO1 hg1 hat1
          have hF3 := (Kept.of_grown hg1).has hTa.has (own_apart hTa.own (by omega))
          obtain ⟨hS3, hS4⟩ := hSk _ (Kept.of_grown hg1)
          have hS5 := hS4 (.slice A9 (es ++ [(1,s,(0,false))]).length d9)
          have hWw := (hWd.kept ((Kept.refl [] wd).alloc (.cells #[.int .i64 1, .int .i64 (s : Nat), .int .i32 0, .bool false] 51))).trans hW4
          have hPc := ((Kept.of_grown hg1).has hPa hpv).far (p := ⟨T, 0, none⟩) (by show p ≠ T; omega) (.slice A9 (es ++ [(1,s,(0,false))]).length d9)
          obtain ⟨q9, hq9⟩ : ∃ q, (es ++ [(1,s,(0,false))]).length = q := ⟨_, rfl⟩
          rw [hq9] at hT4 hW4 hS5 hPc hWw ⊢
          clear hq9
          refine hK.out _ _ hS3 (fun hHeld4 => ?_)
          clear hK K
          (try simp only [Act.put, List.setIfInBounds_toArray, List.set_cons_zero, List.set_cons_succ])
          refine Reg.take (i := 12) (v := ?v25) rfl (by kernel_rfl) (by kernel_rfl) (by kernel_rfl) (by rfl) ?hv25 (by assumption) ?rest25
          case hv25 => first | (intro w hSw; (try dsimp only at hSw); go_simp; done) | (intro w hSw; (try dsimp only at hSw); go_simp; with_reducible rfl)
          (try simp only [Act.put, List.setIfInBounds_toArray, List.set_cons_zero, List.set_cons_succ])
          refine Reg.take (i := 13) (v := ?v26) rfl (by kernel_rfl) (by kernel_rfl) (by kernel_rfl) (by rfl) ?hv26 (by assumption) ?rest26
          case hv26 => first | (intro w hSw; (try dsimp only at hSw); go_simp; done) | (intro w hSw; (try dsimp only at hSw); go_simp; with_reducible rfl)
          (try simp only [Act.put, List.setIfInBounds_toArray, List.set_cons_zero, List.set_cons_succ])
          refine Reg.call (i := 14) rfl (by kernel_rfl) (by rfl) ?_
          intro K hK
          have t1 := hF3.cell 0
          have g1 := hF3.frozen 0
          go_simp
          refine hK.out _ _ hS5 (fun hHeld5 => ?_)
          clear hK K
          (try simp only [Act.put, List.setIfInBounds_toArray, List.set_cons_zero, List.set_cons_succ])
          refine Reg.done (by kernel_rfl) ?_ _
          clear hS3 hS4 hS5 hHeld4 hHeld5 t1 g1 hO1 hg1 hat1 hW4 hF3
          generalize W3.setCell ⟨T, 0, none⟩ (.slice A9 q9 d9) = wc at *
          generalize Value.slice A9 q9 d9 = v9 at *
          clear hTa hVn hBase hSk l1 l2 hTd hWd hPa hPd
          clear hHeld hHeld2 hHeld3 hpv hS0 hS1
          have q1c : wc.cell? ⟨p, 1, none⟩ = some (.slice A L c) := hPc.cell 1
          have f4 := hT4.has.frozen 4
          have u4 : wc.cell? ⟨T, 4, none⟩ = some (.int .i64 (en : Nat)) := hT4.has.cell 4
          go_wp2
          have hk4 := (Kept.refl [T] wc).setCell (p := ⟨T, 4, none⟩) (.inl (by simp)) (.int .i64 (to : Nat))
          have hTt := hT4.set hk4 (by have := hT4.has.set_ 4 (.int .i64 (to : Nat)); simpa using this)
          have hWt := hWw.trans (went_set hk4)
          generalize wc.setCell ⟨T, 4, none⟩ (.int .i64 (to : Nat)) = wt at *
          clear hT4 hWw hk4
          clear hPc
          have hes1 : (es++[(1,s,(0,false))]).length ≤ 90001 := by first | omega | (rw [List.length_append, List.length_singleton]; omega)
          obtain ⟨es1, hes9⟩ : ∃ z, z = (es++[(1,s,(0,false))]) := ⟨_, rfl⟩
          rw [← hes9] at hes1 hTt
          have HES := Lib.hid hes9
          clear hnxt hes9
          go_loopw [63] (fun i wr => ∃ (j : Nat) (v2 : Value), j ≤ L ∧ i = .int .i64 (j : Nat) ∧ ToldIs wr T v2 (es1 ++ evS s (ls.take j)) (s + j) true q1 to ∧ Went T w v wr v2) (fun i _ => L - (intOf i).toNat)
          case atStart => exact ⟨0, _, by omega, rfl, by rw [List.take_zero]; show ToldIs _ T _ (es1 ++ []) s true q1 to; rw [List.append_nil]; exact hTt, hWt⟩
          case round =>
            obtain ⟨j, v2, hj, rfl, hTr, hWr⟩ := hrel
            by_cases hjL : j < L
            · obtain ⟨x, rfl, _⟩ := hv.cells (by omega)
              have hvr := hv.kept hWr.1 (fun _ y hy => by
                obtain ⟨h1, h2⟩ := hfar y hy
                intro hm
                rcases List.mem_cons.1 hm with e | e
                · exact h1 e
                · exact h2 (by simpa using e : v.ownBlock = some y.block).symm)
              obtain ⟨m0, m1⟩ := samp_cells hvr j hjL
              have hstp : evS s (ls.take (j + 1)) = evS s (ls.take j) ++ [(2, s + j, ls.getD j (0, false))] := by
                rw [take_step ls (0, false) j (by omega), evS_append, List.length_take, Nat.min_eq_left (by omega)]; rfl
              obtain ⟨⟨z, o⟩, hzo⟩ : ∃ q, ls.getD j (0, false) = q := ⟨_, rfl⟩
              rw [hzo] at m0 m1 hstp
              dsimp only at m0 m1
              have HST := Lib.hid hstp
              have hsm := sample_any T v2 (es1 ++ evS s (ls.take j)) (s + j) q1 to true z o (wr.alloc (.cells #[.int .i32 z, .bool o] 49)) (hTr.kept ((Kept.refl [] wr).alloc _)) (by omega) (by rw [List.length_append, evS_length, List.length_take]; omega)
              have hWa := hWr.kept ((Kept.refl [] wr).alloc (.cells #[.int .i32 z, .bool o] 49))
              clear hstp hzo hvr hTt hWt
              go_wp2_with (go_at_call 30; ((with_reducible refine hsm.mono ?_); rintro e W1 ⟨rfl, v3, hT3, hW3⟩))
              go_roundw
              case rel => exact ⟨j + 1, v3, by omega, by go_num, by rw [HST.out, ← List.append_assoc, ← Nat.add_assoc]; exact hT3, hWa.trans hW3⟩
              case measure => simp [intOf]; omega
            · have hjL2 : j = L := by omega
              subst hjL2
              rw [List.take_of_length_le (by omega)] at hTr
              clear hTt hWt
              go_wp2
              go_end0
              exact ⟨rfl, v2, by have h9 := HES.out; subst h9; rw [hll]; exact hTr, hWr⟩
    · have hI : inO true nx q = false := by simp [inO, hqn]
      simp only [hI, Bool.false_eq_true, if_false]
      have hqz : ((q : Int) == (nx : Int)) = false := by simp; omega
      go_enter Try.func25, Try.ntmps25
      go_wp2
      go_quiet (fail)
      go_wp2_with (go_at_call 29; ((with_reducible refine (hnxt _).mono ?_); rintro e W1 ⟨rfl, rfl⟩))
      obtain ⟨wb, hwb⟩ : ∃ W, W = (((w.alloc (.cells #[.int .u8 (q : Nat), .slice A L c] 34)).drewN nq).setCell ⟨T, 2, none⟩ (.bool true)).setCell ⟨T, 3, none⟩ (.int .u8 (q1 : Nat)) := ⟨_, rfl⟩
      rw [← hwb]
      have hkB : Kept [T] w wb := by rw [hwb]; exact (((hkA.drewN nq).wide (T := [T]) (by simp)).setCell (p := ⟨T, 2, none⟩) (.inl (by simp)) _).setCell (p := ⟨T, 3, none⟩) (.inl (by simp)) _
      have hHB : Has wb T 63 #[v, .int .i64 (s : Nat), .bool true, .int .u8 (q1 : Nat), .int .i64 (en : Nat)] := by
        have := ((hTA.has.drewN nq).set_ 2 (.bool true)).set_ 3 (.int .u8 (q1 : Nat))
        rw [hwb]; simpa using this
      have hPB : Has wb p 34 #[.int .u8 (q : Nat), .slice A L c] := by
        rw [hwb]
        exact ((hPA.drewN nq).far (p := ⟨T, 2, none⟩) (by show p ≠ T; omega) _).far (p := ⟨T, 3, none⟩) (by show p ≠ T; omega) _
      have hTB := h.set hkB hHB
      have hWB := went_set (v := v) hkB
      have hvB := hv.kept hkB (fun _ x hx => by simpa using (hfar x hx).1)
      clear hkA hTA hPA hwb c2 c3 c4 p0 f2 f3 f4 hkB hHB
      refine bodyPost_ret (results_none rfl _ _ _) rfl ?_
      exact ⟨rfl, v, hTB, hWB⟩
end Go.Proofs.Ytlhjligeigkbnaa.Par
