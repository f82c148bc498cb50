/- The landed queue of orders: what is taken out; Due. -/
import Derived.Test.YtmefdgmbpihdfaaDoorOrderCode
set_option linter.unusedSimpArgs false
set_option linter.unusedVariables false
namespace Go.Proofs.YtmefdgmbpihdfaaDoor.Order
open Go.RowKit
open Alarm (Or orS noOr or_cells)
theorem slice_h (b h : Nat) (h2 : h ≤ 32) : ∀ W, (Instr.sliceAt 71 (.pointer (some ⟨b, 2, none⟩)) none (some (.int .i64 (h : Nat))) none).run Tryd.prog W = .ok (.slice (some ⟨b, 2, none⟩) h 32) W := by
  have hu : Tryd.prog.underlying 71 = some (.array 32 23) := Tryd.underlying71
  have hl : Tryd.prog.arrayLen 71 = 32 := by kernel_rfl
  have he : Tryd.prog.elem 71 = 23 := by kernel_rfl
  have hz : ∀ W, (sizeOf 23).run Tryd.prog W = .ok 3 W := fun W => by kernel_rfl
  intro W
  rw [run_sliceAt_array_h W _ _ (by rw [hl, he]; exact hu) .i64 h (by omega) (by rw [hl]; omega), he, hz, hl]
  simp only [Result.andThen_ok, slicedAt, Int.toNat_natCast]
  rfl
theorem slice_all (b : Nat) : ∀ W, (Instr.sliceAt 71 (.pointer (some ⟨b, 2, none⟩)) none none none).run Tryd.prog W = .ok (.slice (some ⟨b, 2, none⟩) 32 32) W := by
  have hu : Tryd.prog.underlying 71 = some (.array 32 23) := Tryd.underlying71
  have hl : Tryd.prog.arrayLen 71 = 32 := by kernel_rfl
  have he : Tryd.prog.elem 71 = 23 := by kernel_rfl
  have hz : ∀ W, (sizeOf 23).run Tryd.prog W = .ok 3 W := fun W => by kernel_rfl
  intro W
  rw [run_sliceAt_array_all W _ _ (by rw [hl, he]; exact hu), he, hz, hl]
  simp only [Result.andThen_ok, slicedAt]
  rfl
/-- What is taken out: a row of its own; the queue has the others; nothing else has turned. -/
def TookIs (w : World) (b : Nat) (s' : St) (xs : List Or) (e : Ending) (w' : World) : Prop :=
  ∃ V, e = .returned V ∧ w'.ownsRow w.heap.size 23 3 V xs.length (Row.flat orS xs) ∧ Has w' b 73 (cellsQ s') ∧ Kept [b] w w'
theorem took {w W1 Wa W3 : World} {b m n : Nat} {f : Int} {ys : List Or} {t u : TypeId} (hpl : ys.length = 32) (hn : n ≤ 32) (hs1 : w.heap.size ≤ W1.heap.size) (hbW : b < W1.heap.size)
    (hQ2 : Has Wa b t (cellsL m f ys).toArray) (hK2 : Kept [b] w Wa) (hL3 : Has W3 W1.heap.size u (Row.laidT (Row.flat orS (List.replicate n noOr)) 0 (Row.flat orS (((ys.drop 0).take n).take n))).toArray) (hK3 : Kept [W1.heap.size] Wa W3) :
    Has W3 b t (cellsL m f ys).toArray ∧ Kept [b] w W3 ∧ Has W3 W1.heap.size u (Row.flat orS (ys.take n)).toArray ∧ w.heap.size ≤ W1.heap.size := by
  refine ⟨hK3.has hQ2 (by simp; omega), ?_, ?_, hs1⟩
  · have h1 : Kept [b, W1.heap.size] w Wa := hK2.wide (by simp)
    have h2 : Kept [b, W1.heap.size] Wa W3 := hK3.wide (by simp)
    exact (h1.trans h2).wide (fun k hk hkl => by
      simp at hk ⊢
      rcases hk with h | h
      · exact h
      · omega)
  · rw [List.drop_zero, List.take_take, Nat.min_self] at hL3
    have e : Row.laidT (Row.flat orS (List.replicate n noOr)) 0 (Row.flat orS (ys.take n)) = Row.flat orS (ys.take n) := by
      unfold Row.laidT
      rw [List.take_zero, List.nil_append, List.drop_of_length_le (by rw [Row.flat_length, Row.flat_length, List.length_replicate, List.length_take, show min n ys.length = n by omega, Nat.zero_add]; exact Nat.le_refl _), List.append_nil]
    rwa [e] at hL3
set_option maxHeartbeats 2000000 in
theorem take_k (b : Nat) (s : St) (hO : s.l.length ≤ 32) (a : Int) (g : Nat) (w : World) (h : Has w b 73 (cellsQ s)) (hg : w.cell? ⟨g, 0, none⟩ = some (.int .i64 a)) :
    Calls Tryd.prog 35 #[.pointer (some ⟨b, 0, none⟩), .func (.func 45) #[] #[.pointer (some ⟨g, 0, none⟩)]] w (TookIs w b ⟨s.l.drop (due a s.l), s.frm⟩ (s.l.take (due a s.l))) := by
  have hah := ahead_k b s hO a g w h hg
  have hdl := due_le a s.l
  have htp := take_places s.l (due a s.l) hdl hO
  have hgp := got_places s.l (due a s.l) hdl
  have hpl := pad_len s.l hO
  obtain ⟨m, hm⟩ : ∃ m, s.l.length = m := ⟨_, rfl⟩
  obtain ⟨n, hn⟩ : ∃ n, due a s.l = n := ⟨_, rfl⟩
  rw [hn] at hah hdl htp hgp ⊢
  rcases Nat.eq_zero_or_pos n with h0 | h0
  · subst h0
    rw [List.drop_zero, List.take_zero]
    clear htp hgp hpl hm hn hdl
    go_enter Tryd.func35, Tryd.ntmps35
    go_wp2_with (go_at_call 44; ((with_reducible refine hah.mono ?_); rintro e W1 ⟨rfl, hB1⟩))
    go_ret
    exact ⟨_, rfl, Row.own_none (S := orS) _ _ _, h.below hB1 h.lt, Kept.of_below hB1⟩
  have hmz := Row.run_make_of (S := orS) (P := Tryd.prog) noOr 39 23 (orV noOr) 24 Tryd.underlying39 (by kernel_rfl) rfl (by omega) n (by omega)
  have hzv : ∀ W, (zeroValue 23).run Tryd.prog W = .ok (orV noOr) W := fun W => by kernel_rfl
  have hc : cellsQ s = (cellsL m s.frm (padT s.l)).toArray := by unfold cellsQ; rw [hm]
  have hc2 : cellsQ ⟨s.l.drop n, s.frm⟩ = (cellsL (m - n) s.frm (padT (s.l.drop n))).toArray := by unfold cellsQ; simp only [List.length_drop, hm]
  have htl : ((padT s.l).take n).length = n := by rw [List.length_take]; omega
  unfold TookIs
  rw [hm] at hdl htp hO
  rw [hc] at h
  rw [hc2, ← htp, ← hgp, htl]
  clear hc hc2 htp hgp hm hn
  generalize padT s.l = ys at *
  have hQ0 := h
  have hsl := slice_h b n (by omega)
  have hnz : ((n : Int) == 0) = false := by simp; omega
  have HPL := Lib.hid hpl
  have HZV := Lib.hid hzv
  clear h htl hpl hzv
  go_enter Tryd.func35, Tryd.ntmps35
  go_wp2_with (first
    | (go_at_call 44; ((with_reducible refine hah.mono ?_); rintro e W1 ⟨rfl, hB1⟩; have hQ1 := hQ0.below hB1 hQ0.lt; have hK1 := Kept.of_below (S := [b]) hB1; have hs1 := hB1.size; have hbW := hQ1.lt; have hQ2 := hQ1.alloc (.cells (Row.flat orS (List.replicate n noOr)).toArray 23); have hK2 := hK1.alloc (.cells (Row.flat orS (List.replicate n noOr)).toArray 23); have hL2 := Has.new W1 23 (Row.flat orS (List.replicate n noOr)).toArray; have hV2 := places_vals hQ2 0 n (by rw [HPL.out]; omega)))
    | ((with_reducible show wpList _ _ _ _ _ _); refine Row.wpList_copy_into (S := orS) rfl (.tmp 15) (.tmp 20) _ _ rfl 23 Tryd.underlying39 ok_info W1.heap.size 23 (Row.flat orS (List.replicate n noOr)) hL2 (some ⟨W1.heap.size, 0, none⟩) 0 n n rfl (some ⟨b, 2, none⟩) n 32 rfl _ hV2 n (Nat.min_self n) (fun _ => ⟨rfl, by rw [Row.flat_length, List.length_replicate, Nat.zero_add]; exact Nat.le_refl _⟩) ?_; intro W3 hL3 hK3; have hR := took (HPL.out) (by omega) hs1 hbW hQ2 hK2 hL3 hK3; obtain ⟨hQ4, hK4, hL4, hg4⟩ := hR; clear hQ1 hK1 hQ2 hK2 hL2 hV2 hL3 hK3 hQ0 hmz hsl hah))
  simp only [Act.put, List.setIfInBounds_toArray, List.set_cons_zero, List.set_cons_succ]
  generalize W1.heap.size = g2 at *
  have hbg : b ≠ g2 := Nat.ne_of_lt hbW
  have hgb : g2 ≠ b := Ne.symm hbg
  refine Reg.begin_ (S := fun W => W.cell? ⟨b, 0, none⟩ = some (.int .i64 (m : Nat))) (by kernel_rfl) (by exact hQ4.cell 0) (fun hHeld => ?_)
  have hQ5 : Has W3.drew b 73 (cellsL m s.frm ys).toArray := hQ4
  have hL5 : Has W3.drew g2 23 (Row.flat orS (ys.take n)).toArray := hL4
  have hK5 : Kept [b] w W3.drew := hK4.drewN 1
  clear hQ4 hL4 hK4
  generalize W3.drew = W5 at *
  have hsa := slice_all b
  obtain ⟨D2, hD2, hs2⟩ := slice_lh b n m hdl (by omega)
  have HD2 := Lib.hid hD2
  clear hD2
  have hnz : (n : Int) ≤ (m : Int) := by omega
  refine Reg.take (i := 0) (v := ?v1) rfl (by kernel_rfl) (by kernel_rfl) (by kernel_rfl) (by rfl) ?hv1 (by assumption) ?rest1
  case hv1 => first | (intro w hSw; (try dsimp only at hSw); go_simp; done) | (intro w hSw; (try dsimp only at hSw); go_simp; with_reducible rfl)
  (try simp only [Act.put, List.setIfInBounds_toArray, List.set_cons_zero, List.set_cons_succ])
  refine Reg.take (i := 1) (v := ?v2) rfl (by kernel_rfl) (by kernel_rfl) (by kernel_rfl) (by rfl) ?hv2 (by assumption) ?rest2
  case hv2 => first | (intro w hSw; (try dsimp only at hSw); go_simp; done) | (intro w hSw; (try dsimp only at hSw); go_simp; with_reducible rfl)
  (try simp only [Act.put, List.setIfInBounds_toArray, List.set_cons_zero, List.set_cons_succ])
  refine Reg.take (i := 2) (v := ?v3) rfl (by kernel_rfl) (by kernel_rfl) (by kernel_rfl) (by rfl) ?hv3 (by assumption) ?rest3
  case hv3 => first | (intro w hSw; (try dsimp only at hSw); go_simp; done) | (intro w hSw; (try dsimp only at hSw); go_simp; with_reducible rfl)
  (try simp only [Act.put, List.setIfInBounds_toArray, List.set_cons_zero, List.set_cons_succ])
  refine Reg.take (i := 3) (v := ?v4) rfl (by kernel_rfl) (by kernel_rfl) (by kernel_rfl) (by rfl) ?hv4 (by assumption) ?rest4
  case hv4 => first | (intro w hSw; (try dsimp only at hSw); go_simp; done) | (intro w hSw; (try dsimp only at hSw); go_simp; with_reducible rfl)
  (try simp only [Act.put, List.setIfInBounds_toArray, List.set_cons_zero, List.set_cons_succ])
  refine Reg.take (i := 4) (v := ?v5) rfl (by kernel_rfl) (by kernel_rfl) (by kernel_rfl) (by rfl) ?hv5 (by assumption) ?rest5
  case hv5 => first | (intro w hSw; (try dsimp only at hSw); go_simp; done) | (intro w hSw; (try dsimp only at hSw); go_simp; with_reducible rfl)
  (try simp only [Act.put, List.setIfInBounds_toArray, List.set_cons_zero, List.set_cons_succ])
  refine Reg.take (i := 5) (v := ?v6) rfl (by kernel_rfl) (by kernel_rfl) (by kernel_rfl) (by rfl) ?hv6 (by assumption) ?rest6
  case hv6 => first | (intro w hSw; (try dsimp only at hSw); go_simp; done) | (intro w hSw; (try dsimp only at hSw); go_simp; with_reducible rfl)
  (try simp only [Act.put, List.setIfInBounds_toArray, List.set_cons_zero, List.set_cons_succ])
  refine Reg.take (i := 6) (v := ?v7) rfl (by kernel_rfl) (by kernel_rfl) (by kernel_rfl) (by rfl) ?hv7 (by assumption) ?rest7
  case hv7 => first | (intro w hSw; (try dsimp only at hSw); go_simp; done) | (intro w hSw; (try dsimp only at hSw); go_simp; with_reducible rfl)
  (try simp only [Act.put, List.setIfInBounds_toArray, List.set_cons_zero, List.set_cons_succ])
  refine Reg.take (i := 7) (v := ?v8) rfl (by kernel_rfl) (by kernel_rfl) (by kernel_rfl) (by rfl) ?hv8 (by assumption) ?rest8
  case hv8 => first | (intro w hSw; (try dsimp only at hSw); go_simp; done) | (intro w hSw; (try dsimp only at hSw); go_simp; with_reducible rfl)
  (try simp only [Act.put, List.setIfInBounds_toArray, List.set_cons_zero, List.set_cons_succ])
  refine Reg.take (i := 8) (v := ?v9) rfl (by kernel_rfl) (by kernel_rfl) (by kernel_rfl) (by rfl) ?hv9 (by assumption) ?rest9
  case hv9 => first | (intro w hSw; (try dsimp only at hSw); go_simp; done) | (intro w hSw; (try dsimp only at hSw); go_simp; with_reducible rfl)
  (try simp only [Act.put, List.setIfInBounds_toArray, List.set_cons_zero, List.set_cons_succ])
  refine Reg.take (i := 9) (v := ?v10) rfl (by kernel_rfl) (by kernel_rfl) (by kernel_rfl) (by rfl) ?hv10 (by assumption) ?rest10
  case hv10 => first | (intro w hSw; (try dsimp only at hSw); go_simp; done) | (intro w hSw; (try dsimp only at hSw); go_simp; with_reducible rfl)
  (try simp only [Act.put, List.setIfInBounds_toArray, List.set_cons_zero, List.set_cons_succ])
  refine Reg.take (i := 10) (v := ?v11) rfl (by kernel_rfl) (by kernel_rfl) (by kernel_rfl) (by rfl) ?hv11 (by assumption) ?rest11
  case hv11 => first | (intro w hSw; (try dsimp only at hSw); go_simp; done) | (intro w hSw; (try dsimp only at hSw); go_simp; with_reducible rfl)
  (try simp only [Act.put, List.setIfInBounds_toArray, List.set_cons_zero, List.set_cons_succ])
  refine Reg.take (i := 11) (v := ?v12) rfl (by kernel_rfl) (by kernel_rfl) (by kernel_rfl) (by rfl) ?hv12 (by assumption) ?rest12
  case hv12 => first | (intro w hSw; (try dsimp only at hSw); go_simp; done) | (intro w hSw; (try dsimp only at hSw); go_simp; with_reducible rfl)
  (try simp only [Act.put, List.setIfInBounds_toArray, List.set_cons_zero, List.set_cons_succ])
  refine Reg.take (i := 12) (v := ?v13) rfl (by kernel_rfl) (by kernel_rfl) (by kernel_rfl) (by rfl) ?hv13 (by assumption) ?rest13
  case hv13 => first | (intro w hSw; (try dsimp only at hSw); go_simp; done) | (intro w hSw; (try dsimp only at hSw); go_simp; with_reducible rfl)
  (try simp only [Act.put, List.setIfInBounds_toArray, List.set_cons_zero, List.set_cons_succ])
  refine Reg.take (i := 13) (v := ?v14) rfl (by kernel_rfl) (by kernel_rfl) (by kernel_rfl) (by rfl) ?hv14 (by assumption) ?rest14
  case hv14 => first | (intro w hSw; (try dsimp only at hSw); go_simp; done) | (intro w hSw; (try dsimp only at hSw); go_simp; with_reducible rfl)
  (try simp only [Act.put, List.setIfInBounds_toArray, List.set_cons_zero, List.set_cons_succ])
  clear hsa hs2
  have hV : Row.Vals orS W5 (some D2) (m - n) ((ys.drop n).take (m - n)) := by
    rcases Nat.lt_or_ge n m with h1 | h1
    · rw [HD2.out h1]; exact places_vals hQ5 n (m - n) (by rw [HPL.out]; omega)
    · exact ⟨by simp [HPL.out]; omega, fun h0 => absurd h0 (by omega)⟩
  have hmn : Nat.min (m - n) 32 = m - n := Nat.min_eq_left (by omega)
  have hdd : 0 < m - n → some (⟨b, 2, none⟩ : Addr) = some (⟨b, 2 + 0 * 3, none⟩ : Addr) ∧ 2 + 0 * 3 + (m - n) * 3 ≤ (cellsL m s.frm ys).length := fun h0 => ⟨rfl, by rw [cells_len, HPL.out]; omega⟩
  have hmv := moved_is m s.frm ys 0 n (m - n) (by rw [HPL.out]; omega) (by rw [HPL.out]; omega)
  refine Reg.call (i := 14) rfl (by kernel_rfl) (by rfl) ?_
  intro K hK
  refine Row.wp_copy_into (S := orS) (.tmp 25) (.tmp 35) _ _ rfl 23 Tryd.underlying39 ok_info b 73 (cellsL m s.frm ys) hQ5 (some ⟨b, 2, none⟩) (2 + 0 * 3) 32 32 rfl (some D2) (m - n) (32 - n) rfl _ hV (m - n) hmn hdd ?_
  intro W6 hQ6 hK6
  rw [List.take_take, Nat.min_self, hmv] at hQ6
  have hL6 := hK6.has hL5 (by simp; exact hgb)
  have hK7 := hK5.trans hK6
  have hml := moved_len ys 0 n (m - n) (by rw [HPL.out]; omega) (by rw [HPL.out]; omega)
  rw [HPL.out] at hml
  clear hQ5 hL5 hK5 hK6 hV hmn hdd hmv
  obtain ⟨zs, hzs⟩ : ∃ zs, movedT ys 0 n (m - n) = zs := ⟨_, rfl⟩
  rw [hzs] at hQ6 hml
  have HZS := Lib.hid hzs
  have HML := Lib.hid hml
  clear hzs hml
  refine hK.out _ _ (by exact (hQ6.cell 0)) (fun hHeld => ?_)
  clear hK K
  (try simp only [Act.put, List.setIfInBounds_toArray, List.set_cons_zero, List.set_cons_succ])
  refine Reg.take (i := 15) (v := ?v15) rfl (by kernel_rfl) (by kernel_rfl) (by kernel_rfl) (by rfl) ?hv15 (by assumption) ?rest15
  case hv15 => first | (intro w hSw; (try dsimp only at hSw); go_simp; done) | (intro w hSw; (try dsimp only at hSw); go_simp; with_reducible rfl)
  (try simp only [Act.put, List.setIfInBounds_toArray, List.set_cons_zero, List.set_cons_succ])
  refine Reg.done (by kernel_rfl) ?_ _
  clear hHeld HD2
  obtain ⟨r, hr⟩ : ∃ r, m - n = r := ⟨_, rfl⟩
  have hrz : goInt ((m - n : Nat) : Int) = .int .i64 (r : Nat) := by rw [hr]; rfl
  rw [hrz, hr]
  have HR := Lib.hid hr
  have hrm : r < m := by omega
  have hrn : m - r = n := by omega
  clear hr hrz
  go_wp2
  refine Reg.begin_ (S := fun W => W.cell? ⟨b, 0, none⟩ = some (.int .i64 (m : Nat))) (by kernel_rfl) (by exact hQ6.cell 0) (fun hHeld => ?_)
  have hQ7 : Has W6.drew b 73 (cellsL m s.frm zs).toArray := hQ6
  have hL7 : Has W6.drew g2 23 (Row.flat orS (ys.take n)).toArray := hL6
  have hK8 : Kept [b] w W6.drew := hK7.drewN 1
  clear hQ6 hL6 hK7
  generalize W6.drew = W7 at *
  obtain ⟨D3, hD3, hs3⟩ := slice_lh b r m (by omega) (by omega)
  have hD3 := hD3 hrm
  subst hD3
  rw [hrn] at hs3
  have hrz : (r : Int) ≤ (m : Int) := by omega
  refine Reg.take (i := 0) (v := ?v16) rfl (by kernel_rfl) (by kernel_rfl) (by kernel_rfl) (by rfl) ?hv16 (by assumption) ?rest16
  case hv16 => first | (intro w hSw; (try dsimp only at hSw); go_simp; done) | (intro w hSw; (try dsimp only at hSw); go_simp; with_reducible rfl)
  (try simp only [Act.put, List.setIfInBounds_toArray, List.set_cons_zero, List.set_cons_succ])
  refine Reg.take (i := 1) (v := ?v17) rfl (by kernel_rfl) (by kernel_rfl) (by kernel_rfl) (by rfl) ?hv17 (by assumption) ?rest17
  case hv17 => first | (intro w hSw; (try dsimp only at hSw); go_simp; done) | (intro w hSw; (try dsimp only at hSw); go_simp; with_reducible rfl)
  (try simp only [Act.put, List.setIfInBounds_toArray, List.set_cons_zero, List.set_cons_succ])
  refine Reg.take (i := 2) (v := ?v18) rfl (by kernel_rfl) (by kernel_rfl) (by kernel_rfl) (by rfl) ?hv18 (by assumption) ?rest18
  case hv18 => first | (intro w hSw; (try dsimp only at hSw); go_simp; done) | (intro w hSw; (try dsimp only at hSw); go_simp; with_reducible rfl)
  (try simp only [Act.put, List.setIfInBounds_toArray, List.set_cons_zero, List.set_cons_succ])
  refine Reg.take (i := 3) (v := ?v19) rfl (by kernel_rfl) (by kernel_rfl) (by kernel_rfl) (by rfl) ?hv19 (by assumption) ?rest19
  case hv19 => first | (intro w hSw; (try dsimp only at hSw); go_simp; done) | (intro w hSw; (try dsimp only at hSw); go_simp; with_reducible rfl)
  (try simp only [Act.put, List.setIfInBounds_toArray, List.set_cons_zero, List.set_cons_succ])
  refine Reg.take (i := 4) (v := ?v20) rfl (by kernel_rfl) (by kernel_rfl) (by kernel_rfl) (by rfl) ?hv20 (by assumption) ?rest20
  case hv20 => first | (intro w hSw; (try dsimp only at hSw); go_simp; done) | (intro w hSw; (try dsimp only at hSw); go_simp; with_reducible rfl)
  (try simp only [Act.put, List.setIfInBounds_toArray, List.set_cons_zero, List.set_cons_succ])
  refine Reg.take (i := 5) (v := ?v21) rfl (by kernel_rfl) (by kernel_rfl) (by kernel_rfl) (by rfl) ?hv21 (by assumption) ?rest21
  case hv21 => first | (intro w hSw; (try dsimp only at hSw); go_simp; done) | (intro w hSw; (try dsimp only at hSw); go_simp; with_reducible rfl)
  (try simp only [Act.put, List.setIfInBounds_toArray, List.set_cons_zero, List.set_cons_succ])
  refine Reg.take (i := 6) (v := ?v22) rfl (by kernel_rfl) (by kernel_rfl) (by kernel_rfl) (by rfl) ?hv22 (by assumption) ?rest22
  case hv22 => first | (intro w hSw; (try dsimp only at hSw); go_simp; done) | (intro w hSw; (try dsimp only at hSw); go_simp; with_reducible rfl)
  (try simp only [Act.put, List.setIfInBounds_toArray, List.set_cons_zero, List.set_cons_succ])
  refine Reg.take (i := 7) (v := ?v23) rfl (by kernel_rfl) (by kernel_rfl) (by kernel_rfl) (by rfl) ?hv23 (by assumption) ?rest23
  case hv23 => first | (intro w hSw; (try dsimp only at hSw); go_simp; done) | (intro w hSw; (try dsimp only at hSw); go_simp; with_reducible rfl)
  (try simp only [Act.put, List.setIfInBounds_toArray, List.set_cons_zero, List.set_cons_succ])
  refine Reg.take (i := 8) (v := ?v24) rfl (by kernel_rfl) (by kernel_rfl) (by kernel_rfl) (by rfl) ?hv24 (by assumption) ?rest24
  case hv24 => first | (intro w hSw; (try dsimp only at hSw); go_simp; done) | (intro w hSw; (try dsimp only at hSw); go_simp; with_reducible rfl)
  (try simp only [Act.put, List.setIfInBounds_toArray, List.set_cons_zero, List.set_cons_succ])
  refine Reg.take (i := 9) (v := ?v25) rfl (by kernel_rfl) (by kernel_rfl) (by kernel_rfl) (by rfl) ?hv25 (by assumption) ?rest25
  case hv25 => first | (intro w hSw; (try dsimp only at hSw); go_simp; done) | (intro w hSw; (try dsimp only at hSw); go_simp; with_reducible rfl)
  (try simp only [Act.put, List.setIfInBounds_toArray, List.set_cons_zero, List.set_cons_succ])
  refine Reg.call (i := 10) rfl (by kernel_rfl) (by rfl) ?_
  intro K hK
  refine Row.wp_clear_into (S := orS) noOr (.tmp 46) _ rfl 23 (orV noOr) Tryd.underlying39 HZV.out rfl b 73 (cellsL m s.frm zs) hQ7 (2 + r * 3) n (32 - r) rfl h0 (by rw [cells_len, HML.out]; show 2 + r * 3 + n * 3 ≤ 32 * 3 + 2; omega) ?_
  intro W8 hQ8 hK9
  rw [laid_places m s.frm zs _ r (by rw [List.length_replicate, HML.out]; omega), List.length_replicate] at hQ8
  have hL8 := hK9.has hL7 (by simp; exact hgb)
  have hK10 := hK8.trans hK9
  clear hQ7 hL7 hK8 hK9 hs3
  obtain ⟨us, hus⟩ : ∃ us, zs.take r ++ List.replicate n noOr ++ zs.drop (r + n) = us := ⟨_, rfl⟩
  rw [hus] at hQ8
  have HUS := Lib.hid hus
  clear hus
  refine hK.out _ _ (by exact (hQ8.cell 0)) (fun hHeld => ?_)
  clear hK K
  (try simp only [Act.put, List.setIfInBounds_toArray, List.set_cons_zero, List.set_cons_succ])
  refine Reg.done (by kernel_rfl) ?_ _
  clear hHeld
  have c0 : W8.cell? ⟨b, 0, none⟩ = some (.int .i64 (m : Nat)) := by rw [hQ8.cell 0]; rfl
  have f0 := hQ8.frozen 0
  have hQ9 := hQ8.set_ 0 (.int .i64 (r : Nat))
  have hL9 := hL8.far (p := ⟨b, 0, none⟩) (by exact hgb) (.int .i64 (r : Nat))
  have hK11 := hK10.setCell (p := ⟨b, 0, none⟩) (.inl (by simp)) (.int .i64 (r : Nat))
  have hse : (cellsL m s.frm us).toArray.setIfInBounds 0 (.int .i64 (r : Nat)) = (cellsL r s.frm us).toArray := by rw [List.setIfInBounds_toArray]; rfl
  rw [hse] at hQ9
  clear hse hQ8 hL8 hK10
  have htk : (ys.take n).length = n := by rw [List.length_take, HPL.out]; omega
  have hF := Row.own_row (S := orS) (xs := ys.take n) hL9 w.heap.size n hg4 htk (by omega)
  have HF := Lib.hid hF
  have HRN := Lib.hid (show r + n = m by omega)
  clear hF htk hrn hL9
  go_wp2
  go_ret
  exact ⟨_, rfl, HF.out, by
    have h8 := HZS.out
    have h9 := HUS.out
    rw [HRN.out] at h9
    rw [HR.out] at h8 ⊢
    rw [h8]
    first
      | rw [h9]
      | rw [← List.append_assoc, h9]
    exact hQ9, hK11⟩
theorem own_lower {w : World} {base base' : Nat} {t : TypeId} {k n : Nat} {v : Value} {xs : List Value} (h : w.ownsRow base t k v n xs) (hb : base' ≤ base) : w.ownsRow base' t k v n xs :=
  ⟨h.1, h.2.imp id fun ⟨g, cap, cur, h1, h2, h3⟩ => ⟨g, cap, cur, h1, Nat.le_trans hb h2, h3⟩⟩
set_option maxHeartbeats 2000000 in
theorem due_k (b : Nat) (s : St) (hO : Ok s) (a : Int) (w : World) (h : Has w b 73 (cellsQ s)) :
    Calls Tryd.prog 20 #[.pointer (some ⟨b, 0, none⟩), .int .i64 a] w (TookIs w b (dueT s a).1 (dueT s a).2) := by
  have hO1 := hO.lo
  have hO2 := hO.hi
  replace hO := hO.len
  obtain ⟨l, f⟩ := s
  dsimp only at *
  have hcq : cellsQ ⟨l, f⟩ = (cellsL l.length f (padT l)).toArray := rfl
  rw [hcq] at h
  unfold dueT takeT TookIs maxT
  by_cases h1 : a < -1
  · rw [show nearA a = -1 from by unfold nearA; rw [if_pos h1]]
    dsimp only
    rw [if_neg (show ¬ f < -1 + 1 by omega)]
    have hQ1 := h.set_ 1 (.int .i64 f)
    have hK1 := (Kept.refl [b] w).setCell (p := ⟨b, 1, none⟩) (.inl (by simp)) (.int .i64 f)
    have c1 : w.cell? ⟨b, 1, none⟩ = some (.int .i64 f) := by rw [h.cell 1]; rfl
    have f1 := h.frozen 1
    have hse : (cellsL l.length f (padT l)).toArray.setIfInBounds 1 (.int .i64 f) = cellsQ ⟨l, f⟩ := by rw [List.setIfInBounds_toArray]; rfl
    rw [hse] at hQ1
    have hsz : (w.setCell ⟨b, 1, none⟩ (.int .i64 f)).heap.size = w.heap.size := by simp
    clear hse h hcq
    have hQ2 := hQ1.alloc (.cells #[.int .i64 (-1)] 2)
    have hK2 := hK1.alloc (.cells #[.int .i64 (-1)] 2)
    have htk := take_k b ⟨l, f⟩ hO (-1) (w.setCell ⟨b, 1, none⟩ (.int .i64 f)).heap.size ((w.setCell ⟨b, 1, none⟩ (.int .i64 f)).alloc (.cells #[.int .i64 (-1)] 2)) hQ2 (by rw [World.cell?_alloc_at _ _ _ _ rfl]; rfl)
    unfold TookIs at htk
    dsimp only at htk
    rw [hsz] at htk
    have hup := fun W => upTo_k (-1) W
    have HS := Lib.hid (show w.heap.size ≤ ((w.setCell ⟨b, 1, none⟩ (.int .i64 f)).alloc (.cells #[.int .i64 (-1)] 2)).heap.size by rw [World.size_alloc, hsz]; omega)
    clear hQ1 hK1 hQ2 hO
    go_enter Tryd.func20, Tryd.ntmps20
    go_wp2_with (first
      | (go_at_call 36; ((with_reducible refine (hup _).mono ?_); rintro e W3 ⟨rfl, rfl⟩))
      | (go_at_call 35; ((with_reducible refine htk.mono ?_); rintro e W4 ⟨V, rfl, hV4, hQ4, hK4⟩; have hV5 := own_lower hV4 HS.out; have hK5 := hK2.trans hK4)))
    go_ret
    exact ⟨_, rfl, hV5, hQ4, hK5⟩
  · by_cases h2 : 1099511627776 < a
    · rw [show nearA a = 1099511627776 from by unfold nearA; rw [if_neg h1, if_pos h2]]
      dsimp only
      by_cases hlt : f < 1099511627777
      · rw [if_pos (show f < 1099511627776 + 1 by omega), show (1099511627776 : Int) + 1 = 1099511627777 from rfl]
        have hQ1 := h.set_ 1 (.int .i64 1099511627777)
        have hK1 := (Kept.refl [b] w).setCell (p := ⟨b, 1, none⟩) (.inl (by simp)) (.int .i64 1099511627777)
        have c1 : w.cell? ⟨b, 1, none⟩ = some (.int .i64 f) := by rw [h.cell 1]; rfl
        have f1 := h.frozen 1
        have hse : (cellsL l.length f (padT l)).toArray.setIfInBounds 1 (.int .i64 1099511627777) = cellsQ ⟨l, 1099511627777⟩ := by rw [List.setIfInBounds_toArray]; rfl
        rw [hse] at hQ1
        have hsz : (w.setCell ⟨b, 1, none⟩ (.int .i64 1099511627777)).heap.size = w.heap.size := by simp
        clear hse h hcq
        have hQ2 := hQ1.alloc (.cells #[.int .i64 1099511627776] 2)
        have hK2 := hK1.alloc (.cells #[.int .i64 1099511627776] 2)
        have htk := take_k b ⟨l, 1099511627777⟩ hO 1099511627776 (w.setCell ⟨b, 1, none⟩ (.int .i64 1099511627777)).heap.size ((w.setCell ⟨b, 1, none⟩ (.int .i64 1099511627777)).alloc (.cells #[.int .i64 1099511627776] 2)) hQ2 (by rw [World.cell?_alloc_at _ _ _ _ rfl]; rfl)
        unfold TookIs at htk
        dsimp only at htk
        rw [hsz] at htk
        have hup := fun W => upTo_k 1099511627776 W
        have HS := Lib.hid (show w.heap.size ≤ ((w.setCell ⟨b, 1, none⟩ (.int .i64 1099511627777)).alloc (.cells #[.int .i64 1099511627776] 2)).heap.size by rw [World.size_alloc, hsz]; omega)
        clear hQ1 hK1 hQ2 hO
        go_enter Tryd.func20, Tryd.ntmps20
        go_wp2_with (first
          | (go_at_call 36; ((with_reducible refine (hup _).mono ?_); rintro e W3 ⟨rfl, rfl⟩))
          | (go_at_call 35; ((with_reducible refine htk.mono ?_); rintro e W4 ⟨V, rfl, hV4, hQ4, hK4⟩; have hV5 := own_lower hV4 HS.out; have hK5 := hK2.trans hK4)))
        go_ret
        exact ⟨_, rfl, hV5, hQ4, hK5⟩
      · rw [if_neg (show ¬ f < 1099511627776 + 1 by omega)]
        have hQ1 := h.set_ 1 (.int .i64 f)
        have hK1 := (Kept.refl [b] w).setCell (p := ⟨b, 1, none⟩) (.inl (by simp)) (.int .i64 f)
        have c1 : w.cell? ⟨b, 1, none⟩ = some (.int .i64 f) := by rw [h.cell 1]; rfl
        have f1 := h.frozen 1
        have hse : (cellsL l.length f (padT l)).toArray.setIfInBounds 1 (.int .i64 f) = cellsQ ⟨l, f⟩ := by rw [List.setIfInBounds_toArray]; rfl
        rw [hse] at hQ1
        have hsz : (w.setCell ⟨b, 1, none⟩ (.int .i64 f)).heap.size = w.heap.size := by simp
        clear hse h hcq
        have hQ2 := hQ1.alloc (.cells #[.int .i64 1099511627776] 2)
        have hK2 := hK1.alloc (.cells #[.int .i64 1099511627776] 2)
        have htk := take_k b ⟨l, f⟩ hO 1099511627776 (w.setCell ⟨b, 1, none⟩ (.int .i64 f)).heap.size ((w.setCell ⟨b, 1, none⟩ (.int .i64 f)).alloc (.cells #[.int .i64 1099511627776] 2)) hQ2 (by rw [World.cell?_alloc_at _ _ _ _ rfl]; rfl)
        unfold TookIs at htk
        dsimp only at htk
        rw [hsz] at htk
        have hup := fun W => upTo_k 1099511627776 W
        have HS := Lib.hid (show w.heap.size ≤ ((w.setCell ⟨b, 1, none⟩ (.int .i64 f)).alloc (.cells #[.int .i64 1099511627776] 2)).heap.size by rw [World.size_alloc, hsz]; omega)
        clear hQ1 hK1 hQ2 hO
        go_enter Tryd.func20, Tryd.ntmps20
        go_wp2_with (first
          | (go_at_call 36; ((with_reducible refine (hup _).mono ?_); rintro e W3 ⟨rfl, rfl⟩))
          | (go_at_call 35; ((with_reducible refine htk.mono ?_); rintro e W4 ⟨V, rfl, hV4, hQ4, hK4⟩; have hV5 := own_lower hV4 HS.out; have hK5 := hK2.trans hK4)))
        go_ret
        exact ⟨_, rfl, hV5, hQ4, hK5⟩
    · rw [show nearA a = a from nearA_id a (by omega)]
      dsimp only
      have h3 : -1 ≤ a := by omega
      have h4 : a ≤ 1099511627776 := by omega
      by_cases hlt : f < a + 1
      · rw [if_pos hlt]
        have hQ1 := h.set_ 1 (.int .i64 (a + 1))
        have hK1 := (Kept.refl [b] w).setCell (p := ⟨b, 1, none⟩) (.inl (by simp)) (.int .i64 (a + 1))
        have c1 : w.cell? ⟨b, 1, none⟩ = some (.int .i64 f) := by rw [h.cell 1]; rfl
        have f1 := h.frozen 1
        have hse : (cellsL l.length f (padT l)).toArray.setIfInBounds 1 (.int .i64 (a + 1)) = cellsQ ⟨l, (a + 1)⟩ := by rw [List.setIfInBounds_toArray]; rfl
        rw [hse] at hQ1
        have hsz : (w.setCell ⟨b, 1, none⟩ (.int .i64 (a + 1))).heap.size = w.heap.size := by simp
        clear hse h hcq
        have hQ2 := hQ1.alloc (.cells #[.int .i64 a] 2)
        have hK2 := hK1.alloc (.cells #[.int .i64 a] 2)
        have htk := take_k b ⟨l, (a + 1)⟩ hO a (w.setCell ⟨b, 1, none⟩ (.int .i64 (a + 1))).heap.size ((w.setCell ⟨b, 1, none⟩ (.int .i64 (a + 1))).alloc (.cells #[.int .i64 a] 2)) hQ2 (by rw [World.cell?_alloc_at _ _ _ _ rfl]; rfl)
        unfold TookIs at htk
        dsimp only at htk
        rw [hsz] at htk
        have hup := fun W => upTo_k a W
        have HS := Lib.hid (show w.heap.size ≤ ((w.setCell ⟨b, 1, none⟩ (.int .i64 (a + 1))).alloc (.cells #[.int .i64 a] 2)).heap.size by rw [World.size_alloc, hsz]; omega)
        clear hQ1 hK1 hQ2 hO
        go_enter Tryd.func20, Tryd.ntmps20
        go_wp2_with (first
          | (go_at_call 36; ((with_reducible refine (hup _).mono ?_); rintro e W3 ⟨rfl, rfl⟩))
          | (go_at_call 35; ((with_reducible refine htk.mono ?_); rintro e W4 ⟨V, rfl, hV4, hQ4, hK4⟩; have hV5 := own_lower hV4 HS.out; have hK5 := hK2.trans hK4)))
        go_ret
        exact ⟨_, rfl, hV5, hQ4, hK5⟩
      · rw [if_neg hlt]
        have hQ1 := h.set_ 1 (.int .i64 f)
        have hK1 := (Kept.refl [b] w).setCell (p := ⟨b, 1, none⟩) (.inl (by simp)) (.int .i64 f)
        have c1 : w.cell? ⟨b, 1, none⟩ = some (.int .i64 f) := by rw [h.cell 1]; rfl
        have f1 := h.frozen 1
        have hse : (cellsL l.length f (padT l)).toArray.setIfInBounds 1 (.int .i64 f) = cellsQ ⟨l, f⟩ := by rw [List.setIfInBounds_toArray]; rfl
        rw [hse] at hQ1
        have hsz : (w.setCell ⟨b, 1, none⟩ (.int .i64 f)).heap.size = w.heap.size := by simp
        clear hse h hcq
        have hQ2 := hQ1.alloc (.cells #[.int .i64 a] 2)
        have hK2 := hK1.alloc (.cells #[.int .i64 a] 2)
        have htk := take_k b ⟨l, f⟩ hO a (w.setCell ⟨b, 1, none⟩ (.int .i64 f)).heap.size ((w.setCell ⟨b, 1, none⟩ (.int .i64 f)).alloc (.cells #[.int .i64 a] 2)) hQ2 (by rw [World.cell?_alloc_at _ _ _ _ rfl]; rfl)
        unfold TookIs at htk
        dsimp only at htk
        rw [hsz] at htk
        have hup := fun W => upTo_k a W
        have HS := Lib.hid (show w.heap.size ≤ ((w.setCell ⟨b, 1, none⟩ (.int .i64 f)).alloc (.cells #[.int .i64 a] 2)).heap.size by rw [World.size_alloc, hsz]; omega)
        clear hQ1 hK1 hQ2 hO
        go_enter Tryd.func20, Tryd.ntmps20
        go_wp2_with (first
          | (go_at_call 36; ((with_reducible refine (hup _).mono ?_); rintro e W3 ⟨rfl, rfl⟩))
          | (go_at_call 35; ((with_reducible refine htk.mono ?_); rintro e W4 ⟨V, rfl, hV4, hQ4, hK4⟩; have hV5 := own_lower hV4 HS.out; have hK5 := hK2.trans hK4)))
        go_ret
        exact ⟨_, rfl, hV5, hQ4, hK5⟩
end Go.Proofs.YtmefdgmbpihdfaaDoor.Order
