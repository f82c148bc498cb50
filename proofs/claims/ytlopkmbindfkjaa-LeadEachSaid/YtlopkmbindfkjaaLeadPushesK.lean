/- LeadPushes, over whatever code answers as the kit says. -/
import Derived.Test.YtlopkmbindfkjaaLeadLive
import Derived.Test.YtlopkmbindfkjaaFlat
import Derived.Test.YtlopkmbindfkjaaRegion
set_option linter.unusedSimpArgs false
set_option linter.unusedVariables false
namespace Go.Proofs.Ytlopkmbindfkjaa.Row
open Go.RowKit
/-- What a slice from p on reads as. -/
theorem Vals.dropIf {α : Type} {S : Shape α} {w : World} {a : Option Addr} {len cap : Nat} {ys : List α} (h : Vals S w a len ys) (p : Nat) (hp : p ≤ len) (hc : len ≤ cap) : Vals S w (if cap = p then a else a.map (fun x => x.add (p * S.k))) (len - p) (ys.drop p) := by
  have hl := h.len_
  refine ⟨by rw [List.length_drop]; omega, fun h0 => ?_⟩
  obtain ⟨x, hx, hc⟩ := h.cells (by omega)
  subst hx
  rw [if_neg (by omega)]
  refine ⟨x.add (p * S.k), rfl, fun j u hu => ?_⟩
  rw [show (x.add (p * S.k)).add j = x.add (p * S.k + j) by
    unfold Addr.add
    by_cases h1 : p * S.k = 0 <;> by_cases h2 : j = 0 <;> simp [h1, h2, Nat.add_assoc]]
  refine hc _ u ?_
  have hf : flat S ys = flat S (ys.take p) ++ flat S (ys.drop p) := by rw [← flat_append, List.take_append_drop]
  rw [hf, List.getElem?_append_right (by rw [flat_length, List.length_take, Nat.min_eq_left (by omega)]; omega), flat_length, List.length_take, Nat.min_eq_left (by omega), Nat.add_sub_cancel_left]
  exact hu
end Go.Proofs.Ytlopkmbindfkjaa.Row
namespace Go.Proofs.Ytlopkmbindfkjaa.Lead
open Go.RowKit
theorem own_away {w w' : World} {S : List Nat} {base : Nat} {e : TypeId} {size n : Nat} {v : Value} {xs : List Value} (h : w.ownsRow base e size v n xs) (ht : Kept S w w') (hs : ∀ k ∈ S, v.ownBlock ≠ some k) : w'.ownsRow base e size v n xs := by
  obtain ⟨h1, h2⟩ := h
  refine ⟨h1, ?_⟩
  rcases h2 with h2 | ⟨k, cap, cur, rfl, hk, hh, h3⟩
  · exact .inl h2
  · exact .inr ⟨k, cap, cur, rfl, hk, (ht.block k (Has.lt (w := w) hh) (fun e => hs k e rfl)).trans hh, h3⟩
theorem own_stays {w w' : World} {base : Nat} {e : TypeId} {size n : Nat} {v : Value} {xs : List Value} (h : w.ownsRow base e size v n xs) (hB : Below w.heap.size w w') : w'.ownsRow base e size v n xs := own_away h (Kept.of_below (S := []) hB) (fun _ h => by cases h)
theorem away_new {w : World} {base : Nat} {e : TypeId} {size n : Nat} {v : Value} {xs : List Value} {S S' : List Nat} (h : w.ownsRow base e size v n xs) (ha : ∀ k ∈ S, v.ownBlock ≠ some k) (hs : ∀ k ∈ S', k ∈ S ∨ w.heap.size ≤ k) : ∀ k ∈ S', v.ownBlock ≠ some k := fun k hk he => by
  rcases hs k hk with h1 | h1
  · exact ha k h1 he
  · have := (own_block h k he).2; omega
theorem away_grown {w : World} {S : List Nat} {v v' : Value} (hl : ∀ k ∈ S, k < w.heap.size) (ha : ∀ k ∈ S, v.ownBlock ≠ some k) (h : v'.ownBlock = v.ownBlock ∨ v'.ownBlock = some w.heap.size) : ∀ k ∈ S, v'.ownBlock ≠ some k := fun k hk he => by
  rcases h with h | h
  · exact ha k hk (h ▸ he)
  · rw [h] at he; injection he with he; have := hl k hk; omega
set_option maxRecDepth 100000 in
set_option maxHeartbeats 4000000 in
theorem pushes_k (K : LeadKit) (a0 : Option Addr) (len0 cap0 : Nat) (w : World) (w0 : Row.IsFlats evS EvOk w a0 len0 cap0) :
    Calls Try.prog 3 #[.slice a0 len0 cap0] w fun e w' => e = .returned (.bool true) ∧ Below w.heap.size w w' := by
  have hl0 : len0 ≤ cap0 ∧ cap0 ≤ 9223372036854775807 := by
    rcases w0 with ⟨_, rfl, rfl⟩ | ⟨x, _, h1, h2, _⟩ <;> omega
  obtain ⟨m, hm⟩ : ∃ m, min len0 12 = m := ⟨_, rfl⟩
  have hmin : (if (12 : Int) < (len0 : Int) then (12 : Int) else (len0 : Int)) = (m : Int) := by split <;> omega
  have hmb : m ≤ len0 ∧ m ≤ cap0 ∧ m ≤ 12 := by omega
  have hpc : ∀ j, j < m → ∃ x A L C ys, a0 = some x ∧ w.cell? (x.add j) = some (.slice A L C) ∧ Row.Vals evS w A L ys ∧ L ≤ C ∧ C ≤ 9223372036854775807 ∧ ∀ y, 0 < L → A = some y → y.block < w.heap.size := fun j hj => by
    rcases w0 with ⟨_, rfl, _⟩ | ⟨x, rfl, h1, h2, h3⟩
    · omega
    · obtain ⟨A, L, C, ys, h4, h5⟩ := h3 j (by omega)
      exact ⟨x, A, L, C, ys, rfl, h4, h5.row, h5.le, h5.max, fun y h hy => h5.far h y hy⟩
  have HPC := Lib.hid hpc
  have hnew := K.new_any w
  have hInfo : (Try.prog.info? 37).map (fun i => (i.zero, i.size, i.bytes)) = some (some (.agg #[.int .i64 0, .int .i64 0, .int .i32 0, .bool false]), 4, 24) := by kernel_rfl
  have HInfo := Lib.hid hInfo
  clear hpc w0 hm hInfo
  go_enter Try.func3, Try.ntmps3
  go_wp2_with (go_at_call 7; ((with_reducible refine hnew.mono ?_); rintro e w2 ⟨b, S, rfl, hD, hS, hB2⟩))
  have hpush := K.push_any
  unfold PushIs at hpush
  go_loopw [3, 4, 21] (fun d v i wr => ∃ (j b : Nat) (S : List Nat) (xs : List Ev), j ≤ m ∧ i = .int .i64 (j : Nat) ∧ d = .pointer (some ⟨b, 0, none⟩) ∧ K.Led wr b S xs ∧ (∀ k ∈ S, w.heap.size ≤ k) ∧ wr.ownsRow w.heap.size 37 4 v xs.length (Row.flat evS xs) ∧ xs.length ≤ 150 * j ∧ (∀ k ∈ S, v.ownBlock ≠ some k) ∧ Below w.heap.size w wr) (fun _ _ i _ => m - (intOf i).toNat)
  case atStart => exact ⟨0, b, S, [], by omega, rfl, rfl, hD, hS, Row.own_none (S := evS) _ _ _, by simp, (fun k _ h => by cases h), hB2⟩
  case round =>
    clear hD hS hB2 hnew
    obtain ⟨j, b, S, xs, hj, rfl, rfl, hD, hS, hO, hn9, hap, hC⟩ := hrel
    by_cases hjm : j < m
    · obtain ⟨x, A, L, C, ys0, rfl, hcx, hvp, hLC, hC63, hfar⟩ := HPC.out j hjm
      obtain ⟨p, hp⟩ : ∃ p, min L 150 = p := ⟨_, rfl⟩
      have hmin2 : (if (150 : Int) < (L : Int) then (150 : Int) else (L : Int)) = (p : Int) := by split <;> omega
      have hpb : p ≤ L ∧ p ≤ C ∧ p ≤ 150 := by omega
      have hvq := hvp.take p hpb.1
      have hyl := hvq.len_
      generalize ys0.take p = ys at *
      have hcr := (hC.cell (World.block_lt_of_cell? _ _ hcx)).trans hcx
      have hVp : ∀ W : World, Below w.heap.size w W → Row.Vals evS W A p ys := fun W hB => hvq.below hB
      obtain ⟨n, hn⟩ : ∃ n, xs.length = n := ⟨_, rfl⟩
      rw [hn] at hO hn9
      obtain ⟨A0, c0, rfl, q1, q2, hV0, _⟩ := Row.Vals.own hO
      have hn0 : n ≤ 1650 := by omega
      have hfar0 : ∀ y, 0 < p → A = some y → y.block < w.heap.size := fun y h hy => hfar y (by omega) hy
      obtain ⟨N, hN⟩ : ∃ N, n + p = N := ⟨_, rfl⟩
      have hN2 : N ≤ 1800 := by omega
      have hnp : n + p ≤ 1048576 := by omega
      obtain ⟨zs, hzs⟩ : ∃ zs, xs ++ ys = zs := ⟨_, rfl⟩
      have hzl : zs.length = N := by rw [← hzs, List.length_append, hn, hyl]; exact hN
      have hi1 := refitems_any A0 n c0 xs wr hV0 (by omega)
      have hi2 := fun A4 c4 W h => refitems_any A4 N c4 zs W h (by omega)
      unfold ItemsIs at hi1 hi2
      have hjmz : (j : Int) < (m : Int) := by omega
      clear hcx hvp hfar hp hLC
      go_wp2_with (first
        | (go_at_call 8; ((with_reducible refine hi1.mono ?_); rintro e W1 ⟨A1, n1, c1, rfl, e1, e2, hV1, hf1, hB1⟩; have hn1 := hV1.len_; have hO1 := own_stays hO hB1; have hD1 := K.below hD hB1; have hC1 := hC.trans (hB1.mono hC.size); have hVp1 := hVp _ hC1))
        | (at_builtin; go_loud (refine Row.wpList_append (S := evS) rfl (.tmp 35) (.tmp 36) _ rfl w.heap.size 37 _ 24 (by omega) Try.underlying25 HInfo.out (by kernel_rfl) (.slice A0 n c0) n xs rfl hO1 A p C ys rfl hVp1 hnp hC1.size ?_; intro v4 W4 hO4 hg4 hat4; have hK4 := Kept.of_grown hg4; have hC4 := below_kept hC1 hK4 hC1.size (own_in hO1); have hD4 := K.kept hD1 hK4 (fun k hk hm => hap k hk (Option.mem_toList.1 hm)); have hap4 := away_grown (K.lt hD1) hap hat4; rw [hN, hzs] at hO4; obtain ⟨A4, c4, rfl, e3, e4, hV4, _⟩ := Row.Vals.own (S := evS) hO4; have hi4 := hi2 A4 c4 W4 hV4))
        | (go_at_call 8; ((with_reducible refine hi4.mono ?_); rintro e W5 ⟨A5, n5, c5, rfl, e5, e6, hV5, hf5, hB5⟩; have hn5 := hV5.len_; have hO5 := own_stays hO4 hB5; have hD5 := K.below hD4 hB5; have hC5 := hC4.trans (hB5.mono hC4.size))))
      have hD5d : K.Led W5.drew b S xs := K.kept hD5 ((Kept.refl [] W5).drewN 1) (fun _ _ h => by cases h)
      have hO5d : W5.drew.ownsRow w.heap.size 37 4 (.slice A4 N c4) N (Row.flat evS zs) := own_away hO5 ((Kept.refl [] W5).drewN 1) (fun _ h => by cases h)
      have hC5d : Below w.heap.size w W5.drew := below_drewN hC5 1
      have hV5d : Row.Vals itS W5.drew A5 n5 (itemsT zs) := hV5.drewN 1
      have hn15 : n1 ≤ n5 := by rw [← hn1, ← hn5, ← hzs, ← behind_all, List.length_append]; omega
      have hn15z : (n1 : Int) ≤ (n5 : Int) := by omega
      have hn5c : (n5 : Int) ≤ (c5 : Int) := by omega
      refine Reg.begin_ (S := fun _ => True) (by kernel_rfl) trivial (fun hHeld => ?_)
      refine Reg.take (i := 0) (v := ?v1) rfl (by kernel_rfl) (by kernel_rfl) (by kernel_rfl) (by rfl) ?hv1 (by assumption) ?rest1
      case hv1 => first | (intro w hSw; (try dsimp only at hSw); go_simp; done) | (intro w hSw; (try dsimp only at hSw); go_simp; with_reducible rfl)
      (try simp only [Act.put, List.setIfInBounds_toArray, List.set_cons_zero, List.set_cons_succ])
      refine Reg.take (i := 1) (v := ?v2) rfl (by kernel_rfl) (by kernel_rfl) (by kernel_rfl) (by rfl) ?hv2 (by assumption) ?rest2
      case hv2 => first | (intro w hSw; (try dsimp only at hSw); go_simp; done) | (intro w hSw; (try dsimp only at hSw); go_simp; with_reducible rfl)
      (try simp only [Act.put, List.setIfInBounds_toArray, List.set_cons_zero, List.set_cons_succ])
      refine Reg.take (i := 3) (v := ?v3) rfl (by kernel_rfl) (by kernel_rfl) (by kernel_rfl) (by rfl) ?hv3 (by assumption) ?rest3
      case hv3 => first | (intro w hSw; (try dsimp only at hSw); go_simp; done) | (intro w hSw; (try dsimp only at hSw); go_simp; with_reducible rfl)
      (try simp only [Act.put, List.setIfInBounds_toArray, List.set_cons_zero, List.set_cons_succ])
      refine Reg.take (i := 4) (v := ?v4) rfl (by kernel_rfl) (by kernel_rfl) (by kernel_rfl) (by rfl) ?hv4 (by assumption) ?rest4
      case hv4 => first | (intro w hSw; (try dsimp only at hSw); go_simp; done) | (intro w hSw; (try dsimp only at hSw); go_simp; with_reducible rfl)
      (try simp only [Act.put, List.setIfInBounds_toArray, List.set_cons_zero, List.set_cons_succ])
      refine Reg.take (i := 5) (v := ?v5) rfl (by kernel_rfl) (by kernel_rfl) (by kernel_rfl) (by rfl) ?hv5 (by assumption) ?rest5
      case hv5 => first | (intro w hSw; (try dsimp only at hSw); go_simp; done) | (intro w hSw; (try dsimp only at hSw); go_simp; with_reducible rfl)
      (try simp only [Act.put, List.setIfInBounds_toArray, List.set_cons_zero, List.set_cons_succ])
      refine Reg.take (i := 6) (v := ?v6) rfl (by kernel_rfl) (by kernel_rfl) (by kernel_rfl) (by rfl) ?hv6 (by assumption) ?rest6
      case hv6 => first | (intro w hSw; (try dsimp only at hSw); go_simp; done) | (intro w hSw; (try dsimp only at hSw); go_simp; with_reducible rfl)
      (try simp only [Act.put, List.setIfInBounds_toArray, List.set_cons_zero, List.set_cons_succ])
      refine Reg.call (i := 2) rfl (by kernel_rfl) (by rfl) ?_
      intro K1 hK1
      go_simp
      go_at_call 10
      (with_reducible refine (hpush b S xs A p C ys _ hD5d (by omega) (hVp _ hC5d) (by omega) hpb.2.1 hC63 (fun h y hy hm => by have h1 := hfar0 y h hy; have h2 := hS _ hm; omega)).mono ?_)
      rintro e W6 ⟨B6, m6, d6, S6, rfl, g1, g2, hV6, hf6, hD6, hS6, hK6⟩
      have hC6 := below_kept hC5d hK6 hC5d.size hS
      have hSw6 : ∀ k ∈ S6, w.heap.size ≤ k := fun k hk => (hS6 k hk).elim (hS k) (fun h => Nat.le_trans hC5d.size h)
      have hO6 := own_away hO5d hK6 hap4
      have hap6 := away_new hO5d hap4 hS6
      have hV56 := hV5d.kept hK6 (fun h y hy hm => by have h1 := hf5 y hy; have h2 := K.lt hD4 _ hm; omega)
      have hn6 := hV6.len_
      refine hK1.out _ _ trivial (fun hHeld => ?_)
      clear hK1 K1
      (try simp only [Act.put, List.setIfInBounds_toArray, List.set_cons_zero, List.set_cons_succ])
      refine Reg.call (i := 7) rfl (by kernel_rfl) (by rfl) ?_
      intro K1 hK1
      go_simp
      go_at_call 9
      have hdr : (itemsT zs).drop n1 = behindT xs ys := by rw [← hn1, ← hzs]; exact behind_drop xs ys
      have hV9 : Row.Vals itS W6 (if c5 = n1 then A5 else A5.map (fun x => x.add (n1 * 3))) (n5 - n1) ((itemsT zs).drop n1) := hV56.dropIf (cap := c5) n1 hn15 e5
      rw [hdr] at hV9
      have hsm := refsame_any B6 m6 d6 _ _ (n5 - n1) (c5 - n1) _ W6 hV6 hV9 (by rw [← hn6]; have h1 := itemsL_few (afterL start xs) ys; rw [hyl] at h1; have h2 : (behindT xs ys).length ≤ 2 * p := h1; omega) (by rw [← hn5]; have h1 := itemsL_few start zs; rw [hzl] at h1; have h2 : (itemsT zs).length ≤ 2 * N := h1; omega)
      rw [decide_eq_true rfl] at hsm
      (with_reducible refine hsm.mono ?_)
      rintro e W7 ⟨rfl, z7, rfl⟩
      rw [hzs] at hD6
      have hD7 : K.Led (W6.drewN z7) b S6 zs := K.kept hD6 ((Kept.refl [] W6).drewN z7) (fun _ _ h => by cases h)
      have hO7 : (W6.drewN z7).ownsRow w.heap.size 37 4 (.slice A4 N c4) N (Row.flat evS zs) := own_away hO6 ((Kept.refl [] W6).drewN z7) (fun _ h => by cases h)
      have hC7 := below_drewN hC6 z7
      refine hK1.out _ _ trivial (fun hHeld => ?_)
      clear hK1 K1
      (try simp only [Act.put, List.setIfInBounds_toArray, List.set_cons_zero, List.set_cons_succ])
      refine Reg.take (i := 8) (v := ?v7) rfl (by kernel_rfl) (by kernel_rfl) (by kernel_rfl) (by rfl) ?hv7 (by assumption) ?rest7
      case hv7 => first | (intro w hSw; (try dsimp only at hSw); go_simp; done) | (intro w hSw; (try dsimp only at hSw); go_simp; with_reducible rfl)
      (try simp only [Act.put, List.setIfInBounds_toArray, List.set_cons_zero, List.set_cons_succ])
      refine Reg.take (i := 9) (v := ?v8) rfl (by kernel_rfl) (by kernel_rfl) (by kernel_rfl) (by rfl) ?hv8 (by assumption) ?rest8
      case hv8 => first | (intro w hSw; (try dsimp only at hSw); go_simp; done) | (intro w hSw; (try dsimp only at hSw); go_simp; with_reducible rfl)
      (try simp only [Act.put, List.setIfInBounds_toArray, List.set_cons_zero, List.set_cons_succ])
      refine Reg.take (i := 10) (v := ?v9) rfl (by kernel_rfl) (by kernel_rfl) (by kernel_rfl) (by rfl) ?hv9 (by assumption) ?rest9
      case hv9 => first | (intro w hSw; (try dsimp only at hSw); go_simp; done) | (intro w hSw; (try dsimp only at hSw); go_simp; with_reducible rfl)
      (try simp only [Act.put, List.setIfInBounds_toArray, List.set_cons_zero, List.set_cons_succ])
      refine Reg.take (i := 12) (v := ?v10) rfl (by kernel_rfl) (by kernel_rfl) (by kernel_rfl) (by rfl) ?hv10 (by assumption) ?rest10
      case hv10 => first | (intro w hSw; (try dsimp only at hSw); go_simp; done) | (intro w hSw; (try dsimp only at hSw); go_simp; with_reducible rfl)
      (try simp only [Act.put, List.setIfInBounds_toArray, List.set_cons_zero, List.set_cons_succ])
      refine Reg.call (i := 11) rfl (by kernel_rfl) (by rfl) ?_
      intro K1 hK1
      go_simp
      go_at_call 11
      (with_reducible refine (K.on_any b S6 zs _ hD7 (by omega)).mono ?_)
      rintro e W8 ⟨rfl, hB8⟩
      have hD8 := K.below hD7 hB8
      have hO8 := own_stays hO7 hB8
      have hC8 := hC7.trans (hB8.mono hC7.size)
      refine hK1.out _ _ trivial (fun hHeld => ?_)
      clear hK1 K1
      (try simp only [Act.put, List.setIfInBounds_toArray, List.set_cons_zero, List.set_cons_succ])
      refine Reg.take (i := 13) (v := ?v11) rfl (by kernel_rfl) (by kernel_rfl) (by kernel_rfl) (by rfl) ?hv11 (by assumption) ?rest11
      case hv11 => first | (intro w hSw; (try dsimp only at hSw); go_simp; done) | (intro w hSw; (try dsimp only at hSw); go_simp; with_reducible rfl)
      (try simp only [Act.put, List.setIfInBounds_toArray, List.set_cons_zero, List.set_cons_succ])
      refine Reg.take (i := 14) (v := ?v12) rfl (by kernel_rfl) (by kernel_rfl) (by kernel_rfl) (by rfl) ?hv12 (by assumption) ?rest12
      case hv12 => first | (intro w hSw; (try dsimp only at hSw); go_simp; done) | (intro w hSw; (try dsimp only at hSw); go_simp; with_reducible rfl)
      (try simp only [Act.put, List.setIfInBounds_toArray, List.set_cons_zero, List.set_cons_succ])
      refine Reg.done (by kernel_rfl) ?_ _
      generalize onT zs = on at *
      have hs := fun W => samples_any 120 0 on W (by omega) (by omega)
      rw [show ((120 : Nat) : Int) = 120 from rfl, show ((0 : Nat) : Int) = 0 from rfl] at hs
      have hlt8 := K.lt hD8
      have hz4 : zs.length ≤ 4000 := by omega
      go_wp2_with (first
        | (go_at_call 12; ((with_reducible refine (K.clone_any _ _ _ _ hD8 hz4).mono ?_); rintro e W9 ⟨b2, S2, rfl, hD2, hS2, hB9⟩; have hD9 := K.below hD8 hB9; have hO9 := own_stays hO8 hB9; have hC9 := hC8.trans (hB9.mono hC8.size)))
        | (go_at_call 13; ((with_reducible refine (hs _).mono ?_); rintro e W10 ⟨A10, c10, rfl, g3, g4, hV10, hf10, hB10⟩; have hD10 := K.below hD9 hB10; have hD2a := K.below hD2 hB10; have hO10 := own_stays hO9 hB10; have hC10 := hC9.trans (hB10.mono hC9.size); have hlt9 := K.lt hD9))
        | (go_at_call 10; ((with_reducible refine (hpush b S6 zs A10 120 c10 _ _ hD10 hz4 hV10 (by omega) g3 g4 (fun _ y hy hm => by have h1 := hf10 y hy; have h2 := hlt9 _ hm; omega)).mono ?_); rintro e W11 ⟨B11, m11, d11, S11, rfl, _, _, _, _, _, _, hK11⟩; have hC11 := below_kept hC10 hK11 hC10.size hSw6; have hO11 := own_away hO10 hK11 hap6; have hD11 := K.kept hD2a hK11 (fun k hk hm => by have h1 := hS2 k hk; have h2 := hlt8 _ hm; omega))))
      go_roundw
      case rel => exact ⟨j + 1, b2, S2, zs, by omega, by go_num, rfl, hD11, (fun k hk => Nat.le_trans hC8.size (hS2 k hk)), by rw [hzl]; exact hO11, by omega, (fun k hk he => by have h1 := (own_block hO8 k he).2; have h2 := hS2 k hk; omega), hC11⟩
      case measure => simp [intOf]; omega
    · obtain rfl : j = m := by omega
      obtain ⟨n, hn⟩ : ∃ n, xs.length = n := ⟨_, rfl⟩
      rw [hn] at hO hn9
      obtain ⟨A0, c0, rfl, q1, q2, hV0, _⟩ := Row.Vals.own (S := evS) hO
      have hn0 : n ≤ 1800 := by omega
      have hi1 := refitems_any A0 n c0 xs wr hV0 (by omega)
      unfold ItemsIs at hi1
      have hlive := live_k K
      have hfew := itemsL_few start xs
      rw [hn] at hfew
      have hfew2 : (itemsT xs).length ≤ 3600 := by have h2 : (itemsT xs).length ≤ 2 * n := hfew; omega
      clear hfew
      go_wp2_with (first
        | (go_at_call 8; ((with_reducible refine hi1.mono ?_); rintro e W1 ⟨A1, n1, c1, rfl, e1, e2, hV1, hf1, hB1⟩; have hn1 := hV1.len_; have hV01 := hV0.below hB1; have hC1 := hC.trans (hB1.mono hC.size); have hit := K.items_any A0 n c0 xs W1 hV01 (by omega) q1 q2))
        | (go_at_call 14; ((with_reducible refine hit.mono ?_); rintro e W2 ⟨B2, m2, d2, rfl, e3, e4, hV2, hf2, hB2⟩; have hn2 := hV2.len_; have hC2 := hC1.trans (hB2.mono hC1.size); have hV12 := hV1.below hB2; have hsm := refsame_any B2 m2 d2 _ A1 n1 c1 _ W2 hV2 hV12 (by omega) (by omega); rw [decide_eq_true rfl] at hsm))
        | (go_at_call 9; ((with_reducible refine hsm.mono ?_); rintro e W3 ⟨rfl, z3, rfl⟩; have hC3 := below_drewN hC2 z3))
        | (go_at_call 15; ((with_reducible refine (hlive _).mono ?_); rintro e W4 ⟨rfl, hB4⟩; have hC4 := hC3.trans (hB4.mono hC3.size))))
      go_ret
      exact ⟨rfl, hC4⟩
end Go.Proofs.Ytlopkmbindfkjaa.Lead
