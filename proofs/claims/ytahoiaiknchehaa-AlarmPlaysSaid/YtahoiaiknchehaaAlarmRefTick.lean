/- The reference of layer 23: Tick. -/
import Derived.Test.YtahoiaiknchehaaAlarmRefOrder
set_option linter.unusedSimpArgs false
set_option linter.unusedVariables false
namespace Go.Proofs.Ytahoiaiknchehaa.Alarm
open Go.RowKit
/-- The whole state's load, where it is guarded. -/
theorem ref_ldw {ops : Array Oper} {rest : List Oper} {op : Oper} {a : Act} {w : World} {Q : Exit → Act → World → Prop} (x : Operand) (ho : op.op = .load 32 x) (g : Nat) (hx : a.eval x = .pointer (some ⟨g, 0, none⟩)) {cs : Array Value}
    (h : Has w g 32 cs) (hs : cs.size = 33) (hwt : Region.wanted op (yielded ops a.tmps) = true) (hk : wpList Try.prog ops Q rest (a.put op.dst (.agg cs)) w) : wpList Try.prog ops Q (op :: rest) a w :=
  wpList_step fun K hK => by
    rw [if_pos hwt]
    exact wp_load_row 32 x ho g hx 32 cs (0, 0) (.struct (Try.prog.fieldsOf 32)) h (by kernel_rfl) rfl (by rw [hs]; kernel_rfl) (hK _ _ hk)
theorem ret_len {v : Value} {A : Option Addr} {d m n : Nat} (h : m = n) : Ending.returned (.tuple #[v, .slice A m d]) = Ending.returned (.tuple #[v, .slice A n d]) := by rw [h]
theorem ot_first {w : World} {x : Addr} {len : Nat} {ys : List Ot} (h : Row.Vals otS w (some x) len ys) (h0 : 0 < len) : x.block < w.heap.size := by
  have h1 := World.block_lt_of_cell? _ _ (ot_cells h 0 h0).1
  rwa [block_add] at h1
/-- Blocks of the call's own, apart from its own, have turned. -/
theorem Rl.late {w W W' : World} {base g y : Nat} {s : St} {V : Value} {E : List Ot} {T : List Nat} (h : Rl w base g y s V E W) (hK : Kept T W W') (hT : ∀ k ∈ T, base ≤ k) (hv : ∀ k, V.ownBlock = some k → k ∉ T) : Rl w base g y s V E W' := by
  have hlt := h.lt
  refine ⟨⟨hK.has h.rs.X (fun hk => by have := hT _ hk; omega), hK.has h.rs.Y (fun hk => by have := hT _ hk; omega), below_kept h.rs.low hK h.rs.low.size (fun k hk => by have := hT k hk; have := h.hi; omega), h.rs.hi, h.rs.ne_⟩, ?_, h.lt, h.hi.1, Nat.le_trans h.hi.2 hK.size⟩
  obtain ⟨h1, h2⟩ := h.own
  refine ⟨h1, ?_⟩
  rcases h2 with h2 | ⟨k, cap, cur, rfl, hk, hh, h3⟩
  · exact .inl h2
  · exact .inr ⟨k, cap, cur, rfl, hk, (hK.block k (Has.lt (w := W) hh) (hv k rfl)).trans hh, h3⟩
set_option maxRecDepth 100000 in
set_option maxHeartbeats 8000000 in
theorem reftick_any (s : St) (at_ : Int) (A : Option Addr) (n c : Nat) (os : List Or) (hO : Ok s) (w : World) (hv : Row.Vals orS w A n os) (hn : n ≤ 1000) : Calls Try.prog 13 #[refV s, .int .i64 at_, .slice A n c] w (RAns w (tickT s at_ os)) := by
  have hInfo : (Try.prog.info? 53).map (fun i => (i.zero, i.size, i.bytes)) = some (some (.agg #[.int .i64 0, .int .i64 0, .int .i64 0, .int .i64 0]), 4, 32) := by kernel_rfl
  have HInfo := Lib.hid hInfo
  clear hInfo
  have hX1 := Has.new w 32 (refC s)
  have hY : Has ((w.alloc (.cells (refC s) 32)).alloc (.cells zeroR 32)) (w.heap.size + 1) 32 zeroR := by simpa using Has.new (w.alloc (.cells (refC s) 32)) 32 zeroR
  have hB : Below w.heap.size w ((w.alloc (.cells (refC s) 32)).alloc (.cells zeroR 32)) := ((Below.refl w.heap.size w).alloc (Nat.le_refl _) _).alloc (by simp) _
  have hX := hX1.alloc (.cells zeroR 32)
  obtain ⟨W2, hW2⟩ : ∃ W2, (w.alloc (.cells (refC s) 32)).alloc (.cells zeroR 32) = W2 := ⟨_, rfl⟩
  rw [hW2] at hX hY hB
  have hR0 : Rl w W2.heap.size w.heap.size (w.heap.size + 1) s (.slice none 0 0) [] W2 := ⟨⟨hX, hY, hB, ⟨Nat.le_refl _, by omega⟩, by omega⟩, Row.own_none (S := otS) _ _ _, ⟨hX.lt, hY.lt⟩, hB.size, Nat.le_refl _⟩
  unfold zeroR at hW2
  clear hX1 hX hY hB
  unfold refV tickT
  have hne := fun W => refnear_any at_ W
  have hab := nearT_bd at_
  generalize nearT at_ = t at *
  have HAB := Lib.hid hab
  have hlen := hv.len_
  clear hab
  go_enter Try.func13, Try.ntmps13
  go_upto_region 1 with (fail)
  clear hW2
  go_wp2_with (go_at_call 25; ((with_reducible refine (hne _).mono ?_); rintro e W3 ⟨rfl, rfl⟩))
  generalize W3.heap.size = base at *
  go_loopw [8, 9] (fun V i wr => ∃ k : Nat, k ≤ n ∧ i = .int .i64 (k : Nat) ∧ Rl w base w.heap.size (w.heap.size + 1) (ordersT t s (os.take k)).1 V (ordersT t s (os.take k)).2 wr) (fun _ i _ => n - (intOf i).toNat)
  case atStart => exact ⟨0, by omega, rfl, hR0⟩
  case round =>
    clear hR0
    obtain ⟨k, hk, rfl, hR⟩ := hrel
    by_cases hkn : k < n
    · obtain ⟨x, rfl, _⟩ := hv.cells (by omega)
      obtain ⟨c0, c1, c2⟩ := or_cells (hv.below hR.rs.low) k hkn
      have hkz : (k : Int) < (n : Int) := by omega
      have HL := Lib.hid (show (ordersT t s (os.take k)).2.length ≤ 12000 by
        have h1 := orders_len t (os.take k) s
        rw [List.length_take] at h1; omega)
      have HN := Lib.hid (show ordersT t s (os.take (k + 1)) = ((orderT t (ordersT t s (os.take k)).1 (os.getD k noOr)).1, (ordersT t s (os.take k)).2 ++ (orderT t (ordersT t s (os.take k)).1 (os.getD k noOr)).2) from by rw [os_next os k (by omega), orders_snoc])
      have hcs0 : ∀ W, Below w.heap.size w W → W.cell? (x.add (k * 3)) = some (.int .i64 (os.getD k noOr).1) ∧ W.cell? ⟨(x.add (k * 3)).block, (x.add (k * 3)).off + 1, none⟩ = some (.int .i64 (os.getD k noOr).2.1) ∧ W.cell? ⟨(x.add (k * 3)).block, (x.add (k * 3)).off + 2, none⟩ = some (.int .i64 (os.getD k noOr).2.2) := fun W hW => or_cells (hv.below hW) k hkn
      clear hv hlen
      generalize (ordersT t s (os.take k)).2 = F at *
      generalize (ordersT t s (os.take k)).1 = s1 at *
      generalize os.getD k noOr = o at *
      have hord := fun W => reforder_any s1 t o HAB.out W
      unfold refV at hord
      have HOL := Lib.hid (order_len t s1 o)
      obtain ⟨o1, o2, o3⟩ := o
      dsimp only at c0 c1 c2 hord hcs0
      generalize orderT t s1 (o1, o2, o3) = r at *
      obtain ⟨s2, F2⟩ := r
      have HKN := Lib.hid hkn
      clear hkn hk
      go_upto_region 6 with (fail)
      have hRd := hR.grow (below_drewN (Below.refl _ wr) 1)
      change Rl w base w.heap.size (w.heap.size + 1) s1 _ F wr.drew at hRd
      refine Till.begin_ (T := [12]) (S := fun W => Has W w.heap.size 32 (refC s1) ∧ W.cell? (x.add (k * 3)) = some (.int .i64 o1) ∧ W.cell? ⟨(x.add (k * 3)).block, (x.add (k * 3)).off + 1, none⟩ = some (.int .i64 o2) ∧ W.cell? ⟨(x.add (k * 3)).block, (x.add (k * 3)).off + 2, none⟩ = some (.int .i64 o3)) (by kernel_rfl) (by exact ⟨hRd.rs.X, c0, c1, c2⟩) (fun hHeld => ?_)
      refine Till.take (i := 0) (v := .agg (refC s1)) rfl (by kernel_rfl) (by kernel_rfl) (by kernel_rfl) (by kernel_rfl) (by rfl) (fun W hSw => by exact ref_take rfl rfl hSw.1 (ref_size _)) (by assumption) ?_
      (try simp only [Act.put, List.setIfInBounds_toArray, List.set_cons_zero, List.set_cons_succ])
      refine Till.take (i := 1) (v := ?v1) rfl (by kernel_rfl) (by kernel_rfl) (by kernel_rfl) (by kernel_rfl) (by rfl) ?hv1 (by assumption) ?rest1
      case hv1 => first | (intro w hSw; (try dsimp only at hSw); go_simp; done) | (intro w hSw; (try dsimp only at hSw); go_simp; with_reducible rfl)
      (try simp only [Act.put, List.setIfInBounds_toArray, List.set_cons_zero, List.set_cons_succ])
      refine Till.take (i := 2) (v := ?v2) rfl (by kernel_rfl) (by kernel_rfl) (by kernel_rfl) (by kernel_rfl) (by rfl) ?hv2 (by assumption) ?rest2
      case hv2 => first | (intro w hSw; (try dsimp only at hSw); go_simp; done) | (intro w hSw; (try dsimp only at hSw); go_simp; with_reducible rfl)
      (try simp only [Act.put, List.setIfInBounds_toArray, List.set_cons_zero, List.set_cons_succ])
      refine Till.take (i := 3) (v := ?v3) rfl (by kernel_rfl) (by kernel_rfl) (by kernel_rfl) (by kernel_rfl) (by rfl) ?hv3 (by assumption) ?rest3
      case hv3 => first | (intro w hSw; (try dsimp only at hSw); go_simp; done) | (intro w hSw; (try dsimp only at hSw); go_simp; with_reducible rfl)
      (try simp only [Act.put, List.setIfInBounds_toArray, List.set_cons_zero, List.set_cons_succ])
      refine Till.take (i := 4) (v := ?v4) rfl (by kernel_rfl) (by kernel_rfl) (by kernel_rfl) (by kernel_rfl) (by rfl) ?hv4 (by assumption) ?rest4
      case hv4 => first | (intro w hSw; (try dsimp only at hSw); go_simp; done) | (intro w hSw; (try dsimp only at hSw); go_simp; with_reducible rfl)
      (try simp only [Act.put, List.setIfInBounds_toArray, List.set_cons_zero, List.set_cons_succ])
      refine Till.take (i := 5) (v := ?v5) rfl (by kernel_rfl) (by kernel_rfl) (by kernel_rfl) (by kernel_rfl) (by rfl) ?hv5 (by assumption) ?rest5
      case hv5 => first | (intro w hSw; (try dsimp only at hSw); go_simp; done) | (intro w hSw; (try dsimp only at hSw); go_simp; with_reducible rfl)
      (try simp only [Act.put, List.setIfInBounds_toArray, List.set_cons_zero, List.set_cons_succ])
      have hcs : ∀ W, Below w.heap.size w W → W.cell? (x.add (k * 3)) = some (.int .i64 o1) ∧ W.cell? ⟨(x.add (k * 3)).block, (x.add (k * 3)).off + 1, none⟩ = some (.int .i64 o2) ∧ W.cell? ⟨(x.add (k * 3)).block, (x.add (k * 3)).off + 2, none⟩ = some (.int .i64 o3) := hcs0
      clear c0 c1 c2 hR hHeld
      generalize wr.drew = W4 at *
      refine Till.both (i := 6) (j := 10) rfl rfl (by kernel_rfl) (by rfl) (by rfl) ?_ ?_
      · intro K hK
        go_simp
        go_at_call 31
        ((with_reducible refine (hord _).mono ?_); rintro e W5 ⟨B2, d2, rfl, h1, h2, hV2, hf2, hB2⟩)
        have hR5 := hRd.grow hB2
        have hbz := Nat.le_trans hRd.hi.2 hB2.size
        have hf9 : ∀ y, B2 = some y → base ≤ y.block := fun y hy => Nat.le_trans hRd.hi.2 (hf2 y hy)
        have hv9 : ∀ y, Value.ownBlock u8 = some y → y < W5.heap.size := fun y hy => Nat.lt_of_lt_of_le (own_block hRd.own y hy).2 hB2.size
        clear hRd hf2 hB2 hord
        refine hK.out _ _ (by exact ⟨hR5.rs.X, hcs _ hR5.rs.low⟩) (fun hHeld => ?_)
        clear hK K
        (try simp only [Act.put, List.setIfInBounds_toArray, List.set_cons_zero, List.set_cons_succ])
        refine Till.take (i := 7) (v := ?v6) rfl (by kernel_rfl) (by kernel_rfl) (by kernel_rfl) (by kernel_rfl) (by rfl) ?hv6 (by assumption) ?rest6
        case hv6 => first | (intro w hSw; (try dsimp only at hSw); go_simp; done) | (intro w hSw; (try dsimp only at hSw); go_simp; with_reducible rfl)
        (try simp only [Act.put, List.setIfInBounds_toArray, List.set_cons_zero, List.set_cons_succ])
        refine Till.take (i := 8) (v := ?v7) rfl (by kernel_rfl) (by kernel_rfl) (by kernel_rfl) (by kernel_rfl) (by rfl) ?hv7 (by assumption) ?rest7
        case hv7 => first | (intro w hSw; (try dsimp only at hSw); go_simp; done) | (intro w hSw; (try dsimp only at hSw); go_simp; with_reducible rfl)
        (try simp only [Act.put, List.setIfInBounds_toArray, List.set_cons_zero, List.set_cons_succ])
        refine Till.take (i := 9) (v := ?v8) rfl (by kernel_rfl) (by kernel_rfl) (by kernel_rfl) (by kernel_rfl) (by rfl) ?hv8 (by assumption) ?rest8
        case hv8 => first | (intro w hSw; (try dsimp only at hSw); go_simp; done) | (intro w hSw; (try dsimp only at hSw); go_simp; with_reducible rfl)
        (try simp only [Act.put, List.setIfInBounds_toArray, List.set_cons_zero, List.set_cons_succ])
        have hZ6 : Has (W5.alloc (.cells zeroR 32)) W5.heap.size 32 zeroR := Has.new W5 _ _
        have hR6 := hR5.grow ((Below.refl _ W5).alloc (Nat.le_refl _) (.cells zeroR 32))
        have hV6 := hV2.alloc (.cells zeroR 32)
        have hz9 : base ≤ W5.heap.size := hbz
        have hq9 : ∀ y, B2 = some y → 0 < F2.length → y.block ≠ W5.heap.size := fun y hy h0 => by
          subst hy
          have h9 := ot_first hV2 h0
          omega
        unfold zeroR at hZ6 hR6 hV6
        clear hHeld hR5 hV2 hbz
        refine Till.call (i := 10) rfl (by kernel_rfl) (by rfl) ?_
        intro K hK
        go_simp
        refine hK.out _ _ (by exact ⟨hR6.rs.X, hcs _ hR6.rs.low⟩) (fun hHeld => ?_)
        clear hK K
        (try simp only [Act.put, List.setIfInBounds_toArray, List.set_cons_zero, List.set_cons_succ])
        generalize W5.heap.size = z at *
        generalize W5.alloc _ = W6 at *
        clear hHeld
        have hK9 := kept_row W6 z (refC s2)
        have hgz : w.heap.size < base ∧ w.heap.size + 1 < base := hR6.lt
        have hY9 := hZ6.row (refC s2)
        have hR9 : Rl w base w.heap.size (w.heap.size + 1) s1 _ F (W6.setRow z (refC s2)) := hR6.late hK9 (fun k hk => by simp at hk; subst hk; omega) (fun y hy => by have := hv9 y hy; simp; omega)
        have hV9 := hV6.kept hK9 (fun h0 y hy hk => hq9 y hy h0 (by simpa using hk))
        refine Till.call (i := 11) rfl (by kernel_rfl) (by rfl) ?_
        intro K hK
        refine wp_store_row 32 _ _ rfl z (refC s2) rfl rfl 32 _ hZ6 (by rw [ref_size]; kernel_rfl) (by rw [ref_size]; rfl) (ref_one _) ?_
        refine hK.out _ _ (by exact ⟨hR9.rs.X, hcs _ hR9.rs.low⟩) (fun hHeld => ?_)
        clear hK K
        (try simp only [Act.put, List.setIfInBounds_toArray, List.set_cons_zero, List.set_cons_succ])
        clear hHeld hR6 hZ6 hV6 hK9 hcs hq9
        generalize W6.setRow z (refC s2) = W9 at *
        refine Till.put (i := 12) rfl (by kernel_rfl) (by rfl) (by rfl) ?_
        intro K hK
        go_simp
        refine hK.out _ _ ?_
        clear hK K
        (try simp only [Act.put, List.setIfInBounds_toArray, List.set_cons_zero, List.set_cons_succ])
        refine Till.done (by kernel_rfl) ?_ _
        clear hv9 hcs0
        go_upto_region 8 with (first
          | (refine ref_ld rfl _ rfl _ rfl hY9 (ref_size _) ?_)
          | (refine ref_st rfl _ _ rfl _ _ rfl rfl hR9.rs.X (ref_size _) (ref_size _) (ref_one _) ?_))
        have hK9 := kept_row W9 w.heap.size (refC s2)
        have hRa := hR9.turn (hR9.rs.turn (hR9.rs.X.row (refC s2)) hK9) hK9
        have hVa := hV9.kept hK9 (fun _ y hy hk => by have := hf9 y hy; simp at hk; omega)
        clear hR9 hV9 hY9 hK9
        generalize W9.setRow w.heap.size (refC s2) = Wa at *
        have hOL := HOL.out
        dsimp only at hOL
        go_wp2_with (at_builtin; refine Row.wpList_append (S := otS) rfl (.tmp 35) (.tmp 36) _ rfl base 53 _ 32 (by omega) Try.underlying37 HInfo.out (by kernel_rfl) _ _ _ rfl hRa.own _ _ _ _ rfl hVa (by have := HL.out; omega) hRa.hi.2 ?_; intro Vb Wb hOb hgb hatb; have hRb := hRa.grown hOb hgb; clear hOb hgb hatb hRa hVa)
        go_roundw
        case rel => exact ⟨k + 1, by have := HKN.out; omega, by go_num, by rw [HN.out]; exact hRb⟩
        case measure => have := HKN.out; simp [intOf]; omega
      · intro K hK
        go_simp
        have hZ5 : Has (W4.alloc (.cells zeroR 32)) W4.heap.size 32 zeroR := Has.new W4 _ _
        have hR5 := hRd.grow ((Below.refl _ W4).alloc (Nat.le_refl _) (.cells zeroR 32))
        have hz9 : base ≤ W4.heap.size := hRd.hi.2
        have hzl : W4.heap.size < (W4.alloc (.cells zeroR 32)).heap.size := hZ5.lt
        have hv9 : ∀ y, Value.ownBlock u8 = some y → y < W4.heap.size := fun y hy => (own_block hRd.own y hy).2
        unfold zeroR at hZ5 hR5 hzl
        clear hRd
        refine hK.out _ _ (by exact ⟨hR5.rs.X, hcs _ hR5.rs.low⟩) (fun hHeld => ?_)
        clear hK K
        (try simp only [Act.put, List.setIfInBounds_toArray, List.set_cons_zero, List.set_cons_succ])
        generalize W4.heap.size = z at *
        generalize W4.alloc _ = W5 at *
        clear hHeld
        refine Till.call (i := 6) rfl (by kernel_rfl) (by rfl) ?_
        intro K hK
        go_simp
        go_at_call 31
        ((with_reducible refine (hord _).mono ?_); rintro e W6 ⟨B2, d2, rfl, h1, h2, hV6, hf2, hB2⟩)
        have hR6 := hR5.grow hB2
        have hZ6 := hZ5.below hB2 hZ5.lt
        have hf9 : ∀ y, B2 = some y → base ≤ y.block := fun y hy => by have := hf2 y hy; omega
        have hq9 : ∀ y, B2 = some y → 0 < F2.length → y.block ≠ z := fun y hy _ => by have := hf2 y hy; omega
        clear hR5 hZ5 hf2 hB2 hord hzl
        refine hK.out _ _ (by exact ⟨hR6.rs.X, hcs _ hR6.rs.low⟩) (fun hHeld => ?_)
        clear hK K
        (try simp only [Act.put, List.setIfInBounds_toArray, List.set_cons_zero, List.set_cons_succ])
        refine Till.take (i := 7) (v := ?v9) rfl (by kernel_rfl) (by kernel_rfl) (by kernel_rfl) (by kernel_rfl) (by rfl) ?hv9 (by assumption) ?rest9
        case hv9 => first | (intro w hSw; (try dsimp only at hSw); go_simp; done) | (intro w hSw; (try dsimp only at hSw); go_simp; with_reducible rfl)
        (try simp only [Act.put, List.setIfInBounds_toArray, List.set_cons_zero, List.set_cons_succ])
        refine Till.take (i := 8) (v := ?v10) rfl (by kernel_rfl) (by kernel_rfl) (by kernel_rfl) (by kernel_rfl) (by rfl) ?hv10 (by assumption) ?rest10
        case hv10 => first | (intro w hSw; (try dsimp only at hSw); go_simp; done) | (intro w hSw; (try dsimp only at hSw); go_simp; with_reducible rfl)
        (try simp only [Act.put, List.setIfInBounds_toArray, List.set_cons_zero, List.set_cons_succ])
        refine Till.take (i := 9) (v := ?v11) rfl (by kernel_rfl) (by kernel_rfl) (by kernel_rfl) (by kernel_rfl) (by rfl) ?hv11 (by assumption) ?rest11
        case hv11 => first | (intro w hSw; (try dsimp only at hSw); go_simp; done) | (intro w hSw; (try dsimp only at hSw); go_simp; with_reducible rfl)
        (try simp only [Act.put, List.setIfInBounds_toArray, List.set_cons_zero, List.set_cons_succ])
        clear hHeld
        have hK9 := kept_row W6 z (refC s2)
        have hgz : w.heap.size < base ∧ w.heap.size + 1 < base := hR6.lt
        have hY9 := hZ6.row (refC s2)
        have hR9 : Rl w base w.heap.size (w.heap.size + 1) s1 _ F (W6.setRow z (refC s2)) := hR6.late hK9 (fun k hk => by simp at hk; subst hk; omega) (fun y hy => by have := hv9 y hy; simp; omega)
        have hV9 := hV6.kept hK9 (fun h0 y hy hk => hq9 y hy h0 (by simpa using hk))
        refine Till.call (i := 11) rfl (by kernel_rfl) (by rfl) ?_
        intro K hK
        refine wp_store_row 32 _ _ rfl z (refC s2) rfl rfl 32 _ hZ6 (by rw [ref_size]; kernel_rfl) (by rw [ref_size]; rfl) (ref_one _) ?_
        refine hK.out _ _ (by exact ⟨hR9.rs.X, hcs _ hR9.rs.low⟩) (fun hHeld => ?_)
        clear hK K
        (try simp only [Act.put, List.setIfInBounds_toArray, List.set_cons_zero, List.set_cons_succ])
        clear hHeld hR6 hZ6 hV6 hK9 hcs hq9
        generalize W6.setRow z (refC s2) = W9 at *
        refine Till.put (i := 12) rfl (by kernel_rfl) (by rfl) (by rfl) ?_
        intro K hK
        go_simp
        refine hK.out _ _ ?_
        clear hK K
        (try simp only [Act.put, List.setIfInBounds_toArray, List.set_cons_zero, List.set_cons_succ])
        refine Till.done (by kernel_rfl) ?_ _
        clear hv9 hcs0
        go_upto_region 8 with (first
          | (refine ref_ld rfl _ rfl _ rfl hY9 (ref_size _) ?_)
          | (refine ref_st rfl _ _ rfl _ _ rfl rfl hR9.rs.X (ref_size _) (ref_size _) (ref_one _) ?_))
        have hK9 := kept_row W9 w.heap.size (refC s2)
        have hRa := hR9.turn (hR9.rs.turn (hR9.rs.X.row (refC s2)) hK9) hK9
        have hVa := hV9.kept hK9 (fun _ y hy hk => by have := hf9 y hy; simp at hk; omega)
        clear hR9 hV9 hY9 hK9
        generalize W9.setRow w.heap.size (refC s2) = Wa at *
        have hOL := HOL.out
        dsimp only at hOL
        go_wp2_with (at_builtin; refine Row.wpList_append (S := otS) rfl (.tmp 35) (.tmp 36) _ rfl base 53 _ 32 (by omega) Try.underlying37 HInfo.out (by kernel_rfl) _ _ _ rfl hRa.own _ _ _ _ rfl hVa (by have := HL.out; omega) hRa.hi.2 ?_; intro Vb Wb hOb hgb hatb; have hRb := hRa.grown hOb hgb; clear hOb hgb hatb hRa hVa)
        go_roundw
        case rel => exact ⟨k + 1, by have := HKN.out; omega, by go_num, by rw [HN.out]; exact hRb⟩
        case measure => have := HKN.out; simp [intOf]; omega
    · obtain rfl : k = n := by omega
      rw [List.take_of_length_le (by omega)] at hR
      have hO1 := ok_orders t os hO
      have hLn : (ordersT t s os).2.length ≤ 12000 := by
        have h1 := orders_len t os s
        omega
      clear hv hlen hk hkn hO hn
      generalize ordersT t s os = r at *
      obtain ⟨s1, F⟩ := r
      dsimp only at hR hO1 hLn
      have HLn := Lib.hid hLn
      have HO1 := Lib.hid hO1
      clear hLn hO1
      go_wp2
      go_loopw [8, 12, 13] (fun V l i wr => ∃ k : Nat, 1 ≤ k ∧ k ≤ 6 ∧ i = .int .i64 (k : Nat) ∧ l = .bool (anyT s1 k) ∧ Rl w base w.heap.size (w.heap.size + 1) (overT (esc1 t) s1 k).1 V (F ++ (overT (esc1 t) s1 k).2) wr) (fun _ _ i _ => 6 - (intOf i).toNat)
      case atStart => exact ⟨1, by omega, by omega, rfl, by rw [any_one], by rw [over_zero _ _ (esc_zero t s1), List.append_nil]; exact hR⟩
      case round =>
        clear hR
        obtain ⟨k, hk1, hk6, rfl, rfl, hR⟩ := hrel
        by_cases hk5 : k ≤ 5
        · have hk : 1 ≤ k ∧ k ≤ 5 := ⟨hk1, hk5⟩
          have hkn : k < 6 := by omega
          have hk7 : 0 ≤ (k : Int) ∧ (k : Int) < 6 := by omega
          have hk8 : (k : Int) ≤ 5 := by omega
          have HK := Lib.hid hk
          have HE := Lib.hid (show (F ++ (overT (esc1 t) s1 k).2).length ≤ 12010 by
            have h1 := over_len (esc1 t) 1 (esc1_len t) s1 k
            have h2 := HLn.out
            rw [List.length_append]; omega)
          have HN := Lib.hid (fun s2 F2 => over_next (esc1 t) s1 k (s2 := s2) (F2 := F2) rfl rfl)
          have hO2 := ok_over (esc1 t) (ok_esc1 t) s1 HO1.out k
          have hgt := over_above (esc1 t) (esc1_ne t) s1 k k (Nat.le_refl _)
          have HA := Lib.hid (show anyT s1 (k + 1) = (anyT s1 k || waits ((overT (esc1 t) s1 k).1.get k)) from by rw [hgt]; rfl)
          clear hgt hk1 hk6 hk5
          generalize (overT (esc1 t) s1 k).2 = G at *
          generalize (overT (esc1 t) s1 k).1 = s2 at *
          generalize anyT s1 k = q9 at *
          have hok := hO2 k
          have hhi := fun W => refhigh_any s2 (k : Int) (quiet_ok hO2) W
          rw [highZ_nat] at hhi
          unfold refV at hhi
          have hsn := hok.since
          have hwr : IntKind.i64.wrap (t - (s2.get k).since) = t - (s2.get k).since := by rw [IntKind.wrap_i64]; have := HAB.out; omega
          obtain ⟨c0, c1, c2, c3, c4⟩ := rpart hR.rs.X hkn
          obtain ⟨r0, -⟩ := hR.rs.rest
          have hzb : base ≤ wr.heap.size := hR.hi.2
          have hzv : ∀ y, Value.ownBlock u8 = some y → y < wr.heap.size := fun y hy => (own_block hR.own y hy).2
          by_cases hst : (s2.get k).stands = true
          · rw [hst] at c1
            by_cases hac : (s2.get k).acked = true
            · have hon := hok.acked hst hac
              have hw : waits (s2.get k) = false := by unfold waits; rw [hac, Bool.not_true, Bool.and_false]
              rw [hac] at c2
              rw [hon] at c0
              have HN2 := Lib.hid (HN.out _ _ (esc1_off t (by rw [hw]; rfl)))
              rw [hw] at HA
              clear hst hac hon hw hok HN hsn hwr hhi
              have hRa := hR.grow ((Below.refl _ wr).alloc (Nat.le_refl _) (.cells #[.bool (true), .bool (true), .bool (true), .bool (s2.get k).esc, .int .i64 (s2.get k).since] 29))
              have hZa := Has.new wr 29 #[.bool (true), .bool (true), .bool (true), .bool (s2.get k).esc, .int .i64 (s2.get k).since]
              clear hR
              go_upto_region 17 with (fail)
              generalize wr.alloc (.cells #[.bool (true), .bool (true), .bool (true), .bool (s2.get k).esc, .int .i64 (s2.get k).since] 29) = Wa at *
              generalize wr.heap.size = z at *
              clear c0 c1 c2 c3 c4 r0
              have z1 := hZa.cell 1
              have z2 := hZa.cell 2
              cases q9
              · go_wp2
                go_roundw
                case rel => exact ⟨k + 1, by have := HK.out; omega, by have := HK.out; omega, by go_num, by rw [HA.out]; rfl, by rw [HN2.out]; (first | (rw [List.append_nil]; exact hRa) | (rw [← List.append_assoc]; exact hRa))⟩
                case measure => have := HK.out; simp [intOf]; omega
              · go_wp2
                go_roundw
                case rel => exact ⟨k + 1, by have := HK.out; omega, by have := HK.out; omega, by go_num, by rw [HA.out]; rfl, by rw [HN2.out]; (first | (rw [List.append_nil]; exact hRa) | (rw [← List.append_assoc]; exact hRa))⟩
                case measure => have := HK.out; simp [intOf]; omega
            · rw [Bool.not_eq_true] at hac
              have hw : waits (s2.get k) = true := waits_iff.2 ⟨hst, hac⟩
              rw [hac] at c2
              rw [hw] at HA
              by_cases hon : (s2.get k).on = true
              · rw [hon] at c0
                by_cases hhg : s2.high k = true
                · have HN2 := Lib.hid (HN.out _ _ (esc1_off t (by rw [hw, hhg]; rfl)))
                  rw [hhg] at hhi
                  clear hst hac hon hw hok HN hsn hwr hhg
                  have hRb := hR.grow ((Below.refl _ wr).alloc (Nat.le_refl _) (.cells #[.bool (true), .bool (true), .bool (false), .bool (s2.get k).esc, .int .i64 (s2.get k).since] 29))
                  have hZb := Has.new wr 29 #[.bool (true), .bool (true), .bool (false), .bool (s2.get k).esc, .int .i64 (s2.get k).since]
                  clear hR
                  go_upto_region 14 with (fail)
                  generalize wr.alloc (.cells #[.bool (true), .bool (true), .bool (false), .bool (s2.get k).esc, .int .i64 (s2.get k).since] 29) = Wb at *
                  generalize wr.heap.size = z at *
                  clear c0 c1 c2 c3 c4 r0
                  have z0 := hZb.cell 0
                  have z1 := hZb.cell 1
                  have z2 := hZb.cell 2
                  go_upto_region 17 with (first
                    | (refine ref_ldw _ rfl _ rfl hRb.rs.X (ref_size _) (by rfl) ?_)
                    | (go_at_call 26; ((with_reducible refine (hhi _).mono ?_); rintro e Wa ⟨rfl, hBa⟩; have hRa := hRb.grow hBa; have hZa := hZb.below hBa hZb.lt; have z4 := hZa.cell 4; obtain ⟨r0, -⟩ := hRa.rs.rest)))
                  clear hRb hZb
                  have z1 := hZa.cell 1
                  have z2 := hZa.cell 2
                  cases q9
                  · go_wp2
                    go_roundw
                    case rel => exact ⟨k + 1, by have := HK.out; omega, by have := HK.out; omega, by go_num, by rw [HA.out]; rfl, by rw [HN2.out]; (first | (rw [List.append_nil]; exact hRa) | (rw [← List.append_assoc]; exact hRa))⟩
                    case measure => have := HK.out; simp [intOf]; omega
                  · go_wp2
                    go_roundw
                    case rel => exact ⟨k + 1, by have := HK.out; omega, by have := HK.out; omega, by go_num, by rw [HA.out]; rfl, by rw [HN2.out]; (first | (rw [List.append_nil]; exact hRa) | (rw [← List.append_assoc]; exact hRa))⟩
                    case measure => have := HK.out; simp [intOf]; omega
                · rw [Bool.not_eq_true] at hhg
                  rw [hhg] at hhi
                  by_cases hes : s2.escape ≤ t - (s2.get k).since
                  · have HN2 := Lib.hid (HN.out _ _ (esc1_on t (by rw [hw, hhg, decide_eq_true hes]; rfl)))
                    have hde : decide (s2.escape ≤ t - (s2.get k).since) = true := decide_eq_true hes
                    have hP1 := fun W X Y (h : Rl w base w.heap.size (w.heap.size + 1) s2 X Y W) => h.put1 k 3 true { s2.get k with esc := true } hk (by omega) rfl
                    have HFR := Lib.hid (fun W X Y (h : Rl w base w.heap.size (w.heap.size + 1) s2 X Y W) => (rpart h.rs.X hkn).2.2.2.1)
                    have HP1 := Lib.hid hP1
                    clear hst hac hon hw hok HN hsn hhg hP1
                    have hRb := hR.grow ((Below.refl _ wr).alloc (Nat.le_refl _) (.cells #[.bool (true), .bool (true), .bool (false), .bool (s2.get k).esc, .int .i64 (s2.get k).since] 29))
                    have hZb := Has.new wr 29 #[.bool (true), .bool (true), .bool (false), .bool (s2.get k).esc, .int .i64 (s2.get k).since]
                    clear hR
                    go_upto_region 14 with (fail)
                    generalize wr.alloc (.cells #[.bool (true), .bool (true), .bool (false), .bool (s2.get k).esc, .int .i64 (s2.get k).since] 29) = Wb at *
                    generalize wr.heap.size = z at *
                    clear c0 c1 c2 c3 c4 r0
                    have z0 := hZb.cell 0
                    have z1 := hZb.cell 1
                    have z2 := hZb.cell 2
                    go_upto_region 15 with (first
                      | (refine ref_ldw _ rfl _ rfl hRb.rs.X (ref_size _) (by rfl) ?_)
                      | (go_at_call 26; ((with_reducible refine (hhi _).mono ?_); rintro e Wa ⟨rfl, hBa⟩; have hRa := hRb.grow hBa; have hZa := hZb.below hBa hZb.lt; have z4 := hZa.cell 4; obtain ⟨r0, -⟩ := hRa.rs.rest)))
                    clear hRb hZb z0 z1 z2
                    have d3 := HFR.out _ _ _ hRa
                    have f3 := hRa.rs.X.frozen (1 + k * 5 + 3)
                    have hgz : w.heap.size < base := hRa.lt.1
                    have hR5 := HP1.out _ _ _ hRa
                    have hZ5 := hZa.far (p := ⟨w.heap.size, 1 + k * 5 + 3, none⟩) (by show z ≠ w.heap.size; omega) (.bool true)
                    go_upto_region 16 with (fail)
                    generalize Wa.setCell ⟨w.heap.size, 1 + k * 5 + 3, none⟩ (.bool true) = W5 at *
                    clear hRa hZa d3 f3 z4 r0 hde hwr hes HFR HP1
                    have hR6 := hR5.grow ((Below.refl _ W5).alloc (Nat.le_refl _) (.cells #[.int .i64 6, .int .i64 t, .int .i64 (k : Nat), .int .i64 0] 53))
                    have hZ6 := hZ5.alloc (.cells #[.int .i64 6, .int .i64 t, .int .i64 (k : Nat), .int .i64 0] 53)
                    have hV6 := ot_one W5 53 (6, t, (k : Int), 0)
                    dsimp only at hV6
                    clear hR5 hZ5
                    have hzn : z ∉ (Value.ownBlock u8).toList := fun hk9 => by have := hzv z (by simpa using hk9); omega
                    go_upto_region 17 with (at_builtin; refine Row.wpList_append (S := otS) rfl (.tmp 76) (.tmp 80) _ rfl base 53 _ 32 (by omega) Try.underlying37 HInfo.out (by kernel_rfl) _ _ _ rfl hR6.own _ 1 1 [(6, t, (k : Int), 0)] rfl hV6 (by have := HE.out; omega) hR6.hi.2 ?_; intro V7 W7 hO7 hg7 hat7; have hR7 := hR6.grown hO7 hg7; have hZ7 := (Kept.of_grown hg7).has hZ6 hzn; clear hO7 hg7 hat7 hR6 hZ6 hV6)
                    have z1 := hZ7.cell 1
                    have z2 := hZ7.cell 2
                    cases q9
                    · go_wp2
                      go_roundw
                      case rel => exact ⟨k + 1, by have := HK.out; omega, by have := HK.out; omega, by go_num, by rw [HA.out]; rfl, by rw [HN2.out]; (first | (rw [List.append_nil]; exact hR7) | (rw [← List.append_assoc]; exact hR7))⟩
                      case measure => have := HK.out; simp [intOf]; omega
                    · go_wp2
                      go_roundw
                      case rel => exact ⟨k + 1, by have := HK.out; omega, by have := HK.out; omega, by go_num, by rw [HA.out]; rfl, by rw [HN2.out]; (first | (rw [List.append_nil]; exact hR7) | (rw [← List.append_assoc]; exact hR7))⟩
                      case measure => have := HK.out; simp [intOf]; omega
                  · have HN2 := Lib.hid (HN.out _ _ (esc1_off t (by rw [decide_eq_false hes, Bool.and_false])))
                    have hde : decide (s2.escape ≤ t - (s2.get k).since) = false := decide_eq_false hes
                    clear hst hac hon hw hok HN hsn hhg
                    have hRb := hR.grow ((Below.refl _ wr).alloc (Nat.le_refl _) (.cells #[.bool (true), .bool (true), .bool (false), .bool (s2.get k).esc, .int .i64 (s2.get k).since] 29))
                    have hZb := Has.new wr 29 #[.bool (true), .bool (true), .bool (false), .bool (s2.get k).esc, .int .i64 (s2.get k).since]
                    clear hR
                    go_upto_region 14 with (fail)
                    generalize wr.alloc (.cells #[.bool (true), .bool (true), .bool (false), .bool (s2.get k).esc, .int .i64 (s2.get k).since] 29) = Wb at *
                    generalize wr.heap.size = z at *
                    clear c0 c1 c2 c3 c4 r0
                    have z0 := hZb.cell 0
                    have z1 := hZb.cell 1
                    have z2 := hZb.cell 2
                    go_upto_region 17 with (first
                      | (refine ref_ldw _ rfl _ rfl hRb.rs.X (ref_size _) (by rfl) ?_)
                      | (go_at_call 26; ((with_reducible refine (hhi _).mono ?_); rintro e Wa ⟨rfl, hBa⟩; have hRa := hRb.grow hBa; have hZa := hZb.below hBa hZb.lt; have z4 := hZa.cell 4; obtain ⟨r0, -⟩ := hRa.rs.rest)))
                    clear hRb hZb
                    have z1 := hZa.cell 1
                    have z2 := hZa.cell 2
                    cases q9
                    · go_wp2
                      go_roundw
                      case rel => exact ⟨k + 1, by have := HK.out; omega, by have := HK.out; omega, by go_num, by rw [HA.out]; rfl, by rw [HN2.out]; (first | (rw [List.append_nil]; exact hRa) | (rw [← List.append_assoc]; exact hRa))⟩
                      case measure => have := HK.out; simp [intOf]; omega
                    · go_wp2
                      go_roundw
                      case rel => exact ⟨k + 1, by have := HK.out; omega, by have := HK.out; omega, by go_num, by rw [HA.out]; rfl, by rw [HN2.out]; (first | (rw [List.append_nil]; exact hRa) | (rw [← List.append_assoc]; exact hRa))⟩
                      case measure => have := HK.out; simp [intOf]; omega
              · have hhg : s2.high k = true := by
                  cases h9 : s2.high k with
                  | true => rfl
                  | false =>
                    unfold St.high at h9
                    rw [Bool.or_eq_false_iff] at h9
                    exact absurd (hok.calm hst hac h9.1 h9.2) hon
                rw [Bool.not_eq_true] at hon
                rw [hon] at c0
                have HN2 := Lib.hid (HN.out _ _ (esc1_off t (by rw [hw, hhg]; rfl)))
                clear hst hac hon hw hok HN hsn hwr hhi hhg
                have hRa := hR.grow ((Below.refl _ wr).alloc (Nat.le_refl _) (.cells #[.bool (false), .bool (true), .bool (false), .bool (s2.get k).esc, .int .i64 (s2.get k).since] 29))
                have hZa := Has.new wr 29 #[.bool (false), .bool (true), .bool (false), .bool (s2.get k).esc, .int .i64 (s2.get k).since]
                clear hR
                go_upto_region 17 with (fail)
                generalize wr.alloc (.cells #[.bool (false), .bool (true), .bool (false), .bool (s2.get k).esc, .int .i64 (s2.get k).since] 29) = Wa at *
                generalize wr.heap.size = z at *
                clear c0 c1 c2 c3 c4 r0
                have z1 := hZa.cell 1
                have z2 := hZa.cell 2
                cases q9
                · go_wp2
                  go_roundw
                  case rel => exact ⟨k + 1, by have := HK.out; omega, by have := HK.out; omega, by go_num, by rw [HA.out]; rfl, by rw [HN2.out]; (first | (rw [List.append_nil]; exact hRa) | (rw [← List.append_assoc]; exact hRa))⟩
                  case measure => have := HK.out; simp [intOf]; omega
                · go_wp2
                  go_roundw
                  case rel => exact ⟨k + 1, by have := HK.out; omega, by have := HK.out; omega, by go_num, by rw [HA.out]; rfl, by rw [HN2.out]; (first | (rw [List.append_nil]; exact hRa) | (rw [← List.append_assoc]; exact hRa))⟩
                  case measure => have := HK.out; simp [intOf]; omega
          · rw [Bool.not_eq_true] at hst
            have hw : waits (s2.get k) = false := by unfold waits; rw [hst, Bool.false_and]
            rw [hst] at c1
            have HN2 := Lib.hid (HN.out _ _ (esc1_off t (by rw [hw]; rfl)))
            rw [hw] at HA
            clear hst hw hok HN hsn hwr hhi
            have hRa := hR.grow ((Below.refl _ wr).alloc (Nat.le_refl _) (.cells #[.bool ((s2.get k).on), .bool (false), .bool ((s2.get k).acked), .bool (s2.get k).esc, .int .i64 (s2.get k).since] 29))
            have hZa := Has.new wr 29 #[.bool ((s2.get k).on), .bool (false), .bool ((s2.get k).acked), .bool (s2.get k).esc, .int .i64 (s2.get k).since]
            clear hR
            go_upto_region 17 with (fail)
            generalize wr.alloc (.cells #[.bool ((s2.get k).on), .bool (false), .bool ((s2.get k).acked), .bool (s2.get k).esc, .int .i64 (s2.get k).since] 29) = Wa at *
            generalize wr.heap.size = z at *
            clear c0 c1 c2 c3 c4 r0
            have z1 := hZa.cell 1
            have z2 := hZa.cell 2
            cases q9
            · go_wp2
              go_roundw
              case rel => exact ⟨k + 1, by have := HK.out; omega, by have := HK.out; omega, by go_num, by rw [HA.out]; rfl, by rw [HN2.out]; (first | (rw [List.append_nil]; exact hRa) | (rw [← List.append_assoc]; exact hRa))⟩
              case measure => have := HK.out; simp [intOf]; omega
            · go_wp2
              go_roundw
              case rel => exact ⟨k + 1, by have := HK.out; omega, by have := HK.out; omega, by go_num, by rw [HA.out]; rfl, by rw [HN2.out]; (first | (rw [List.append_nil]; exact hRa) | (rw [← List.append_assoc]; exact hRa))⟩
              case measure => have := HK.out; simp [intOf]; omega
        · obtain rfl : k = 6 := by omega
          have hq9 := any_over t s1 6 6
          have hGl : (F ++ (overT (esc1 t) s1 6).2).length ≤ 12010 := by
            have h1 := over_len (esc1 t) 1 (esc1_len t) s1 6
            have h2 := HLn.out
            rw [List.length_append]; omega
          clear hk1 hk6 hk5
          generalize (overT (esc1 t) s1 6).2 = G at *
          generalize (overT (esc1 t) s1 6).1 = s3 at *
          rw [← hq9]
          have hld : loudT t s3 = (anyT s3 6 && decide (s3.till ≤ t)) := rfl
          clear hq9
          obtain ⟨-, r1, r2, f1, f2⟩ := hR.rs.rest
          have HG := Lib.hid hGl
          clear hGl
          cases hq : anyT s3 6
          · rw [hq, Bool.false_and] at hld
            clear hq
            cases hs : s3.sounds
            · have HS := Lib.hid (sound_same (hld.trans hs.symm))
              rw [hs] at r2
              clear hs hld
              go_upto_region 25 with (fail)
              clear r1 r2 f1 f2
              obtain ⟨A9, d9, rfl, hY9, hall⟩ := hR.ans (cs := refC (s3)) rfl
              have HALL := Lib.hid hall
              clear hall
              go_wp2_with (first
                | (refine ref_ld rfl _ rfl _ rfl hR.rs.X (ref_size _) ?_)
                | (refine ref_st rfl _ _ rfl _ _ rfl rfl hR.rs.Y (ref_size _) rfl (ref_one _) ?_))
              refine ref_ret rfl (w.heap.size + 1) rfl (.slice A9 _ d9) rfl _ hY9 (ref_size _) rfl ?_
              rw [HS.out]
              rw [List.append_nil]
              exact ⟨A9, d9, ret_len (by simp only [List.length_append]), HALL.out⟩
            · have HS := Lib.hid (show soundT t s3 = ({ s3 with sounds := false }, [(7, t, 0, 0)]) from sound_turn hld hs)
              rw [hs] at r2
              clear hs hld
              have hR4 := hR.turn (hR.rs.putSounds false) ((Kept.refl [w.heap.size] wr).setCell (p := ⟨w.heap.size, 32, none⟩) (.inl (by simp)) _)
              clear hR
              go_upto_region 24 with (fail)
              clear r1 r2 f1 f2
              generalize wr.setCell ⟨w.heap.size, 32, none⟩ (.bool false) = W4 at *
              have hR5 := hR4.grow ((Below.refl _ W4).alloc (Nat.le_refl _) (.cells #[.int .i64 7, .int .i64 t, .int .i64 0, .int .i64 0] 53))
              have hV5 := ot_one W4 53 (7, t, 0, 0)
              dsimp only at hV5
              clear hR4
              go_upto_region 25 with (at_builtin; refine Row.wpList_append (S := otS) rfl (.tmp 106) (.tmp 110) _ rfl base 53 _ 32 (by omega) Try.underlying37 HInfo.out (by kernel_rfl) _ _ _ rfl hR5.own _ 1 1 [(7, t, 0, 0)] rfl hV5 (by have := HG.out; omega) hR5.hi.2 ?_; intro V7 W7 hO7 hg7 hat7; have hR7 := hR5.grown hO7 hg7; clear hO7 hg7 hat7 hR5 hV5)
              obtain ⟨A9, d9, rfl, hY9, hall⟩ := hR7.ans (cs := refC ({ s3 with sounds := false })) rfl
              have HALL := Lib.hid hall
              clear hall
              go_wp2_with (first
                | (refine ref_ld rfl _ rfl _ rfl hR7.rs.X (ref_size _) ?_)
                | (refine ref_st rfl _ _ rfl _ _ rfl rfl hR7.rs.Y (ref_size _) rfl (ref_one _) ?_))
              refine ref_ret rfl (w.heap.size + 1) rfl (.slice A9 _ d9) rfl _ hY9 (ref_size _) rfl ?_
              rw [HS.out]
              have hfin := HALL.out
              refine ⟨A9, d9, ret_len (by simp only [List.length_append, List.length_cons, List.length_nil] <;> omega), ?_⟩
              first
                | exact hfin
                | (simp only [List.append_assoc] at hfin ⊢; exact hfin)
          · rw [hq, Bool.true_and] at hld
            clear hq
            by_cases ht : s3.till ≤ t
            · rw [decide_eq_true ht] at hld
              cases hs : s3.sounds
              · have HS := Lib.hid (show soundT t s3 = ({ s3 with sounds := true }, [(7, t, 0, 1)]) from sound_turn hld hs)
                rw [hs] at r2
                clear hs hld
                have hR4 := hR.turn (hR.rs.putSounds true) ((Kept.refl [w.heap.size] wr).setCell (p := ⟨w.heap.size, 32, none⟩) (.inl (by simp)) _)
                clear hR
                go_upto_region 24 with (fail)
                clear r1 r2 f1 f2
                generalize wr.setCell ⟨w.heap.size, 32, none⟩ (.bool true) = W4 at *
                have hR5 := hR4.grow ((Below.refl _ W4).alloc (Nat.le_refl _) (.cells #[.int .i64 7, .int .i64 t, .int .i64 0, .int .i64 1] 53))
                have hV5 := ot_one W4 53 (7, t, 0, 1)
                dsimp only at hV5
                clear hR4
                go_upto_region 25 with (at_builtin; refine Row.wpList_append (S := otS) rfl (.tmp 106) (.tmp 110) _ rfl base 53 _ 32 (by omega) Try.underlying37 HInfo.out (by kernel_rfl) _ _ _ rfl hR5.own _ 1 1 [(7, t, 0, 1)] rfl hV5 (by have := HG.out; omega) hR5.hi.2 ?_; intro V7 W7 hO7 hg7 hat7; have hR7 := hR5.grown hO7 hg7; clear hO7 hg7 hat7 hR5 hV5)
                obtain ⟨A9, d9, rfl, hY9, hall⟩ := hR7.ans (cs := refC ({ s3 with sounds := true })) rfl
                have HALL := Lib.hid hall
                clear hall
                go_wp2_with (first
                  | (refine ref_ld rfl _ rfl _ rfl hR7.rs.X (ref_size _) ?_)
                  | (refine ref_st rfl _ _ rfl _ _ rfl rfl hR7.rs.Y (ref_size _) rfl (ref_one _) ?_))
                refine ref_ret rfl (w.heap.size + 1) rfl (.slice A9 _ d9) rfl _ hY9 (ref_size _) rfl ?_
                rw [HS.out]
                have hfin := HALL.out
                refine ⟨A9, d9, ret_len (by simp only [List.length_append, List.length_cons, List.length_nil] <;> omega), ?_⟩
                first
                  | exact hfin
                  | (simp only [List.append_assoc] at hfin ⊢; exact hfin)
              · have HS := Lib.hid (sound_same (hld.trans hs.symm))
                rw [hs] at r2
                clear hs hld
                go_upto_region 25 with (fail)
                clear r1 r2 f1 f2
                obtain ⟨A9, d9, rfl, hY9, hall⟩ := hR.ans (cs := refC (s3)) rfl
                have HALL := Lib.hid hall
                clear hall
                go_wp2_with (first
                  | (refine ref_ld rfl _ rfl _ rfl hR.rs.X (ref_size _) ?_)
                  | (refine ref_st rfl _ _ rfl _ _ rfl rfl hR.rs.Y (ref_size _) rfl (ref_one _) ?_))
                refine ref_ret rfl (w.heap.size + 1) rfl (.slice A9 _ d9) rfl _ hY9 (ref_size _) rfl ?_
                rw [HS.out]
                rw [List.append_nil]
                exact ⟨A9, d9, ret_len (by simp only [List.length_append]), HALL.out⟩
            · rw [decide_eq_false ht] at hld
              cases hs : s3.sounds
              · have HS := Lib.hid (sound_same (hld.trans hs.symm))
                rw [hs] at r2
                clear hs hld
                go_upto_region 25 with (fail)
                clear r1 r2 f1 f2
                obtain ⟨A9, d9, rfl, hY9, hall⟩ := hR.ans (cs := refC (s3)) rfl
                have HALL := Lib.hid hall
                clear hall
                go_wp2_with (first
                  | (refine ref_ld rfl _ rfl _ rfl hR.rs.X (ref_size _) ?_)
                  | (refine ref_st rfl _ _ rfl _ _ rfl rfl hR.rs.Y (ref_size _) rfl (ref_one _) ?_))
                refine ref_ret rfl (w.heap.size + 1) rfl (.slice A9 _ d9) rfl _ hY9 (ref_size _) rfl ?_
                rw [HS.out]
                rw [List.append_nil]
                exact ⟨A9, d9, ret_len (by simp only [List.length_append]), HALL.out⟩
              · have HS := Lib.hid (show soundT t s3 = ({ s3 with sounds := false }, [(7, t, 0, 0)]) from sound_turn hld hs)
                rw [hs] at r2
                clear hs hld
                have hR4 := hR.turn (hR.rs.putSounds false) ((Kept.refl [w.heap.size] wr).setCell (p := ⟨w.heap.size, 32, none⟩) (.inl (by simp)) _)
                clear hR
                go_upto_region 24 with (fail)
                clear r1 r2 f1 f2
                generalize wr.setCell ⟨w.heap.size, 32, none⟩ (.bool false) = W4 at *
                have hR5 := hR4.grow ((Below.refl _ W4).alloc (Nat.le_refl _) (.cells #[.int .i64 7, .int .i64 t, .int .i64 0, .int .i64 0] 53))
                have hV5 := ot_one W4 53 (7, t, 0, 0)
                dsimp only at hV5
                clear hR4
                go_upto_region 25 with (at_builtin; refine Row.wpList_append (S := otS) rfl (.tmp 106) (.tmp 110) _ rfl base 53 _ 32 (by omega) Try.underlying37 HInfo.out (by kernel_rfl) _ _ _ rfl hR5.own _ 1 1 [(7, t, 0, 0)] rfl hV5 (by have := HG.out; omega) hR5.hi.2 ?_; intro V7 W7 hO7 hg7 hat7; have hR7 := hR5.grown hO7 hg7; clear hO7 hg7 hat7 hR5 hV5)
                obtain ⟨A9, d9, rfl, hY9, hall⟩ := hR7.ans (cs := refC ({ s3 with sounds := false })) rfl
                have HALL := Lib.hid hall
                clear hall
                go_wp2_with (first
                  | (refine ref_ld rfl _ rfl _ rfl hR7.rs.X (ref_size _) ?_)
                  | (refine ref_st rfl _ _ rfl _ _ rfl rfl hR7.rs.Y (ref_size _) rfl (ref_one _) ?_))
                refine ref_ret rfl (w.heap.size + 1) rfl (.slice A9 _ d9) rfl _ hY9 (ref_size _) rfl ?_
                rw [HS.out]
                have hfin := HALL.out
                refine ⟨A9, d9, ret_len (by simp only [List.length_append, List.length_cons, List.length_nil] <;> omega), ?_⟩
                first
                  | exact hfin
                  | (simp only [List.append_assoc] at hfin ⊢; exact hfin)
end Go.Proofs.Ytahoiaiknchehaa.Alarm
