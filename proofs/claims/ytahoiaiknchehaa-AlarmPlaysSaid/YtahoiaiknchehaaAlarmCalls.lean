/- The landed alarm: Tick, Conds, New, Clone, what it says of a kind; what an alarm that no call made answers; `kit`. -/
import Derived.Test.YtahoiaiknchehaaAlarmKit
import Derived.Test.YtahoiaiknchehaaAlarmTick
import Derived.Test.YtahoiaiknchehaaAlarmSound
set_option linter.unusedSimpArgs false
set_option linter.unusedVariables false
namespace Go.Proofs.Ytahoiaiknchehaa.Alarm
open Go.RowKit
def Alm (w : World) (b : Nat) (s : St) : Prop := Has w b 66 (cellsA s) ∧ Ok s
theorem own_lower {w : World} {base base' : Nat} {t : TypeId} {k n : Nat} {v : Value} {xs : List Value} (h : w.ownsRow base t k v n xs) (hb : base' ≤ base) : w.ownsRow base' t k v n xs :=
  ⟨h.1, h.2.imp id fun ⟨g, cap, cur, h1, h2, h3⟩ => ⟨g, cap, cur, h1, Nat.le_trans hb h2, h3⟩⟩
/-- The first of it. -/
theorem Mid.first {w : World} {b : Nat} {s : St} (a : Int) (h : Has w b 66 (cellsA s)) : Mid w b w.heap.size a (w.alloc (.cells #[.int .i64 a, .slice none 0 0] 68)) s [] :=
  ⟨h.alloc _, ⟨_, Has.new w _ _, Row.own_none (S := otS) _ _ _⟩, (Kept.refl [b] w).alloc _, h.lt, Nat.le_refl _⟩
/-- The end of it. -/
theorem Mid.ans {w W : World} {b g : Nat} {a : Int} {s : St} {E : List Ot} (h : Mid w b g a W s E) (hO : Ok s) : ∃ V, W.cell? ⟨g, 1, none⟩ = some V ∧ AnsIs Alm w b (s, E) (.returned V) W := by
  obtain ⟨V, h1, h2⟩ := h.told
  exact ⟨V, h1.cell 1, V, rfl, own_lower h2 (by have := h.hi; omega), ⟨h.alm, hO⟩, h.kept⟩
set_option maxHeartbeats 2000000 in
theorem tick_k (w : World) (b : Nat) (s : St) (a : Int) (A : Option Addr) (n c : Nat) (os : List Or) (h : Has w b 66 (cellsA s)) (hO : Ok s) (hv : Row.Vals orS w A n os) (hn : n ≤ 10000) (hfar : 0 < n → ∀ x, A = some x → x.block ≠ b) :
    Calls Try.prog 12 #[.pointer (some ⟨b, 0, none⟩), .int .i64 a, .slice A n c] w (AnsIs Alm w b (tickT s a os)) := by
  have hne := fun W => near_k a W
  have hab := nearT_bd a
  unfold tickT
  generalize nearT a = t at *
  have hM0 := Mid.first t h
  have hlen := hv.len_
  have HAB := Lib.hid hab
  clear h hab
  go_enter Try.func12, Try.ntmps12
  go_wp2_with (go_at_call 22; ((with_reducible refine (hne _).mono ?_); rintro e W1 ⟨rfl, rfl⟩))
  generalize W1.alloc (.cells #[.int .i64 t, .slice none 0 0] 68) = W2 at *
  generalize W1.heap.size = g at *
  go_loopw [17] (fun i wr => ∃ k : Nat, k ≤ n ∧ i = .int .i64 (k : Nat) ∧ Mid W1 b g t wr (ordersT t s (os.take k)).1 (ordersT t s (os.take k)).2) (fun i _ => n - (intOf i).toNat)
  case atStart => exact ⟨0, by omega, rfl, hM0⟩
  case round =>
    clear hM0
    obtain ⟨k, hk, rfl, hM⟩ := hrel
    by_cases hkn : k < n
    · obtain ⟨x, rfl, _⟩ := hv.cells (by omega)
      obtain ⟨c0, c1, c2⟩ := or_cells (hv.kept hM.kept (fun h0 y hy => by simp; exact hfar h0 y hy)) k hkn
      have hkz : (k : Int) < (n : Int) := by omega
      have hL : (ordersT t s (os.take k)).2.length ≤ 120000 := by
        have h1 := orders_len t (os.take k) s
        rw [List.length_take] at h1; omega
      have HN := Lib.hid (show ordersT t s (os.take (k + 1)) = ((orderT t (ordersT t s (os.take k)).1 (os.getD k noOr)).1, (ordersT t s (os.take k)).2 ++ (orderT t (ordersT t s (os.take k)).1 (os.getD k noOr)).2) from by rw [os_next os k (by omega), orders_snoc])
      clear hv hfar hlen
      generalize (ordersT t s (os.take k)).2 = F at *
      generalize (ordersT t s (os.take k)).1 = s1 at *
      generalize os.getD k noOr = o at *
      obtain ⟨o1, o2, o3⟩ := o
      dsimp only at c0 c1 c2
      have hM1 := hM.alloc (.cells #[.int .i64 o1, .int .i64 o2, .int .i64 o3] 47)
      have hX := Has.new wr 47 #[.int .i64 o1, .int .i64 o2, .int .i64 o3]
      by_cases hk1 : o2 = 1
      · have hac := fun W hW => ack_k W1 b g t s1 F W hW (by omega)
        rw [order_ack t s1 (o := (o1, o2, o3)) hk1] at HN
        subst hk1
        clear hM hL
        go_wp2_with (go_at_call 27; ((with_reducible refine (hac _ hM1).mono ?_); rintro e W5 ⟨rfl, hM5⟩))
        go_roundw
        case rel => exact ⟨k + 1, by omega, by go_num, by rw [HN.out]; exact hM5⟩
        case measure => simp [intOf]; omega
      · by_cases hk2 : o2 = 2
        · have hsi := fun W hW => silence_k W1 b g t o3 s1 F W hW HAB.out (by omega)
          by_cases hq : 1 ≤ o3 ∧ o3 ≤ 24000
          · rw [order_silence t s1 (o := (o1, o2, o3)) hk2 hq] at HN
            subst hk2
            have HQ := Lib.hid hq
            clear hM hL hk1 hq
            go_wp2_with (go_at_call 28; ((with_reducible refine (hsi _ hM1).mono ?_); rintro e W5 ⟨rfl, hM5, -⟩))
            go_roundw
            case rel => exact ⟨k + 1, by omega, by go_num, by rw [HN.out]; exact hM5 HQ.out⟩
            case measure => simp [intOf]; omega
          · rw [order_loud t s1 (o := (o1, o2, o3)) hk2 hq] at HN
            subst hk2
            have HQ := Lib.hid hq
            clear hM hL hk1 hq
            go_wp2_with (go_at_call 28; ((with_reducible refine (hsi _ hM1).mono ?_); rintro e W5 ⟨rfl, -, hM5⟩))
            go_roundw
            case rel => exact ⟨k + 1, by omega, by go_num, by rw [HN.out]; rw [List.append_nil]; exact hM5 HQ.out⟩
            case measure => simp [intOf]; omega
        · rw [order_no t s1 (o := (o1, o2, o3)) hk1 hk2] at HN
          clear hM hL
          go_wp2
          go_roundw
          case rel => exact ⟨k + 1, by omega, by go_num, by rw [HN.out]; rw [List.append_nil]; exact hM1⟩
          case measure => simp [intOf]; omega
    · obtain rfl : k = n := by omega
      rw [List.take_of_length_le (by omega)] at hM
      have hO1 := ok_orders t os hO
      have hL : (ordersT t s os).2.length ≤ 120000 := by
        have h1 := orders_len t os s
        omega
      have hOk := fun a' => ok_sound a' (ok_over (esc1 t) (ok_esc1 t) (ordersT t s os).1 hO1 6)
      have hL2 := over_len (esc1 t) 1 (esc1_len t) (ordersT t s os).1 6
      clear hv hfar hlen
      generalize hr : ordersT t s os = r at *
      obtain ⟨s1, F⟩ := r
      dsimp only at hO1 hL hM hOk hL2
      have hes := escalate_k W1 b g t s1 F wr hM hO1 HAB.out (by omega)
      have hso := fun W hW => sound_k W1 b g t (overT (esc1 t) s1 6).1 (F ++ (overT (esc1 t) s1 6).2) W hW (by rw [List.length_append]; omega)
      have HR := Lib.hid hr
      clear hr hM hO1 hL hL2 hO
      go_wp2_with (first
        | (go_at_call 29; ((with_reducible refine hes.mono ?_); rintro e W5 ⟨rfl, hM5⟩; have hs6 := hso W5 hM5))
        | (go_at_call 30; ((with_reducible refine hs6.mono ?_); rintro e W6 ⟨rfl, hM6⟩; obtain ⟨V, hV, hA⟩ := hM6.ans (hOk t)))
        )
      go_ret
      exact hA
set_option maxHeartbeats 2000000 in
theorem conds_k (w : World) (b : Nat) (s : St) (A : Option Addr) (n c : Nat) (cs : List Cd) (h : Has w b 66 (cellsA s)) (hO : Ok s) (hv : Row.Vals cdS w A n cs) (hn : n ≤ 100000) (hfar : 0 < n → ∀ x, A = some x → x.block ≠ b) :
    Calls Try.prog 10 #[.pointer (some ⟨b, 0, none⟩), .slice A n c] w (AnsIs Alm w b (condsT s cs)) := by
  have hM0 := Mid.first 0 h
  have hlen := hv.len_
  clear h
  go_enter Try.func10, Try.ntmps10
  go_wp2
  generalize w.alloc (.cells #[.int .i64 0, .slice none 0 0] 68) = W2 at *
  generalize w.heap.size = g at *
  go_loopw [12] (fun i wr => ∃ k : Nat, k ≤ n ∧ i = .int .i64 (k : Nat) ∧ ∃ t, Mid w b g t wr (condsT s (cs.take k)).1 (condsT s (cs.take k)).2) (fun i _ => n - (intOf i).toNat)
  case atStart => exact ⟨0, by omega, rfl, 0, hM0⟩
  case round =>
    clear hM0
    obtain ⟨k, hk, rfl, t0, hM⟩ := hrel
    by_cases hkn : k < n
    · obtain ⟨x, rfl, _⟩ := hv.cells (by omega)
      obtain ⟨c0, c1, c2⟩ := cd_cells (hv.kept hM.kept (fun h0 y hy => by simp; exact hfar h0 y hy)) k hkn
      have hkz : (k : Int) < (n : Int) := by omega
      have hL : (condsT s (cs.take k)).2.length ≤ 100000 := by
        have h1 := conds_len (cs.take k) s
        rw [List.length_take] at h1; omega
      have HN := Lib.hid (show condsT s (cs.take (k + 1)) = ((condT (condsT s (cs.take k)).1 (cs.getD k noCd)).1, (condsT s (cs.take k)).2 ++ (condT (condsT s (cs.take k)).1 (cs.getD k noCd)).2) from by rw [cs_next cs k (by omega), conds_snoc])
      clear hv hfar hlen
      generalize (condsT s (cs.take k)).2 = F at *
      generalize (condsT s (cs.take k)).1 = s1 at *
      generalize cs.getD k noCd = o at *
      obtain ⟨o1, o2, o3⟩ := o
      dsimp only at c0 c1 c2
      have hM1 := hM.alloc (.cells #[.int .i64 o1, .int .i64 o2, .bool o3] 40)
      have hX := Has.new wr 40 #[.int .i64 o1, .int .i64 o2, .bool o3]
      have hgx : wr.heap.size ≠ g := by have := hM.gt; omega
      have hik := fun W => isKind_k o1 W
      have hne := fun W => near_k o2 W
      unfold condT at HN
      dsimp only at HN
      by_cases hq : 1 ≤ o1 ∧ o1 ≤ 5
      · rw [if_pos hq] at HN
        rw [decide_eq_true hq] at hik
        obtain ⟨j, rfl⟩ : ∃ j : Nat, o1 = (j : Int) := ⟨o1.toNat, by omega⟩
        have hj : 1 ≤ j ∧ j ≤ 5 := by omega
        rw [Int.toNat_natCast] at HN
        generalize nearT o2 = t at *
        obtain ⟨y0, y1⟩ := hM1.at_
        have hM2 := hM1.now t
        have hX2 := hX.far (p := ⟨g, 0, none⟩) hgx (.int .i64 t)
        have hbe := fun W hW => begin_k w b g t s1 F j W hW hj (by omega)
        have hen := fun W hW => end_k w b g t s1 F j W hW hj (by omega)
        clear hM hL hq hj
        go_upto_region 9 with (first
          | (go_at_call 21; ((with_reducible refine (hik _).mono ?_); rintro e W3 ⟨rfl, rfl⟩))
          | (go_at_call 22; ((with_reducible refine (hne _).mono ?_); rintro e W4 ⟨rfl, rfl⟩)))
        have z0 := hX2.cell 0
        have z2 := hX2.cell 2
        generalize (wr.alloc (.cells #[.int .i64 (j : Nat), .int .i64 o2, .bool o3] 40)).setCell ⟨g, 0, none⟩ (.int .i64 t) = W5 at *
        have hbe2 := hbe W5 hM2
        have hen2 := hen W5.drew hM2.drew
        generalize wr.heap.size = z at *
        clear hX hX2 hM1 y0 y1 c0 c1 c2 hbe hen
        cases o3
        · rw [if_neg (show ¬ (false = true) by decide)] at HN
          go_upto_region 11 with (fail)
          refine Till.begin_ (T := [5]) (S := fun W => W.cell? ⟨z, 0, none⟩ = some (.int .i64 (j : Nat))) (by kernel_rfl) (by exact z0) (fun hHeld => ?_)
          refine Till.take (i := 0) (v := ?v1) rfl (by kernel_rfl) (by kernel_rfl) (by kernel_rfl) (by kernel_rfl) (by rfl) ?hv1 (by assumption) ?rest1
          case hv1 => first | (intro w hSw; (try dsimp only at hSw); go_simp; done) | (intro w hSw; (try dsimp only at hSw); go_simp; with_reducible rfl)
          (try simp only [Act.put, List.setIfInBounds_toArray, List.set_cons_zero, List.set_cons_succ])
          refine Till.take (i := 1) (v := ?v2) rfl (by kernel_rfl) (by kernel_rfl) (by kernel_rfl) (by kernel_rfl) (by rfl) ?hv2 (by assumption) ?rest2
          case hv2 => first | (intro w hSw; (try dsimp only at hSw); go_simp; done) | (intro w hSw; (try dsimp only at hSw); go_simp; with_reducible rfl)
          (try simp only [Act.put, List.setIfInBounds_toArray, List.set_cons_zero, List.set_cons_succ])
          refine Till.take (i := 2) (v := ?v3) rfl (by kernel_rfl) (by kernel_rfl) (by kernel_rfl) (by kernel_rfl) (by rfl) ?hv3 (by assumption) ?rest3
          case hv3 => first | (intro w hSw; (try dsimp only at hSw); go_simp; done) | (intro w hSw; (try dsimp only at hSw); go_simp; with_reducible rfl)
          (try simp only [Act.put, List.setIfInBounds_toArray, List.set_cons_zero, List.set_cons_succ])
          refine Till.take (i := 3) (v := ?v4) rfl (by kernel_rfl) (by kernel_rfl) (by kernel_rfl) (by kernel_rfl) (by rfl) ?hv4 (by assumption) ?rest4
          case hv4 => first | (intro w hSw; (try dsimp only at hSw); go_simp; done) | (intro w hSw; (try dsimp only at hSw); go_simp; with_reducible rfl)
          (try simp only [Act.put, List.setIfInBounds_toArray, List.set_cons_zero, List.set_cons_succ])
          refine Till.take (i := 4) (v := ?v5) rfl (by kernel_rfl) (by kernel_rfl) (by kernel_rfl) (by kernel_rfl) (by rfl) ?hv5 (by assumption) ?rest5
          case hv5 => first | (intro w hSw; (try dsimp only at hSw); go_simp; done) | (intro w hSw; (try dsimp only at hSw); go_simp; with_reducible rfl)
          (try simp only [Act.put, List.setIfInBounds_toArray, List.set_cons_zero, List.set_cons_succ])
          refine Till.put (i := 5) rfl (by kernel_rfl) (by rfl) (by rfl) ?_
          intro K hK
          go_simp
          go_at_call 24
          ((with_reducible refine hen2.mono ?_); rintro e W6 ⟨rfl, hM6⟩)
          refine hK.out _ _ ?_
          clear hK K
          (try simp only [Act.put, List.setIfInBounds_toArray, List.set_cons_zero, List.set_cons_succ])
          refine Till.done (by kernel_rfl) ?_ _
          clear z0 z2 hHeld
          go_wp2
          go_roundw
          case rel => exact ⟨k + 1, by omega, by go_num, by rw [HN.out]; exact ⟨_, hM6⟩⟩
          case measure => simp [intOf]; omega
        · rw [if_pos rfl] at HN
          go_wp2_with (first
            | (go_at_call 23; ((with_reducible refine hbe2.mono ?_); rintro e W6 ⟨rfl, hM6⟩)))
          go_roundw
          case rel => exact ⟨k + 1, by omega, by go_num, by rw [HN.out]; exact ⟨_, hM6⟩⟩
          case measure => simp [intOf]; omega
      · rw [if_neg hq] at HN
        rw [decide_eq_false hq] at hik
        clear hM hL hq
        go_wp2_with (first
          | (go_at_call 21; ((with_reducible refine (hik _).mono ?_); rintro e W3 ⟨rfl, rfl⟩)))
        go_roundw
        case rel => exact ⟨k + 1, by omega, by go_num, by rw [HN.out]; rw [List.append_nil]; exact ⟨_, hM1⟩⟩
        case measure => simp [intOf]; omega
    · obtain rfl : k = n := by omega
      rw [List.take_of_length_le (by omega)] at hM
      obtain ⟨V, hV, hA⟩ := hM.ans (ok_conds cs hO)
      clear hv hfar hlen hM
      go_wp2
      go_ret
      exact hA
theorem new_no (w : World) (n : Int) (hn : ¬ (1 ≤ n ∧ n ≤ 1048576)) : Calls Try.prog 8 #[.int .i64 n] w fun e w' => e = .returned (.tuple #[.pointer none, .int .i64 1]) ∧ Below w.heap.size w w' := by
  have hB := Below.refl w.heap.size w
  by_cases h1 : n < 1
  · go_enter Try.func8, Try.ntmps8
    go_wp2
    go_ret2
    exact ⟨rfl, hB⟩
  · have h2 : 1048576 < n := by omega
    go_enter Try.func8, Try.ntmps8
    go_wp2
    go_ret2
    exact ⟨rfl, hB⟩
theorem new_yes (w : World) (n : Int) (hn : 1 ≤ n ∧ n ≤ 1048576) : Calls Try.prog 8 #[.int .i64 n] w fun e w' => ∃ b, e = .returned (.tuple #[.pointer (some ⟨b, 0, none⟩), .int .i64 0]) ∧ Alm w' b (st0 n) ∧ w.heap.size ≤ b ∧ Below w.heap.size w w' := by
  have hA : ∀ W : World, Alm (W.alloc (.cells (cellsA (st0 n)) 66)) W.heap.size (st0 n) := fun W => ⟨Has.new W _ _, ok_st0 n⟩
  have hB := (Below.refl w.heap.size w).alloc (Nat.le_refl _) (.cells (cellsA (st0 n)) 66)
  have hA2 := hA w
  have h1 : ¬ n < 1 := by omega
  have h2 : ¬ 1048576 < n := by omega
  clear hn hA
  go_enter Try.func8, Try.ntmps8
  go_wp2
  go_ret2
  exact ⟨_, rfl, hA2, Nat.le_refl _, hB⟩
theorem no_conds (w : World) (A : Option Addr) (n c : Nat) : Calls Try.prog 10 #[.pointer none, .slice A n c] w fun e w' => e = .returned (.slice none 0 0) ∧ w' = w := by
    go_enter Try.func10, Try.ntmps10
    go_wp2
    go_ret
    exact ⟨rfl, rfl⟩
theorem no_tick (w : World) (a : Int) (A : Option Addr) (n c : Nat) : Calls Try.prog 12 #[.pointer none, .int .i64 a, .slice A n c] w fun e w' => e = .returned (.slice none 0 0) ∧ w' = w := by
    go_enter Try.func12, Try.ntmps12
    go_wp2
    go_ret
    exact ⟨rfl, rfl⟩
theorem no_stands (w : World) (k : Int) : Calls Try.prog 17 #[.pointer none, .int .i64 k] w fun e w' => e = .returned (.bool false) ∧ w' = w := by
    go_enter Try.func17, Try.ntmps17
    go_wp2
    go_ret
    exact ⟨rfl, rfl⟩
theorem no_high (w : World) (k : Int) : Calls Try.prog 18 #[.pointer none, .int .i64 k] w fun e w' => e = .returned (.bool false) ∧ w' = w := by
    go_enter Try.func18, Try.ntmps18
    go_wp2
    go_ret
    exact ⟨rfl, rfl⟩
theorem no_acked (w : World) (k : Int) : Calls Try.prog 19 #[.pointer none, .int .i64 k] w fun e w' => e = .returned (.bool false) ∧ w' = w := by
    go_enter Try.func19, Try.ntmps19
    go_wp2
    go_ret
    exact ⟨rfl, rfl⟩
theorem no_sounds (w : World) : Calls Try.prog 20 #[.pointer none] w fun e w' => e = .returned (.bool false) ∧ w' = w := by
    go_enter Try.func20, Try.ntmps20
    go_wp2
    go_ret
    exact ⟨rfl, rfl⟩
theorem no_clone (w : World) : Calls Try.prog 14 #[.pointer none] w fun e w' => e = .returned (.pointer none) ∧ w' = w := by
    go_enter Try.func14, Try.ntmps14
    go_wp2
    go_ret
    exact ⟨rfl, rfl⟩
theorem stands_k (w : World) (b : Nat) (s : St) (k : Int) (h : Has w b 66 (cellsA s)) : Calls Try.prog 17 #[.pointer (some ⟨b, 0, none⟩), .int .i64 k] w fun e w' => e = .returned (.bool (s.getZ k).stands) ∧ Below w.heap.size w w' := by
    have hof := of_k b s k w h
    have hfd : ∀ w, (Instr.field 61 (.agg #[.bool (s.getZ k).on, .bool (s.getZ k).stands, .bool (s.getZ k).acked, .bool (s.getZ k).esc, .int .i64 (s.getZ k).since]) 1).run Try.prog w = .ok (.bool (s.getZ k).stands) w := fun _ => by kernel_rfl
    clear h
    generalize s.getZ k = o at *
    obtain ⟨o1, o2, o3, o4, o5⟩ := o
    dsimp only at hof hfd ⊢
    go_enter Try.func17, Try.ntmps17
    go_wp2_with (go_at_call 32; ((with_reducible refine hof.mono ?_); rintro e w1 ⟨rfl, hB1⟩))
    go_ret
    exact ⟨rfl, hB1⟩
theorem acked_k (w : World) (b : Nat) (s : St) (k : Int) (h : Has w b 66 (cellsA s)) : Calls Try.prog 19 #[.pointer (some ⟨b, 0, none⟩), .int .i64 k] w fun e w' => e = .returned (.bool (s.getZ k).acked) ∧ Below w.heap.size w w' := by
    have hof := of_k b s k w h
    have hfd : ∀ w, (Instr.field 61 (.agg #[.bool (s.getZ k).on, .bool (s.getZ k).stands, .bool (s.getZ k).acked, .bool (s.getZ k).esc, .int .i64 (s.getZ k).since]) 2).run Try.prog w = .ok (.bool (s.getZ k).acked) w := fun _ => by kernel_rfl
    clear h
    generalize s.getZ k = o at *
    obtain ⟨o1, o2, o3, o4, o5⟩ := o
    dsimp only at hof hfd ⊢
    go_enter Try.func19, Try.ntmps19
    go_wp2_with (go_at_call 32; ((with_reducible refine hof.mono ?_); rintro e w1 ⟨rfl, hB1⟩))
    go_ret
    exact ⟨rfl, hB1⟩
theorem Ahigh_k (w : World) (b : Nat) (s : St) (k : Int) (h : Has w b 66 (cellsA s)) : Calls Try.prog 18 #[.pointer (some ⟨b, 0, none⟩), .int .i64 k] w fun e w' => e = .returned (.bool (s.highZ k)) ∧ Below w.heap.size w w' := by
  have hof := high_k b s k w h
  clear h
  go_enter Try.func18, Try.ntmps18
  go_wp2_with (go_at_call 33; ((with_reducible refine hof.mono ?_); rintro e w1 ⟨rfl, hB1⟩))
  go_ret
  exact ⟨rfl, hB1⟩
theorem sounds_k (w : World) (b : Nat) (s : St) (h : Has w b 66 (cellsA s)) : Calls Try.prog 20 #[.pointer (some ⟨b, 0, none⟩)] w fun e w' => e = .returned (.bool s.sounds) ∧ Below w.heap.size w w' := by
  have c32 : w.cell? ⟨b, 32, none⟩ = some (.bool s.sounds) := h.cell 32
  have hB := Below.refl w.heap.size w
  clear h
  go_enter Try.func20, Try.ntmps20
  go_wp2
  go_ret
  exact ⟨rfl, hB⟩
theorem cells_one (s : St) : (cellsA s).all (·.oneCell') = true := by simp [cellsA, onesC, oneC, Value.oneCell']
def zeroA : Array Value := #[.bool false, .bool false, .bool false, .bool false, .int .i64 0, .bool false, .bool false, .bool false, .bool false, .int .i64 0, .bool false, .bool false, .bool false, .bool false, .int .i64 0, .bool false, .bool false, .bool false, .bool false, .int .i64 0, .bool false, .bool false, .bool false, .bool false, .int .i64 0, .bool false, .bool false, .bool false, .bool false, .int .i64 0, .int .i64 0, .int .i64 0, .bool false]
theorem clone_k (w : World) (b : Nat) (s : St) (h : Has w b 66 (cellsA s)) (hO : Ok s) : Calls Try.prog 14 #[.pointer (some ⟨b, 0, none⟩)] w fun e w' => ∃ c, e = .returned (.pointer (some ⟨c, 0, none⟩)) ∧ Alm w' c s ∧ w.heap.size ≤ c ∧ Below w.heap.size w w' := by
  have hY : Has (w.alloc (.cells zeroA 66)) w.heap.size 66 zeroA := Has.new w _ _
  have hB : Below w.heap.size w (w.alloc (.cells zeroA 66)) := (Below.refl w.heap.size w).alloc (Nat.le_refl _) _
  unfold zeroA at hY hB
  go_enter Try.func14, Try.ntmps14
  go_wp2_with (first
    | (refine wpList_plain rfl fun _ hK => wp_load_row 66 _ rfl b rfl 66 (cellsA s) (0, 0) (.struct (Try.prog.fieldsOf 66)) h (by kernel_rfl) rfl (by kernel_rfl) (hK _ _ ?_))
    | (refine wpList_plain rfl fun _ hK => wp_store_row 66 _ _ rfl w.heap.size (cellsA s) rfl rfl 66 _ hY (by kernel_rfl) rfl (cells_one s) (hK _ _ ?_)))
  go_ret
  exact ⟨_, rfl, ⟨hY.row _, hO⟩, Nat.le_refl _, below_kept hB (kept_row _ w.heap.size (cellsA s)) hB.size (fun x hx => by simp at hx; omega)⟩
/-- What the landed alarm answers. -/
theorem kit : AlmKit Alm where
  lt := fun h => h.1.lt
  ok := fun h => h.2
  kept := fun h hK hb => ⟨hK.has h.1 hb, h.2⟩
  new_no := new_no
  new_yes := new_yes
  conds_any := fun w b s A n c cs h hv hn hf => conds_k w b s A n c cs h.1 h.2 hv hn hf
  tick_any := fun w b s a A n c os h hv hn hf => tick_k w b s a A n c os h.1 h.2 hv hn hf
  stands_any := fun w b s k h => stands_k w b s k h.1
  high_any := fun w b s k h => Ahigh_k w b s k h.1
  acked_any := fun w b s k h => acked_k w b s k h.1
  sounds_any := fun w b s h => sounds_k w b s h.1
  clone_any := fun w b s h => clone_k w b s h.1 h.2
  no_conds := no_conds
  no_tick := no_tick
  no_stands := no_stands
  no_high := no_high
  no_acked := no_acked
  no_sounds := no_sounds
  no_clone := no_clone
end Go.Proofs.Ytahoiaiknchehaa.Alarm
