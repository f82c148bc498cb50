/- What the proofs stand on, part 4. -/
import Derived.Test.YtnoppoimahfknaaPack3
import Derived.Test.YtnoppoimahfknaaPack2
import Derived.Test.YtnoppoimahfknaaPack1
import Derived.Lib.Hide
section
/- QrsResets, over whatever a detector's calls answer. -/
set_option linter.unusedSimpArgs false
set_option linter.unusedVariables false
namespace Go.Proofs.Ytnoppoimahfknaa.Qrs
open Go.RowKit
/-- Two detectors that share no block, and a row of waves that neither touches. -/
structure Tr (Det : World → Nat → List Nat → D → Prop) (w : World) (b : Nat) (S : List Nat) (d : D) (c : Nat) (T : List Nat) (e : D) (B : Option Addr) (N : Nat) (ws : List Wv) (W : World) : Prop where
  one : Mn Det w b S d W
  two : Mn Det w c T e W
  dis : ∀ k ∈ S, k ∉ T
  row : Row.Vals wvS W B N ws
  off : ∀ x, B = some x → x.block ∉ S ∧ x.block ∉ T ∧ x.block < W.heap.size
section
variable {Det : World → Nat → List Nat → D → Prop} (K : QrsKit Det) {w W W' : World} {b c : Nat} {S T S' : List Nat} {d e d' : D} {B : Option Addr} {N : Nat} {ws : List Wv}
include K
theorem Tr.grow (h : Tr Det w b S d c T e B N ws W) (hB : Below W.heap.size W W') : Tr Det w b S d c T e B N ws W' :=
  ⟨h.one.grow K hB, h.two.grow K hB, h.dis, h.row.below hB, fun x hx => ⟨(h.off x hx).1, (h.off x hx).2.1, Nat.lt_of_lt_of_le (h.off x hx).2.2 hB.size⟩⟩
theorem Tr.push1 (h : Tr Det w b S d c T e B N ws W) (hD : Det W' b S' d') (hn : ∀ k ∈ S', k ∈ S ∨ W.heap.size ≤ k) (hK : Kept S W W') : Tr Det w b S' d' c T e B N ws W' :=
  ⟨h.one.pushed hD hn hK, ⟨K.kept h.two.det hK (fun k hk hm => h.dis k hm hk), below_kept h.one.below hK h.one.below.size h.one.far, h.two.far⟩,
    fun k hk hm => by rcases hn k hk with h8 | h8; exact h.dis k h8 hm; exact Nat.lt_irrefl _ (Nat.lt_of_lt_of_le ((K.lt h.two.det).2 k hm) h8), h.row.kept hK (fun _ x hx => (h.off x hx).1),
    fun x hx => ⟨fun h9 => by rcases hn _ h9 with h8 | h8; exact (h.off x hx).1 h8; exact Nat.lt_irrefl _ (Nat.lt_of_lt_of_le (h.off x hx).2.2 h8), (h.off x hx).2.1, Nat.lt_of_lt_of_le (h.off x hx).2.2 hK.size⟩⟩
theorem Tr.push2 (h : Tr Det w b S d c T e B N ws W) (hD : Det W' c S' d') (hn : ∀ k ∈ S', k ∈ T ∨ W.heap.size ≤ k) (hK : Kept T W W') : Tr Det w b S d c S' d' B N ws W' :=
  ⟨⟨K.kept h.one.det hK (fun k hk hm => h.dis k hk hm), below_kept h.two.below hK h.two.below.size h.two.far, h.one.far⟩, h.two.pushed hD hn hK,
    fun k hk hm => by rcases hn k hm with h8 | h8; exact h.dis k hk h8; exact Nat.lt_irrefl _ (Nat.lt_of_lt_of_le ((K.lt h.one.det).2 k hk) h8), h.row.kept hK (fun _ x hx => (h.off x hx).2.1),
    fun x hx => ⟨(h.off x hx).1, fun h9 => by rcases hn _ h9 with h8 | h8; exact (h.off x hx).2.1 h8; exact Nat.lt_irrefl _ (Nat.lt_of_lt_of_le (h.off x hx).2.2 h8), Nat.lt_of_lt_of_le (h.off x hx).2.2 hK.size⟩⟩
theorem Tr.with_row {B' : Option Addr} {N' : Nat} {ws' : List Wv} (h : Tr Det w b S d c T e B N ws W) (hB : Below W.heap.size W W') (hV : Row.Vals wvS W' B' N' ws') (hfar : ∀ x, B' = some x → W.heap.size ≤ x.block ∧ x.block < W'.heap.size) : Tr Det w b S d c T e B' N' ws' W' :=
  ⟨h.one.grow K hB, h.two.grow K hB, h.dis, hV, fun x hx => ⟨fun h9 => Nat.lt_irrefl _ (Nat.lt_of_lt_of_le ((K.lt h.one.det).2 _ h9) (hfar x hx).1), fun h9 => Nat.lt_irrefl _ (Nat.lt_of_lt_of_le ((K.lt h.two.det).2 _ h9) (hfar x hx).1), (hfar x hx).2⟩⟩
end
theorem neq_lv (W : World) (a b a' b' : Int) : (binOp .neq 33 (.agg #[.int .i64 a, .int .i64 b]) (.agg #[.int .i64 a', .int .i64 b'])).run Try.prog W = .ok (.bool (!decide (a = a' ∧ b = b'))) W := by
  have ht : Try.prog.underlying 33 = some (.struct (Try.prog.fieldsOf 33)) := by kernel_rfl
  have hst : Try.prog.stoodInHeld 33 = false := by kernel_rfl
  rw [run_neq_struct, run_equalIn_agg W 9999 33 _ _ ht hst]
  simp only [Program.fieldsOf, Try.underlying33]
  simp [go_sem, Op.eqFields]
  by_cases h1 : a = a' <;> by_cases h2 : b = b' <;> simp [h1, h2]
theorem guard_neq_lv (W : World) (x y : Operand) (a b a' b' : Int) : (eqGuard .neq 33 x y (.agg #[.int .i64 a, .int .i64 b]) (.agg #[.int .i64 a', .int .i64 b'])).run Try.prog W = .ok () W := run_eqGuard_agg W _ _ _ _ _ _ (by kernel_rfl)
set_option maxRecDepth 100000 in
set_option maxHeartbeats 8000000 in
theorem resets_k {Det : World → Nat → List Nat → D → Prop} (K : QrsKit Det) (a0 : Option Addr) (len0 cap0 : Nat) (z0 : List Bump) (a1 : Option Addr) (len1 cap1 : Nat) (z1 : List Bump) (w : World) (w0 : Row.IsFlat bpS BumpOk w a0 len0 cap0 z0) (w1 : Row.IsFlat bpS BumpOk w a1 len1 cap1 z1) :
    Calls Try.prog 3 #[.slice a0 len0 cap0, .slice a1 len1 cap1] w fun e w' => e = .returned (.bool true) ∧ Below w.heap.size w w' := by
  have hli := fun W => live_k K W
  have hnew := fun W => K.new_any W
  have hlen := fun (z : List Bump) (hz : ∀ b ∈ z, BumpOk b) => (show (wavesT z).length ≤ 8000 by
    have h1 := waves_len (z.take 30) (fun b hb => hz b (List.mem_of_mem_take hb))
    have h2 : (z.take 30).length ≤ 30 := by rw [List.length_take]; omega
    unfold wavesT; omega)
  have hfitA := wave_fits z0 w0.each
  have hfitB := wave_fits z1 w1.each
  have hwlA := hlen z0 w0.each
  have hwlB := hlen z1 w1.each
  clear hlen
  have hwavA := fun W (hB : Below w.heap.size w W) => waves_any a0 len0 cap0 z0 W ⟨w0.row.below hB, w0.each, w0.le, w0.max, fun h x hx => Nat.lt_of_lt_of_le (w0.far h x hx) hB.size⟩
  have hwavB := fun W (hB : Below w.heap.size w W) => waves_any a1 len1 cap1 z1 W ⟨w1.row.below hB, w1.each, w1.le, w1.max, fun h x hx => Nat.lt_of_lt_of_le (w1.far h x hx) hB.size⟩
  generalize wavesT z0 = ws at *
  generalize wavesT z1 = vs at *
  clear w0 w1
  go_enter Try.func3, Try.ntmps3
  go_wp2_with (first
    | (go_at_call 12; ((with_reducible refine (hnew w).mono ?_); rintro e W1 ⟨b, S, rfl, hP, hfarS, hB1⟩))
    | (go_at_call 12; ((with_reducible refine (hnew W1).mono ?_); rintro e W2 ⟨c, T, rfl, hP2, hfarT, hB2⟩; have h0 : Tr Det w b S noD c T noD none 0 [] W2 := ⟨⟨K.below hP hB2, hB1.trans (hB2.mono hB1.size), hfarS⟩, ⟨hP2, hB1.trans (hB2.mono hB1.size), fun k hk => Nat.le_trans hB1.size (hfarT k hk)⟩, (fun k hk hm => Nat.lt_irrefl _ (Nat.lt_of_lt_of_le ((K.lt hP).2 k hk) (hfarT k hm))), Row.Vals.none_ _, (fun x hx => by cases hx)⟩))
    | (go_at_call 13; ((with_reducible refine (hwavA _ h0.one.below).mono ?_); rintro e W3 ⟨B, cB, rfl, hc1, hc2, hV3, hfar3, hB3⟩; have h1 := h0.with_row K hB3 hV3 hfar3)))
  clear h0 hP hP2 hfarS hfarT hB1 hB2 hnew hwavA hV3 hfar3 hB3
  have hgn := fun (W : World) (x y : Operand) => guard_neq_lv W x y 0 0 0 0
  have hcn : ∀ W : World, (binOp .neq 33 (.agg #[.int .i64 0, .int .i64 0]) (.agg #[.int .i64 0, .int .i64 0])).run Try.prog W = .ok (.bool false) W := fun W => by rw [neq_lv]; simp
  go_loopw [17] (fun i wr => ∃ (j : Nat) (S : List Nat) (d : D), j ≤ ws.length ∧ i = .int .i64 (j : Nat) ∧ d.n = (j : Int) ∧ (j < 400 → d.lv = (0, 0)) ∧ Tr Det w b S d c T noD B ws.length ws wr) (fun i _ => ws.length - (intOf i).toNat)
  case atStart => exact ⟨0, S, noD, by omega, rfl, rfl, fun _ => rfl, h1⟩
  case round =>
    clear h1
    obtain ⟨j, S, d, hj, rfl, hdn, hlv, hM⟩ := hrel
    by_cases hjp : j < ws.length
    · have hjz : (j : Int) < (ws.length : Int) := by omega
      obtain ⟨x, rfl, _⟩ := hM.row.cells (by omega)
      obtain ⟨y0, y1, y2, y3⟩ := wv_cells hM.row j hjp
      have hfi := hfitA (ws.getD j noWv) (by rw [List.getD_eq_getElem?_getD, List.getElem?_eq_getElem hjp]; simp)
      generalize ws.getD j noWv = v at *
      obtain ⟨v1, v2, v3, v4⟩ := v
      dsimp only at y0 y1 y2 y3 hfi
      have hMA := hM.grow K ((Below.refl _ wr).alloc (Nat.le_refl _) (.cells #[.int .i64 v1, .int .i64 v2, .int .i64 v3, .int .i64 v4] 28))
      have hH := Has.new wr 28 #[.int .i64 v1, .int .i64 v2, .int .i64 v3, .int .i64 v4]
      have c0 := hH.cell 0
      have c1 := hH.cell 1
      have c2 := hH.cell 2
      have c3 := hH.cell 3
      have hpA := K.push_any _ b S d (j : Int) (v1, v2, v3, v4) hMA.one.det (by omega) (by unfold fits64; omega) hfi.1 hfi.2
      have e3 := step_n d (j : Int) v4 v2
      dsimp only [wvV] at hpA
      rw [hdn] at e3
      by_cases hj4 : j < 400
      · have hj4z : (j : Int) < 400 := by omega
        obtain ⟨e1, e2⟩ := step_learn d (j : Int) v4 v2 (by omega) (hlv hj4)
        generalize stepT d (j : Int) v4 v2 = st at *
        obtain ⟨bs, d'⟩ := st
        dsimp only at hpA e1 e2 e3
        subst e1
        have hle := fun (S' : List Nat) W h => K.learning_any W b S' d' h
        rw [show decide (d'.n ≤ 400) = true by simp; omega] at hle
        have hlvl := fun (S' : List Nat) W h => K.level_any W b S' d' h
        rw [e2] at hlvl
        unfold Level.lvV at hlvl
        dsimp only at hlvl
        simp only [List.length_nil] at hpA
        clear hH hM hlv hdn
        go_wp2_with (first
          | (go_at_call 14; (go_must (refine Calls.mono (by exact hpA) ?_); rintro e W4 ⟨B', S', c', rfl, hmc, hV, hD, hnw, hfar', hK⟩; have hM1 := hMA.push1 K hD hnw hK))
          | (go_at_call 15; (go_must (refine Calls.mono (by exact hle _ _ hM1.one.det) ?_); rintro e W5 ⟨rfl, hB5⟩; have hM2 := hM1.grow K hB5))
          | (go_at_call 16; (go_must (refine Calls.mono (by exact hlvl _ _ hM2.one.det) ?_); rintro e W6 ⟨rfl, hB6⟩; have hM3 := hM2.grow K hB6)))
        go_roundw
        case rel => exact ⟨j + 1, S', d', by omega, by go_num, by rw [e3]; push_cast; rfl, fun _ => e2, hM3⟩
        case measure => simp [intOf]; omega
      · have hj4z : ¬ (j : Int) < 400 := by omega
        generalize stepT d (j : Int) v4 v2 = st at *
        obtain ⟨bs, d'⟩ := st
        dsimp only at hpA e3
        clear hH hM hlv hdn
        go_wp2_with (go_at_call 14; (go_must (refine Calls.mono (by exact hpA) ?_); rintro e W4 ⟨B', S', c', rfl, hmc, hV, hD, hnw, hfar', hK⟩; have hM1 := hMA.push1 K hD hnw hK))
        go_roundw
        case rel => exact ⟨j + 1, S', d', by omega, by go_num, by rw [e3]; push_cast; rfl, fun h9 => by omega, hM1⟩
        case measure => simp [intOf]; omega
    · obtain rfl : j = ws.length := by omega
      have hst := fun (S' : List Nat) W h => K.steps_any W b S' noD h
      have hle := fun (S' : List Nat) W h => K.learning_any W b S' noD h
      have hme := fun (S' : List Nat) W h => K.mean_any W b S' noD h
      rw [show decide (noD.n ≤ 400) = true from rfl] at hle
      rw [show noD.n = 0 from rfl] at hst
      rw [show Pace.meanT noD.ds = 0 from rfl] at hme
      clear hlv hdn hgn hcn
      go_wp2_with (first
        | (go_at_call 17; (go_must (refine Calls.mono (by exact K.reset_any _ b S d hM.one.det) ?_); rintro e W4 ⟨S4, rfl, hD4, hn4, hK4⟩; have hM4 := hM.push1 K hD4 hn4 hK4))
        | (go_at_call 18; (go_must (refine Calls.mono (by exact hst _ _ hM4.one.det) ?_); rintro e W5 ⟨rfl, hB5⟩; have hM5 := hM4.grow K hB5))
        | (go_at_call 15; (go_must (refine Calls.mono (by exact hle _ _ hM5.one.det) ?_); rintro e W6 ⟨rfl, hB6⟩; have hM6 := hM5.grow K hB6))
        | (go_at_call 19; (go_must (refine Calls.mono (by exact hme _ _ hM6.one.det) ?_); rintro e W7 ⟨rfl, hB7⟩; have hM7 := hM6.grow K hB7))
        | (go_at_call 13; ((with_reducible refine (hwavB _ hM7.one.below).mono ?_); rintro e W8 ⟨A, cA, rfl, hd1, hd2, hV8, hfar8, hB8⟩; have h2 := hM7.with_row K hB8 hV8 hfar8)))
      clear hM hM4 hM5 hM6 hM7 hD4 hn4 hK4 hB5 hB6 hB7 hB8 hV8 hfar8 hwavB hst hle hme
      go_loopw [63] (fun i wr => ∃ (j : Nat) (S T : List Nat) (d : D), j ≤ vs.length ∧ i = .int .i64 (j : Nat) ∧ d.n = (j : Int) ∧ Tr Det w b S d c T d A vs.length vs wr) (fun i _ => vs.length - (intOf i).toNat)
      case atStart => exact ⟨0, S4, T, noD, by omega, rfl, rfl, h2⟩
      case round =>
        clear h2
        obtain ⟨j, S, T, d, hj, rfl, hdn, hM⟩ := hrel
        by_cases hjp : j < vs.length
        · have hjz : (j : Int) < (vs.length : Int) := by omega
          obtain ⟨x, rfl, _⟩ := hM.row.cells (by omega)
          obtain ⟨y0, y1, y2, y3⟩ := wv_cells hM.row j hjp
          have hfi := hfitB (vs.getD j noWv) (by rw [List.getD_eq_getElem?_getD, List.getElem?_eq_getElem hjp]; simp)
          generalize vs.getD j noWv = v at *
          obtain ⟨v1, v2, v3, v4⟩ := v
          dsimp only at y0 y1 y2 y3 hfi
          have hMA : Tr Det w b S d c T d (some x) vs.length vs (wr.alloc (.cells #[.int .i64 v1, .int .i64 v2, .int .i64 v3, .int .i64 v4] 28)).drew := hM.grow K (below_drewN ((Below.refl _ wr).alloc (Nat.le_refl _) (.cells #[.int .i64 v1, .int .i64 v2, .int .i64 v3, .int .i64 v4] 28)) 1)
          have hH := (Has.new wr 28 #[.int .i64 v1, .int .i64 v2, .int .i64 v3, .int .i64 v4]).drew
          have hgS : ∀ k ∈ S, k < wr.heap.size := (K.lt hM.one.det).2
          have hgT : ∀ k ∈ T, k < wr.heap.size := (K.lt hM.two.det).2
          have c0 := hH.cell 0
          have c1 := hH.cell 1
          have c2 := hH.cell 2
          have c3 := hH.cell 3
          have e3 := step_n d (5 + (j : Int)) v4 v2
          have hsl := step_len d (5 + (j : Int)) v4 v2
          have hp1 := fun W h => K.push_any W b S d (5 + (j : Int)) (v1, v2, v3, v4) h (by omega) (by unfold fits64; omega) hfi.1 hfi.2
          have hp2 := fun W h => K.push_any W c T d (5 + (j : Int)) (v1, v2, v3, v4) h (by omega) (by unfold fits64; omega) hfi.1 hfi.2
          dsimp only [wvV] at hp1 hp2
          rw [hdn] at e3
          generalize stepT d (5 + (j : Int)) v4 v2 = st at *
          obtain ⟨bs, d'⟩ := st
          dsimp only at hp1 hp2 e3 hsl
          clear hM hdn
          have hwr : IntKind.i64.wrap (5 + (j : Int)) = 5 + (j : Int) := IntWalk.i64_in _ (by omega)
          have hgs : wr.heap.size ∉ S := fun hm => Nat.lt_irrefl _ (hgS _ hm)
          have hgt : wr.heap.size ∉ T := fun hm => Nat.lt_irrefl _ (hgT _ hm)
          go_wp2
          refine Reg.begin_ (S := fun W => W.cell? ⟨wr.heap.size, 0, none⟩ = some (.int .i64 v1) ∧ W.cell? ⟨wr.heap.size, 1, none⟩ = some (.int .i64 v2) ∧ W.cell? ⟨wr.heap.size, 2, none⟩ = some (.int .i64 v3) ∧ W.cell? ⟨wr.heap.size, 3, none⟩ = some (.int .i64 v4)) (by kernel_rfl) (by exact ⟨c0, c1, c2, c3⟩) (fun hHeld => ?_)
          clear c0 c1 c2 c3 y0 y1 y2 y3
          refine Reg.take (i := 0) (v := ?v1) rfl (by kernel_rfl) (by kernel_rfl) (by kernel_rfl) (by rfl) ?hv1 (by assumption) ?rest1
          case hv1 => first | (intro w hSw; (try dsimp only at hSw); go_simp; done) | (intro w hSw; (try dsimp only at hSw); go_simp; with_reducible rfl)
          (try simp only [Act.put, List.setIfInBounds_toArray, List.set_cons_zero, List.set_cons_succ])
          refine Reg.take (i := 1) (v := ?v2) rfl (by kernel_rfl) (by kernel_rfl) (by kernel_rfl) (by rfl) ?hv2 (by assumption) ?rest2
          case hv2 => first | (intro w hSw; (try dsimp only at hSw); go_simp; done) | (intro w hSw; (try dsimp only at hSw); go_simp; with_reducible rfl)
          (try simp only [Act.put, List.setIfInBounds_toArray, List.set_cons_zero, List.set_cons_succ])
          refine Reg.take (i := 2) (v := ?v3) rfl (by kernel_rfl) (by kernel_rfl) (by kernel_rfl) (by rfl) ?hv3 (by assumption) ?rest3
          case hv3 => first | (intro w hSw; (try dsimp only at hSw); go_simp; done) | (intro w hSw; (try dsimp only at hSw); go_simp; with_reducible rfl)
          (try simp only [Act.put, List.setIfInBounds_toArray, List.set_cons_zero, List.set_cons_succ])
          refine Reg.take (i := 3) (v := ?v4) rfl (by kernel_rfl) (by kernel_rfl) (by kernel_rfl) (by rfl) ?hv4 (by assumption) ?rest4
          case hv4 => first | (intro w hSw; (try dsimp only at hSw); go_simp; done) | (intro w hSw; (try dsimp only at hSw); go_simp; with_reducible rfl)
          (try simp only [Act.put, List.setIfInBounds_toArray, List.set_cons_zero, List.set_cons_succ])
          refine Reg.take (i := 5) (v := ?v5) rfl (by kernel_rfl) (by kernel_rfl) (by kernel_rfl) (by rfl) ?hv5 (by assumption) ?rest5
          case hv5 => first | (intro w hSw; (try dsimp only at hSw); go_simp; done) | (intro w hSw; (try dsimp only at hSw); go_simp; with_reducible rfl)
          (try simp only [Act.put, List.setIfInBounds_toArray, List.set_cons_zero, List.set_cons_succ])
          refine Reg.take (i := 6) (v := ?v6) rfl (by kernel_rfl) (by kernel_rfl) (by kernel_rfl) (by rfl) ?hv6 (by assumption) ?rest6
          case hv6 => first | (intro w hSw; (try dsimp only at hSw); go_simp; done) | (intro w hSw; (try dsimp only at hSw); go_simp; with_reducible rfl)
          (try simp only [Act.put, List.setIfInBounds_toArray, List.set_cons_zero, List.set_cons_succ])
          refine Reg.take (i := 7) (v := ?v7) rfl (by kernel_rfl) (by kernel_rfl) (by kernel_rfl) (by rfl) ?hv7 (by assumption) ?rest7
          case hv7 => first | (intro w hSw; (try dsimp only at hSw); go_simp; done) | (intro w hSw; (try dsimp only at hSw); go_simp; with_reducible rfl)
          (try simp only [Act.put, List.setIfInBounds_toArray, List.set_cons_zero, List.set_cons_succ])
          refine Reg.take (i := 8) (v := ?v8) rfl (by kernel_rfl) (by kernel_rfl) (by kernel_rfl) (by rfl) ?hv8 (by assumption) ?rest8
          case hv8 => first | (intro w hSw; (try dsimp only at hSw); go_simp; done) | (intro w hSw; (try dsimp only at hSw); go_simp; with_reducible rfl)
          (try simp only [Act.put, List.setIfInBounds_toArray, List.set_cons_zero, List.set_cons_succ])
          clear hHeld
          generalize (wr.alloc (.cells #[.int .i64 v1, .int .i64 v2, .int .i64 v3, .int .i64 v4] 28)).drew = WA at *
          refine Reg.call (i := 4) rfl (by kernel_rfl) (by rfl) ?_
          intro K1 hK1
          go_simp
          go_at_call 14
          refine Calls.mono (by exact hp1 _ hMA.one.det) ?_
          rintro e W4 ⟨B4, S', c4, rfl, hmc, hV, hD, hnw, hfar, hK⟩
          have hM1 := hMA.push1 K hD hnw hK
          have hH1 := hK.has hH hgs
          refine hK1.out _ _ (by exact ⟨hH1.cell 0, hH1.cell 1, hH1.cell 2, hH1.cell 3⟩) (fun hHeld => ?_)
          clear hHeld hK1 K1
          (try simp only [Act.put, List.setIfInBounds_toArray, List.set_cons_zero, List.set_cons_succ])
          refine Reg.call (i := 9) rfl (by kernel_rfl) (by rfl) ?_
          intro K1 hK1
          go_simp
          go_at_call 14
          refine Calls.mono (by exact hp2 _ hM1.two.det) ?_
          rintro e W5 ⟨B5, T', c5, rfl, hmc5, hV5, hD5, hnw5, hfar5, hK5⟩
          have hVk := hV.kept hK5 (fun _ x hx hm => Nat.lt_irrefl _ (Nat.lt_of_lt_of_le ((K.lt hMA.two.det).2 _ hm) (hfar x hx).1))
          have hM2 := hM1.push2 K hD5 hnw5 hK5
          have hH2 := hK5.has hH1 hgt
          refine hK1.out _ _ (by exact ⟨hH2.cell 0, hH2.cell 1, hH2.cell 2, hH2.cell 3⟩) (fun hHeld => ?_)
          clear hHeld hK1 K1
          (try simp only [Act.put, List.setIfInBounds_toArray, List.set_cons_zero, List.set_cons_succ])
          refine Reg.call (i := 10) rfl (by kernel_rfl) (by rfl) ?_
          intro K1 hK1
          go_simp
          go_at_call 20
          (with_reducible refine (same_yes _ _ bs.length _ _ bs W5 hVk hV5 (by omega)).mono ?_)
          rintro e W6 ⟨rfl, z, rfl⟩
          have hM3 := hM2.grow K (below_drewN (Below.refl _ W5) z)
          refine hK1.out _ _ (by exact ⟨hH2.cell 0, hH2.cell 1, hH2.cell 2, hH2.cell 3⟩) (fun hHeld => ?_)
          clear hK1 K1
          (try simp only [Act.put, List.setIfInBounds_toArray, List.set_cons_zero, List.set_cons_succ])
          refine Reg.take (i := 11) (v := ?v9) rfl (by kernel_rfl) (by kernel_rfl) (by kernel_rfl) (by rfl) ?hv9 (by assumption) ?rest9
          case hv9 => first | (intro w hSw; (try dsimp only at hSw); go_simp; done) | (intro w hSw; (try dsimp only at hSw); go_simp; with_reducible rfl)
          (try simp only [Act.put, List.setIfInBounds_toArray, List.set_cons_zero, List.set_cons_succ])
          clear hHeld
          refine Reg.done (by kernel_rfl) ?_ _
          go_wp2
          go_roundw
          case rel => exact ⟨j + 1, S', T', d', by omega, by go_num, by rw [e3]; push_cast; rfl, hM3⟩
          case measure => simp [intOf]; omega
        · obtain rfl : j = vs.length := by omega
          have hlvl := fun (b : Nat) (S' : List Nat) W h => K.level_any W b S' d h
          have hme := fun (b : Nat) (S' : List Nat) W h => K.mean_any W b S' d h
          generalize Pace.meanT d.ds = m at *
          generalize d.lv = lv at *
          obtain ⟨l1, l2⟩ := lv
          unfold Level.lvV at hlvl
          dsimp only at hlvl
          have hg := fun (W : World) (x y : Operand) => guard_lv W x y l1 l2 l1 l2
          have hc : ∀ W : World, (binOp .eql 33 (.agg #[.int .i64 l1, .int .i64 l2]) (.agg #[.int .i64 l1, .int .i64 l2])).run Try.prog W = .ok (.bool true) W := fun W => by rw [eql_lv]; simp
          go_wp2_with (first
            | (go_at_call 16; ((with_reducible refine (hlvl b _ _ hM.one.det).mono ?_); rintro e W4 ⟨rfl, hB4⟩; have hM4 := hM.grow K hB4))
            | (go_at_call 16; ((with_reducible refine (hlvl c _ _ hM4.two.det).mono ?_); rintro e W5 ⟨rfl, hB5⟩; have hM5 := hM4.grow K hB5))
            | (go_at_call 19; ((with_reducible refine (hme b _ _ hM5.one.det).mono ?_); rintro e W6 ⟨rfl, hB6⟩; have hM6 := hM5.grow K hB6))
            | (go_at_call 19; ((with_reducible refine (hme c _ _ hM6.two.det).mono ?_); rintro e W7 ⟨rfl, hB7⟩; have hM7 := hM6.grow K hB7))
            | (go_at_call 21; ((with_reducible refine (hli _).mono ?_); rintro e W9 ⟨rfl, hB9⟩; have hM9 := hM7.grow K hB9)))
          go_ret
          exact ⟨rfl, hM9.one.below⟩
end Go.Proofs.Ytnoppoimahfknaa.Qrs
end
section
/- The landed detector's memory, and its small calls: there, within, keep. -/
set_option linter.unusedSimpArgs false
set_option linter.unusedVariables false
namespace Go.Proofs.Ytnoppoimahfknaa.Qrs
open Go.RowKit
/-- A peak as a value. -/
def pkI (p : Pk) : Value := .agg #[.int .i64 p.1, .int .i64 p.2.1, .int .i64 p.2.2.1, .int .i64 p.2.2.2]
/-- A detector's cells: its finder in block f, its pace in block p, the level, the last beat's peak, the candidate, the start. -/
def cellsD (f p : Nat) (v : Level.Lv) (l c : Pk) (st : Int) : Array Value := #[.pointer (some ⟨f, 0, none⟩), .pointer (some ⟨p, 0, none⟩), .int .i64 v.1, .int .i64 v.2, .int .i64 l.1, .int .i64 l.2.1, .int .i64 l.2.2.1, .int .i64 l.2.2.2, .int .i64 c.1, .int .i64 c.2.1, .int .i64 c.2.2.1, .int .i64 c.2.2.2, .int .i64 st]
/-- Is it one? -/
def isB (l : Pk) : Bool := !decide (l.1 = 0 ∧ l.2.1 = 0 ∧ l.2.2.1 = 0 ∧ l.2.2.2 = 0)
theorem there_k (l : Pk) (w : World) : Calls Try.prog 77 #[pkI l] w fun e w' => e = .returned (.bool (isB l)) ∧ Below w.heap.size w w' := by
  obtain ⟨a, b, c, d⟩ := l
  have hB := (Below.refl w.heap.size w).alloc (Nat.le_refl _) (.cells #[.int .i64 a, .int .i64 b, .int .i64 c, .int .i64 d] 84)
  have hH := Has.new w 84 #[.int .i64 a, .int .i64 b, .int .i64 c, .int .i64 d]
  have c0 := hH.cell 0
  have c1 := hH.cell 1
  have c2 := hH.cell 2
  have c3 := hH.cell 3
  have hg := fun (W : World) (x y : Operand) => Peak.guard_neq W x y a b c d 0 0 0 0
  have hc := fun (W : World) => Peak.neq_peak W a b c d 0 0 0 0
  unfold pkI isB
  dsimp only
  generalize (!decide (a = 0 ∧ b = 0 ∧ c = 0 ∧ d = 0)) = r at *
  go_enter Try.func77, Try.ntmps77
  go_wp2
  go_ret
  exact ⟨rfl, hB⟩
set_option maxHeartbeats 1000000 in
theorem within_k (b f p : Nat) (v : Level.Lv) (l c q : Pk) (st k : Int) (w : World) (hH : Has w b 88 (cellsD f p v l c st)) (hl : 0 ≤ l.1 ∧ l.1 ≤ 4000000000) (hq : 0 ≤ q.1 ∧ q.1 ≤ 4000000000) :
    Calls Try.prog 62 #[.pointer (some ⟨b, 4, none⟩), pkI q, .int .i64 k] w fun e w' => e = .returned (.bool (isB l && decide (q.1 - l.1 < k))) ∧ Below w.heap.size w w' := by
  obtain ⟨q0, q1, q2, q3⟩ := q
  obtain ⟨l0, l1, l2, l3⟩ := l
  have hth := fun W => there_k (l0, l1, l2, l3) W
  unfold pkI at hth ⊢
  unfold cellsD at hH
  dsimp only at hth hH hl hq ⊢
  have hB := (Below.refl w.heap.size w).alloc (Nat.le_refl _) (.cells #[.int .i64 q0, .int .i64 q1, .int .i64 q2, .int .i64 q3] 84)
  have hX := Has.new w 84 #[.int .i64 q0, .int .i64 q1, .int .i64 q2, .int .i64 q3]
  have hD := hH.alloc (.cells #[.int .i64 q0, .int .i64 q1, .int .i64 q2, .int .i64 q3] 84)
  generalize hx : w.heap.size = x at *
  generalize hr : isB (l0, l1, l2, l3) = r at *
  go_enter Try.func62, Try.ntmps62
  go_wp2
  generalize w.alloc (.cells #[.int .i64 q0, .int .i64 q1, .int .i64 q2, .int .i64 q3] 84) = W0 at *
  have e0 := hD.cell 4
  have e1 := hD.cell 5
  have e2 := hD.cell 6
  have e3 := hD.cell 7
  have x0 := hX.cell 0
  have hlb := hD.lt
  have hlx := hX.lt
  refine Reg.begin_ (S := fun W => W.cell? ⟨b, 4, none⟩ = some (.int .i64 l0) ∧ W.cell? ⟨b, 5, none⟩ = some (.int .i64 l1) ∧ W.cell? ⟨b, 6, none⟩ = some (.int .i64 l2) ∧ W.cell? ⟨b, 7, none⟩ = some (.int .i64 l3) ∧ W.cell? ⟨x, 0, none⟩ = some (.int .i64 q0)) (by kernel_rfl) (by exact ⟨e0, e1, e2, e3, x0⟩) (fun hHeld => ?_)
  refine Reg.take (i := 0) (v := ?v1) rfl (by kernel_rfl) (by kernel_rfl) (by kernel_rfl) (by rfl) ?hv1 (by assumption) ?rest1
  case hv1 => first | (intro w hSw; (try dsimp only at hSw); go_simp; done) | (intro w hSw; (try dsimp only at hSw); go_simp; with_reducible rfl)
  (try simp only [Act.put, List.setIfInBounds_toArray, List.set_cons_zero, List.set_cons_succ])
  refine Reg.take (i := 1) (v := ?v2) rfl (by kernel_rfl) (by kernel_rfl) (by kernel_rfl) (by rfl) ?hv2 (by assumption) ?rest2
  case hv2 => first | (intro w hSw; (try dsimp only at hSw); go_simp; done) | (intro w hSw; (try dsimp only at hSw); go_simp; with_reducible rfl)
  (try simp only [Act.put, List.setIfInBounds_toArray, List.set_cons_zero, List.set_cons_succ])
  refine Reg.take (i := 2) (v := ?v3) rfl (by kernel_rfl) (by kernel_rfl) (by kernel_rfl) (by rfl) ?hv3 (by assumption) ?rest3
  case hv3 => first | (intro w hSw; (try dsimp only at hSw); go_simp; done) | (intro w hSw; (try dsimp only at hSw); go_simp; with_reducible rfl)
  (try simp only [Act.put, List.setIfInBounds_toArray, List.set_cons_zero, List.set_cons_succ])
  refine Reg.take (i := 3) (v := ?v4) rfl (by kernel_rfl) (by kernel_rfl) (by kernel_rfl) (by rfl) ?hv4 (by assumption) ?rest4
  case hv4 => first | (intro w hSw; (try dsimp only at hSw); go_simp; done) | (intro w hSw; (try dsimp only at hSw); go_simp; with_reducible rfl)
  (try simp only [Act.put, List.setIfInBounds_toArray, List.set_cons_zero, List.set_cons_succ])
  refine Reg.call (i := 4) rfl (by kernel_rfl) (by rfl) ?_
  intro K hK
  go_simp
  go_at_call 77
  (refine (hth _).mono ?_)
  rintro e W1 ⟨rfl, hB1⟩
  have hD1 := hD.drew.below hB1 hlb
  have hX1 := hX.drew.below hB1 hlx
  refine hK.out _ _ (by exact ⟨hD1.cell 4, hD1.cell 5, hD1.cell 6, hD1.cell 7, hX1.cell 0⟩) (fun hHeld => ?_)
  clear hK K
  (try simp only [Act.put, List.setIfInBounds_toArray, List.set_cons_zero, List.set_cons_succ])
  have hwr : IntKind.i64.wrap (q0 - l0) = q0 - l0 := by rw [IntKind.wrap_i64]; omega
  have hBB : Below x w W1 := (below_drewN hB 1).trans (hB1.mono (Nat.le_of_lt hlx))
  clear hD hX hD1 hX1 hB hB1
  cases r with
  | false =>
    refine Reg.take (i := 5) (v := ?v5) rfl (by kernel_rfl) (by kernel_rfl) (by kernel_rfl) (by rfl) ?hv5 (by assumption) ?rest5
    case hv5 => first | (intro w hSw; (try dsimp only at hSw); go_simp; done) | (intro w hSw; (try dsimp only at hSw); go_simp; with_reducible rfl)
    (try simp only [Act.put, List.setIfInBounds_toArray, List.set_cons_zero, List.set_cons_succ])
    refine Reg.skip (i := 6) rfl (by kernel_rfl) (by kernel_rfl) (by kernel_rfl) (by rfl) (by assumption) ?_
    (try simp only [Act.put, List.setIfInBounds_toArray, List.set_cons_zero, List.set_cons_succ])
    refine Reg.skip (i := 7) rfl (by kernel_rfl) (by kernel_rfl) (by kernel_rfl) (by rfl) (by assumption) ?_
    (try simp only [Act.put, List.setIfInBounds_toArray, List.set_cons_zero, List.set_cons_succ])
    refine Reg.skip (i := 8) rfl (by kernel_rfl) (by kernel_rfl) (by kernel_rfl) (by rfl) (by assumption) ?_
    (try simp only [Act.put, List.setIfInBounds_toArray, List.set_cons_zero, List.set_cons_succ])
    refine Reg.skip (i := 9) rfl (by kernel_rfl) (by kernel_rfl) (by kernel_rfl) (by rfl) (by assumption) ?_
    (try simp only [Act.put, List.setIfInBounds_toArray, List.set_cons_zero, List.set_cons_succ])
    refine Reg.skip (i := 10) rfl (by kernel_rfl) (by kernel_rfl) (by kernel_rfl) (by rfl) (by assumption) ?_
    (try simp only [Act.put, List.setIfInBounds_toArray, List.set_cons_zero, List.set_cons_succ])
    refine Reg.skip (i := 11) rfl (by kernel_rfl) (by kernel_rfl) (by kernel_rfl) (by rfl) (by assumption) ?_
    (try simp only [Act.put, List.setIfInBounds_toArray, List.set_cons_zero, List.set_cons_succ])
    refine Reg.skip (i := 12) rfl (by kernel_rfl) (by kernel_rfl) (by kernel_rfl) (by rfl) (by assumption) ?_
    (try simp only [Act.put, List.setIfInBounds_toArray, List.set_cons_zero, List.set_cons_succ])
    refine Reg.skip (i := 13) rfl (by kernel_rfl) (by kernel_rfl) (by kernel_rfl) (by rfl) (by assumption) ?_
    (try simp only [Act.put, List.setIfInBounds_toArray, List.set_cons_zero, List.set_cons_succ])
    refine Reg.skip (i := 14) rfl (by kernel_rfl) (by kernel_rfl) (by kernel_rfl) (by rfl) (by assumption) ?_
    (try simp only [Act.put, List.setIfInBounds_toArray, List.set_cons_zero, List.set_cons_succ])
    refine Reg.skip (i := 15) rfl (by kernel_rfl) (by kernel_rfl) (by kernel_rfl) (by rfl) (by assumption) ?_
    (try simp only [Act.put, List.setIfInBounds_toArray, List.set_cons_zero, List.set_cons_succ])
    refine Reg.take (i := 16) (v := ?v6) rfl (by kernel_rfl) (by kernel_rfl) (by kernel_rfl) (by rfl) ?hv6 (by assumption) ?rest6
    case hv6 => first | (intro w hSw; (try dsimp only at hSw); go_simp; done) | (intro w hSw; (try dsimp only at hSw); go_simp; with_reducible rfl)
    (try simp only [Act.put, List.setIfInBounds_toArray, List.set_cons_zero, List.set_cons_succ])
    refine Reg.take (i := 17) (v := ?v7) rfl (by kernel_rfl) (by kernel_rfl) (by kernel_rfl) (by rfl) ?hv7 (by assumption) ?rest7
    case hv7 => first | (intro w hSw; (try dsimp only at hSw); go_simp; done) | (intro w hSw; (try dsimp only at hSw); go_simp; with_reducible rfl)
    (try simp only [Act.put, List.setIfInBounds_toArray, List.set_cons_zero, List.set_cons_succ])
    refine Reg.done (by kernel_rfl) ?_ _
    go_wp2
    go_ret
    exact ⟨rfl, hBB⟩
  | true =>
    refine Reg.take (i := 5) (v := ?v8) rfl (by kernel_rfl) (by kernel_rfl) (by kernel_rfl) (by rfl) ?hv8 (by assumption) ?rest8
    case hv8 => first | (intro w hSw; (try dsimp only at hSw); go_simp; done) | (intro w hSw; (try dsimp only at hSw); go_simp; with_reducible rfl)
    (try simp only [Act.put, List.setIfInBounds_toArray, List.set_cons_zero, List.set_cons_succ])
    refine Reg.take (i := 6) (v := ?v9) rfl (by kernel_rfl) (by kernel_rfl) (by kernel_rfl) (by rfl) ?hv9 (by assumption) ?rest9
    case hv9 => first | (intro w hSw; (try dsimp only at hSw); go_simp; done) | (intro w hSw; (try dsimp only at hSw); go_simp; with_reducible rfl)
    (try simp only [Act.put, List.setIfInBounds_toArray, List.set_cons_zero, List.set_cons_succ])
    refine Reg.take (i := 7) (v := ?v10) rfl (by kernel_rfl) (by kernel_rfl) (by kernel_rfl) (by rfl) ?hv10 (by assumption) ?rest10
    case hv10 => first | (intro w hSw; (try dsimp only at hSw); go_simp; done) | (intro w hSw; (try dsimp only at hSw); go_simp; with_reducible rfl)
    (try simp only [Act.put, List.setIfInBounds_toArray, List.set_cons_zero, List.set_cons_succ])
    refine Reg.take (i := 8) (v := ?v11) rfl (by kernel_rfl) (by kernel_rfl) (by kernel_rfl) (by rfl) ?hv11 (by assumption) ?rest11
    case hv11 => first | (intro w hSw; (try dsimp only at hSw); go_simp; done) | (intro w hSw; (try dsimp only at hSw); go_simp; with_reducible rfl)
    (try simp only [Act.put, List.setIfInBounds_toArray, List.set_cons_zero, List.set_cons_succ])
    refine Reg.take (i := 9) (v := ?v12) rfl (by kernel_rfl) (by kernel_rfl) (by kernel_rfl) (by rfl) ?hv12 (by assumption) ?rest12
    case hv12 => first | (intro w hSw; (try dsimp only at hSw); go_simp; done) | (intro w hSw; (try dsimp only at hSw); go_simp; with_reducible rfl)
    (try simp only [Act.put, List.setIfInBounds_toArray, List.set_cons_zero, List.set_cons_succ])
    refine Reg.take (i := 10) (v := ?v13) rfl (by kernel_rfl) (by kernel_rfl) (by kernel_rfl) (by rfl) ?hv13 (by assumption) ?rest13
    case hv13 => first | (intro w hSw; (try dsimp only at hSw); go_simp; done) | (intro w hSw; (try dsimp only at hSw); go_simp; with_reducible rfl)
    (try simp only [Act.put, List.setIfInBounds_toArray, List.set_cons_zero, List.set_cons_succ])
    refine Reg.take (i := 11) (v := ?v14) rfl (by kernel_rfl) (by kernel_rfl) (by kernel_rfl) (by rfl) ?hv14 (by assumption) ?rest14
    case hv14 => first | (intro w hSw; (try dsimp only at hSw); go_simp; done) | (intro w hSw; (try dsimp only at hSw); go_simp; with_reducible rfl)
    (try simp only [Act.put, List.setIfInBounds_toArray, List.set_cons_zero, List.set_cons_succ])
    refine Reg.take (i := 12) (v := ?v15) rfl (by kernel_rfl) (by kernel_rfl) (by kernel_rfl) (by rfl) ?hv15 (by assumption) ?rest15
    case hv15 => first | (intro w hSw; (try dsimp only at hSw); go_simp; done) | (intro w hSw; (try dsimp only at hSw); go_simp; with_reducible rfl)
    (try simp only [Act.put, List.setIfInBounds_toArray, List.set_cons_zero, List.set_cons_succ])
    refine Reg.take (i := 13) (v := ?v16) rfl (by kernel_rfl) (by kernel_rfl) (by kernel_rfl) (by rfl) ?hv16 (by assumption) ?rest16
    case hv16 => first | (intro w hSw; (try dsimp only at hSw); go_simp; done) | (intro w hSw; (try dsimp only at hSw); go_simp; with_reducible rfl)
    (try simp only [Act.put, List.setIfInBounds_toArray, List.set_cons_zero, List.set_cons_succ])
    refine Reg.take (i := 14) (v := ?v17) rfl (by kernel_rfl) (by kernel_rfl) (by kernel_rfl) (by rfl) ?hv17 (by assumption) ?rest17
    case hv17 => first | (intro w hSw; (try dsimp only at hSw); go_simp; done) | (intro w hSw; (try dsimp only at hSw); go_simp; with_reducible rfl)
    (try simp only [Act.put, List.setIfInBounds_toArray, List.set_cons_zero, List.set_cons_succ])
    refine Reg.take (i := 15) (v := ?v18) rfl (by kernel_rfl) (by kernel_rfl) (by kernel_rfl) (by rfl) ?hv18 (by assumption) ?rest18
    case hv18 => first | (intro w hSw; (try dsimp only at hSw); go_simp; done) | (intro w hSw; (try dsimp only at hSw); go_simp; with_reducible rfl)
    (try simp only [Act.put, List.setIfInBounds_toArray, List.set_cons_zero, List.set_cons_succ])
    refine Reg.take (i := 16) (v := ?v19) rfl (by kernel_rfl) (by kernel_rfl) (by kernel_rfl) (by rfl) ?hv19 (by assumption) ?rest19
    case hv19 => first | (intro w hSw; (try dsimp only at hSw); go_simp; done) | (intro w hSw; (try dsimp only at hSw); go_simp; with_reducible rfl)
    (try simp only [Act.put, List.setIfInBounds_toArray, List.set_cons_zero, List.set_cons_succ])
    refine Reg.take (i := 17) (v := ?v20) rfl (by kernel_rfl) (by kernel_rfl) (by kernel_rfl) (by rfl) ?hv20 (by assumption) ?rest20
    case hv20 => first | (intro w hSw; (try dsimp only at hSw); go_simp; done) | (intro w hSw; (try dsimp only at hSw); go_simp; with_reducible rfl)
    (try simp only [Act.put, List.setIfInBounds_toArray, List.set_cons_zero, List.set_cons_succ])
    refine Reg.done (by kernel_rfl) ?_ _
    go_wp2
    go_ret
    exact ⟨rfl, hBB⟩
set_option maxHeartbeats 1000000 in
theorem keep_k (b f p : Nat) (v : Level.Lv) (l c q : Pk) (st : Int) (w : World) (hH : Has w b 88 (cellsD f p v l c st)) :
    Calls Try.prog 65 #[.pointer (some ⟨b, 4, none⟩), pkI q] w fun e w' => e = .returned (.tuple #[]) ∧ Has w' b 88 (cellsD f p v l (if c.2.2.1 < q.2.2.1 then q else c) st) ∧ Kept [b] w w' := by
  obtain ⟨q0, q1, q2, q3⟩ := q
  obtain ⟨c0, c1, c2, c3⟩ := c
  unfold pkI
  unfold cellsD at hH
  dsimp only at hH ⊢
  have hK := (Kept.refl [b] w).alloc (.cells #[.int .i64 q0, .int .i64 q1, .int .i64 q2, .int .i64 q3] 84)
  have hX := Has.new w 84 #[.int .i64 q0, .int .i64 q1, .int .i64 q2, .int .i64 q3]
  have hD := hH.alloc (.cells #[.int .i64 q0, .int .i64 q1, .int .i64 q2, .int .i64 q3] 84)
  have hlb := hH.lt
  generalize hx : w.heap.size = x at *
  have x0 := hX.cell 0
  have x1 := hX.cell 1
  have x2 := hX.cell 2
  have x3 := hX.cell 3
  have e2 := hD.cell 10
  have f8 := hD.frozen 8
  have f9 := hD.frozen 9
  have f10 := hD.frozen 10
  have f11 := hD.frozen 11
  by_cases hc : c2 < q2
  · rw [if_pos hc]
    go_enter Try.func65, Try.ntmps65
    go_wp2
    generalize w.alloc (.cells #[.int .i64 q0, .int .i64 q1, .int .i64 q2, .int .i64 q3] 84) = W0 at *
    refine Reg.begin_ (S := fun W => W.cell? ⟨b, 10, none⟩ = some (.int .i64 c2) ∧ W.cell? ⟨x, 2, none⟩ = some (.int .i64 q2)) (by kernel_rfl) (by exact ⟨e2, x2⟩) (fun hHeld => ?_)
    refine Reg.take (i := 0) (v := ?v21) rfl (by kernel_rfl) (by kernel_rfl) (by kernel_rfl) (by rfl) ?hv21 (by assumption) ?rest21
    case hv21 => first | (intro w hSw; (try dsimp only at hSw); go_simp; done) | (intro w hSw; (try dsimp only at hSw); go_simp; with_reducible rfl)
    (try simp only [Act.put, List.setIfInBounds_toArray, List.set_cons_zero, List.set_cons_succ])
    refine Reg.take (i := 1) (v := ?v22) rfl (by kernel_rfl) (by kernel_rfl) (by kernel_rfl) (by rfl) ?hv22 (by assumption) ?rest22
    case hv22 => first | (intro w hSw; (try dsimp only at hSw); go_simp; done) | (intro w hSw; (try dsimp only at hSw); go_simp; with_reducible rfl)
    (try simp only [Act.put, List.setIfInBounds_toArray, List.set_cons_zero, List.set_cons_succ])
    refine Reg.take (i := 2) (v := ?v23) rfl (by kernel_rfl) (by kernel_rfl) (by kernel_rfl) (by rfl) ?hv23 (by assumption) ?rest23
    case hv23 => first | (intro w hSw; (try dsimp only at hSw); go_simp; done) | (intro w hSw; (try dsimp only at hSw); go_simp; with_reducible rfl)
    (try simp only [Act.put, List.setIfInBounds_toArray, List.set_cons_zero, List.set_cons_succ])
    refine Reg.take (i := 3) (v := ?v24) rfl (by kernel_rfl) (by kernel_rfl) (by kernel_rfl) (by rfl) ?hv24 (by assumption) ?rest24
    case hv24 => first | (intro w hSw; (try dsimp only at hSw); go_simp; done) | (intro w hSw; (try dsimp only at hSw); go_simp; with_reducible rfl)
    (try simp only [Act.put, List.setIfInBounds_toArray, List.set_cons_zero, List.set_cons_succ])
    refine Reg.take (i := 4) (v := ?v25) rfl (by kernel_rfl) (by kernel_rfl) (by kernel_rfl) (by rfl) ?hv25 (by assumption) ?rest25
    case hv25 => first | (intro w hSw; (try dsimp only at hSw); go_simp; done) | (intro w hSw; (try dsimp only at hSw); go_simp; with_reducible rfl)
    (try simp only [Act.put, List.setIfInBounds_toArray, List.set_cons_zero, List.set_cons_succ])
    refine Reg.take (i := 5) (v := ?v26) rfl (by kernel_rfl) (by kernel_rfl) (by kernel_rfl) (by rfl) ?hv26 (by assumption) ?rest26
    case hv26 => first | (intro w hSw; (try dsimp only at hSw); go_simp; done) | (intro w hSw; (try dsimp only at hSw); go_simp; with_reducible rfl)
    (try simp only [Act.put, List.setIfInBounds_toArray, List.set_cons_zero, List.set_cons_succ])
    refine Reg.take (i := 6) (v := ?v27) rfl (by kernel_rfl) (by kernel_rfl) (by kernel_rfl) (by rfl) ?hv27 (by assumption) ?rest27
    case hv27 => first | (intro w hSw; (try dsimp only at hSw); go_simp; done) | (intro w hSw; (try dsimp only at hSw); go_simp; with_reducible rfl)
    (try simp only [Act.put, List.setIfInBounds_toArray, List.set_cons_zero, List.set_cons_succ])
    refine Reg.take (i := 7) (v := ?v28) rfl (by kernel_rfl) (by kernel_rfl) (by kernel_rfl) (by rfl) ?hv28 (by assumption) ?rest28
    case hv28 => first | (intro w hSw; (try dsimp only at hSw); go_simp; done) | (intro w hSw; (try dsimp only at hSw); go_simp; with_reducible rfl)
    (try simp only [Act.put, List.setIfInBounds_toArray, List.set_cons_zero, List.set_cons_succ])
    refine Reg.done (by kernel_rfl) ?_ _
    have hDd := hD.drew
    have hKd := hK.drewN 1
    have x0' : W0.drew.cell? ⟨x, 0, none⟩ = some (.int .i64 q0) := x0
    have x1' : W0.drew.cell? ⟨x, 1, none⟩ = some (.int .i64 q1) := x1
    have x2' : W0.drew.cell? ⟨x, 2, none⟩ = some (.int .i64 q2) := x2
    have x3' : W0.drew.cell? ⟨x, 3, none⟩ = some (.int .i64 q3) := x3
    have d8 := hDd.cell 8
    have d9 := hDd.cell 9
    have d10 := hDd.cell 10
    have d11 := hDd.cell 11
    have g8 := hDd.frozen 8
    have g9 := hDd.frozen 9
    have g10 := hDd.frozen 10
    have g11 := hDd.frozen 11
    change Kept [b] w W0.drew at hKd
    clear x0 x1 x2 x3 f8 f9 f10 f11 e2 hD hK hX hHeld
    generalize W0.drew = W1 at *
    go_wp2
    go_end0
    refine ⟨rfl, ?_, (((hKd.setCell (p := ⟨b, 8, none⟩) (.inl (by simp)) _).setCell (p := ⟨b, 9, none⟩) (.inl (by simp)) _).setCell (p := ⟨b, 10, none⟩) (.inl (by simp)) _).setCell (p := ⟨b, 11, none⟩) (.inl (by simp)) _⟩
    have h9 := (((hDd.set_ 8 (.int .i64 q0)).set_ 9 (.int .i64 q1)).set_ 10 (.int .i64 q2)).set_ 11 (.int .i64 q3)
    simpa [cellsD] using h9
  · rw [if_neg hc]
    go_enter Try.func65, Try.ntmps65
    go_wp2
    generalize w.alloc (.cells #[.int .i64 q0, .int .i64 q1, .int .i64 q2, .int .i64 q3] 84) = W0 at *
    refine Reg.begin_ (S := fun W => W.cell? ⟨b, 10, none⟩ = some (.int .i64 c2) ∧ W.cell? ⟨x, 2, none⟩ = some (.int .i64 q2)) (by kernel_rfl) (by exact ⟨e2, x2⟩) (fun hHeld => ?_)
    refine Reg.take (i := 0) (v := ?v29) rfl (by kernel_rfl) (by kernel_rfl) (by kernel_rfl) (by rfl) ?hv29 (by assumption) ?rest29
    case hv29 => first | (intro w hSw; (try dsimp only at hSw); go_simp; done) | (intro w hSw; (try dsimp only at hSw); go_simp; with_reducible rfl)
    (try simp only [Act.put, List.setIfInBounds_toArray, List.set_cons_zero, List.set_cons_succ])
    refine Reg.take (i := 1) (v := ?v30) rfl (by kernel_rfl) (by kernel_rfl) (by kernel_rfl) (by rfl) ?hv30 (by assumption) ?rest30
    case hv30 => first | (intro w hSw; (try dsimp only at hSw); go_simp; done) | (intro w hSw; (try dsimp only at hSw); go_simp; with_reducible rfl)
    (try simp only [Act.put, List.setIfInBounds_toArray, List.set_cons_zero, List.set_cons_succ])
    refine Reg.take (i := 2) (v := ?v31) rfl (by kernel_rfl) (by kernel_rfl) (by kernel_rfl) (by rfl) ?hv31 (by assumption) ?rest31
    case hv31 => first | (intro w hSw; (try dsimp only at hSw); go_simp; done) | (intro w hSw; (try dsimp only at hSw); go_simp; with_reducible rfl)
    (try simp only [Act.put, List.setIfInBounds_toArray, List.set_cons_zero, List.set_cons_succ])
    refine Reg.take (i := 3) (v := ?v32) rfl (by kernel_rfl) (by kernel_rfl) (by kernel_rfl) (by rfl) ?hv32 (by assumption) ?rest32
    case hv32 => first | (intro w hSw; (try dsimp only at hSw); go_simp; done) | (intro w hSw; (try dsimp only at hSw); go_simp; with_reducible rfl)
    (try simp only [Act.put, List.setIfInBounds_toArray, List.set_cons_zero, List.set_cons_succ])
    refine Reg.take (i := 4) (v := ?v33) rfl (by kernel_rfl) (by kernel_rfl) (by kernel_rfl) (by rfl) ?hv33 (by assumption) ?rest33
    case hv33 => first | (intro w hSw; (try dsimp only at hSw); go_simp; done) | (intro w hSw; (try dsimp only at hSw); go_simp; with_reducible rfl)
    (try simp only [Act.put, List.setIfInBounds_toArray, List.set_cons_zero, List.set_cons_succ])
    refine Reg.take (i := 5) (v := ?v34) rfl (by kernel_rfl) (by kernel_rfl) (by kernel_rfl) (by rfl) ?hv34 (by assumption) ?rest34
    case hv34 => first | (intro w hSw; (try dsimp only at hSw); go_simp; done) | (intro w hSw; (try dsimp only at hSw); go_simp; with_reducible rfl)
    (try simp only [Act.put, List.setIfInBounds_toArray, List.set_cons_zero, List.set_cons_succ])
    refine Reg.take (i := 6) (v := ?v35) rfl (by kernel_rfl) (by kernel_rfl) (by kernel_rfl) (by rfl) ?hv35 (by assumption) ?rest35
    case hv35 => first | (intro w hSw; (try dsimp only at hSw); go_simp; done) | (intro w hSw; (try dsimp only at hSw); go_simp; with_reducible rfl)
    (try simp only [Act.put, List.setIfInBounds_toArray, List.set_cons_zero, List.set_cons_succ])
    refine Reg.take (i := 7) (v := ?v36) rfl (by kernel_rfl) (by kernel_rfl) (by kernel_rfl) (by rfl) ?hv36 (by assumption) ?rest36
    case hv36 => first | (intro w hSw; (try dsimp only at hSw); go_simp; done) | (intro w hSw; (try dsimp only at hSw); go_simp; with_reducible rfl)
    (try simp only [Act.put, List.setIfInBounds_toArray, List.set_cons_zero, List.set_cons_succ])
    refine Reg.done (by kernel_rfl) ?_ _
    have hDd := hD.drew
    have hKd := hK.drewN 1
    have x0' : W0.drew.cell? ⟨x, 0, none⟩ = some (.int .i64 q0) := x0
    have x1' : W0.drew.cell? ⟨x, 1, none⟩ = some (.int .i64 q1) := x1
    have x2' : W0.drew.cell? ⟨x, 2, none⟩ = some (.int .i64 q2) := x2
    have x3' : W0.drew.cell? ⟨x, 3, none⟩ = some (.int .i64 q3) := x3
    have d8 := hDd.cell 8
    have d9 := hDd.cell 9
    have d10 := hDd.cell 10
    have d11 := hDd.cell 11
    have g8 := hDd.frozen 8
    have g9 := hDd.frozen 9
    have g10 := hDd.frozen 10
    have g11 := hDd.frozen 11
    change Kept [b] w W0.drew at hKd
    clear x0 x1 x2 x3 f8 f9 f10 f11 e2 hD hK hX hHeld
    generalize W0.drew = W1 at *
    go_wp2
    go_end0
    exact ⟨rfl, hDd, hKd⟩
end Go.Proofs.Ytnoppoimahfknaa.Qrs
end
section
/- How a beat is told: the row that grows, and the landed tell. -/
set_option linter.unusedSimpArgs false
set_option linter.unusedVariables false
namespace Go.Proofs.Ytnoppoimahfknaa.Qrs
open Go.RowKit
/-- Where the beats of a step are told: the start and the step in block x, the row of its own. -/
def Tel (w : World) (x : Nat) (st n : Int) (ys : List Bt) : Prop := ∃ v, Has w x 95 #[.int .i64 st, .int .i64 n, v] ∧ w.ownsRow (x + 1) 40 4 v ys.length (Row.flat btS ys)
theorem Tel.lt {w : World} {x : Nat} {st n : Int} {ys : List Bt} (h : Tel w x st n ys) : x < w.heap.size := by obtain ⟨v, h1, _⟩ := h; exact h1.lt
theorem Tel.kept {w w' : World} {x : Nat} {st n : Int} {ys : List Bt} {T : List Nat} (h : Tel w x st n ys) (hK : Kept T w w') (hT : ∀ k ∈ T, k < x) : Tel w' x st n ys := by
  obtain ⟨v, h1, h2⟩ := h
  exact ⟨v, hK.has h1 (fun h => by have := hT _ h; omega), own_kept h2 hK (fun k hk => by have := hT _ hk; omega)⟩
theorem Tel.below {w w' : World} {x : Nat} {st n : Int} {ys : List Bt} (h : Tel w x st n ys) (hB : Below w.heap.size w w') : Tel w' x st n ys := h.kept (Kept.of_below (S := []) hB) (by simp)
theorem bt_new (W : World) (t : TypeId) (e : Bt) : Row.Vals btS (W.alloc (.cells #[.int .i64 e.1, .int .i64 e.2.1, .int .i64 e.2.2.1, .bool e.2.2.2] t)) (some ⟨W.heap.size, 0, none⟩) 1 [e] :=
  Row.Vals.has (S := btS) (ys := [e]) (tl := []) (Has.new W t _)
set_option maxHeartbeats 2000000 in
theorem tell_k (x : Nat) (st n rr : Int) (back : Bool) (ys : List Bt) (q : Pk) (w : World) (hT : Tel w x st n ys) (hy : ys.length ≤ 1000) (hst : 0 ≤ st ∧ st ≤ 1099511627776) (hn : 0 ≤ n ∧ n ≤ 4000000000) (hq : 0 ≤ q.1 ∧ q.1 ≤ 4000000000) :
    Calls Try.prog 47 #[.pointer (some ⟨x, 0, none⟩), pkI q, .int .i64 rr, .bool back] w fun e w' => e = .returned (.tuple #[]) ∧
      Tel w' x st n (ys ++ [(st + (if q.1 - 38 < 0 then 0 else q.1 - 38), st + n, rr, back)]) ∧ Below x w w' := by
  have hInfo : (Try.prog.info? 40).map (fun i => (i.zero, i.size, i.bytes)) = some (some (.agg #[.int .i64 0, .int .i64 0, .int .i64 0, .bool false]), 4, 32) := by kernel_rfl
  obtain ⟨v, hH, hO⟩ := hT
  obtain ⟨q0, q1, q2, q3⟩ := q
  unfold pkI
  dsimp only at hq ⊢
  have hlx := hH.lt
  have hB := (Below.refl w.heap.size w).alloc (Nat.le_refl _) (.cells #[.int .i64 q0, .int .i64 q1, .int .i64 q2, .int .i64 q3] 84)
  have hX := Has.new w 84 #[.int .i64 q0, .int .i64 q1, .int .i64 q2, .int .i64 q3]
  have hD := hH.alloc (.cells #[.int .i64 q0, .int .i64 q1, .int .i64 q2, .int .i64 q3] 84)
  have hO0 := own_kept hO ((Kept.refl [] w).alloc (.cells #[.int .i64 q0, .int .i64 q1, .int .i64 q2, .int .i64 q3] 84)) (by simp)
  have hBx : Below x w (w.alloc (.cells #[.int .i64 q0, .int .i64 q1, .int .i64 q2, .int .i64 q3] 84)) := hB.mono (by omega)
  have hwr : IntKind.i64.wrap (q0 - 38) = q0 - 38 := by rw [IntKind.wrap_i64]; omega
  generalize hM : (if q0 - 38 < 0 then 0 else q0 - 38) = M at *
  have hMb : 0 ≤ M ∧ M ≤ 4000000000 := by rw [← hM]; split <;> omega
  have hwr2 : IntKind.i64.wrap (st + M) = st + M := by rw [IntKind.wrap_i64]; omega
  have hwr3 : IntKind.i64.wrap (st + n) = st + n := by rw [IntKind.wrap_i64]; omega
  have x0 := hD.cell 0
  have x1 := hD.cell 1
  have x2 := hD.cell 2
  go_enter Try.func47, Try.ntmps47
  go_wp2
  generalize w.alloc (.cells #[.int .i64 q0, .int .i64 q1, .int .i64 q2, .int .i64 q3] 84) = W0 at *
  generalize hy0 : w.heap.size = y at *
  refine Reg.begin_ (S := fun W => W.cell? ⟨x, 0, none⟩ = some (.int .i64 st) ∧ W.cell? ⟨y, 0, none⟩ = some (.int .i64 q0)) (by kernel_rfl) (by exact ⟨x0, hX.cell 0⟩) (fun hHeld => ?_)
  refine Reg.take (i := 0) (v := ?v1) rfl (by kernel_rfl) (by kernel_rfl) (by kernel_rfl) (by rfl) ?hv1 (by assumption) ?rest1
  case hv1 => first | (intro w hSw; (try dsimp only at hSw); go_simp; done) | (intro w hSw; (try dsimp only at hSw); go_simp; with_reducible rfl)
  (try simp only [Act.put, List.setIfInBounds_toArray, List.set_cons_zero, List.set_cons_succ])
  refine Reg.take (i := 1) (v := ?v2) rfl (by kernel_rfl) (by kernel_rfl) (by kernel_rfl) (by rfl) ?hv2 (by assumption) ?rest2
  case hv2 => first | (intro w hSw; (try dsimp only at hSw); go_simp; done) | (intro w hSw; (try dsimp only at hSw); go_simp; with_reducible rfl)
  (try simp only [Act.put, List.setIfInBounds_toArray, List.set_cons_zero, List.set_cons_succ])
  refine Reg.take (i := 2) (v := ?v3) rfl (by kernel_rfl) (by kernel_rfl) (by kernel_rfl) (by rfl) ?hv3 (by assumption) ?rest3
  case hv3 => first | (intro w hSw; (try dsimp only at hSw); go_simp; done) | (intro w hSw; (try dsimp only at hSw); go_simp; with_reducible rfl)
  (try simp only [Act.put, List.setIfInBounds_toArray, List.set_cons_zero, List.set_cons_succ])
  refine Reg.take (i := 3) (v := ?v4) rfl (by kernel_rfl) (by kernel_rfl) (by kernel_rfl) (by rfl) ?hv4 (by assumption) ?rest4
  case hv4 => first | (intro w hSw; (try dsimp only at hSw); go_simp; done) | (intro w hSw; (try dsimp only at hSw); go_simp; with_reducible rfl)
  (try simp only [Act.put, List.setIfInBounds_toArray, List.set_cons_zero, List.set_cons_succ])
  refine Reg.take (i := 4) (v := ?v5) rfl (by kernel_rfl) (by kernel_rfl) (by kernel_rfl) (by rfl) ?hv5 (by assumption) ?rest5
  case hv5 => first | (intro w hSw; (try dsimp only at hSw); go_simp; done) | (intro w hSw; (try dsimp only at hSw); go_simp; with_reducible rfl)
  (try simp only [Act.put, List.setIfInBounds_toArray, List.set_cons_zero, List.set_cons_succ])
  refine Reg.take (i := 5) (v := ?v6) rfl (by kernel_rfl) (by kernel_rfl) (by kernel_rfl) (by rfl) ?hv6 (by assumption) ?rest6
  case hv6 => first | (intro w hSw; (try dsimp only at hSw); go_simp; done) | (intro w hSw; (try dsimp only at hSw); go_simp; with_reducible rfl)
  (try simp only [Act.put, List.setIfInBounds_toArray, List.set_cons_zero, List.set_cons_succ])
  refine Reg.take (i := 6) (v := ?v7) rfl (by kernel_rfl) (by kernel_rfl) (by kernel_rfl) (by rfl) ?hv7 (by assumption) ?rest7
  case hv7 => first | (intro w hSw; (try dsimp only at hSw); go_simp; done) | (intro w hSw; (try dsimp only at hSw); go_simp; with_reducible rfl)
  (try simp only [Act.put, List.setIfInBounds_toArray, List.set_cons_zero, List.set_cons_succ])
  refine Reg.call (i := 7) rfl (by kernel_rfl) (by rfl) ?_
  intro K hK
  go_simp
  refine hK.out _ _ (by exact hHeld) (fun hHeld => ?_)
  clear hK K
  (try simp only [Act.put, List.setIfInBounds_toArray, List.set_cons_zero, List.set_cons_succ])
  refine Reg.take (i := 8) (v := ?v8) rfl (by kernel_rfl) (by kernel_rfl) (by kernel_rfl) (by rfl) ?hv8 (by assumption) ?rest8
  case hv8 => first | (intro w hSw; (try dsimp only at hSw); go_simp; done) | (intro w hSw; (try dsimp only at hSw); go_simp; with_reducible rfl)
  (try simp only [Act.put, List.setIfInBounds_toArray, List.set_cons_zero, List.set_cons_succ])
  refine Reg.take (i := 9) (v := ?v9) rfl (by kernel_rfl) (by kernel_rfl) (by kernel_rfl) (by rfl) ?hv9 (by assumption) ?rest9
  case hv9 => first | (intro w hSw; (try dsimp only at hSw); go_simp; done) | (intro w hSw; (try dsimp only at hSw); go_simp; with_reducible rfl)
  (try simp only [Act.put, List.setIfInBounds_toArray, List.set_cons_zero, List.set_cons_succ])
  refine Reg.done (by kernel_rfl) ?_ _
  go_wp2
  have hDd : Has W0.drew x 95 #[.int .i64 st, .int .i64 n, v] := hD
  have hOd : W0.drew.ownsRow (x + 1) 40 4 v ys.length (Row.flat btS ys) := own_kept hO0 ((Kept.refl [] W0).drewN 1) (by simp)
  have hBd : Below x w W0.drew := below_drewN hBx 1
  have hld : x < W0.drew.heap.size := hDd.lt
  clear hHeld hX hD hO0 hBx x0 x1 x2 hB hH hO hM
  generalize W0.drew = W1 at *
  refine Till.begin_ (T := [22]) (S := fun W => W.cell? ⟨x, 0, none⟩ = some (.int .i64 st) ∧ W.cell? ⟨x, 1, none⟩ = some (.int .i64 n) ∧ W.cell? ⟨x, 2, none⟩ = some v) (by kernel_rfl) (by exact ⟨hDd.cell 0, hDd.cell 1, hDd.cell 2⟩) (fun hHeld => ?_)
  refine Till.take (i := 0) (v := ?v10) rfl (by kernel_rfl) (by kernel_rfl) (by kernel_rfl) (by kernel_rfl) (by rfl) ?hv10 (by assumption) ?rest10
  case hv10 => first | (intro w hSw; (try dsimp only at hSw); go_simp; done) | (intro w hSw; (try dsimp only at hSw); go_simp; with_reducible rfl)
  (try simp only [Act.put, List.setIfInBounds_toArray, List.set_cons_zero, List.set_cons_succ])
  refine Till.take (i := 1) (v := ?v11) rfl (by kernel_rfl) (by kernel_rfl) (by kernel_rfl) (by kernel_rfl) (by rfl) ?hv11 (by assumption) ?rest11
  case hv11 => first | (intro w hSw; (try dsimp only at hSw); go_simp; done) | (intro w hSw; (try dsimp only at hSw); go_simp; with_reducible rfl)
  (try simp only [Act.put, List.setIfInBounds_toArray, List.set_cons_zero, List.set_cons_succ])
  refine Till.take (i := 2) (v := ?v12) rfl (by kernel_rfl) (by kernel_rfl) (by kernel_rfl) (by kernel_rfl) (by rfl) ?hv12 (by assumption) ?rest12
  case hv12 => first | (intro w hSw; (try dsimp only at hSw); go_simp; done) | (intro w hSw; (try dsimp only at hSw); go_simp; with_reducible rfl)
  (try simp only [Act.put, List.setIfInBounds_toArray, List.set_cons_zero, List.set_cons_succ])
  refine Till.take (i := 3) (v := ?v13) rfl (by kernel_rfl) (by kernel_rfl) (by kernel_rfl) (by kernel_rfl) (by rfl) ?hv13 (by assumption) ?rest13
  case hv13 => first | (intro w hSw; (try dsimp only at hSw); go_simp; done) | (intro w hSw; (try dsimp only at hSw); go_simp; with_reducible rfl)
  (try simp only [Act.put, List.setIfInBounds_toArray, List.set_cons_zero, List.set_cons_succ])
  refine Till.take (i := 4) (v := ?v14) rfl (by kernel_rfl) (by kernel_rfl) (by kernel_rfl) (by kernel_rfl) (by rfl) ?hv14 (by assumption) ?rest14
  case hv14 => first | (intro w hSw; (try dsimp only at hSw); go_simp; done) | (intro w hSw; (try dsimp only at hSw); go_simp; with_reducible rfl)
  (try simp only [Act.put, List.setIfInBounds_toArray, List.set_cons_zero, List.set_cons_succ])
  refine Till.take (i := 5) (v := ?v15) rfl (by kernel_rfl) (by kernel_rfl) (by kernel_rfl) (by kernel_rfl) (by rfl) ?hv15 (by assumption) ?rest15
  case hv15 => first | (intro w hSw; (try dsimp only at hSw); go_simp; done) | (intro w hSw; (try dsimp only at hSw); go_simp; with_reducible rfl)
  (try simp only [Act.put, List.setIfInBounds_toArray, List.set_cons_zero, List.set_cons_succ])
  refine Till.take (i := 6) (v := ?v16) rfl (by kernel_rfl) (by kernel_rfl) (by kernel_rfl) (by kernel_rfl) (by rfl) ?hv16 (by assumption) ?rest16
  case hv16 => first | (intro w hSw; (try dsimp only at hSw); go_simp; done) | (intro w hSw; (try dsimp only at hSw); go_simp; with_reducible rfl)
  (try simp only [Act.put, List.setIfInBounds_toArray, List.set_cons_zero, List.set_cons_succ])
  refine Till.take (i := 7) (v := ?v17) rfl (by kernel_rfl) (by kernel_rfl) (by kernel_rfl) (by kernel_rfl) (by rfl) ?hv17 (by assumption) ?rest17
  case hv17 => first | (intro w hSw; (try dsimp only at hSw); go_simp; done) | (intro w hSw; (try dsimp only at hSw); go_simp; with_reducible rfl)
  (try simp only [Act.put, List.setIfInBounds_toArray, List.set_cons_zero, List.set_cons_succ])
  refine Till.take (i := 8) (v := ?v18) rfl (by kernel_rfl) (by kernel_rfl) (by kernel_rfl) (by kernel_rfl) (by rfl) ?hv18 (by assumption) ?rest18
  case hv18 => first | (intro w hSw; (try dsimp only at hSw); go_simp; done) | (intro w hSw; (try dsimp only at hSw); go_simp; with_reducible rfl)
  (try simp only [Act.put, List.setIfInBounds_toArray, List.set_cons_zero, List.set_cons_succ])
  refine Till.take (i := 9) (v := ?v19) rfl (by kernel_rfl) (by kernel_rfl) (by kernel_rfl) (by kernel_rfl) (by rfl) ?hv19 (by assumption) ?rest19
  case hv19 => first | (intro w hSw; (try dsimp only at hSw); go_simp; done) | (intro w hSw; (try dsimp only at hSw); go_simp; with_reducible rfl)
  (try simp only [Act.put, List.setIfInBounds_toArray, List.set_cons_zero, List.set_cons_succ])
  refine Till.take (i := 10) (v := ?v20) rfl (by kernel_rfl) (by kernel_rfl) (by kernel_rfl) (by kernel_rfl) (by rfl) ?hv20 (by assumption) ?rest20
  case hv20 => first | (intro w hSw; (try dsimp only at hSw); go_simp; done) | (intro w hSw; (try dsimp only at hSw); go_simp; with_reducible rfl)
  (try simp only [Act.put, List.setIfInBounds_toArray, List.set_cons_zero, List.set_cons_succ])
  refine Till.take (i := 11) (v := ?v21) rfl (by kernel_rfl) (by kernel_rfl) (by kernel_rfl) (by kernel_rfl) (by rfl) ?hv21 (by assumption) ?rest21
  case hv21 => first | (intro w hSw; (try dsimp only at hSw); go_simp; done) | (intro w hSw; (try dsimp only at hSw); go_simp; with_reducible rfl)
  (try simp only [Act.put, List.setIfInBounds_toArray, List.set_cons_zero, List.set_cons_succ])
  refine Till.take (i := 12) (v := ?v22) rfl (by kernel_rfl) (by kernel_rfl) (by kernel_rfl) (by kernel_rfl) (by rfl) ?hv22 (by assumption) ?rest22
  case hv22 => first | (intro w hSw; (try dsimp only at hSw); go_simp; done) | (intro w hSw; (try dsimp only at hSw); go_simp; with_reducible rfl)
  (try simp only [Act.put, List.setIfInBounds_toArray, List.set_cons_zero, List.set_cons_succ])
  refine Till.take (i := 13) (v := ?v23) rfl (by kernel_rfl) (by kernel_rfl) (by kernel_rfl) (by kernel_rfl) (by rfl) ?hv23 (by assumption) ?rest23
  case hv23 => first | (intro w hSw; (try dsimp only at hSw); go_simp; done) | (intro w hSw; (try dsimp only at hSw); go_simp; with_reducible rfl)
  (try simp only [Act.put, List.setIfInBounds_toArray, List.set_cons_zero, List.set_cons_succ])
  refine Till.take (i := 14) (v := ?v24) rfl (by kernel_rfl) (by kernel_rfl) (by kernel_rfl) (by kernel_rfl) (by rfl) ?hv24 (by assumption) ?rest24
  case hv24 => first | (intro w hSw; (try dsimp only at hSw); go_simp; done) | (intro w hSw; (try dsimp only at hSw); go_simp; with_reducible rfl)
  (try simp only [Act.put, List.setIfInBounds_toArray, List.set_cons_zero, List.set_cons_succ])
  refine Till.take (i := 15) (v := ?v25) rfl (by kernel_rfl) (by kernel_rfl) (by kernel_rfl) (by kernel_rfl) (by rfl) ?hv25 (by assumption) ?rest25
  case hv25 => first | (intro w hSw; (try dsimp only at hSw); go_simp; done) | (intro w hSw; (try dsimp only at hSw); go_simp; with_reducible rfl)
  (try simp only [Act.put, List.setIfInBounds_toArray, List.set_cons_zero, List.set_cons_succ])
  refine Till.take (i := 16) (v := ?v26) rfl (by kernel_rfl) (by kernel_rfl) (by kernel_rfl) (by kernel_rfl) (by rfl) ?hv26 (by assumption) ?rest26
  case hv26 => first | (intro w hSw; (try dsimp only at hSw); go_simp; done) | (intro w hSw; (try dsimp only at hSw); go_simp; with_reducible rfl)
  (try simp only [Act.put, List.setIfInBounds_toArray, List.set_cons_zero, List.set_cons_succ])
  refine Till.take (i := 17) (v := ?v27) rfl (by kernel_rfl) (by kernel_rfl) (by kernel_rfl) (by kernel_rfl) (by rfl) ?hv27 (by assumption) ?rest27
  case hv27 => first | (intro w hSw; (try dsimp only at hSw); go_simp; done) | (intro w hSw; (try dsimp only at hSw); go_simp; with_reducible rfl)
  (try simp only [Act.put, List.setIfInBounds_toArray, List.set_cons_zero, List.set_cons_succ])
  have hDe : Has W1.drew x 95 #[.int .i64 st, .int .i64 n, v] := hDd
  have hOe : W1.drew.ownsRow (x + 1) 40 4 v ys.length (Row.flat btS ys) := own_kept hOd ((Kept.refl [] W1).drewN 1) (by simp)
  have hBe : Below x w W1.drew := below_drewN hBd 1
  clear hHeld hDd hOd hBd
  have hle : x < W1.drew.heap.size := hDe.lt
  generalize W1.drew = W2 at *
  have hBf := hBe.alloc (Nat.le_of_lt hle) (.cells #[.int .i64 (st + M), .int .i64 (st + n), .int .i64 rr, .bool back] 40)
  have hDf := hDe.alloc (.cells #[.int .i64 (st + M), .int .i64 (st + n), .int .i64 rr, .bool back] 40)
  have hOf := own_kept hOe ((Kept.refl [] W2).alloc (.cells #[.int .i64 (st + M), .int .i64 (st + n), .int .i64 rr, .bool back] 40)) (by simp)
  have hVn := bt_new W2 40 (st + M, st + n, rr, back)
  dsimp only at hVn
  have hsz : W2.heap.size < (W2.alloc (.cells #[.int .i64 (st + M), .int .i64 (st + n), .int .i64 rr, .bool back] 40)).heap.size := by rw [World.size_alloc]; omega
  refine Till.call (i := 18) rfl (by kernel_rfl) (by rfl) ?_
  intro K hK
  go_simp
  refine hK.out _ _ (by exact ⟨hDf.cell 0, hDf.cell 1, hDf.cell 2⟩) (fun hHeld => ?_)
  clear hK K
  (try simp only [Act.put, List.setIfInBounds_toArray, List.set_cons_zero, List.set_cons_succ])
  have hle0 := hle
  generalize W2.alloc (.cells #[.int .i64 (st + M), .int .i64 (st + n), .int .i64 rr, .bool back] 40) = W3 at *
  obtain ⟨z, hz⟩ : ∃ z, W2.heap.size = z := ⟨_, rfl⟩
  rw [hz] at hVn hsz hle0
  rw [hz]
  clear hHeld hDe hOe hBe hle hz
  refine Till.call (i := 19) rfl (by kernel_rfl) (by rfl) ?_
  intro K hK
  refine Row.wp_append (S := btS) (.tmp 22) (.tmp 36) _ rfl (x + 1) 40 _ 32 (by omega) Try.underlying29 hInfo (by kernel_rfl) v ys.length ys rfl hOf (some ⟨z, 0, none⟩) 1 1 [(st + M, st + n, rr, back)] rfl hVn (by omega) (by omega) ?_
  intro v9 W4 hO9 hg9 hat9
  have hx9 : x ∉ v.ownBlock.toList := own_apart hOf (by omega)
  have hD9 := (Kept.of_grown hg9).has hDf hx9
  have hB9 : Below x w W4 := below_kept hBf (Kept.of_grown hg9) (by omega) (fun k hk => by have := own_in hOf k hk; omega)
  refine hK.out _ _ (by exact ⟨hD9.cell 0, hD9.cell 1, hD9.cell 2⟩) (fun hHeld => ?_)
  clear hK K
  (try simp only [Act.put, List.setIfInBounds_toArray, List.set_cons_zero, List.set_cons_succ])
  refine Till.take (i := 20) (v := ?v28) rfl (by kernel_rfl) (by kernel_rfl) (by kernel_rfl) (by kernel_rfl) (by rfl) ?hv28 (by assumption) ?rest28
  case hv28 => first | (intro w hSw; (try dsimp only at hSw); go_simp; done) | (intro w hSw; (try dsimp only at hSw); go_simp; with_reducible rfl)
  (try simp only [Act.put, List.setIfInBounds_toArray, List.set_cons_zero, List.set_cons_succ])
  refine Till.take (i := 21) (v := ?v29) rfl (by kernel_rfl) (by kernel_rfl) (by kernel_rfl) (by kernel_rfl) (by rfl) ?hv29 (by assumption) ?rest29
  case hv29 => first | (intro w hSw; (try dsimp only at hSw); go_simp; done) | (intro w hSw; (try dsimp only at hSw); go_simp; with_reducible rfl)
  (try simp only [Act.put, List.setIfInBounds_toArray, List.set_cons_zero, List.set_cons_succ])
  obtain ⟨A9, d9, rfl, _, _, hx1, hx2⟩ := Row.Vals.own hO9
  have t2 : W4.cell? ⟨x, 2, none⟩ = some v := hD9.cell 2
  have g2 := hD9.frozen 2
  have hT5 := hD9.set_ 2 (.slice A9 (ys.length + 1) d9)
  have hO5 := own_kept hO9 ((Kept.refl [x] W4).setCell (p := ⟨x, 2, none⟩) (.inl (by simp)) (.slice A9 (ys.length + 1) d9)) (fun y hy => by simp at hy; omega)
  have hB5 := hB9.setCell (p := ⟨x, 2, none⟩) (Nat.le_refl x) (.slice A9 (ys.length + 1) d9)
  clear hHeld hD9 hO9 hB9 hx1 hx2 hg9 hat9 hVn hOf hDf hBf hsz
  refine Till.put (i := 22) rfl (by kernel_rfl) (by rfl) (by rfl) ?_
  intro K hK
  go_simp
  refine hK.out _ _ ?_
  clear hK K
  (try simp only [Act.put, List.setIfInBounds_toArray, List.set_cons_zero, List.set_cons_succ])
  refine Till.done (by kernel_rfl) ?_ _
  clear t2 g2
  go_wp2
  go_end0
  refine ⟨rfl, ⟨.slice A9 (ys.length + 1) d9, by simpa using hT5, ?_⟩, hB5⟩
  rw [List.length_append]
  exact hO5
end Go.Proofs.Ytnoppoimahfknaa.Qrs
end
section
/- Where a detector stands in the midst of a step, and how a peak becomes a beat. -/
set_option linter.unusedSimpArgs false
set_option linter.unusedVariables false
namespace Go.Proofs.Ytnoppoimahfknaa.Qrs
open Go.RowKit
/-- What a peak may be. -/
structure PkOk (l : Pk) : Prop where
  at_ : 0 ≤ l.1 ∧ l.1 ≤ 2000000000
  seen : 0 ≤ l.2.1 ∧ l.2.1 ≤ 2000000000
  top : 0 < l.2.2.1 ∧ l.2.2.1 ≤ 62914560
  steep : 0 ≤ l.2.2.2 ∧ l.2.2.2 ≤ 107136
/-- What a detector's numbers may be. -/
structure Fine (d : D) : Prop where
  n0 : 0 ≤ d.n ∧ d.n ≤ 1900000000
  st : 0 ≤ d.start ∧ d.start ≤ 1099511627776
  lv : (0 ≤ d.lv.1 ∧ d.lv.1 ≤ 62914560) ∧ 0 ≤ d.lv.2 ∧ d.lv.2 ≤ 62914560
  last : ∀ l, d.last = some l → PkOk l
  cand : ∀ l, d.cand = some l → PkOk l
  ds : d.last = none → d.ds = []
theorem isB_none : isB (Peak.nums none) = false := by decide
theorem isB_some (l : Pk) (h : PkOk l) : isB (Peak.nums (some l)) = true := by
  have := h.top
  unfold isB Peak.nums
  simp only [Bool.not_eq_true', decide_eq_false_iff_not]
  omega
theorem nums_bd (o : Option Pk) (h : ∀ l, o = some l → PkOk l) : (0 ≤ (Peak.nums o).1 ∧ (Peak.nums o).1 ≤ 2000000000) ∧ (0 ≤ (Peak.nums o).2.2.1 ∧ (Peak.nums o).2.2.1 ≤ 62914560) ∧ 0 ≤ (Peak.nums o).2.2.2 ∧ (Peak.nums o).2.2.2 ≤ 107136 := by
  cases o with
  | none => decide
  | some l =>
    obtain ⟨h1, h2, h3, h4⟩ := h l rfl
    exact ⟨h1, ⟨by show 0 ≤ l.2.2.1; omega, h3.2⟩, h4⟩
/-- The detector in block b stands as d (its finder is a step ahead), in the midst of a step; so many beats were told of it, in block x; of what was there at the step's beginning only its own blocks may have turned. -/
structure Mid (w0 : World) (b f p : Nat) (Sp : List Nat) (x : Nat) (d : D) (ys : List Bt) (w : World) : Prop where
  head : Has w b 88 (cellsD f p d.lv (Peak.nums d.last) (Peak.nums d.cand) d.start)
  fil : Peak.Fil w f d.fin (d.n + 1)
  pac : Pace.Pac w p Sp d.ds
  tel : Tel w x d.start d.n ys
  fine : Fine d
  bf : b ≠ f
  bp : b ∉ Sp
  fp : f ∉ Sp
  lo : ∀ k ∈ b :: f :: Sp, k < w0.heap.size
  hi : w0.heap.size ≤ x
  kept : Kept (b :: f :: Sp) w0 w
section
variable {w0 w w' : World} {b f p x : Nat} {Sp : List Nat} {d d' : D} {ys ys' : List Bt} {T : List Nat}
/-- Blocks that came later may turn. -/
theorem kept_late {S : List Nat} (h : Kept S w0 w) (h1 : w'.os = w.os) (h2 : w'.tape = w.tape) (h3 : w'.output = w.output) (h4 : w.heap.size ≤ w'.heap.size) (hb : ∀ k, k < w0.heap.size → k ∉ S → w'.heap[k]? = w.heap[k]?) : Kept S w0 w' :=
  ⟨h1.trans h.os, h2.trans h.tape, h3.trans h.output, Nat.le_trans h.size h4, fun k hk hS => (hb k hk hS).trans (h.block k hk hS)⟩
/-- Nothing of it turned. -/
theorem Mid.below (M : Mid w0 b f p Sp x d ys w) (hB : Below w.heap.size w w') : Mid w0 b f p Sp x d ys w' :=
  ⟨(Kept.of_below (S := []) hB).has M.head (by simp), M.fil.below hB, Pace.kit.below M.pac hB, M.tel.below hB, M.fine, M.bf, M.bp, M.fp, M.lo, M.hi, M.kept.trans (Kept.of_below hB)⟩
theorem Mid.alloc (M : Mid w0 b f p Sp x d ys w) (o : Obj) : Mid w0 b f p Sp x d ys (w.alloc o) := M.below ((Below.refl _ w).alloc (Nat.le_refl _) o)
theorem Mid.drew (M : Mid w0 b f p Sp x d ys w) : Mid w0 b f p Sp x d ys w.drew := M.below (below_drewN (Below.refl _ w) 1)
theorem Mid.blt (M : Mid w0 b f p Sp x d ys w) : b < x := Nat.lt_of_lt_of_le (M.lo b (by simp)) M.hi
theorem Mid.flt (M : Mid w0 b f p Sp x d ys w) : f < x := Nat.lt_of_lt_of_le (M.lo f (by simp)) M.hi
theorem Mid.plt (M : Mid w0 b f p Sp x d ys w) : ∀ k ∈ Sp, k < x := fun k hk => Nat.lt_of_lt_of_le (M.lo k (by simp [hk])) M.hi
/-- Its own cells turned. -/
theorem Mid.cells (M : Mid w0 b f p Sp x d ys w) (hK : Kept [b] w w') (hH : Has w' b 88 (cellsD f p d'.lv (Peak.nums d'.last) (Peak.nums d'.cand) d'.start)) (hf : Fine d') (h1 : d'.fin = d.fin) (h2 : d'.n = d.n) (h3 : d'.ds = d.ds) (h4 : d'.start = d.start) : Mid w0 b f p Sp x d' ys w' :=
  ⟨hH, by rw [h1, h2]; exact M.fil.kept hK (by simp; exact M.bf.symm), by rw [h3]; exact Pace.kit.kept M.pac hK (fun k hk hb => by simp at hb; exact M.bp (hb ▸ hk)), by rw [h2, h4]; exact M.tel.kept hK (fun k hk => by simp at hk; rw [hk]; exact M.blt), hf, M.bf, M.bp, M.fp, M.lo, M.hi,
    M.kept.trans (hK.wide (fun k hk _ => by simp at hk; simp [hk]))⟩
/-- The distances turned. -/
theorem Mid.pace (M : Mid w0 b f p Sp x d ys w) (hK : Kept Sp w w') (hP : Pace.Pac w' p Sp d'.ds) (hf : Fine d') (h1 : d'.fin = d.fin) (h2 : d'.n = d.n) (h3 : d'.lv = d.lv) (h4 : d'.start = d.start) (h5 : d'.last = d.last) (h6 : d'.cand = d.cand) : Mid w0 b f p Sp x d' ys w' :=
  ⟨by rw [h3, h4, h5, h6]; exact hK.has M.head M.bp, by rw [h1, h2]; exact M.fil.kept hK M.fp, hP, by rw [h2, h4]; exact M.tel.kept hK M.plt, hf, M.bf, M.bp, M.fp, M.lo, M.hi,
    M.kept.trans (hK.wide (fun k hk _ => by simp [hk]))⟩
/-- A beat was told. -/
theorem Mid.told (M : Mid w0 b f p Sp x d ys w) (hB : Below x w w') (hT : Tel w' x d.start d.n ys') : Mid w0 b f p Sp x d ys' w' :=
  have hk : ∀ k, k < x → w'.heap[k]? = w.heap[k]? := hB.block
  have hK : Kept ((List.range w.heap.size).filter (fun k => decide (x ≤ k))) w w' := ⟨hB.os, hB.tape, hB.output, hB.size, fun k h1 h2 => by
    refine hB.block k ?_
    rcases Nat.lt_or_ge k x with h | h
    · exact h
    · exact (h2 (by simp; exact ⟨h1, h⟩)).elim⟩
  have hn : ∀ k, k < x → k ∉ (List.range w.heap.size).filter (fun k => decide (x ≤ k)) := fun k h h9 => by simp at h9; omega
  ⟨hK.has M.head (hn b M.blt), M.fil.kept hK (hn f M.flt), Pace.kit.kept M.pac hK (fun k hk => hn k (M.plt k hk)), hT, M.fine, M.bf, M.bp, M.fp, M.lo, M.hi,
    kept_late M.kept hB.os hB.tape hB.output hB.size (fun k h1 _ => hk k (Nat.lt_of_lt_of_le h1 M.hi))⟩
end
/-- The detector behind a beat, but for the level. -/
def beatT (d : D) (p : Pk) : D := { d with ds := match d.last with | none => d.ds | some l => (p.1 - l.1) :: d.ds, last := some p, cand := none }
/-- The beat. -/
def beatB (d : D) (p : Pk) (back : Bool) : Bt := (d.start + (if p.1 - 38 < 0 then 0 else p.1 - 38), d.start + d.n, behind d p, back)
theorem fine_beat {d : D} {q : Pk} (h : Fine d) (hq : PkOk q) : Fine (beatT d q) :=
  ⟨h.n0, h.st, h.lv, fun l hl => by injection hl with hl; rwa [← hl], (fun l hl => by cases hl), (fun hl => by cases hl)⟩
theorem past_put {W : World} {b f p : Nat} {v : Level.Lv} {l c : Pk} {st : Int} (h : Has W b 88 (cellsD f p v l c st)) (q0 q1 q2 q3 : Int) :
    Has ((((((((W.setCell ⟨b, 4, none⟩ (.int .i64 q0)).setCell ⟨b, 5, none⟩ (.int .i64 q1)).setCell ⟨b, 6, none⟩ (.int .i64 q2)).setCell ⟨b, 7, none⟩ (.int .i64 q3)).setCell ⟨b, 8, none⟩ (.int .i64 0)).setCell ⟨b, 9, none⟩ (.int .i64 0)).setCell ⟨b, 10, none⟩ (.int .i64 0)).setCell ⟨b, 11, none⟩ (.int .i64 0)) b 88 (cellsD f p v (q0, q1, q2, q3) (0, 0, 0, 0) st) ∧
    Kept [b] W ((((((((W.setCell ⟨b, 4, none⟩ (.int .i64 q0)).setCell ⟨b, 5, none⟩ (.int .i64 q1)).setCell ⟨b, 6, none⟩ (.int .i64 q2)).setCell ⟨b, 7, none⟩ (.int .i64 q3)).setCell ⟨b, 8, none⟩ (.int .i64 0)).setCell ⟨b, 9, none⟩ (.int .i64 0)).setCell ⟨b, 10, none⟩ (.int .i64 0)).setCell ⟨b, 11, none⟩ (.int .i64 0)) := by
  constructor
  · have h9 := (((((((h.set_ 4 (.int .i64 q0)).set_ 5 (.int .i64 q1)).set_ 6 (.int .i64 q2)).set_ 7 (.int .i64 q3)).set_ 8 (.int .i64 0)).set_ 9 (.int .i64 0)).set_ 10 (.int .i64 0)).set_ 11 (.int .i64 0)
    simpa [cellsD] using h9
  · repeat' apply Kept.setCell
    · exact Kept.refl _ _
    all_goals exact .inl (by simp)
/-- The cells, one by one. -/
theorem has_all {W : World} {b f p : Nat} {v : Level.Lv} {l c : Pk} {st : Int} (h : Has W b 88 (cellsD f p v l c st)) :
    W.cell? ⟨b, 0, none⟩ = some (.pointer (some ⟨f, 0, none⟩)) ∧ W.cell? ⟨b, 1, none⟩ = some (.pointer (some ⟨p, 0, none⟩)) ∧ W.cell? ⟨b, 2, none⟩ = some (.int .i64 v.1) ∧ W.cell? ⟨b, 3, none⟩ = some (.int .i64 v.2) ∧
    W.cell? ⟨b, 4, none⟩ = some (.int .i64 l.1) ∧ W.cell? ⟨b, 5, none⟩ = some (.int .i64 l.2.1) ∧ W.cell? ⟨b, 6, none⟩ = some (.int .i64 l.2.2.1) ∧ W.cell? ⟨b, 7, none⟩ = some (.int .i64 l.2.2.2) ∧
    W.cell? ⟨b, 8, none⟩ = some (.int .i64 c.1) ∧ W.cell? ⟨b, 9, none⟩ = some (.int .i64 c.2.1) ∧ W.cell? ⟨b, 10, none⟩ = some (.int .i64 c.2.2.1) ∧ W.cell? ⟨b, 11, none⟩ = some (.int .i64 c.2.2.2) ∧ W.cell? ⟨b, 12, none⟩ = some (.int .i64 st) :=
  ⟨h.cell 0, h.cell 1, h.cell 2, h.cell 3, h.cell 4, h.cell 5, h.cell 6, h.cell 7, h.cell 8, h.cell 9, h.cell 10, h.cell 11, h.cell 12⟩
set_option maxHeartbeats 2000000 in
theorem beat_k {w0 : World} {b f p : Nat} {Sp : List Nat} {x : Nat} {d : D} {ys : List Bt} {w : World} (q : Pk) (back : Bool) (M : Mid w0 b f p Sp x d ys w) (hq : PkOk q) (hy : ys.length ≤ 1000) :
    Calls Try.prog 67 #[.pointer (some ⟨b, 0, none⟩), pkI q, .bool back, .func (.func 47) #[.pointer (some ⟨x, 0, none⟩)] #[]] w fun e w' => e = .returned (.tuple #[]) ∧
      Mid w0 b f p Sp x (beatT d q) (ys ++ [beatB d q back]) w' := by
  have hf := M.fine
  have hqa := hq.at_
  obtain ⟨q0, q1, q2, q3⟩ := q
  have hnb := nums_bd d.last hf.last
  have M0 := M.alloc (.cells #[.int .i64 q0, .int .i64 q1, .int .i64 q2, .int .i64 q3] 84)
  have hX := Has.new w 84 #[.int .i64 q0, .int .i64 q1, .int .i64 q2, .int .i64 q3]
  have hH := M0.head
  have hth := fun W => there_k (Peak.nums d.last) W
  have hb : isB (Peak.nums d.last) = d.last.isSome := by
    cases hl : d.last with
    | none => exact isB_none
    | some l => exact isB_some l (hf.last l hl)
  rw [hb] at hth
  have hrr : behind d (q0, q1, q2, q3) = if d.last.isSome then q0 - (Peak.nums d.last).1 else 0 := by
    unfold behind Peak.nums
    cases d.last <;> rfl
  have hdd : (beatT d (q0, q1, q2, q3)).ds = if d.last.isSome then (q0 - (Peak.nums d.last).1) :: d.ds else d.ds := by
    unfold beatT Peak.nums
    cases d.last <;> rfl
  unfold pkI at hth ⊢
  dsimp only at hqa hth ⊢
  obtain ⟨a0, a1, a2, a3, a4, a5, a6, a7, a8, a9, a10, a11, a12⟩ := has_all hH
  have x0 := hX.cell 0
  generalize hs : d.last.isSome = s at hth hrr hdd
  generalize hL : Peak.nums d.last = l at *
  generalize hc : Peak.nums d.cand = c at *
  obtain ⟨l0, l1, l2, l3⟩ := l
  dsimp only at *
  go_enter Try.func67, Try.ntmps67
  cases s with
  | false =>
    go_wp2_with (first
      | (go_at_call 77; ((refine Calls.mono (by exact hth _) ?_); rintro e W1 ⟨rfl, hB1⟩; have hH1 := (M0.below hB1).head; have hX1 := hX.below hB1 hX.lt; have x0' := hX1.cell 0; have x1' := hX1.cell 1; have x2' := hX1.cell 2; have x3' := hX1.cell 3; obtain ⟨b0, b1, b2, b3, b4, b5, b6, b7, b8, b9, b10, b11, b12⟩ := has_all hH1; have g4 := hH1.frozen 4; have g5 := hH1.frozen 5; have g6 := hH1.frozen 6; have g7 := hH1.frozen 7; have g8 := hH1.frozen 8; have g9 := hH1.frozen 9; have g10 := hH1.frozen 10; have g11 := hH1.frozen 11; have hP1 := past_put hH1 q0 q1 q2 q3; have M2 : Mid w0 b f p Sp x (beatT d (q0, q1, q2, q3)) ys _ := (M0.below hB1).cells hP1.2 hP1.1 (fine_beat hf hq) rfl rfl (by rw [hdd]; rfl) rfl; have ht := tell_k x _ _ 0 back ys (q0, q1, q2, q3) _ M2.tel hy hf.st ⟨hf.n0.1, by have := hf.n0.2; show d.n ≤ _; omega⟩ ⟨hqa.1, by show q0 ≤ _; omega⟩; unfold pkI at ht; dsimp only at ht))
      | (go_at_call 47; ((refine Calls.mono (by exact ht) ?_); rintro e W9 ⟨rfl, hT9, hB9⟩)))
    go_end0
    refine ⟨rfl, ?_⟩
    rw [show beatB d (q0, q1, q2, q3) back = (d.start + (if q0 - 38 < 0 then 0 else q0 - 38), d.start + d.n, 0, back) by unfold beatB; rw [hrr]; rfl]
    exact M2.told hB9 hT9
  | true =>
    have HRR := Lib.hid hrr
    have hwr : IntKind.i64.wrap (q0 - l0) = q0 - l0 := by rw [IntKind.wrap_i64]; have := hnb.1; omega
    go_wp2_with (first
      | (go_at_call 77; ((refine Calls.mono (by exact hth _) ?_); rintro e W1 ⟨rfl, hB1⟩; have M1 := M0.below hB1; have hX1 := hX.below hB1 hX.lt)))
    have c4 : W1.cell? ⟨b, 4, none⟩ = some (.int .i64 l0) := by
      have := (has_all M1.head).2.2.2.2.1
      rwa [hL] at this
    clear a0 a1 a2 a3 a4 a5 a6 a7 a8 a9 a10 a11 a12 x0
    refine Reg.begin_ (S := fun W => W.cell? ⟨b, 4, none⟩ = some (.int .i64 l0) ∧ W.cell? ⟨w.heap.size, 0, none⟩ = some (.int .i64 q0)) (by kernel_rfl) (by exact ⟨c4, hX1.cell 0⟩) (fun hHeld => ?_)
    refine Reg.take (i := 0) (v := ?v1) rfl (by kernel_rfl) (by kernel_rfl) (by kernel_rfl) (by rfl) ?hv1 (by assumption) ?rest1
    case hv1 => first | (intro w hSw; (try dsimp only at hSw); go_simp; done) | (intro w hSw; (try dsimp only at hSw); go_simp; with_reducible rfl)
    (try simp only [Act.put, List.setIfInBounds_toArray, List.set_cons_zero, List.set_cons_succ])
    refine Reg.take (i := 1) (v := ?v2) rfl (by kernel_rfl) (by kernel_rfl) (by kernel_rfl) (by rfl) ?hv2 (by assumption) ?rest2
    case hv2 => first | (intro w hSw; (try dsimp only at hSw); go_simp; done) | (intro w hSw; (try dsimp only at hSw); go_simp; with_reducible rfl)
    (try simp only [Act.put, List.setIfInBounds_toArray, List.set_cons_zero, List.set_cons_succ])
    refine Reg.take (i := 2) (v := ?v3) rfl (by kernel_rfl) (by kernel_rfl) (by kernel_rfl) (by rfl) ?hv3 (by assumption) ?rest3
    case hv3 => first | (intro w hSw; (try dsimp only at hSw); go_simp; done) | (intro w hSw; (try dsimp only at hSw); go_simp; with_reducible rfl)
    (try simp only [Act.put, List.setIfInBounds_toArray, List.set_cons_zero, List.set_cons_succ])
    refine Reg.take (i := 3) (v := ?v4) rfl (by kernel_rfl) (by kernel_rfl) (by kernel_rfl) (by rfl) ?hv4 (by assumption) ?rest4
    case hv4 => first | (intro w hSw; (try dsimp only at hSw); go_simp; done) | (intro w hSw; (try dsimp only at hSw); go_simp; with_reducible rfl)
    (try simp only [Act.put, List.setIfInBounds_toArray, List.set_cons_zero, List.set_cons_succ])
    refine Reg.take (i := 4) (v := ?v5) rfl (by kernel_rfl) (by kernel_rfl) (by kernel_rfl) (by rfl) ?hv5 (by assumption) ?rest5
    case hv5 => first | (intro w hSw; (try dsimp only at hSw); go_simp; done) | (intro w hSw; (try dsimp only at hSw); go_simp; with_reducible rfl)
    (try simp only [Act.put, List.setIfInBounds_toArray, List.set_cons_zero, List.set_cons_succ])
    refine Reg.take (i := 5) (v := ?v6) rfl (by kernel_rfl) (by kernel_rfl) (by kernel_rfl) (by rfl) ?hv6 (by assumption) ?rest6
    case hv6 => first | (intro w hSw; (try dsimp only at hSw); go_simp; done) | (intro w hSw; (try dsimp only at hSw); go_simp; with_reducible rfl)
    (try simp only [Act.put, List.setIfInBounds_toArray, List.set_cons_zero, List.set_cons_succ])
    refine Reg.take (i := 6) (v := ?v7) rfl (by kernel_rfl) (by kernel_rfl) (by kernel_rfl) (by rfl) ?hv7 (by assumption) ?rest7
    case hv7 => first | (intro w hSw; (try dsimp only at hSw); go_simp; done) | (intro w hSw; (try dsimp only at hSw); go_simp; with_reducible rfl)
    (try simp only [Act.put, List.setIfInBounds_toArray, List.set_cons_zero, List.set_cons_succ])
    refine Reg.take (i := 7) (v := ?v8) rfl (by kernel_rfl) (by kernel_rfl) (by kernel_rfl) (by rfl) ?hv8 (by assumption) ?rest8
    case hv8 => first | (intro w hSw; (try dsimp only at hSw); go_simp; done) | (intro w hSw; (try dsimp only at hSw); go_simp; with_reducible rfl)
    (try simp only [Act.put, List.setIfInBounds_toArray, List.set_cons_zero, List.set_cons_succ])
    refine Reg.take (i := 8) (v := ?v9) rfl (by kernel_rfl) (by kernel_rfl) (by kernel_rfl) (by rfl) ?hv9 (by assumption) ?rest9
    case hv9 => first | (intro w hSw; (try dsimp only at hSw); go_simp; done) | (intro w hSw; (try dsimp only at hSw); go_simp; with_reducible rfl)
    (try simp only [Act.put, List.setIfInBounds_toArray, List.set_cons_zero, List.set_cons_succ])
    refine Reg.take (i := 9) (v := ?v10) rfl (by kernel_rfl) (by kernel_rfl) (by kernel_rfl) (by rfl) ?hv10 (by assumption) ?rest10
    case hv10 => first | (intro w hSw; (try dsimp only at hSw); go_simp; done) | (intro w hSw; (try dsimp only at hSw); go_simp; with_reducible rfl)
    (try simp only [Act.put, List.setIfInBounds_toArray, List.set_cons_zero, List.set_cons_succ])
    refine Reg.done (by kernel_rfl) ?_ _
    have M2 := M1.drew
    have hX2 : Has W1.drew w.heap.size 84 #[.int .i64 q0, .int .i64 q1, .int .i64 q2, .int .i64 q3] := hX1
    clear hHeld c4 hX1 M1
    generalize W1.drew = W2 at *
    have c1 := (has_all M2.head).2.1
    have M3 := M2.alloc (.cells #[.int .i64 (q0 - l0)] 2)
    have c1' := (has_all M3.head).2.1
    have hX3 := hX2.alloc (.cells #[.int .i64 (q0 - l0)] 2)
    have hV : RI64.Vals (W2.alloc (.cells #[.int .i64 (q0 - l0)] 2)) (some ⟨W2.heap.size, 0, none⟩) 1 [q0 - l0] := RI64.Vals.has (ys := [q0 - l0]) (tl := []) (Has.new W2 _ _)
    have hfr : ∀ k ∈ Sp, k < W2.heap.size := fun k hk => Nat.lt_of_lt_of_le (M2.lo k (by simp [hk])) M2.kept.size
    have hwx : w.heap.size ∉ Sp := fun h => by
      have h1 := M.lo _ (List.mem_cons_of_mem b (List.mem_cons_of_mem f h))
      have h2 := M.kept.size
      omega
    have hadd := Pace.kit.add_any (W2.alloc (.cells #[.int .i64 (q0 - l0)] 2)) p Sp d.ds (some ⟨W2.heap.size, 0, none⟩) 1 1 [q0 - l0] M3.pac hV (by omega) (fun y _ hy hyS => by injection hy with hy; rw [← hy] at hyS; exact Nat.lt_irrefl _ (hfr _ hyS))
    have hfd : Fine { d with ds := (q0 - l0) :: d.ds } := ⟨hf.n0, hf.st, hf.lv, hf.last, hf.cand, fun h => by rw [show d.last = none from h] at hs; cases hs⟩
    clear hrr
    go_wp2_with (first
      | (go_at_call 81; ((refine Calls.mono (by exact hadd) ?_); rintro e W4 ⟨rfl, hP4, hK4⟩; have M4 : Mid w0 b f p Sp x { d with ds := (q0 - l0) :: d.ds } ys W4 := M3.pace hK4 hP4 hfd rfl rfl rfl rfl rfl rfl; have hX4 := hK4.has hX3 hwx; have x0' := hX4.cell 0; have x1' := hX4.cell 1; have x2' := hX4.cell 2; have x3' := hX4.cell 3; have hH4 := M4.head; obtain ⟨b0, b1, b2, b3, b4, b5, b6, b7, b8, b9, b10, b11, b12⟩ := has_all hH4; have g4 := hH4.frozen 4; have g5 := hH4.frozen 5; have g6 := hH4.frozen 6; have g7 := hH4.frozen 7; have g8 := hH4.frozen 8; have g9 := hH4.frozen 9; have g10 := hH4.frozen 10; have g11 := hH4.frozen 11; have hP1 := past_put hH4 q0 q1 q2 q3; have M5 : Mid w0 b f p Sp x (beatT d (q0, q1, q2, q3)) ys _ := M4.cells hP1.2 hP1.1 (fine_beat hf hq) rfl rfl (by rw [hdd]; rfl) rfl; have ht := tell_k x _ _ (q0 - l0) back ys (q0, q1, q2, q3) _ M5.tel hy hf.st ⟨hf.n0.1, by have := hf.n0.2; show d.n ≤ _; omega⟩ ⟨hqa.1, by show q0 ≤ _; omega⟩; unfold pkI at ht; dsimp only at ht))
      | (go_at_call 47; ((refine Calls.mono (by exact ht) ?_); rintro e W9 ⟨rfl, hT9, hB9⟩)))
    go_end0
    refine ⟨rfl, ?_⟩
    rw [show beatB d (q0, q1, q2, q3) back = (d.start + (if q0 - 38 < 0 then 0 else q0 - 38), d.start + d.n, q0 - l0, back) by unfold beatB; rw [HRR.out]; rfl]
    exact M5.told hB9 hT9
end Go.Proofs.Ytnoppoimahfknaa.Qrs
end
section
/- The landed judge and lookBack. -/
set_option linter.unusedSimpArgs false
set_option linter.unusedVariables false
namespace Go.Proofs.Ytnoppoimahfknaa.Qrs
open Go.RowKit
theorem level_put {W : World} {b f p : Nat} {v : Level.Lv} {l c : Pk} {st : Int} (h : Has W b 88 (cellsD f p v l c st)) (a e : Int) :
    Has ((W.setCell ⟨b, 2, none⟩ (.int .i64 a)).setCell ⟨b, 3, none⟩ (.int .i64 e)) b 88 (cellsD f p (a, e) l c st) ∧ Kept [b] W ((W.setCell ⟨b, 2, none⟩ (.int .i64 a)).setCell ⟨b, 3, none⟩ (.int .i64 e)) := by
  constructor
  · have h9 := (h.set_ 2 (.int .i64 a)).set_ 3 (.int .i64 e)
    simpa [cellsD] using h9
  · exact ((Kept.refl [b] W).setCell (p := ⟨b, 2, none⟩) (.inl (by simp)) _).setCell (p := ⟨b, 3, none⟩) (.inl (by simp)) _
theorem near_is {d : D} (h : Fine d) (q : Pk) : (isB (Peak.nums d.last) && decide (q.1 - (Peak.nums d.last).1 < 40)) = near d q := by
  unfold near
  cases hl : d.last with
  | none => rw [isB_none]; rfl
  | some l => rw [isB_some l (h.last l hl)]; rfl
theorem flatter_is {d : D} (h : Fine d) (q : Pk) : (isB (Peak.nums d.last) && decide (q.1 - (Peak.nums d.last).1 < 72) && decide (2 * q.2.2.2 < (Peak.nums d.last).2.2.2)) = flatter d q := by
  unfold flatter
  cases hl : d.last with
  | none => rw [isB_none]; rfl
  | some l => rw [isB_some l (h.last l hl)]; rfl
theorem best_is {d : D} (h : Fine d) (q : Pk) (hq : PkOk q) : (if (Peak.nums d.cand).2.2.1 < q.2.2.1 then q else Peak.nums d.cand) = Peak.nums (best d.cand q) := by
  unfold best
  have := hq.top
  cases hl : d.cand with
  | none => show (if (0 : Int) < q.2.2.1 then q else (0, 0, 0, 0)) = q; rw [if_pos (by omega)]
  | some c =>
    show (if c.2.2.1 < q.2.2.1 then q else c) = Peak.nums (if c.2.2.1 < q.2.2.1 then some q else some c)
    split <;> rfl
theorem best_ok {d : D} (h : Fine d) {q : Pk} (hq : PkOk q) : ∀ c, best d.cand q = some c → PkOk c := fun c hc => by
  rcases best_cases d.cand q c hc with rfl | hc
  · exact hq
  · exact h.cand c hc
theorem noiseT_bd (v : Level.Lv) (ts : List Int) : (0 ≤ (Level.noiseT v ts).1 ∧ (Level.noiseT v ts).1 ≤ 62914560) ∧ 0 ≤ (Level.noiseT v ts).2 ∧ (Level.noiseT v ts).2 ≤ 62914560 :=
  ⟨Level.nearB_bd v.1, Level.follow_bd _ _ (Level.nearB_bd v.2)⟩
theorem signalT_bd (v : Level.Lv) (ts : List Int) : (0 ≤ (Level.signalT v ts).1 ∧ (Level.signalT v ts).1 ≤ 62914560) ∧ 0 ≤ (Level.signalT v ts).2 ∧ (Level.signalT v ts).2 ≤ 62914560 :=
  ⟨Level.follow_bd _ _ (Level.nearB_bd v.1), Level.nearB_bd v.2⟩
set_option maxHeartbeats 2000000 in
theorem judge_k {w0 : World} {b f p : Nat} {Sp : List Nat} {x : Nat} {d : D} {ys : List Bt} {w : World} (q : Pk) (M : Mid w0 b f p Sp x d ys w) (hq : PkOk q) (hy : ys.length ≤ 900) :
    Calls Try.prog 46 #[.pointer (some ⟨b, 0, none⟩), pkI q, .func (.func 47) #[.pointer (some ⟨x, 0, none⟩)] #[]] w fun e w' => e = .returned (.tuple #[]) ∧
      Mid w0 b f p Sp x (seenT d q).2 (ys ++ (seenT d q).1.toList) w' := by
  have hf := M.fine
  have hqa := hq.at_
  have hqt := hq.top
  have hqs := hq.steep
  have hnb := nums_bd d.last hf.last
  have hw1 := fun (W : World) (M : Mid w0 b f p Sp x d ys W) => within_k b f p d.lv (Peak.nums d.last) (Peak.nums d.cand) q d.start 40 W M.head ⟨hnb.1.1, by omega⟩ ⟨hqa.1, by omega⟩
  have hw2 := fun (W : World) (M : Mid w0 b f p Sp x d ys W) => within_k b f p d.lv (Peak.nums d.last) (Peak.nums d.cand) q d.start 72 W M.head ⟨hnb.1.1, by omega⟩ ⟨hqa.1, by omega⟩
  have hne := near_is hf q
  have hfl := flatter_is hf q
  rw [hne] at hw1
  obtain ⟨q0, q1, q2, q3⟩ := q
  have M0 := M.alloc (.cells #[.int .i64 q0, .int .i64 q1, .int .i64 q2, .int .i64 q3] 84)
  have hX := Has.new w 84 #[.int .i64 q0, .int .i64 q1, .int .i64 q2, .int .i64 q3]
  have hyb : w.heap.size ≠ b := by have := M.head.lt; omega
  unfold pkI at hw1 hw2 ⊢
  dsimp only at hqa hqt hqs hw1 hw2 hfl ⊢
  go_enter Try.func46, Try.ntmps46
  go_wp2
  generalize w.alloc (.cells #[.int .i64 q0, .int .i64 q1, .int .i64 q2, .int .i64 q3] 84) = W0 at *
  generalize w.heap.size = y at *
  refine Reg.begin_ (S := fun W => W.cell? ⟨y, 0, none⟩ = some (.int .i64 q0) ∧ W.cell? ⟨y, 1, none⟩ = some (.int .i64 q1) ∧ W.cell? ⟨y, 2, none⟩ = some (.int .i64 q2) ∧ W.cell? ⟨y, 3, none⟩ = some (.int .i64 q3)) (by kernel_rfl) (by exact ⟨hX.cell 0, hX.cell 1, hX.cell 2, hX.cell 3⟩) (fun hHeld => ?_)
  refine Reg.take (i := 0) (v := ?v1) rfl (by kernel_rfl) (by kernel_rfl) (by kernel_rfl) (by rfl) ?hv1 (by assumption) ?rest1
  case hv1 => first | (intro w hSw; (try dsimp only at hSw); go_simp; done) | (intro w hSw; (try dsimp only at hSw); go_simp; with_reducible rfl)
  (try simp only [Act.put, List.setIfInBounds_toArray, List.set_cons_zero, List.set_cons_succ])
  refine Reg.take (i := 1) (v := ?v2) rfl (by kernel_rfl) (by kernel_rfl) (by kernel_rfl) (by rfl) ?hv2 (by assumption) ?rest2
  case hv2 => first | (intro w hSw; (try dsimp only at hSw); go_simp; done) | (intro w hSw; (try dsimp only at hSw); go_simp; with_reducible rfl)
  (try simp only [Act.put, List.setIfInBounds_toArray, List.set_cons_zero, List.set_cons_succ])
  refine Reg.take (i := 2) (v := ?v3) rfl (by kernel_rfl) (by kernel_rfl) (by kernel_rfl) (by rfl) ?hv3 (by assumption) ?rest3
  case hv3 => first | (intro w hSw; (try dsimp only at hSw); go_simp; done) | (intro w hSw; (try dsimp only at hSw); go_simp; with_reducible rfl)
  (try simp only [Act.put, List.setIfInBounds_toArray, List.set_cons_zero, List.set_cons_succ])
  refine Reg.take (i := 3) (v := ?v4) rfl (by kernel_rfl) (by kernel_rfl) (by kernel_rfl) (by rfl) ?hv4 (by assumption) ?rest4
  case hv4 => first | (intro w hSw; (try dsimp only at hSw); go_simp; done) | (intro w hSw; (try dsimp only at hSw); go_simp; with_reducible rfl)
  (try simp only [Act.put, List.setIfInBounds_toArray, List.set_cons_zero, List.set_cons_succ])
  refine Reg.call (i := 4) rfl (by kernel_rfl) (by rfl) ?_
  intro K hK
  go_simp
  go_at_call 62
  (refine Calls.mono (by exact hw1 _ M0.drew) ?_)
  rintro e W1 ⟨rfl, hB1⟩
  have M1 := M0.drew.below hB1
  have hX1 : Has W1 y 84 #[.int .i64 q0, .int .i64 q1, .int .i64 q2, .int .i64 q3] := Has.below (show Has W0.drew y _ _ from hX) hB1 (show y < W0.drew.heap.size from hX.lt)
  refine hK.out _ _ (by exact ⟨hX1.cell 0, hX1.cell 1, hX1.cell 2, hX1.cell 3⟩) (fun hHeld => ?_)
  clear hK K
  (try simp only [Act.put, List.setIfInBounds_toArray, List.set_cons_zero, List.set_cons_succ])
  refine Reg.take (i := 5) (v := ?v5) rfl (by kernel_rfl) (by kernel_rfl) (by kernel_rfl) (by rfl) ?hv5 (by assumption) ?rest5
  case hv5 => first | (intro w hSw; (try dsimp only at hSw); go_simp; done) | (intro w hSw; (try dsimp only at hSw); go_simp; with_reducible rfl)
  (try simp only [Act.put, List.setIfInBounds_toArray, List.set_cons_zero, List.set_cons_succ])
  refine Reg.done (by kernel_rfl) ?_ _
  clear hHeld hX M0
  cases hr1 : near d (q0, q1, q2, q3) with
  | true =>
    go_wp2
    go_end0
    refine ⟨rfl, ?_⟩
    rw [show seenT d (q0, q1, q2, q3) = (none, d) by unfold seenT; rw [hr1]; rfl]
    simpa using M1
  | false =>
    go_wp2
    have hup := fun W => Level.upper_any d.lv.1 d.lv.2 W
    rw [show Level.upperT (d.lv.1, d.lv.2) = Level.upperT d.lv from rfl] at hup
    refine Reg.begin_ (S := fun W => W.cell? ⟨b, 2, none⟩ = some (.int .i64 d.lv.1) ∧ W.cell? ⟨b, 3, none⟩ = some (.int .i64 d.lv.2) ∧ W.cell? ⟨y, 2, none⟩ = some (.int .i64 q2)) (by kernel_rfl) (by exact ⟨M1.head.cell 2, M1.head.cell 3, hX1.cell 2⟩) (fun hHeld => ?_)
    refine Reg.take (i := 0) (v := ?v6) rfl (by kernel_rfl) (by kernel_rfl) (by kernel_rfl) (by rfl) ?hv6 (by assumption) ?rest6
    case hv6 => first | (intro w hSw; (try dsimp only at hSw); go_simp; done) | (intro w hSw; (try dsimp only at hSw); go_simp; with_reducible rfl)
    (try simp only [Act.put, List.setIfInBounds_toArray, List.set_cons_zero, List.set_cons_succ])
    refine Reg.take (i := 1) (v := ?v7) rfl (by kernel_rfl) (by kernel_rfl) (by kernel_rfl) (by rfl) ?hv7 (by assumption) ?rest7
    case hv7 => first | (intro w hSw; (try dsimp only at hSw); go_simp; done) | (intro w hSw; (try dsimp only at hSw); go_simp; with_reducible rfl)
    (try simp only [Act.put, List.setIfInBounds_toArray, List.set_cons_zero, List.set_cons_succ])
    refine Reg.take (i := 2) (v := ?v8) rfl (by kernel_rfl) (by kernel_rfl) (by kernel_rfl) (by rfl) ?hv8 (by assumption) ?rest8
    case hv8 => first | (intro w hSw; (try dsimp only at hSw); go_simp; done) | (intro w hSw; (try dsimp only at hSw); go_simp; with_reducible rfl)
    (try simp only [Act.put, List.setIfInBounds_toArray, List.set_cons_zero, List.set_cons_succ])
    refine Reg.take (i := 3) (v := ?v9) rfl (by kernel_rfl) (by kernel_rfl) (by kernel_rfl) (by rfl) ?hv9 (by assumption) ?rest9
    case hv9 => first | (intro w hSw; (try dsimp only at hSw); go_simp; done) | (intro w hSw; (try dsimp only at hSw); go_simp; with_reducible rfl)
    (try simp only [Act.put, List.setIfInBounds_toArray, List.set_cons_zero, List.set_cons_succ])
    refine Reg.take (i := 4) (v := ?v10) rfl (by kernel_rfl) (by kernel_rfl) (by kernel_rfl) (by rfl) ?hv10 (by assumption) ?rest10
    case hv10 => first | (intro w hSw; (try dsimp only at hSw); go_simp; done) | (intro w hSw; (try dsimp only at hSw); go_simp; with_reducible rfl)
    (try simp only [Act.put, List.setIfInBounds_toArray, List.set_cons_zero, List.set_cons_succ])
    refine Reg.take (i := 5) (v := ?v11) rfl (by kernel_rfl) (by kernel_rfl) (by kernel_rfl) (by rfl) ?hv11 (by assumption) ?rest11
    case hv11 => first | (intro w hSw; (try dsimp only at hSw); go_simp; done) | (intro w hSw; (try dsimp only at hSw); go_simp; with_reducible rfl)
    (try simp only [Act.put, List.setIfInBounds_toArray, List.set_cons_zero, List.set_cons_succ])
    refine Reg.take (i := 6) (v := ?v12) rfl (by kernel_rfl) (by kernel_rfl) (by kernel_rfl) (by rfl) ?hv12 (by assumption) ?rest12
    case hv12 => first | (intro w hSw; (try dsimp only at hSw); go_simp; done) | (intro w hSw; (try dsimp only at hSw); go_simp; with_reducible rfl)
    (try simp only [Act.put, List.setIfInBounds_toArray, List.set_cons_zero, List.set_cons_succ])
    have M1d := M1.drew
    have hX1d : Has W1.drew y 84 #[.int .i64 q0, .int .i64 q1, .int .i64 q2, .int .i64 q3] := hX1
    clear M1 hX1 hHeld
    generalize W1.drew = W1d at *
    refine Reg.call (i := 7) rfl (by kernel_rfl) (by rfl) ?_
    intro K hK
    go_simp
    go_at_call 63
    (refine Calls.mono (by exact hup _) ?_)
    rintro e W2 ⟨rfl, hB2⟩
    have M2 := M1d.below hB2
    have hX2 := hX1d.below hB2 hX1d.lt
    clear M1d hX1d
    generalize hu : Level.upperT d.lv = u at *
    refine hK.out _ _ (by exact ⟨M2.head.cell 2, M2.head.cell 3, hX2.cell 2⟩) (fun hHeld => ?_)
    clear hK K
    (try simp only [Act.put, List.setIfInBounds_toArray, List.set_cons_zero, List.set_cons_succ])
    refine Reg.take (i := 8) (v := ?v13) rfl (by kernel_rfl) (by kernel_rfl) (by kernel_rfl) (by rfl) ?hv13 (by assumption) ?rest13
    case hv13 => first | (intro w hSw; (try dsimp only at hSw); go_simp; done) | (intro w hSw; (try dsimp only at hSw); go_simp; with_reducible rfl)
    (try simp only [Act.put, List.setIfInBounds_toArray, List.set_cons_zero, List.set_cons_succ])
    refine Reg.take (i := 9) (v := ?v14) rfl (by kernel_rfl) (by kernel_rfl) (by kernel_rfl) (by rfl) ?hv14 (by assumption) ?rest14
    case hv14 => first | (intro w hSw; (try dsimp only at hSw); go_simp; done) | (intro w hSw; (try dsimp only at hSw); go_simp; with_reducible rfl)
    (try simp only [Act.put, List.setIfInBounds_toArray, List.set_cons_zero, List.set_cons_succ])
    refine Reg.done (by kernel_rfl) ?_ _
    clear hHeld
    by_cases hle : q2 ≤ u
    · go_wp2
      have hXX := hX2
      refine Till.begin_ (T := [13]) (S := fun W => W.cell? ⟨b, 2, none⟩ = some (.int .i64 d.lv.1) ∧ W.cell? ⟨b, 3, none⟩ = some (.int .i64 d.lv.2) ∧ W.cell? ⟨y, 2, none⟩ = some (.int .i64 q2)) (by kernel_rfl) (by exact ⟨M2.head.cell 2, M2.head.cell 3, hXX.cell 2⟩) (fun hHeld => ?_)
      refine Till.take (i := 0) (v := ?v15) rfl (by kernel_rfl) (by kernel_rfl) (by kernel_rfl) (by kernel_rfl) (by rfl) ?hv15 (by assumption) ?rest15
      case hv15 => first | (intro w hSw; (try dsimp only at hSw); go_simp; done) | (intro w hSw; (try dsimp only at hSw); go_simp; with_reducible rfl)
      (try simp only [Act.put, List.setIfInBounds_toArray, List.set_cons_zero, List.set_cons_succ])
      refine Till.take (i := 1) (v := ?v16) rfl (by kernel_rfl) (by kernel_rfl) (by kernel_rfl) (by kernel_rfl) (by rfl) ?hv16 (by assumption) ?rest16
      case hv16 => first | (intro w hSw; (try dsimp only at hSw); go_simp; done) | (intro w hSw; (try dsimp only at hSw); go_simp; with_reducible rfl)
      (try simp only [Act.put, List.setIfInBounds_toArray, List.set_cons_zero, List.set_cons_succ])
      refine Till.take (i := 2) (v := ?v17) rfl (by kernel_rfl) (by kernel_rfl) (by kernel_rfl) (by kernel_rfl) (by rfl) ?hv17 (by assumption) ?rest17
      case hv17 => first | (intro w hSw; (try dsimp only at hSw); go_simp; done) | (intro w hSw; (try dsimp only at hSw); go_simp; with_reducible rfl)
      (try simp only [Act.put, List.setIfInBounds_toArray, List.set_cons_zero, List.set_cons_succ])
      refine Till.take (i := 3) (v := ?v18) rfl (by kernel_rfl) (by kernel_rfl) (by kernel_rfl) (by kernel_rfl) (by rfl) ?hv18 (by assumption) ?rest18
      case hv18 => first | (intro w hSw; (try dsimp only at hSw); go_simp; done) | (intro w hSw; (try dsimp only at hSw); go_simp; with_reducible rfl)
      (try simp only [Act.put, List.setIfInBounds_toArray, List.set_cons_zero, List.set_cons_succ])
      refine Till.take (i := 4) (v := ?v19) rfl (by kernel_rfl) (by kernel_rfl) (by kernel_rfl) (by kernel_rfl) (by rfl) ?hv19 (by assumption) ?rest19
      case hv19 => first | (intro w hSw; (try dsimp only at hSw); go_simp; done) | (intro w hSw; (try dsimp only at hSw); go_simp; with_reducible rfl)
      (try simp only [Act.put, List.setIfInBounds_toArray, List.set_cons_zero, List.set_cons_succ])
      refine Till.take (i := 5) (v := ?v20) rfl (by kernel_rfl) (by kernel_rfl) (by kernel_rfl) (by kernel_rfl) (by rfl) ?hv20 (by assumption) ?rest20
      case hv20 => first | (intro w hSw; (try dsimp only at hSw); go_simp; done) | (intro w hSw; (try dsimp only at hSw); go_simp; with_reducible rfl)
      (try simp only [Act.put, List.setIfInBounds_toArray, List.set_cons_zero, List.set_cons_succ])
      refine Till.take (i := 6) (v := ?v21) rfl (by kernel_rfl) (by kernel_rfl) (by kernel_rfl) (by kernel_rfl) (by rfl) ?hv21 (by assumption) ?rest21
      case hv21 => first | (intro w hSw; (try dsimp only at hSw); go_simp; done) | (intro w hSw; (try dsimp only at hSw); go_simp; with_reducible rfl)
      (try simp only [Act.put, List.setIfInBounds_toArray, List.set_cons_zero, List.set_cons_succ])
      refine Till.take (i := 7) (v := ?v22) rfl (by kernel_rfl) (by kernel_rfl) (by kernel_rfl) (by kernel_rfl) (by rfl) ?hv22 (by assumption) ?rest22
      case hv22 => first | (intro w hSw; (try dsimp only at hSw); go_simp; done) | (intro w hSw; (try dsimp only at hSw); go_simp; with_reducible rfl)
      (try simp only [Act.put, List.setIfInBounds_toArray, List.set_cons_zero, List.set_cons_succ])
      clear hHeld
      have Ma := M2.drew
      have hXa : Has W2.drew y 84 #[.int .i64 q0, .int .i64 q1, .int .i64 q2, .int .i64 q3] := hXX
      clear M2 hX2 hXX
      generalize W2.drew = Wa at *
      have Mb := Ma.alloc (.cells #[.int .i64 q2] 2)
      have hXb := hXa.alloc (.cells #[.int .i64 q2] 2)
      have hV : RI64.Vals (Wa.alloc (.cells #[.int .i64 q2] 2)) (some ⟨Wa.heap.size, 0, none⟩) 1 [q2] := RI64.Vals.has (ys := [q2]) (tl := []) (Has.new Wa _ _)
      have hcl := Level.noise_any (some ⟨Wa.heap.size, 0, none⟩) 1 1 [q2] d.lv.1 d.lv.2 _ hV (by omega)
      have hLb := noiseT_bd d.lv [q2]
      rw [show Level.noiseT (d.lv.1, d.lv.2) [q2] = Level.noiseT d.lv [q2] from rfl] at hcl
      generalize hL : Level.noiseT d.lv [q2] = L at hcl hLb
      obtain ⟨L1, L2⟩ := L
      unfold Level.lvV at hcl
      dsimp only at hcl hLb
      refine Till.call (i := 8) rfl (by kernel_rfl) (by rfl) ?_
      intro K hK
      go_simp
      refine hK.out _ _ (by exact ⟨Mb.head.cell 2, Mb.head.cell 3, hXb.cell 2⟩) (fun hHeld2 => ?_)
      clear hK K hHeld2
      (try simp only [Act.put, List.setIfInBounds_toArray, List.set_cons_zero, List.set_cons_succ])
      clear Ma hXa hV
      generalize Wa.alloc (.cells #[.int .i64 q2] 2) = Wb at *
      refine Till.call (i := 9) rfl (by kernel_rfl) (by rfl) ?_
      intro K hK
      go_simp
      go_at_call 64
      (refine Calls.mono (by exact hcl) ?_)
      rintro e Wc ⟨rfl, hBc⟩
      have Mc := Mb.below hBc
      have hXc := hXb.below hBc hXb.lt
      refine hK.out _ _ (by exact ⟨Mc.head.cell 2, Mc.head.cell 3, hXc.cell 2⟩) (fun hHeld2 => ?_)
      clear hK K hcl hBc Mb hXb
      (try simp only [Act.put, List.setIfInBounds_toArray, List.set_cons_zero, List.set_cons_succ])
      refine Till.take (i := 10) (v := ?v23) rfl (by kernel_rfl) (by kernel_rfl) (by kernel_rfl) (by kernel_rfl) (by rfl) ?hv23 (by assumption) ?rest23
      case hv23 => first | (intro w hSw; (try dsimp only at hSw); go_simp; done) | (intro w hSw; (try dsimp only at hSw); go_simp; with_reducible rfl)
      (try simp only [Act.put, List.setIfInBounds_toArray, List.set_cons_zero, List.set_cons_succ])
      refine Till.take (i := 11) (v := ?v24) rfl (by kernel_rfl) (by kernel_rfl) (by kernel_rfl) (by kernel_rfl) (by rfl) ?hv24 (by assumption) ?rest24
      case hv24 => first | (intro w hSw; (try dsimp only at hSw); go_simp; done) | (intro w hSw; (try dsimp only at hSw); go_simp; with_reducible rfl)
      (try simp only [Act.put, List.setIfInBounds_toArray, List.set_cons_zero, List.set_cons_succ])
      refine Till.take (i := 12) (v := ?v25) rfl (by kernel_rfl) (by kernel_rfl) (by kernel_rfl) (by kernel_rfl) (by rfl) ?hv25 (by assumption) ?rest25
      case hv25 => first | (intro w hSw; (try dsimp only at hSw); go_simp; done) | (intro w hSw; (try dsimp only at hSw); go_simp; with_reducible rfl)
      (try simp only [Act.put, List.setIfInBounds_toArray, List.set_cons_zero, List.set_cons_succ])
      clear hHeld2
      have c2 : Wc.cell? ⟨b, 2, none⟩ = some (.int .i64 d.lv.1) := Mc.head.cell 2
      have c3 : Wc.cell? ⟨b, 3, none⟩ = some (.int .i64 d.lv.2) := Mc.head.cell 3
      have g2 := Mc.head.frozen 2
      have g3 := Mc.head.frozen 3
      have hP := level_put Mc.head L1 L2
      have hX3 := hP.2.has hXc (by simp; exact hyb)
      have M3 : Mid w0 b f p Sp x { d with lv := (L1, L2) } ys _ := Mc.cells hP.2 hP.1 ⟨hf.n0, hf.st, hLb, hf.last, hf.cand, hf.ds⟩ rfl rfl rfl rfl
      refine Till.put (i := 13) rfl (by kernel_rfl) (by rfl) (by rfl) ?_
      intro K hK
      go_simp
      refine hK.out _ _ ?_
      clear hK K
      (try simp only [Act.put, List.setIfInBounds_toArray, List.set_cons_zero, List.set_cons_succ])
      refine Till.done (by kernel_rfl) ?_ _
      clear c2 c3 g2 g3 hP Mc hXc
      generalize (Wc.setCell ⟨b, 2, none⟩ (.int .i64 L1)).setCell ⟨b, 3, none⟩ (.int .i64 L2) = W3 at *
      have hkp := keep_k b f p (L1, L2) (Peak.nums d.last) (Peak.nums d.cand) (q0, q1, q2, q3) d.start
      rw [best_is hf _ hq] at hkp
      unfold pkI at hkp
      dsimp only at hkp
      go_wp2
      refine Reg.begin_ (S := fun W => W.cell? ⟨y, 0, none⟩ = some (.int .i64 q0) ∧ W.cell? ⟨y, 1, none⟩ = some (.int .i64 q1) ∧ W.cell? ⟨y, 2, none⟩ = some (.int .i64 q2) ∧ W.cell? ⟨y, 3, none⟩ = some (.int .i64 q3)) (by kernel_rfl) (by exact ⟨hX3.cell 0, hX3.cell 1, hX3.cell 2, hX3.cell 3⟩) (fun hHeld => ?_)
      refine Reg.take (i := 0) (v := ?v26) rfl (by kernel_rfl) (by kernel_rfl) (by kernel_rfl) (by rfl) ?hv26 (by assumption) ?rest26
      case hv26 => first | (intro w hSw; (try dsimp only at hSw); go_simp; done) | (intro w hSw; (try dsimp only at hSw); go_simp; with_reducible rfl)
      (try simp only [Act.put, List.setIfInBounds_toArray, List.set_cons_zero, List.set_cons_succ])
      refine Reg.take (i := 1) (v := ?v27) rfl (by kernel_rfl) (by kernel_rfl) (by kernel_rfl) (by rfl) ?hv27 (by assumption) ?rest27
      case hv27 => first | (intro w hSw; (try dsimp only at hSw); go_simp; done) | (intro w hSw; (try dsimp only at hSw); go_simp; with_reducible rfl)
      (try simp only [Act.put, List.setIfInBounds_toArray, List.set_cons_zero, List.set_cons_succ])
      refine Reg.take (i := 2) (v := ?v28) rfl (by kernel_rfl) (by kernel_rfl) (by kernel_rfl) (by rfl) ?hv28 (by assumption) ?rest28
      case hv28 => first | (intro w hSw; (try dsimp only at hSw); go_simp; done) | (intro w hSw; (try dsimp only at hSw); go_simp; with_reducible rfl)
      (try simp only [Act.put, List.setIfInBounds_toArray, List.set_cons_zero, List.set_cons_succ])
      refine Reg.take (i := 3) (v := ?v29) rfl (by kernel_rfl) (by kernel_rfl) (by kernel_rfl) (by rfl) ?hv29 (by assumption) ?rest29
      case hv29 => first | (intro w hSw; (try dsimp only at hSw); go_simp; done) | (intro w hSw; (try dsimp only at hSw); go_simp; with_reducible rfl)
      (try simp only [Act.put, List.setIfInBounds_toArray, List.set_cons_zero, List.set_cons_succ])
      have M3d := M3.drew
      have hX3d : Has W3.drew y 84 #[.int .i64 q0, .int .i64 q1, .int .i64 q2, .int .i64 q3] := hX3
      clear M3 hX3 hHeld
      generalize W3.drew = W3d at *
      refine Reg.call (i := 4) rfl (by kernel_rfl) (by rfl) ?_
      intro K hK
      go_simp
      go_at_call 65
      (refine Calls.mono (by exact hkp _ M3d.head) ?_)
      rintro e W4 ⟨rfl, hH4, hK4⟩
      have hX4 := hK4.has hX3d (by simp; exact hyb)
      have M4 : Mid w0 b f p Sp x { d with lv := (L1, L2), cand := best d.cand (q0, q1, q2, q3) } ys W4 := M3d.cells hK4 hH4 ⟨hf.n0, hf.st, hLb, hf.last, best_ok hf hq, hf.ds⟩ rfl rfl rfl rfl
      refine hK.out _ _ (by exact ⟨hX4.cell 0, hX4.cell 1, hX4.cell 2, hX4.cell 3⟩) (fun hHeld => ?_)
      clear hK K
      (try simp only [Act.put, List.setIfInBounds_toArray, List.set_cons_zero, List.set_cons_succ])
      refine Reg.done (by kernel_rfl) ?_ _
      clear hHeld hH4 hK4 hX4 M3d hX3d
      go_wp2
      go_end0
      refine ⟨rfl, ?_⟩
      rw [show seenT d (q0, q1, q2, q3) = (none, { d with lv := (L1, L2), cand := best d.cand (q0, q1, q2, q3) }) by
        unfold seenT
        rw [hr1, if_neg (by simp), if_neg (show ¬ Level.upperT d.lv < q2 by omega), hL]]
      simpa using M4
    · go_wp2
      have hl7 : 0 ≤ (Peak.nums d.last).2.2.2 ∧ (Peak.nums d.last).2.2.2 ≤ 107136 := hnb.2.2
      have hwr : IntKind.i64.wrap (2 * q3) = 2 * q3 := by rw [IntKind.wrap_i64]; omega
      generalize hr7 : (isB (Peak.nums d.last) && decide (q0 - (Peak.nums d.last).1 < 72)) = r7 at hfl hw2
      refine Reg.begin_ (S := fun W => W.cell? ⟨b, 7, none⟩ = some (.int .i64 (Peak.nums d.last).2.2.2) ∧ W.cell? ⟨y, 0, none⟩ = some (.int .i64 q0) ∧ W.cell? ⟨y, 1, none⟩ = some (.int .i64 q1) ∧ W.cell? ⟨y, 2, none⟩ = some (.int .i64 q2) ∧ W.cell? ⟨y, 3, none⟩ = some (.int .i64 q3)) (by kernel_rfl) (by exact ⟨M2.head.cell 7, hX2.cell 0, hX2.cell 1, hX2.cell 2, hX2.cell 3⟩) (fun hHeld => ?_)
      refine Reg.take (i := 0) (v := ?v30) rfl (by kernel_rfl) (by kernel_rfl) (by kernel_rfl) (by rfl) ?hv30 (by assumption) ?rest30
      case hv30 => first | (intro w hSw; (try dsimp only at hSw); go_simp; done) | (intro w hSw; (try dsimp only at hSw); go_simp; with_reducible rfl)
      (try simp only [Act.put, List.setIfInBounds_toArray, List.set_cons_zero, List.set_cons_succ])
      refine Reg.take (i := 1) (v := ?v31) rfl (by kernel_rfl) (by kernel_rfl) (by kernel_rfl) (by rfl) ?hv31 (by assumption) ?rest31
      case hv31 => first | (intro w hSw; (try dsimp only at hSw); go_simp; done) | (intro w hSw; (try dsimp only at hSw); go_simp; with_reducible rfl)
      (try simp only [Act.put, List.setIfInBounds_toArray, List.set_cons_zero, List.set_cons_succ])
      refine Reg.take (i := 2) (v := ?v32) rfl (by kernel_rfl) (by kernel_rfl) (by kernel_rfl) (by rfl) ?hv32 (by assumption) ?rest32
      case hv32 => first | (intro w hSw; (try dsimp only at hSw); go_simp; done) | (intro w hSw; (try dsimp only at hSw); go_simp; with_reducible rfl)
      (try simp only [Act.put, List.setIfInBounds_toArray, List.set_cons_zero, List.set_cons_succ])
      refine Reg.take (i := 3) (v := ?v33) rfl (by kernel_rfl) (by kernel_rfl) (by kernel_rfl) (by rfl) ?hv33 (by assumption) ?rest33
      case hv33 => first | (intro w hSw; (try dsimp only at hSw); go_simp; done) | (intro w hSw; (try dsimp only at hSw); go_simp; with_reducible rfl)
      (try simp only [Act.put, List.setIfInBounds_toArray, List.set_cons_zero, List.set_cons_succ])
      have M2d := M2.drew
      have hX2d : Has W2.drew y 84 #[.int .i64 q0, .int .i64 q1, .int .i64 q2, .int .i64 q3] := hX2
      clear M2 hX2 hHeld
      generalize W2.drew = W2d at *
      refine Reg.call (i := 4) rfl (by kernel_rfl) (by rfl) ?_
      intro K hK
      go_simp
      go_at_call 62
      (refine Calls.mono (by exact hw2 _ M2d) ?_)
      rintro e W5 ⟨rfl, hB5⟩
      have M5 := M2d.below hB5
      have hX5 := hX2d.below hB5 hX2d.lt
      refine hK.out _ _ (by exact ⟨M5.head.cell 7, hX5.cell 0, hX5.cell 1, hX5.cell 2, hX5.cell 3⟩) (fun hHeld => ?_)
      clear hK K
      (try simp only [Act.put, List.setIfInBounds_toArray, List.set_cons_zero, List.set_cons_succ])
      clear M2d hX2d
      have hgt : Level.upperT d.lv < q2 := by omega
      generalize (Peak.nums d.last).2.2.2 = l3 at *
      have HFL := Lib.hid hfl
      clear hfl
      cases r7 with
      | false =>
        refine Reg.take (i := 5) (v := ?v34) rfl (by kernel_rfl) (by kernel_rfl) (by kernel_rfl) (by rfl) ?hv34 (by assumption) ?rest34
        case hv34 => first | (intro w hSw; (try dsimp only at hSw); go_simp; done) | (intro w hSw; (try dsimp only at hSw); go_simp; with_reducible rfl)
        (try simp only [Act.put, List.setIfInBounds_toArray, List.set_cons_zero, List.set_cons_succ])
        refine Reg.skip (i := 6) rfl (by kernel_rfl) (by kernel_rfl) (by kernel_rfl) (by rfl) (by assumption) ?_
        (try simp only [Act.put, List.setIfInBounds_toArray, List.set_cons_zero, List.set_cons_succ])
        refine Reg.skip (i := 7) rfl (by kernel_rfl) (by kernel_rfl) (by kernel_rfl) (by rfl) (by assumption) ?_
        (try simp only [Act.put, List.setIfInBounds_toArray, List.set_cons_zero, List.set_cons_succ])
        refine Reg.skip (i := 8) rfl (by kernel_rfl) (by kernel_rfl) (by kernel_rfl) (by rfl) (by assumption) ?_
        (try simp only [Act.put, List.setIfInBounds_toArray, List.set_cons_zero, List.set_cons_succ])
        refine Reg.skip (i := 9) rfl (by kernel_rfl) (by kernel_rfl) (by kernel_rfl) (by rfl) (by assumption) ?_
        (try simp only [Act.put, List.setIfInBounds_toArray, List.set_cons_zero, List.set_cons_succ])
        refine Reg.skip (i := 10) rfl (by kernel_rfl) (by kernel_rfl) (by kernel_rfl) (by rfl) (by assumption) ?_
        (try simp only [Act.put, List.setIfInBounds_toArray, List.set_cons_zero, List.set_cons_succ])
        refine Reg.skip (i := 11) rfl (by kernel_rfl) (by kernel_rfl) (by kernel_rfl) (by rfl) (by assumption) ?_
        (try simp only [Act.put, List.setIfInBounds_toArray, List.set_cons_zero, List.set_cons_succ])
        refine Reg.skip (i := 12) rfl (by kernel_rfl) (by kernel_rfl) (by kernel_rfl) (by rfl) (by assumption) ?_
        (try simp only [Act.put, List.setIfInBounds_toArray, List.set_cons_zero, List.set_cons_succ])
        refine Reg.skip (i := 13) rfl (by kernel_rfl) (by kernel_rfl) (by kernel_rfl) (by rfl) (by assumption) ?_
        (try simp only [Act.put, List.setIfInBounds_toArray, List.set_cons_zero, List.set_cons_succ])
        refine Reg.skip (i := 14) rfl (by kernel_rfl) (by kernel_rfl) (by kernel_rfl) (by rfl) (by assumption) ?_
        (try simp only [Act.put, List.setIfInBounds_toArray, List.set_cons_zero, List.set_cons_succ])
        refine Reg.skip (i := 15) rfl (by kernel_rfl) (by kernel_rfl) (by kernel_rfl) (by rfl) (by assumption) ?_
        (try simp only [Act.put, List.setIfInBounds_toArray, List.set_cons_zero, List.set_cons_succ])
        refine Reg.take (i := 16) (v := ?v35) rfl (by kernel_rfl) (by kernel_rfl) (by kernel_rfl) (by rfl) ?hv35 (by assumption) ?rest35
        case hv35 => first | (intro w hSw; (try dsimp only at hSw); go_simp; done) | (intro w hSw; (try dsimp only at hSw); go_simp; with_reducible rfl)
        (try simp only [Act.put, List.setIfInBounds_toArray, List.set_cons_zero, List.set_cons_succ])
        refine Reg.take (i := 17) (v := ?v36) rfl (by kernel_rfl) (by kernel_rfl) (by kernel_rfl) (by rfl) ?hv36 (by assumption) ?rest36
        case hv36 => first | (intro w hSw; (try dsimp only at hSw); go_simp; done) | (intro w hSw; (try dsimp only at hSw); go_simp; with_reducible rfl)
        (try simp only [Act.put, List.setIfInBounds_toArray, List.set_cons_zero, List.set_cons_succ])
        refine Reg.done (by kernel_rfl) ?_ _
        clear hHeld
        have hfl2 : flatter d (q0, q1, q2, q3) = false := by rw [← HFL.out]; rfl
        go_wp2
        have hXX := hX5
        refine Till.begin_ (T := [13]) (S := fun W => W.cell? ⟨b, 2, none⟩ = some (.int .i64 d.lv.1) ∧ W.cell? ⟨b, 3, none⟩ = some (.int .i64 d.lv.2) ∧ W.cell? ⟨y, 2, none⟩ = some (.int .i64 q2)) (by kernel_rfl) (by exact ⟨M5.head.cell 2, M5.head.cell 3, hXX.cell 2⟩) (fun hHeld => ?_)
        refine Till.take (i := 0) (v := ?v37) rfl (by kernel_rfl) (by kernel_rfl) (by kernel_rfl) (by kernel_rfl) (by rfl) ?hv37 (by assumption) ?rest37
        case hv37 => first | (intro w hSw; (try dsimp only at hSw); go_simp; done) | (intro w hSw; (try dsimp only at hSw); go_simp; with_reducible rfl)
        (try simp only [Act.put, List.setIfInBounds_toArray, List.set_cons_zero, List.set_cons_succ])
        refine Till.take (i := 1) (v := ?v38) rfl (by kernel_rfl) (by kernel_rfl) (by kernel_rfl) (by kernel_rfl) (by rfl) ?hv38 (by assumption) ?rest38
        case hv38 => first | (intro w hSw; (try dsimp only at hSw); go_simp; done) | (intro w hSw; (try dsimp only at hSw); go_simp; with_reducible rfl)
        (try simp only [Act.put, List.setIfInBounds_toArray, List.set_cons_zero, List.set_cons_succ])
        refine Till.take (i := 2) (v := ?v39) rfl (by kernel_rfl) (by kernel_rfl) (by kernel_rfl) (by kernel_rfl) (by rfl) ?hv39 (by assumption) ?rest39
        case hv39 => first | (intro w hSw; (try dsimp only at hSw); go_simp; done) | (intro w hSw; (try dsimp only at hSw); go_simp; with_reducible rfl)
        (try simp only [Act.put, List.setIfInBounds_toArray, List.set_cons_zero, List.set_cons_succ])
        refine Till.take (i := 3) (v := ?v40) rfl (by kernel_rfl) (by kernel_rfl) (by kernel_rfl) (by kernel_rfl) (by rfl) ?hv40 (by assumption) ?rest40
        case hv40 => first | (intro w hSw; (try dsimp only at hSw); go_simp; done) | (intro w hSw; (try dsimp only at hSw); go_simp; with_reducible rfl)
        (try simp only [Act.put, List.setIfInBounds_toArray, List.set_cons_zero, List.set_cons_succ])
        refine Till.take (i := 4) (v := ?v41) rfl (by kernel_rfl) (by kernel_rfl) (by kernel_rfl) (by kernel_rfl) (by rfl) ?hv41 (by assumption) ?rest41
        case hv41 => first | (intro w hSw; (try dsimp only at hSw); go_simp; done) | (intro w hSw; (try dsimp only at hSw); go_simp; with_reducible rfl)
        (try simp only [Act.put, List.setIfInBounds_toArray, List.set_cons_zero, List.set_cons_succ])
        refine Till.take (i := 5) (v := ?v42) rfl (by kernel_rfl) (by kernel_rfl) (by kernel_rfl) (by kernel_rfl) (by rfl) ?hv42 (by assumption) ?rest42
        case hv42 => first | (intro w hSw; (try dsimp only at hSw); go_simp; done) | (intro w hSw; (try dsimp only at hSw); go_simp; with_reducible rfl)
        (try simp only [Act.put, List.setIfInBounds_toArray, List.set_cons_zero, List.set_cons_succ])
        refine Till.take (i := 6) (v := ?v43) rfl (by kernel_rfl) (by kernel_rfl) (by kernel_rfl) (by kernel_rfl) (by rfl) ?hv43 (by assumption) ?rest43
        case hv43 => first | (intro w hSw; (try dsimp only at hSw); go_simp; done) | (intro w hSw; (try dsimp only at hSw); go_simp; with_reducible rfl)
        (try simp only [Act.put, List.setIfInBounds_toArray, List.set_cons_zero, List.set_cons_succ])
        refine Till.take (i := 7) (v := ?v44) rfl (by kernel_rfl) (by kernel_rfl) (by kernel_rfl) (by kernel_rfl) (by rfl) ?hv44 (by assumption) ?rest44
        case hv44 => first | (intro w hSw; (try dsimp only at hSw); go_simp; done) | (intro w hSw; (try dsimp only at hSw); go_simp; with_reducible rfl)
        (try simp only [Act.put, List.setIfInBounds_toArray, List.set_cons_zero, List.set_cons_succ])
        clear hHeld
        have Ma := M5.drew
        have hXa : Has W5.drew y 84 #[.int .i64 q0, .int .i64 q1, .int .i64 q2, .int .i64 q3] := hXX
        clear M5 hX5 hXX
        generalize W5.drew = Wa at *
        have Mb := Ma.alloc (.cells #[.int .i64 q2] 2)
        have hXb := hXa.alloc (.cells #[.int .i64 q2] 2)
        have hV : RI64.Vals (Wa.alloc (.cells #[.int .i64 q2] 2)) (some ⟨Wa.heap.size, 0, none⟩) 1 [q2] := RI64.Vals.has (ys := [q2]) (tl := []) (Has.new Wa _ _)
        have hcl := Level.signal_any (some ⟨Wa.heap.size, 0, none⟩) 1 1 [q2] d.lv.1 d.lv.2 _ hV (by omega)
        have hLb := signalT_bd d.lv [q2]
        rw [show Level.signalT (d.lv.1, d.lv.2) [q2] = Level.signalT d.lv [q2] from rfl] at hcl
        generalize hL : Level.signalT d.lv [q2] = L at hcl hLb
        obtain ⟨L1, L2⟩ := L
        unfold Level.lvV at hcl
        dsimp only at hcl hLb
        refine Till.call (i := 8) rfl (by kernel_rfl) (by rfl) ?_
        intro K hK
        go_simp
        refine hK.out _ _ (by exact ⟨Mb.head.cell 2, Mb.head.cell 3, hXb.cell 2⟩) (fun hHeld2 => ?_)
        clear hK K hHeld2
        (try simp only [Act.put, List.setIfInBounds_toArray, List.set_cons_zero, List.set_cons_succ])
        clear Ma hXa hV
        generalize Wa.alloc (.cells #[.int .i64 q2] 2) = Wb at *
        refine Till.call (i := 9) rfl (by kernel_rfl) (by rfl) ?_
        intro K hK
        go_simp
        go_at_call 66
        (refine Calls.mono (by exact hcl) ?_)
        rintro e Wc ⟨rfl, hBc⟩
        have Mc := Mb.below hBc
        have hXc := hXb.below hBc hXb.lt
        refine hK.out _ _ (by exact ⟨Mc.head.cell 2, Mc.head.cell 3, hXc.cell 2⟩) (fun hHeld2 => ?_)
        clear hK K hcl hBc Mb hXb
        (try simp only [Act.put, List.setIfInBounds_toArray, List.set_cons_zero, List.set_cons_succ])
        refine Till.take (i := 10) (v := ?v45) rfl (by kernel_rfl) (by kernel_rfl) (by kernel_rfl) (by kernel_rfl) (by rfl) ?hv45 (by assumption) ?rest45
        case hv45 => first | (intro w hSw; (try dsimp only at hSw); go_simp; done) | (intro w hSw; (try dsimp only at hSw); go_simp; with_reducible rfl)
        (try simp only [Act.put, List.setIfInBounds_toArray, List.set_cons_zero, List.set_cons_succ])
        refine Till.take (i := 11) (v := ?v46) rfl (by kernel_rfl) (by kernel_rfl) (by kernel_rfl) (by kernel_rfl) (by rfl) ?hv46 (by assumption) ?rest46
        case hv46 => first | (intro w hSw; (try dsimp only at hSw); go_simp; done) | (intro w hSw; (try dsimp only at hSw); go_simp; with_reducible rfl)
        (try simp only [Act.put, List.setIfInBounds_toArray, List.set_cons_zero, List.set_cons_succ])
        refine Till.take (i := 12) (v := ?v47) rfl (by kernel_rfl) (by kernel_rfl) (by kernel_rfl) (by kernel_rfl) (by rfl) ?hv47 (by assumption) ?rest47
        case hv47 => first | (intro w hSw; (try dsimp only at hSw); go_simp; done) | (intro w hSw; (try dsimp only at hSw); go_simp; with_reducible rfl)
        (try simp only [Act.put, List.setIfInBounds_toArray, List.set_cons_zero, List.set_cons_succ])
        clear hHeld2
        have c2 : Wc.cell? ⟨b, 2, none⟩ = some (.int .i64 d.lv.1) := Mc.head.cell 2
        have c3 : Wc.cell? ⟨b, 3, none⟩ = some (.int .i64 d.lv.2) := Mc.head.cell 3
        have g2 := Mc.head.frozen 2
        have g3 := Mc.head.frozen 3
        have hP := level_put Mc.head L1 L2
        have hX6 := hP.2.has hXc (by simp; exact hyb)
        have M6 : Mid w0 b f p Sp x { d with lv := (L1, L2) } ys _ := Mc.cells hP.2 hP.1 ⟨hf.n0, hf.st, hLb, hf.last, hf.cand, hf.ds⟩ rfl rfl rfl rfl
        refine Till.put (i := 13) rfl (by kernel_rfl) (by rfl) (by rfl) ?_
        intro K hK
        go_simp
        refine hK.out _ _ ?_
        clear hK K
        (try simp only [Act.put, List.setIfInBounds_toArray, List.set_cons_zero, List.set_cons_succ])
        refine Till.done (by kernel_rfl) ?_ _
        clear c2 c3 g2 g3 hP Mc hXc
        generalize (Wc.setCell ⟨b, 2, none⟩ (.int .i64 L1)).setCell ⟨b, 3, none⟩ (.int .i64 L2) = W6 at *
        have bt := beat_k (q0, q1, q2, q3) false M6 hq (by omega)
        unfold pkI at bt
        dsimp only at bt
        have x0 := hX6.cell 0
        have x1 := hX6.cell 1
        have x2 := hX6.cell 2
        have x3 := hX6.cell 3
        clear hX6 M6
        go_wp2_with (go_at_call 67; ((refine Calls.mono (by exact bt) ?_); rintro e W9 ⟨rfl, M9⟩))
        go_end0
        refine ⟨rfl, ?_⟩
        rw [show seenT d (q0, q1, q2, q3) = (some (tell d (q0, q1, q2, q3) false).1, (tell d (q0, q1, q2, q3) false).2) by
          unfold seenT
          rw [hr1, if_neg (by simp), if_pos hgt, hfl2, if_neg (by simp)]]
        have hT2 : (tell d (q0, q1, q2, q3) false).2 = beatT { d with lv := (L1, L2) } (q0, q1, q2, q3) := by rw [← hL]; rfl
        rw [hT2]
        exact M9
      | true =>
        refine Reg.take (i := 5) (v := ?v48) rfl (by kernel_rfl) (by kernel_rfl) (by kernel_rfl) (by rfl) ?hv48 (by assumption) ?rest48
        case hv48 => first | (intro w hSw; (try dsimp only at hSw); go_simp; done) | (intro w hSw; (try dsimp only at hSw); go_simp; with_reducible rfl)
        (try simp only [Act.put, List.setIfInBounds_toArray, List.set_cons_zero, List.set_cons_succ])
        refine Reg.take (i := 6) (v := ?v49) rfl (by kernel_rfl) (by kernel_rfl) (by kernel_rfl) (by rfl) ?hv49 (by assumption) ?rest49
        case hv49 => first | (intro w hSw; (try dsimp only at hSw); go_simp; done) | (intro w hSw; (try dsimp only at hSw); go_simp; with_reducible rfl)
        (try simp only [Act.put, List.setIfInBounds_toArray, List.set_cons_zero, List.set_cons_succ])
        refine Reg.take (i := 7) (v := ?v50) rfl (by kernel_rfl) (by kernel_rfl) (by kernel_rfl) (by rfl) ?hv50 (by assumption) ?rest50
        case hv50 => first | (intro w hSw; (try dsimp only at hSw); go_simp; done) | (intro w hSw; (try dsimp only at hSw); go_simp; with_reducible rfl)
        (try simp only [Act.put, List.setIfInBounds_toArray, List.set_cons_zero, List.set_cons_succ])
        refine Reg.take (i := 8) (v := ?v51) rfl (by kernel_rfl) (by kernel_rfl) (by kernel_rfl) (by rfl) ?hv51 (by assumption) ?rest51
        case hv51 => first | (intro w hSw; (try dsimp only at hSw); go_simp; done) | (intro w hSw; (try dsimp only at hSw); go_simp; with_reducible rfl)
        (try simp only [Act.put, List.setIfInBounds_toArray, List.set_cons_zero, List.set_cons_succ])
        refine Reg.take (i := 9) (v := ?v52) rfl (by kernel_rfl) (by kernel_rfl) (by kernel_rfl) (by rfl) ?hv52 (by assumption) ?rest52
        case hv52 => first | (intro w hSw; (try dsimp only at hSw); go_simp; done) | (intro w hSw; (try dsimp only at hSw); go_simp; with_reducible rfl)
        (try simp only [Act.put, List.setIfInBounds_toArray, List.set_cons_zero, List.set_cons_succ])
        refine Reg.take (i := 10) (v := ?v53) rfl (by kernel_rfl) (by kernel_rfl) (by kernel_rfl) (by rfl) ?hv53 (by assumption) ?rest53
        case hv53 => first | (intro w hSw; (try dsimp only at hSw); go_simp; done) | (intro w hSw; (try dsimp only at hSw); go_simp; with_reducible rfl)
        (try simp only [Act.put, List.setIfInBounds_toArray, List.set_cons_zero, List.set_cons_succ])
        refine Reg.take (i := 11) (v := ?v54) rfl (by kernel_rfl) (by kernel_rfl) (by kernel_rfl) (by rfl) ?hv54 (by assumption) ?rest54
        case hv54 => first | (intro w hSw; (try dsimp only at hSw); go_simp; done) | (intro w hSw; (try dsimp only at hSw); go_simp; with_reducible rfl)
        (try simp only [Act.put, List.setIfInBounds_toArray, List.set_cons_zero, List.set_cons_succ])
        refine Reg.take (i := 12) (v := ?v55) rfl (by kernel_rfl) (by kernel_rfl) (by kernel_rfl) (by rfl) ?hv55 (by assumption) ?rest55
        case hv55 => first | (intro w hSw; (try dsimp only at hSw); go_simp; done) | (intro w hSw; (try dsimp only at hSw); go_simp; with_reducible rfl)
        (try simp only [Act.put, List.setIfInBounds_toArray, List.set_cons_zero, List.set_cons_succ])
        refine Reg.take (i := 13) (v := ?v56) rfl (by kernel_rfl) (by kernel_rfl) (by kernel_rfl) (by rfl) ?hv56 (by assumption) ?rest56
        case hv56 => first | (intro w hSw; (try dsimp only at hSw); go_simp; done) | (intro w hSw; (try dsimp only at hSw); go_simp; with_reducible rfl)
        (try simp only [Act.put, List.setIfInBounds_toArray, List.set_cons_zero, List.set_cons_succ])
        refine Reg.take (i := 14) (v := ?v57) rfl (by kernel_rfl) (by kernel_rfl) (by kernel_rfl) (by rfl) ?hv57 (by assumption) ?rest57
        case hv57 => first | (intro w hSw; (try dsimp only at hSw); go_simp; done) | (intro w hSw; (try dsimp only at hSw); go_simp; with_reducible rfl)
        (try simp only [Act.put, List.setIfInBounds_toArray, List.set_cons_zero, List.set_cons_succ])
        refine Reg.take (i := 15) (v := ?v58) rfl (by kernel_rfl) (by kernel_rfl) (by kernel_rfl) (by rfl) ?hv58 (by assumption) ?rest58
        case hv58 => first | (intro w hSw; (try dsimp only at hSw); go_simp; done) | (intro w hSw; (try dsimp only at hSw); go_simp; with_reducible rfl)
        (try simp only [Act.put, List.setIfInBounds_toArray, List.set_cons_zero, List.set_cons_succ])
        refine Reg.take (i := 16) (v := ?v59) rfl (by kernel_rfl) (by kernel_rfl) (by kernel_rfl) (by rfl) ?hv59 (by assumption) ?rest59
        case hv59 => first | (intro w hSw; (try dsimp only at hSw); go_simp; done) | (intro w hSw; (try dsimp only at hSw); go_simp; with_reducible rfl)
        (try simp only [Act.put, List.setIfInBounds_toArray, List.set_cons_zero, List.set_cons_succ])
        refine Reg.take (i := 17) (v := ?v60) rfl (by kernel_rfl) (by kernel_rfl) (by kernel_rfl) (by rfl) ?hv60 (by assumption) ?rest60
        case hv60 => first | (intro w hSw; (try dsimp only at hSw); go_simp; done) | (intro w hSw; (try dsimp only at hSw); go_simp; with_reducible rfl)
        (try simp only [Act.put, List.setIfInBounds_toArray, List.set_cons_zero, List.set_cons_succ])
        refine Reg.done (by kernel_rfl) ?_ _
        clear hHeld
        by_cases h3 : 2 * q3 < l3
        · have hfl2 : flatter d (q0, q1, q2, q3) = true := by rw [← HFL.out]; simp [h3]
          go_wp2
          have hXX := hX5
          refine Till.begin_ (T := [13]) (S := fun W => W.cell? ⟨b, 2, none⟩ = some (.int .i64 d.lv.1) ∧ W.cell? ⟨b, 3, none⟩ = some (.int .i64 d.lv.2) ∧ W.cell? ⟨y, 2, none⟩ = some (.int .i64 q2)) (by kernel_rfl) (by exact ⟨M5.head.cell 2, M5.head.cell 3, hXX.cell 2⟩) (fun hHeld => ?_)
          refine Till.take (i := 0) (v := ?v61) rfl (by kernel_rfl) (by kernel_rfl) (by kernel_rfl) (by kernel_rfl) (by rfl) ?hv61 (by assumption) ?rest61
          case hv61 => first | (intro w hSw; (try dsimp only at hSw); go_simp; done) | (intro w hSw; (try dsimp only at hSw); go_simp; with_reducible rfl)
          (try simp only [Act.put, List.setIfInBounds_toArray, List.set_cons_zero, List.set_cons_succ])
          refine Till.take (i := 1) (v := ?v62) rfl (by kernel_rfl) (by kernel_rfl) (by kernel_rfl) (by kernel_rfl) (by rfl) ?hv62 (by assumption) ?rest62
          case hv62 => first | (intro w hSw; (try dsimp only at hSw); go_simp; done) | (intro w hSw; (try dsimp only at hSw); go_simp; with_reducible rfl)
          (try simp only [Act.put, List.setIfInBounds_toArray, List.set_cons_zero, List.set_cons_succ])
          refine Till.take (i := 2) (v := ?v63) rfl (by kernel_rfl) (by kernel_rfl) (by kernel_rfl) (by kernel_rfl) (by rfl) ?hv63 (by assumption) ?rest63
          case hv63 => first | (intro w hSw; (try dsimp only at hSw); go_simp; done) | (intro w hSw; (try dsimp only at hSw); go_simp; with_reducible rfl)
          (try simp only [Act.put, List.setIfInBounds_toArray, List.set_cons_zero, List.set_cons_succ])
          refine Till.take (i := 3) (v := ?v64) rfl (by kernel_rfl) (by kernel_rfl) (by kernel_rfl) (by kernel_rfl) (by rfl) ?hv64 (by assumption) ?rest64
          case hv64 => first | (intro w hSw; (try dsimp only at hSw); go_simp; done) | (intro w hSw; (try dsimp only at hSw); go_simp; with_reducible rfl)
          (try simp only [Act.put, List.setIfInBounds_toArray, List.set_cons_zero, List.set_cons_succ])
          refine Till.take (i := 4) (v := ?v65) rfl (by kernel_rfl) (by kernel_rfl) (by kernel_rfl) (by kernel_rfl) (by rfl) ?hv65 (by assumption) ?rest65
          case hv65 => first | (intro w hSw; (try dsimp only at hSw); go_simp; done) | (intro w hSw; (try dsimp only at hSw); go_simp; with_reducible rfl)
          (try simp only [Act.put, List.setIfInBounds_toArray, List.set_cons_zero, List.set_cons_succ])
          refine Till.take (i := 5) (v := ?v66) rfl (by kernel_rfl) (by kernel_rfl) (by kernel_rfl) (by kernel_rfl) (by rfl) ?hv66 (by assumption) ?rest66
          case hv66 => first | (intro w hSw; (try dsimp only at hSw); go_simp; done) | (intro w hSw; (try dsimp only at hSw); go_simp; with_reducible rfl)
          (try simp only [Act.put, List.setIfInBounds_toArray, List.set_cons_zero, List.set_cons_succ])
          refine Till.take (i := 6) (v := ?v67) rfl (by kernel_rfl) (by kernel_rfl) (by kernel_rfl) (by kernel_rfl) (by rfl) ?hv67 (by assumption) ?rest67
          case hv67 => first | (intro w hSw; (try dsimp only at hSw); go_simp; done) | (intro w hSw; (try dsimp only at hSw); go_simp; with_reducible rfl)
          (try simp only [Act.put, List.setIfInBounds_toArray, List.set_cons_zero, List.set_cons_succ])
          refine Till.take (i := 7) (v := ?v68) rfl (by kernel_rfl) (by kernel_rfl) (by kernel_rfl) (by kernel_rfl) (by rfl) ?hv68 (by assumption) ?rest68
          case hv68 => first | (intro w hSw; (try dsimp only at hSw); go_simp; done) | (intro w hSw; (try dsimp only at hSw); go_simp; with_reducible rfl)
          (try simp only [Act.put, List.setIfInBounds_toArray, List.set_cons_zero, List.set_cons_succ])
          clear hHeld
          have Ma := M5.drew
          have hXa : Has W5.drew y 84 #[.int .i64 q0, .int .i64 q1, .int .i64 q2, .int .i64 q3] := hXX
          clear M5 hX5 hXX
          generalize W5.drew = Wa at *
          have Mb := Ma.alloc (.cells #[.int .i64 q2] 2)
          have hXb := hXa.alloc (.cells #[.int .i64 q2] 2)
          have hV : RI64.Vals (Wa.alloc (.cells #[.int .i64 q2] 2)) (some ⟨Wa.heap.size, 0, none⟩) 1 [q2] := RI64.Vals.has (ys := [q2]) (tl := []) (Has.new Wa _ _)
          have hcl := Level.noise_any (some ⟨Wa.heap.size, 0, none⟩) 1 1 [q2] d.lv.1 d.lv.2 _ hV (by omega)
          have hLb := noiseT_bd d.lv [q2]
          rw [show Level.noiseT (d.lv.1, d.lv.2) [q2] = Level.noiseT d.lv [q2] from rfl] at hcl
          generalize hL : Level.noiseT d.lv [q2] = L at hcl hLb
          obtain ⟨L1, L2⟩ := L
          unfold Level.lvV at hcl
          dsimp only at hcl hLb
          refine Till.call (i := 8) rfl (by kernel_rfl) (by rfl) ?_
          intro K hK
          go_simp
          refine hK.out _ _ (by exact ⟨Mb.head.cell 2, Mb.head.cell 3, hXb.cell 2⟩) (fun hHeld2 => ?_)
          clear hK K hHeld2
          (try simp only [Act.put, List.setIfInBounds_toArray, List.set_cons_zero, List.set_cons_succ])
          clear Ma hXa hV
          generalize Wa.alloc (.cells #[.int .i64 q2] 2) = Wb at *
          refine Till.call (i := 9) rfl (by kernel_rfl) (by rfl) ?_
          intro K hK
          go_simp
          go_at_call 64
          (refine Calls.mono (by exact hcl) ?_)
          rintro e Wc ⟨rfl, hBc⟩
          have Mc := Mb.below hBc
          have hXc := hXb.below hBc hXb.lt
          refine hK.out _ _ (by exact ⟨Mc.head.cell 2, Mc.head.cell 3, hXc.cell 2⟩) (fun hHeld2 => ?_)
          clear hK K hcl hBc Mb hXb
          (try simp only [Act.put, List.setIfInBounds_toArray, List.set_cons_zero, List.set_cons_succ])
          refine Till.take (i := 10) (v := ?v69) rfl (by kernel_rfl) (by kernel_rfl) (by kernel_rfl) (by kernel_rfl) (by rfl) ?hv69 (by assumption) ?rest69
          case hv69 => first | (intro w hSw; (try dsimp only at hSw); go_simp; done) | (intro w hSw; (try dsimp only at hSw); go_simp; with_reducible rfl)
          (try simp only [Act.put, List.setIfInBounds_toArray, List.set_cons_zero, List.set_cons_succ])
          refine Till.take (i := 11) (v := ?v70) rfl (by kernel_rfl) (by kernel_rfl) (by kernel_rfl) (by kernel_rfl) (by rfl) ?hv70 (by assumption) ?rest70
          case hv70 => first | (intro w hSw; (try dsimp only at hSw); go_simp; done) | (intro w hSw; (try dsimp only at hSw); go_simp; with_reducible rfl)
          (try simp only [Act.put, List.setIfInBounds_toArray, List.set_cons_zero, List.set_cons_succ])
          refine Till.take (i := 12) (v := ?v71) rfl (by kernel_rfl) (by kernel_rfl) (by kernel_rfl) (by kernel_rfl) (by rfl) ?hv71 (by assumption) ?rest71
          case hv71 => first | (intro w hSw; (try dsimp only at hSw); go_simp; done) | (intro w hSw; (try dsimp only at hSw); go_simp; with_reducible rfl)
          (try simp only [Act.put, List.setIfInBounds_toArray, List.set_cons_zero, List.set_cons_succ])
          clear hHeld2
          have c2 : Wc.cell? ⟨b, 2, none⟩ = some (.int .i64 d.lv.1) := Mc.head.cell 2
          have c3 : Wc.cell? ⟨b, 3, none⟩ = some (.int .i64 d.lv.2) := Mc.head.cell 3
          have g2 := Mc.head.frozen 2
          have g3 := Mc.head.frozen 3
          have hP := level_put Mc.head L1 L2
          have hX6 := hP.2.has hXc (by simp; exact hyb)
          have M6 : Mid w0 b f p Sp x { d with lv := (L1, L2) } ys _ := Mc.cells hP.2 hP.1 ⟨hf.n0, hf.st, hLb, hf.last, hf.cand, hf.ds⟩ rfl rfl rfl rfl
          refine Till.put (i := 13) rfl (by kernel_rfl) (by rfl) (by rfl) ?_
          intro K hK
          go_simp
          refine hK.out _ _ ?_
          clear hK K
          (try simp only [Act.put, List.setIfInBounds_toArray, List.set_cons_zero, List.set_cons_succ])
          refine Till.done (by kernel_rfl) ?_ _
          clear c2 c3 g2 g3 hP Mc hXc
          generalize (Wc.setCell ⟨b, 2, none⟩ (.int .i64 L1)).setCell ⟨b, 3, none⟩ (.int .i64 L2) = W6 at *
          clear hX6
          go_wp2
          go_end0
          refine ⟨rfl, ?_⟩
          rw [show seenT d (q0, q1, q2, q3) = (none, { d with lv := (L1, L2) }) by
            unfold seenT
            rw [hr1, if_neg (by simp), if_pos hgt, hfl2, if_pos rfl, hL]]
          simpa using M6
        · have hfl2 : flatter d (q0, q1, q2, q3) = false := by rw [← HFL.out]; simp [h3]
          go_wp2
          have hXX := hX5
          refine Till.begin_ (T := [13]) (S := fun W => W.cell? ⟨b, 2, none⟩ = some (.int .i64 d.lv.1) ∧ W.cell? ⟨b, 3, none⟩ = some (.int .i64 d.lv.2) ∧ W.cell? ⟨y, 2, none⟩ = some (.int .i64 q2)) (by kernel_rfl) (by exact ⟨M5.head.cell 2, M5.head.cell 3, hXX.cell 2⟩) (fun hHeld => ?_)
          refine Till.take (i := 0) (v := ?v72) rfl (by kernel_rfl) (by kernel_rfl) (by kernel_rfl) (by kernel_rfl) (by rfl) ?hv72 (by assumption) ?rest72
          case hv72 => first | (intro w hSw; (try dsimp only at hSw); go_simp; done) | (intro w hSw; (try dsimp only at hSw); go_simp; with_reducible rfl)
          (try simp only [Act.put, List.setIfInBounds_toArray, List.set_cons_zero, List.set_cons_succ])
          refine Till.take (i := 1) (v := ?v73) rfl (by kernel_rfl) (by kernel_rfl) (by kernel_rfl) (by kernel_rfl) (by rfl) ?hv73 (by assumption) ?rest73
          case hv73 => first | (intro w hSw; (try dsimp only at hSw); go_simp; done) | (intro w hSw; (try dsimp only at hSw); go_simp; with_reducible rfl)
          (try simp only [Act.put, List.setIfInBounds_toArray, List.set_cons_zero, List.set_cons_succ])
          refine Till.take (i := 2) (v := ?v74) rfl (by kernel_rfl) (by kernel_rfl) (by kernel_rfl) (by kernel_rfl) (by rfl) ?hv74 (by assumption) ?rest74
          case hv74 => first | (intro w hSw; (try dsimp only at hSw); go_simp; done) | (intro w hSw; (try dsimp only at hSw); go_simp; with_reducible rfl)
          (try simp only [Act.put, List.setIfInBounds_toArray, List.set_cons_zero, List.set_cons_succ])
          refine Till.take (i := 3) (v := ?v75) rfl (by kernel_rfl) (by kernel_rfl) (by kernel_rfl) (by kernel_rfl) (by rfl) ?hv75 (by assumption) ?rest75
          case hv75 => first | (intro w hSw; (try dsimp only at hSw); go_simp; done) | (intro w hSw; (try dsimp only at hSw); go_simp; with_reducible rfl)
          (try simp only [Act.put, List.setIfInBounds_toArray, List.set_cons_zero, List.set_cons_succ])
          refine Till.take (i := 4) (v := ?v76) rfl (by kernel_rfl) (by kernel_rfl) (by kernel_rfl) (by kernel_rfl) (by rfl) ?hv76 (by assumption) ?rest76
          case hv76 => first | (intro w hSw; (try dsimp only at hSw); go_simp; done) | (intro w hSw; (try dsimp only at hSw); go_simp; with_reducible rfl)
          (try simp only [Act.put, List.setIfInBounds_toArray, List.set_cons_zero, List.set_cons_succ])
          refine Till.take (i := 5) (v := ?v77) rfl (by kernel_rfl) (by kernel_rfl) (by kernel_rfl) (by kernel_rfl) (by rfl) ?hv77 (by assumption) ?rest77
          case hv77 => first | (intro w hSw; (try dsimp only at hSw); go_simp; done) | (intro w hSw; (try dsimp only at hSw); go_simp; with_reducible rfl)
          (try simp only [Act.put, List.setIfInBounds_toArray, List.set_cons_zero, List.set_cons_succ])
          refine Till.take (i := 6) (v := ?v78) rfl (by kernel_rfl) (by kernel_rfl) (by kernel_rfl) (by kernel_rfl) (by rfl) ?hv78 (by assumption) ?rest78
          case hv78 => first | (intro w hSw; (try dsimp only at hSw); go_simp; done) | (intro w hSw; (try dsimp only at hSw); go_simp; with_reducible rfl)
          (try simp only [Act.put, List.setIfInBounds_toArray, List.set_cons_zero, List.set_cons_succ])
          refine Till.take (i := 7) (v := ?v79) rfl (by kernel_rfl) (by kernel_rfl) (by kernel_rfl) (by kernel_rfl) (by rfl) ?hv79 (by assumption) ?rest79
          case hv79 => first | (intro w hSw; (try dsimp only at hSw); go_simp; done) | (intro w hSw; (try dsimp only at hSw); go_simp; with_reducible rfl)
          (try simp only [Act.put, List.setIfInBounds_toArray, List.set_cons_zero, List.set_cons_succ])
          clear hHeld
          have Ma := M5.drew
          have hXa : Has W5.drew y 84 #[.int .i64 q0, .int .i64 q1, .int .i64 q2, .int .i64 q3] := hXX
          clear M5 hX5 hXX
          generalize W5.drew = Wa at *
          have Mb := Ma.alloc (.cells #[.int .i64 q2] 2)
          have hXb := hXa.alloc (.cells #[.int .i64 q2] 2)
          have hV : RI64.Vals (Wa.alloc (.cells #[.int .i64 q2] 2)) (some ⟨Wa.heap.size, 0, none⟩) 1 [q2] := RI64.Vals.has (ys := [q2]) (tl := []) (Has.new Wa _ _)
          have hcl := Level.signal_any (some ⟨Wa.heap.size, 0, none⟩) 1 1 [q2] d.lv.1 d.lv.2 _ hV (by omega)
          have hLb := signalT_bd d.lv [q2]
          rw [show Level.signalT (d.lv.1, d.lv.2) [q2] = Level.signalT d.lv [q2] from rfl] at hcl
          generalize hL : Level.signalT d.lv [q2] = L at hcl hLb
          obtain ⟨L1, L2⟩ := L
          unfold Level.lvV at hcl
          dsimp only at hcl hLb
          refine Till.call (i := 8) rfl (by kernel_rfl) (by rfl) ?_
          intro K hK
          go_simp
          refine hK.out _ _ (by exact ⟨Mb.head.cell 2, Mb.head.cell 3, hXb.cell 2⟩) (fun hHeld2 => ?_)
          clear hK K hHeld2
          (try simp only [Act.put, List.setIfInBounds_toArray, List.set_cons_zero, List.set_cons_succ])
          clear Ma hXa hV
          generalize Wa.alloc (.cells #[.int .i64 q2] 2) = Wb at *
          refine Till.call (i := 9) rfl (by kernel_rfl) (by rfl) ?_
          intro K hK
          go_simp
          go_at_call 66
          (refine Calls.mono (by exact hcl) ?_)
          rintro e Wc ⟨rfl, hBc⟩
          have Mc := Mb.below hBc
          have hXc := hXb.below hBc hXb.lt
          refine hK.out _ _ (by exact ⟨Mc.head.cell 2, Mc.head.cell 3, hXc.cell 2⟩) (fun hHeld2 => ?_)
          clear hK K hcl hBc Mb hXb
          (try simp only [Act.put, List.setIfInBounds_toArray, List.set_cons_zero, List.set_cons_succ])
          refine Till.take (i := 10) (v := ?v80) rfl (by kernel_rfl) (by kernel_rfl) (by kernel_rfl) (by kernel_rfl) (by rfl) ?hv80 (by assumption) ?rest80
          case hv80 => first | (intro w hSw; (try dsimp only at hSw); go_simp; done) | (intro w hSw; (try dsimp only at hSw); go_simp; with_reducible rfl)
          (try simp only [Act.put, List.setIfInBounds_toArray, List.set_cons_zero, List.set_cons_succ])
          refine Till.take (i := 11) (v := ?v81) rfl (by kernel_rfl) (by kernel_rfl) (by kernel_rfl) (by kernel_rfl) (by rfl) ?hv81 (by assumption) ?rest81
          case hv81 => first | (intro w hSw; (try dsimp only at hSw); go_simp; done) | (intro w hSw; (try dsimp only at hSw); go_simp; with_reducible rfl)
          (try simp only [Act.put, List.setIfInBounds_toArray, List.set_cons_zero, List.set_cons_succ])
          refine Till.take (i := 12) (v := ?v82) rfl (by kernel_rfl) (by kernel_rfl) (by kernel_rfl) (by kernel_rfl) (by rfl) ?hv82 (by assumption) ?rest82
          case hv82 => first | (intro w hSw; (try dsimp only at hSw); go_simp; done) | (intro w hSw; (try dsimp only at hSw); go_simp; with_reducible rfl)
          (try simp only [Act.put, List.setIfInBounds_toArray, List.set_cons_zero, List.set_cons_succ])
          clear hHeld2
          have c2 : Wc.cell? ⟨b, 2, none⟩ = some (.int .i64 d.lv.1) := Mc.head.cell 2
          have c3 : Wc.cell? ⟨b, 3, none⟩ = some (.int .i64 d.lv.2) := Mc.head.cell 3
          have g2 := Mc.head.frozen 2
          have g3 := Mc.head.frozen 3
          have hP := level_put Mc.head L1 L2
          have hX6 := hP.2.has hXc (by simp; exact hyb)
          have M6 : Mid w0 b f p Sp x { d with lv := (L1, L2) } ys _ := Mc.cells hP.2 hP.1 ⟨hf.n0, hf.st, hLb, hf.last, hf.cand, hf.ds⟩ rfl rfl rfl rfl
          refine Till.put (i := 13) rfl (by kernel_rfl) (by rfl) (by rfl) ?_
          intro K hK
          go_simp
          refine hK.out _ _ ?_
          clear hK K
          (try simp only [Act.put, List.setIfInBounds_toArray, List.set_cons_zero, List.set_cons_succ])
          refine Till.done (by kernel_rfl) ?_ _
          clear c2 c3 g2 g3 hP Mc hXc
          generalize (Wc.setCell ⟨b, 2, none⟩ (.int .i64 L1)).setCell ⟨b, 3, none⟩ (.int .i64 L2) = W6 at *
          have bt := beat_k (q0, q1, q2, q3) false M6 hq (by omega)
          unfold pkI at bt
          dsimp only at bt
          have x0 := hX6.cell 0
          have x1 := hX6.cell 1
          have x2 := hX6.cell 2
          have x3 := hX6.cell 3
          clear hX6 M6
          go_wp2_with (go_at_call 67; ((refine Calls.mono (by exact bt) ?_); rintro e W9 ⟨rfl, M9⟩))
          go_end0
          refine ⟨rfl, ?_⟩
          rw [show seenT d (q0, q1, q2, q3) = (some (tell d (q0, q1, q2, q3) false).1, (tell d (q0, q1, q2, q3) false).2) by
            unfold seenT
            rw [hr1, if_neg (by simp), if_pos hgt, hfl2, if_neg (by simp)]]
          have hT2 : (tell d (q0, q1, q2, q3) false).2 = beatT { d with lv := (L1, L2) } (q0, q1, q2, q3) := by rw [← hL]; rfl
          rw [hT2]
          exact M9
end Go.Proofs.Ytnoppoimahfknaa.Qrs
end
