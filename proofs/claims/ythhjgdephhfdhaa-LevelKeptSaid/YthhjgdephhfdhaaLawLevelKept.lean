/- Whatever level and top come in, LevelKept answers true, and writes nothing that was there. -/
import Derived.Test.YthhjgdephhfdhaaRows
import Derived.ShutString
import Derived.ChangeOld
import Derived.Below
import Derived.Test.YthhjgdephhfdhaaLawKit
import Derived.Test.YthhjgdephhfdhaaLevelLive
import Derived.Test.YthhjgdephhfdhaaRegionTill
import Derived.Deep.DeepCutAuto
import Derived.Test.YthhjgdephhfdhaaFlat
set_option linter.unusedSimpArgs false
set_option linter.unusedVariables false
namespace Go.Proofs.Ythhjgdephhfdhaa.levelKept
open Go.ChangeShapes Go.WideShapes Go.ChangeAt Go.RowKit
open Go.ChangeMaps (open_string shut_string)
open Level RI64
/-- Two levels of the call's own, behind the one that came in. -/
structure Two (w : World) (p q : Nat) (s0 n0 a b c d : Int) (W : World) : Prop where
  box : Has W w.heap.size 23 #[.int .i64 s0, .int .i64 n0]
  hp : Has W p 23 #[.int .i64 a, .int .i64 b]
  hq : Has W q 23 #[.int .i64 c, .int .i64 d]
  bp : w.heap.size < p
  bq : w.heap.size < q
  ne : p ≠ q
  below : Below w.heap.size w W
theorem Two.grow {w W W' : World} {p q : Nat} {s0 n0 a b c d : Int} (h : Two w p q s0 n0 a b c d W) (hB : Below W.heap.size W W') : Two w p q s0 n0 a b c d W' :=
  ⟨h.box.below hB h.box.lt, h.hp.below hB h.hp.lt, h.hq.below hB h.hq.lt, h.bp, h.bq, h.ne, h.below.trans (hB.mono h.below.size)⟩
theorem Two.drew {w W : World} {p q : Nat} {s0 n0 a b c d : Int} (h : Two w p q s0 n0 a b c d W) : Two w p q s0 n0 a b c d W.drew :=
  ⟨h.box, h.hp, h.hq, h.bp, h.bq, h.ne, below_drewN h.below 1⟩
theorem Two.putp {w W : World} {p q : Nat} {s0 n0 a b c d : Int} (h : Two w p q s0 n0 a b c d W) (x y : Int) : Two w p q s0 n0 x y c d ((W.setCell ⟨p, 0, none⟩ (.int .i64 x)).setCell ⟨p, 1, none⟩ (.int .i64 y)) :=
  ⟨h.box.far2 (by have := h.bp; omega) _ _, h.hp.put2 _ _, h.hq.far2 (Ne.symm h.ne) _ _, h.bp, h.bq, h.ne, below_put2 h.below (Nat.le_of_lt h.bp) _ _⟩
theorem Two.putq {w W : World} {p q : Nat} {s0 n0 a b c d : Int} (h : Two w p q s0 n0 a b c d W) (x y : Int) : Two w p q s0 n0 a b x y ((W.setCell ⟨q, 0, none⟩ (.int .i64 x)).setCell ⟨q, 1, none⟩ (.int .i64 y)) :=
  ⟨h.box.far2 (by have := h.bq; omega) _ _, h.hp.far2 h.ne _ _, h.hq.put2 _ _, h.bp, h.bq, h.ne, below_put2 h.below (Nat.le_of_lt h.bq) _ _⟩
theorem kept_k (a n t : Int) (w : World) (h : t ≤ a ∧ n = t ∨ a < t ∧ n ≤ t ∧ t - 8 < n) (hn : 0 ≤ n ∧ n ≤ 62914560) (ht : 0 ≤ t ∧ t ≤ 62914560) :
    Calls Try.prog 24 #[.int .i64 a, .int .i64 n, .int .i64 t] w fun e w' => e = .returned (.bool true) ∧ w = w' := by
  rcases h with ⟨h1, rfl⟩ | ⟨h1, h2, h3⟩
  all_goals
    go_enter Try.func24, Try.ntmps24
    go_wp2
    go_ret
    exact ⟨by simp [*], rfl⟩
set_option maxRecDepth 100000 in
set_option maxHeartbeats 8000000 in
theorem walk (z0 : Lv) (a1 : Int) (w : World) (w0 : AnyLv z0) (w1 : (Lit.int .u32 a1).wf = true) :
    Calls Try.prog 6 #[lvV z0, .int .u32 a1] w fun e w' => e = .returned (.bool true) ∧ Below w.heap.size w w' := by
  clear w0
  have b1 : 0 ≤ a1 ∧ a1 ≤ 4294967295 := bounds_u32 w1
  clear w1
  obtain ⟨a, b⟩ := z0
  rw [show lvV (a, b) = .agg #[.int .i64 a, .int .i64 b] from rfl]
  obtain ⟨t, ht⟩ : ∃ t, (if (62914560 : Int) < a1 then (62914560 : Int) else a1) = t := ⟨_, rfl⟩
  have htb : 0 ≤ t ∧ t ≤ 62914560 := by rw [← ht]; split <;> omega
  have hno := fun W => noise_any none 0 0 [] a b W (Vals.none_ W) (by omega)
  have hsi := fun W => signal_any none 0 0 [] (nearB a) (nearB b) W (Vals.none_ W) (by omega)
  rw [show lvV (noiseT (a, b) []) = .agg #[.int .i64 (nearB a), .int .i64 (nearB b)] from rfl] at hno
  rw [show lvV (signalT (nearB a, nearB b) []) = .agg #[.int .i64 (nearB (nearB a)), .int .i64 (nearB (nearB b))] from rfl, nearB_two, nearB_two] at hsi
  have ha := nearB_bd a
  have hb := nearB_bd b
  generalize nearB a = s0 at *
  generalize nearB b = n0 at *
  have hB0 := (Below.refl w.heap.size w).alloc (Nat.le_refl _) (.cells #[.int .i64 a, .int .i64 b] 23)
  have hH0 := Has.new w 23 #[.int .i64 a, .int .i64 b]
  have c0 := hH0.cell 0
  have c1 := hH0.cell 1
  go_enter Try.func6, Try.ntmps6
  go_wp2_with (first
    | (go_at_call 12; (go_must (refine Calls.mono (by exact hno _) ?_); rintro e W1 ⟨rfl, hBx⟩; have hB1 := hB0.trans (hBx.mono hB0.size); have hH1 := hH0.below hBx hH0.lt))
    | (go_at_call 10; (go_must (refine Calls.mono (by exact hsi _) ?_); rintro e W2 ⟨rfl, hBy⟩; have hB2 := hB1.trans (hBy.mono hB1.size); have hH2 := hH1.below hBy hH1.lt; have hH3 := Has.put2 hH2 (.int .i64 s0) (.int .i64 n0); have hB3 := below_put2 hB2 (Nat.le_refl _) (.int .i64 s0) (.int .i64 n0); have d0 := hH2.cell 0; have d1 := hH2.cell 1; have f0 := hH2.frozen 0; have f1 := hH2.frozen 1; have e0 := hH3.cell 0; have e1 := hH3.cell 1)))
  clear hBx hBy hB0 hH0 hB1 hH1 hB2 hH2 c0 c1 d0 d1 f0 f1 e0 e1 hno hsi
  generalize (W2.setCell ⟨w.heap.size, 0, none⟩ (.int .i64 s0)).setCell ⟨w.heap.size, 1, none⟩ (.int .i64 n0) = W3 at *
  go_cut [6, 7] (fun u v wx => ∃ p q : Nat, u = .pointer (some ⟨p, 0, none⟩) ∧ v = .pointer (some ⟨q, 0, none⟩) ∧ Two w p q s0 n0 s0 n0 s0 n0 wx)
  case first =>
    have hHd := hH3.drew
    have hBd : Below w.heap.size w W3.drew := below_drewN hB3 1
    refine Reg.begin_ (S := fun W => W.cell? ⟨w.heap.size, 0, none⟩ = some (.int .i64 s0) ∧ W.cell? ⟨w.heap.size, 1, none⟩ = some (.int .i64 n0)) (by kernel_rfl) (by exact ⟨hHd.cell 0, hHd.cell 1⟩) (fun hHeld => ?_)
    refine Reg.take (i := 0) (v := ?v1) rfl (by kernel_rfl) (by kernel_rfl) (by kernel_rfl) (by rfl) ?hv1 (by assumption) ?rest1
    case hv1 => first | (intro w hSw; (try dsimp only at hSw); go_simp; done) | (intro w hSw; (try dsimp only at hSw); go_simp; with_reducible rfl)
    (try simp only [Act.put, List.setIfInBounds_toArray, List.set_cons_zero, List.set_cons_succ])
    refine Reg.take (i := 1) (v := ?v2) rfl (by kernel_rfl) (by kernel_rfl) (by kernel_rfl) (by rfl) ?hv2 (by assumption) ?rest2
    case hv2 => first | (intro w hSw; (try dsimp only at hSw); go_simp; done) | (intro w hSw; (try dsimp only at hSw); go_simp; with_reducible rfl)
    (try simp only [Act.put, List.setIfInBounds_toArray, List.set_cons_zero, List.set_cons_succ])
    clear hHeld hH3 hB3
    generalize W3.drew = W4 at *
    have hH4 := hHd.alloc (.cells #[.int .i64 0, .int .i64 0] 23)
    have hB4 := hBd.alloc hBd.size (.cells #[.int .i64 0, .int .i64 0] 23)
    have hP4 := Has.new W4 23 #[.int .i64 0, .int .i64 0]
    have hsz : (W4.alloc (.cells #[.int .i64 0, .int .i64 0] 23)).heap.size = W4.heap.size + 1 := by simp
    have hH5 := hH4.alloc (.cells #[.int .i64 0, .int .i64 0] 23)
    have hB5 := hB4.alloc hB4.size (.cells #[.int .i64 0, .int .i64 0] 23)
    have hP5 := hP4.alloc (.cells #[.int .i64 0, .int .i64 0] 23)
    have hQ5 := Has.new (W4.alloc (.cells #[.int .i64 0, .int .i64 0] 23)) 23 #[.int .i64 0, .int .i64 0]
    rw [hsz] at hQ5
    have hlt := hHd.lt
    refine Reg.both (i := 2) (j := 3) rfl rfl (by kernel_rfl) (by rfl) (by rfl) ?_ ?_
    · intro K hK
      go_simp
      refine hK.out _ _ (by exact ⟨hH4.cell 0, hH4.cell 1⟩) (fun hHeld => ?_)
      clear hK K
      (try simp only [Act.put, List.setIfInBounds_toArray, List.set_cons_zero, List.set_cons_succ])
      refine Reg.call (i := 3) rfl (by kernel_rfl) (by rfl) ?_
      intro K hK
      go_simp
      refine hK.out _ _ (by exact ⟨hH5.cell 0, hH5.cell 1⟩) (fun hHeld => ?_)
      clear hK K
      (try simp only [Act.put, List.setIfInBounds_toArray, List.set_cons_zero, List.set_cons_succ])
      have hT : Two w W4.heap.size (W4.heap.size + 1) s0 n0 0 0 0 0 _ := ⟨hH5, hP5, hQ5, by omega, by omega, by omega, hB5⟩
      clear hHeld hHd hBd hH4 hB4 hP4 hH5 hB5 hP5 hQ5 hsz
      generalize (W4.alloc (.cells #[.int .i64 0, .int .i64 0] 23)).alloc (.cells #[.int .i64 0, .int .i64 0] 23) = W5 at *
      generalize W4.heap.size = g at *
      have p0 := hT.hp.cell 0
      have p1 := hT.hp.cell 1
      have p2 := hT.hp.frozen 0
      have p3 := hT.hp.frozen 1
      have hT2 := hT.putp s0 n0
      have q0 := hT2.hq.cell 0
      have q1 := hT2.hq.cell 1
      have q2 := hT2.hq.frozen 0
      have q3 := hT2.hq.frozen 1
      have hT3 := hT2.putq s0 n0
      refine Reg.call (i := 4) rfl (by kernel_rfl) (by rfl) ?_
      intro K hK
      go_simp
      refine hK.out _ _ (by exact ⟨hT2.box.cell 0, hT2.box.cell 1⟩) (fun hHeld => ?_)
      clear hK K
      (try simp only [Act.put, List.setIfInBounds_toArray, List.set_cons_zero, List.set_cons_succ])
      refine Reg.call (i := 5) rfl (by kernel_rfl) (by rfl) ?_
      intro K hK
      go_simp
      refine hK.out _ _ (by exact ⟨hT3.box.cell 0, hT3.box.cell 1⟩) (fun hHeld => ?_)
      clear hK K
      (try simp only [Act.put, List.setIfInBounds_toArray, List.set_cons_zero, List.set_cons_succ])
      refine Reg.done (by kernel_rfl) ?_ _
      clear p0 p1 p2 p3 q0 q1 q2 q3
      go_wp2_with fail
      go_meet
      case rel => exact ⟨_, _, rfl, rfl, hT3⟩
    · intro K hK
      go_simp
      refine hK.out _ _ (by exact ⟨hH4.cell 0, hH4.cell 1⟩) (fun hHeld => ?_)
      clear hK K
      (try simp only [Act.put, List.setIfInBounds_toArray, List.set_cons_zero, List.set_cons_succ])
      refine Reg.call (i := 2) rfl (by kernel_rfl) (by rfl) ?_
      intro K hK
      go_simp
      refine hK.out _ _ (by exact ⟨hH5.cell 0, hH5.cell 1⟩) (fun hHeld => ?_)
      clear hK K
      (try simp only [Act.put, List.setIfInBounds_toArray, List.set_cons_zero, List.set_cons_succ])
      have hT : Two w (W4.heap.size + 1) W4.heap.size s0 n0 0 0 0 0 _ := ⟨hH5, hQ5, hP5, by omega, by omega, by omega, hB5⟩
      clear hHeld hHd hBd hH4 hB4 hP4 hH5 hB5 hP5 hQ5 hsz
      generalize (W4.alloc (.cells #[.int .i64 0, .int .i64 0] 23)).alloc (.cells #[.int .i64 0, .int .i64 0] 23) = W5 at *
      generalize W4.heap.size = g at *
      have p0 := hT.hp.cell 0
      have p1 := hT.hp.cell 1
      have p2 := hT.hp.frozen 0
      have p3 := hT.hp.frozen 1
      have hT2 := hT.putp s0 n0
      have q0 := hT2.hq.cell 0
      have q1 := hT2.hq.cell 1
      have q2 := hT2.hq.frozen 0
      have q3 := hT2.hq.frozen 1
      have hT3 := hT2.putq s0 n0
      refine Reg.call (i := 4) rfl (by kernel_rfl) (by rfl) ?_
      intro K hK
      go_simp
      refine hK.out _ _ (by exact ⟨hT2.box.cell 0, hT2.box.cell 1⟩) (fun hHeld => ?_)
      clear hK K
      (try simp only [Act.put, List.setIfInBounds_toArray, List.set_cons_zero, List.set_cons_succ])
      refine Reg.call (i := 5) rfl (by kernel_rfl) (by rfl) ?_
      intro K hK
      go_simp
      refine hK.out _ _ (by exact ⟨hT3.box.cell 0, hT3.box.cell 1⟩) (fun hHeld => ?_)
      clear hK K
      (try simp only [Act.put, List.setIfInBounds_toArray, List.set_cons_zero, List.set_cons_succ])
      refine Reg.done (by kernel_rfl) ?_ _
      clear p0 p1 p2 p3 q0 q1 q2 q3
      go_wp2_with fail
      go_meet
      case rel => exact ⟨_, _, rfl, rfl, hT3⟩
  case rest =>
    clear hH3 hB3
    obtain ⟨p, q, rfl, rfl, hT⟩ := hcut
    go_wp2
    go_loopw [16] (fun i wr => ∃ j : Nat, j ≤ 250 ∧ i = .int .i64 (j : Nat) ∧ Two w p q s0 n0 (goN s0 t j) n0 s0 (goN n0 t j) wr) (fun i _ => 250 - (intOf i).toNat)
    case atStart => exact ⟨0, by omega, rfl, hT⟩
    case round =>
      clear hT
      obtain ⟨j, hj, rfl, hT⟩ := hrel
      by_cases hjn : j < 250
      · have hsg := fun A W hV => signal_any A 1 1 [t] (goN s0 t j) n0 W hV (by omega)
        have hns := fun A W hV => noise_any A 1 1 [t] s0 (goN n0 t j) W hV (by omega)
        rw [show signalT (goN s0 t j, n0) [t] = (goN s0 t (j + 1), n0) by unfold signalT; rw [follow_one, nearB_in (goN s0 t j) (goN_bd s0 t ha htb j), nearB_in t htb, nearB_in n0 hb]; rfl] at hsg
        rw [show noiseT (s0, goN n0 t j) [t] = (s0, goN n0 t (j + 1)) by unfold noiseT; rw [follow_one, nearB_in (goN n0 t j) (goN_bd n0 t hb htb j), nearB_in t htb, nearB_in s0 ha]; rfl] at hns
        unfold lvV at hsg hns
        obtain ⟨s', hs'⟩ : ∃ s', goN s0 t (j + 1) = s' := ⟨_, rfl⟩
        obtain ⟨n', hn'⟩ : ∃ n', goN n0 t (j + 1) = n' := ⟨_, rfl⟩
        rw [hs'] at hsg
        rw [hn'] at hns
        generalize goN s0 t j = s at *
        generalize goN n0 t j = n at *
        go_wp2
        replace hT := hT.drew
        refine Till.begin_ (T := [8, 9]) (S := fun W => W.cell? ⟨p, 0, none⟩ = some (.int .i64 s) ∧ W.cell? ⟨p, 1, none⟩ = some (.int .i64 n0) ∧ W.cell? ⟨q, 0, none⟩ = some (.int .i64 s0) ∧ W.cell? ⟨q, 1, none⟩ = some (.int .i64 n)) (by kernel_rfl) (by exact ⟨hT.hp.cell 0, hT.hp.cell 1, hT.hq.cell 0, hT.hq.cell 1⟩) (fun hHeld => ?_)
        refine Till.take (i := 0) (v := ?v3) rfl (by kernel_rfl) (by kernel_rfl) (by kernel_rfl) (by kernel_rfl) (by rfl) ?hv3 (by assumption) ?rest3
        case hv3 => first | (intro w hSw; (try dsimp only at hSw); go_simp; done) | (intro w hSw; (try dsimp only at hSw); go_simp; with_reducible rfl)
        (try simp only [Act.put, List.setIfInBounds_toArray, List.set_cons_zero, List.set_cons_succ])
        refine Till.take (i := 1) (v := ?v4) rfl (by kernel_rfl) (by kernel_rfl) (by kernel_rfl) (by kernel_rfl) (by rfl) ?hv4 (by assumption) ?rest4
        case hv4 => first | (intro w hSw; (try dsimp only at hSw); go_simp; done) | (intro w hSw; (try dsimp only at hSw); go_simp; with_reducible rfl)
        (try simp only [Act.put, List.setIfInBounds_toArray, List.set_cons_zero, List.set_cons_succ])
        refine Till.take (i := 4) (v := ?v5) rfl (by kernel_rfl) (by kernel_rfl) (by kernel_rfl) (by kernel_rfl) (by rfl) ?hv5 (by assumption) ?rest5
        case hv5 => first | (intro w hSw; (try dsimp only at hSw); go_simp; done) | (intro w hSw; (try dsimp only at hSw); go_simp; with_reducible rfl)
        (try simp only [Act.put, List.setIfInBounds_toArray, List.set_cons_zero, List.set_cons_succ])
        refine Till.take (i := 5) (v := ?v6) rfl (by kernel_rfl) (by kernel_rfl) (by kernel_rfl) (by kernel_rfl) (by rfl) ?hv6 (by assumption) ?rest6
        case hv6 => first | (intro w hSw; (try dsimp only at hSw); go_simp; done) | (intro w hSw; (try dsimp only at hSw); go_simp; with_reducible rfl)
        (try simp only [Act.put, List.setIfInBounds_toArray, List.set_cons_zero, List.set_cons_succ])
        clear hHeld
        generalize wr.drew = WA at *
        refine Till.both (i := 2) (j := 6) rfl rfl (by kernel_rfl) (by rfl) (by rfl) ?_ ?_
        · intro K hK
          go_simp
          have V2 : Vals (WA.alloc (.cells #[.int .i64 t] 2)) (some ⟨WA.heap.size, 0, none⟩) 1 [t] := Vals.has (ys := [t]) (tl := []) (Has.new WA _ _)
          have hT1 := hT.grow ((Below.refl _ WA).alloc (Nat.le_refl _) (.cells #[.int .i64 t] 2))
          refine hK.out _ _ (by exact ⟨hT1.hp.cell 0, hT1.hp.cell 1, hT1.hq.cell 0, hT1.hq.cell 1⟩) (fun hHeld => ?_)
          clear hK K
          (try simp only [Act.put, List.setIfInBounds_toArray, List.set_cons_zero, List.set_cons_succ])
          refine Till.both (i := 3) (j := 6) rfl rfl (by kernel_rfl) (by rfl) (by rfl) ?_ ?_
          · intro K hK
            go_simp
            go_at_call 10
            refine Calls.mono (by exact hsg _ _ V2) ?_
            rintro e WC ⟨rfl, hBx⟩
            have hT2 := hT1.grow hBx
            refine hK.out _ _ (by exact ⟨hT2.hp.cell 0, hT2.hp.cell 1, hT2.hq.cell 0, hT2.hq.cell 1⟩) (fun hHeld => ?_)
            clear hK K
            (try simp only [Act.put, List.setIfInBounds_toArray, List.set_cons_zero, List.set_cons_succ])
            refine Till.call (i := 6) rfl (by kernel_rfl) (by rfl) ?_
            intro K hK
            go_simp
            have V6 : Vals (WC.alloc (.cells #[.int .i64 t] 2)) (some ⟨WC.heap.size, 0, none⟩) 1 [t] := Vals.has (ys := [t]) (tl := []) (Has.new WC _ _)
            have hT3 := hT2.grow ((Below.refl _ WC).alloc (Nat.le_refl _) (.cells #[.int .i64 t] 2))
            refine hK.out _ _ (by exact ⟨hT3.hp.cell 0, hT3.hp.cell 1, hT3.hq.cell 0, hT3.hq.cell 1⟩) (fun hHeld => ?_)
            clear hK K
            (try simp only [Act.put, List.setIfInBounds_toArray, List.set_cons_zero, List.set_cons_succ])
            refine Till.call (i := 7) rfl (by kernel_rfl) (by rfl) ?_
            intro K hK
            go_simp
            go_at_call 12
            refine Calls.mono (by exact hns _ _ V6) ?_
            rintro e WE ⟨rfl, hBx⟩
            have hT4 := hT3.grow hBx
            refine hK.out _ _ (by exact ⟨hT4.hp.cell 0, hT4.hp.cell 1, hT4.hq.cell 0, hT4.hq.cell 1⟩) (fun hHeld => ?_)
            clear hK K
            (try simp only [Act.put, List.setIfInBounds_toArray, List.set_cons_zero, List.set_cons_succ])
            have p0 := hT4.hp.cell 0
            have p1 := hT4.hp.cell 1
            have p2 := hT4.hp.frozen 0
            have p3 := hT4.hp.frozen 1
            have hT8 := hT4.putp s' n0
            have q0 := hT8.hq.cell 0
            have q1 := hT8.hq.cell 1
            have q2 := hT8.hq.frozen 0
            have q3 := hT8.hq.frozen 1
            have hT9 := hT8.putq s0 n'
            refine Till.put (i := 8) rfl (by kernel_rfl) (by rfl) (by rfl) ?_
            intro K hK
            go_simp
            refine hK.out _ _ ?_
            clear hK K
            refine Till.put (i := 9) rfl (by kernel_rfl) (by rfl) (by rfl) ?_
            intro K hK
            go_simp
            refine hK.out _ _ ?_
            clear hK K
            (try simp only [Act.put, List.setIfInBounds_toArray, List.set_cons_zero, List.set_cons_succ])
            refine Till.done (by kernel_rfl) ?_ _
            clear p0 p1 p2 p3 q0 q1 q2 q3
            go_wp2
            go_roundw
            case rel => exact ⟨j + 1, by omega, by go_num, by rw [hs', hn']; exact hT9⟩
            case measure => simp [intOf]; omega
          · intro K hK
            have V2' := V2.alloc (.cells #[.int .i64 t] 2)
            go_simp
            have V6 : Vals ((WA.alloc (.cells #[.int .i64 t] 2)).alloc (.cells #[.int .i64 t] 2)) (some ⟨(WA.alloc (.cells #[.int .i64 t] 2)).heap.size, 0, none⟩) 1 [t] := Vals.has (ys := [t]) (tl := []) (Has.new (WA.alloc (.cells #[.int .i64 t] 2)) _ _)
            have hT2 := hT1.grow ((Below.refl _ (WA.alloc (.cells #[.int .i64 t] 2))).alloc (Nat.le_refl _) (.cells #[.int .i64 t] 2))
            refine hK.out _ _ (by exact ⟨hT2.hp.cell 0, hT2.hp.cell 1, hT2.hq.cell 0, hT2.hq.cell 1⟩) (fun hHeld => ?_)
            clear hK K
            (try simp only [Act.put, List.setIfInBounds_toArray, List.set_cons_zero, List.set_cons_succ])
            rw [show (WA.alloc (.cells #[.int .i64 t] 2)).heap.size = WA.heap.size + 1 by simp] at V6
            refine Till.call (i := 3) rfl (by kernel_rfl) (by rfl) ?_
            intro K hK
            go_simp
            go_at_call 10
            refine Calls.mono (by exact hsg _ _ V2') ?_
            rintro e WD ⟨rfl, hBx⟩
            have hT3 := hT2.grow hBx
            refine hK.out _ _ (by exact ⟨hT3.hp.cell 0, hT3.hp.cell 1, hT3.hq.cell 0, hT3.hq.cell 1⟩) (fun hHeld => ?_)
            clear hK K
            (try simp only [Act.put, List.setIfInBounds_toArray, List.set_cons_zero, List.set_cons_succ])
            replace V6 := V6.below hBx
            refine Till.call (i := 7) rfl (by kernel_rfl) (by rfl) ?_
            intro K hK
            go_simp
            go_at_call 12
            refine Calls.mono (by exact hns _ _ V6) ?_
            rintro e WE ⟨rfl, hBx⟩
            have hT4 := hT3.grow hBx
            refine hK.out _ _ (by exact ⟨hT4.hp.cell 0, hT4.hp.cell 1, hT4.hq.cell 0, hT4.hq.cell 1⟩) (fun hHeld => ?_)
            clear hK K
            (try simp only [Act.put, List.setIfInBounds_toArray, List.set_cons_zero, List.set_cons_succ])
            have p0 := hT4.hp.cell 0
            have p1 := hT4.hp.cell 1
            have p2 := hT4.hp.frozen 0
            have p3 := hT4.hp.frozen 1
            have hT8 := hT4.putp s' n0
            have q0 := hT8.hq.cell 0
            have q1 := hT8.hq.cell 1
            have q2 := hT8.hq.frozen 0
            have q3 := hT8.hq.frozen 1
            have hT9 := hT8.putq s0 n'
            refine Till.put (i := 8) rfl (by kernel_rfl) (by rfl) (by rfl) ?_
            intro K hK
            go_simp
            refine hK.out _ _ ?_
            clear hK K
            refine Till.put (i := 9) rfl (by kernel_rfl) (by rfl) (by rfl) ?_
            intro K hK
            go_simp
            refine hK.out _ _ ?_
            clear hK K
            (try simp only [Act.put, List.setIfInBounds_toArray, List.set_cons_zero, List.set_cons_succ])
            refine Till.done (by kernel_rfl) ?_ _
            clear p0 p1 p2 p3 q0 q1 q2 q3
            go_wp2
            go_roundw
            case rel => exact ⟨j + 1, by omega, by go_num, by rw [hs', hn']; exact hT9⟩
            case measure => simp [intOf]; omega
        · intro K hK
          go_simp
          have V6 : Vals (WA.alloc (.cells #[.int .i64 t] 2)) (some ⟨WA.heap.size, 0, none⟩) 1 [t] := Vals.has (ys := [t]) (tl := []) (Has.new WA _ _)
          have hT1 := hT.grow ((Below.refl _ WA).alloc (Nat.le_refl _) (.cells #[.int .i64 t] 2))
          refine hK.out _ _ (by exact ⟨hT1.hp.cell 0, hT1.hp.cell 1, hT1.hq.cell 0, hT1.hq.cell 1⟩) (fun hHeld => ?_)
          clear hK K
          (try simp only [Act.put, List.setIfInBounds_toArray, List.set_cons_zero, List.set_cons_succ])
          refine Till.call (i := 2) rfl (by kernel_rfl) (by rfl) ?_
          intro K hK
          have V6' := V6.alloc (.cells #[.int .i64 t] 2)
          go_simp
          have V2 : Vals ((WA.alloc (.cells #[.int .i64 t] 2)).alloc (.cells #[.int .i64 t] 2)) (some ⟨(WA.alloc (.cells #[.int .i64 t] 2)).heap.size, 0, none⟩) 1 [t] := Vals.has (ys := [t]) (tl := []) (Has.new (WA.alloc (.cells #[.int .i64 t] 2)) _ _)
          have hT2 := hT1.grow ((Below.refl _ (WA.alloc (.cells #[.int .i64 t] 2))).alloc (Nat.le_refl _) (.cells #[.int .i64 t] 2))
          refine hK.out _ _ (by exact ⟨hT2.hp.cell 0, hT2.hp.cell 1, hT2.hq.cell 0, hT2.hq.cell 1⟩) (fun hHeld => ?_)
          clear hK K
          (try simp only [Act.put, List.setIfInBounds_toArray, List.set_cons_zero, List.set_cons_succ])
          rw [show (WA.alloc (.cells #[.int .i64 t] 2)).heap.size = WA.heap.size + 1 by simp] at V2
          refine Till.call (i := 3) rfl (by kernel_rfl) (by rfl) ?_
          intro K hK
          go_simp
          go_at_call 10
          refine Calls.mono (by exact hsg _ _ V2) ?_
          rintro e WD ⟨rfl, hBx⟩
          have hT3 := hT2.grow hBx
          refine hK.out _ _ (by exact ⟨hT3.hp.cell 0, hT3.hp.cell 1, hT3.hq.cell 0, hT3.hq.cell 1⟩) (fun hHeld => ?_)
          clear hK K
          (try simp only [Act.put, List.setIfInBounds_toArray, List.set_cons_zero, List.set_cons_succ])
          replace V6' := V6'.below hBx
          refine Till.call (i := 7) rfl (by kernel_rfl) (by rfl) ?_
          intro K hK
          go_simp
          go_at_call 12
          refine Calls.mono (by exact hns _ _ V6') ?_
          rintro e WE ⟨rfl, hBx⟩
          have hT4 := hT3.grow hBx
          refine hK.out _ _ (by exact ⟨hT4.hp.cell 0, hT4.hp.cell 1, hT4.hq.cell 0, hT4.hq.cell 1⟩) (fun hHeld => ?_)
          clear hK K
          (try simp only [Act.put, List.setIfInBounds_toArray, List.set_cons_zero, List.set_cons_succ])
          have p0 := hT4.hp.cell 0
          have p1 := hT4.hp.cell 1
          have p2 := hT4.hp.frozen 0
          have p3 := hT4.hp.frozen 1
          have hT8 := hT4.putp s' n0
          have q0 := hT8.hq.cell 0
          have q1 := hT8.hq.cell 1
          have q2 := hT8.hq.frozen 0
          have q3 := hT8.hq.frozen 1
          have hT9 := hT8.putq s0 n'
          refine Till.put (i := 8) rfl (by kernel_rfl) (by rfl) (by rfl) ?_
          intro K hK
          go_simp
          refine hK.out _ _ ?_
          clear hK K
          refine Till.put (i := 9) rfl (by kernel_rfl) (by rfl) (by rfl) ?_
          intro K hK
          go_simp
          refine hK.out _ _ ?_
          clear hK K
          (try simp only [Act.put, List.setIfInBounds_toArray, List.set_cons_zero, List.set_cons_succ])
          refine Till.done (by kernel_rfl) ?_ _
          clear p0 p1 p2 p3 q0 q1 q2 q3
          go_wp2
          go_roundw
          case rel => exact ⟨j + 1, by omega, by go_num, by rw [hs', hn']; exact hT9⟩
          case measure => simp [intOf]; omega
      · have hjj : j = 250 := by omega
        have hjz : ¬ (j : Int) < 250 := by omega
        rw [hjj] at hT
        clear hjj hjn hj
        have hks : ∀ (s : Int), (0 ≤ s ∧ s ≤ 62914560) → (t ≤ s ∧ goN s t 250 = t ∨ s < t ∧ goN s t 250 ≤ t ∧ t - 8 < goN s t 250) := fun s hs => by
          by_cases h : t ≤ s
          · exact .inl ⟨h, goN_above s t h (by omega)⟩
          · exact .inr ⟨by omega, goN_below s t (by omega) (by omega)⟩
        have hk1 := fun W => kept_k s0 (goN s0 t 250) t W (hks s0 ha) (goN_bd s0 t ha htb 250) htb
        have hk2 := fun W => kept_k n0 (goN n0 t 250) t W (hks n0 hb) (goN_bd n0 t hb htb 250) htb
        clear hks
        generalize goN s0 t 250 = s at *
        generalize goN n0 t 250 = n at *
        have c0 := hT.box.cell 0
        have c1 := hT.box.cell 1
        have p0 := hT.hp.cell 0
        have q1 := hT.hq.cell 1
        have hB := hT.below
        clear hT
        go_wp2_with (first
          | (go_at_call 24; ((with_reducible refine (hk1 _).mono ?_); rintro e W5 ⟨rfl, rfl⟩))
          | (go_at_call 24; ((with_reducible refine (hk2 _).mono ?_); rintro e W6 ⟨rfl, rfl⟩))
          | (go_at_call 16; ((with_reducible refine (live_k _).mono ?_); rintro e W9 ⟨rfl, hN⟩)))
        go_ret
        exact ⟨rfl, hB.trans (hN.mono hB.size)⟩

theorem own : ownKnob Try.prog.godebug = none := by kernel_rfl
theorem laidOut : laidOutB Try.prog = true := by kernel_rfl

/-! ### The row's step -/
set_option maxRecDepth 100000 in
theorem lifted (os : Os) (started : os.Started) (H : Type) (enc : TypeId × Value → H) :
    ReturnsInHanded {} Try.checked os 6 .any (Rows.levelKeptSpec.pre6 enc Try.prog Try.f6 Rows.levelKeptRow.domain false) (Rows.levelKeptSpec.post enc Try.prog Try.f6 false true false false) := by
  refine returnsInHanded_of_change (C := Try.checked) own started (by kernel_rfl) Try.func6
    (ChangeSpec.witness6 (enc := enc) (C := Try.checked) false ⟨#[], #[.agg #[.int .i64 0, .int .i64 0], .int .u32 0], []⟩ 8 (by kernel_rfl) (by kernel_rfl) (by kernel_rfl) (by kernel_rfl)) ?_
  intro W base args ds gs before hval0 hW hcnd _
  have hval : ∀ (j : Nat) t v, Try.f6.params[j]? = some t → args[j]? = some v → Value.okWide Try.prog W .any base t v := hval0
  have hW' := hW
  obtain ⟨p, q, hA0, hV, rfl, hfz, hnd⟩ := hW
  have hA : DataW.TrodAll enc Try.prog W 0 (fun _ => true) true Try.f6.params.toList args.toList ds p := hA0
  rw [Try.params6] at hA hval
  obtain ⟨v0, vs0, d0, ds0, p0, q0, hargs, rfl, rfl, h0, r0⟩ := trodAll_cons hA
  obtain ⟨v1, vs1, d1, ds1, p1, q1, rfl, rfl, rfl, h1, r1⟩ := trodAll_cons r0
  obtain ⟨rfl, rfl, rfl⟩ := trodAll_nil r1
  obtain rfl : args = #[v0, v1] := by cases args; simp_all
  obtain ⟨rfl, rfl⟩ := trodVars_none hV
  obtain ⟨cs0, rfl, _⟩ := okWide_struct Try.underlying23 (hval 0 23 v0 rfl rfl)
  have k0 := h0
  have lt0 : ∀ x ∈ p0, x.block < W.heap.size := by obtain ⟨m, hm⟩ := k0; exact DataW.trod_lt m _ _ _ hm
  obtain ⟨z0, hz0, w0⟩ : ∃ z, Level.lvS.enc z = cs0.toList ∧ Level.AnyLv z := by
    obtain ⟨fuel, hf⟩ := h0
    exact Level.lv_dec _ ((Row.oks_all 20).1 _ _ _ _ _ (by kernel_rfl) hf)
  obtain rfl : cs0 = (Level.lvS.enc z0).toArray := by rw [hz0]
  obtain ⟨a1, rfl, rfl, rfl, w1⟩ := open_int Try.underlying37 (hval 1 37 v1 rfl rfl) h1
  clear hA0 hval0
  refine (walk z0 a1 W w0 w1).mono fun e W' ⟨he, bel⟩ => ?_
  subst he
  exact ⟨_, rfl, _, _, _, [], _, [], hW', trodAll_mk1 (shut_bool Try.underlying4 _), (trodAll_cons_mk (Below.trod laidOut (by kernel_rfl) (of_decide_eq_true (by kernel_rfl)) k0 bel lt0) (trodAll_cons_mk (shut_int Try.underlying37 w1) trodAll_mk0)), rfl, bel.frame _, fun h => by cases h⟩

theorem over : Rows.levelKeptRow.holds Try.pinned (OpenSpec.ofChange Rows.levelKeptSpec) :=
  OpenClaim.holds_of_wide 6 Try.f6 rfl rfl rfl rfl rfl rfl rfl ⟨rfl, rfl, rfl, rfl, rfl⟩ rfl rfl rfl rfl rfl (by kernel_rfl) Try.func6 (by kernel_rfl)
    (of_decide_eq_true (by kernel_rfl)) (by unfold Func.isWrapper; first | (rw [if_pos (by decide +kernel)]; kernel_rfl) | (rw [if_neg (by decide +kernel)]; exact ⟨rfl, rfl⟩))
    (fun os started H enc _ => lifted os started H enc)

theorem proved : Rows.LevelKeptSaid := over
#print axioms proved
end Go.Proofs.Ythhjgdephhfdhaa.levelKept
