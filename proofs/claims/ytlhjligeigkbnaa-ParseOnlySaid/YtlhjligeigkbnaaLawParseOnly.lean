/- Whatever bytes come in, ParseOnly answers true, and writes nothing that was there. -/
import Derived.Test.YtlhjligeigkbnaaRows
import Derived.ShutString
import Derived.ChangeOld
import Derived.Below
import Derived.Test.YtlhjligeigkbnaaLawKit
import Derived.Test.YtlhjligeigkbnaaParseLive
import Derived.Test.YtlhjligeigkbnaaParseStands
set_option linter.unusedSimpArgs false
set_option linter.unusedVariables false
namespace Go.Proofs.Ytlhjligeigkbnaa.parseOnly
open Go.ChangeShapes Go.WideShapes Go.ChangeAt Go.RowKit
open Go.ChangeMaps (open_string shut_string)
open Par Frm RU8
theorem same_yes (A : Option Addr) (n c : Nat) (xs : List Samp) (B : Option Addr) (m d : Nat) (w : World) (hv : Row.Vals sampS w A n xs) (hu : Row.Vals sampS w B m xs) (hn : n ≤ 100000) (hm : m ≤ 100000) :
    Calls Try.prog 12 #[.agg #[.int .u8 0, .slice A n c], .agg #[.int .u8 0, .slice B m d]] w fun e w' => e = .returned (.bool true) ∧ Below w.heap.size w w' := by
  have := same_any 0 0 A n c xs B m d xs w hv hu (by omega) (by omega)
  rwa [decide_eq_true ⟨rfl, rfl⟩] at this
theorem samp_new (W : World) (o : Obj) (t : TypeId) (p : Samp) : Row.Vals sampS ((W.alloc o).alloc (.cells #[.int .i32 p.1, .bool p.2] t)) (some ⟨W.heap.size + 1, 0, none⟩) 1 [p] := by
  have h := Row.Vals.has (S := sampS) (ys := [p]) (tl := []) (g := (W.alloc o).heap.size) (t := t) (w := (W.alloc o).alloc (.cells #[.int .i32 p.1, .bool p.2] t)) (by exact Has.new _ _ _)
  rwa [show (W.alloc o).heap.size = W.heap.size + 1 by simp] at h
theorem neq_none (W : World) : (binOp .neq 49 (.agg #[.int .i32 0, .bool false]) (.agg #[.int .i32 0, .bool false])).run Try.prog W = .ok (.bool false) W := by rw [neq_samp]; rfl
set_option maxRecDepth 100000 in
set_option maxHeartbeats 2000000 in
theorem walk (a0 : Option Addr) (len0 cap0 : Nat) (z0 : List Int) (w : World) (w0 : IsRow .u8 w a0 len0 cap0 z0) :
    Calls Try.prog 6 #[.slice a0 len0 cap0] w fun e w' => e = .returned (.bool true) ∧ Below w.heap.size w w' := by
  obtain ⟨b, hV0, hb, hl0, hm0, _⟩ := row_vals w0
  have hlen := hV0.len_
  clear w0
  rcases Nat.lt_or_ge 1000 len0 with hbig | hs0
  · have hlive := live_ok w
    clear hV0 hb hlen
    go_enter Try.func6, Try.ntmps6
    go_wp2_with (go_at_call 8; ((with_reducible refine hlive.mono ?_); rintro e w' ⟨rfl, hB⟩))
    go_ret
    exact ⟨rfl, hB⟩
  have hev := fun W hV => events_any a0 len0 cap0 b W hV hb (by omega) hl0 hm0
  have hfr := fun W hV => frames_any a0 len0 cap0 b W hV hb (by omega) hl0 hm0
  have hC : Below w.heap.size w w := Below.refl _ _
  have hInfo : (Try.prog.info? 49).map (fun i => (i.zero, i.size, i.bytes)) = some (some (.agg #[.int .i32 0, .bool false]), 2, 8) := by kernel_rfl
  have HInfo := Lib.hid hInfo
  have hmay := walk_may 0 b hb
  have hws := walk_stands 0 b hb
  have hEb : endT b ≤ 1000 := by have := end_le 0 b hb; unfold endT; omega
  unfold EventsIs eventsT at hev
  unfold FramesIs at hfr
  rw [show endP 0 b = endT b from rfl] at hws
  generalize walkP 0 b = ps at *
  generalize endT b = E at *
  have HM := Lib.hid hmay
  have HW := Lib.hid hws
  clear hInfo hmay hws
  go_enter Try.func6, Try.ntmps6
  go_wp2_with (first
    | (go_at_call 13; ((with_reducible refine (hev _ hV0).mono ?_); rintro e w1 ⟨A1, n1, c1, rfl, h1a, h1b, h1n, hV1, h1f, hB⟩; replace hC := hC.trans (hB.mono hC.size); replace hV0 := hV0.below hB))
    | (go_at_call 9; ((with_reducible refine (hfr _ hV0).mono ?_); rintro e W0 ⟨A2, n2, c2, qs, rfl, h2a, h2b, h2n, hV2, hH2, h2f, hB⟩; replace hC := hC.trans (hB.mono hC.size); replace hV0 := hV0.below hB; replace hV1 := hV1.below hB)))
  have hq2 := (frames_len hV2 hH2).2
  have hN := (frames_len hV2 hH2).1
  have HN := Lib.hid hN
  have HQ := Lib.hid hq2
  clear hev hfr hN hq2
  go_loopw [7, 9, 32] (fun v t i wr => ∃ (j t' : Nat), j ≤ n2 ∧ i = .int .i64 (j : Nat) ∧ t = .int .i64 (t' : Nat) ∧ t' ≤ lastEnd 0 (ps.take j) ∧ wr.ownsRow W0.heap.size 49 2 v (samplesOf (eventsL Par.start (ps.take j))).length (Row.flat sampS (samplesOf (eventsL Par.start (ps.take j)))) ∧ Below W0.heap.size W0 wr) (fun _ _ i _ => n2 - (intOf i).toNat)
  case atStart => exact ⟨0, 0, by omega, rfl, rfl, Nat.zero_le _, Row.own_none (S := sampS) _ _ _, Below.refl _ _⟩
  case round =>
    obtain ⟨j, t, hj, rfl, rfl, ht, hO, hB⟩ := hrel
    by_cases hjn : j < n2
    · obtain ⟨x, rfl, _⟩ := hV2.cells (by omega)
      obtain ⟨e0, e1⟩ := frame_cells (hV2.below hB) HQ.out j hjn
      have hr2 := held_at hH2 j (by rw [← HN.out]; exact hjn)
      have hs2 := held_small hH2 j (by rw [List.length_map, ← HN.out]; exact hjn)
      have hws := want_step ps j (by rw [← HN.out]; exact hjn)
      have hprev := st_prev ps j (by rw [← HN.out]; omega)
      have hroom0 := evs_room ps HM.out j
      have hsf := samples_few (eventsL Par.start (ps.take j))
      obtain ⟨P, p1, p2, p3, p4, p5, p6, p7⟩ := HW.out j (by rw [← HN.out]; exact hjn)
      have hpe : P + (6 + 3 * (ps.getD j noPlace).l.length) ≤ lastEnd 0 (ps.take (j + 1)) := by
        rw [take_step ps noPlace j (by rw [← HN.out]; exact hjn), lastEnd_snoc]
        unfold Place.end_
        omega
      generalize hqe : qs.getD j Ptr.none_ = q1 at *
      obtain ⟨Aq, mq, dq⟩ := q1
      dsimp only at e1 hr2 hs2
      have hBf' := (Below.refl wr.heap.size wr).alloc (Nat.le_refl _) (.cells #[.int .u8 ((ps.getD j noPlace).seq : Nat), .slice Aq mq dq] 34)
      have hBf := hB.trans (hBf'.mono hB.size)
      have hst := stands_any a0 len0 cap0 b _ (hV0.below hBf) hb (by omega) hl0 hm0 t P (ps.getD j noPlace).seq (ps.getD j noPlace).l (by omega) (by omega) p2 p3 p4 Aq mq dq (hr2.below hBf) hs2
      generalize hle : (ps.getD j noPlace).l = l at *
      obtain rfl : mq = l.length := hr2.len_.symm
      rw [← HN.out] at hroom0
      have h2n' : n2 ≤ 1000 := by omega
      have hroom : (samplesOf (eventsL Par.start (ps.take j))).length + l.length ≤ 1048576 := by omega
      generalize samplesOf (eventsL Par.start (ps.take j)) = WL at *
      have HPE := Lib.hid hpe
      clear p1 p2 p3 p4 p5 p6 p7 hroom0 hsf hle hqe h2n' hpe ht
      by_cases hj0 : j = 0
      · have hin : inOrder (stAt ps j).prev (ps.getD j noPlace).seq = true := by rw [hprev, if_pos hj0]; rfl
        have hjz : ((j : Int) == 0) = true := by simp; omega
        generalize (ps.getD j noPlace).seq = sq at *
        clear hj0
        rw [if_pos hin] at hws
        have HWS := Lib.hid hws
        have HIN := Lib.hid hin
        clear hws hin hprev
        go_wp2_with (go_at_call 16; ((with_reducible refine hst.mono ?_); rintro e W1 ⟨t2, rfl, ht2, hB1⟩; have hB2 := hBf.trans (hB1.mono hBf.size); have hF2 := (Has.new wr _ _).below hB1 (by simp); obtain ⟨f0, f1, _, _⟩ := hF2.two; have hVq := hV2.below hB2; have hqq := hr2.below hB2; have HT2 := Lib.hid (Nat.le_trans ht2 HPE.out); clear ht2))
        skip
        go_quiet (fail)
        have hO2 := own_kept hO (Kept.of_below (S := []) hBf') (by simp)
        have hO3 := own_kept hO2 (Kept.of_below (S := []) hB1) (by simp)
        have hO4 := own_kept hO3 ((Kept.refl [] W1).drewN nq) (by simp)
        have hB4 := below_drewN hB2 nq
        go_wp2_with (at_builtin; refine Row.wpList_append (S := sampS) rfl (.tmp 61) (.tmp 63) _ rfl W0.heap.size 49 _ 8 (by omega) Try.underlying32 HInfo.out (by kernel_rfl) u7 WL.length WL rfl (by exact hO4) Aq l.length dq l rfl (by exact hqq.drewN _) (by exact hroom) (by exact hB4.size) ?_; intro v5 W5 hO5 hg5 hat5; have hK5 := Kept.of_grown hg5; have hB5 := below_kept hB4 hK5 hB4.size (own_in hO4))
        rw [← List.length_append] at hO5
        go_roundw
        case rel => exact ⟨j + 1, t2, by omega, by go_num, rfl, HT2.out, by rw [HWS.out]; exact hO5, hB5⟩
        case measure => simp [intOf]; omega
      · obtain ⟨j1, hj1⟩ : ∃ z, z + 1 = j := ⟨j - 1, by omega⟩
        have hjz : ((j : Int) == 0) = false := by simp; omega
        have hj1z : (j : Int) - 1 = (j1 : Int) := by omega
        have hpq := (HM.out (ps.getD j1 noPlace) (getD_mem ps noPlace j1 (by rw [← HN.out]; omega))).2
        have hio : inOrder (stAt ps j).prev (ps.getD j noPlace).seq = decide ((ps.getD j noPlace).seq = ((ps.getD j1 noPlace).seq + 1) % 256) := by rw [hprev, if_neg hj0, show j - 1 = j1 by omega]; rfl
        obtain ⟨pq, hpqe⟩ : ∃ z, (ps.getD j1 noPlace).seq = z := ⟨_, rfl⟩
        rw [hpqe] at hpq hio
        obtain ⟨nx, hnx⟩ : ∃ z, (pq + 1) % 256 = z := ⟨_, rfl⟩
        rw [hnx] at hio
        have hwr8 : IntKind.u8.wrap ((pq : Int) + 1) = (nx : Int) := by rw [IntKind.wrap_u8]; omega
        have HJ1 := Lib.hid hj1
        generalize (ps.getD j noPlace).seq = sq at *
        clear hj0 hj1 hnx hpq
        by_cases hsq : sq = nx
        · have hin := hio.trans (decide_eq_true hsq)
          have hsqz : ((sq : Int) == (nx : Int)) = true := by simp; omega
          clear hio hsq
          rw [if_pos hin] at hws
          have HWS := Lib.hid hws
          have HIN := Lib.hid hin
          clear hws hin hprev
          go_wp2_with (go_at_call 16; ((with_reducible refine hst.mono ?_); rintro e W1 ⟨t2, rfl, ht2, hB1⟩; have hB2 := hBf.trans (hB1.mono hBf.size); have hF2 := (Has.new wr _ _).below hB1 (by simp); obtain ⟨f0, f1, _, _⟩ := hF2.two; have hVq := hV2.below hB2; have hqq := hr2.below hB2; have HT2 := Lib.hid (Nat.le_trans ht2 HPE.out); clear ht2))
          obtain ⟨pf0, pf1⟩ := frame_cells hVq HQ.out j1 (by have := HJ1.out; omega)
          rw [hpqe] at pf0
          go_quiet (fail)
          have hO2 := own_kept hO (Kept.of_below (S := []) hBf') (by simp)
          have hO3 := own_kept hO2 (Kept.of_below (S := []) hB1) (by simp)
          have hO4 := own_kept hO3 ((Kept.refl [] W1).drewN nq) (by simp)
          have hB4 := below_drewN hB2 nq
          go_wp2_with (at_builtin; refine Row.wpList_append (S := sampS) rfl (.tmp 61) (.tmp 63) _ rfl W0.heap.size 49 _ 8 (by omega) Try.underlying32 HInfo.out (by kernel_rfl) u7 WL.length WL rfl (by exact hO4) Aq l.length dq l rfl (by exact hqq.drewN _) (by exact hroom) (by exact hB4.size) ?_; intro v5 W5 hO5 hg5 hat5; have hK5 := Kept.of_grown hg5; have hB5 := below_kept hB4 hK5 hB4.size (own_in hO4))
          rw [← List.length_append] at hO5
          go_roundw
          case rel => exact ⟨j + 1, t2, by omega, by go_num, rfl, HT2.out, by rw [HWS.out]; exact hO5, hB5⟩
          case measure => simp [intOf]; omega
        · have hout := hio.trans (decide_eq_false hsq)
          have hsqz : ((sq : Int) == (nx : Int)) = false := by simp; omega
          clear hio hsq
          rw [if_neg (by rw [hout]; decide), List.append_nil] at hws
          have HWS := Lib.hid hws
          clear hws hout hprev
          go_wp2_with (go_at_call 16; ((with_reducible refine hst.mono ?_); rintro e W1 ⟨t2, rfl, ht2, hB1⟩; have hB2 := hBf.trans (hB1.mono hBf.size); have hF2 := (Has.new wr _ _).below hB1 (by simp); obtain ⟨f0, f1, _, _⟩ := hF2.two; have hVq := hV2.below hB2; have HT2 := Lib.hid (Nat.le_trans ht2 HPE.out); clear ht2))
          obtain ⟨pf0, pf1⟩ := frame_cells hVq HQ.out j1 (by have := HJ1.out; omega)
          rw [hpqe] at pf0
          go_quiet (fail)
          have hO2 := own_kept hO (Kept.of_below (S := []) hBf') (by simp)
          have hO3 := own_kept hO2 (Kept.of_below (S := []) hB1) (by simp)
          have hO5 := own_kept hO3 ((Kept.refl [] W1).drewN nq) (by simp)
          have hB5 := below_drewN hB2 nq
          go_wp2
          go_roundw
          case rel => exact ⟨j + 1, t2, by omega, by go_num, rfl, HT2.out, by rw [HWS.out]; exact hO5, hB5⟩
          case measure => simp [intOf]; omega
    · have hjn2 : j = n2 := by omega
      have hps : ps.take j = ps := List.take_of_length_le (by rw [← HN.out]; omega)
      have hle : lastEnd 0 ps ≤ E := by
        rcases Nat.eq_zero_or_pos j with h | h
        · have : ps = [] := List.eq_nil_of_length_eq_zero (by rw [← HN.out]; omega)
          rw [this]
          exact Nat.zero_le _
        · obtain ⟨_, _, _, _, _, _, _, p7⟩ := HW.out (j - 1) (by rw [← HN.out]; omega)
          rwa [show j - 1 + 1 = j by omega, hps] at p7
      rw [hps] at hO ht
      have htE : t ≤ E := by omega
      have hgd := good_events Par.start ps (fun p hp => (may_len (HM.out p hp).1).1)
      have hfw := samples_few (eventsL Par.start ps)
      subst hjn2
      generalize eventsL Par.start ps = es at *
      obtain ⟨A3, c3, rfl, g1, g2, hV3, _⟩ := Row.Vals.own hO
      have hV1w := hV1.below hB
      have hl1 := hV1.len_
      replace hC := hC.trans (hB.mono hC.size)
      have HGD := Lib.hid hgd
      have HFW := Lib.hid hfw
      have htz : (t : Int) ≤ (E : Int) := by omega
      clear hO hV1 hV2 hH2 hV0 hgd hfw hle hps ht htE hB g1 g2
      go_wp2
      go_loopw [8, 68] (fun v i wx => ∃ k : Nat, k ≤ n1 ∧ i = .int .i64 (k : Nat) ∧ wx.ownsRow wr.heap.size 49 2 v (samplesOf (es.take k)).length (Row.flat sampS (samplesOf (es.take k))) ∧ Below wr.heap.size wr wx) (fun _ i _ => n1 - (intOf i).toNat)
      case atStart => exact ⟨0, by omega, rfl, Row.own_none (S := sampS) _ _ _, Below.refl _ _⟩
      case round =>
        obtain ⟨k, hk, rfl, hO, hB⟩ := hrel
        by_cases hkn : k < n1
        · obtain ⟨y, rfl, _⟩ := hV1w.cells (by omega)
          obtain ⟨c0, c1, c2, c3'⟩ := ev_cells (hV1w.below hB) k hkn
          have hgs := got_step es k (by omega)
          have hfk := samples_few (es.take k)
          rw [List.length_take] at hfk
          rcases HGD.out k (by omega) with h2 | ⟨h1, hz, hnx, hn2⟩
          · rw [if_pos h2] at hgs
            have HGS := Lib.hid hgs
            rw [h2] at c0
            generalize (es.getD k noEv).2.1 = ea at *
            generalize hs2 : (es.getD k noEv).2.2 = sm at *
            obtain ⟨v, o⟩ := sm
            dsimp only at c2 c3'
            have hroom : (samplesOf (es.take k)).length + 1 ≤ 1048576 := by omega
            have hOa := own_kept hO (((Kept.refl [] wr).alloc (.cells #[.int .i64 2, .int .i64 (ea : Nat), .int .i32 v, .bool o] 51)).alloc (.cells #[.int .i32 v, .bool o] 49)) (by simp)
            have hBa := (hB.alloc hB.size (.cells #[.int .i64 2, .int .i64 (ea : Nat), .int .i32 v, .bool o] 51)).alloc (Nat.le_trans hB.size (by simp)) (.cells #[.int .i32 v, .bool o] 49)
            have hVn := samp_new wr (.cells #[.int .i64 2, .int .i64 (ea : Nat), .int .i32 v, .bool o] 51) 49 (v, o)
            generalize samplesOf (es.take k) = GL at *
            clear hgs hfk h2 hs2
            go_wp2_with (at_builtin; refine Row.wpList_append (S := sampS) rfl (.tmp 76) (.tmp 79) _ rfl _ 49 _ 8 (by omega) Try.underlying32 HInfo.out (by kernel_rfl) u8 GL.length GL rfl (by exact hOa) _ 1 1 [(v, o)] rfl (by exact hVn) (by exact hroom) (by exact hBa.size) ?_; intro v5 W5 hO5 hg5 hat5; have hK5 := Kept.of_grown hg5; have hB5 := below_kept hBa hK5 hBa.size (own_in hOa))
            go_roundw
            case rel => exact ⟨k + 1, by omega, by go_num, by rw [HGS.out, List.length_append, List.length_singleton]; exact hO5, hB5⟩
            case measure => simp [intOf]; omega
          · rw [if_neg (by rw [h1]; decide), List.append_nil] at hgs
            have HGS := Lib.hid hgs
            rw [h1] at c0
            rw [hz] at c2 c3'
            dsimp only at c2 c3'
            obtain ⟨k1, hk1⟩ : ∃ z, k + 1 = z := ⟨_, rfl⟩
            have hk1n : k1 < n1 := by omega
            obtain ⟨d0, d1, d2, d3⟩ := ev_cells (hV1w.below (hB.alloc hB.size (.cells #[.int .i64 1, .int .i64 ((es.getD k noEv).2.1 : Nat), .int .i32 0, .bool false] 51))) k1 hk1n
            rw [← hk1, hn2, hk1] at d0
            have hk1z : (k : Int) + 1 = (k1 : Int) := by omega
            have hk1e : ((k1 : Int) == (n1 : Int)) = false := by simp; omega
            generalize (es.getD k noEv).2.1 = ea at *
            have hOa := own_kept hO ((Kept.refl [] wr).alloc (.cells #[.int .i64 1, .int .i64 (ea : Nat), .int .i32 0, .bool false] 51)) (by simp)
            have hBa := hB.alloc hB.size (.cells #[.int .i64 1, .int .i64 (ea : Nat), .int .i32 0, .bool false] 51)
            have hc := fun W => neq_none W
            have hg := fun (W : World) (x y : Operand) => guard_samp W x y 0 0 false false
            have HK1 := Lib.hid hk1
            clear hgs hfk h1 hz hnx hn2 d1 d2 d3 hk1
            go_wp2
            go_roundw
            case rel => exact ⟨k1, by omega, by first | rfl | go_num, by rw [← HK1.out, HGS.out]; exact hOa, hBa⟩
            case measure => simp [intOf]; omega
        · have hkn2 : k = n1 := by omega
          rw [List.take_of_length_le (by omega)] at hO
          obtain ⟨A4, c4, rfl, g1, g2, hV4, _⟩ := Row.Vals.own hO
          have hfw := HFW.out
          have hsm := same_yes A4 _ c4 (samplesOf es) A3 _ c3 wr hV4 (hV3.below hB) (by omega) (by omega)
          replace hC := hC.trans (hB.mono hC.size)
          generalize samplesOf es = ss at *
          subst hkn2
          clear hV1w hV3 hV4 hO hfw g1 g2
          go_wp2_with (first
            | (go_at_call 12; ((with_reducible refine hsm.mono ?_); rintro e w6 ⟨rfl, hB6⟩; replace hC := hC.trans (hB6.mono hC.size); clear hsm))
            | (go_at_call 8; ((with_reducible refine (live_ok _).mono ?_); rintro e w7 ⟨rfl, hB7⟩; replace hC := hC.trans (hB7.mono hC.size))))
          go_ret
          exact ⟨rfl, hC⟩

theorem own : ownKnob Try.prog.godebug = none := by kernel_rfl
theorem laidOut : laidOutB Try.prog = true := by kernel_rfl

/-! ### The row's step -/
set_option maxRecDepth 100000 in
theorem lifted (os : Os) (started : os.Started) (H : Type) (enc : TypeId × Value → H) :
    ReturnsInHanded {} Try.checked os 6 .any (Rows.parseOnlySpec.pre6 enc Try.prog Try.f6 Rows.parseOnlyRow.domain false) (Rows.parseOnlySpec.post enc Try.prog Try.f6 false true false false) := by
  refine returnsInHanded_of_change (C := Try.checked) own started (by kernel_rfl) Try.func6
    (ChangeSpec.witness6 (enc := enc) (C := Try.checked) false ⟨#[], #[.slice none 0 0], []⟩ 8 (by kernel_rfl) (by kernel_rfl) (by kernel_rfl) (by kernel_rfl)) ?_
  intro W base args ds gs before hval0 hW hcnd _
  have hval : ∀ (j : Nat) t v, Try.f6.params[j]? = some t → args[j]? = some v → Value.okWide Try.prog W .any base t v := hval0
  have hW' := hW
  obtain ⟨p, q, hA0, hV, rfl, hfz, hnd⟩ := hW
  have hA : DataW.TrodAll enc Try.prog W 0 (fun _ => true) true Try.f6.params.toList args.toList ds p := hA0
  rw [Try.params6] at hA hval
  obtain ⟨v0, vs0, d0, ds0, p0, q0, hargs, rfl, rfl, h0, r0⟩ := trodAll_cons hA
  obtain ⟨rfl, rfl, rfl⟩ := trodAll_nil r0
  obtain rfl : args = #[v0] := by cases args; simp_all
  obtain ⟨rfl, rfl⟩ := trodVars_none hV
  obtain ⟨a0, len0, cap0, rfl⟩ := okWide_slice Try.underlying22 (hval 0 22 v0 rfl rfl)
  have k0 := h0
  have lt0 : ∀ x ∈ p0, x.block < W.heap.size := by obtain ⟨m, hm⟩ := k0; exact DataW.trod_lt m _ _ _ hm
  obtain ⟨z0, w0⟩ : ∃ zs, IsRow .u8 W a0 len0 cap0 zs := by
    obtain ⟨fuel, hf⟩ := h0
    rcases open_ints Try.underlying22 Try.underlying5 (by kernel_rfl) hf with ⟨hcs, _⟩ | ⟨x, l, c, zs, hcs, hx, hl, hm, hz, _, hcell, hwz⟩
    · simp [Value.cells] at hcs
      obtain ⟨rfl, rfl, rfl⟩ := hcs
      exact ⟨[], .inl ⟨rfl, rfl, rfl, rfl⟩⟩
    · simp [Value.cells] at hcs
      obtain ⟨rfl, rfl, rfl⟩ := hcs
      exact ⟨zs, isRow_some hl hm (by simpa using hz) hcell hwz⟩
  clear hA0 hval0
  refine (walk a0 len0 cap0 z0 W w0).mono fun e W' ⟨he, bel⟩ => ?_
  subst he
  exact ⟨_, rfl, _, _, _, [], _, [], hW', trodAll_mk1 (shut_bool Try.underlying4 _), (trodAll_cons_mk (Below.trod laidOut (by kernel_rfl) (of_decide_eq_true (by kernel_rfl)) k0 bel lt0) trodAll_mk0), rfl, bel.frame _, fun h => by cases h⟩

theorem over : Rows.parseOnlyRow.holds Try.pinned (OpenSpec.ofChange Rows.parseOnlySpec) :=
  OpenClaim.holds_of_wide 6 Try.f6 rfl rfl rfl rfl rfl rfl rfl ⟨rfl, rfl, rfl, rfl, rfl⟩ rfl rfl rfl rfl rfl (by kernel_rfl) Try.func6 (by kernel_rfl)
    (of_decide_eq_true (by kernel_rfl)) (by unfold Func.isWrapper; first | (rw [if_pos (by decide +kernel)]; kernel_rfl) | (rw [if_neg (by decide +kernel)]; exact ⟨rfl, rfl⟩))
    (fun os started H enc _ => lifted os started H enc)

theorem proved : Rows.ParseOnlySaid := over
#print axioms proved
end Go.Proofs.Ytlhjligeigkbnaa.parseOnly
