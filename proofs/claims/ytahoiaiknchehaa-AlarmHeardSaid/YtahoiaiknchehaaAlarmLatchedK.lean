/- AlarmLatched, over whatever an alarm's calls answer. -/
import Derived.Test.YtahoiaiknchehaaAlarmLive
import Derived.Test.YtahoiaiknchehaaAlarmMore
import Derived.Test.YtahoiaiknchehaaAlarmArgs
set_option linter.unusedSimpArgs false
set_option linter.unusedVariables false
namespace Go.Proofs.Ytahoiaiknchehaa.Alarm
open Go.RowKit
section
variable {Alm : World → Nat → St → Prop} (K : AlmKit Alm) {w W : World} {b g : Nat} {s : St} {q : Bool}
include K
theorem stands_is (h : Mr Alm w b s W) {kz : Int} (hz : (g : Int) = kz) (hq : (s.get g).stands = q) : Calls Try.prog 17 #[.pointer (some ⟨b, 0, none⟩), .int .i64 kz] W fun e w' => e = .returned (.bool q) ∧ Mr Alm w b s w' := by
  subst hz
  refine (K.stands_any W b s g h.alm).mono ?_
  rintro e w' ⟨rfl, hB⟩
  exact ⟨by rw [getZ_nat, hq], Mr.grow K h hB⟩
theorem high_is (h : Mr Alm w b s W) {kz : Int} (hz : (g : Int) = kz) (hq : s.high g = q) : Calls Try.prog 18 #[.pointer (some ⟨b, 0, none⟩), .int .i64 kz] W fun e w' => e = .returned (.bool q) ∧ Mr Alm w b s w' := by
  subst hz
  refine (K.high_any W b s g h.alm).mono ?_
  rintro e w' ⟨rfl, hB⟩
  exact ⟨by rw [highZ_nat, hq], Mr.grow K h hB⟩
theorem acked_is (h : Mr Alm w b s W) {kz : Int} (hz : (g : Int) = kz) (hq : (s.get g).acked = q) : Calls Try.prog 19 #[.pointer (some ⟨b, 0, none⟩), .int .i64 kz] W fun e w' => e = .returned (.bool q) ∧ Mr Alm w b s w' := by
  subst hz
  refine (K.acked_any W b s g h.alm).mono ?_
  rintro e w' ⟨rfl, hB⟩
  exact ⟨by rw [getZ_nat, hq], Mr.grow K h hB⟩
end
theorem up_high {g : Nat} (s : St) (hg : grave g = true) : s.high g = true := by unfold St.high; rw [hg, Bool.true_or]
set_option maxHeartbeats 4000000 in
theorem latched_k {Alm : World → Nat → St → Prop} (K : AlmKit Alm) (a0 : Bool) (a1 : Option Addr) (len1 cap1 : Nat) (z1 : List Cd) (a2 : Bool) (w : World) (w1 : Row.IsFlat cdS CdOk w a1 len1 cap1 z1) :
    Calls Try.prog 4 #[.bool a0, .slice a1 len1 cap1, .bool a2] w fun e w' => e = .returned (.bool true) ∧ Below w.heap.size w w' := by
  have hli := fun W => live_k K W
  have hnew := fun W => K.new_yes W 50 (by omega)
  obtain ⟨p, hp⟩ : ∃ p, min len1 40 = p := ⟨_, rfl⟩
  have hV := w1.row.take p (by omega)
  have hlc := w1.le
  have hcm := w1.max
  have hminA : (if (40 : Int) < (len1 : Int) then (40 : Int) else (len1 : Int)) = (p : Int) := by split <;> omega
  have hpl : (p : Int) ≤ (len1 : Int) ∧ (p : Int) ≤ (cap1 : Int) := by omega
  clear w1 hp
  go_enter Try.func4, Try.ntmps4
  cases a0
  · skip
    have hgr : grave 2 = true := rfl
    have hz : ((2 : Nat) : Int) = 2 := rfl
    go_upto_region 8 with (first
      | (go_at_call 8; ((with_reducible refine (hnew _).mono ?_); rintro e W1 ⟨b, rfl, hP, hfar, hB1⟩; have hM1 : Mr Alm w b (st0 50) W1 := ⟨hP, hB1, hfar⟩; have hc1 := Mr.cond_one K hM1 40 (2, 1, true) 1; have hU1 : Up 2 (condT (st0 50) (2, 1, true)).1 := up_first (g := 2) (by omega) 50 1))
      | (go_at_call 10; ((with_reducible refine hc1.mono ?_); rintro e W2 ⟨V2, rfl, -, hM2, -⟩; clear hc1 hM1 hP hfar hB1 hnew)))
    generalize (condT (st0 50) (2, 1, true)).1 = s0 at *
    go_wp2
    have HN := Lib.hid hminA
    clear hminA
    go_loopw [33] (fun i wr => ∃ (k : Nat) (s : St), k ≤ p ∧ i = .int .i64 (k : Nat) ∧ Mr Alm w b s wr ∧ Up 2 s) (fun i _ => p - (intOf i).toNat)
    case atStart => exact ⟨0, s0, by omega, rfl, hM2, hU1⟩
    case round =>
      clear hM2 hU1
      obtain ⟨k, s, hk, rfl, hM, hU⟩ := hrel
      by_cases hkp : k < p
      · obtain ⟨x, rfl, _⟩ := hV.cells (by omega)
        obtain ⟨c0, c1, c2⟩ := cd_cells (hV.below hM.below) k hkp
        have hkz : (k : Int) < (p : Int) := by omega
        have HU2 := Lib.hid (up_tick (up_cond hgr hU ((z1.take p).getD k noCd)) (k : Int))
        have HKP := Lib.hid hkp
        obtain ⟨c, hc⟩ : ∃ c, (z1.take p).getD k noCd = c := ⟨_, rfl⟩
        rw [hc] at c0 c1 c2 HU2
        clear hc hV hU hkp
        obtain ⟨o1, o2, o3⟩ := c
        dsimp only at c0 c1 c2
        have hc2 := Mr.cond_one K (Mr.alloc K hM (.cells #[.int .i64 o1, .int .i64 o2, .bool o3] 40)) 40 (o1, o2, o3) 1
        dsimp only at hc2
        rw [World.size_alloc] at hc2
        have hM0 := Mr.alloc K hM (.cells #[.int .i64 o1, .int .i64 o2, .bool o3] 40)
        go_upto_region 13 with (first
          | (go_at_call 10; ((with_reducible refine hc2.mono ?_); rintro e W3 ⟨V3, rfl, -, hM3, -⟩; have ht2 := Mr.tick_none K hM3 (k : Int) 0))
          | (go_at_call 12; ((with_reducible refine ht2.mono ?_); rintro e W4 ⟨V4, rfl, -, hM4, -⟩)))
        generalize (tickT (condT s (o1, o2, o3)).1 (k : Int) []).1 = s2 at *
        clear hM hM0 hM3 hc2 ht2 c0 c1 c2
        obtain ⟨hu1, hu2⟩ := HU2.out
        have hu3 := up_high s2 hgr
        go_wp2_with (first
          | (go_at_call 17; ((with_reducible refine (stands_is (g := 2) (kz := 2) K hM4 hz hu1).mono ?_); rintro e W5 ⟨rfl, hM5⟩))
          | (go_at_call 18; ((with_reducible refine (high_is (g := 2) (kz := 2) K hM5 hz hu3).mono ?_); rintro e W6 ⟨rfl, hM6⟩))
          | (go_at_call 19; ((with_reducible refine (acked_is (g := 2) (kz := 2) K hM6 hz hu2).mono ?_); rintro e W7 ⟨rfl, hM7⟩)))
        go_roundw
        case rel => exact ⟨k + 1, s2, by have := HKP.out; omega, by go_num, hM7, HU2.out⟩
        case measure => have := HKP.out; simp [intOf]; omega
      · obtain rfl : k = p := by omega
        clear hV HN
        have hg5 : 1 ≤ 2 ∧ 2 ≤ 5 := by omega
        have hc3 := Mr.cond_one K hM 40 (2, 90, a2) 1
        have hU3 : Up 2 (condT s (2, 90, a2)).1 := up_cond hgr hU (2, 90, a2)
        have hon3 : ((condT s (2, 90, a2)).1.get 2).on = a2 := cond_on (g := 2) hg5 hgr hU 90 a2
        generalize (condT s (2, 90, a2)) = r3 at *
        obtain ⟨s3, E3⟩ := r3
        dsimp only at hU3 hon3
        go_upto_region 18 with (first
          | (go_at_call 10; ((with_reducible refine hc3.mono ?_); rintro e W3 ⟨V3, rfl, -, hM3, -⟩)))
        (try dsimp only at hM3)
        have ht3 := Mr.tick_one K hM3 100 47 (0, 1, 0) 1
        have hA := ack_up (g := 2) hg5 hU3 100 0
        have hEl := tick_len s3 100 [(0, 1, 0)]
        generalize tickT s3 100 [(0, 1, 0)] = r4 at *
        obtain ⟨s4, E⟩ := r4
        dsimp only at hA hEl
        have HEl := Lib.hid (show E.length ≤ 19 from hEl)
        clear hc3 hM hU hk hkp hU3 hEl
        go_wp2_with (first
          | (go_at_call 12; ((with_reducible refine ht3.mono ?_); rintro e W4 ⟨V4, rfl, hO4, hM4, -⟩; obtain ⟨A4, c4, rfl, _, _, hV4, _, _⟩ := Row.Vals.own hO4)))
        (try dsimp only at hM4)
        (try dsimp only at hV4)
        clear ht3 hM3 hO4
        have HA := Lib.hid hA
        clear hA
        go_loopw [12, 72] (fun v i wr => ∃ z : Nat, z ≤ E.length ∧ v = .int .i64 ((cntC 2 (E.take z) : Nat) : Int) ∧ i = .int .i64 (z : Nat) ∧ Mr Alm w b s4 wr ∧ Row.Vals otS wr A4 E.length E) (fun _ i _ => E.length - (intOf i).toNat)
        case atStart => exact ⟨0, by omega, rfl, rfl, hM4, hV4⟩
        case round =>
          clear hM4 hV4
          obtain ⟨z, hzl, rfl, rfl, hM, hV⟩ := hrel
          by_cases hzE : z < E.length
          · obtain ⟨x, rfl, _⟩ := hV.cells (by omega)
            obtain ⟨c0, c1, c2, c3⟩ := ot_cells hV z hzE
            have hn9 := cntC_take 2 E z hzE
            have hle := cntC_le 2 (E.take z)
            rw [List.length_take] at hle
            have hE9 := HEl.out
            have HZ := Lib.hid hzE
            have hzz : (z : Int) < (E.length : Int) := by omega
            have hwr : IntKind.i64.wrap (((cntC 2 (E.take z) : Nat) : Int) + 1) = ((cntC 2 (E.take z) : Nat) : Int) + 1 := by rw [IntKind.wrap_i64]; omega
            obtain ⟨o, ho⟩ : ∃ o, E.getD z noOt = o := ⟨_, rfl⟩
            rw [ho] at c0 c1 c2 c3 hn9
            clear ho hle hE9
            obtain ⟨o1, o2, o3, o4⟩ := o
            dsimp only at c0 c1 c2 c3 hn9
            have HR := Lib.hid (show ∀ W, Below wr.heap.size wr W → Mr Alm w b s4 W ∧ Row.Vals otS W (some x) E.length E from fun W hB => ⟨Mr.grow K hM hB, hV.below hB⟩)
            have hB9 := (Below.refl wr.heap.size wr).alloc (Nat.le_refl _) (.cells #[.int .i64 o1, .int .i64 o2, .int .i64 o3, .int .i64 o4] 53)
            clear hM hV
            by_cases h1 : o3 = (2 : Int)
            · subst h1
              by_cases h2 : o1 = 3
              · subst h2
                rw [if_pos ⟨rfl, rfl⟩] at hn9
                have HN9 := Lib.hid hn9
                clear hn9
                generalize cntC 2 (E.take z) = q at *
                go_wp2
                go_roundw
                case rel => exact ⟨z + 1, by have := HZ.out; omega, by rw [HN9.out]; go_num, by go_num, HR.out _ hB9⟩
                case measure => have := HZ.out; simp [intOf]; omega
              · rw [if_neg (fun h => h2 h.2)] at hn9
                have HN9 := Lib.hid hn9
                clear hn9 hwr
                generalize cntC 2 (E.take z) = q at *
                go_wp2
                go_roundw
                case rel => exact ⟨z + 1, by have := HZ.out; omega, by rw [HN9.out]; go_num, by go_num, HR.out _ hB9⟩
                case measure => have := HZ.out; simp [intOf]; omega
            · rw [if_neg (fun h => h1 h.1)] at hn9
              have HN9 := Lib.hid hn9
              clear hn9 hwr
              generalize cntC 2 (E.take z) = q at *
              go_wp2
              go_roundw
              case rel => exact ⟨z + 1, by have := HZ.out; omega, by rw [HN9.out]; go_num, by go_num, HR.out _ hB9⟩
              case measure => have := HZ.out; simp [intOf]; omega
          · obtain rfl : z = E.length := by omega
            rw [List.take_length] at *
            clear hV
            cases a2
            · obtain ⟨hs4, ho4, hc4⟩ := HA.out.2 hon3
              rw [hc4]
              have hend : ((condT s4 (2, 110, false)).1.get 2).stands = false := cond_end (g := 2) hg5 110 (.inr ⟨ho4, hs4⟩)
              have hst := stands_is (g := 2) (kz := 2) K hM hz hs4
              clear hon3 hgr
              go_upto_region 26 with (first
                | (go_at_call 17; ((with_reducible refine hst.mono ?_); rintro e W5 ⟨rfl, hM5⟩)))
              have hc5 := Mr.cond_one K hM5 40 (2, 110, false) 1
              generalize condT s4 (2, 110, false) = r5 at *
              obtain ⟨s5, E5⟩ := r5
              dsimp only at hend
              go_wp2_with (first
                | (go_at_call 10; ((with_reducible refine hc5.mono ?_); rintro e W6 ⟨V6, rfl, -, hM6, -⟩; have hst6 := stands_is (g := 2) (kz := 2) K hM6 hz hend))
                | (go_at_call 17; ((with_reducible refine hst6.mono ?_); rintro e W7 ⟨rfl, hM7⟩))
                | (go_at_call 9; ((with_reducible refine (hli _).mono ?_); rintro e W8 ⟨rfl, hB8⟩; have hM8 := Mr.grow K hM7 hB8)))
              go_ret
              exact ⟨rfl, hM8.below⟩
            · obtain ⟨hs4, ha4, ho4, hc4⟩ := HA.out.1 hon3
              rw [hc4]
              have hend : ((condT s4 (2, 110, false)).1.get 2).stands = false := cond_end (g := 2) hg5 110 (.inl ⟨ho4, ha4⟩)
              have hst := stands_is (g := 2) (kz := 2) K hM hz hs4
              clear hon3 hgr
              go_upto_region 26 with (first
                | (go_at_call 17; ((with_reducible refine hst.mono ?_); rintro e W5 ⟨rfl, hM5⟩)))
              have hc5 := Mr.cond_one K hM5 40 (2, 110, false) 1
              generalize condT s4 (2, 110, false) = r5 at *
              obtain ⟨s5, E5⟩ := r5
              dsimp only at hend
              go_wp2_with (first
                | (go_at_call 10; ((with_reducible refine hc5.mono ?_); rintro e W6 ⟨V6, rfl, -, hM6, -⟩; have hst6 := stands_is (g := 2) (kz := 2) K hM6 hz hend))
                | (go_at_call 17; ((with_reducible refine hst6.mono ?_); rintro e W7 ⟨rfl, hM7⟩))
                | (go_at_call 9; ((with_reducible refine (hli _).mono ?_); rintro e W8 ⟨rfl, hB8⟩; have hM8 := Mr.grow K hM7 hB8)))
              go_ret
              exact ⟨rfl, hM8.below⟩
  · skip
    have hgr : grave 3 = true := rfl
    have hz : ((3 : Nat) : Int) = 3 := rfl
    go_upto_region 8 with (first
      | (go_at_call 8; ((with_reducible refine (hnew _).mono ?_); rintro e W1 ⟨b, rfl, hP, hfar, hB1⟩; have hM1 : Mr Alm w b (st0 50) W1 := ⟨hP, hB1, hfar⟩; have hc1 := Mr.cond_one K hM1 40 (3, 1, true) 1; have hU1 : Up 3 (condT (st0 50) (3, 1, true)).1 := up_first (g := 3) (by omega) 50 1))
      | (go_at_call 10; ((with_reducible refine hc1.mono ?_); rintro e W2 ⟨V2, rfl, -, hM2, -⟩; clear hc1 hM1 hP hfar hB1 hnew)))
    generalize (condT (st0 50) (3, 1, true)).1 = s0 at *
    go_wp2
    have HN := Lib.hid hminA
    clear hminA
    go_loopw [33] (fun i wr => ∃ (k : Nat) (s : St), k ≤ p ∧ i = .int .i64 (k : Nat) ∧ Mr Alm w b s wr ∧ Up 3 s) (fun i _ => p - (intOf i).toNat)
    case atStart => exact ⟨0, s0, by omega, rfl, hM2, hU1⟩
    case round =>
      clear hM2 hU1
      obtain ⟨k, s, hk, rfl, hM, hU⟩ := hrel
      by_cases hkp : k < p
      · obtain ⟨x, rfl, _⟩ := hV.cells (by omega)
        obtain ⟨c0, c1, c2⟩ := cd_cells (hV.below hM.below) k hkp
        have hkz : (k : Int) < (p : Int) := by omega
        have HU2 := Lib.hid (up_tick (up_cond hgr hU ((z1.take p).getD k noCd)) (k : Int))
        have HKP := Lib.hid hkp
        obtain ⟨c, hc⟩ : ∃ c, (z1.take p).getD k noCd = c := ⟨_, rfl⟩
        rw [hc] at c0 c1 c2 HU2
        clear hc hV hU hkp
        obtain ⟨o1, o2, o3⟩ := c
        dsimp only at c0 c1 c2
        have hc2 := Mr.cond_one K (Mr.alloc K hM (.cells #[.int .i64 o1, .int .i64 o2, .bool o3] 40)) 40 (o1, o2, o3) 1
        dsimp only at hc2
        rw [World.size_alloc] at hc2
        have hM0 := Mr.alloc K hM (.cells #[.int .i64 o1, .int .i64 o2, .bool o3] 40)
        go_upto_region 13 with (first
          | (go_at_call 10; ((with_reducible refine hc2.mono ?_); rintro e W3 ⟨V3, rfl, -, hM3, -⟩; have ht2 := Mr.tick_none K hM3 (k : Int) 0))
          | (go_at_call 12; ((with_reducible refine ht2.mono ?_); rintro e W4 ⟨V4, rfl, -, hM4, -⟩)))
        generalize (tickT (condT s (o1, o2, o3)).1 (k : Int) []).1 = s2 at *
        clear hM hM0 hM3 hc2 ht2 c0 c1 c2
        obtain ⟨hu1, hu2⟩ := HU2.out
        have hu3 := up_high s2 hgr
        go_wp2_with (first
          | (go_at_call 17; ((with_reducible refine (stands_is (g := 3) (kz := 3) K hM4 hz hu1).mono ?_); rintro e W5 ⟨rfl, hM5⟩))
          | (go_at_call 18; ((with_reducible refine (high_is (g := 3) (kz := 3) K hM5 hz hu3).mono ?_); rintro e W6 ⟨rfl, hM6⟩))
          | (go_at_call 19; ((with_reducible refine (acked_is (g := 3) (kz := 3) K hM6 hz hu2).mono ?_); rintro e W7 ⟨rfl, hM7⟩)))
        go_roundw
        case rel => exact ⟨k + 1, s2, by have := HKP.out; omega, by go_num, hM7, HU2.out⟩
        case measure => have := HKP.out; simp [intOf]; omega
      · obtain rfl : k = p := by omega
        clear hV HN
        have hg5 : 1 ≤ 3 ∧ 3 ≤ 5 := by omega
        have hc3 := Mr.cond_one K hM 40 (3, 90, a2) 1
        have hU3 : Up 3 (condT s (3, 90, a2)).1 := up_cond hgr hU (3, 90, a2)
        have hon3 : ((condT s (3, 90, a2)).1.get 3).on = a2 := cond_on (g := 3) hg5 hgr hU 90 a2
        generalize (condT s (3, 90, a2)) = r3 at *
        obtain ⟨s3, E3⟩ := r3
        dsimp only at hU3 hon3
        go_upto_region 18 with (first
          | (go_at_call 10; ((with_reducible refine hc3.mono ?_); rintro e W3 ⟨V3, rfl, -, hM3, -⟩)))
        (try dsimp only at hM3)
        have ht3 := Mr.tick_one K hM3 100 47 (0, 1, 0) 1
        have hA := ack_up (g := 3) hg5 hU3 100 0
        have hEl := tick_len s3 100 [(0, 1, 0)]
        generalize tickT s3 100 [(0, 1, 0)] = r4 at *
        obtain ⟨s4, E⟩ := r4
        dsimp only at hA hEl
        have HEl := Lib.hid (show E.length ≤ 19 from hEl)
        clear hc3 hM hU hk hkp hU3 hEl
        go_wp2_with (first
          | (go_at_call 12; ((with_reducible refine ht3.mono ?_); rintro e W4 ⟨V4, rfl, hO4, hM4, -⟩; obtain ⟨A4, c4, rfl, _, _, hV4, _, _⟩ := Row.Vals.own hO4)))
        (try dsimp only at hM4)
        (try dsimp only at hV4)
        clear ht3 hM3 hO4
        have HA := Lib.hid hA
        clear hA
        go_loopw [12, 72] (fun v i wr => ∃ z : Nat, z ≤ E.length ∧ v = .int .i64 ((cntC 3 (E.take z) : Nat) : Int) ∧ i = .int .i64 (z : Nat) ∧ Mr Alm w b s4 wr ∧ Row.Vals otS wr A4 E.length E) (fun _ i _ => E.length - (intOf i).toNat)
        case atStart => exact ⟨0, by omega, rfl, rfl, hM4, hV4⟩
        case round =>
          clear hM4 hV4
          obtain ⟨z, hzl, rfl, rfl, hM, hV⟩ := hrel
          by_cases hzE : z < E.length
          · obtain ⟨x, rfl, _⟩ := hV.cells (by omega)
            obtain ⟨c0, c1, c2, c3⟩ := ot_cells hV z hzE
            have hn9 := cntC_take 3 E z hzE
            have hle := cntC_le 3 (E.take z)
            rw [List.length_take] at hle
            have hE9 := HEl.out
            have HZ := Lib.hid hzE
            have hzz : (z : Int) < (E.length : Int) := by omega
            have hwr : IntKind.i64.wrap (((cntC 3 (E.take z) : Nat) : Int) + 1) = ((cntC 3 (E.take z) : Nat) : Int) + 1 := by rw [IntKind.wrap_i64]; omega
            obtain ⟨o, ho⟩ : ∃ o, E.getD z noOt = o := ⟨_, rfl⟩
            rw [ho] at c0 c1 c2 c3 hn9
            clear ho hle hE9
            obtain ⟨o1, o2, o3, o4⟩ := o
            dsimp only at c0 c1 c2 c3 hn9
            have HR := Lib.hid (show ∀ W, Below wr.heap.size wr W → Mr Alm w b s4 W ∧ Row.Vals otS W (some x) E.length E from fun W hB => ⟨Mr.grow K hM hB, hV.below hB⟩)
            have hB9 := (Below.refl wr.heap.size wr).alloc (Nat.le_refl _) (.cells #[.int .i64 o1, .int .i64 o2, .int .i64 o3, .int .i64 o4] 53)
            clear hM hV
            by_cases h1 : o3 = (3 : Int)
            · subst h1
              by_cases h2 : o1 = 3
              · subst h2
                rw [if_pos ⟨rfl, rfl⟩] at hn9
                have HN9 := Lib.hid hn9
                clear hn9
                generalize cntC 3 (E.take z) = q at *
                go_wp2
                go_roundw
                case rel => exact ⟨z + 1, by have := HZ.out; omega, by rw [HN9.out]; go_num, by go_num, HR.out _ hB9⟩
                case measure => have := HZ.out; simp [intOf]; omega
              · rw [if_neg (fun h => h2 h.2)] at hn9
                have HN9 := Lib.hid hn9
                clear hn9 hwr
                generalize cntC 3 (E.take z) = q at *
                go_wp2
                go_roundw
                case rel => exact ⟨z + 1, by have := HZ.out; omega, by rw [HN9.out]; go_num, by go_num, HR.out _ hB9⟩
                case measure => have := HZ.out; simp [intOf]; omega
            · rw [if_neg (fun h => h1 h.1)] at hn9
              have HN9 := Lib.hid hn9
              clear hn9 hwr
              generalize cntC 3 (E.take z) = q at *
              go_wp2
              go_roundw
              case rel => exact ⟨z + 1, by have := HZ.out; omega, by rw [HN9.out]; go_num, by go_num, HR.out _ hB9⟩
              case measure => have := HZ.out; simp [intOf]; omega
          · obtain rfl : z = E.length := by omega
            rw [List.take_length] at *
            clear hV
            cases a2
            · obtain ⟨hs4, ho4, hc4⟩ := HA.out.2 hon3
              rw [hc4]
              have hend : ((condT s4 (3, 110, false)).1.get 3).stands = false := cond_end (g := 3) hg5 110 (.inr ⟨ho4, hs4⟩)
              have hst := stands_is (g := 3) (kz := 3) K hM hz hs4
              clear hon3 hgr
              go_upto_region 26 with (first
                | (go_at_call 17; ((with_reducible refine hst.mono ?_); rintro e W5 ⟨rfl, hM5⟩)))
              have hc5 := Mr.cond_one K hM5 40 (3, 110, false) 1
              generalize condT s4 (3, 110, false) = r5 at *
              obtain ⟨s5, E5⟩ := r5
              dsimp only at hend
              go_wp2_with (first
                | (go_at_call 10; ((with_reducible refine hc5.mono ?_); rintro e W6 ⟨V6, rfl, -, hM6, -⟩; have hst6 := stands_is (g := 3) (kz := 3) K hM6 hz hend))
                | (go_at_call 17; ((with_reducible refine hst6.mono ?_); rintro e W7 ⟨rfl, hM7⟩))
                | (go_at_call 9; ((with_reducible refine (hli _).mono ?_); rintro e W8 ⟨rfl, hB8⟩; have hM8 := Mr.grow K hM7 hB8)))
              go_ret
              exact ⟨rfl, hM8.below⟩
            · obtain ⟨hs4, ha4, ho4, hc4⟩ := HA.out.1 hon3
              rw [hc4]
              have hend : ((condT s4 (3, 110, false)).1.get 3).stands = false := cond_end (g := 3) hg5 110 (.inl ⟨ho4, ha4⟩)
              have hst := stands_is (g := 3) (kz := 3) K hM hz hs4
              clear hon3 hgr
              go_upto_region 26 with (first
                | (go_at_call 17; ((with_reducible refine hst.mono ?_); rintro e W5 ⟨rfl, hM5⟩)))
              have hc5 := Mr.cond_one K hM5 40 (3, 110, false) 1
              generalize condT s4 (3, 110, false) = r5 at *
              obtain ⟨s5, E5⟩ := r5
              dsimp only at hend
              go_wp2_with (first
                | (go_at_call 10; ((with_reducible refine hc5.mono ?_); rintro e W6 ⟨V6, rfl, -, hM6, -⟩; have hst6 := stands_is (g := 3) (kz := 3) K hM6 hz hend))
                | (go_at_call 17; ((with_reducible refine hst6.mono ?_); rintro e W7 ⟨rfl, hM7⟩))
                | (go_at_call 9; ((with_reducible refine (hli _).mono ?_); rintro e W8 ⟨rfl, hB8⟩; have hM8 := Mr.grow K hM7 hB8)))
              go_ret
              exact ⟨rfl, hM8.below⟩
end Go.Proofs.Ytahoiaiknchehaa.Alarm
