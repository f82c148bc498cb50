/- AlarmHeard, over whatever an alarm's calls answer. -/
import Derived.Test.YtahoiaiknchehaaAlarmLatchedK
set_option linter.unusedSimpArgs false
set_option linter.unusedVariables false
namespace Go.Proofs.Ytahoiaiknchehaa.Alarm
open Go.RowKit
theorem med_no (k : Nat) : ((k : Int) != 2 && (k : Int) != 3) = !grave k := by
  unfold grave
  rw [show ((k : Int) != 2) = !(k == 2) from congrArg not (decide_eq_decide.2 (by omega)), show ((k : Int) != 3) = !(k == 3) from congrArg not (decide_eq_decide.2 (by omega)), Bool.not_or]
set_option maxRecDepth 100000 in
set_option maxHeartbeats 4000000 in
theorem heard_k {Alm : World → Nat → St → Prop} (K : AlmKit Alm) (a0 a1 a2 a3 : Int) (w : World) (w0 : (Lit.int .u8 a0).wf = true) (w1 : (Lit.int .u16 a1).wf = true) (w2 : (Lit.int .u16 a2).wf = true) (w3 : (Lit.int .u16 a3).wf = true) :
    Calls Try.prog 6 #[.int .u8 a0, .int .u16 a1, .int .u16 a2, .int .u16 a3] w fun e w' => e = .returned (.bool true) ∧ Below w.heap.size w w' := by
  have hli := fun W => live_k K W
  have hb0 := bounds_u8 w0
  have hb1 := bounds_u16 w1
  have hb2 := bounds_u16 w2
  have hb3 := bounds_u16 w3
  obtain ⟨m, hm⟩ : ∃ m : Nat, a0.tmod 5 = (m : Int) := ⟨(a0.tmod 5).toNat, by rw [Int.tmod_eq_emod_of_nonneg hb0.1]; omega⟩
  obtain ⟨m1, hm1⟩ : ∃ m1 : Nat, a1.tmod 300 = (m1 : Int) := ⟨(a1.tmod 300).toNat, by rw [Int.tmod_eq_emod_of_nonneg hb1.1]; omega⟩
  obtain ⟨quiet, hq⟩ : ∃ quiet : Int, a3.tmod 200 = quiet := ⟨_, rfl⟩
  have hmb : m < 5 := by rw [Int.tmod_eq_emod_of_nonneg hb0.1] at hm; omega
  have hm1b : m1 < 300 := by rw [Int.tmod_eq_emod_of_nonneg hb1.1] at hm1; omega
  have hqb : 0 ≤ quiet ∧ quiet < 200 := by rw [Int.tmod_eq_emod_of_nonneg hb3.1] at hq; omega
  obtain ⟨k, hk⟩ : ∃ k : Nat, 1 + (m : Int) = (k : Int) := ⟨1 + m, by omega⟩
  obtain ⟨long, hl⟩ : ∃ long : Int, 1 + (m1 : Int) = long := ⟨_, rfl⟩
  have hk5 : 1 ≤ k ∧ k ≤ 5 := by omega
  have hlb : 1 ≤ long ∧ long ≤ 300 := by omega
  have hnew := fun W => K.new_yes W long (by omega)
  have hwr1 : IntKind.i64.wrap (k : Int) = (k : Int) := by rw [IntKind.wrap_i64]; omega
  have hwr2 : IntKind.i64.wrap long = long := by rw [IntKind.wrap_i64]; omega
  clear w0 w1 w2 w3 hmb hm1b
  go_enter Try.func6, Try.ntmps6
  go_upto_region 8 with (first
    | (go_at_call 8; ((with_reducible refine (hnew _).mono ?_); rintro e W1 ⟨b, rfl, hP, hfar, hB1⟩; have hM1 : Mr Alm w b (st0 long) W1 := ⟨hP, hB1, hfar⟩)))
  have hc1 := Mr.cond_one K hM1 40 ((k : Int), a2, true) 1
  have hH0 := hd_first hk5 long a2 quiet hlb.1 (by omega)
  have HL := Lib.hid hlb
  have HQ := Lib.hid hqb
  have HA := Lib.hid (show 0 ≤ a2 ∧ a2 ≤ 100000 by omega)
  clear hm hm1 hq hk hl hb0 hb1 hb2 hb3 hlb hqb hnew hwr1 hwr2
  have hInfo : (Try.prog.info? 47).map (fun i => (i.zero, i.size, i.bytes)) = some (some (.agg #[.int .i64 0, .int .i64 0, .int .i64 0]), 3, 24) := by kernel_rfl
  have HInfoO := Lib.hid hInfo
  clear hInfo
  go_upto_region 9 with (first
    | (go_at_call 10; ((with_reducible refine hc1.mono ?_); rintro e W2 ⟨V2, rfl, -, hM2, -⟩; clear hc1 hM1 hP hfar hB1)))
  generalize (condT (st0 long) ((k : Int), a2, true)).1 = s0 at *
  go_cut [15] (fun q wx => (∃ md : Bool, q = .bool md ∧ md = !grave k) ∧ wx = W2)
  case first =>
    by_cases hk2 : k = 2
    · have hb1 : ((k : Int) != 2) = false := by subst hk2; rfl
      have HK := Lib.hid (show false = !grave k from by subst hk2; rfl)
      clear hk2
      go_wp2
      go_meet
      case rel => exact ⟨⟨_, rfl, HK.out⟩, rfl⟩
    · have hb1 : ((k : Int) != 2) = true := by simp; omega
      have HK := Lib.hid (med_no k)
      rw [hb1] at HK
      clear hk2
      go_wp2
      go_meet
      case rel => exact ⟨⟨_, rfl, HK.out⟩, rfl⟩
  case rest =>
    obtain ⟨⟨md, rfl, hmd⟩, rfl⟩ := hcut
    cases hgr : grave k
    · rw [hgr] at hmd
      subst hmd
      rw [show (!false) = true from rfl]
      go_wp2
      go_loopw [53] (fun i wr => ∃ (n : Nat) (s : St), n ≤ 400 ∧ i = .int .i64 (n : Nat) ∧ Mr Alm w b s wr ∧ Hd k long a2 quiet n s) (fun i _ => 400 - (intOf i).toNat)
      case atStart => exact ⟨0, s0, by omega, rfl, hM2, hH0⟩
      case round =>
        clear hM2 hH0
        obtain ⟨n, s, hn, rfl, hM, hH⟩ := hrel
        by_cases hn9 : n < 400
        · have hnz : (n : Int) < 400 := by omega
          have hwr : IntKind.i64.wrap (a2 + (n : Int)) = a2 + (n : Int) := by rw [IntKind.wrap_i64]; have := HA.out; omega
          by_cases hc0 : n = 0
          · have h1 : ((n : Int) == 0) = true := by simp; omega
            by_cases hc1 : 0 < quiet
            · have hos := Lib.hid (show osH n quiet = [(0, 2, quiet)] from by unfold osH; rw [if_pos ⟨hc0, hc1⟩])
              clear hc0
              have hON := or_new wr 47 (0, 2, quiet)
              dsimp only at hON
              have hMa := Mr.alloc K hM (.cells #[.int .i64 0, .int .i64 2, .int .i64 quiet] 47)
              have hbw := K.lt hM.alm
              go_upto_region 16 with (at_builtin; refine Row.wpList_append (S := orS) rfl (.tmp 62) (.tmp 65) _ rfl wr.heap.size 47 _ 24 (by omega) Try.underlying34 HInfoO.out (by kernel_rfl) _ 0 [] rfl (Row.own_none (S := orS) _ _ _) _ 1 1 [(0, 2, quiet)] rfl hON (by omega) (by simp) ?_; intro V3 W3 hO3 hg3 hat3; have hM3 := Mr.late K hMa (Kept.of_grown hg3) (fun k hk => (by cases hk)); obtain ⟨A3, c3, rfl, _, _, hV3, hf3, _⟩ := Row.Vals.own hO3)
              have hfb : 0 < 0 + 1 → ∀ x, A3 = some x → x.block ≠ b := fun _ x hx hk => by have := (hf3 x hx).1; omega
              have ht3 := Mr.tick K hM3 (a2 + (n : Int)) A3 (0 + 1) c3 [(0, 2, quiet)] hV3 (by omega) hfb
              clear hO3 hg3 hat3 hON hMa hbw hf3 hfb
              have hhd := hd_tick hk5 HL.out.1 HA.out HQ.out hn9 hH
              rw [hos.out] at hhd
              generalize tickT s (a2 + (n : Int)) ([(0, 2, quiet)]) = r at *
              obtain ⟨s2, E⟩ := r
              dsimp only at hhd
              obtain ⟨hh1, hh2, hh3, hh4⟩ := hhd
              rw [hgr] at hh3 hh4
              simp only [Bool.not_false, Bool.true_and, Bool.false_or, Bool.not_true, Bool.false_and, Bool.true_or] at hh3 hh4
              obtain ⟨x9, hx9⟩ : ∃ x9, decide ((n : Int) = long) = x9 := ⟨_, rfl⟩
              obtain ⟨y9, hy9⟩ : ∃ y9, decide (quiet ≤ (n : Int)) = y9 := ⟨_, rfl⟩
              obtain ⟨u9, hu9⟩ : ∃ u9, decide (long ≤ (n : Int)) = u9 := ⟨_, rfl⟩
              (try rw [hx9] at hh3)
              (try rw [hu9] at hh4)
              rw [hy9] at hh2
              have HX := Lib.hid (show ((n : Int) == long) = x9 from hx9)
              have HY := Lib.hid hy9
              have HU := Lib.hid hu9
              have HS := Lib.hid hh2
              have HI := Lib.hid hh4
              clear hx9 hy9 hu9 hh2 hh4
              have HH1 := Lib.hid hh1
              have HN9 := Lib.hid hn9
              clear hh1 hH hn9
              go_wp2_with (first
                | (go_at_call 12; ((with_reducible refine ht3.mono ?_); rintro e W4 ⟨V4, rfl, hO4, hM4, -⟩; obtain ⟨A4, c4, rfl, _, _, hV4, _, _⟩ := Row.Vals.own hO4)))
              (try dsimp only at hM4)
              (try dsimp only at hV4)
              clear ht3 hO4
              have HE := Lib.hid hh3
              clear hh3
              go_loopw [18, 74] (fun v i wr => ∃ z : Nat, z ≤ E.length ∧ v = .bool (anyE k (E.take z)) ∧ i = .int .i64 (z : Nat) ∧ Mr Alm w b s2 wr ∧ Row.Vals otS wr A4 E.length E) (fun _ i _ => E.length - (intOf i).toNat)
              case atStart => exact ⟨0, by omega, rfl, rfl, hM4, hV4⟩
              case round =>
                clear hM4 hV4
                obtain ⟨z, hzl, rfl, rfl, hM, hV⟩ := hrel
                by_cases hzE : z < E.length
                · obtain ⟨x, rfl, _⟩ := hV.cells (by omega)
                  obtain ⟨c0, c1, c2, c3⟩ := ot_cells hV z hzE
                  have hn9 := anyE_take k E z hzE
                  have HZ := Lib.hid hzE
                  have hzz : (z : Int) < (E.length : Int) := by omega
                  obtain ⟨o, ho⟩ : ∃ o, E.getD z noOt = o := ⟨_, rfl⟩
                  rw [ho] at c0 c1 c2 c3 hn9
                  clear ho
                  obtain ⟨o1, o2, o3, o4⟩ := o
                  dsimp only at c0 c1 c2 c3 hn9
                  have HR := Lib.hid (show ∀ W, Below wr.heap.size wr W → Mr Alm w b s2 W ∧ Row.Vals otS W (some x) E.length E from fun W hB => ⟨Mr.grow K hM hB, hV.below hB⟩)
                  have hB9 := (Below.refl wr.heap.size wr).alloc (Nat.le_refl _) (.cells #[.int .i64 o1, .int .i64 o2, .int .i64 o3, .int .i64 o4] 53)
                  clear hM hV
                  have HN := Lib.hid hn9
                  clear hn9
                  generalize anyE k (E.take z) = v at *
                  cases v
                  · by_cases h6 : o1 = 6
                    · have hb6 : (o1 == 6) = true := by simp; exact h6
                      by_cases h3 : o3 = (k : Int)
                      · have hb3 : (o3 == (k : Int)) = true := by simp; exact h3
                        have HN2 := Lib.hid (show anyE k (E.take (z + 1)) = true by rw [HN.out, decide_eq_true h6, decide_eq_true h3]; rfl)
                        clear h6 h3
                        go_wp2
                        go_roundw
                        case rel => exact ⟨z + 1, by have := HZ.out; omega, by rw [HN2.out], by go_num, HR.out _ hB9⟩
                        case measure => have := HZ.out; simp [intOf]; omega
                      · have hb3 : (o3 == (k : Int)) = false := by simp; exact h3
                        have HN2 := Lib.hid (show anyE k (E.take (z + 1)) = false by rw [HN.out, decide_eq_false h3]; simp)
                        clear h6
                        go_wp2
                        go_roundw
                        case rel => exact ⟨z + 1, by have := HZ.out; omega, by rw [HN2.out], by go_num, HR.out _ hB9⟩
                        case measure => have := HZ.out; simp [intOf]; omega
                    · have hb6 : (o1 == 6) = false := by simp; exact h6
                      have HN2 := Lib.hid (show anyE k (E.take (z + 1)) = false by rw [HN.out, decide_eq_false h6]; simp)
                      go_wp2
                      go_roundw
                      case rel => exact ⟨z + 1, by have := HZ.out; omega, by rw [HN2.out], by go_num, HR.out _ hB9⟩
                      case measure => have := HZ.out; simp [intOf]; omega
                  · have HN2 := Lib.hid (show anyE k (E.take (z + 1)) = true by rw [HN.out]; simp)
                    go_wp2
                    go_roundw
                    case rel => exact ⟨z + 1, by have := HZ.out; omega, by rw [HN2.out], by go_num, HR.out _ hB9⟩
                    case measure => have := HZ.out; simp [intOf]; omega
                · obtain rfl : z = E.length := by omega
                  rw [List.take_length]
                  clear hV
                  rw [HE.out]
                  have hx := HX.out
                  have hy := HY.out
                  have hu := HU.out
                  have hqx : (!(x9 == x9)) = false := by simp
                  have hqy : (!(y9 == y9)) = false := by simp
                  have hqu : (!(u9 == u9)) = false := by simp
                  have hso := K.sounds_any wr b s2 hM.alm
                  rw [HS.out] at hso
                  have hhi := fun W (hW : Mr Alm w b s2 W) => high_is (g := k) (kz := (k : Int)) K hW rfl HI.out
                  go_wp2_with (first
                    | (go_at_call 20; ((with_reducible refine hso.mono ?_); rintro e W5 ⟨rfl, hB5⟩; have hM5 := Mr.grow K hM hB5))
                    | (go_at_call 18; ((with_reducible refine (hhi _ hM5).mono ?_); rintro e W6 ⟨rfl, hM6⟩)))
                  go_roundw
                  case rel => exact ⟨n + 1, s2, by have := HN9.out; omega, by go_num, hM6, HH1.out⟩
                  case measure => have := HN9.out; simp [intOf]; omega
            · have hos := Lib.hid (show osH n quiet = [] from by unfold osH; rw [if_neg (fun h => hc1 h.2)])
              clear hc0
              go_upto_region 16 with (fail)
              have ht3 := Mr.tick_none K hM (a2 + (n : Int)) 0
              have hhd := hd_tick hk5 HL.out.1 HA.out HQ.out hn9 hH
              rw [hos.out] at hhd
              generalize tickT s (a2 + (n : Int)) ([]) = r at *
              obtain ⟨s2, E⟩ := r
              dsimp only at hhd
              obtain ⟨hh1, hh2, hh3, hh4⟩ := hhd
              rw [hgr] at hh3 hh4
              simp only [Bool.not_false, Bool.true_and, Bool.false_or, Bool.not_true, Bool.false_and, Bool.true_or] at hh3 hh4
              obtain ⟨x9, hx9⟩ : ∃ x9, decide ((n : Int) = long) = x9 := ⟨_, rfl⟩
              obtain ⟨y9, hy9⟩ : ∃ y9, decide (quiet ≤ (n : Int)) = y9 := ⟨_, rfl⟩
              obtain ⟨u9, hu9⟩ : ∃ u9, decide (long ≤ (n : Int)) = u9 := ⟨_, rfl⟩
              (try rw [hx9] at hh3)
              (try rw [hu9] at hh4)
              rw [hy9] at hh2
              have HX := Lib.hid (show ((n : Int) == long) = x9 from hx9)
              have HY := Lib.hid hy9
              have HU := Lib.hid hu9
              have HS := Lib.hid hh2
              have HI := Lib.hid hh4
              clear hx9 hy9 hu9 hh2 hh4
              have HH1 := Lib.hid hh1
              have HN9 := Lib.hid hn9
              clear hh1 hH hn9
              go_wp2_with (first
                | (go_at_call 12; ((with_reducible refine ht3.mono ?_); rintro e W4 ⟨V4, rfl, hO4, hM4, -⟩; obtain ⟨A4, c4, rfl, _, _, hV4, _, _⟩ := Row.Vals.own hO4)))
              (try dsimp only at hM4)
              (try dsimp only at hV4)
              clear ht3 hO4
              have HE := Lib.hid hh3
              clear hh3
              go_loopw [18, 74] (fun v i wr => ∃ z : Nat, z ≤ E.length ∧ v = .bool (anyE k (E.take z)) ∧ i = .int .i64 (z : Nat) ∧ Mr Alm w b s2 wr ∧ Row.Vals otS wr A4 E.length E) (fun _ i _ => E.length - (intOf i).toNat)
              case atStart => exact ⟨0, by omega, rfl, rfl, hM4, hV4⟩
              case round =>
                clear hM4 hV4
                obtain ⟨z, hzl, rfl, rfl, hM, hV⟩ := hrel
                by_cases hzE : z < E.length
                · obtain ⟨x, rfl, _⟩ := hV.cells (by omega)
                  obtain ⟨c0, c1, c2, c3⟩ := ot_cells hV z hzE
                  have hn9 := anyE_take k E z hzE
                  have HZ := Lib.hid hzE
                  have hzz : (z : Int) < (E.length : Int) := by omega
                  obtain ⟨o, ho⟩ : ∃ o, E.getD z noOt = o := ⟨_, rfl⟩
                  rw [ho] at c0 c1 c2 c3 hn9
                  clear ho
                  obtain ⟨o1, o2, o3, o4⟩ := o
                  dsimp only at c0 c1 c2 c3 hn9
                  have HR := Lib.hid (show ∀ W, Below wr.heap.size wr W → Mr Alm w b s2 W ∧ Row.Vals otS W (some x) E.length E from fun W hB => ⟨Mr.grow K hM hB, hV.below hB⟩)
                  have hB9 := (Below.refl wr.heap.size wr).alloc (Nat.le_refl _) (.cells #[.int .i64 o1, .int .i64 o2, .int .i64 o3, .int .i64 o4] 53)
                  clear hM hV
                  have HN := Lib.hid hn9
                  clear hn9
                  generalize anyE k (E.take z) = v at *
                  cases v
                  · by_cases h6 : o1 = 6
                    · have hb6 : (o1 == 6) = true := by simp; exact h6
                      by_cases h3 : o3 = (k : Int)
                      · have hb3 : (o3 == (k : Int)) = true := by simp; exact h3
                        have HN2 := Lib.hid (show anyE k (E.take (z + 1)) = true by rw [HN.out, decide_eq_true h6, decide_eq_true h3]; rfl)
                        clear h6 h3
                        go_wp2
                        go_roundw
                        case rel => exact ⟨z + 1, by have := HZ.out; omega, by rw [HN2.out], by go_num, HR.out _ hB9⟩
                        case measure => have := HZ.out; simp [intOf]; omega
                      · have hb3 : (o3 == (k : Int)) = false := by simp; exact h3
                        have HN2 := Lib.hid (show anyE k (E.take (z + 1)) = false by rw [HN.out, decide_eq_false h3]; simp)
                        clear h6
                        go_wp2
                        go_roundw
                        case rel => exact ⟨z + 1, by have := HZ.out; omega, by rw [HN2.out], by go_num, HR.out _ hB9⟩
                        case measure => have := HZ.out; simp [intOf]; omega
                    · have hb6 : (o1 == 6) = false := by simp; exact h6
                      have HN2 := Lib.hid (show anyE k (E.take (z + 1)) = false by rw [HN.out, decide_eq_false h6]; simp)
                      go_wp2
                      go_roundw
                      case rel => exact ⟨z + 1, by have := HZ.out; omega, by rw [HN2.out], by go_num, HR.out _ hB9⟩
                      case measure => have := HZ.out; simp [intOf]; omega
                  · have HN2 := Lib.hid (show anyE k (E.take (z + 1)) = true by rw [HN.out]; simp)
                    go_wp2
                    go_roundw
                    case rel => exact ⟨z + 1, by have := HZ.out; omega, by rw [HN2.out], by go_num, HR.out _ hB9⟩
                    case measure => have := HZ.out; simp [intOf]; omega
                · obtain rfl : z = E.length := by omega
                  rw [List.take_length]
                  clear hV
                  rw [HE.out]
                  have hx := HX.out
                  have hy := HY.out
                  have hu := HU.out
                  have hqx : (!(x9 == x9)) = false := by simp
                  have hqy : (!(y9 == y9)) = false := by simp
                  have hqu : (!(u9 == u9)) = false := by simp
                  have hso := K.sounds_any wr b s2 hM.alm
                  rw [HS.out] at hso
                  have hhi := fun W (hW : Mr Alm w b s2 W) => high_is (g := k) (kz := (k : Int)) K hW rfl HI.out
                  go_wp2_with (first
                    | (go_at_call 20; ((with_reducible refine hso.mono ?_); rintro e W5 ⟨rfl, hB5⟩; have hM5 := Mr.grow K hM hB5))
                    | (go_at_call 18; ((with_reducible refine (hhi _ hM5).mono ?_); rintro e W6 ⟨rfl, hM6⟩)))
                  go_roundw
                  case rel => exact ⟨n + 1, s2, by have := HN9.out; omega, by go_num, hM6, HH1.out⟩
                  case measure => have := HN9.out; simp [intOf]; omega
          · have h1 : ((n : Int) == 0) = false := by simp; omega
            have hos := Lib.hid (show osH n quiet = [] from by unfold osH; rw [if_neg (fun h => hc0 h.1)])
            clear hc0
            go_upto_region 16 with (fail)
            have ht3 := Mr.tick_none K hM (a2 + (n : Int)) 0
            have hhd := hd_tick hk5 HL.out.1 HA.out HQ.out hn9 hH
            rw [hos.out] at hhd
            generalize tickT s (a2 + (n : Int)) ([]) = r at *
            obtain ⟨s2, E⟩ := r
            dsimp only at hhd
            obtain ⟨hh1, hh2, hh3, hh4⟩ := hhd
            rw [hgr] at hh3 hh4
            simp only [Bool.not_false, Bool.true_and, Bool.false_or, Bool.not_true, Bool.false_and, Bool.true_or] at hh3 hh4
            obtain ⟨x9, hx9⟩ : ∃ x9, decide ((n : Int) = long) = x9 := ⟨_, rfl⟩
            obtain ⟨y9, hy9⟩ : ∃ y9, decide (quiet ≤ (n : Int)) = y9 := ⟨_, rfl⟩
            obtain ⟨u9, hu9⟩ : ∃ u9, decide (long ≤ (n : Int)) = u9 := ⟨_, rfl⟩
            (try rw [hx9] at hh3)
            (try rw [hu9] at hh4)
            rw [hy9] at hh2
            have HX := Lib.hid (show ((n : Int) == long) = x9 from hx9)
            have HY := Lib.hid hy9
            have HU := Lib.hid hu9
            have HS := Lib.hid hh2
            have HI := Lib.hid hh4
            clear hx9 hy9 hu9 hh2 hh4
            have HH1 := Lib.hid hh1
            have HN9 := Lib.hid hn9
            clear hh1 hH hn9
            go_wp2_with (first
              | (go_at_call 12; ((with_reducible refine ht3.mono ?_); rintro e W4 ⟨V4, rfl, hO4, hM4, -⟩; obtain ⟨A4, c4, rfl, _, _, hV4, _, _⟩ := Row.Vals.own hO4)))
            (try dsimp only at hM4)
            (try dsimp only at hV4)
            clear ht3 hO4
            have HE := Lib.hid hh3
            clear hh3
            go_loopw [18, 74] (fun v i wr => ∃ z : Nat, z ≤ E.length ∧ v = .bool (anyE k (E.take z)) ∧ i = .int .i64 (z : Nat) ∧ Mr Alm w b s2 wr ∧ Row.Vals otS wr A4 E.length E) (fun _ i _ => E.length - (intOf i).toNat)
            case atStart => exact ⟨0, by omega, rfl, rfl, hM4, hV4⟩
            case round =>
              clear hM4 hV4
              obtain ⟨z, hzl, rfl, rfl, hM, hV⟩ := hrel
              by_cases hzE : z < E.length
              · obtain ⟨x, rfl, _⟩ := hV.cells (by omega)
                obtain ⟨c0, c1, c2, c3⟩ := ot_cells hV z hzE
                have hn9 := anyE_take k E z hzE
                have HZ := Lib.hid hzE
                have hzz : (z : Int) < (E.length : Int) := by omega
                obtain ⟨o, ho⟩ : ∃ o, E.getD z noOt = o := ⟨_, rfl⟩
                rw [ho] at c0 c1 c2 c3 hn9
                clear ho
                obtain ⟨o1, o2, o3, o4⟩ := o
                dsimp only at c0 c1 c2 c3 hn9
                have HR := Lib.hid (show ∀ W, Below wr.heap.size wr W → Mr Alm w b s2 W ∧ Row.Vals otS W (some x) E.length E from fun W hB => ⟨Mr.grow K hM hB, hV.below hB⟩)
                have hB9 := (Below.refl wr.heap.size wr).alloc (Nat.le_refl _) (.cells #[.int .i64 o1, .int .i64 o2, .int .i64 o3, .int .i64 o4] 53)
                clear hM hV
                have HN := Lib.hid hn9
                clear hn9
                generalize anyE k (E.take z) = v at *
                cases v
                · by_cases h6 : o1 = 6
                  · have hb6 : (o1 == 6) = true := by simp; exact h6
                    by_cases h3 : o3 = (k : Int)
                    · have hb3 : (o3 == (k : Int)) = true := by simp; exact h3
                      have HN2 := Lib.hid (show anyE k (E.take (z + 1)) = true by rw [HN.out, decide_eq_true h6, decide_eq_true h3]; rfl)
                      clear h6 h3
                      go_wp2
                      go_roundw
                      case rel => exact ⟨z + 1, by have := HZ.out; omega, by rw [HN2.out], by go_num, HR.out _ hB9⟩
                      case measure => have := HZ.out; simp [intOf]; omega
                    · have hb3 : (o3 == (k : Int)) = false := by simp; exact h3
                      have HN2 := Lib.hid (show anyE k (E.take (z + 1)) = false by rw [HN.out, decide_eq_false h3]; simp)
                      clear h6
                      go_wp2
                      go_roundw
                      case rel => exact ⟨z + 1, by have := HZ.out; omega, by rw [HN2.out], by go_num, HR.out _ hB9⟩
                      case measure => have := HZ.out; simp [intOf]; omega
                  · have hb6 : (o1 == 6) = false := by simp; exact h6
                    have HN2 := Lib.hid (show anyE k (E.take (z + 1)) = false by rw [HN.out, decide_eq_false h6]; simp)
                    go_wp2
                    go_roundw
                    case rel => exact ⟨z + 1, by have := HZ.out; omega, by rw [HN2.out], by go_num, HR.out _ hB9⟩
                    case measure => have := HZ.out; simp [intOf]; omega
                · have HN2 := Lib.hid (show anyE k (E.take (z + 1)) = true by rw [HN.out]; simp)
                  go_wp2
                  go_roundw
                  case rel => exact ⟨z + 1, by have := HZ.out; omega, by rw [HN2.out], by go_num, HR.out _ hB9⟩
                  case measure => have := HZ.out; simp [intOf]; omega
              · obtain rfl : z = E.length := by omega
                rw [List.take_length]
                clear hV
                rw [HE.out]
                have hx := HX.out
                have hy := HY.out
                have hu := HU.out
                have hqx : (!(x9 == x9)) = false := by simp
                have hqy : (!(y9 == y9)) = false := by simp
                have hqu : (!(u9 == u9)) = false := by simp
                have hso := K.sounds_any wr b s2 hM.alm
                rw [HS.out] at hso
                have hhi := fun W (hW : Mr Alm w b s2 W) => high_is (g := k) (kz := (k : Int)) K hW rfl HI.out
                go_wp2_with (first
                  | (go_at_call 20; ((with_reducible refine hso.mono ?_); rintro e W5 ⟨rfl, hB5⟩; have hM5 := Mr.grow K hM hB5))
                  | (go_at_call 18; ((with_reducible refine (hhi _ hM5).mono ?_); rintro e W6 ⟨rfl, hM6⟩)))
                go_roundw
                case rel => exact ⟨n + 1, s2, by have := HN9.out; omega, by go_num, hM6, HH1.out⟩
                case measure => have := HN9.out; simp [intOf]; omega
        · obtain rfl : n = 400 := by omega
          clear hH
          go_wp2_with (first
            | (go_at_call 9; ((with_reducible refine (hli _).mono ?_); rintro e W8 ⟨rfl, hB8⟩; have hM8 := Mr.grow K hM hB8)))
          go_ret
          exact ⟨rfl, hM8.below⟩
    · rw [hgr] at hmd
      subst hmd
      rw [show (!true) = false from rfl]
      go_wp2
      go_loopw [53] (fun i wr => ∃ (n : Nat) (s : St), n ≤ 400 ∧ i = .int .i64 (n : Nat) ∧ Mr Alm w b s wr ∧ Hd k long a2 quiet n s) (fun i _ => 400 - (intOf i).toNat)
      case atStart => exact ⟨0, s0, by omega, rfl, hM2, hH0⟩
      case round =>
        clear hM2 hH0
        obtain ⟨n, s, hn, rfl, hM, hH⟩ := hrel
        by_cases hn9 : n < 400
        · have hnz : (n : Int) < 400 := by omega
          have hwr : IntKind.i64.wrap (a2 + (n : Int)) = a2 + (n : Int) := by rw [IntKind.wrap_i64]; have := HA.out; omega
          by_cases hc0 : n = 0
          · have h1 : ((n : Int) == 0) = true := by simp; omega
            by_cases hc1 : 0 < quiet
            · have hos := Lib.hid (show osH n quiet = [(0, 2, quiet)] from by unfold osH; rw [if_pos ⟨hc0, hc1⟩])
              clear hc0
              have hON := or_new wr 47 (0, 2, quiet)
              dsimp only at hON
              have hMa := Mr.alloc K hM (.cells #[.int .i64 0, .int .i64 2, .int .i64 quiet] 47)
              have hbw := K.lt hM.alm
              go_upto_region 16 with (at_builtin; refine Row.wpList_append (S := orS) rfl (.tmp 62) (.tmp 65) _ rfl wr.heap.size 47 _ 24 (by omega) Try.underlying34 HInfoO.out (by kernel_rfl) _ 0 [] rfl (Row.own_none (S := orS) _ _ _) _ 1 1 [(0, 2, quiet)] rfl hON (by omega) (by simp) ?_; intro V3 W3 hO3 hg3 hat3; have hM3 := Mr.late K hMa (Kept.of_grown hg3) (fun k hk => (by cases hk)); obtain ⟨A3, c3, rfl, _, _, hV3, hf3, _⟩ := Row.Vals.own hO3)
              have hfb : 0 < 0 + 1 → ∀ x, A3 = some x → x.block ≠ b := fun _ x hx hk => by have := (hf3 x hx).1; omega
              have ht3 := Mr.tick K hM3 (a2 + (n : Int)) A3 (0 + 1) c3 [(0, 2, quiet)] hV3 (by omega) hfb
              clear hO3 hg3 hat3 hON hMa hbw hf3 hfb
              have hhd := hd_tick hk5 HL.out.1 HA.out HQ.out hn9 hH
              rw [hos.out] at hhd
              generalize tickT s (a2 + (n : Int)) ([(0, 2, quiet)]) = r at *
              obtain ⟨s2, E⟩ := r
              dsimp only at hhd
              obtain ⟨hh1, hh2, hh3, hh4⟩ := hhd
              rw [hgr] at hh3 hh4
              simp only [Bool.not_false, Bool.true_and, Bool.false_or, Bool.not_true, Bool.false_and, Bool.true_or] at hh3 hh4
              obtain ⟨x9, hx9⟩ : ∃ x9, decide ((n : Int) = long) = x9 := ⟨_, rfl⟩
              obtain ⟨y9, hy9⟩ : ∃ y9, decide (quiet ≤ (n : Int)) = y9 := ⟨_, rfl⟩
              obtain ⟨u9, hu9⟩ : ∃ u9, decide (long ≤ (n : Int)) = u9 := ⟨_, rfl⟩
              (try rw [hx9] at hh3)
              (try rw [hu9] at hh4)
              rw [hy9] at hh2
              have HX := Lib.hid (show ((n : Int) == long) = x9 from hx9)
              have HY := Lib.hid hy9
              have HU := Lib.hid hu9
              have HS := Lib.hid hh2
              have HI := Lib.hid hh4
              clear hx9 hy9 hu9 hh2 hh4
              have HH1 := Lib.hid hh1
              have HN9 := Lib.hid hn9
              clear hh1 hH hn9
              go_wp2_with (first
                | (go_at_call 12; ((with_reducible refine ht3.mono ?_); rintro e W4 ⟨V4, rfl, hO4, hM4, -⟩; obtain ⟨A4, c4, rfl, _, _, hV4, _, _⟩ := Row.Vals.own hO4)))
              (try dsimp only at hM4)
              (try dsimp only at hV4)
              clear ht3 hO4
              have HE := Lib.hid hh3
              clear hh3
              go_loopw [18, 74] (fun v i wr => ∃ z : Nat, z ≤ E.length ∧ v = .bool (anyE k (E.take z)) ∧ i = .int .i64 (z : Nat) ∧ Mr Alm w b s2 wr ∧ Row.Vals otS wr A4 E.length E) (fun _ i _ => E.length - (intOf i).toNat)
              case atStart => exact ⟨0, by omega, rfl, rfl, hM4, hV4⟩
              case round =>
                clear hM4 hV4
                obtain ⟨z, hzl, rfl, rfl, hM, hV⟩ := hrel
                by_cases hzE : z < E.length
                · obtain ⟨x, rfl, _⟩ := hV.cells (by omega)
                  obtain ⟨c0, c1, c2, c3⟩ := ot_cells hV z hzE
                  have hn9 := anyE_take k E z hzE
                  have HZ := Lib.hid hzE
                  have hzz : (z : Int) < (E.length : Int) := by omega
                  obtain ⟨o, ho⟩ : ∃ o, E.getD z noOt = o := ⟨_, rfl⟩
                  rw [ho] at c0 c1 c2 c3 hn9
                  clear ho
                  obtain ⟨o1, o2, o3, o4⟩ := o
                  dsimp only at c0 c1 c2 c3 hn9
                  have HR := Lib.hid (show ∀ W, Below wr.heap.size wr W → Mr Alm w b s2 W ∧ Row.Vals otS W (some x) E.length E from fun W hB => ⟨Mr.grow K hM hB, hV.below hB⟩)
                  have hB9 := (Below.refl wr.heap.size wr).alloc (Nat.le_refl _) (.cells #[.int .i64 o1, .int .i64 o2, .int .i64 o3, .int .i64 o4] 53)
                  clear hM hV
                  have HN := Lib.hid hn9
                  clear hn9
                  generalize anyE k (E.take z) = v at *
                  cases v
                  · by_cases h6 : o1 = 6
                    · have hb6 : (o1 == 6) = true := by simp; exact h6
                      by_cases h3 : o3 = (k : Int)
                      · have hb3 : (o3 == (k : Int)) = true := by simp; exact h3
                        have HN2 := Lib.hid (show anyE k (E.take (z + 1)) = true by rw [HN.out, decide_eq_true h6, decide_eq_true h3]; rfl)
                        clear h6 h3
                        go_wp2
                        go_roundw
                        case rel => exact ⟨z + 1, by have := HZ.out; omega, by rw [HN2.out], by go_num, HR.out _ hB9⟩
                        case measure => have := HZ.out; simp [intOf]; omega
                      · have hb3 : (o3 == (k : Int)) = false := by simp; exact h3
                        have HN2 := Lib.hid (show anyE k (E.take (z + 1)) = false by rw [HN.out, decide_eq_false h3]; simp)
                        clear h6
                        go_wp2
                        go_roundw
                        case rel => exact ⟨z + 1, by have := HZ.out; omega, by rw [HN2.out], by go_num, HR.out _ hB9⟩
                        case measure => have := HZ.out; simp [intOf]; omega
                    · have hb6 : (o1 == 6) = false := by simp; exact h6
                      have HN2 := Lib.hid (show anyE k (E.take (z + 1)) = false by rw [HN.out, decide_eq_false h6]; simp)
                      go_wp2
                      go_roundw
                      case rel => exact ⟨z + 1, by have := HZ.out; omega, by rw [HN2.out], by go_num, HR.out _ hB9⟩
                      case measure => have := HZ.out; simp [intOf]; omega
                  · have HN2 := Lib.hid (show anyE k (E.take (z + 1)) = true by rw [HN.out]; simp)
                    go_wp2
                    go_roundw
                    case rel => exact ⟨z + 1, by have := HZ.out; omega, by rw [HN2.out], by go_num, HR.out _ hB9⟩
                    case measure => have := HZ.out; simp [intOf]; omega
                · obtain rfl : z = E.length := by omega
                  rw [List.take_length]
                  clear hV
                  rw [HE.out]
                  have hx := HX.out
                  have hy := HY.out
                  have hu := HU.out
                  have hqx : (!(x9 == x9)) = false := by simp
                  have hqy : (!(y9 == y9)) = false := by simp
                  have hqu : (!(u9 == u9)) = false := by simp
                  have hso := K.sounds_any wr b s2 hM.alm
                  rw [HS.out] at hso
                  have hhi := fun W (hW : Mr Alm w b s2 W) => high_is (g := k) (kz := (k : Int)) K hW rfl HI.out
                  go_wp2_with (first
                    | (go_at_call 20; ((with_reducible refine hso.mono ?_); rintro e W5 ⟨rfl, hB5⟩; have hM5 := Mr.grow K hM hB5))
                    | (go_at_call 18; ((with_reducible refine (hhi _ hM5).mono ?_); rintro e W6 ⟨rfl, hM6⟩)))
                  go_roundw
                  case rel => exact ⟨n + 1, s2, by have := HN9.out; omega, by go_num, hM6, HH1.out⟩
                  case measure => have := HN9.out; simp [intOf]; omega
            · have hos := Lib.hid (show osH n quiet = [] from by unfold osH; rw [if_neg (fun h => hc1 h.2)])
              clear hc0
              go_upto_region 16 with (fail)
              have ht3 := Mr.tick_none K hM (a2 + (n : Int)) 0
              have hhd := hd_tick hk5 HL.out.1 HA.out HQ.out hn9 hH
              rw [hos.out] at hhd
              generalize tickT s (a2 + (n : Int)) ([]) = r at *
              obtain ⟨s2, E⟩ := r
              dsimp only at hhd
              obtain ⟨hh1, hh2, hh3, hh4⟩ := hhd
              rw [hgr] at hh3 hh4
              simp only [Bool.not_false, Bool.true_and, Bool.false_or, Bool.not_true, Bool.false_and, Bool.true_or] at hh3 hh4
              obtain ⟨x9, hx9⟩ : ∃ x9, decide ((n : Int) = long) = x9 := ⟨_, rfl⟩
              obtain ⟨y9, hy9⟩ : ∃ y9, decide (quiet ≤ (n : Int)) = y9 := ⟨_, rfl⟩
              obtain ⟨u9, hu9⟩ : ∃ u9, decide (long ≤ (n : Int)) = u9 := ⟨_, rfl⟩
              (try rw [hx9] at hh3)
              (try rw [hu9] at hh4)
              rw [hy9] at hh2
              have HX := Lib.hid (show ((n : Int) == long) = x9 from hx9)
              have HY := Lib.hid hy9
              have HU := Lib.hid hu9
              have HS := Lib.hid hh2
              have HI := Lib.hid hh4
              clear hx9 hy9 hu9 hh2 hh4
              have HH1 := Lib.hid hh1
              have HN9 := Lib.hid hn9
              clear hh1 hH hn9
              go_wp2_with (first
                | (go_at_call 12; ((with_reducible refine ht3.mono ?_); rintro e W4 ⟨V4, rfl, hO4, hM4, -⟩; obtain ⟨A4, c4, rfl, _, _, hV4, _, _⟩ := Row.Vals.own hO4)))
              (try dsimp only at hM4)
              (try dsimp only at hV4)
              clear ht3 hO4
              have HE := Lib.hid hh3
              clear hh3
              go_loopw [18, 74] (fun v i wr => ∃ z : Nat, z ≤ E.length ∧ v = .bool (anyE k (E.take z)) ∧ i = .int .i64 (z : Nat) ∧ Mr Alm w b s2 wr ∧ Row.Vals otS wr A4 E.length E) (fun _ i _ => E.length - (intOf i).toNat)
              case atStart => exact ⟨0, by omega, rfl, rfl, hM4, hV4⟩
              case round =>
                clear hM4 hV4
                obtain ⟨z, hzl, rfl, rfl, hM, hV⟩ := hrel
                by_cases hzE : z < E.length
                · obtain ⟨x, rfl, _⟩ := hV.cells (by omega)
                  obtain ⟨c0, c1, c2, c3⟩ := ot_cells hV z hzE
                  have hn9 := anyE_take k E z hzE
                  have HZ := Lib.hid hzE
                  have hzz : (z : Int) < (E.length : Int) := by omega
                  obtain ⟨o, ho⟩ : ∃ o, E.getD z noOt = o := ⟨_, rfl⟩
                  rw [ho] at c0 c1 c2 c3 hn9
                  clear ho
                  obtain ⟨o1, o2, o3, o4⟩ := o
                  dsimp only at c0 c1 c2 c3 hn9
                  have HR := Lib.hid (show ∀ W, Below wr.heap.size wr W → Mr Alm w b s2 W ∧ Row.Vals otS W (some x) E.length E from fun W hB => ⟨Mr.grow K hM hB, hV.below hB⟩)
                  have hB9 := (Below.refl wr.heap.size wr).alloc (Nat.le_refl _) (.cells #[.int .i64 o1, .int .i64 o2, .int .i64 o3, .int .i64 o4] 53)
                  clear hM hV
                  have HN := Lib.hid hn9
                  clear hn9
                  generalize anyE k (E.take z) = v at *
                  cases v
                  · by_cases h6 : o1 = 6
                    · have hb6 : (o1 == 6) = true := by simp; exact h6
                      by_cases h3 : o3 = (k : Int)
                      · have hb3 : (o3 == (k : Int)) = true := by simp; exact h3
                        have HN2 := Lib.hid (show anyE k (E.take (z + 1)) = true by rw [HN.out, decide_eq_true h6, decide_eq_true h3]; rfl)
                        clear h6 h3
                        go_wp2
                        go_roundw
                        case rel => exact ⟨z + 1, by have := HZ.out; omega, by rw [HN2.out], by go_num, HR.out _ hB9⟩
                        case measure => have := HZ.out; simp [intOf]; omega
                      · have hb3 : (o3 == (k : Int)) = false := by simp; exact h3
                        have HN2 := Lib.hid (show anyE k (E.take (z + 1)) = false by rw [HN.out, decide_eq_false h3]; simp)
                        clear h6
                        go_wp2
                        go_roundw
                        case rel => exact ⟨z + 1, by have := HZ.out; omega, by rw [HN2.out], by go_num, HR.out _ hB9⟩
                        case measure => have := HZ.out; simp [intOf]; omega
                    · have hb6 : (o1 == 6) = false := by simp; exact h6
                      have HN2 := Lib.hid (show anyE k (E.take (z + 1)) = false by rw [HN.out, decide_eq_false h6]; simp)
                      go_wp2
                      go_roundw
                      case rel => exact ⟨z + 1, by have := HZ.out; omega, by rw [HN2.out], by go_num, HR.out _ hB9⟩
                      case measure => have := HZ.out; simp [intOf]; omega
                  · have HN2 := Lib.hid (show anyE k (E.take (z + 1)) = true by rw [HN.out]; simp)
                    go_wp2
                    go_roundw
                    case rel => exact ⟨z + 1, by have := HZ.out; omega, by rw [HN2.out], by go_num, HR.out _ hB9⟩
                    case measure => have := HZ.out; simp [intOf]; omega
                · obtain rfl : z = E.length := by omega
                  rw [List.take_length]
                  clear hV
                  rw [HE.out]
                  have hx := HX.out
                  have hy := HY.out
                  have hu := HU.out
                  have hqx : (!(x9 == x9)) = false := by simp
                  have hqy : (!(y9 == y9)) = false := by simp
                  have hqu : (!(u9 == u9)) = false := by simp
                  have hso := K.sounds_any wr b s2 hM.alm
                  rw [HS.out] at hso
                  have hhi := fun W (hW : Mr Alm w b s2 W) => high_is (g := k) (kz := (k : Int)) K hW rfl HI.out
                  go_wp2_with (first
                    | (go_at_call 20; ((with_reducible refine hso.mono ?_); rintro e W5 ⟨rfl, hB5⟩; have hM5 := Mr.grow K hM hB5))
                    | (go_at_call 18; ((with_reducible refine (hhi _ hM5).mono ?_); rintro e W6 ⟨rfl, hM6⟩)))
                  go_roundw
                  case rel => exact ⟨n + 1, s2, by have := HN9.out; omega, by go_num, hM6, HH1.out⟩
                  case measure => have := HN9.out; simp [intOf]; omega
          · have h1 : ((n : Int) == 0) = false := by simp; omega
            have hos := Lib.hid (show osH n quiet = [] from by unfold osH; rw [if_neg (fun h => hc0 h.1)])
            clear hc0
            go_upto_region 16 with (fail)
            have ht3 := Mr.tick_none K hM (a2 + (n : Int)) 0
            have hhd := hd_tick hk5 HL.out.1 HA.out HQ.out hn9 hH
            rw [hos.out] at hhd
            generalize tickT s (a2 + (n : Int)) ([]) = r at *
            obtain ⟨s2, E⟩ := r
            dsimp only at hhd
            obtain ⟨hh1, hh2, hh3, hh4⟩ := hhd
            rw [hgr] at hh3 hh4
            simp only [Bool.not_false, Bool.true_and, Bool.false_or, Bool.not_true, Bool.false_and, Bool.true_or] at hh3 hh4
            obtain ⟨x9, hx9⟩ : ∃ x9, decide ((n : Int) = long) = x9 := ⟨_, rfl⟩
            obtain ⟨y9, hy9⟩ : ∃ y9, decide (quiet ≤ (n : Int)) = y9 := ⟨_, rfl⟩
            obtain ⟨u9, hu9⟩ : ∃ u9, decide (long ≤ (n : Int)) = u9 := ⟨_, rfl⟩
            (try rw [hx9] at hh3)
            (try rw [hu9] at hh4)
            rw [hy9] at hh2
            have HX := Lib.hid (show ((n : Int) == long) = x9 from hx9)
            have HY := Lib.hid hy9
            have HU := Lib.hid hu9
            have HS := Lib.hid hh2
            have HI := Lib.hid hh4
            clear hx9 hy9 hu9 hh2 hh4
            have HH1 := Lib.hid hh1
            have HN9 := Lib.hid hn9
            clear hh1 hH hn9
            go_wp2_with (first
              | (go_at_call 12; ((with_reducible refine ht3.mono ?_); rintro e W4 ⟨V4, rfl, hO4, hM4, -⟩; obtain ⟨A4, c4, rfl, _, _, hV4, _, _⟩ := Row.Vals.own hO4)))
            (try dsimp only at hM4)
            (try dsimp only at hV4)
            clear ht3 hO4
            have HE := Lib.hid hh3
            clear hh3
            go_loopw [18, 74] (fun v i wr => ∃ z : Nat, z ≤ E.length ∧ v = .bool (anyE k (E.take z)) ∧ i = .int .i64 (z : Nat) ∧ Mr Alm w b s2 wr ∧ Row.Vals otS wr A4 E.length E) (fun _ i _ => E.length - (intOf i).toNat)
            case atStart => exact ⟨0, by omega, rfl, rfl, hM4, hV4⟩
            case round =>
              clear hM4 hV4
              obtain ⟨z, hzl, rfl, rfl, hM, hV⟩ := hrel
              by_cases hzE : z < E.length
              · obtain ⟨x, rfl, _⟩ := hV.cells (by omega)
                obtain ⟨c0, c1, c2, c3⟩ := ot_cells hV z hzE
                have hn9 := anyE_take k E z hzE
                have HZ := Lib.hid hzE
                have hzz : (z : Int) < (E.length : Int) := by omega
                obtain ⟨o, ho⟩ : ∃ o, E.getD z noOt = o := ⟨_, rfl⟩
                rw [ho] at c0 c1 c2 c3 hn9
                clear ho
                obtain ⟨o1, o2, o3, o4⟩ := o
                dsimp only at c0 c1 c2 c3 hn9
                have HR := Lib.hid (show ∀ W, Below wr.heap.size wr W → Mr Alm w b s2 W ∧ Row.Vals otS W (some x) E.length E from fun W hB => ⟨Mr.grow K hM hB, hV.below hB⟩)
                have hB9 := (Below.refl wr.heap.size wr).alloc (Nat.le_refl _) (.cells #[.int .i64 o1, .int .i64 o2, .int .i64 o3, .int .i64 o4] 53)
                clear hM hV
                have HN := Lib.hid hn9
                clear hn9
                generalize anyE k (E.take z) = v at *
                cases v
                · by_cases h6 : o1 = 6
                  · have hb6 : (o1 == 6) = true := by simp; exact h6
                    by_cases h3 : o3 = (k : Int)
                    · have hb3 : (o3 == (k : Int)) = true := by simp; exact h3
                      have HN2 := Lib.hid (show anyE k (E.take (z + 1)) = true by rw [HN.out, decide_eq_true h6, decide_eq_true h3]; rfl)
                      clear h6 h3
                      go_wp2
                      go_roundw
                      case rel => exact ⟨z + 1, by have := HZ.out; omega, by rw [HN2.out], by go_num, HR.out _ hB9⟩
                      case measure => have := HZ.out; simp [intOf]; omega
                    · have hb3 : (o3 == (k : Int)) = false := by simp; exact h3
                      have HN2 := Lib.hid (show anyE k (E.take (z + 1)) = false by rw [HN.out, decide_eq_false h3]; simp)
                      clear h6
                      go_wp2
                      go_roundw
                      case rel => exact ⟨z + 1, by have := HZ.out; omega, by rw [HN2.out], by go_num, HR.out _ hB9⟩
                      case measure => have := HZ.out; simp [intOf]; omega
                  · have hb6 : (o1 == 6) = false := by simp; exact h6
                    have HN2 := Lib.hid (show anyE k (E.take (z + 1)) = false by rw [HN.out, decide_eq_false h6]; simp)
                    go_wp2
                    go_roundw
                    case rel => exact ⟨z + 1, by have := HZ.out; omega, by rw [HN2.out], by go_num, HR.out _ hB9⟩
                    case measure => have := HZ.out; simp [intOf]; omega
                · have HN2 := Lib.hid (show anyE k (E.take (z + 1)) = true by rw [HN.out]; simp)
                  go_wp2
                  go_roundw
                  case rel => exact ⟨z + 1, by have := HZ.out; omega, by rw [HN2.out], by go_num, HR.out _ hB9⟩
                  case measure => have := HZ.out; simp [intOf]; omega
              · obtain rfl : z = E.length := by omega
                rw [List.take_length]
                clear hV
                rw [HE.out]
                have hx := HX.out
                have hy := HY.out
                have hu := HU.out
                have hqx : (!(x9 == x9)) = false := by simp
                have hqy : (!(y9 == y9)) = false := by simp
                have hqu : (!(u9 == u9)) = false := by simp
                have hso := K.sounds_any wr b s2 hM.alm
                rw [HS.out] at hso
                have hhi := fun W (hW : Mr Alm w b s2 W) => high_is (g := k) (kz := (k : Int)) K hW rfl HI.out
                go_wp2_with (first
                  | (go_at_call 20; ((with_reducible refine hso.mono ?_); rintro e W5 ⟨rfl, hB5⟩; have hM5 := Mr.grow K hM hB5))
                  | (go_at_call 18; ((with_reducible refine (hhi _ hM5).mono ?_); rintro e W6 ⟨rfl, hM6⟩)))
                go_roundw
                case rel => exact ⟨n + 1, s2, by have := HN9.out; omega, by go_num, hM6, HH1.out⟩
                case measure => have := HN9.out; simp [intOf]; omega
        · obtain rfl : n = 400 := by omega
          clear hH
          go_wp2_with (first
            | (go_at_call 9; ((with_reducible refine (hli _).mono ?_); rintro e W8 ⟨rfl, hB8⟩; have hM8 := Mr.grow K hM hB8)))
          go_ret
          exact ⟨rfl, hM8.below⟩
end Go.Proofs.Ytahoiaiknchehaa.Alarm
